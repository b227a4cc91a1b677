
import Derived.Test.YthkfjoonkkmgiaaYj
namespace Go.Proofs.Ythkfjoonkkmgiaa
open Go.RowKit BitX Go.MemX Go.Ch6 Go.Ch9 Go.ChV
set_option linter.unusedVariables false


set_option maxRecDepth 20000 in
set_option maxHeartbeats 8000000 in
theorem steps_A2a (u1 u2 : Option Addr) (n1 c1 n2 c2 : Nat) (w0 w : World) (hB : Below w0.heap.size w0 w) (hby : By w.heap.size w u2 n2) (hl2 : n2 ≤ 1048576) (KK : Act → World → Prop) (HK : Hid (∀ a w, Code.wp Try.prog (cRest 13 (bodyOf Try.f3)) (qS w0) a w → KK a w)) (s : List Int) (f : Int) (n : Nat) (hn : n ≤ 64) (Hn : Hid (n = s.length)) (HG : Hid (SigP s)) (f1 : 1 ≤ f) (f2 : f ≤ 4096) (a_s a_b a_x : Option Addr) (c_s c_b c_x : Nat) (one : Bool) (v_g : Value) (mo : Int) (Hmo : Hid (mo = pkM (gpL9 s f))) (Rd_s : Hid (Rd w a_s s)) (Rd_b : Hid (Rd w a_b (tab s.length (skB adI (cdB s) f)))) (HSb : Hid (Sl w (.slice a_b n c_b) (tab s.length (skB adI (cdB s) f)))) (Rd_x : Hid (Rd w a_x (tab s.length (skB fxI (cdB s) f)))) (HSx : Hid (Sl w (.slice a_x n c_x) (tab s.length (skB fxI (cdB s) f)))) (HGp : Hid (one = true → Sl w v_g (gpL9 s f))) (x2 x3 x4 x8 x9 x10 x13 x14 x16 x17 x18 x20 x21 x22 x23 x24 x25 x26 x27 x28 x29 x30 x31 x32 x33 x34 x35 x36 x37 x38 x39 x40 x41 x42 x43 x44 x45 x46 x47 x48 x49 x50 x51 x52 x53 x54 x55 x56 x57 x58 x59 x60 x61 x62 x63 x64 x65 x66 x67 x68 x69 x70 x71 x72 x73 x74 x75 x76 x77 x78 x79 x80 x81 x82 x83 x84 x85 x86 x87 x88 x89 x90 x91 x92 x93 x94 x95 x96 x97 x98 x99 x100 x101 x102 x103 x104 x105 x106 x107 x108 x109 x110 x111 x112 x113 x114 x115 x116 x117 x118 x119 x120 x121 x122 x123 x124 x125 x126 x127 x128 x129 x130 x131 x132 x133 x134 x135 x136 x137 x138 x139 x140 x141 x142 x143 x144 x145 x146 x147 x148 x149 x150 x151 x152 x153 x154 x155 x156 x157 x158 x159 x160 x161 x162 x163 x164 x165 x166 x167 x168 x169 x170 x171 x172 x173 x174 x175 x176 x177 x178 x179 x180 x181 x182 x183 x184 x185 x186 x187 x188 x189 x190 x191 x192 x193 x194 x195 x196 x197 x198 x199 x200 x201 x202 x203 x204 x205 x206 x207 x208 x209 x210 x211 x212 x213 x214 x215 x216 x217 x218 x219 x220 x221 x222 x223 x224 x225 x226 x227 x228 x229 x230 x231 x232 x233 x234 x235 x236 x237 x238 x239 x240 x241 x242 x243 x244 x245 x246 x247 x248 x249 x250 x251 x252 x253 x254 x255 x256 x257 x258 x259 x260 x261 x262 x263 x264 x265 x266 x267 x268 x269 x270 x271 x272 x273 x274 x275 x276 x277 x278 x279 x280 x281 x282 x283 x284 x285 x286 x287 x288 x289 x290 x291 x292 x293 x294 x295 x296 x297 x298 x299 x300 x301 x302 x303 x304 x305 x306 x307 x308 x309 x310 x311 x312 x313 x314 x315 x316 x317 x318 x319 x320 x321 x322 x323 x324 x325 x326 x327 x328 x329 x330 x331 x332 x333 x334 x335 x336 x337 x338 x339 x340 x341 x342 x343 x344 x345 x346 x347 x348 x349 x350 x351 x352 x353 x354 x355 x356 x357 x358 x359 x360 x361 x362 x363 x364 x365 x366 x367 x368 x369 x370 x371 x372 x373 x374 x375 x376 x377 x378 x379 x380 x381 x382 x383 x384 x385 x386 x387 x388 x389 x390 x391 x392 x393 x394 x395 x396 x397 x398 x399 x400 x401 x402 x403 x404 x405 x406 x407 x408 x409 x410 x411 x412 x413 x414 x415 x416 x417 x418 x419 x420 x421 x422 x423 x424 x425 x426 x427 x428 x429 x430 x431 x432 x433 x434 x435 x436 x437 x438 x439 x440 x441 x442 x443 x444 x445 x446 x447 x448 x449 x450 x451 : Value) :
    Code.wp Try.prog (cThen (cHead 12 (bodyOf Try.f3))) (Exit.then KK (qS w0)) { tmps := List.toArray ((.slice u1 n1 c1) :: (.slice u2 n2 c2) :: x2 :: x3 :: x4 :: (.slice a_s n c_s) :: (.int .i64 f) :: (.slice a_b n c_b) :: x8 :: x9 :: x10 :: (v_g) :: (.bool one) :: x13 :: x14 :: (.int .i64 mo) :: x16 :: x17 :: x18 :: (.slice a_x n c_x) :: x20 :: x21 :: x22 :: x23 :: x24 :: x25 :: x26 :: x27 :: x28 :: x29 :: x30 :: x31 :: x32 :: x33 :: x34 :: x35 :: x36 :: x37 :: x38 :: x39 :: x40 :: x41 :: x42 :: x43 :: x44 :: x45 :: x46 :: x47 :: x48 :: x49 :: x50 :: x51 :: x52 :: x53 :: x54 :: x55 :: x56 :: x57 :: x58 :: x59 :: x60 :: x61 :: x62 :: x63 :: x64 :: x65 :: x66 :: x67 :: x68 :: x69 :: x70 :: x71 :: x72 :: x73 :: x74 :: x75 :: x76 :: x77 :: x78 :: x79 :: x80 :: x81 :: x82 :: x83 :: x84 :: x85 :: x86 :: x87 :: x88 :: x89 :: x90 :: x91 :: x92 :: x93 :: x94 :: x95 :: x96 :: x97 :: x98 :: x99 :: x100 :: x101 :: x102 :: x103 :: x104 :: x105 :: x106 :: x107 :: x108 :: x109 :: x110 :: x111 :: x112 :: x113 :: x114 :: x115 :: x116 :: x117 :: x118 :: x119 :: x120 :: x121 :: x122 :: x123 :: x124 :: x125 :: x126 :: x127 :: x128 :: x129 :: x130 :: x131 :: x132 :: x133 :: x134 :: x135 :: x136 :: x137 :: x138 :: x139 :: x140 :: x141 :: x142 :: x143 :: x144 :: x145 :: x146 :: x147 :: x148 :: x149 :: x150 :: x151 :: x152 :: x153 :: x154 :: x155 :: x156 :: x157 :: x158 :: x159 :: x160 :: x161 :: x162 :: x163 :: x164 :: x165 :: x166 :: x167 :: x168 :: x169 :: x170 :: x171 :: x172 :: x173 :: x174 :: x175 :: x176 :: x177 :: x178 :: x179 :: x180 :: x181 :: x182 :: x183 :: x184 :: x185 :: x186 :: x187 :: x188 :: x189 :: x190 :: x191 :: x192 :: x193 :: x194 :: x195 :: x196 :: x197 :: x198 :: x199 :: x200 :: x201 :: x202 :: x203 :: x204 :: x205 :: x206 :: x207 :: x208 :: x209 :: x210 :: x211 :: x212 :: x213 :: x214 :: x215 :: x216 :: x217 :: x218 :: x219 :: x220 :: x221 :: x222 :: x223 :: x224 :: x225 :: x226 :: x227 :: x228 :: x229 :: x230 :: x231 :: x232 :: x233 :: x234 :: x235 :: x236 :: x237 :: x238 :: x239 :: x240 :: x241 :: x242 :: x243 :: x244 :: x245 :: x246 :: x247 :: x248 :: x249 :: x250 :: x251 :: x252 :: x253 :: x254 :: x255 :: x256 :: x257 :: x258 :: x259 :: x260 :: x261 :: x262 :: x263 :: x264 :: x265 :: x266 :: x267 :: x268 :: x269 :: x270 :: x271 :: x272 :: x273 :: x274 :: x275 :: x276 :: x277 :: x278 :: x279 :: x280 :: x281 :: x282 :: x283 :: x284 :: x285 :: x286 :: x287 :: x288 :: x289 :: x290 :: x291 :: x292 :: x293 :: x294 :: x295 :: x296 :: x297 :: x298 :: x299 :: x300 :: x301 :: x302 :: x303 :: x304 :: x305 :: x306 :: x307 :: x308 :: x309 :: x310 :: x311 :: x312 :: x313 :: x314 :: x315 :: x316 :: x317 :: x318 :: x319 :: x320 :: x321 :: x322 :: x323 :: x324 :: x325 :: x326 :: x327 :: x328 :: x329 :: x330 :: x331 :: x332 :: x333 :: x334 :: x335 :: x336 :: x337 :: x338 :: x339 :: x340 :: x341 :: x342 :: x343 :: x344 :: x345 :: x346 :: x347 :: x348 :: x349 :: x350 :: x351 :: x352 :: x353 :: x354 :: x355 :: x356 :: x357 :: x358 :: x359 :: x360 :: x361 :: x362 :: x363 :: x364 :: x365 :: x366 :: x367 :: x368 :: x369 :: x370 :: x371 :: x372 :: x373 :: x374 :: x375 :: x376 :: x377 :: x378 :: x379 :: x380 :: x381 :: x382 :: x383 :: x384 :: x385 :: x386 :: x387 :: x388 :: x389 :: x390 :: x391 :: x392 :: x393 :: x394 :: x395 :: x396 :: x397 :: x398 :: x399 :: x400 :: x401 :: x402 :: x403 :: x404 :: x405 :: x406 :: x407 :: x408 :: x409 :: x410 :: x411 :: x412 :: x413 :: x414 :: x415 :: x416 :: x417 :: x418 :: x419 :: x420 :: x421 :: x422 :: x423 :: x424 :: x425 :: x426 :: x427 :: x428 :: x429 :: x430 :: x431 :: x432 :: x433 :: x434 :: x435 :: x436 :: x437 :: x438 :: x439 :: x440 :: x441 :: x442 :: x443 :: x444 :: x445 :: x446 :: x447 :: x448 :: x449 :: x450 :: x451 :: []), defers := [] } w := by
  rw [show (cThen (cHead 12 (bodyOf Try.f3))) = .seq (cHead 0 (cThen (cHead 12 (bodyOf Try.f3)))) (.seq (cHead 1 (cThen (cHead 12 (bodyOf Try.f3)))) (cRest 2 (cThen (cHead 12 (bodyOf Try.f3))))) from by kernel_rfl]
  generalize hR : cRest 2 (cThen (cHead 12 (bodyOf Try.f3))) = R
  have HR := hid hR
  clear hR
  simp only [bodyOf, Try.f3, Option.getD_some, cHead, cThen]
  have HB := hid hB
  have HBY := hid hby
  clear hB hby
  obtain ⟨V, hV⟩ : ∃ V, V = vaL adI (tab s.length (skB adI (cdB s) f)) f := ⟨_, rfl⟩
  obtain ⟨sv, hsv⟩ : ∃ q, q = dL (dG (tab s.length (skB adI (cdB s) f)) f) V := ⟨_, rfl⟩
  have KV := fun (W : World) (v : Value) (h : Sl W v (tab s.length (skB adI (cdB s) f))) => impl_StepValues_any v (tab s.length (skB adI (cdB s) f)) f W h
  rw [show (tab (tab s.length (skB adI (cdB s) f)).length fun k => skV adI (tlB (tab s.length (skB adI (cdB s) f))) f (k + 1)) = V from hV.symm, ← hsv] at KV
  have KV := hid KV
  have HV := hid hV
  clear hV hsv
  go_wp2_with fail
  refine (KV.out _ _ HSb.out).mono ?_
  rintro e w1 ⟨v_v, rfl, r_v, hb⟩
  have HB := hid (bel_step HB.out hb)
  have HBY := hid (By.later HBY.out hb)
  have Rd_s := hid (Rd_s.out.kept hb)
  have Rd_b := hid (Rd_b.out.kept hb)
  have Rd_x := hid (Rd_x.out.kept hb)
  have HSx := hid (HSx.out.kept hb)
  have HGp := hid (fun h => (HGp.out h).kept hb)
  have HVv := hid (show sv = true → Sl w1 v_v (vaL adI (tab s.length (skB adI (cdB s) f)) f) from fun h => by subst h; rw [← HV.out]; exact r_v.sl)
  clear hb r_v KV
  go_wp2_with fail
  rw [← HR.out]
  exact steps_A2b u1 u2 n1 c1 n2 c2 w0 w1 HB.out HBY.out hl2 KK HK s f n hn Hn HG f1 f2 a_s a_b a_x c_s c_b c_x one sv v_g v_v mo Hmo Rd_s Rd_b Rd_x HSx HGp HVv _ _ _ _ _ _ _ _ _ _ _ _ _ _ _ _ _ _ _ _ _ _ _ _ _ _ _ _ _ _ _ _ _ _ _ _ _ _ _ _ _ _ _ _ _ _ _ _ _ _ _ _ _ _ _ _ _ _ _ _ _ _ _ _ _ _ _ _ _ _ _ _ _ _ _ _ _ _ _ _ _ _ _ _ _ _ _ _ _ _ _ _ _ _ _ _ _ _ _ _ _ _ _ _ _ _ _ _ _ _ _ _ _ _ _ _ _ _ _ _ _ _ _ _ _ _ _ _ _ _ _ _ _ _ _ _ _ _ _ _ _ _ _ _ _ _ _ _ _ _ _ _ _ _ _ _ _ _ _ _ _ _ _ _ _ _ _ _ _ _ _ _ _ _ _ _ _ _ _ _ _ _ _ _ _ _ _ _ _ _ _ _ _ _ _ _ _ _ _ _ _ _ _ _ _ _ _ _ _ _ _ _ _ _ _ _ _ _ _ _ _ _ _ _ _ _ _ _ _ _ _ _ _ _ _ _ _ _ _ _ _ _ _ _ _ _ _ _ _ _ _ _ _ _ _ _ _ _ _ _ _ _ _ _ _ _ _ _ _ _ _ _ _ _ _ _ _ _ _ _ _ _ _ _ _ _ _ _ _ _ _ _ _ _ _ _ _ _ _ _ _ _ _ _ _ _ _ _ _ _ _ _ _ _ _ _ _ _ _ _ _ _ _ _ _ _ _ _ _ _ _ _ _ _ _ _ _ _ _ _ _ _ _ _ _ _ _ _ _ _ _ _ _ _ _ _ _ _ _ _ _ _ _ _ _ _ _ _ _ _ _ _ _ _ _ _ _ _ _ _ _ _ _ _ _ _ _ _ _ _ _ _ _ _ _ _ _ _ _ _ _ _ _ _ _ _ _ _ _ _ _ _ _ _ _ _ _ _ _ _ _ _ _ _ _ _ _ _ _ _ _ _ _ _ _ _ _ _ _ _ _


set_option maxRecDepth 20000 in
set_option maxHeartbeats 8000000 in
theorem steps_A12 (u1 u2 : Option Addr) (n1 c1 n2 c2 : Nat) (w0 w : World) (hB : Below w0.heap.size w0 w) (hby : By w.heap.size w u2 n2) (hl2 : n2 ≤ 1048576) (s : List Int) (f : Int) (n : Nat) (Hn : Hid (n = s.length)) (a_s : Option Addr) (c_s : Nat) (q one : Bool) (v_b v_g v_x : Value) (mo : Int) (Rd_s : Hid (Rd w a_s s)) (HQ : Hid (q = true → SigP s ∧ 1 ≤ f ∧ f ≤ 4096 ∧ Sl w v_b (tab s.length (skB adI (cdB s) f)) ∧ Sl w v_x (tab s.length (skB fxI (cdB s) f)) ∧ mo = pkM (gpL9 s f) ∧ (one = true → Sl w v_g (gpL9 s f)))) (x2 x3 x4 x9 x10 x13 x14 x16 x17 x18 x20 x21 x22 x23 x24 x25 x26 x27 x28 x29 x30 x31 x32 x33 x34 x35 x36 x37 x38 x39 x40 x41 x42 x43 x44 x45 x46 x47 x48 x49 x50 x51 x52 x53 x54 x55 x56 x57 x58 x59 x60 x61 x62 x63 x64 x65 x66 x67 x68 x69 x70 x71 x72 x73 x74 x75 x76 x77 x78 x79 x80 x81 x82 x83 x84 x85 x86 x87 x88 x89 x90 x91 x92 x93 x94 x95 x96 x97 x98 x99 x100 x101 x102 x103 x104 x105 x106 x107 x108 x109 x110 x111 x112 x113 x114 x115 x116 x117 x118 x119 x120 x121 x122 x123 x124 x125 x126 x127 x128 x129 x130 x131 x132 x133 x134 x135 x136 x137 x138 x139 x140 x141 x142 x143 x144 x145 x146 x147 x148 x149 x150 x151 x152 x153 x154 x155 x156 x157 x158 x159 x160 x161 x162 x163 x164 x165 x166 x167 x168 x169 x170 x171 x172 x173 x174 x175 x176 x177 x178 x179 x180 x181 x182 x183 x184 x185 x186 x187 x188 x189 x190 x191 x192 x193 x194 x195 x196 x197 x198 x199 x200 x201 x202 x203 x204 x205 x206 x207 x208 x209 x210 x211 x212 x213 x214 x215 x216 x217 x218 x219 x220 x221 x222 x223 x224 x225 x226 x227 x228 x229 x230 x231 x232 x233 x234 x235 x236 x237 x238 x239 x240 x241 x242 x243 x244 x245 x246 x247 x248 x249 x250 x251 x252 x253 x254 x255 x256 x257 x258 x259 x260 x261 x262 x263 x264 x265 x266 x267 x268 x269 x270 x271 x272 x273 x274 x275 x276 x277 x278 x279 x280 x281 x282 x283 x284 x285 x286 x287 x288 x289 x290 x291 x292 x293 x294 x295 x296 x297 x298 x299 x300 x301 x302 x303 x304 x305 x306 x307 x308 x309 x310 x311 x312 x313 x314 x315 x316 x317 x318 x319 x320 x321 x322 x323 x324 x325 x326 x327 x328 x329 x330 x331 x332 x333 x334 x335 x336 x337 x338 x339 x340 x341 x342 x343 x344 x345 x346 x347 x348 x349 x350 x351 x352 x353 x354 x355 x356 x357 x358 x359 x360 x361 x362 x363 x364 x365 x366 x367 x368 x369 x370 x371 x372 x373 x374 x375 x376 x377 x378 x379 x380 x381 x382 x383 x384 x385 x386 x387 x388 x389 x390 x391 x392 x393 x394 x395 x396 x397 x398 x399 x400 x401 x402 x403 x404 x405 x406 x407 x408 x409 x410 x411 x412 x413 x414 x415 x416 x417 x418 x419 x420 x421 x422 x423 x424 x425 x426 x427 x428 x429 x430 x431 x432 x433 x434 x435 x436 x437 x438 x439 x440 x441 x442 x443 x444 x445 x446 x447 x448 x449 x450 x451 : Value) :
    Code.wp Try.prog (cRest 12 (bodyOf Try.f3)) (qS w0) { tmps := List.toArray ((.slice u1 n1 c1) :: (.slice u2 n2 c2) :: x2 :: x3 :: x4 :: (.slice a_s n c_s) :: (.int .i64 f) :: (v_b) :: (.bool q) :: x9 :: x10 :: (v_g) :: (.bool one) :: x13 :: x14 :: (.int .i64 mo) :: x16 :: x17 :: x18 :: (v_x) :: x20 :: x21 :: x22 :: x23 :: x24 :: x25 :: x26 :: x27 :: x28 :: x29 :: x30 :: x31 :: x32 :: x33 :: x34 :: x35 :: x36 :: x37 :: x38 :: x39 :: x40 :: x41 :: x42 :: x43 :: x44 :: x45 :: x46 :: x47 :: x48 :: x49 :: x50 :: x51 :: x52 :: x53 :: x54 :: x55 :: x56 :: x57 :: x58 :: x59 :: x60 :: x61 :: x62 :: x63 :: x64 :: x65 :: x66 :: x67 :: x68 :: x69 :: x70 :: x71 :: x72 :: x73 :: x74 :: x75 :: x76 :: x77 :: x78 :: x79 :: x80 :: x81 :: x82 :: x83 :: x84 :: x85 :: x86 :: x87 :: x88 :: x89 :: x90 :: x91 :: x92 :: x93 :: x94 :: x95 :: x96 :: x97 :: x98 :: x99 :: x100 :: x101 :: x102 :: x103 :: x104 :: x105 :: x106 :: x107 :: x108 :: x109 :: x110 :: x111 :: x112 :: x113 :: x114 :: x115 :: x116 :: x117 :: x118 :: x119 :: x120 :: x121 :: x122 :: x123 :: x124 :: x125 :: x126 :: x127 :: x128 :: x129 :: x130 :: x131 :: x132 :: x133 :: x134 :: x135 :: x136 :: x137 :: x138 :: x139 :: x140 :: x141 :: x142 :: x143 :: x144 :: x145 :: x146 :: x147 :: x148 :: x149 :: x150 :: x151 :: x152 :: x153 :: x154 :: x155 :: x156 :: x157 :: x158 :: x159 :: x160 :: x161 :: x162 :: x163 :: x164 :: x165 :: x166 :: x167 :: x168 :: x169 :: x170 :: x171 :: x172 :: x173 :: x174 :: x175 :: x176 :: x177 :: x178 :: x179 :: x180 :: x181 :: x182 :: x183 :: x184 :: x185 :: x186 :: x187 :: x188 :: x189 :: x190 :: x191 :: x192 :: x193 :: x194 :: x195 :: x196 :: x197 :: x198 :: x199 :: x200 :: x201 :: x202 :: x203 :: x204 :: x205 :: x206 :: x207 :: x208 :: x209 :: x210 :: x211 :: x212 :: x213 :: x214 :: x215 :: x216 :: x217 :: x218 :: x219 :: x220 :: x221 :: x222 :: x223 :: x224 :: x225 :: x226 :: x227 :: x228 :: x229 :: x230 :: x231 :: x232 :: x233 :: x234 :: x235 :: x236 :: x237 :: x238 :: x239 :: x240 :: x241 :: x242 :: x243 :: x244 :: x245 :: x246 :: x247 :: x248 :: x249 :: x250 :: x251 :: x252 :: x253 :: x254 :: x255 :: x256 :: x257 :: x258 :: x259 :: x260 :: x261 :: x262 :: x263 :: x264 :: x265 :: x266 :: x267 :: x268 :: x269 :: x270 :: x271 :: x272 :: x273 :: x274 :: x275 :: x276 :: x277 :: x278 :: x279 :: x280 :: x281 :: x282 :: x283 :: x284 :: x285 :: x286 :: x287 :: x288 :: x289 :: x290 :: x291 :: x292 :: x293 :: x294 :: x295 :: x296 :: x297 :: x298 :: x299 :: x300 :: x301 :: x302 :: x303 :: x304 :: x305 :: x306 :: x307 :: x308 :: x309 :: x310 :: x311 :: x312 :: x313 :: x314 :: x315 :: x316 :: x317 :: x318 :: x319 :: x320 :: x321 :: x322 :: x323 :: x324 :: x325 :: x326 :: x327 :: x328 :: x329 :: x330 :: x331 :: x332 :: x333 :: x334 :: x335 :: x336 :: x337 :: x338 :: x339 :: x340 :: x341 :: x342 :: x343 :: x344 :: x345 :: x346 :: x347 :: x348 :: x349 :: x350 :: x351 :: x352 :: x353 :: x354 :: x355 :: x356 :: x357 :: x358 :: x359 :: x360 :: x361 :: x362 :: x363 :: x364 :: x365 :: x366 :: x367 :: x368 :: x369 :: x370 :: x371 :: x372 :: x373 :: x374 :: x375 :: x376 :: x377 :: x378 :: x379 :: x380 :: x381 :: x382 :: x383 :: x384 :: x385 :: x386 :: x387 :: x388 :: x389 :: x390 :: x391 :: x392 :: x393 :: x394 :: x395 :: x396 :: x397 :: x398 :: x399 :: x400 :: x401 :: x402 :: x403 :: x404 :: x405 :: x406 :: x407 :: x408 :: x409 :: x410 :: x411 :: x412 :: x413 :: x414 :: x415 :: x416 :: x417 :: x418 :: x419 :: x420 :: x421 :: x422 :: x423 :: x424 :: x425 :: x426 :: x427 :: x428 :: x429 :: x430 :: x431 :: x432 :: x433 :: x434 :: x435 :: x436 :: x437 :: x438 :: x439 :: x440 :: x441 :: x442 :: x443 :: x444 :: x445 :: x446 :: x447 :: x448 :: x449 :: x450 :: x451 :: []), defers := [] } w := by
  rw [show cRest 12 (bodyOf Try.f3) = .seq (cHead 12 (bodyOf Try.f3)) (cRest 13 (bodyOf Try.f3)) from by kernel_rfl]
  refine wp_seq_k ?_
  intro KK hK
  have HK := hid hK
  clear hK
  rw [show cHead 12 (bodyOf Try.f3) = .seq (cHead 0 (cHead 12 (bodyOf Try.f3))) (.cond (Operand.tmp 168) (cThen (cHead 12 (bodyOf Try.f3))) .skip) from by kernel_rfl]
  generalize hT : (cThen (cHead 12 (bodyOf Try.f3))) = TV
  have HT := hid hT
  clear hT
  simp only [bodyOf, Try.f3, Option.getD_some, cHead]
  have HB := hid hB
  have HBY := hid hby
  clear hB hby
  cases q
  · go_wp2_with fail
    exact HK.out _ _ (steps_B1 u1 u2 n1 c1 n2 c2 w0 w HB.out HBY.out hl2 _ _ _ _ _ _ _ _ _ _ _ _ _ _ _ _ _ _ _ _ _ _ _ _ _ _ _ _ _ _ _ _ _ _ _ _ _ _ _ _ _ _ _ _ _ _ _ _ _ _ _ _ _ _ _ _ _ _ _ _ _ _ _ _ _ _ _ _ _ _ _ _ _ _ _ _ _ _ _ _ _ _ _ _ _ _ _ _ _ _ _ _ _ _ _ _ _ _ _ _ _ _ _ _ _ _ _ _ _ _ _ _ _ _ _ _ _ _ _ _ _ _ _ _ _ _ _ _ _ _ _ _ _ _ _ _ _ _ _ _ _ _ _ _ _ _ _ _ _ _ _ _ _ _ _ _ _ _ _ _ _ _ _ _ _ _ _ _ _ _ _ _ _ _ _ _ _ _ _ _ _ _ _ _ _ _ _ _ _ _ _ _ _ _ _ _ _ _ _ _ _ _ _ _ _ _ _ _ _ _ _ _ _ _ _ _ _ _ _ _ _ _ _ _ _ _ _ _ _ _ _ _ _ _ _ _ _ _ _ _ _ _ _ _ _ _ _ _ _ _ _ _ _ _ _ _ _ _ _ _ _ _ _ _ _ _ _ _ _ _ _ _ _ _ _ _ _ _ _ _ _ _ _ _ _ _ _ _ _ _ _ _ _ _ _ _ _ _ _ _ _ _ _ _ _ _ _ _ _ _ _ _ _ _ _ _ _ _ _ _ _ _ _ _ _ _ _ _ _ _ _ _ _ _ _ _ _ _ _ _ _ _ _ _ _ _ _ _ _ _ _ _ _ _ _ _ _ _ _ _ _ _ _ _ _ _ _ _ _ _ _ _ _ _ _ _ _ _ _ _ _ _ _ _ _ _ _ _ _ _ _ _ _ _ _ _ _ _ _ _ _ _ _ _ _ _ _ _ _ _ _ _ _ _ _ _ _ _ _ _ _ _ _ _ _ _ _ _ _ _ _ _ _ _ _ _ _ _ _ _ _ _ _ _ _ _ _ _ _ _)
  · obtain ⟨hg, f1, f2, sb, sx, hmo, hgp⟩ := HQ.out rfl
    obtain ⟨a_b, n_b, c_b, rfl, hn_b, rd_b⟩ := id sb.rd
    obtain ⟨a_x, n_x, c_x, rfl, hn_x, rd_x⟩ := id sx.rd
    obtain rfl : n = n_b := by rw [hn_b, tab_len]; exact Hn.out
    obtain rfl : n = n_x := by rw [hn_x, tab_len]; exact Hn.out
    have HG := hid hg
    have Hmo := hid hmo
    have Rd_b := hid rd_b
    have Rd_x := hid rd_x
    have HSb := hid sb
    have HSx := hid sx
    have HGp := hid hgp
    clear hg hmo rd_b rd_x sb sx hgp hn_b hn_x
    go_wp2_with fail
    rw [← HT.out]
    exact steps_A2a u1 u2 n1 c1 n2 c2 w0 w HB.out HBY.out hl2 KK HK s f n (by rw [Hn.out]; exact HG.out.1) Hn HG f1 f2 a_s a_b a_x c_s c_b c_x one v_g mo Hmo Rd_s Rd_b HSb Rd_x HSx HGp _ _ _ _ _ _ _ _ _ _ _ _ _ _ _ _ _ _ _ _ _ _ _ _ _ _ _ _ _ _ _ _ _ _ _ _ _ _ _ _ _ _ _ _ _ _ _ _ _ _ _ _ _ _ _ _ _ _ _ _ _ _ _ _ _ _ _ _ _ _ _ _ _ _ _ _ _ _ _ _ _ _ _ _ _ _ _ _ _ _ _ _ _ _ _ _ _ _ _ _ _ _ _ _ _ _ _ _ _ _ _ _ _ _ _ _ _ _ _ _ _ _ _ _ _ _ _ _ _ _ _ _ _ _ _ _ _ _ _ _ _ _ _ _ _ _ _ _ _ _ _ _ _ _ _ _ _ _ _ _ _ _ _ _ _ _ _ _ _ _ _ _ _ _ _ _ _ _ _ _ _ _ _ _ _ _ _ _ _ _ _ _ _ _ _ _ _ _ _ _ _ _ _ _ _ _ _ _ _ _ _ _ _ _ _ _ _ _ _ _ _ _ _ _ _ _ _ _ _ _ _ _ _ _ _ _ _ _ _ _ _ _ _ _ _ _ _ _ _ _ _ _ _ _ _ _ _ _ _ _ _ _ _ _ _ _ _ _ _ _ _ _ _ _ _ _ _ _ _ _ _ _ _ _ _ _ _ _ _ _ _ _ _ _ _ _ _ _ _ _ _ _ _ _ _ _ _ _ _ _ _ _ _ _ _ _ _ _ _ _ _ _ _ _ _ _ _ _ _ _ _ _ _ _ _ _ _ _ _ _ _ _ _ _ _ _ _ _ _ _ _ _ _ _ _ _ _ _ _ _ _ _ _ _ _ _ _ _ _ _ _ _ _ _ _ _ _ _ _ _ _ _ _ _ _ _ _ _ _ _ _ _ _ _ _ _ _ _ _ _ _ _ _ _ _ _ _ _ _ _ _ _ _ _ _ _ _ _ _ _ _ _ _ _ _ _ _ _ _ _ _ _ _ _ _ _ _ _ _ _ _ _ _


set_option maxRecDepth 20000 in
set_option maxHeartbeats 8000000 in
theorem steps_A (u1 u2 : Option Addr) (n1 c1 n2 c2 : Nat) (w0 : World) (hby : By w0.heap.size w0 u1 n1) (hby2 : By w0.heap.size w0 u2 n2) (hl1 : n1 ≤ 1048576) (hl2 : n2 ≤ 1048576 - n1) (x2 x3 x4 x5 x6 x7 x8 x9 x10 x11 x12 x13 x14 x15 x16 x17 x18 x19 x20 x21 x22 x23 x24 x25 x26 x27 x28 x29 x30 x31 x32 x33 x34 x35 x36 x37 x38 x39 x40 x41 x42 x43 x44 x45 x46 x47 x48 x49 x50 x51 x52 x53 x54 x55 x56 x57 x58 x59 x60 x61 x62 x63 x64 x65 x66 x67 x68 x69 x70 x71 x72 x73 x74 x75 x76 x77 x78 x79 x80 x81 x82 x83 x84 x85 x86 x87 x88 x89 x90 x91 x92 x93 x94 x95 x96 x97 x98 x99 x100 x101 x102 x103 x104 x105 x106 x107 x108 x109 x110 x111 x112 x113 x114 x115 x116 x117 x118 x119 x120 x121 x122 x123 x124 x125 x126 x127 x128 x129 x130 x131 x132 x133 x134 x135 x136 x137 x138 x139 x140 x141 x142 x143 x144 x145 x146 x147 x148 x149 x150 x151 x152 x153 x154 x155 x156 x157 x158 x159 x160 x161 x162 x163 x164 x165 x166 x167 x168 x169 x170 x171 x172 x173 x174 x175 x176 x177 x178 x179 x180 x181 x182 x183 x184 x185 x186 x187 x188 x189 x190 x191 x192 x193 x194 x195 x196 x197 x198 x199 x200 x201 x202 x203 x204 x205 x206 x207 x208 x209 x210 x211 x212 x213 x214 x215 x216 x217 x218 x219 x220 x221 x222 x223 x224 x225 x226 x227 x228 x229 x230 x231 x232 x233 x234 x235 x236 x237 x238 x239 x240 x241 x242 x243 x244 x245 x246 x247 x248 x249 x250 x251 x252 x253 x254 x255 x256 x257 x258 x259 x260 x261 x262 x263 x264 x265 x266 x267 x268 x269 x270 x271 x272 x273 x274 x275 x276 x277 x278 x279 x280 x281 x282 x283 x284 x285 x286 x287 x288 x289 x290 x291 x292 x293 x294 x295 x296 x297 x298 x299 x300 x301 x302 x303 x304 x305 x306 x307 x308 x309 x310 x311 x312 x313 x314 x315 x316 x317 x318 x319 x320 x321 x322 x323 x324 x325 x326 x327 x328 x329 x330 x331 x332 x333 x334 x335 x336 x337 x338 x339 x340 x341 x342 x343 x344 x345 x346 x347 x348 x349 x350 x351 x352 x353 x354 x355 x356 x357 x358 x359 x360 x361 x362 x363 x364 x365 x366 x367 x368 x369 x370 x371 x372 x373 x374 x375 x376 x377 x378 x379 x380 x381 x382 x383 x384 x385 x386 x387 x388 x389 x390 x391 x392 x393 x394 x395 x396 x397 x398 x399 x400 x401 x402 x403 x404 x405 x406 x407 x408 x409 x410 x411 x412 x413 x414 x415 x416 x417 x418 x419 x420 x421 x422 x423 x424 x425 x426 x427 x428 x429 x430 x431 x432 x433 x434 x435 x436 x437 x438 x439 x440 x441 x442 x443 x444 x445 x446 x447 x448 x449 x450 x451 : Value) :
    Code.wp Try.prog (cRest 0 (bodyOf Try.f3)) (qS w0) { tmps := List.toArray ((.slice u1 n1 c1) :: (.slice u2 n2 c2) :: x2 :: x3 :: x4 :: x5 :: x6 :: x7 :: x8 :: x9 :: x10 :: x11 :: x12 :: x13 :: x14 :: x15 :: x16 :: x17 :: x18 :: x19 :: x20 :: x21 :: x22 :: x23 :: x24 :: x25 :: x26 :: x27 :: x28 :: x29 :: x30 :: x31 :: x32 :: x33 :: x34 :: x35 :: x36 :: x37 :: x38 :: x39 :: x40 :: x41 :: x42 :: x43 :: x44 :: x45 :: x46 :: x47 :: x48 :: x49 :: x50 :: x51 :: x52 :: x53 :: x54 :: x55 :: x56 :: x57 :: x58 :: x59 :: x60 :: x61 :: x62 :: x63 :: x64 :: x65 :: x66 :: x67 :: x68 :: x69 :: x70 :: x71 :: x72 :: x73 :: x74 :: x75 :: x76 :: x77 :: x78 :: x79 :: x80 :: x81 :: x82 :: x83 :: x84 :: x85 :: x86 :: x87 :: x88 :: x89 :: x90 :: x91 :: x92 :: x93 :: x94 :: x95 :: x96 :: x97 :: x98 :: x99 :: x100 :: x101 :: x102 :: x103 :: x104 :: x105 :: x106 :: x107 :: x108 :: x109 :: x110 :: x111 :: x112 :: x113 :: x114 :: x115 :: x116 :: x117 :: x118 :: x119 :: x120 :: x121 :: x122 :: x123 :: x124 :: x125 :: x126 :: x127 :: x128 :: x129 :: x130 :: x131 :: x132 :: x133 :: x134 :: x135 :: x136 :: x137 :: x138 :: x139 :: x140 :: x141 :: x142 :: x143 :: x144 :: x145 :: x146 :: x147 :: x148 :: x149 :: x150 :: x151 :: x152 :: x153 :: x154 :: x155 :: x156 :: x157 :: x158 :: x159 :: x160 :: x161 :: x162 :: x163 :: x164 :: x165 :: x166 :: x167 :: x168 :: x169 :: x170 :: x171 :: x172 :: x173 :: x174 :: x175 :: x176 :: x177 :: x178 :: x179 :: x180 :: x181 :: x182 :: x183 :: x184 :: x185 :: x186 :: x187 :: x188 :: x189 :: x190 :: x191 :: x192 :: x193 :: x194 :: x195 :: x196 :: x197 :: x198 :: x199 :: x200 :: x201 :: x202 :: x203 :: x204 :: x205 :: x206 :: x207 :: x208 :: x209 :: x210 :: x211 :: x212 :: x213 :: x214 :: x215 :: x216 :: x217 :: x218 :: x219 :: x220 :: x221 :: x222 :: x223 :: x224 :: x225 :: x226 :: x227 :: x228 :: x229 :: x230 :: x231 :: x232 :: x233 :: x234 :: x235 :: x236 :: x237 :: x238 :: x239 :: x240 :: x241 :: x242 :: x243 :: x244 :: x245 :: x246 :: x247 :: x248 :: x249 :: x250 :: x251 :: x252 :: x253 :: x254 :: x255 :: x256 :: x257 :: x258 :: x259 :: x260 :: x261 :: x262 :: x263 :: x264 :: x265 :: x266 :: x267 :: x268 :: x269 :: x270 :: x271 :: x272 :: x273 :: x274 :: x275 :: x276 :: x277 :: x278 :: x279 :: x280 :: x281 :: x282 :: x283 :: x284 :: x285 :: x286 :: x287 :: x288 :: x289 :: x290 :: x291 :: x292 :: x293 :: x294 :: x295 :: x296 :: x297 :: x298 :: x299 :: x300 :: x301 :: x302 :: x303 :: x304 :: x305 :: x306 :: x307 :: x308 :: x309 :: x310 :: x311 :: x312 :: x313 :: x314 :: x315 :: x316 :: x317 :: x318 :: x319 :: x320 :: x321 :: x322 :: x323 :: x324 :: x325 :: x326 :: x327 :: x328 :: x329 :: x330 :: x331 :: x332 :: x333 :: x334 :: x335 :: x336 :: x337 :: x338 :: x339 :: x340 :: x341 :: x342 :: x343 :: x344 :: x345 :: x346 :: x347 :: x348 :: x349 :: x350 :: x351 :: x352 :: x353 :: x354 :: x355 :: x356 :: x357 :: x358 :: x359 :: x360 :: x361 :: x362 :: x363 :: x364 :: x365 :: x366 :: x367 :: x368 :: x369 :: x370 :: x371 :: x372 :: x373 :: x374 :: x375 :: x376 :: x377 :: x378 :: x379 :: x380 :: x381 :: x382 :: x383 :: x384 :: x385 :: x386 :: x387 :: x388 :: x389 :: x390 :: x391 :: x392 :: x393 :: x394 :: x395 :: x396 :: x397 :: x398 :: x399 :: x400 :: x401 :: x402 :: x403 :: x404 :: x405 :: x406 :: x407 :: x408 :: x409 :: x410 :: x411 :: x412 :: x413 :: x414 :: x415 :: x416 :: x417 :: x418 :: x419 :: x420 :: x421 :: x422 :: x423 :: x424 :: x425 :: x426 :: x427 :: x428 :: x429 :: x430 :: x431 :: x432 :: x433 :: x434 :: x435 :: x436 :: x437 :: x438 :: x439 :: x440 :: x441 :: x442 :: x443 :: x444 :: x445 :: x446 :: x447 :: x448 :: x449 :: x450 :: x451 :: []), defers := [] } w0 := by
  rw [show cRest 0 (bodyOf Try.f3) = .seq (cHead 0 (bodyOf Try.f3)) (.seq (cHead 1 (bodyOf Try.f3)) (.seq (cHead 2 (bodyOf Try.f3)) (.seq (cHead 3 (bodyOf Try.f3)) (.seq (cHead 4 (bodyOf Try.f3)) (.seq (cHead 5 (bodyOf Try.f3)) (.seq (cHead 6 (bodyOf Try.f3)) (.seq (cHead 7 (bodyOf Try.f3)) (.seq (cHead 8 (bodyOf Try.f3)) (.seq (cHead 9 (bodyOf Try.f3)) (.seq (cHead 10 (bodyOf Try.f3)) (.seq (cHead 11 (bodyOf Try.f3)) (cRest 12 (bodyOf Try.f3))))))))))))) from by kernel_rfl]
  generalize hR : cRest 12 (bodyOf Try.f3) = R
  have HR := hid hR
  clear hR
  simp only [bodyOf, Try.f3, Option.getD_some, cHead]
  have HBY := hid hby
  have HBY2 := hid hby2
  clear hby hby2
  go_wp2_with fail
  refine (big_any _ _ _ _ _ _ _ hl1 hl2).mono ?_
  rintro e w' ⟨rfl, rfl⟩
  go_wp2_with fail
  refine (DrawStepBits_any u1 n1 c1 _ HBY.out hl1).mono ?_
  rintro e w1 ⟨⟨v_s, s, f, rfl, r_s, hsl, f1, f2⟩, hb⟩
  obtain ⟨a_s, n, c_s, rfl, hn_s, -⟩ := id r_s.sl.rd
  have HB := hid hb
  have HBY2 := hid (By.later HBY2.out hb)
  have HR_s := hid r_s
  have Hn := hid hn_s
  clear hb r_s hn_s HBY
  obtain ⟨q, hq⟩ : ∃ q, q = cG s f := ⟨_, rfl⟩
  obtain ⟨one, hone⟩ : ∃ q, q = dL (cG s f) (gpL9 s f) := ⟨_, rfl⟩
  obtain ⟨XB, hXB⟩ : ∃ X, X = onL q (tab s.length (skB adI (cdB s) f)) := ⟨_, rfl⟩
  obtain ⟨XG, hXG⟩ : ∃ X, X = onL one (gpL9 s f) := ⟨_, rfl⟩
  obtain ⟨XF, hXF⟩ : ∃ X, X = onL q (tab s.length (skB fxI (cdB s) f)) := ⟨_, rfl⟩
  obtain ⟨mo, hmo⟩ : ∃ X, X = onI q (pkM (gpL9 s f)) := ⟨_, rfl⟩
  have lXB : XB.length ≤ 2000000 := by rw [hXB]; unfold onL; split <;> first | (rw [tab_len]; omega) | (simp; done)
  have lXG : XG.length ≤ 2000000 := by rw [hXG]; unfold onL; split <;> first | (rw [gpL9_len]; omega) | (simp; done)
  have lXF : XF.length ≤ 2000000 := by rw [hXF]; unfold onL; split <;> first | (rw [tab_len]; omega) | (simp; done)
  have KBi := fun (W : World) (v : Value) (h : Sl W v s) => impl_StepBits_any v s f W h
  rw [← hq, ← hXB] at KBi
  have KBi := hid KBi
  have KBs := fun (W : World) (v : Value) (h : Sl W v s) => spec_StepBits_any v s f W h
  rw [← hq, ← hXB] at KBs
  have KBs := hid KBs
  have KGi := fun (W : World) (v : Value) (h : Sl W v s) => impl_StepGaps_any v s f W h
  rw [← hone, ← hXG] at KGi
  have KGi := hid KGi
  have KGs := fun (W : World) (v : Value) (h : Sl W v s) => spec_StepGaps_any v s f W h
  rw [← hone, ← hXG] at KGs
  have KGs := hid KGs
  have KFi := fun (W : World) (v : Value) (h : Sl W v s) => impl_FixedBits_any v s f W h
  rw [← hq, ← hXF] at KFi
  have KFi := hid KFi
  have KFs := fun (W : World) (v : Value) (h : Sl W v s) => spec_FixedBits_any v s f W h
  rw [← hq, ← hXF] at KFs
  have KFs := hid KFs
  have KMi := fun (W : World) (v : Value) (h : Sl W v s) => impl_GreatestGap_any v s f W h
  rw [← hq, ← hmo] at KMi
  have KMi := hid KMi
  have KMs := fun (W : World) (v : Value) (h : Sl W v s) => spec_GreatestGap_any v s f W h
  rw [← hq, ← hmo] at KMs
  have KMs := hid KMs
  have Hq := hid hq
  have Hone := hid hone
  have HXB := hid hXB
  have HXG := hid hXG
  have HXF := hid hXF
  have Hmo := hid hmo
  clear hq hone hXB hXG hXF hmo
  go_wp2_with fail
  refine (KBi.out _ _ HR_s.out.sl).mono ?_
  rintro e w2 ⟨v_Bi, rfl, r_Bi, hb⟩
  have HB := hid (bel_step HB.out hb)
  have HBY2 := hid (By.later HBY2.out hb)
  have HR_s := hid (HR_s.out.kept hb)
  have HR_Bi := hid r_Bi
  clear hb r_Bi
  go_wp2_with fail
  refine (KBs.out _ _ HR_s.out.sl).mono ?_
  rintro e w3 ⟨v_Bs, rfl, r_Bs, hb⟩
  have HB := hid (bel_step HB.out hb)
  have HBY2 := hid (By.later HBY2.out hb)
  have HR_s := hid (HR_s.out.kept hb)
  have HR_Bi := hid (HR_Bi.out.kept hb)
  have HR_Bs := hid r_Bs
  clear hb r_Bs
  go_wp2_with fail
  refine (KGi.out _ _ HR_s.out.sl).mono ?_
  rintro e w4 ⟨v_Gi, rfl, r_Gi, hb⟩
  have HB := hid (bel_step HB.out hb)
  have HBY2 := hid (By.later HBY2.out hb)
  have HR_s := hid (HR_s.out.kept hb)
  have HR_Bi := hid (HR_Bi.out.kept hb)
  have HR_Bs := hid (HR_Bs.out.kept hb)
  have HR_Gi := hid r_Gi
  clear hb r_Gi
  go_wp2_with fail
  refine (KGs.out _ _ HR_s.out.sl).mono ?_
  rintro e w5 ⟨v_Gs, rfl, r_Gs, hb⟩
  have HB := hid (bel_step HB.out hb)
  have HBY2 := hid (By.later HBY2.out hb)
  have HR_s := hid (HR_s.out.kept hb)
  have HR_Bi := hid (HR_Bi.out.kept hb)
  have HR_Bs := hid (HR_Bs.out.kept hb)
  have HR_Gi := hid (HR_Gi.out.kept hb)
  have HR_Gs := hid r_Gs
  clear hb r_Gs
  go_wp2_with fail
  refine (KMi.out _ _ HR_s.out.sl).mono ?_
  rintro e w6 ⟨rfl, hb⟩
  have HB := hid (bel_step HB.out hb)
  have HBY2 := hid (By.later HBY2.out hb)
  have HR_s := hid (HR_s.out.kept hb)
  have HR_Bi := hid (HR_Bi.out.kept hb)
  have HR_Bs := hid (HR_Bs.out.kept hb)
  have HR_Gi := hid (HR_Gi.out.kept hb)
  have HR_Gs := hid (HR_Gs.out.kept hb)
  clear hb
  go_wp2_with fail
  refine (KMs.out _ _ HR_s.out.sl).mono ?_
  rintro e w7 ⟨rfl, hb⟩
  have HB := hid (bel_step HB.out hb)
  have HBY2 := hid (By.later HBY2.out hb)
  have HR_s := hid (HR_s.out.kept hb)
  have HR_Bi := hid (HR_Bi.out.kept hb)
  have HR_Bs := hid (HR_Bs.out.kept hb)
  have HR_Gi := hid (HR_Gi.out.kept hb)
  have HR_Gs := hid (HR_Gs.out.kept hb)
  clear hb
  go_wp2_with fail
  refine (KFi.out _ _ HR_s.out.sl).mono ?_
  rintro e w8 ⟨v_Fi, rfl, r_Fi, hb⟩
  have HB := hid (bel_step HB.out hb)
  have HBY2 := hid (By.later HBY2.out hb)
  have HR_s := hid (HR_s.out.kept hb)
  have HR_Bi := hid (HR_Bi.out.kept hb)
  have HR_Bs := hid (HR_Bs.out.kept hb)
  have HR_Gi := hid (HR_Gi.out.kept hb)
  have HR_Gs := hid (HR_Gs.out.kept hb)
  have HR_Fi := hid r_Fi
  clear hb r_Fi
  go_wp2_with fail
  refine (KFs.out _ _ HR_s.out.sl).mono ?_
  rintro e w9 ⟨v_Fs, rfl, r_Fs, hb⟩
  have HB := hid (bel_step HB.out hb)
  have HBY2 := hid (By.later HBY2.out hb)
  have HR_s := hid (HR_s.out.kept hb)
  have HR_Bi := hid (HR_Bi.out.kept hb)
  have HR_Bs := hid (HR_Bs.out.kept hb)
  have HR_Gi := hid (HR_Gi.out.kept hb)
  have HR_Gs := hid (HR_Gs.out.kept hb)
  have HR_Fi := hid (HR_Fi.out.kept hb)
  have HR_Fs := hid r_Fs
  clear hb r_Fs
  clear KBi KBs KGi KGs KFi KFs KMi KMs
  have Hoq := hid (show one = true → q = true from fun h => by rw [Hone.out] at h; rw [Hq.out]; exact (dL_true h).1)
  cases q
  all_goals cases one
  case false.true => exact absurd (Hoq.out rfl) (by decide)
  all_goals
    go_wp2_with fail
    refine (uSame_same _ _ XB _ HR_Bi.out.sl HR_Bs.out.sl (by omega)).mono ?_
    rintro e w10 ⟨rfl, hb⟩
    have HB := hid (bel_step HB.out hb)
    have HBY2 := hid (By.later HBY2.out hb)
    have HR_s := hid (HR_s.out.kept hb)
    have HR_Bi := hid (HR_Bi.out.kept hb)
    have HR_Bs := hid (HR_Bs.out.kept hb)
    have HR_Gi := hid (HR_Gi.out.kept hb)
    have HR_Gs := hid (HR_Gs.out.kept hb)
    have HR_Fi := hid (HR_Fi.out.kept hb)
    have HR_Fs := hid (HR_Fs.out.kept hb)
    clear hb
    go_wp2_with fail
    refine (uSame_same _ _ XG _ HR_Gi.out.sl HR_Gs.out.sl (by omega)).mono ?_
    rintro e w11 ⟨rfl, hb⟩
    have HB := hid (bel_step HB.out hb)
    have HBY2 := hid (By.later HBY2.out hb)
    have HR_s := hid (HR_s.out.kept hb)
    have HR_Bi := hid (HR_Bi.out.kept hb)
    have HR_Bs := hid (HR_Bs.out.kept hb)
    have HR_Gi := hid (HR_Gi.out.kept hb)
    have HR_Gs := hid (HR_Gs.out.kept hb)
    have HR_Fi := hid (HR_Fi.out.kept hb)
    have HR_Fs := hid (HR_Fs.out.kept hb)
    clear hb
    go_wp2_with fail
    refine (uSame_same _ _ XF _ HR_Fi.out.sl HR_Fs.out.sl (by omega)).mono ?_
    rintro e w12 ⟨rfl, hb⟩
    have HB := hid (bel_step HB.out hb)
    have HBY2 := hid (By.later HBY2.out hb)
    have HR_s := hid (HR_s.out.kept hb)
    have HR_Bi := hid (HR_Bi.out.kept hb)
    have HR_Bs := hid (HR_Bs.out.kept hb)
    have HR_Gi := hid (HR_Gi.out.kept hb)
    have HR_Gs := hid (HR_Gs.out.kept hb)
    have HR_Fi := hid (HR_Fi.out.kept hb)
    have HR_Fs := hid (HR_Fs.out.kept hb)
    clear hb
    go_wp2_with fail
    rw [← HR.out]
    refine steps_A12 u1 u2 n1 c1 n2 c2 w0 w12 HB.out HBY2.out (by omega) s f n Hn a_s c_s _ _ _ _ _ mo (hid (by obtain ⟨_, _, _, e, _, rd⟩ := HR_s.out.sl.rd; cases e; exact rd)) (hid ?_) _ _ _ _ _ _ _ _ _ _ _ _ _ _ _ _ _ _ _ _ _ _ _ _ _ _ _ _ _ _ _ _ _ _ _ _ _ _ _ _ _ _ _ _ _ _ _ _ _ _ _ _ _ _ _ _ _ _ _ _ _ _ _ _ _ _ _ _ _ _ _ _ _ _ _ _ _ _ _ _ _ _ _ _ _ _ _ _ _ _ _ _ _ _ _ _ _ _ _ _ _ _ _ _ _ _ _ _ _ _ _ _ _ _ _ _ _ _ _ _ _ _ _ _ _ _ _ _ _ _ _ _ _ _ _ _ _ _ _ _ _ _ _ _ _ _ _ _ _ _ _ _ _ _ _ _ _ _ _ _ _ _ _ _ _ _ _ _ _ _ _ _ _ _ _ _ _ _ _ _ _ _ _ _ _ _ _ _ _ _ _ _ _ _ _ _ _ _ _ _ _ _ _ _ _ _ _ _ _ _ _ _ _ _ _ _ _ _ _ _ _ _ _ _ _ _ _ _ _ _ _ _ _ _ _ _ _ _ _ _ _ _ _ _ _ _ _ _ _ _ _ _ _ _ _ _ _ _ _ _ _ _ _ _ _ _ _ _ _ _ _ _ _ _ _ _ _ _ _ _ _ _ _ _ _ _ _ _ _ _ _ _ _ _ _ _ _ _ _ _ _ _ _ _ _ _ _ _ _ _ _ _ _ _ _ _ _ _ _ _ _ _ _ _ _ _ _ _ _ _ _ _ _ _ _ _ _ _ _ _ _ _ _ _ _ _ _ _ _ _ _ _ _ _ _ _ _ _ _ _ _ _ _ _ _ _ _ _ _ _ _ _ _ _ _ _ _ _ _ _ _ _ _ _ _ _ _ _ _ _ _ _ _ _ _ _ _ _ _ _ _ _ _ _ _ _ _ _ _ _ _ _ _ _ _ _ _ _ _ _ _ _ _ _ _ _ _ _ _ _ _ _ _ _ _ _ _ _ _ _ _ _
    first
      | (intro h; cases h; done)
      | (intro _
         obtain ⟨g1, g2, g3⟩ := cG_true Hq.out.symm
         have sb := HR_Bi.out.sl
         have sx := HR_Fi.out.sl
         rw [HXB.out] at sb
         rw [HXF.out] at sx
         refine ⟨g1, g2, g3, sb, sx, Hmo.out, ?_⟩
         first
           | (intro h; cases h; done)
           | (intro _; have sg := HR_Gi.out.sl; rw [HXG.out] at sg; exact sg))


set_option maxRecDepth 20000 in
set_option maxHeartbeats 4000000 in
theorem law_FnStepsAdapt (u1 u2 : Option Addr) (n1 c1 n2 c2 : Nat) (w : World) (hby : By w.heap.size w u1 n1) (hby2 : By w.heap.size w u2 n2) (hl1 : n1 ≤ 1048576) (hl2 : n2 ≤ 1048576 - n1) :
    Calls Try.prog 3 #[.slice u1 n1 c1, .slice u2 n2 c2] w fun e w' => e = .returned (.bool true) ∧ Below w.heap.size w w' := by
  go_enter Try.func3, Try.ntmps3
  exact steps_A u1 u2 n1 c1 n2 c2 w hby hby2 hl1 hl2 _ _ _ _ _ _ _ _ _ _ _ _ _ _ _ _ _ _ _ _ _ _ _ _ _ _ _ _ _ _ _ _ _ _ _ _ _ _ _ _ _ _ _ _ _ _ _ _ _ _ _ _ _ _ _ _ _ _ _ _ _ _ _ _ _ _ _ _ _ _ _ _ _ _ _ _ _ _ _ _ _ _ _ _ _ _ _ _ _ _ _ _ _ _ _ _ _ _ _ _ _ _ _ _ _ _ _ _ _ _ _ _ _ _ _ _ _ _ _ _ _ _ _ _ _ _ _ _ _ _ _ _ _ _ _ _ _ _ _ _ _ _ _ _ _ _ _ _ _ _ _ _ _ _ _ _ _ _ _ _ _ _ _ _ _ _ _ _ _ _ _ _ _ _ _ _ _ _ _ _ _ _ _ _ _ _ _ _ _ _ _ _ _ _ _ _ _ _ _ _ _ _ _ _ _ _ _ _ _ _ _ _ _ _ _ _ _ _ _ _ _ _ _ _ _ _ _ _ _ _ _ _ _ _ _ _ _ _ _ _ _ _ _ _ _ _ _ _ _ _ _ _ _ _ _ _ _ _ _ _ _ _ _ _ _ _ _ _ _ _ _ _ _ _ _ _ _ _ _ _ _ _ _ _ _ _ _ _ _ _ _ _ _ _ _ _ _ _ _ _ _ _ _ _ _ _ _ _ _ _ _ _ _ _ _ _ _ _ _ _ _ _ _ _ _ _ _ _ _ _ _ _ _ _ _ _ _ _ _ _ _ _ _ _ _ _ _ _ _ _ _ _ _ _ _ _ _ _ _ _ _ _ _ _ _ _ _ _ _ _ _ _ _ _ _ _ _ _ _ _ _ _ _ _ _ _ _ _ _ _ _ _ _ _ _ _ _ _ _ _ _ _ _ _ _ _ _ _ _ _ _ _ _ _ _ _ _ _ _ _ _ _ _ _ _ _ _ _ _ _ _ _ _ _ _ _ _ _ _ _ _ _ _ _ _ _ _ _ _ _

set_option maxRecDepth 20000 in
set_option maxHeartbeats 4000000 in
theorem walk_FnStepsAdapt (w : World) (u1 : Option Addr) (n1 c1 : Nat) (z1 : List Int) (hr1 : IsRow .u8 w u1 n1 c1 z1) (u2 : Option Addr) (n2 c2 : Nat) (z2 : List Int) (hr2 : IsRow .u8 w u2 n2 c2 z2) :
    Calls Try.prog 3 #[.slice u1 n1 c1, .slice u2 n2 c2] w fun e w' => e = .returned (.bool true) ∧ Below w.heap.size w w' := by
  have hb := IsRow.by hr1
  have hb2 := IsRow.by hr2
  have hm := IsRow.len_le hr2
  clear hr1 hr2
  by_cases h1 : 1048576 < n1
  · clear hb hb2
    go_enter Try.func3, Try.ntmps3
    go_wp2_with fail
    refine (big_first _ _ _ _ _ _ _ h1).mono ?_
    rintro e w' ⟨rfl, rfl⟩
    go_wp2
    go_ret
    exact ⟨rfl, Below.refl _ _⟩
  · have h1' : n1 ≤ 1048576 := by omega
    by_cases h2 : 1048576 - n1 < n2
    · have H2 := hid h2
      clear hb hb2 h1 h2
      go_enter Try.func3, Try.ntmps3
      go_wp2_with fail
      refine (big_both _ _ _ _ _ _ _ h1' H2.out hm).mono ?_
      rintro e w' ⟨rfl, rfl⟩
      go_wp2
      go_ret
      exact ⟨rfl, Below.refl _ _⟩
    · exact law_FnStepsAdapt u1 u2 n1 c1 n2 c2 w hb hb2 h1' (by omega)

end Go.Proofs.Ythkfjoonkkmgiaa
