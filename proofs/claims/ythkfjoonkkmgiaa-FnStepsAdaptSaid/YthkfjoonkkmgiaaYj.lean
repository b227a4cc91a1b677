
import Derived.Test.YthkfjoonkkmgiaaYi
namespace Go.Proofs.Ythkfjoonkkmgiaa
open Go.RowKit BitX Go.MemX Go.Ch6 Go.Ch9 Go.ChV
set_option linter.unusedVariables false


def cThen : Code → Code
  | .cond _ t _ => t
  | .seq _ b => cThen b
  | c => c


set_option maxRecDepth 20000 in
set_option maxHeartbeats 8000000 in
theorem steps_A2c (u1 u2 : Option Addr) (n1 c1 n2 c2 : Nat) (w0 w : World) (hB : Below w0.heap.size w0 w) (hby : By w.heap.size w u2 n2) (hl2 : n2 ≤ 1048576) (KK : Act → World → Prop) (HK : Hid (∀ a w, Code.wp Try.prog (cRest 13 (bodyOf Try.f3)) (qS w0) a w → KK a w)) (s : List Int) (f : Int) (n : Nat) (hn : n ≤ 64) (Hn : Hid (n = s.length)) (HG : Hid (SigP s)) (f1 : 1 ≤ f) (f2 : f ≤ 4096) (a_s a_x : Option Addr) (c_s c_x : Nat) (Rd_s : Hid (Rd w a_s s)) (Rd_x : Hid (Rd w a_x (tab s.length (skB fxI (cdB s) f)))) (HSx : Hid (Sl w (.slice a_x n c_x) (tab s.length (skB fxI (cdB s) f)))) (x2 x3 x4 x7 x8 x9 x10 x11 x12 x13 x14 x15 x16 x17 x18 x20 x21 x22 x23 x24 x25 x26 x27 x28 x29 x30 x31 x32 x33 x34 x35 x36 x37 x38 x39 x40 x41 x42 x43 x44 x45 x46 x47 x48 x49 x50 x51 x52 x53 x54 x55 x56 x57 x58 x59 x60 x61 x62 x63 x64 x65 x66 x67 x68 x69 x70 x71 x72 x73 x74 x75 x76 x77 x78 x79 x80 x81 x82 x83 x84 x85 x86 x87 x88 x89 x90 x91 x92 x93 x94 x95 x96 x97 x98 x99 x100 x101 x102 x103 x104 x105 x106 x107 x108 x109 x110 x111 x112 x113 x114 x115 x116 x117 x118 x119 x120 x121 x122 x123 x124 x125 x126 x127 x128 x129 x130 x131 x132 x133 x134 x135 x136 x137 x138 x139 x140 x141 x142 x143 x144 x145 x146 x147 x148 x149 x150 x151 x152 x153 x154 x155 x156 x157 x158 x159 x160 x161 x162 x163 x164 x165 x166 x167 x168 x169 x170 x171 x172 x173 x174 x175 x176 x177 x178 x179 x180 x181 x182 x183 x184 x185 x186 x187 x188 x189 x190 x191 x192 x193 x194 x195 x196 x197 x198 x199 x200 x201 x202 x203 x204 x205 x206 x207 x208 x209 x210 x211 x212 x213 x214 x215 x216 x217 x218 x219 x220 x221 x222 x223 x224 x225 x226 x227 x228 x229 x230 x231 x232 x233 x234 x235 x236 x237 x238 x239 x240 x241 x242 x243 x244 x245 x246 x247 x248 x249 x250 x251 x252 x253 x254 x255 x256 x257 x258 x259 x260 x261 x262 x263 x264 x265 x266 x267 x268 x269 x270 x271 x272 x273 x274 x275 x276 x277 x278 x279 x280 x281 x282 x283 x284 x285 x286 x287 x288 x289 x290 x291 x292 x293 x294 x295 x296 x297 x298 x299 x300 x301 x302 x303 x304 x305 x306 x307 x308 x309 x310 x311 x312 x313 x314 x315 x316 x317 x318 x319 x320 x321 x322 x323 x324 x325 x326 x327 x328 x329 x330 x331 x332 x333 x334 x335 x336 x337 x338 x339 x340 x341 x342 x343 x344 x345 x346 x347 x348 x349 x350 x351 x352 x353 x354 x355 x356 x357 x358 x359 x360 x361 x362 x363 x364 x365 x366 x367 x368 x369 x370 x371 x372 x373 x374 x375 x376 x377 x378 x379 x380 x381 x382 x383 x384 x385 x386 x387 x388 x389 x390 x391 x392 x393 x394 x395 x396 x397 x398 x399 x400 x401 x402 x403 x404 x405 x406 x407 x408 x409 x410 x411 x412 x413 x414 x415 x416 x417 x418 x419 x420 x421 x422 x423 x424 x425 x426 x427 x428 x429 x430 x431 x432 x433 x434 x435 x436 x437 x438 x439 x440 x441 x442 x443 x444 x445 x446 x447 x448 x449 x450 x451 : Value) :
    Code.wp Try.prog (cRest 3 (cThen (cHead 12 (bodyOf Try.f3)))) (Exit.then KK (qS w0)) { tmps := List.toArray ((.slice u1 n1 c1) :: (.slice u2 n2 c2) :: x2 :: x3 :: x4 :: (.slice a_s n c_s) :: (.int .i64 f) :: x7 :: x8 :: x9 :: x10 :: x11 :: x12 :: x13 :: x14 :: x15 :: x16 :: x17 :: x18 :: (.slice a_x n c_x) :: x20 :: x21 :: x22 :: x23 :: x24 :: x25 :: x26 :: x27 :: x28 :: x29 :: x30 :: x31 :: x32 :: x33 :: x34 :: x35 :: x36 :: x37 :: x38 :: x39 :: x40 :: x41 :: x42 :: x43 :: x44 :: x45 :: x46 :: x47 :: x48 :: x49 :: x50 :: x51 :: x52 :: x53 :: x54 :: x55 :: x56 :: x57 :: x58 :: x59 :: x60 :: x61 :: x62 :: x63 :: x64 :: x65 :: x66 :: x67 :: x68 :: x69 :: x70 :: x71 :: x72 :: x73 :: x74 :: x75 :: x76 :: x77 :: x78 :: x79 :: x80 :: x81 :: x82 :: x83 :: x84 :: x85 :: x86 :: x87 :: x88 :: x89 :: x90 :: x91 :: x92 :: x93 :: x94 :: x95 :: x96 :: x97 :: x98 :: x99 :: x100 :: x101 :: x102 :: x103 :: x104 :: x105 :: x106 :: x107 :: x108 :: x109 :: x110 :: x111 :: x112 :: x113 :: x114 :: x115 :: x116 :: x117 :: x118 :: x119 :: x120 :: x121 :: x122 :: x123 :: x124 :: x125 :: x126 :: x127 :: x128 :: x129 :: x130 :: x131 :: x132 :: x133 :: x134 :: x135 :: x136 :: x137 :: x138 :: x139 :: x140 :: x141 :: x142 :: x143 :: x144 :: x145 :: x146 :: x147 :: x148 :: x149 :: x150 :: x151 :: x152 :: x153 :: x154 :: x155 :: x156 :: x157 :: x158 :: x159 :: x160 :: x161 :: x162 :: x163 :: x164 :: x165 :: x166 :: x167 :: x168 :: x169 :: x170 :: x171 :: x172 :: x173 :: x174 :: x175 :: x176 :: x177 :: x178 :: x179 :: x180 :: x181 :: x182 :: x183 :: x184 :: x185 :: x186 :: x187 :: x188 :: x189 :: x190 :: x191 :: x192 :: x193 :: x194 :: x195 :: x196 :: x197 :: x198 :: x199 :: x200 :: x201 :: x202 :: x203 :: x204 :: x205 :: x206 :: x207 :: x208 :: x209 :: x210 :: x211 :: x212 :: x213 :: x214 :: x215 :: x216 :: x217 :: x218 :: x219 :: x220 :: x221 :: x222 :: x223 :: x224 :: x225 :: x226 :: x227 :: x228 :: x229 :: x230 :: x231 :: x232 :: x233 :: x234 :: x235 :: x236 :: x237 :: x238 :: x239 :: x240 :: x241 :: x242 :: x243 :: x244 :: x245 :: x246 :: x247 :: x248 :: x249 :: x250 :: x251 :: x252 :: x253 :: x254 :: x255 :: x256 :: x257 :: x258 :: x259 :: x260 :: x261 :: x262 :: x263 :: x264 :: x265 :: x266 :: x267 :: x268 :: x269 :: x270 :: x271 :: x272 :: x273 :: x274 :: x275 :: x276 :: x277 :: x278 :: x279 :: x280 :: x281 :: x282 :: x283 :: x284 :: x285 :: x286 :: x287 :: x288 :: x289 :: x290 :: x291 :: x292 :: x293 :: x294 :: x295 :: x296 :: x297 :: x298 :: x299 :: x300 :: x301 :: x302 :: x303 :: x304 :: x305 :: x306 :: x307 :: x308 :: x309 :: x310 :: x311 :: x312 :: x313 :: x314 :: x315 :: x316 :: x317 :: x318 :: x319 :: x320 :: x321 :: x322 :: x323 :: x324 :: x325 :: x326 :: x327 :: x328 :: x329 :: x330 :: x331 :: x332 :: x333 :: x334 :: x335 :: x336 :: x337 :: x338 :: x339 :: x340 :: x341 :: x342 :: x343 :: x344 :: x345 :: x346 :: x347 :: x348 :: x349 :: x350 :: x351 :: x352 :: x353 :: x354 :: x355 :: x356 :: x357 :: x358 :: x359 :: x360 :: x361 :: x362 :: x363 :: x364 :: x365 :: x366 :: x367 :: x368 :: x369 :: x370 :: x371 :: x372 :: x373 :: x374 :: x375 :: x376 :: x377 :: x378 :: x379 :: x380 :: x381 :: x382 :: x383 :: x384 :: x385 :: x386 :: x387 :: x388 :: x389 :: x390 :: x391 :: x392 :: x393 :: x394 :: x395 :: x396 :: x397 :: x398 :: x399 :: x400 :: x401 :: x402 :: x403 :: x404 :: x405 :: x406 :: x407 :: x408 :: x409 :: x410 :: x411 :: x412 :: x413 :: x414 :: x415 :: x416 :: x417 :: x418 :: x419 :: x420 :: x421 :: x422 :: x423 :: x424 :: x425 :: x426 :: x427 :: x428 :: x429 :: x430 :: x431 :: x432 :: x433 :: x434 :: x435 :: x436 :: x437 :: x438 :: x439 :: x440 :: x441 :: x442 :: x443 :: x444 :: x445 :: x446 :: x447 :: x448 :: x449 :: x450 :: x451 :: []), defers := [] } w := by
  simp only [bodyOf, Try.f3, Option.getD_some, cHead, cThen, cRest]
  have HB := hid hB
  have HBY := hid hby
  clear hB hby
  obtain ⟨V, hV⟩ : ∃ V, V = vaL fxI (tab s.length (skB fxI (cdB s) f)) f := ⟨_, rfl⟩
  obtain ⟨qf, hqf⟩ : ∃ q, q = dL (dG (tab s.length (skB fxI (cdB s) f)) f) V := ⟨_, rfl⟩
  have KF := fun (W : World) (v : Value) (h : Sl W v (tab s.length (skB fxI (cdB s) f))) => impl_FixedValues_any v (tab s.length (skB fxI (cdB s) f)) f W h
  rw [show (tab (tab s.length (skB fxI (cdB s) f)).length fun k => skV fxI (tlB (tab s.length (skB fxI (cdB s) f))) f (k + 1)) = V from hV.symm, ← hqf] at KF
  have KF := hid KF
  have HV := hid hV
  clear hV hqf
  go_wp2_with fail
  refine (KF.out _ _ HSx.out).mono ?_
  rintro e w1 ⟨v_o, rfl, r_o, hb⟩
  have HB := hid (bel_step HB.out hb)
  have HBY := hid (By.later HBY.out hb)
  have Rd_s := hid (Rd_s.out.kept hb)
  have Rd_x := hid (Rd_x.out.kept hb)
  have Hro := hid r_o
  clear hb r_o KF
  cases qf
  · go_wp2_with fail
    refine HK.out _ _ ?_
    exact steps_B1 u1 u2 n1 c1 n2 c2 w0 w1 HB.out HBY.out hl2 _ _ _ _ _ _ _ _ _ _ _ _ _ _ _ _ _ _ _ _ _ _ _ _ _ _ _ _ _ _ _ _ _ _ _ _ _ _ _ _ _ _ _ _ _ _ _ _ _ _ _ _ _ _ _ _ _ _ _ _ _ _ _ _ _ _ _ _ _ _ _ _ _ _ _ _ _ _ _ _ _ _ _ _ _ _ _ _ _ _ _ _ _ _ _ _ _ _ _ _ _ _ _ _ _ _ _ _ _ _ _ _ _ _ _ _ _ _ _ _ _ _ _ _ _ _ _ _ _ _ _ _ _ _ _ _ _ _ _ _ _ _ _ _ _ _ _ _ _ _ _ _ _ _ _ _ _ _ _ _ _ _ _ _ _ _ _ _ _ _ _ _ _ _ _ _ _ _ _ _ _ _ _ _ _ _ _ _ _ _ _ _ _ _ _ _ _ _ _ _ _ _ _ _ _ _ _ _ _ _ _ _ _ _ _ _ _ _ _ _ _ _ _ _ _ _ _ _ _ _ _ _ _ _ _ _ _ _ _ _ _ _ _ _ _ _ _ _ _ _ _ _ _ _ _ _ _ _ _ _ _ _ _ _ _ _ _ _ _ _ _ _ _ _ _ _ _ _ _ _ _ _ _ _ _ _ _ _ _ _ _ _ _ _ _ _ _ _ _ _ _ _ _ _ _ _ _ _ _ _ _ _ _ _ _ _ _ _ _ _ _ _ _ _ _ _ _ _ _ _ _ _ _ _ _ _ _ _ _ _ _ _ _ _ _ _ _ _ _ _ _ _ _ _ _ _ _ _ _ _ _ _ _ _ _ _ _ _ _ _ _ _ _ _ _ _ _ _ _ _ _ _ _ _ _ _ _ _ _ _ _ _ _ _ _ _ _ _ _ _ _ _ _ _ _ _ _ _ _ _ _ _ _ _ _ _ _ _ _ _ _ _ _ _ _ _ _ _ _ _ _ _ _ _ _ _ _ _ _ _ _ _ _ _ _ _ _ _ _ _
  · obtain ⟨a_o, n_o, c_o, rfl, hn_o, rd_o⟩ := id Hro.out.sl.rd
    have eo : onL true V = V := rfl
    rw [eo] at hn_o rd_o
    obtain rfl : n = n_o := by rw [hn_o, HV.out, vaL, tab_len, tab_len]; exact Hn.out
    have Rd_o := hid rd_o
    clear hn_o rd_o eo Hro
    go_wp2_with fail
    go_loopw [30, 239] (fun be i wr => ∃ c : Nat, c ≤ n ∧ i = .int .i64 c ∧ be = .int .i64 (skV fxI (cdB s) f c) ∧ Below w1.heap.size w1 wr)
      (fun _ i _ => n - (intOf i).toNat)
    case atStart => exact ⟨0, by omega, rfl, rfl, Below.refl _ _⟩
    case round =>
      obtain ⟨c, hc, rfl, rfl, hb⟩ := hrel
      by_cases hlc : c < n
      · obtain ⟨x, hkx⟩ := get_lt s c (by rw [← Hn.out]; exact hlc)
        obtain ⟨x1, x2⟩ := HG.out.2.at hkx
        have hkF : (tab s.length (skB fxI (cdB s) f))[c]? = some (skB fxI (cdB s) f c) := tab_get _ _ _ (by rw [← Hn.out]; exact hlc)
        have hkO : V[c]? = some (skV fxI (cdB s) f (c + 1)) := by
          rw [HV.out]; unfold vaL; rw [tab_get _ _ _ (by rw [tab_len, ← Hn.out]; exact hlc), skV_same _ (by rw [← Hn.out]; exact hlc)]
        obtain ⟨b0, o0, ix0, hb0, ce0⟩ := (Rd_s.out.kept hb).at (P := Try.prog) (T := 24) n c_s uslice sone hkx hlc
        obtain ⟨b1, o1, ix1, hb1, ce1⟩ := (Rd_x.out.kept hb).at (P := Try.prog) (T := 24) n c_x uslice sone hkF hlc
        obtain ⟨b2, o2, ix2, hb2, ce2⟩ := (Rd_o.out.kept hb).at (P := Try.prog) (T := 24) n c_o uslice sone hkO hlc
        obtain ⟨v1, v2⟩ := skV_in' (nx := fxI) (B := cdB s) (n := s.length) fx_keeps f1 f2 (fun k v h => cdB_in s _ k v h) c (by rw [← Hn.out]; omega) (by rw [← Hn.out]; omega)
        obtain ⟨y1, y2⟩ := skV_in' (nx := fxI) (B := cdB s) (n := s.length) fx_keeps f1 f2 (fun k v h => cdB_in s _ k v h) (c + 1) (by rw [← Hn.out]; omega) (by rw [← Hn.out]; omega)
        have hB : skB fxI (cdB s) f c = bI x (skV fxI (cdB s) f c) := by rw [skB_eq, cdB_at hkx]
        have hO : skV fxI (cdB s) f (c + 1) = skV fxI (cdB s) f c + f * skB fxI (cdB s) f c := fxV_succ _ _ _
        rw [hB] at ce1 hO
        clear hkx hkF hkO hB
        generalize hO0 : skV fxI (cdB s) f (c + 1) = O at *
        generalize skV fxI (cdB s) f c = U at *
        have HO0 := hid hO0
        have HHb := hid hb
        have e0 : IntKind.i64.wrap f = f := IntWalk.i64_in _ (by omega)
        clear hO0
        by_cases hvx : U ≤ x
        · have hb1 : bI x U = 1 := if_pos hvx
          rw [hb1] at ce1 hO
          have cd : decide (U ≤ x) = true := decide_eq_true hvx
          have e1 : IntKind.i64.wrap (O - U) = f := by rw [show O - U = f from by omega]; exact e0
          clear hO hb1 hvx
          as_aux_lemma =>
            go_wp2_with fail
            go_quiet (fail)
            have ce2q : (wr.drewN nq).cell? ⟨b2, o2, none⟩ = some (.int .i64 O) := ce2
            have hbq := below_drewN HHb.out nq
            generalize wr.drewN nq = wq at ce2q hbq ⊢
            go_wp2_with fail
            go_roundw
            case rel => exact ⟨c + 1, by omega, by go_num, by rw [HO0.out], hbq⟩
            case measure => simp [intOf]; omega
        · have hb1 : bI x U = -1 := if_neg hvx
          rw [hb1] at ce1 hO
          have cd : decide (U ≤ x) = false := decide_eq_false hvx
          have e2 : IntKind.i64.wrap (-f) = -f := IntWalk.i64_in _ (by omega)
          have e1 : IntKind.i64.wrap (O - U) = -f := by rw [show O - U = -f from by omega]; exact e2
          have e3 : IntKind.i64.wrap (-1 * f) = -f := by rw [show -1 * f = -f from by omega]; exact e2
          clear hO hb1 hvx
          as_aux_lemma =>
            go_wp2_with fail
            go_quiet (fail)
            have ce2q : (wr.drewN nq).cell? ⟨b2, o2, none⟩ = some (.int .i64 O) := ce2
            have hbq := below_drewN HHb.out nq
            generalize wr.drewN nq = wq at ce2q hbq ⊢
            go_wp2_with fail
            go_roundw
            case rel => exact ⟨c + 1, by omega, by go_num, by rw [HO0.out], hbq⟩
            case measure => simp [intOf]; omega
      · have hge : (n : Int) ≤ (c : Int) := by omega
        have HHb := hid (bel_step HB.out hb)
        have HBY := hid (By.later HBY.out hb)
        clear hlc hb
        go_wp2_with fail
        refine HK.out _ _ ?_
        exact steps_B1 u1 u2 n1 c1 n2 c2 w0 wr HHb.out HBY.out hl2 _ _ _ _ _ _ _ _ _ _ _ _ _ _ _ _ _ _ _ _ _ _ _ _ _ _ _ _ _ _ _ _ _ _ _ _ _ _ _ _ _ _ _ _ _ _ _ _ _ _ _ _ _ _ _ _ _ _ _ _ _ _ _ _ _ _ _ _ _ _ _ _ _ _ _ _ _ _ _ _ _ _ _ _ _ _ _ _ _ _ _ _ _ _ _ _ _ _ _ _ _ _ _ _ _ _ _ _ _ _ _ _ _ _ _ _ _ _ _ _ _ _ _ _ _ _ _ _ _ _ _ _ _ _ _ _ _ _ _ _ _ _ _ _ _ _ _ _ _ _ _ _ _ _ _ _ _ _ _ _ _ _ _ _ _ _ _ _ _ _ _ _ _ _ _ _ _ _ _ _ _ _ _ _ _ _ _ _ _ _ _ _ _ _ _ _ _ _ _ _ _ _ _ _ _ _ _ _ _ _ _ _ _ _ _ _ _ _ _ _ _ _ _ _ _ _ _ _ _ _ _ _ _ _ _ _ _ _ _ _ _ _ _ _ _ _ _ _ _ _ _ _ _ _ _ _ _ _ _ _ _ _ _ _ _ _ _ _ _ _ _ _ _ _ _ _ _ _ _ _ _ _ _ _ _ _ _ _ _ _ _ _ _ _ _ _ _ _ _ _ _ _ _ _ _ _ _ _ _ _ _ _ _ _ _ _ _ _ _ _ _ _ _ _ _ _ _ _ _ _ _ _ _ _ _ _ _ _ _ _ _ _ _ _ _ _ _ _ _ _ _ _ _ _ _ _ _ _ _ _ _ _ _ _ _ _ _ _ _ _ _ _ _ _ _ _ _ _ _ _ _ _ _ _ _ _ _ _ _ _ _ _ _ _ _ _ _ _ _ _ _ _ _ _ _ _ _ _ _ _ _ _ _ _ _ _ _ _ _ _ _ _ _ _ _ _ _ _ _ _ _ _ _ _ _ _ _ _ _ _ _ _ _ _ _ _ _ _ _ _


set_option maxRecDepth 20000 in
set_option maxHeartbeats 8000000 in
theorem steps_A2b (u1 u2 : Option Addr) (n1 c1 n2 c2 : Nat) (w0 w : World) (hB : Below w0.heap.size w0 w) (hby : By w.heap.size w u2 n2) (hl2 : n2 ≤ 1048576) (KK : Act → World → Prop) (HK : Hid (∀ a w, Code.wp Try.prog (cRest 13 (bodyOf Try.f3)) (qS w0) a w → KK a w)) (s : List Int) (f : Int) (n : Nat) (hn : n ≤ 64) (Hn : Hid (n = s.length)) (HG : Hid (SigP s)) (f1 : 1 ≤ f) (f2 : f ≤ 4096) (a_s a_b a_x : Option Addr) (c_s c_b c_x : Nat) (one sv : Bool) (v_g v_v : Value) (mo : Int) (Hmo : Hid (mo = pkM (gpL9 s f))) (Rd_s : Hid (Rd w a_s s)) (Rd_b : Hid (Rd w a_b (tab s.length (skB adI (cdB s) f)))) (Rd_x : Hid (Rd w a_x (tab s.length (skB fxI (cdB s) f)))) (HSx : Hid (Sl w (.slice a_x n c_x) (tab s.length (skB fxI (cdB s) f)))) (HGp : Hid (one = true → Sl w v_g (gpL9 s f))) (HVv : Hid (sv = true → Sl w v_v (vaL adI (tab s.length (skB adI (cdB s) f)) f))) (x2 x3 x4 x8 x9 x10 x13 x14 x16 x17 x18 x20 x21 x22 x25 x26 x27 x28 x29 x30 x31 x32 x33 x34 x35 x36 x37 x38 x39 x40 x41 x42 x43 x44 x45 x46 x47 x48 x49 x50 x51 x52 x53 x54 x55 x56 x57 x58 x59 x60 x61 x62 x63 x64 x65 x66 x67 x68 x69 x70 x71 x72 x73 x74 x75 x76 x77 x78 x79 x80 x81 x82 x83 x84 x85 x86 x87 x88 x89 x90 x91 x92 x93 x94 x95 x96 x97 x98 x99 x100 x101 x102 x103 x104 x105 x106 x107 x108 x109 x110 x111 x112 x113 x114 x115 x116 x117 x118 x119 x120 x121 x122 x123 x124 x125 x126 x127 x128 x129 x130 x131 x132 x133 x134 x135 x136 x137 x138 x139 x140 x141 x142 x143 x144 x145 x146 x147 x148 x149 x150 x151 x152 x153 x154 x155 x156 x157 x158 x159 x160 x161 x162 x163 x164 x165 x166 x167 x168 x169 x170 x171 x172 x173 x174 x175 x176 x177 x178 x179 x180 x181 x182 x183 x184 x185 x186 x187 x188 x189 x190 x191 x192 x193 x194 x195 x196 x197 x198 x199 x200 x201 x202 x203 x204 x205 x206 x207 x208 x209 x210 x211 x212 x213 x214 x215 x216 x217 x218 x219 x220 x221 x222 x223 x224 x225 x226 x227 x228 x229 x230 x231 x232 x233 x234 x235 x236 x237 x238 x239 x240 x241 x242 x243 x244 x245 x246 x247 x248 x249 x250 x251 x252 x253 x254 x255 x256 x257 x258 x259 x260 x261 x262 x263 x264 x265 x266 x267 x268 x269 x270 x271 x272 x273 x274 x275 x276 x277 x278 x279 x280 x281 x282 x283 x284 x285 x286 x287 x288 x289 x290 x291 x292 x293 x294 x295 x296 x297 x298 x299 x300 x301 x302 x303 x304 x305 x306 x307 x308 x309 x310 x311 x312 x313 x314 x315 x316 x317 x318 x319 x320 x321 x322 x323 x324 x325 x326 x327 x328 x329 x330 x331 x332 x333 x334 x335 x336 x337 x338 x339 x340 x341 x342 x343 x344 x345 x346 x347 x348 x349 x350 x351 x352 x353 x354 x355 x356 x357 x358 x359 x360 x361 x362 x363 x364 x365 x366 x367 x368 x369 x370 x371 x372 x373 x374 x375 x376 x377 x378 x379 x380 x381 x382 x383 x384 x385 x386 x387 x388 x389 x390 x391 x392 x393 x394 x395 x396 x397 x398 x399 x400 x401 x402 x403 x404 x405 x406 x407 x408 x409 x410 x411 x412 x413 x414 x415 x416 x417 x418 x419 x420 x421 x422 x423 x424 x425 x426 x427 x428 x429 x430 x431 x432 x433 x434 x435 x436 x437 x438 x439 x440 x441 x442 x443 x444 x445 x446 x447 x448 x449 x450 x451 : Value) :
    Code.wp Try.prog (cRest 2 (cThen (cHead 12 (bodyOf Try.f3)))) (Exit.then KK (qS w0)) { tmps := List.toArray ((.slice u1 n1 c1) :: (.slice u2 n2 c2) :: x2 :: x3 :: x4 :: (.slice a_s n c_s) :: (.int .i64 f) :: (.slice a_b n c_b) :: x8 :: x9 :: x10 :: (v_g) :: (.bool one) :: x13 :: x14 :: (.int .i64 mo) :: x16 :: x17 :: x18 :: (.slice a_x n c_x) :: x20 :: x21 :: x22 :: (v_v) :: (.bool sv) :: x25 :: x26 :: x27 :: x28 :: x29 :: x30 :: x31 :: x32 :: x33 :: x34 :: x35 :: x36 :: x37 :: x38 :: x39 :: x40 :: x41 :: x42 :: x43 :: x44 :: x45 :: x46 :: x47 :: x48 :: x49 :: x50 :: x51 :: x52 :: x53 :: x54 :: x55 :: x56 :: x57 :: x58 :: x59 :: x60 :: x61 :: x62 :: x63 :: x64 :: x65 :: x66 :: x67 :: x68 :: x69 :: x70 :: x71 :: x72 :: x73 :: x74 :: x75 :: x76 :: x77 :: x78 :: x79 :: x80 :: x81 :: x82 :: x83 :: x84 :: x85 :: x86 :: x87 :: x88 :: x89 :: x90 :: x91 :: x92 :: x93 :: x94 :: x95 :: x96 :: x97 :: x98 :: x99 :: x100 :: x101 :: x102 :: x103 :: x104 :: x105 :: x106 :: x107 :: x108 :: x109 :: x110 :: x111 :: x112 :: x113 :: x114 :: x115 :: x116 :: x117 :: x118 :: x119 :: x120 :: x121 :: x122 :: x123 :: x124 :: x125 :: x126 :: x127 :: x128 :: x129 :: x130 :: x131 :: x132 :: x133 :: x134 :: x135 :: x136 :: x137 :: x138 :: x139 :: x140 :: x141 :: x142 :: x143 :: x144 :: x145 :: x146 :: x147 :: x148 :: x149 :: x150 :: x151 :: x152 :: x153 :: x154 :: x155 :: x156 :: x157 :: x158 :: x159 :: x160 :: x161 :: x162 :: x163 :: x164 :: x165 :: x166 :: x167 :: x168 :: x169 :: x170 :: x171 :: x172 :: x173 :: x174 :: x175 :: x176 :: x177 :: x178 :: x179 :: x180 :: x181 :: x182 :: x183 :: x184 :: x185 :: x186 :: x187 :: x188 :: x189 :: x190 :: x191 :: x192 :: x193 :: x194 :: x195 :: x196 :: x197 :: x198 :: x199 :: x200 :: x201 :: x202 :: x203 :: x204 :: x205 :: x206 :: x207 :: x208 :: x209 :: x210 :: x211 :: x212 :: x213 :: x214 :: x215 :: x216 :: x217 :: x218 :: x219 :: x220 :: x221 :: x222 :: x223 :: x224 :: x225 :: x226 :: x227 :: x228 :: x229 :: x230 :: x231 :: x232 :: x233 :: x234 :: x235 :: x236 :: x237 :: x238 :: x239 :: x240 :: x241 :: x242 :: x243 :: x244 :: x245 :: x246 :: x247 :: x248 :: x249 :: x250 :: x251 :: x252 :: x253 :: x254 :: x255 :: x256 :: x257 :: x258 :: x259 :: x260 :: x261 :: x262 :: x263 :: x264 :: x265 :: x266 :: x267 :: x268 :: x269 :: x270 :: x271 :: x272 :: x273 :: x274 :: x275 :: x276 :: x277 :: x278 :: x279 :: x280 :: x281 :: x282 :: x283 :: x284 :: x285 :: x286 :: x287 :: x288 :: x289 :: x290 :: x291 :: x292 :: x293 :: x294 :: x295 :: x296 :: x297 :: x298 :: x299 :: x300 :: x301 :: x302 :: x303 :: x304 :: x305 :: x306 :: x307 :: x308 :: x309 :: x310 :: x311 :: x312 :: x313 :: x314 :: x315 :: x316 :: x317 :: x318 :: x319 :: x320 :: x321 :: x322 :: x323 :: x324 :: x325 :: x326 :: x327 :: x328 :: x329 :: x330 :: x331 :: x332 :: x333 :: x334 :: x335 :: x336 :: x337 :: x338 :: x339 :: x340 :: x341 :: x342 :: x343 :: x344 :: x345 :: x346 :: x347 :: x348 :: x349 :: x350 :: x351 :: x352 :: x353 :: x354 :: x355 :: x356 :: x357 :: x358 :: x359 :: x360 :: x361 :: x362 :: x363 :: x364 :: x365 :: x366 :: x367 :: x368 :: x369 :: x370 :: x371 :: x372 :: x373 :: x374 :: x375 :: x376 :: x377 :: x378 :: x379 :: x380 :: x381 :: x382 :: x383 :: x384 :: x385 :: x386 :: x387 :: x388 :: x389 :: x390 :: x391 :: x392 :: x393 :: x394 :: x395 :: x396 :: x397 :: x398 :: x399 :: x400 :: x401 :: x402 :: x403 :: x404 :: x405 :: x406 :: x407 :: x408 :: x409 :: x410 :: x411 :: x412 :: x413 :: x414 :: x415 :: x416 :: x417 :: x418 :: x419 :: x420 :: x421 :: x422 :: x423 :: x424 :: x425 :: x426 :: x427 :: x428 :: x429 :: x430 :: x431 :: x432 :: x433 :: x434 :: x435 :: x436 :: x437 :: x438 :: x439 :: x440 :: x441 :: x442 :: x443 :: x444 :: x445 :: x446 :: x447 :: x448 :: x449 :: x450 :: x451 :: []), defers := [] } w := by
  rw [show cRest 2 (cThen (cHead 12 (bodyOf Try.f3))) = .seq (cHead 2 (cThen (cHead 12 (bodyOf Try.f3)))) (cRest 3 (cThen (cHead 12 (bodyOf Try.f3)))) from by kernel_rfl]
  refine wp_seq_k ?_
  intro K2 hK2
  have HK2 := hid hK2
  clear hK2
  simp only [bodyOf, Try.f3, Option.getD_some, cHead, cThen]
  have HB := hid hB
  have HBY := hid hby
  clear hB hby
  cases sv
  · go_wp2_with fail
    refine HK2.out _ _ ?_
    exact steps_A2c u1 u2 n1 c1 n2 c2 w0 w HB.out HBY.out hl2 KK HK s f n hn Hn HG f1 f2 a_s a_x c_s c_x Rd_s Rd_x HSx _ _ _ _ _ _ _ _ _ _ _ _ _ _ _ _ _ _ _ _ _ _ _ _ _ _ _ _ _ _ _ _ _ _ _ _ _ _ _ _ _ _ _ _ _ _ _ _ _ _ _ _ _ _ _ _ _ _ _ _ _ _ _ _ _ _ _ _ _ _ _ _ _ _ _ _ _ _ _ _ _ _ _ _ _ _ _ _ _ _ _ _ _ _ _ _ _ _ _ _ _ _ _ _ _ _ _ _ _ _ _ _ _ _ _ _ _ _ _ _ _ _ _ _ _ _ _ _ _ _ _ _ _ _ _ _ _ _ _ _ _ _ _ _ _ _ _ _ _ _ _ _ _ _ _ _ _ _ _ _ _ _ _ _ _ _ _ _ _ _ _ _ _ _ _ _ _ _ _ _ _ _ _ _ _ _ _ _ _ _ _ _ _ _ _ _ _ _ _ _ _ _ _ _ _ _ _ _ _ _ _ _ _ _ _ _ _ _ _ _ _ _ _ _ _ _ _ _ _ _ _ _ _ _ _ _ _ _ _ _ _ _ _ _ _ _ _ _ _ _ _ _ _ _ _ _ _ _ _ _ _ _ _ _ _ _ _ _ _ _ _ _ _ _ _ _ _ _ _ _ _ _ _ _ _ _ _ _ _ _ _ _ _ _ _ _ _ _ _ _ _ _ _ _ _ _ _ _ _ _ _ _ _ _ _ _ _ _ _ _ _ _ _ _ _ _ _ _ _ _ _ _ _ _ _ _ _ _ _ _ _ _ _ _ _ _ _ _ _ _ _ _ _ _ _ _ _ _ _ _ _ _ _ _ _ _ _ _ _ _ _ _ _ _ _ _ _ _ _ _ _ _ _ _ _ _ _ _ _ _ _ _ _ _ _ _ _ _ _ _ _ _ _ _ _ _ _ _ _ _ _ _ _ _ _ _ _ _ _ _ _ _ _ _ _ _ _ _ _ _ _ _ _ _ _ _ _ _ _ _ _ _ _ _ _ _ _
  · obtain ⟨a_v, n_v, c_v, rfl, hn_v, rd_v⟩ := (HVv.out rfl).rd
    obtain rfl : n = n_v := by rw [hn_v, vaL, tab_len, tab_len]; exact Hn.out
    have Rd_v := hid rd_v
    clear hn_v rd_v
    cases one
    · skip
      go_wp2_with fail
      go_loopw [25, 183] (fun be i wr => ∃ c : Nat, c ≤ n ∧ i = .int .i64 c ∧ be = .int .i64 (skV adI (cdB s) f c) ∧ Below w.heap.size w wr)
        (fun _ i _ => n - (intOf i).toNat)
      case atStart => exact ⟨0, by omega, rfl, rfl, Below.refl _ _⟩
      case round =>
        obtain ⟨c, hc, rfl, rfl, hb⟩ := hrel
        by_cases hlc : c < n
        · obtain ⟨x, hkx⟩ := get_lt s c (by rw [← Hn.out]; exact hlc)
          obtain ⟨x1, x2⟩ := HG.out.2.at hkx
          have hkB : (tab s.length (skB adI (cdB s) f))[c]? = some (skB adI (cdB s) f c) := tab_get _ _ _ (by rw [← Hn.out]; exact hlc)
          have hkO : (vaL adI (tab s.length (skB adI (cdB s) f)) f)[c]? = some (skV adI (cdB s) f (c + 1)) := by
            unfold vaL; rw [tab_get _ _ _ (by rw [tab_len, ← Hn.out]; exact hlc), skV_same _ (by rw [← Hn.out]; exact hlc)]
          obtain ⟨b0, o0, ix0, hb0, ce0⟩ := (Rd_s.out.kept hb).at (P := Try.prog) (T := 24) n c_s uslice sone hkx hlc
          obtain ⟨b1, o1, ix1, hb1, ce1⟩ := (Rd_b.out.kept hb).at (P := Try.prog) (T := 24) n c_b uslice sone hkB hlc
          obtain ⟨b2, o2, ix2, hb2, ce2⟩ := (Rd_v.out.kept hb).at (P := Try.prog) (T := 24) n c_v uslice sone hkO hlc
          obtain ⟨v1, v2⟩ := skV_in' (nx := adI) (B := cdB s) (n := s.length) ad_keeps f1 f2 (fun k v h => cdB_in s _ k v h) c (by rw [← Hn.out]; omega) (by rw [← Hn.out]; omega)
          obtain ⟨y1, y2⟩ := skV_in' (nx := adI) (B := cdB s) (n := s.length) ad_keeps f1 f2 (fun k v h => cdB_in s _ k v h) (c + 1) (by rw [← Hn.out]; omega) (by rw [← Hn.out]; omega)
          have hB : skB adI (cdB s) f c = bI x (skV adI (cdB s) f c) := by rw [skB_eq, cdB_at hkx]
          rw [hB] at ce1
          clear hkx hkB hkO hB
          generalize hO0 : skV adI (cdB s) f (c + 1) = O at *
          generalize skV adI (cdB s) f c = U at *
          skip
          have HO0 := hid hO0
          have HHb := hid hb
          clear hO0
          by_cases hvx : U ≤ x
          · have hb1 : bI x U = 1 := if_pos hvx
            rw [hb1] at ce1
            have cd : decide (U ≤ x) = true := decide_eq_true hvx
            clear hb1 hvx
            as_aux_lemma =>
              go_wp2_with fail
              go_quiet (fail)
              have ce2q : (wr.drewN nq).cell? ⟨b2, o2, none⟩ = some (.int .i64 O) := ce2
              have hbq := below_drewN HHb.out nq
              generalize wr.drewN nq = wq at ce2q hbq ⊢
              go_wp2_with fail
              go_roundw
              case rel => exact ⟨c + 1, by omega, by go_num, by rw [HO0.out], hbq⟩
              case measure => simp [intOf]; omega
          · have hb1 : bI x U = -1 := if_neg hvx
            rw [hb1] at ce1
            have cd : decide (U ≤ x) = false := decide_eq_false hvx
            clear hb1 hvx
            as_aux_lemma =>
              go_wp2_with fail
              go_quiet (fail)
              have ce2q : (wr.drewN nq).cell? ⟨b2, o2, none⟩ = some (.int .i64 O) := ce2
              have hbq := below_drewN HHb.out nq
              generalize wr.drewN nq = wq at ce2q hbq ⊢
              go_wp2_with fail
              go_roundw
              case rel => exact ⟨c + 1, by omega, by go_num, by rw [HO0.out], hbq⟩
              case measure => simp [intOf]; omega
        · have hge : (n : Int) ≤ (c : Int) := by omega
          have HHb := hid (bel_step HB.out hb)
          have HBY := hid (By.later HBY.out hb)
          have Hb := hid hb
          clear hlc hb
          go_wp2_with fail
          refine HK2.out _ _ ?_
          exact steps_A2c u1 u2 n1 c1 n2 c2 w0 wr HHb.out HBY.out hl2 KK HK s f n hn Hn HG f1 f2 a_s a_x c_s c_x (hid (Rd_s.out.kept Hb.out)) (hid (Rd_x.out.kept Hb.out)) (hid (HSx.out.kept Hb.out)) _ _ _ _ _ _ _ _ _ _ _ _ _ _ _ _ _ _ _ _ _ _ _ _ _ _ _ _ _ _ _ _ _ _ _ _ _ _ _ _ _ _ _ _ _ _ _ _ _ _ _ _ _ _ _ _ _ _ _ _ _ _ _ _ _ _ _ _ _ _ _ _ _ _ _ _ _ _ _ _ _ _ _ _ _ _ _ _ _ _ _ _ _ _ _ _ _ _ _ _ _ _ _ _ _ _ _ _ _ _ _ _ _ _ _ _ _ _ _ _ _ _ _ _ _ _ _ _ _ _ _ _ _ _ _ _ _ _ _ _ _ _ _ _ _ _ _ _ _ _ _ _ _ _ _ _ _ _ _ _ _ _ _ _ _ _ _ _ _ _ _ _ _ _ _ _ _ _ _ _ _ _ _ _ _ _ _ _ _ _ _ _ _ _ _ _ _ _ _ _ _ _ _ _ _ _ _ _ _ _ _ _ _ _ _ _ _ _ _ _ _ _ _ _ _ _ _ _ _ _ _ _ _ _ _ _ _ _ _ _ _ _ _ _ _ _ _ _ _ _ _ _ _ _ _ _ _ _ _ _ _ _ _ _ _ _ _ _ _ _ _ _ _ _ _ _ _ _ _ _ _ _ _ _ _ _ _ _ _ _ _ _ _ _ _ _ _ _ _ _ _ _ _ _ _ _ _ _ _ _ _ _ _ _ _ _ _ _ _ _ _ _ _ _ _ _ _ _ _ _ _ _ _ _ _ _ _ _ _ _ _ _ _ _ _ _ _ _ _ _ _ _ _ _ _ _ _ _ _ _ _ _ _ _ _ _ _ _ _ _ _ _ _ _ _ _ _ _ _ _ _ _ _ _ _ _ _ _ _ _ _ _ _ _ _ _ _ _ _ _ _ _ _ _ _ _ _ _ _ _ _ _ _ _ _ _ _ _ _ _ _ _ _ _ _ _ _ _ _ _ _ _ _ _ _ _ _ _ _ _ _ _ _ _ _ _ _
    · obtain ⟨a_g, n_g, c_g, rfl, hn_g, rd_g⟩ := (HGp.out rfl).rd
      obtain rfl : n = n_g := by rw [hn_g, gpL9_len]; exact Hn.out
      have Rd_g := hid rd_g
      clear hn_g rd_g
      go_wp2_with fail
      go_loopw [25, 183] (fun be i wr => ∃ c : Nat, c ≤ n ∧ i = .int .i64 c ∧ be = .int .i64 (skV adI (cdB s) f c) ∧ Below w.heap.size w wr)
        (fun _ i _ => n - (intOf i).toNat)
      case atStart => exact ⟨0, by omega, rfl, rfl, Below.refl _ _⟩
      case round =>
        obtain ⟨c, hc, rfl, rfl, hb⟩ := hrel
        by_cases hlc : c < n
        · obtain ⟨x, hkx⟩ := get_lt s c (by rw [← Hn.out]; exact hlc)
          obtain ⟨x1, x2⟩ := HG.out.2.at hkx
          have hkB : (tab s.length (skB adI (cdB s) f))[c]? = some (skB adI (cdB s) f c) := tab_get _ _ _ (by rw [← Hn.out]; exact hlc)
          have hkO : (vaL adI (tab s.length (skB adI (cdB s) f)) f)[c]? = some (skV adI (cdB s) f (c + 1)) := by
            unfold vaL; rw [tab_get _ _ _ (by rw [tab_len, ← Hn.out]; exact hlc), skV_same _ (by rw [← Hn.out]; exact hlc)]
          obtain ⟨b0, o0, ix0, hb0, ce0⟩ := (Rd_s.out.kept hb).at (P := Try.prog) (T := 24) n c_s uslice sone hkx hlc
          obtain ⟨b1, o1, ix1, hb1, ce1⟩ := (Rd_b.out.kept hb).at (P := Try.prog) (T := 24) n c_b uslice sone hkB hlc
          obtain ⟨b2, o2, ix2, hb2, ce2⟩ := (Rd_v.out.kept hb).at (P := Try.prog) (T := 24) n c_v uslice sone hkO hlc
          have hkG : (gpL9 s f)[c]? = some (gpI9 s f c) := tab_get _ _ _ (by rw [← Hn.out]; exact hlc)
          obtain ⟨b3, o3, ix3, hb3, ce3⟩ := (Rd_g.out.kept hb).at (P := Try.prog) (T := 24) n c_g uslice sone hkG hlc
          have hG : gpI9 s f c = x - skV adI (cdB s) f (c + 1) := by unfold gpI9; rw [at0_of hkx]
          have hmo : absI (gpI9 s f c) ≤ mo := by rw [Hmo.out]; exact pkM_ge _ _ (List.mem_of_getElem? hkG)
          obtain ⟨v1, v2⟩ := skV_in' (nx := adI) (B := cdB s) (n := s.length) ad_keeps f1 f2 (fun k v h => cdB_in s _ k v h) c (by rw [← Hn.out]; omega) (by rw [← Hn.out]; omega)
          obtain ⟨y1, y2⟩ := skV_in' (nx := adI) (B := cdB s) (n := s.length) ad_keeps f1 f2 (fun k v h => cdB_in s _ k v h) (c + 1) (by rw [← Hn.out]; omega) (by rw [← Hn.out]; omega)
          have hB : skB adI (cdB s) f c = bI x (skV adI (cdB s) f c) := by rw [skB_eq, cdB_at hkx]
          rw [hB] at ce1
          clear hkx hkB hkO hB hkG
          generalize hO0 : skV adI (cdB s) f (c + 1) = O at *
          generalize skV adI (cdB s) f c = U at *
          generalize gpI9 s f c = G at *
          have e4 : IntKind.i64.wrap (x - O) = G := by rw [hG]; exact IntWalk.i64_in _ (by omega)
          have cm : decide (mo < absI G) = false := decide_eq_false (by omega)
          have KA := fun (W : World) => uAbs_any G W (by omega) (by omega)
          have KA := hid KA
          clear hG hmo
          have HO0 := hid hO0
          have HHb := hid hb
          clear hO0
          by_cases hvx : U ≤ x
          · have hb1 : bI x U = 1 := if_pos hvx
            rw [hb1] at ce1
            have cd : decide (U ≤ x) = true := decide_eq_true hvx
            clear hb1 hvx
            as_aux_lemma =>
              go_wp2_with fail
              go_quiet ((go_at_call 16; exact Calls.quiet_of_same ((KA.out _).mono fun e w' h => ⟨h.1, h.2.symm⟩)))
              have ce2q : (wr.drewN nq).cell? ⟨b2, o2, none⟩ = some (.int .i64 O) := ce2
              have hbq := below_drewN HHb.out nq
              generalize wr.drewN nq = wq at ce2q hbq ⊢
              go_wp2_with fail
              go_roundw
              case rel => exact ⟨c + 1, by omega, by go_num, by rw [HO0.out], hbq⟩
              case measure => simp [intOf]; omega
          · have hb1 : bI x U = -1 := if_neg hvx
            rw [hb1] at ce1
            have cd : decide (U ≤ x) = false := decide_eq_false hvx
            clear hb1 hvx
            as_aux_lemma =>
              go_wp2_with fail
              go_quiet ((go_at_call 16; exact Calls.quiet_of_same ((KA.out _).mono fun e w' h => ⟨h.1, h.2.symm⟩)))
              have ce2q : (wr.drewN nq).cell? ⟨b2, o2, none⟩ = some (.int .i64 O) := ce2
              have hbq := below_drewN HHb.out nq
              generalize wr.drewN nq = wq at ce2q hbq ⊢
              go_wp2_with fail
              go_roundw
              case rel => exact ⟨c + 1, by omega, by go_num, by rw [HO0.out], hbq⟩
              case measure => simp [intOf]; omega
        · have hge : (n : Int) ≤ (c : Int) := by omega
          have HHb := hid (bel_step HB.out hb)
          have HBY := hid (By.later HBY.out hb)
          have Hb := hid hb
          clear hlc hb
          go_wp2_with fail
          refine HK2.out _ _ ?_
          exact steps_A2c u1 u2 n1 c1 n2 c2 w0 wr HHb.out HBY.out hl2 KK HK s f n hn Hn HG f1 f2 a_s a_x c_s c_x (hid (Rd_s.out.kept Hb.out)) (hid (Rd_x.out.kept Hb.out)) (hid (HSx.out.kept Hb.out)) _ _ _ _ _ _ _ _ _ _ _ _ _ _ _ _ _ _ _ _ _ _ _ _ _ _ _ _ _ _ _ _ _ _ _ _ _ _ _ _ _ _ _ _ _ _ _ _ _ _ _ _ _ _ _ _ _ _ _ _ _ _ _ _ _ _ _ _ _ _ _ _ _ _ _ _ _ _ _ _ _ _ _ _ _ _ _ _ _ _ _ _ _ _ _ _ _ _ _ _ _ _ _ _ _ _ _ _ _ _ _ _ _ _ _ _ _ _ _ _ _ _ _ _ _ _ _ _ _ _ _ _ _ _ _ _ _ _ _ _ _ _ _ _ _ _ _ _ _ _ _ _ _ _ _ _ _ _ _ _ _ _ _ _ _ _ _ _ _ _ _ _ _ _ _ _ _ _ _ _ _ _ _ _ _ _ _ _ _ _ _ _ _ _ _ _ _ _ _ _ _ _ _ _ _ _ _ _ _ _ _ _ _ _ _ _ _ _ _ _ _ _ _ _ _ _ _ _ _ _ _ _ _ _ _ _ _ _ _ _ _ _ _ _ _ _ _ _ _ _ _ _ _ _ _ _ _ _ _ _ _ _ _ _ _ _ _ _ _ _ _ _ _ _ _ _ _ _ _ _ _ _ _ _ _ _ _ _ _ _ _ _ _ _ _ _ _ _ _ _ _ _ _ _ _ _ _ _ _ _ _ _ _ _ _ _ _ _ _ _ _ _ _ _ _ _ _ _ _ _ _ _ _ _ _ _ _ _ _ _ _ _ _ _ _ _ _ _ _ _ _ _ _ _ _ _ _ _ _ _ _ _ _ _ _ _ _ _ _ _ _ _ _ _ _ _ _ _ _ _ _ _ _ _ _ _ _ _ _ _ _ _ _ _ _ _ _ _ _ _ _ _ _ _ _ _ _ _ _ _ _ _ _ _ _ _ _ _ _ _ _ _ _ _ _ _ _ _ _ _ _ _ _ _ _ _ _ _ _ _ _ _ _ _ _ _ _

end Go.Proofs.Ythkfjoonkkmgiaa
