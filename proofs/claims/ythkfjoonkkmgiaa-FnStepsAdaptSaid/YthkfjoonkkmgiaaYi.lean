
import Derived.Test.YthkfjoonkkmgiaaYh
namespace Go.Proofs.Ythkfjoonkkmgiaa
open Go.RowKit BitX Go.MemX Go.Ch6 Go.Ch9 Go.ChV
set_option linter.unusedVariables false


set_option maxRecDepth 20000 in
set_option maxHeartbeats 8000000 in
theorem steps_B1 (u1 u2 : Option Addr) (n1 c1 n2 c2 : Nat) (w0 w : World) (hB : Below w0.heap.size w0 w) (hby : By w.heap.size w u2 n2) (hl2 : n2 ≤ 1048576) (x2 x3 x4 x5 x6 x7 x8 x9 x10 x11 x12 x13 x14 x15 x16 x17 x18 x19 x20 x21 x22 x23 x24 x25 x26 x27 x28 x29 x30 x31 x32 x33 x34 x35 x36 x37 x38 x39 x40 x41 x42 x43 x44 x45 x46 x47 x48 x49 x50 x51 x52 x53 x54 x55 x56 x57 x58 x59 x60 x61 x62 x63 x64 x65 x66 x67 x68 x69 x70 x71 x72 x73 x74 x75 x76 x77 x78 x79 x80 x81 x82 x83 x84 x85 x86 x87 x88 x89 x90 x91 x92 x93 x94 x95 x96 x97 x98 x99 x100 x101 x102 x103 x104 x105 x106 x107 x108 x109 x110 x111 x112 x113 x114 x115 x116 x117 x118 x119 x120 x121 x122 x123 x124 x125 x126 x127 x128 x129 x130 x131 x132 x133 x134 x135 x136 x137 x138 x139 x140 x141 x142 x143 x144 x145 x146 x147 x148 x149 x150 x151 x152 x153 x154 x155 x156 x157 x158 x159 x160 x161 x162 x163 x164 x165 x166 x167 x168 x169 x170 x171 x172 x173 x174 x175 x176 x177 x178 x179 x180 x181 x182 x183 x184 x185 x186 x187 x188 x189 x190 x191 x192 x193 x194 x195 x196 x197 x198 x199 x200 x201 x202 x203 x204 x205 x206 x207 x208 x209 x210 x211 x212 x213 x214 x215 x216 x217 x218 x219 x220 x221 x222 x223 x224 x225 x226 x227 x228 x229 x230 x231 x232 x233 x234 x235 x236 x237 x238 x239 x240 x241 x242 x243 x244 x245 x246 x247 x248 x249 x250 x251 x252 x253 x254 x255 x256 x257 x258 x259 x260 x261 x262 x263 x264 x265 x266 x267 x268 x269 x270 x271 x272 x273 x274 x275 x276 x277 x278 x279 x280 x281 x282 x283 x284 x285 x286 x287 x288 x289 x290 x291 x292 x293 x294 x295 x296 x297 x298 x299 x300 x301 x302 x303 x304 x305 x306 x307 x308 x309 x310 x311 x312 x313 x314 x315 x316 x317 x318 x319 x320 x321 x322 x323 x324 x325 x326 x327 x328 x329 x330 x331 x332 x333 x334 x335 x336 x337 x338 x339 x340 x341 x342 x343 x344 x345 x346 x347 x348 x349 x350 x351 x352 x353 x354 x355 x356 x357 x358 x359 x360 x361 x362 x363 x364 x365 x366 x367 x368 x369 x370 x371 x372 x373 x374 x375 x376 x377 x378 x379 x380 x381 x382 x383 x384 x385 x386 x387 x388 x389 x390 x391 x392 x393 x394 x395 x396 x397 x398 x399 x400 x401 x402 x403 x404 x405 x406 x407 x408 x409 x410 x411 x412 x413 x414 x415 x416 x417 x418 x419 x420 x421 x422 x423 x424 x425 x426 x427 x428 x429 x430 x431 x432 x433 x434 x435 x436 x437 x438 x439 x440 x441 x442 x443 x444 x445 x446 x447 x448 x449 x450 x451 : Value) :
    Code.wp Try.prog (cRest 13 (bodyOf Try.f3)) (qS w0) { tmps := List.toArray ((.slice u1 n1 c1) :: (.slice u2 n2 c2) :: x2 :: x3 :: x4 :: x5 :: x6 :: x7 :: x8 :: x9 :: x10 :: x11 :: x12 :: x13 :: x14 :: x15 :: x16 :: x17 :: x18 :: x19 :: x20 :: x21 :: x22 :: x23 :: x24 :: x25 :: x26 :: x27 :: x28 :: x29 :: x30 :: x31 :: x32 :: x33 :: x34 :: x35 :: x36 :: x37 :: x38 :: x39 :: x40 :: x41 :: x42 :: x43 :: x44 :: x45 :: x46 :: x47 :: x48 :: x49 :: x50 :: x51 :: x52 :: x53 :: x54 :: x55 :: x56 :: x57 :: x58 :: x59 :: x60 :: x61 :: x62 :: x63 :: x64 :: x65 :: x66 :: x67 :: x68 :: x69 :: x70 :: x71 :: x72 :: x73 :: x74 :: x75 :: x76 :: x77 :: x78 :: x79 :: x80 :: x81 :: x82 :: x83 :: x84 :: x85 :: x86 :: x87 :: x88 :: x89 :: x90 :: x91 :: x92 :: x93 :: x94 :: x95 :: x96 :: x97 :: x98 :: x99 :: x100 :: x101 :: x102 :: x103 :: x104 :: x105 :: x106 :: x107 :: x108 :: x109 :: x110 :: x111 :: x112 :: x113 :: x114 :: x115 :: x116 :: x117 :: x118 :: x119 :: x120 :: x121 :: x122 :: x123 :: x124 :: x125 :: x126 :: x127 :: x128 :: x129 :: x130 :: x131 :: x132 :: x133 :: x134 :: x135 :: x136 :: x137 :: x138 :: x139 :: x140 :: x141 :: x142 :: x143 :: x144 :: x145 :: x146 :: x147 :: x148 :: x149 :: x150 :: x151 :: x152 :: x153 :: x154 :: x155 :: x156 :: x157 :: x158 :: x159 :: x160 :: x161 :: x162 :: x163 :: x164 :: x165 :: x166 :: x167 :: x168 :: x169 :: x170 :: x171 :: x172 :: x173 :: x174 :: x175 :: x176 :: x177 :: x178 :: x179 :: x180 :: x181 :: x182 :: x183 :: x184 :: x185 :: x186 :: x187 :: x188 :: x189 :: x190 :: x191 :: x192 :: x193 :: x194 :: x195 :: x196 :: x197 :: x198 :: x199 :: x200 :: x201 :: x202 :: x203 :: x204 :: x205 :: x206 :: x207 :: x208 :: x209 :: x210 :: x211 :: x212 :: x213 :: x214 :: x215 :: x216 :: x217 :: x218 :: x219 :: x220 :: x221 :: x222 :: x223 :: x224 :: x225 :: x226 :: x227 :: x228 :: x229 :: x230 :: x231 :: x232 :: x233 :: x234 :: x235 :: x236 :: x237 :: x238 :: x239 :: x240 :: x241 :: x242 :: x243 :: x244 :: x245 :: x246 :: x247 :: x248 :: x249 :: x250 :: x251 :: x252 :: x253 :: x254 :: x255 :: x256 :: x257 :: x258 :: x259 :: x260 :: x261 :: x262 :: x263 :: x264 :: x265 :: x266 :: x267 :: x268 :: x269 :: x270 :: x271 :: x272 :: x273 :: x274 :: x275 :: x276 :: x277 :: x278 :: x279 :: x280 :: x281 :: x282 :: x283 :: x284 :: x285 :: x286 :: x287 :: x288 :: x289 :: x290 :: x291 :: x292 :: x293 :: x294 :: x295 :: x296 :: x297 :: x298 :: x299 :: x300 :: x301 :: x302 :: x303 :: x304 :: x305 :: x306 :: x307 :: x308 :: x309 :: x310 :: x311 :: x312 :: x313 :: x314 :: x315 :: x316 :: x317 :: x318 :: x319 :: x320 :: x321 :: x322 :: x323 :: x324 :: x325 :: x326 :: x327 :: x328 :: x329 :: x330 :: x331 :: x332 :: x333 :: x334 :: x335 :: x336 :: x337 :: x338 :: x339 :: x340 :: x341 :: x342 :: x343 :: x344 :: x345 :: x346 :: x347 :: x348 :: x349 :: x350 :: x351 :: x352 :: x353 :: x354 :: x355 :: x356 :: x357 :: x358 :: x359 :: x360 :: x361 :: x362 :: x363 :: x364 :: x365 :: x366 :: x367 :: x368 :: x369 :: x370 :: x371 :: x372 :: x373 :: x374 :: x375 :: x376 :: x377 :: x378 :: x379 :: x380 :: x381 :: x382 :: x383 :: x384 :: x385 :: x386 :: x387 :: x388 :: x389 :: x390 :: x391 :: x392 :: x393 :: x394 :: x395 :: x396 :: x397 :: x398 :: x399 :: x400 :: x401 :: x402 :: x403 :: x404 :: x405 :: x406 :: x407 :: x408 :: x409 :: x410 :: x411 :: x412 :: x413 :: x414 :: x415 :: x416 :: x417 :: x418 :: x419 :: x420 :: x421 :: x422 :: x423 :: x424 :: x425 :: x426 :: x427 :: x428 :: x429 :: x430 :: x431 :: x432 :: x433 :: x434 :: x435 :: x436 :: x437 :: x438 :: x439 :: x440 :: x441 :: x442 :: x443 :: x444 :: x445 :: x446 :: x447 :: x448 :: x449 :: x450 :: x451 :: []), defers := [] } w := by
  rw [show cRest 13 (bodyOf Try.f3) = .seq (cHead 13 (bodyOf Try.f3)) (.seq (cHead 14 (bodyOf Try.f3)) (.seq (cHead 15 (bodyOf Try.f3)) (.seq (cHead 16 (bodyOf Try.f3)) (.seq (cHead 17 (bodyOf Try.f3)) (.seq (cHead 18 (bodyOf Try.f3)) (.seq (cHead 19 (bodyOf Try.f3)) (.seq (cHead 20 (bodyOf Try.f3)) (.seq (cHead 21 (bodyOf Try.f3)) (cRest 22 (bodyOf Try.f3)))))))))) from by kernel_rfl]
  generalize hR : cRest 22 (bodyOf Try.f3) = R
  have HR := hid hR
  clear hR
  simp only [bodyOf, Try.f3, Option.getD_some, cHead]
  have HB := hid hB
  have HBY := hid hby
  clear hB hby
  go_wp2_with fail
  refine (DrawStepsOfBits_any u2 n2 c2 _ HBY.out hl2).mono ?_
  rintro e w1 ⟨⟨v_b, b, f, rfl, r_b, hbl, f1, f2⟩, hb⟩
  obtain ⟨a_b, n_b, c_b, rfl, hn_b, -⟩ := id r_b.sl.rd
  have HB := hid (bel_step HB.out hb)
  have HBY := hid (By.later HBY.out hb)
  have HR_b := hid r_b
  have Hn := hid hn_b
  clear hb r_b hn_b
  obtain ⟨S, hS⟩ : ∃ S, S = stL b f := ⟨_, rfl⟩
  obtain ⟨V, hV⟩ : ∃ V, V = vaL adI b f := ⟨_, rfl⟩
  obtain ⟨qs, hqs⟩ : ∃ q, q = dL (dG b f) S := ⟨_, rfl⟩
  obtain ⟨qv, hqv⟩ : ∃ q, q = dL (dG b f) V := ⟨_, rfl⟩
  obtain ⟨XS, hXS⟩ : ∃ X, X = onL qs S := ⟨_, rfl⟩
  obtain ⟨XV, hXV⟩ : ∃ X, X = onL qv V := ⟨_, rfl⟩
  have lS : S.length = b.length := by rw [hS]; exact tab_len _ _
  have lV : V.length = b.length := by rw [hV]; exact tab_len _ _
  have lXS : XS.length ≤ 2000000 := by rw [hXS]; unfold onL; split <;> first | omega | (simp; done)
  have lXV : XV.length ≤ 2000000 := by rw [hXV]; unfold onL; split <;> first | omega | (simp; done)
  have KSi := fun (W : World) (v : Value) (h : Sl W v b) => impl_StepsOfBits_any v b f W h
  rw [show (tab b.length fun k => skT adI (tlB b) f (k + 1)) = S from hS.symm, ← hqs, ← hXS] at KSi
  have KSi := hid KSi
  have KSs := fun (W : World) (v : Value) (h : Sl W v b) => spec_StepsOfBits_any v b f W h
  rw [show (tab b.length fun k => skT adI (tlB b) f (k + 1)) = S from hS.symm, ← hqs, ← hXS] at KSs
  have KSs := hid KSs
  have KVi := fun (W : World) (v : Value) (h : Sl W v b) => impl_StepValues_any v b f W h
  rw [show (tab b.length fun k => skV adI (tlB b) f (k + 1)) = V from hV.symm, ← hqv, ← hXV] at KVi
  have KVi := hid KVi
  have KVs := fun (W : World) (v : Value) (h : Sl W v b) => spec_StepValues_any v b f W h
  rw [show (tab b.length fun k => skV adI (tlB b) f (k + 1)) = V from hV.symm, ← hqv, ← hXV] at KVs
  have KVs := hid KVs
  have HS := hid hS
  have HV := hid hV
  have Hqs := hid hqs
  have Hqv := hid hqv
  have HXS := hid hXS
  have HXV := hid hXV
  clear hS hV hqs hqv hXS hXV
  go_wp2_with fail
  refine (KSi.out _ _ HR_b.out.sl).mono ?_
  rintro e w2 ⟨v_Si, rfl, r_Si, hb⟩
  have HB := hid (bel_step HB.out hb)
  have HBY := hid (By.later HBY.out hb)
  have HR_b := hid (HR_b.out.kept hb)
  have HR_Si := hid r_Si
  clear hb r_Si
  go_wp2_with fail
  refine (KSs.out _ _ HR_b.out.sl).mono ?_
  rintro e w3 ⟨v_Ss, rfl, r_Ss, hb⟩
  have HB := hid (bel_step HB.out hb)
  have HBY := hid (By.later HBY.out hb)
  have HR_b := hid (HR_b.out.kept hb)
  have HR_Si := hid (HR_Si.out.kept hb)
  have HR_Ss := hid r_Ss
  clear hb r_Ss
  go_wp2_with fail
  refine (KVi.out _ _ HR_b.out.sl).mono ?_
  rintro e w4 ⟨v_Vi, rfl, r_Vi, hb⟩
  have HB := hid (bel_step HB.out hb)
  have HBY := hid (By.later HBY.out hb)
  have HR_b := hid (HR_b.out.kept hb)
  have HR_Si := hid (HR_Si.out.kept hb)
  have HR_Ss := hid (HR_Ss.out.kept hb)
  have HR_Vi := hid r_Vi
  clear hb r_Vi
  go_wp2_with fail
  refine (KVs.out _ _ HR_b.out.sl).mono ?_
  rintro e w5 ⟨v_Vs, rfl, r_Vs, hb⟩
  have HB := hid (bel_step HB.out hb)
  have HBY := hid (By.later HBY.out hb)
  have HR_b := hid (HR_b.out.kept hb)
  have HR_Si := hid (HR_Si.out.kept hb)
  have HR_Ss := hid (HR_Ss.out.kept hb)
  have HR_Vi := hid (HR_Vi.out.kept hb)
  have HR_Vs := hid r_Vs
  clear hb r_Vs
  clear KSi KSs KVi KVs
  go_wp2_with fail
  refine (DrawFixedValues_any u2 n2 c2 _ HBY.out hl2).mono ?_
  rintro e w6 ⟨⟨v_c, cc, g, rfl, r_c, hcl, g1, g2⟩, hb⟩
  have HB := hid (bel_step HB.out hb)
  have HR_b := hid (HR_b.out.kept hb)
  have HR_Si := hid (HR_Si.out.kept hb)
  have HR_Ss := hid (HR_Ss.out.kept hb)
  have HR_Vi := hid (HR_Vi.out.kept hb)
  have HR_Vs := hid (HR_Vs.out.kept hb)
  have HR_c := hid r_c
  clear hb r_c HBY
  obtain ⟨F, hF⟩ : ∃ F, F = vaL fxI cc g := ⟨_, rfl⟩
  obtain ⟨qf, hqf⟩ : ∃ q, q = dL (dG cc g) F := ⟨_, rfl⟩
  obtain ⟨XF, hXF⟩ : ∃ X, X = onL qf F := ⟨_, rfl⟩
  have lF : F.length = cc.length := by rw [hF]; exact tab_len _ _
  have lXF : XF.length ≤ 2000000 := by rw [hXF]; unfold onL; split <;> first | omega | (simp; done)
  have KFi := fun (W : World) (v : Value) (h : Sl W v cc) => impl_FixedValues_any v cc g W h
  rw [show (tab cc.length fun k => skV fxI (tlB cc) g (k + 1)) = F from hF.symm, ← hqf, ← hXF] at KFi
  have KFi := hid KFi
  have KFs := fun (W : World) (v : Value) (h : Sl W v cc) => spec_FixedValues_any v cc g W h
  rw [show (tab cc.length fun k => skV fxI (tlB cc) g (k + 1)) = F from hF.symm, ← hqf, ← hXF] at KFs
  have KFs := hid KFs
  clear hF hqf hXF lF
  go_wp2_with fail
  refine (KFi.out _ _ HR_c.out.sl).mono ?_
  rintro e w7 ⟨v_Fi, rfl, r_Fi, hb⟩
  have HB := hid (bel_step HB.out hb)
  have HR_b := hid (HR_b.out.kept hb)
  have HR_Si := hid (HR_Si.out.kept hb)
  have HR_Ss := hid (HR_Ss.out.kept hb)
  have HR_Vi := hid (HR_Vi.out.kept hb)
  have HR_Vs := hid (HR_Vs.out.kept hb)
  have HR_c := hid (HR_c.out.kept hb)
  have HR_Fi := hid r_Fi
  clear hb r_Fi
  go_wp2_with fail
  refine (KFs.out _ _ HR_c.out.sl).mono ?_
  rintro e w8 ⟨v_Fs, rfl, r_Fs, hb⟩
  have HB := hid (bel_step HB.out hb)
  have HR_b := hid (HR_b.out.kept hb)
  have HR_Si := hid (HR_Si.out.kept hb)
  have HR_Ss := hid (HR_Ss.out.kept hb)
  have HR_Vi := hid (HR_Vi.out.kept hb)
  have HR_Vs := hid (HR_Vs.out.kept hb)
  have HR_c := hid (HR_c.out.kept hb)
  have HR_Fi := hid (HR_Fi.out.kept hb)
  have HR_Fs := hid r_Fs
  clear hb r_Fs
  clear KFi KFs HR_c
  cases qs
  all_goals cases qv
  all_goals cases qf
  all_goals
    go_wp2_with fail
    refine (uSame_same _ _ XS _ HR_Si.out.sl HR_Ss.out.sl (by omega)).mono ?_
    rintro e w9 ⟨rfl, hb⟩
    have HB := hid (bel_step HB.out hb)
    have HR_b := hid (HR_b.out.kept hb)
    have HR_Si := hid (HR_Si.out.kept hb)
    have HR_Ss := hid (HR_Ss.out.kept hb)
    have HR_Vi := hid (HR_Vi.out.kept hb)
    have HR_Vs := hid (HR_Vs.out.kept hb)
    have HR_Fi := hid (HR_Fi.out.kept hb)
    have HR_Fs := hid (HR_Fs.out.kept hb)
    clear hb
    go_wp2_with fail
    refine (uSame_same _ _ XV _ HR_Vi.out.sl HR_Vs.out.sl (by omega)).mono ?_
    rintro e w10 ⟨rfl, hb⟩
    have HB := hid (bel_step HB.out hb)
    have HR_b := hid (HR_b.out.kept hb)
    have HR_Si := hid (HR_Si.out.kept hb)
    have HR_Ss := hid (HR_Ss.out.kept hb)
    have HR_Vi := hid (HR_Vi.out.kept hb)
    have HR_Vs := hid (HR_Vs.out.kept hb)
    have HR_Fi := hid (HR_Fi.out.kept hb)
    have HR_Fs := hid (HR_Fs.out.kept hb)
    clear hb
    go_wp2_with fail
    refine (uSame_same _ _ XF _ HR_Fi.out.sl HR_Fs.out.sl (by omega)).mono ?_
    rintro e w11 ⟨rfl, hb⟩
    have HB := hid (bel_step HB.out hb)
    have HR_b := hid (HR_b.out.kept hb)
    have HR_Si := hid (HR_Si.out.kept hb)
    have HR_Ss := hid (HR_Ss.out.kept hb)
    have HR_Vi := hid (HR_Vi.out.kept hb)
    have HR_Vs := hid (HR_Vs.out.kept hb)
    have HR_Fi := hid (HR_Fi.out.kept hb)
    have HR_Fs := hid (HR_Fs.out.kept hb)
    clear hb
    go_wp2_with fail
    rw [← HR.out]
    first
      | exact steps_B3a u1 u2 n1 c1 n2 c2 w0 w11 HB.out _ _ _ _ _ _ _ _ _ _ _ _ _ _ _ _ _ _ _ _ _ _ _ _ _ _ _ _ _ _ _ _ _ _ _ _ _ _ _ _ _ _ _ _ _ _ _ _ _ _ _ _ _ _ _ _ _ _ _ _ _ _ _ _ _ _ _ _ _ _ _ _ _ _ _ _ _ _ _ _ _ _ _ _ _ _ _ _ _ _ _ _ _ _ _ _ _ _ _ _ _ _ _ _ _ _ _ _ _ _ _ _ _ _ _ _ _ _ _ _ _ _ _ _ _ _ _ _ _ _ _ _ _ _ _ _ _ _ _ _ _ _ _ _ _ _ _ _ _ _ _ _ _ _ _ _ _ _ _ _ _ _ _ _ _ _ _ _ _ _ _ _ _ _ _ _ _ _ _ _ _ _ _ _ _ _ _ _ _ _ _ _ _ _ _ _ _ _ _ _ _ _ _ _ _ _ _ _ _ _ _ _ _ _ _ _ _ _ _ _ _ _ _ _ _ _ _ _ _ _ _ _ _ _ _ _ _ _ _ _ _ _ _ _ _ _ _ _ _ _ _ _ _ _ _ _ _ _ _ _ _ _ _ _ _ _ _ _ _ _ _ _ _ _ _ _ _ _ _ _ _ _ _ _ _ _ _ _ _ _ _ _ _ _ _ _ _ _ _ _ _ _ _ _ _ _ _ _ _ _ _ _ _ _ _ _ _ _ _ _ _ _ _ _ _ _ _ _ _ _ _ _ _ _ _ _ _ _ _ _ _ _ _ _ _ _ _ _ _ _ _ _ _ _ _ _ _ _ _ _ _ _ _ _ _ _ _ _ _ _ _ _ _ _ _ _ _ _ _ _ _ _ _ _ _ _ _ _ _ _ _ _ _ _ _ _ _ _ _ _ _ _ _ _ _ _ _ _ _ _ _ _ _ _ _ _ _ _ _ _ _ _ _ _ _ _ _ _ _ _ _ _ _ _ _ _ _ _ _ _ _ _ _ _ _ _ _ _ _
      | (obtain ⟨hg, -⟩ := dL_true Hqs.out.symm
         obtain ⟨hbb, g1, g2⟩ := dG_true hg
         have HP := hid (bitB_t hbb)
         obtain ⟨a_s, n_s, c_s, rfl, hn_s, rd_s⟩ := id HR_Si.out.sl.rd
         have eS : XS = stL b f := HXS.out.trans HS.out
         obtain rfl : n_b = n_s := by rw [hn_s, eS, Hn.out]; exact (tab_len _ _).symm
         rw [eS] at rd_s
         have rd_b : Rd w11 a_b b := by obtain ⟨_, _, _, e, _, rd⟩ := HR_b.out.sl.rd; cases e; exact rd
         refine steps_B3 u1 u2 n1 c1 n2 c2 w0 w11 HB.out b f n_b a_b a_s c_b c_s _ _ (by rw [Hn.out]; exact HP.out.1) Hn HP g1 g2 (hid rd_b) (hid rd_s) (hid ?_) _ _ _ _ _ _ _ _ _ _ _ _ _ _ _ _ _ _ _ _ _ _ _ _ _ _ _ _ _ _ _ _ _ _ _ _ _ _ _ _ _ _ _ _ _ _ _ _ _ _ _ _ _ _ _ _ _ _ _ _ _ _ _ _ _ _ _ _ _ _ _ _ _ _ _ _ _ _ _ _ _ _ _ _ _ _ _ _ _ _ _ _ _ _ _ _ _ _ _ _ _ _ _ _ _ _ _ _ _ _ _ _ _ _ _ _ _ _ _ _ _ _ _ _ _ _ _ _ _ _ _ _ _ _ _ _ _ _ _ _ _ _ _ _ _ _ _ _ _ _ _ _ _ _ _ _ _ _ _ _ _ _ _ _ _ _ _ _ _ _ _ _ _ _ _ _ _ _ _ _ _ _ _ _ _ _ _ _ _ _ _ _ _ _ _ _ _ _ _ _ _ _ _ _ _ _ _ _ _ _ _ _ _ _ _ _ _ _ _ _ _ _ _ _ _ _ _ _ _ _ _ _ _ _ _ _ _ _ _ _ _ _ _ _ _ _ _ _ _ _ _ _ _ _ _ _ _ _ _ _ _ _ _ _ _ _ _ _ _ _ _ _ _ _ _ _ _ _ _ _ _ _ _ _ _ _ _ _ _ _ _ _ _ _ _ _ _ _ _ _ _ _ _ _ _ _ _ _ _ _ _ _ _ _ _ _ _ _ _ _ _ _ _ _ _ _ _ _ _ _ _ _ _ _ _ _ _ _ _ _ _ _ _ _ _ _ _ _ _ _ _ _ _ _ _ _ _ _ _ _ _ _ _ _ _ _ _ _ _ _ _ _ _ _ _ _ _ _ _ _ _ _ _ _ _ _ _ _ _ _ _ _ _ _ _ _ _ _ _ _ _ _ _ _ _ _ _ _ _ _ _ _ _ _ _ _ _ _ _ _ _ _ _ _ _ _ _ _ _ _ _ _ _ _ _ _ _ _ _ _ _ _ _ _
         first
           | (intro h; cases h; done)
           | (intro _; have h := HR_Vi.out.sl; rw [HXV.out.trans HV.out] at h; exact h))
  

end Go.Proofs.Ythkfjoonkkmgiaa
