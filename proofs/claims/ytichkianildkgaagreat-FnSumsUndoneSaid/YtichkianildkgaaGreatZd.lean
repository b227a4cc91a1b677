import Derived.Test.YtichkianildkgaaGreatZa
namespace Go.Proofs.YtichkianildkgaaGreat
open Go.RowKit BitX Go.MemX Go.Ch6 Go.ShX Dr Mb
set_option linter.unusedVariables false


/-- what is left of a function's code behind its first k statements, and the statement there -/
def cRest : Nat → Code → Code
  | 0, c => c
  | k + 1, .seq _ b => cRest k b
  | _ + 1, c => c
def cHead : Nat → Code → Code
  | 0, .seq a _ => a
  | 0, c => c
  | k + 1, .seq _ b => cHead k b
  | _ + 1, c => c
def cThen : Code → Code
  | .cond _ t _ => t
  | .seq _ b => cThen b
  | c => c
def bodyOf (f : Func) : Code := f.body.getD .skip
def qS (w0 : World) : Exit → Act → World → Prop := bodyPost Tryz.prog Tryz.f3 fun e w' => e = .returned (.bool true) ∧ Below w0.heap.size w0 w'


set_option maxRecDepth 20000 in
set_option maxHeartbeats 8000000 in
theorem sums_G (u1 u2 : Option Addr) (n1 c1 n2 c2 : Nat) (w0 w : World) (hB : Below w0.heap.size w0 w) (hby : By w.heap.size w u2 n2) (hl2 : n2 ≤ 1048576) (x2 x3 x4 x5 x6 x7 x8 x9 x10 x11 x12 x13 x14 x15 x16 x17 x18 x19 x20 x21 x22 x23 x24 x25 x26 x27 x28 x29 x30 x31 x32 x33 x34 x35 x36 x37 x38 x39 x40 x41 x42 x43 x44 x45 x46 x47 x48 x49 x50 x51 x52 x53 x54 x55 x56 x57 x58 x59 x60 x61 x62 x63 x64 x65 x66 x67 x68 x69 x70 x71 x72 x73 x74 x75 x76 x77 x78 x79 x80 x81 x82 x83 x84 x85 x86 x87 x88 x89 x90 x91 x92 x93 x94 x95 x96 x97 x98 x99 x100 x101 x102 x103 x104 x105 x106 x107 x108 x109 x110 x111 x112 x113 x114 x115 x116 x117 x118 x119 x120 x121 x122 x123 x124 x125 x126 x127 x128 x129 x130 x131 x132 x133 x134 x135 x136 x137 x138 x139 x140 x141 x142 x143 x144 x145 x146 x147 x148 x149 x150 x151 x152 x153 x154 x155 x156 x157 x158 x159 x160 x161 x162 x163 x164 x165 x166 x167 x168 x169 x170 x171 x172 x173 x174 x175 x176 x177 x178 x179 x180 x181 x182 x183 x184 x185 x186 x187 x188 x189 x190 x191 x192 x193 x194 x195 x196 x197 x198 x199 x200 x201 x202 x203 x204 x205 x206 x207 x208 x209 x210 x211 x212 x213 x214 x215 x216 x217 x218 x219 x220 x221 x222 x223 x224 x225 x226 x227 x228 x229 x230 x231 x232 x233 x234 x235 x236 x237 x238 x239 x240 x241 x242 x243 x244 x245 x246 x247 x248 x249 x250 x251 x252 x253 x254 x255 x256 x257 x258 x259 x260 x261 x262 x263 x264 x265 x266 x267 x268 x269 x270 x271 x272 x273 x274 x275 x276 x277 x278 x279 x280 x281 x282 x283 x284 x285 x286 x287 x288 x289 x290 x291 x292 x293 x294 x295 x296 x297 x298 x299 x300 x301 x302 x303 x304 x305 x306 x307 x308 x309 x310 x311 x312 x313 x314 x315 x316 x317 x318 x319 x320 x321 x322 x323 x324 x325 x326 x327 x328 x329 x330 x331 x332 x333 x334 x335 x336 x337 x338 x339 x340 x341 x342 x343 x344 x345 x346 x347 x348 x349 x350 x351 x352 x353 x354 x355 x356 x357 x358 x359 x360 x361 x362 x363 x364 x365 x366 x367 x368 x369 x370 x371 x372 x373 x374 x375 x376 x377 x378 x379 x380 x381 x382 x383 x384 x385 x386 x387 x388 x389 x390 x391 x392 x393 x394 x395 x396 x397 x398 x399 x400 x401 x402 x403 x404 x405 x406 x407 x408 x409 x410 x411 x412 x413 x414 x415 x416 x417 x418 x419 x420 x421 x422 x423 x424 x425 x426 x427 x428 x429 x430 x431 x432 x433 x434 x435 x436 x437 x438 x439 x440 x441 x442 x443 x444 x445 x446 x447 x448 x449 x450 x451 x452 x453 x454 x455 x456 x457 x458 x459 x460 x461 x462 x463 x464 x465 x466 x467 x468 x469 x470 x471 x472 x473 x474 x475 x476 x477 x478 x479 x480 x481 x482 x483 x484 x485 x486 x487 x488 x489 x490 x491 x492 x493 x494 x495 x496 x497 x498 x499 x500 x501 x502 x503 x504 x505 x506 x507 x508 x509 x510 x511 x512 x513 x514 x515 x516 x517 x518 x519 x520 x521 x522 x523 x524 x525 x526 x527 x528 x529 x530 x531 x532 x533 x534 x535 x536 x537 x538 x539 x540 x541 x542 x543 x544 x545 x546 x547 x548 x549 x550 x551 x552 x553 x554 x555 x556 x557 x558 x559 x560 x561 x562 x563 x564 x565 x566 x567 x568 x569 x570 x571 x572 x573 x574 x575 : Value) :
    Code.wp Tryz.prog (cRest 28 (bodyOf Tryz.f3)) (qS w0) { tmps := List.toArray ((.slice u1 n1 c1) :: (.slice u2 n2 c2) :: x2 :: x3 :: x4 :: x5 :: x6 :: x7 :: x8 :: x9 :: x10 :: x11 :: x12 :: x13 :: x14 :: x15 :: x16 :: x17 :: x18 :: x19 :: x20 :: x21 :: x22 :: x23 :: x24 :: x25 :: x26 :: x27 :: x28 :: x29 :: x30 :: x31 :: x32 :: x33 :: x34 :: x35 :: x36 :: x37 :: x38 :: x39 :: x40 :: x41 :: x42 :: x43 :: x44 :: x45 :: x46 :: x47 :: x48 :: x49 :: x50 :: x51 :: x52 :: x53 :: x54 :: x55 :: x56 :: x57 :: x58 :: x59 :: x60 :: x61 :: x62 :: x63 :: x64 :: x65 :: x66 :: x67 :: x68 :: x69 :: x70 :: x71 :: x72 :: x73 :: x74 :: x75 :: x76 :: x77 :: x78 :: x79 :: x80 :: x81 :: x82 :: x83 :: x84 :: x85 :: x86 :: x87 :: x88 :: x89 :: x90 :: x91 :: x92 :: x93 :: x94 :: x95 :: x96 :: x97 :: x98 :: x99 :: x100 :: x101 :: x102 :: x103 :: x104 :: x105 :: x106 :: x107 :: x108 :: x109 :: x110 :: x111 :: x112 :: x113 :: x114 :: x115 :: x116 :: x117 :: x118 :: x119 :: x120 :: x121 :: x122 :: x123 :: x124 :: x125 :: x126 :: x127 :: x128 :: x129 :: x130 :: x131 :: x132 :: x133 :: x134 :: x135 :: x136 :: x137 :: x138 :: x139 :: x140 :: x141 :: x142 :: x143 :: x144 :: x145 :: x146 :: x147 :: x148 :: x149 :: x150 :: x151 :: x152 :: x153 :: x154 :: x155 :: x156 :: x157 :: x158 :: x159 :: x160 :: x161 :: x162 :: x163 :: x164 :: x165 :: x166 :: x167 :: x168 :: x169 :: x170 :: x171 :: x172 :: x173 :: x174 :: x175 :: x176 :: x177 :: x178 :: x179 :: x180 :: x181 :: x182 :: x183 :: x184 :: x185 :: x186 :: x187 :: x188 :: x189 :: x190 :: x191 :: x192 :: x193 :: x194 :: x195 :: x196 :: x197 :: x198 :: x199 :: x200 :: x201 :: x202 :: x203 :: x204 :: x205 :: x206 :: x207 :: x208 :: x209 :: x210 :: x211 :: x212 :: x213 :: x214 :: x215 :: x216 :: x217 :: x218 :: x219 :: x220 :: x221 :: x222 :: x223 :: x224 :: x225 :: x226 :: x227 :: x228 :: x229 :: x230 :: x231 :: x232 :: x233 :: x234 :: x235 :: x236 :: x237 :: x238 :: x239 :: x240 :: x241 :: x242 :: x243 :: x244 :: x245 :: x246 :: x247 :: x248 :: x249 :: x250 :: x251 :: x252 :: x253 :: x254 :: x255 :: x256 :: x257 :: x258 :: x259 :: x260 :: x261 :: x262 :: x263 :: x264 :: x265 :: x266 :: x267 :: x268 :: x269 :: x270 :: x271 :: x272 :: x273 :: x274 :: x275 :: x276 :: x277 :: x278 :: x279 :: x280 :: x281 :: x282 :: x283 :: x284 :: x285 :: x286 :: x287 :: x288 :: x289 :: x290 :: x291 :: x292 :: x293 :: x294 :: x295 :: x296 :: x297 :: x298 :: x299 :: x300 :: x301 :: x302 :: x303 :: x304 :: x305 :: x306 :: x307 :: x308 :: x309 :: x310 :: x311 :: x312 :: x313 :: x314 :: x315 :: x316 :: x317 :: x318 :: x319 :: x320 :: x321 :: x322 :: x323 :: x324 :: x325 :: x326 :: x327 :: x328 :: x329 :: x330 :: x331 :: x332 :: x333 :: x334 :: x335 :: x336 :: x337 :: x338 :: x339 :: x340 :: x341 :: x342 :: x343 :: x344 :: x345 :: x346 :: x347 :: x348 :: x349 :: x350 :: x351 :: x352 :: x353 :: x354 :: x355 :: x356 :: x357 :: x358 :: x359 :: x360 :: x361 :: x362 :: x363 :: x364 :: x365 :: x366 :: x367 :: x368 :: x369 :: x370 :: x371 :: x372 :: x373 :: x374 :: x375 :: x376 :: x377 :: x378 :: x379 :: x380 :: x381 :: x382 :: x383 :: x384 :: x385 :: x386 :: x387 :: x388 :: x389 :: x390 :: x391 :: x392 :: x393 :: x394 :: x395 :: x396 :: x397 :: x398 :: x399 :: x400 :: x401 :: x402 :: x403 :: x404 :: x405 :: x406 :: x407 :: x408 :: x409 :: x410 :: x411 :: x412 :: x413 :: x414 :: x415 :: x416 :: x417 :: x418 :: x419 :: x420 :: x421 :: x422 :: x423 :: x424 :: x425 :: x426 :: x427 :: x428 :: x429 :: x430 :: x431 :: x432 :: x433 :: x434 :: x435 :: x436 :: x437 :: x438 :: x439 :: x440 :: x441 :: x442 :: x443 :: x444 :: x445 :: x446 :: x447 :: x448 :: x449 :: x450 :: x451 :: x452 :: x453 :: x454 :: x455 :: x456 :: x457 :: x458 :: x459 :: x460 :: x461 :: x462 :: x463 :: x464 :: x465 :: x466 :: x467 :: x468 :: x469 :: x470 :: x471 :: x472 :: x473 :: x474 :: x475 :: x476 :: x477 :: x478 :: x479 :: x480 :: x481 :: x482 :: x483 :: x484 :: x485 :: x486 :: x487 :: x488 :: x489 :: x490 :: x491 :: x492 :: x493 :: x494 :: x495 :: x496 :: x497 :: x498 :: x499 :: x500 :: x501 :: x502 :: x503 :: x504 :: x505 :: x506 :: x507 :: x508 :: x509 :: x510 :: x511 :: x512 :: x513 :: x514 :: x515 :: x516 :: x517 :: x518 :: x519 :: x520 :: x521 :: x522 :: x523 :: x524 :: x525 :: x526 :: x527 :: x528 :: x529 :: x530 :: x531 :: x532 :: x533 :: x534 :: x535 :: x536 :: x537 :: x538 :: x539 :: x540 :: x541 :: x542 :: x543 :: x544 :: x545 :: x546 :: x547 :: x548 :: x549 :: x550 :: x551 :: x552 :: x553 :: x554 :: x555 :: x556 :: x557 :: x558 :: x559 :: x560 :: x561 :: x562 :: x563 :: x564 :: x565 :: x566 :: x567 :: x568 :: x569 :: x570 :: x571 :: x572 :: x573 :: x574 :: x575 :: []), defers := [] } w := by
  simp only [bodyOf, Tryz.f3, Option.getD_some, cRest]
  have HB := hid hB
  have HBY := hid hby
  clear hB hby
  go_wp2_with fail
  refine (DrawMeanBlocks_any u2 n2 c2 _ HBY.out hl2).mono ?_
  rintro e w1 ⟨⟨v_s, s, r, m, rfl, r_s, hsl, ⟨r1, r2⟩, m1, m2⟩, hb⟩
  obtain ⟨a_s, n, c_s, rfl, hn, -⟩ := id r_s.sl.rd
  have HB := hid (bel_step HB.out hb)
  have HBY := hid (By.later HBY.out hb)
  have HR_s := hid r_s
  have Hn := hid hn
  clear hb r_s hn
  obtain ⟨q, hq⟩ : ∃ z, z = mbB s r m := ⟨_, rfl⟩
  obtain ⟨X, hX⟩ : ∃ z, z = onL q (mnL r.toNat (mbE r) m s) := ⟨_, rfl⟩
  have hqr : q = true → 1 ≤ r ∧ SigP s := fun h => by
    rw [hq] at h
    unfold mbB at h
    simp only [Bool.and_eq_true] at h
    obtain ⟨e, he⟩ := Option.isSome_iff_exists.1 h.2.1
    have := exN_some he
    exact ⟨this.2.2.1, sigB_t h.1⟩
  have hXl : q = true → X.length = s.length / r.toNat := fun h => by rw [hX, h]; exact tab_len _ _
  have lX : X.length ≤ 2000000 := by
    cases q
    · rw [hX]; simp [onL]
    · rw [hXl rfl]; exact Nat.le_trans (Nat.div_le_self _ _) (by omega)
  have Kmi := fun (W : World) (v : Value) (h : Sl W v s) => impl_MeanBlocks_any v s r m W h
  have Kms := fun (W : World) (v : Value) (h : Sl W v s) => spec_MeanBlocks_any v s r m W h
  rw [← hq, ← hX] at Kmi Kms
  have Kmi := hid Kmi
  have Kms := hid Kms
  have Hqr := hid hqr
  have HXl := hid hXl
  clear hqr hXl hq hX
  go_wp2_with fail
  refine (Kmi.out _ _ HR_s.out.sl).mono ?_
  rintro e w2 ⟨v_Xi, rfl, r_Xi, hb⟩
  have HB := hid (bel_step HB.out hb)
  have HBY := hid (By.later HBY.out hb)
  have HR_s := hid (HR_s.out.kept hb)
  have HR_Xi := hid r_Xi
  clear hb r_Xi
  go_wp2_with fail
  refine (Kms.out _ _ HR_s.out.sl).mono ?_
  rintro e w3 ⟨v_Xs, rfl, r_Xs, hb⟩
  have HB := hid (bel_step HB.out hb)
  have HBY := hid (By.later HBY.out hb)
  have HR_s := hid (HR_s.out.kept hb)
  have HR_Xi := hid (HR_Xi.out.kept hb)
  have HR_Xs := hid r_Xs
  clear hb r_Xs
  clear Kmi Kms
  go_wp2_with fail
  refine (DrawBitsForComb_any u2 n2 c2 _ HBY.out hl2).mono ?_
  rintro e w4 ⟨⟨b, x, y, rfl, ⟨b1, b2⟩, ⟨x1, x2⟩, y1, y2⟩, hb⟩
  have HB := hid (bel_step HB.out hb)
  have HR_s := hid (HR_s.out.kept hb)
  have HR_Xi := hid (HR_Xi.out.kept hb)
  have HR_Xs := hid (HR_Xs.out.kept hb)
  clear hb
  clear HBY
  obtain ⟨O, hO⟩ : ∃ z, z = bcO b x y := ⟨_, rfl⟩
  obtain ⟨R, hR⟩ : ∃ z, z = bcR b x y := ⟨_, rfl⟩
  have Kbi := fun (W : World) => impl_BitsForComb_any b x y W
  have Kbs := fun (W : World) => spec_BitsForComb_any b x y W
  rw [← hO, ← hR] at Kbi Kbs
  have Kbi := hid Kbi
  have Kbs := hid Kbs
  have HO := hid hO
  have HR9 := hid hR
  clear hO hR
  obtain ⟨a_x, nx, c_x, rfl, hnx, -⟩ := id HR_Xi.out.sl.rd
  have Hnx := hid hnx
  clear hnx
  go_wp2_with fail
  refine (Kbi.out _).mono ?_
  rintro e w5 ⟨rfl, hb⟩
  have HB := hid (bel_step HB.out hb)
  have HR_s := hid (HR_s.out.kept hb)
  have HR_Xi := hid (HR_Xi.out.kept hb)
  have HR_Xs := hid (HR_Xs.out.kept hb)
  clear hb
  go_wp2_with fail
  refine (Kbs.out _).mono ?_
  rintro e w6 ⟨rfl, hb⟩
  have HB := hid (bel_step HB.out hb)
  have HR_s := hid (HR_s.out.kept hb)
  have HR_Xi := hid (HR_Xi.out.kept hb)
  have HR_Xs := hid (HR_Xs.out.kept hb)
  clear hb
  clear Kbi Kbs
  cases q
  all_goals cases O
  all_goals
    try
      obtain ⟨r3, hsg⟩ := Hqr.out rfl
      have hd : (n : Int) / r = (nx : Int) := by
        rw [Hnx.out, HXl.out rfl, Hn.out, Int.natCast_ediv, Int.toNat_of_nonneg (by omega)]
      have d1 : ∀ [Inhabited Unit], (n : Int) / r = (nx : Int) := fun {_} => hd
      have d2 : ∀ [Inhabited Unit], (n : Int).tdiv r = (nx : Int) := fun {_} => by rw [Int.tdiv_eq_ediv_of_nonneg (by omega)]; exact hd
      have d0 : (r == 0) = false := beq_eq_false_iff_ne.2 (by omega)
      have d3 : r ≠ 0 := by omega
      have d4 : nx ≤ 64 := by rw [Hnx.out, HXl.out rfl]; exact Nat.le_trans (Nat.div_le_self _ _) hsg.1
      have d5 : IntKind.i64.wrap (nx : Int) = nx := IntWalk.i64_in _ (by omega)
      clear hd hsg
    go_wp2_with fail
    refine (iSame_same _ _ X _ HR_Xi.out.sl HR_Xs.out.sl lX).mono ?_
    rintro e w7 ⟨rfl, hb⟩
    have HB := hid (bel_step HB.out hb)
    clear hb HR_Xi HR_Xs HR_s
    go_wp2_with fail
  · go_wp2
    unfold qS
    go_ret
    exact ⟨rfl, HB.out⟩
  · have ho := HO.out.symm
    unfold bcO at ho
    rw [Bool.and_eq_true] at ho
    obtain ⟨ho1, ho2⟩ := ho
    have hR := HR9.out
    unfold bcR at hR
    rw [ho1] at hR
    obtain ⟨e, he, e1, e2, e3, e4⟩ := fst_least ho2
    have hR2 : R = (e : Int) := hR.trans he
    subst hR2
    have hb := ho1
    unfold bcB at hb
    rw [Bool.and_eq_true] at hb
    have hb1 := of_decide_eq_true hb.1
    obtain ⟨hx1, hy1⟩ := askB_t hb.2
    have hca : caB x y = true := hb.2
    obtain ⟨bn, rfl⟩ : ∃ bn : Nat, b = bn := ⟨b.toNat, by omega⟩
    obtain ⟨G, hG⟩ : ∃ G, G = cbG y.toNat x.toNat := ⟨_, rfl⟩
    have hg := (cb_parts (r := y.toNat) (st := x.toNat) (by omega) (by omega) (by omega)).2.2.2.2
    rw [← hG] at hg
    obtain ⟨g1, g2⟩ := hg
    have KG := fun (W : World) => impl_CombGain_any x y W
    rw [hca, ← hG, show onI true G = G from rfl] at KG
    have KG := hid KG
    unfold enP at e3 e4
    rw [← hG, show ((bn : Int).toNat) = bn from by omega] at e3 e4
    have e3 := of_decide_eq_true e3
    have e4 : e = 2 ∨ ¬ (G * 2 ^ (bn - 1) ≤ 2 ^ (e - 1 - 1)) := e4.imp id fun h => of_decide_eq_false h
    rw [show e - 1 - 1 = e - 2 from by omega] at e4
    obtain ⟨A, B, C, ⟨wA, wB, wC⟩, ⟨iA, iB, iC⟩, dAB, HE, hABC⟩ := shl_facts G bn e g1 g2 hb1 e1 e2 e3 e4
    have s0 : ∀ [Inhabited Unit], ((bn : Int) - 1).toNat = bn - 1 := fun {_} => by omega
    have s1 : ∀ [Inhabited Unit], ((e : Int) - 1).toNat = e - 1 := fun {_} => by omega
    have s2 : ∀ [Inhabited Unit], ((e : Int) - 2).toNat = e - 2 := fun {_} => by omega
    have m0 : ∀ [Inhabited Unit], min (bn - 1) 64 = bn - 1 := fun {_} => by omega
    have m1 : ∀ [Inhabited Unit], min (e - 1) 64 = e - 1 := fun {_} => by omega
    have m2 : ∀ [Inhabited Unit], min (e - 2) 64 = e - 2 := fun {_} => by omega
    have HE := hid HE
    have hb2 : 2 ≤ (bn : Int) := hb1.1
    clear hABC hG hb hb1 ho1 ho2 hR he e4 e3 hca
    go_wp2_with fail
    refine (KG.out _).mono ?_
    rintro e9 w9 ⟨rfl, hb⟩
    have HB := hid (bel_step HB.out hb)
    clear hb KG
    by_cases h2 : e = 2
    · have q2 : ((e : Int) == 2) = true := beq_iff_eq.2 (by omega)
      clear HE h2
      go_wp2_with fail
      go_quiet (fail)
      go_wp2
      unfold qS
      go_ret
      exact ⟨rfl, below_drewN HB.out nq⟩
    · have q2 : ((e : Int) == 2) = false := beq_eq_false_iff_ne.2 (by omega)
      have dCA : decide (C < A) = true := HE.out h2
      clear HE h2
      go_wp2_with fail
      go_quiet (fail)
      go_wp2
      unfold qS
      go_ret
      exact ⟨rfl, below_drewN HB.out nq⟩
  · go_wp2
    unfold qS
    go_ret
    exact ⟨rfl, HB.out⟩
  · have ho := HO.out.symm
    unfold bcO at ho
    rw [Bool.and_eq_true] at ho
    obtain ⟨ho1, ho2⟩ := ho
    have hR := HR9.out
    unfold bcR at hR
    rw [ho1] at hR
    obtain ⟨e, he, e1, e2, e3, e4⟩ := fst_least ho2
    have hR2 : R = (e : Int) := hR.trans he
    subst hR2
    have hb := ho1
    unfold bcB at hb
    rw [Bool.and_eq_true] at hb
    have hb1 := of_decide_eq_true hb.1
    obtain ⟨hx1, hy1⟩ := askB_t hb.2
    have hca : caB x y = true := hb.2
    obtain ⟨bn, rfl⟩ : ∃ bn : Nat, b = bn := ⟨b.toNat, by omega⟩
    obtain ⟨G, hG⟩ : ∃ G, G = cbG y.toNat x.toNat := ⟨_, rfl⟩
    have hg := (cb_parts (r := y.toNat) (st := x.toNat) (by omega) (by omega) (by omega)).2.2.2.2
    rw [← hG] at hg
    obtain ⟨g1, g2⟩ := hg
    have KG := fun (W : World) => impl_CombGain_any x y W
    rw [hca, ← hG, show onI true G = G from rfl] at KG
    have KG := hid KG
    unfold enP at e3 e4
    rw [← hG, show ((bn : Int).toNat) = bn from by omega] at e3 e4
    have e3 := of_decide_eq_true e3
    have e4 : e = 2 ∨ ¬ (G * 2 ^ (bn - 1) ≤ 2 ^ (e - 1 - 1)) := e4.imp id fun h => of_decide_eq_false h
    rw [show e - 1 - 1 = e - 2 from by omega] at e4
    obtain ⟨A, B, C, ⟨wA, wB, wC⟩, ⟨iA, iB, iC⟩, dAB, HE, hABC⟩ := shl_facts G bn e g1 g2 hb1 e1 e2 e3 e4
    have s0 : ∀ [Inhabited Unit], ((bn : Int) - 1).toNat = bn - 1 := fun {_} => by omega
    have s1 : ∀ [Inhabited Unit], ((e : Int) - 1).toNat = e - 1 := fun {_} => by omega
    have s2 : ∀ [Inhabited Unit], ((e : Int) - 2).toNat = e - 2 := fun {_} => by omega
    have m0 : ∀ [Inhabited Unit], min (bn - 1) 64 = bn - 1 := fun {_} => by omega
    have m1 : ∀ [Inhabited Unit], min (e - 1) 64 = e - 1 := fun {_} => by omega
    have m2 : ∀ [Inhabited Unit], min (e - 2) 64 = e - 2 := fun {_} => by omega
    have HE := hid HE
    have hb2 : 2 ≤ (bn : Int) := hb1.1
    clear hABC hG hb hb1 ho1 ho2 hR he e4 e3 hca
    go_wp2_with fail
    refine (KG.out _).mono ?_
    rintro e9 w9 ⟨rfl, hb⟩
    have HB := hid (bel_step HB.out hb)
    clear hb KG
    by_cases h2 : e = 2
    · have q2 : ((e : Int) == 2) = true := beq_iff_eq.2 (by omega)
      clear HE h2
      go_wp2_with fail
      go_quiet (fail)
      go_wp2
      unfold qS
      go_ret
      exact ⟨rfl, below_drewN HB.out nq⟩
    · have q2 : ((e : Int) == 2) = false := beq_eq_false_iff_ne.2 (by omega)
      have dCA : decide (C < A) = true := HE.out h2
      clear HE h2
      go_wp2_with fail
      go_quiet (fail)
      go_wp2
      unfold qS
      go_ret
      exact ⟨rfl, below_drewN HB.out nq⟩

end Go.Proofs.YtichkianildkgaaGreat

namespace Go.Proofs.YtichkianildkgaaGreat
open Go.RowKit BitX Go.MemX Go.Ch6 Go.ShX Dr Mb
set_option linter.unusedVariables false


set_option maxRecDepth 20000 in
set_option maxHeartbeats 8000000 in
theorem sums_F (u1 u2 : Option Addr) (n1 c1 n2 c2 : Nat) (w0 w : World) (hB : Below w0.heap.size w0 w) (hby : By w.heap.size w u2 n2) (hl2 : n2 ≤ 1048576) (x2 x3 x4 x5 x6 x7 x8 x9 x10 x11 x12 x13 x14 x15 x16 x17 x18 x19 x20 x21 x22 x23 x24 x25 x26 x27 x28 x29 x30 x31 x32 x33 x34 x35 x36 x37 x38 x39 x40 x41 x42 x43 x44 x45 x46 x47 x48 x49 x50 x51 x52 x53 x54 x55 x56 x57 x58 x59 x60 x61 x62 x63 x64 x65 x66 x67 x68 x69 x70 x71 x72 x73 x74 x75 x76 x77 x78 x79 x80 x81 x82 x83 x84 x85 x86 x87 x88 x89 x90 x91 x92 x93 x94 x95 x96 x97 x98 x99 x100 x101 x102 x103 x104 x105 x106 x107 x108 x109 x110 x111 x112 x113 x114 x115 x116 x117 x118 x119 x120 x121 x122 x123 x124 x125 x126 x127 x128 x129 x130 x131 x132 x133 x134 x135 x136 x137 x138 x139 x140 x141 x142 x143 x144 x145 x146 x147 x148 x149 x150 x151 x152 x153 x154 x155 x156 x157 x158 x159 x160 x161 x162 x163 x164 x165 x166 x167 x168 x169 x170 x171 x172 x173 x174 x175 x176 x177 x178 x179 x180 x181 x182 x183 x184 x185 x186 x187 x188 x189 x190 x191 x192 x193 x194 x195 x196 x197 x198 x199 x200 x201 x202 x203 x204 x205 x206 x207 x208 x209 x210 x211 x212 x213 x214 x215 x216 x217 x218 x219 x220 x221 x222 x223 x224 x225 x226 x227 x228 x229 x230 x231 x232 x233 x234 x235 x236 x237 x238 x239 x240 x241 x242 x243 x244 x245 x246 x247 x248 x249 x250 x251 x252 x253 x254 x255 x256 x257 x258 x259 x260 x261 x262 x263 x264 x265 x266 x267 x268 x269 x270 x271 x272 x273 x274 x275 x276 x277 x278 x279 x280 x281 x282 x283 x284 x285 x286 x287 x288 x289 x290 x291 x292 x293 x294 x295 x296 x297 x298 x299 x300 x301 x302 x303 x304 x305 x306 x307 x308 x309 x310 x311 x312 x313 x314 x315 x316 x317 x318 x319 x320 x321 x322 x323 x324 x325 x326 x327 x328 x329 x330 x331 x332 x333 x334 x335 x336 x337 x338 x339 x340 x341 x342 x343 x344 x345 x346 x347 x348 x349 x350 x351 x352 x353 x354 x355 x356 x357 x358 x359 x360 x361 x362 x363 x364 x365 x366 x367 x368 x369 x370 x371 x372 x373 x374 x375 x376 x377 x378 x379 x380 x381 x382 x383 x384 x385 x386 x387 x388 x389 x390 x391 x392 x393 x394 x395 x396 x397 x398 x399 x400 x401 x402 x403 x404 x405 x406 x407 x408 x409 x410 x411 x412 x413 x414 x415 x416 x417 x418 x419 x420 x421 x422 x423 x424 x425 x426 x427 x428 x429 x430 x431 x432 x433 x434 x435 x436 x437 x438 x439 x440 x441 x442 x443 x444 x445 x446 x447 x448 x449 x450 x451 x452 x453 x454 x455 x456 x457 x458 x459 x460 x461 x462 x463 x464 x465 x466 x467 x468 x469 x470 x471 x472 x473 x474 x475 x476 x477 x478 x479 x480 x481 x482 x483 x484 x485 x486 x487 x488 x489 x490 x491 x492 x493 x494 x495 x496 x497 x498 x499 x500 x501 x502 x503 x504 x505 x506 x507 x508 x509 x510 x511 x512 x513 x514 x515 x516 x517 x518 x519 x520 x521 x522 x523 x524 x525 x526 x527 x528 x529 x530 x531 x532 x533 x534 x535 x536 x537 x538 x539 x540 x541 x542 x543 x544 x545 x546 x547 x548 x549 x550 x551 x552 x553 x554 x555 x556 x557 x558 x559 x560 x561 x562 x563 x564 x565 x566 x567 x568 x569 x570 x571 x572 x573 x574 x575 : Value) :
    Code.wp Tryz.prog (cRest 20 (bodyOf Tryz.f3)) (qS w0) { tmps := List.toArray ((.slice u1 n1 c1) :: (.slice u2 n2 c2) :: x2 :: x3 :: x4 :: x5 :: x6 :: x7 :: x8 :: x9 :: x10 :: x11 :: x12 :: x13 :: x14 :: x15 :: x16 :: x17 :: x18 :: x19 :: x20 :: x21 :: x22 :: x23 :: x24 :: x25 :: x26 :: x27 :: x28 :: x29 :: x30 :: x31 :: x32 :: x33 :: x34 :: x35 :: x36 :: x37 :: x38 :: x39 :: x40 :: x41 :: x42 :: x43 :: x44 :: x45 :: x46 :: x47 :: x48 :: x49 :: x50 :: x51 :: x52 :: x53 :: x54 :: x55 :: x56 :: x57 :: x58 :: x59 :: x60 :: x61 :: x62 :: x63 :: x64 :: x65 :: x66 :: x67 :: x68 :: x69 :: x70 :: x71 :: x72 :: x73 :: x74 :: x75 :: x76 :: x77 :: x78 :: x79 :: x80 :: x81 :: x82 :: x83 :: x84 :: x85 :: x86 :: x87 :: x88 :: x89 :: x90 :: x91 :: x92 :: x93 :: x94 :: x95 :: x96 :: x97 :: x98 :: x99 :: x100 :: x101 :: x102 :: x103 :: x104 :: x105 :: x106 :: x107 :: x108 :: x109 :: x110 :: x111 :: x112 :: x113 :: x114 :: x115 :: x116 :: x117 :: x118 :: x119 :: x120 :: x121 :: x122 :: x123 :: x124 :: x125 :: x126 :: x127 :: x128 :: x129 :: x130 :: x131 :: x132 :: x133 :: x134 :: x135 :: x136 :: x137 :: x138 :: x139 :: x140 :: x141 :: x142 :: x143 :: x144 :: x145 :: x146 :: x147 :: x148 :: x149 :: x150 :: x151 :: x152 :: x153 :: x154 :: x155 :: x156 :: x157 :: x158 :: x159 :: x160 :: x161 :: x162 :: x163 :: x164 :: x165 :: x166 :: x167 :: x168 :: x169 :: x170 :: x171 :: x172 :: x173 :: x174 :: x175 :: x176 :: x177 :: x178 :: x179 :: x180 :: x181 :: x182 :: x183 :: x184 :: x185 :: x186 :: x187 :: x188 :: x189 :: x190 :: x191 :: x192 :: x193 :: x194 :: x195 :: x196 :: x197 :: x198 :: x199 :: x200 :: x201 :: x202 :: x203 :: x204 :: x205 :: x206 :: x207 :: x208 :: x209 :: x210 :: x211 :: x212 :: x213 :: x214 :: x215 :: x216 :: x217 :: x218 :: x219 :: x220 :: x221 :: x222 :: x223 :: x224 :: x225 :: x226 :: x227 :: x228 :: x229 :: x230 :: x231 :: x232 :: x233 :: x234 :: x235 :: x236 :: x237 :: x238 :: x239 :: x240 :: x241 :: x242 :: x243 :: x244 :: x245 :: x246 :: x247 :: x248 :: x249 :: x250 :: x251 :: x252 :: x253 :: x254 :: x255 :: x256 :: x257 :: x258 :: x259 :: x260 :: x261 :: x262 :: x263 :: x264 :: x265 :: x266 :: x267 :: x268 :: x269 :: x270 :: x271 :: x272 :: x273 :: x274 :: x275 :: x276 :: x277 :: x278 :: x279 :: x280 :: x281 :: x282 :: x283 :: x284 :: x285 :: x286 :: x287 :: x288 :: x289 :: x290 :: x291 :: x292 :: x293 :: x294 :: x295 :: x296 :: x297 :: x298 :: x299 :: x300 :: x301 :: x302 :: x303 :: x304 :: x305 :: x306 :: x307 :: x308 :: x309 :: x310 :: x311 :: x312 :: x313 :: x314 :: x315 :: x316 :: x317 :: x318 :: x319 :: x320 :: x321 :: x322 :: x323 :: x324 :: x325 :: x326 :: x327 :: x328 :: x329 :: x330 :: x331 :: x332 :: x333 :: x334 :: x335 :: x336 :: x337 :: x338 :: x339 :: x340 :: x341 :: x342 :: x343 :: x344 :: x345 :: x346 :: x347 :: x348 :: x349 :: x350 :: x351 :: x352 :: x353 :: x354 :: x355 :: x356 :: x357 :: x358 :: x359 :: x360 :: x361 :: x362 :: x363 :: x364 :: x365 :: x366 :: x367 :: x368 :: x369 :: x370 :: x371 :: x372 :: x373 :: x374 :: x375 :: x376 :: x377 :: x378 :: x379 :: x380 :: x381 :: x382 :: x383 :: x384 :: x385 :: x386 :: x387 :: x388 :: x389 :: x390 :: x391 :: x392 :: x393 :: x394 :: x395 :: x396 :: x397 :: x398 :: x399 :: x400 :: x401 :: x402 :: x403 :: x404 :: x405 :: x406 :: x407 :: x408 :: x409 :: x410 :: x411 :: x412 :: x413 :: x414 :: x415 :: x416 :: x417 :: x418 :: x419 :: x420 :: x421 :: x422 :: x423 :: x424 :: x425 :: x426 :: x427 :: x428 :: x429 :: x430 :: x431 :: x432 :: x433 :: x434 :: x435 :: x436 :: x437 :: x438 :: x439 :: x440 :: x441 :: x442 :: x443 :: x444 :: x445 :: x446 :: x447 :: x448 :: x449 :: x450 :: x451 :: x452 :: x453 :: x454 :: x455 :: x456 :: x457 :: x458 :: x459 :: x460 :: x461 :: x462 :: x463 :: x464 :: x465 :: x466 :: x467 :: x468 :: x469 :: x470 :: x471 :: x472 :: x473 :: x474 :: x475 :: x476 :: x477 :: x478 :: x479 :: x480 :: x481 :: x482 :: x483 :: x484 :: x485 :: x486 :: x487 :: x488 :: x489 :: x490 :: x491 :: x492 :: x493 :: x494 :: x495 :: x496 :: x497 :: x498 :: x499 :: x500 :: x501 :: x502 :: x503 :: x504 :: x505 :: x506 :: x507 :: x508 :: x509 :: x510 :: x511 :: x512 :: x513 :: x514 :: x515 :: x516 :: x517 :: x518 :: x519 :: x520 :: x521 :: x522 :: x523 :: x524 :: x525 :: x526 :: x527 :: x528 :: x529 :: x530 :: x531 :: x532 :: x533 :: x534 :: x535 :: x536 :: x537 :: x538 :: x539 :: x540 :: x541 :: x542 :: x543 :: x544 :: x545 :: x546 :: x547 :: x548 :: x549 :: x550 :: x551 :: x552 :: x553 :: x554 :: x555 :: x556 :: x557 :: x558 :: x559 :: x560 :: x561 :: x562 :: x563 :: x564 :: x565 :: x566 :: x567 :: x568 :: x569 :: x570 :: x571 :: x572 :: x573 :: x574 :: x575 :: []), defers := [] } w := by
  rw [show cRest 20 (bodyOf Tryz.f3) = .seq (cHead 20 (bodyOf Tryz.f3)) (.seq (cHead 21 (bodyOf Tryz.f3)) (.seq (cHead 22 (bodyOf Tryz.f3)) (.seq (cHead 23 (bodyOf Tryz.f3)) (.seq (cHead 24 (bodyOf Tryz.f3)) (.seq (cHead 25 (bodyOf Tryz.f3)) (.seq (cHead 26 (bodyOf Tryz.f3)) (.seq (cHead 27 (bodyOf Tryz.f3)) (cRest 28 (bodyOf Tryz.f3))))))))) from by kernel_rfl]
  generalize hR : cRest 28 (bodyOf Tryz.f3) = R
  have HR := hid hR
  clear hR
  simp only [bodyOf, Tryz.f3, Option.getD_some, cHead]
  have HB := hid hB
  have HBY := hid hby
  clear hB hby
  go_wp2_with fail
  refine (DrawDropSamples_any u2 n2 c2 _ HBY.out hl2).mono ?_
  rintro e w1 ⟨⟨v_s, s, r, f, rfl, r_s, hsl, ⟨r1, r2⟩, f1, f2⟩, hb⟩
  have HB := hid (bel_step HB.out hb)
  have HBY := hid (By.later HBY.out hb)
  have HR_s := hid r_s
  clear hb r_s
  obtain ⟨q, hq⟩ : ∃ z, z = dsB s r f := ⟨_, rfl⟩
  obtain ⟨X, hX⟩ : ∃ z, z = onL q (dropL r.toNat f.toNat s) := ⟨_, rfl⟩
  have lX : X.length ≤ 2000000 := by
    rw [hX]
    refine onL_len fun h => ?_
    rw [hq] at h
    unfold dsB at h
    simp only [Bool.and_eq_true] at h
    have := raB_t h.2.1
    exact Nat.le_trans (dropL_le _ _ _ (by omega)) (by omega)
  have Kdi := fun (W : World) (v : Value) (h : Sl W v s) => impl_DropSamples_any v s r f W h
  have Kds := fun (W : World) (v : Value) (h : Sl W v s) => spec_DropSamples_any v s r f W h
  rw [← hq, ← hX] at Kdi Kds
  have Kdi := hid Kdi
  have Kds := hid Kds
  clear hq hX
  go_wp2_with fail
  refine (Kdi.out _ _ HR_s.out.sl).mono ?_
  rintro e w2 ⟨v_Xi, rfl, r_Xi, hb⟩
  have HB := hid (bel_step HB.out hb)
  have HBY := hid (By.later HBY.out hb)
  have HR_s := hid (HR_s.out.kept hb)
  have HR_Xi := hid r_Xi
  clear hb r_Xi
  go_wp2_with fail
  refine (Kds.out _ _ HR_s.out.sl).mono ?_
  rintro e w3 ⟨v_Xs, rfl, r_Xs, hb⟩
  have HB := hid (bel_step HB.out hb)
  have HBY := hid (By.later HBY.out hb)
  have HR_s := hid (HR_s.out.kept hb)
  have HR_Xi := hid (HR_Xi.out.kept hb)
  have HR_Xs := hid r_Xs
  clear hb r_Xs
  clear Kdi Kds HR_s
  go_wp2_with fail
  refine (DrawStuffZeros_any u2 n2 c2 _ HBY.out hl2).mono ?_
  rintro e w4 ⟨⟨v_u, u, k, rfl, r_u, hul, k1, k2⟩, hb⟩
  obtain ⟨a_u, nu, c_u, rfl, hnu, -⟩ := id r_u.sl.rd
  have HB := hid (bel_step HB.out hb)
  have HBY := hid (By.later HBY.out hb)
  have HR_Xi := hid (HR_Xi.out.kept hb)
  have HR_Xs := hid (HR_Xs.out.kept hb)
  have HR_u := hid r_u
  have Hnu := hid hnu
  clear hb r_u hnu
  obtain ⟨p, hp⟩ : ∃ z, z = szB u k := ⟨_, rfl⟩
  obtain ⟨Y, hY⟩ : ∃ z, z = onL p (stuffL k.toNat u) := ⟨_, rfl⟩
  have hpp : p = true → (SigP u ∧ 1 ≤ k ∧ k ≤ 8) ∧ SigP (stuffL k.toNat u) := fun h => by
    rw [hp] at h
    unfold szB at h
    simp only [Bool.and_eq_true] at h
    have := raB_t h.1.2
    exact ⟨⟨sigB_t h.1.1, this⟩, sigB_t h.2⟩
  have lY : Y.length ≤ 2000000 := by
    rw [hY]
    refine onL_len fun h => ?_
    have := (hpp h).2.1
    omega
  have Kzi := fun (W : World) (v : Value) (h : Sl W v u) => impl_StuffZeros_any v u k W h
  have Kzs := fun (W : World) (v : Value) (h : Sl W v u) => spec_StuffZeros_any v u k W h
  rw [← hp, ← hY] at Kzi Kzs
  have Kzi := hid Kzi
  have Kzs := hid Kzs
  have Hpp := hid hpp
  have HY := hid hY
  clear hp hpp hY
  go_wp2_with fail
  refine (Kzi.out _ _ HR_u.out.sl).mono ?_
  rintro e w5 ⟨v_Yi, rfl, r_Yi, hb⟩
  have HB := hid (bel_step HB.out hb)
  have HBY := hid (By.later HBY.out hb)
  have HR_Xi := hid (HR_Xi.out.kept hb)
  have HR_Xs := hid (HR_Xs.out.kept hb)
  have HR_u := hid (HR_u.out.kept hb)
  have HR_Yi := hid r_Yi
  clear hb r_Yi
  go_wp2_with fail
  refine (Kzs.out _ _ HR_u.out.sl).mono ?_
  rintro e w6 ⟨v_Ys, rfl, r_Ys, hb⟩
  have HB := hid (bel_step HB.out hb)
  have HBY := hid (By.later HBY.out hb)
  have HR_Xi := hid (HR_Xi.out.kept hb)
  have HR_Xs := hid (HR_Xs.out.kept hb)
  have HR_u := hid (HR_u.out.kept hb)
  have HR_Yi := hid (HR_Yi.out.kept hb)
  have HR_Ys := hid r_Ys
  clear hb r_Ys
  clear Kzi Kzs
  obtain ⟨a_y, ny, c_y, rfl, hny, -⟩ := id HR_Yi.out.sl.rd
  have Hny := hid hny
  clear hny
  cases q
  all_goals cases p
  all_goals
    try (obtain ⟨⟨hsu, k3, k4⟩, hst⟩ := Hpp.out rfl; have Hsu := hid hsu; have Hst := hid hst; clear hsu hst)
    go_wp2_with fail
    refine (iSame_same _ _ X _ HR_Xi.out.sl HR_Xs.out.sl lX).mono ?_
    rintro e w7 ⟨rfl, hb⟩
    have HB := hid (bel_step HB.out hb)
    have HBY := hid (By.later HBY.out hb)
    have HR_Xi := hid (HR_Xi.out.kept hb)
    have HR_Xs := hid (HR_Xs.out.kept hb)
    have HR_u := hid (HR_u.out.kept hb)
    have HR_Yi := hid (HR_Yi.out.kept hb)
    have HR_Ys := hid (HR_Ys.out.kept hb)
    clear hb
    clear HR_Xi HR_Xs
    go_wp2_with fail
    refine (iSame_same _ _ Y _ HR_Yi.out.sl HR_Ys.out.sl lY).mono ?_
    rintro e w8 ⟨rfl, hb⟩
    have HB := hid (bel_step HB.out hb)
    have HBY := hid (By.later HBY.out hb)
    have HR_u := hid (HR_u.out.kept hb)
    have HR_Yi := hid (HR_Yi.out.kept hb)
    have HR_Ys := hid (HR_Ys.out.kept hb)
    clear hb
    clear HR_Ys
  · go_wp2_with fail
    rw [← HR.out]
    exact sums_G u1 u2 n1 c1 n2 c2 w0 w8 HB.out HBY.out hl2 _ _ _ _ _ _ _ _ _ _ _ _ _ _ _ _ _ _ _ _ _ _ _ _ _ _ _ _ _ _ _ _ _ _ _ _ _ _ _ _ _ _ _ _ _ _ _ _ _ _ _ _ _ _ _ _ _ _ _ _ _ _ _ _ _ _ _ _ _ _ _ _ _ _ _ _ _ _ _ _ _ _ _ _ _ _ _ _ _ _ _ _ _ _ _ _ _ _ _ _ _ _ _ _ _ _ _ _ _ _ _ _ _ _ _ _ _ _ _ _ _ _ _ _ _ _ _ _ _ _ _ _ _ _ _ _ _ _ _ _ _ _ _ _ _ _ _ _ _ _ _ _ _ _ _ _ _ _ _ _ _ _ _ _ _ _ _ _ _ _ _ _ _ _ _ _ _ _ _ _ _ _ _ _ _ _ _ _ _ _ _ _ _ _ _ _ _ _ _ _ _ _ _ _ _ _ _ _ _ _ _ _ _ _ _ _ _ _ _ _ _ _ _ _ _ _ _ _ _ _ _ _ _ _ _ _ _ _ _ _ _ _ _ _ _ _ _ _ _ _ _ _ _ _ _ _ _ _ _ _ _ _ _ _ _ _ _ _ _ _ _ _ _ _ _ _ _ _ _ _ _ _ _ _ _ _ _ _ _ _ _ _ _ _ _ _ _ _ _ _ _ _ _ _ _ _ _ _ _ _ _ _ _ _ _ _ _ _ _ _ _ _ _ _ _ _ _ _ _ _ _ _ _ _ _ _ _ _ _ _ _ _ _ _ _ _ _ _ _ _ _ _ _ _ _ _ _ _ _ _ _ _ _ _ _ _ _ _ _ _ _ _ _ _ _ _ _ _ _ _ _ _ _ _ _ _ _ _ _ _ _ _ _ _ _ _ _ _ _ _ _ _ _ _ _ _ _ _ _ _ _ _ _ _ _ _ _ _ _ _ _ _ _ _ _ _ _ _ _ _ _ _ _ _ _ _ _ _ _ _ _ _ _ _ _ _ _ _ _ _ _ _ _ _ _ _ _ _ _ _ _ _ _ _ _ _ _ _ _ _ _ _ _ _ _ _ _ _ _ _ _ _ _ _ _ _ _ _ _ _ _ _ _ _ _ _ _ _ _ _ _ _ _ _ _ _ _ _ _ _ _ _ _ _ _ _ _ _ _ _ _ _ _ _ _ _ _ _ _ _ _ _ _ _ _ _ _ _ _ _ _ _ _ _ _ _ _ _ _ _ _ _ _ _ _ _ _ _ _ _ _ _ _ _ _ _ _ _ _ _ _ _ _ _
  · have hsu := Hsu.out
    have hst := Hst.out
    have eY : Y = stuffL k.toNat u := HY.out
    have hds : dsB Y k 0 = true := by
      rw [eY]
      unfold dsB
      rw [sigB_of hst, show raB k = true from decide_eq_true ⟨k3, k4⟩, show decide (0 ≤ (0 : Int) ∧ (0 : Int) ≤ k - 1) = true from decide_eq_true (by omega)]
      rfl
    have hdl : dropL k.toNat (0 : Int).toNat Y = u := by rw [eY]; exact drop_stuff (by omega) u
    have KD := fun (W : World) (v : Value) (h : Sl W v Y) => impl_DropSamples_any v Y k 0 W h
    rw [hds, hdl, show onL true u = u from rfl] at KD
    have KD := hid KD
    have hsum : sumL Y = sumL u := by rw [eY]; exact sum_stuff (by omega) u
    have hInU : InP (-1000000000000) 1000000000000 u := fun x hx => by have := hsu.2 x hx; omega
    have hInY : InP (-1000000000000) 1000000000000 Y := fun x hx => by rw [eY] at hx; have := hst.2 x hx; omega
    have KU := fun (W : World) (v : Value) (h : Sl W v u) => iSum_any v u W h (by omega) hInU
    have KY := fun (W : World) (v : Value) (h : Sl W v Y) => iSum_any v Y W h lY hInY
    rw [hsum] at KY
    have KU := hid KU
    have KY := hid KY
    have hnyk : (ny : Int) = k * (nu : Int) := by
      rw [Hny.out, eY, stuffL_len, Hnu.out, Int.natCast_mul, Int.toNat_of_nonneg (by omega), Int.mul_comm]
    have ny1 : ny ≤ 64 := by rw [Hny.out, eY]; exact hst.1
    have i1 : ∀ [Inhabited Unit], IntKind.i64.wrap (k * (nu : Int)) = (ny : Int) := fun {_} => by rw [← hnyk]; exact IntWalk.i64_in _ (by omega)
    have i2 : ∀ [Inhabited Unit], wrap64 (k * (nu : Int)) = (ny : Int) := fun {_} => by rw [← hnyk]; exact IntWalk.wrap64_in _ (by omega)
    have lu : u.length ≤ 2000000 := by omega
    clear hdl hds hsum hInU hInY hnyk hst hsu
    go_wp2_with fail
    refine (KD.out _ _ HR_Yi.out.sl).mono ?_
    rintro e w50 ⟨v_z, rfl, r_z, hb⟩
    have HB := hid (bel_step HB.out hb)
    have HBY := hid (By.later HBY.out hb)
    have HR_u := hid (HR_u.out.kept hb)
    have HR_Yi := hid (HR_Yi.out.kept hb)
    have HR_z := hid r_z
    clear hb r_z
    go_wp2_with fail
    refine (iSame_same _ _ u _ HR_z.out.sl HR_u.out.sl lu).mono ?_
    rintro e w51 ⟨rfl, hb⟩
    have HB := hid (bel_step HB.out hb)
    have HBY := hid (By.later HBY.out hb)
    have HR_u := hid (HR_u.out.kept hb)
    have HR_Yi := hid (HR_Yi.out.kept hb)
    clear hb HR_z
    go_wp2_with fail
    refine (KY.out _ _ HR_Yi.out.sl).mono ?_
    rintro e w' ⟨rfl, rfl⟩
    go_wp2_with fail
    refine (KU.out _ _ HR_u.out.sl).mono ?_
    rintro e w' ⟨rfl, rfl⟩
    generalize sumL u = z
    go_wp2_with fail
    rw [← HR.out]
    exact sums_G u1 u2 n1 c1 n2 c2 w0 w51 HB.out HBY.out hl2 _ _ _ _ _ _ _ _ _ _ _ _ _ _ _ _ _ _ _ _ _ _ _ _ _ _ _ _ _ _ _ _ _ _ _ _ _ _ _ _ _ _ _ _ _ _ _ _ _ _ _ _ _ _ _ _ _ _ _ _ _ _ _ _ _ _ _ _ _ _ _ _ _ _ _ _ _ _ _ _ _ _ _ _ _ _ _ _ _ _ _ _ _ _ _ _ _ _ _ _ _ _ _ _ _ _ _ _ _ _ _ _ _ _ _ _ _ _ _ _ _ _ _ _ _ _ _ _ _ _ _ _ _ _ _ _ _ _ _ _ _ _ _ _ _ _ _ _ _ _ _ _ _ _ _ _ _ _ _ _ _ _ _ _ _ _ _ _ _ _ _ _ _ _ _ _ _ _ _ _ _ _ _ _ _ _ _ _ _ _ _ _ _ _ _ _ _ _ _ _ _ _ _ _ _ _ _ _ _ _ _ _ _ _ _ _ _ _ _ _ _ _ _ _ _ _ _ _ _ _ _ _ _ _ _ _ _ _ _ _ _ _ _ _ _ _ _ _ _ _ _ _ _ _ _ _ _ _ _ _ _ _ _ _ _ _ _ _ _ _ _ _ _ _ _ _ _ _ _ _ _ _ _ _ _ _ _ _ _ _ _ _ _ _ _ _ _ _ _ _ _ _ _ _ _ _ _ _ _ _ _ _ _ _ _ _ _ _ _ _ _ _ _ _ _ _ _ _ _ _ _ _ _ _ _ _ _ _ _ _ _ _ _ _ _ _ _ _ _ _ _ _ _ _ _ _ _ _ _ _ _ _ _ _ _ _ _ _ _ _ _ _ _ _ _ _ _ _ _ _ _ _ _ _ _ _ _ _ _ _ _ _ _ _ _ _ _ _ _ _ _ _ _ _ _ _ _ _ _ _ _ _ _ _ _ _ _ _ _ _ _ _ _ _ _ _ _ _ _ _ _ _ _ _ _ _ _ _ _ _ _ _ _ _ _ _ _ _ _ _ _ _ _ _ _ _ _ _ _ _ _ _ _ _ _ _ _ _ _ _ _ _ _ _ _ _ _ _ _ _ _ _ _ _ _ _ _ _ _ _ _ _ _ _ _ _ _ _ _ _ _ _ _ _ _ _ _ _ _ _ _ _ _ _ _ _ _ _ _ _ _ _ _ _ _ _ _ _ _ _ _ _ _ _ _ _ _ _ _ _ _ _ _ _ _ _ _ _ _ _ _ _ _ _ _ _ _ _ _ _ _ _ _ _ _ _ _ _ _ _ _ _ _ _
  · go_wp2_with fail
    rw [← HR.out]
    exact sums_G u1 u2 n1 c1 n2 c2 w0 w8 HB.out HBY.out hl2 _ _ _ _ _ _ _ _ _ _ _ _ _ _ _ _ _ _ _ _ _ _ _ _ _ _ _ _ _ _ _ _ _ _ _ _ _ _ _ _ _ _ _ _ _ _ _ _ _ _ _ _ _ _ _ _ _ _ _ _ _ _ _ _ _ _ _ _ _ _ _ _ _ _ _ _ _ _ _ _ _ _ _ _ _ _ _ _ _ _ _ _ _ _ _ _ _ _ _ _ _ _ _ _ _ _ _ _ _ _ _ _ _ _ _ _ _ _ _ _ _ _ _ _ _ _ _ _ _ _ _ _ _ _ _ _ _ _ _ _ _ _ _ _ _ _ _ _ _ _ _ _ _ _ _ _ _ _ _ _ _ _ _ _ _ _ _ _ _ _ _ _ _ _ _ _ _ _ _ _ _ _ _ _ _ _ _ _ _ _ _ _ _ _ _ _ _ _ _ _ _ _ _ _ _ _ _ _ _ _ _ _ _ _ _ _ _ _ _ _ _ _ _ _ _ _ _ _ _ _ _ _ _ _ _ _ _ _ _ _ _ _ _ _ _ _ _ _ _ _ _ _ _ _ _ _ _ _ _ _ _ _ _ _ _ _ _ _ _ _ _ _ _ _ _ _ _ _ _ _ _ _ _ _ _ _ _ _ _ _ _ _ _ _ _ _ _ _ _ _ _ _ _ _ _ _ _ _ _ _ _ _ _ _ _ _ _ _ _ _ _ _ _ _ _ _ _ _ _ _ _ _ _ _ _ _ _ _ _ _ _ _ _ _ _ _ _ _ _ _ _ _ _ _ _ _ _ _ _ _ _ _ _ _ _ _ _ _ _ _ _ _ _ _ _ _ _ _ _ _ _ _ _ _ _ _ _ _ _ _ _ _ _ _ _ _ _ _ _ _ _ _ _ _ _ _ _ _ _ _ _ _ _ _ _ _ _ _ _ _ _ _ _ _ _ _ _ _ _ _ _ _ _ _ _ _ _ _ _ _ _ _ _ _ _ _ _ _ _ _ _ _ _ _ _ _ _ _ _ _ _ _ _ _ _ _ _ _ _ _ _ _ _ _ _ _ _ _ _ _ _ _ _ _ _ _ _ _ _ _ _ _ _ _ _ _ _ _ _ _ _ _ _ _ _ _ _ _ _ _ _ _ _ _ _ _ _ _ _ _ _ _ _ _ _ _ _ _ _ _ _ _ _ _ _ _ _ _ _ _ _ _ _ _ _ _ _ _ _ _ _ _ _ _ _ _ _ _ _ _ _ _ _ _ _ _ _ _ _ _ _ _ _ _
  · have hsu := Hsu.out
    have hst := Hst.out
    have eY : Y = stuffL k.toNat u := HY.out
    have hds : dsB Y k 0 = true := by
      rw [eY]
      unfold dsB
      rw [sigB_of hst, show raB k = true from decide_eq_true ⟨k3, k4⟩, show decide (0 ≤ (0 : Int) ∧ (0 : Int) ≤ k - 1) = true from decide_eq_true (by omega)]
      rfl
    have hdl : dropL k.toNat (0 : Int).toNat Y = u := by rw [eY]; exact drop_stuff (by omega) u
    have KD := fun (W : World) (v : Value) (h : Sl W v Y) => impl_DropSamples_any v Y k 0 W h
    rw [hds, hdl, show onL true u = u from rfl] at KD
    have KD := hid KD
    have hsum : sumL Y = sumL u := by rw [eY]; exact sum_stuff (by omega) u
    have hInU : InP (-1000000000000) 1000000000000 u := fun x hx => by have := hsu.2 x hx; omega
    have hInY : InP (-1000000000000) 1000000000000 Y := fun x hx => by rw [eY] at hx; have := hst.2 x hx; omega
    have KU := fun (W : World) (v : Value) (h : Sl W v u) => iSum_any v u W h (by omega) hInU
    have KY := fun (W : World) (v : Value) (h : Sl W v Y) => iSum_any v Y W h lY hInY
    rw [hsum] at KY
    have KU := hid KU
    have KY := hid KY
    have hnyk : (ny : Int) = k * (nu : Int) := by
      rw [Hny.out, eY, stuffL_len, Hnu.out, Int.natCast_mul, Int.toNat_of_nonneg (by omega), Int.mul_comm]
    have ny1 : ny ≤ 64 := by rw [Hny.out, eY]; exact hst.1
    have i1 : ∀ [Inhabited Unit], IntKind.i64.wrap (k * (nu : Int)) = (ny : Int) := fun {_} => by rw [← hnyk]; exact IntWalk.i64_in _ (by omega)
    have i2 : ∀ [Inhabited Unit], wrap64 (k * (nu : Int)) = (ny : Int) := fun {_} => by rw [← hnyk]; exact IntWalk.wrap64_in _ (by omega)
    have lu : u.length ≤ 2000000 := by omega
    clear hdl hds hsum hInU hInY hnyk hst hsu
    go_wp2_with fail
    refine (KD.out _ _ HR_Yi.out.sl).mono ?_
    rintro e w50 ⟨v_z, rfl, r_z, hb⟩
    have HB := hid (bel_step HB.out hb)
    have HBY := hid (By.later HBY.out hb)
    have HR_u := hid (HR_u.out.kept hb)
    have HR_Yi := hid (HR_Yi.out.kept hb)
    have HR_z := hid r_z
    clear hb r_z
    go_wp2_with fail
    refine (iSame_same _ _ u _ HR_z.out.sl HR_u.out.sl lu).mono ?_
    rintro e w51 ⟨rfl, hb⟩
    have HB := hid (bel_step HB.out hb)
    have HBY := hid (By.later HBY.out hb)
    have HR_u := hid (HR_u.out.kept hb)
    have HR_Yi := hid (HR_Yi.out.kept hb)
    clear hb HR_z
    go_wp2_with fail
    refine (KY.out _ _ HR_Yi.out.sl).mono ?_
    rintro e w' ⟨rfl, rfl⟩
    go_wp2_with fail
    refine (KU.out _ _ HR_u.out.sl).mono ?_
    rintro e w' ⟨rfl, rfl⟩
    generalize sumL u = z
    go_wp2_with fail
    rw [← HR.out]
    exact sums_G u1 u2 n1 c1 n2 c2 w0 w51 HB.out HBY.out hl2 _ _ _ _ _ _ _ _ _ _ _ _ _ _ _ _ _ _ _ _ _ _ _ _ _ _ _ _ _ _ _ _ _ _ _ _ _ _ _ _ _ _ _ _ _ _ _ _ _ _ _ _ _ _ _ _ _ _ _ _ _ _ _ _ _ _ _ _ _ _ _ _ _ _ _ _ _ _ _ _ _ _ _ _ _ _ _ _ _ _ _ _ _ _ _ _ _ _ _ _ _ _ _ _ _ _ _ _ _ _ _ _ _ _ _ _ _ _ _ _ _ _ _ _ _ _ _ _ _ _ _ _ _ _ _ _ _ _ _ _ _ _ _ _ _ _ _ _ _ _ _ _ _ _ _ _ _ _ _ _ _ _ _ _ _ _ _ _ _ _ _ _ _ _ _ _ _ _ _ _ _ _ _ _ _ _ _ _ _ _ _ _ _ _ _ _ _ _ _ _ _ _ _ _ _ _ _ _ _ _ _ _ _ _ _ _ _ _ _ _ _ _ _ _ _ _ _ _ _ _ _ _ _ _ _ _ _ _ _ _ _ _ _ _ _ _ _ _ _ _ _ _ _ _ _ _ _ _ _ _ _ _ _ _ _ _ _ _ _ _ _ _ _ _ _ _ _ _ _ _ _ _ _ _ _ _ _ _ _ _ _ _ _ _ _ _ _ _ _ _ _ _ _ _ _ _ _ _ _ _ _ _ _ _ _ _ _ _ _ _ _ _ _ _ _ _ _ _ _ _ _ _ _ _ _ _ _ _ _ _ _ _ _ _ _ _ _ _ _ _ _ _ _ _ _ _ _ _ _ _ _ _ _ _ _ _ _ _ _ _ _ _ _ _ _ _ _ _ _ _ _ _ _ _ _ _ _ _ _ _ _ _ _ _ _ _ _ _ _ _ _ _ _ _ _ _ _ _ _ _ _ _ _ _ _ _ _ _ _ _ _ _ _ _ _ _ _ _ _ _ _ _ _ _ _ _ _ _ _ _ _ _ _ _ _ _ _ _ _ _ _ _ _ _ _ _ _ _ _ _ _ _ _ _ _ _ _ _ _ _ _ _ _ _ _ _ _ _ _ _ _ _ _ _ _ _ _ _ _ _ _ _ _ _ _ _ _ _ _ _ _ _ _ _ _ _ _ _ _ _ _ _ _ _ _ _ _ _ _ _ _ _ _ _ _ _ _ _ _ _ _ _ _ _ _ _ _ _ _ _ _ _ _ _ _ _ _ _ _ _ _ _ _ _ _ _ _ _ _ _ _ _ _ _ _ _ _ _ _ _ _ _ _ _

end Go.Proofs.YtichkianildkgaaGreat

namespace Go.Proofs.YtichkianildkgaaGreat
open Go.RowKit BitX Go.MemX Go.Ch6 Go.ShX Dr Mb
set_option linter.unusedVariables false


set_option maxRecDepth 20000 in
set_option maxHeartbeats 8000000 in
theorem sums_D2 (u1 u2 : Option Addr) (n1 c1 n2 c2 : Nat) (w0 w : World) (hB : Below w0.heap.size w0 w) (hby : By w.heap.size w u2 n2) (hl2 : n2 ≤ 1048576) (KK : Act → World → Prop) (HK : Hid (∀ a w, Code.wp Tryz.prog (cRest 20 (bodyOf Tryz.f3)) (qS w0) a w → KK a w)) (X : List Int) (nx : Nat) (a_x : Option Addr) (c_x : Nat) (Hnx : Hid (nx = X.length)) (Rd_x : Hid (Rd w a_x X)) (Hrev : Hid (X.reverse = X)) (nx1 : 1 ≤ nx) (nx2 : nx ≤ 64) (HXb : Hid (InP (-5000) 5000 X)) (x2 x3 x4 x5 x6 x7 x8 x9 x10 x11 x12 x13 x14 x15 x16 x17 x18 x19 x20 x21 x22 x23 x24 x25 x26 x27 x28 x29 x30 x31 x33 x34 x35 x36 x37 x38 x39 x40 x41 x42 x43 x44 x45 x46 x47 x48 x49 x50 x51 x52 x53 x54 x55 x56 x57 x58 x59 x60 x61 x62 x63 x64 x65 x66 x67 x68 x69 x70 x71 x72 x73 x74 x75 x76 x77 x78 x79 x80 x81 x82 x83 x84 x85 x86 x87 x88 x89 x90 x91 x92 x93 x94 x95 x96 x97 x98 x99 x100 x101 x102 x103 x104 x105 x106 x107 x108 x109 x110 x111 x112 x113 x114 x115 x116 x117 x118 x119 x120 x121 x122 x123 x124 x125 x126 x127 x128 x129 x130 x131 x132 x133 x134 x135 x136 x137 x138 x139 x140 x141 x142 x143 x144 x145 x146 x147 x148 x149 x150 x151 x152 x153 x154 x155 x156 x157 x158 x159 x160 x161 x162 x163 x164 x165 x166 x167 x168 x169 x170 x171 x172 x173 x174 x175 x176 x177 x178 x179 x180 x181 x182 x183 x184 x185 x186 x187 x188 x189 x190 x191 x192 x193 x194 x195 x196 x197 x198 x199 x200 x201 x202 x203 x204 x205 x206 x207 x208 x209 x210 x211 x212 x213 x214 x215 x216 x217 x218 x219 x220 x221 x222 x223 x224 x225 x226 x227 x228 x229 x230 x231 x232 x233 x234 x235 x236 x237 x238 x239 x240 x241 x242 x243 x244 x245 x246 x247 x248 x249 x250 x251 x252 x253 x254 x255 x256 x257 x258 x259 x260 x261 x262 x263 x264 x265 x266 x267 x268 x269 x270 x271 x272 x273 x274 x275 x276 x277 x278 x279 x280 x281 x282 x283 x284 x285 x286 x287 x288 x289 x290 x291 x292 x293 x294 x295 x296 x297 x298 x299 x300 x301 x302 x303 x304 x305 x306 x307 x308 x309 x310 x311 x312 x313 x314 x315 x316 x317 x318 x319 x320 x321 x322 x323 x324 x325 x326 x327 x328 x329 x330 x331 x332 x333 x334 x335 x336 x337 x338 x339 x340 x341 x342 x343 x344 x345 x346 x347 x348 x349 x350 x351 x352 x353 x354 x355 x356 x357 x358 x359 x360 x361 x362 x363 x364 x365 x366 x367 x368 x369 x370 x371 x372 x373 x374 x375 x376 x377 x378 x379 x380 x381 x382 x383 x384 x385 x386 x387 x388 x389 x390 x391 x392 x393 x394 x395 x396 x397 x398 x399 x400 x401 x402 x403 x404 x405 x406 x407 x408 x409 x410 x411 x412 x413 x414 x415 x416 x417 x418 x419 x420 x421 x422 x423 x424 x425 x426 x427 x428 x429 x430 x431 x432 x433 x434 x435 x436 x437 x438 x439 x440 x441 x442 x443 x444 x445 x446 x447 x448 x449 x450 x451 x452 x453 x454 x455 x456 x457 x458 x459 x460 x461 x462 x463 x464 x465 x466 x467 x468 x469 x470 x471 x472 x473 x474 x475 x476 x477 x478 x479 x480 x481 x482 x483 x484 x485 x486 x487 x488 x489 x490 x491 x492 x493 x494 x495 x496 x497 x498 x499 x500 x501 x502 x503 x504 x505 x506 x507 x508 x509 x510 x511 x512 x513 x514 x515 x516 x517 x518 x519 x520 x521 x522 x523 x524 x525 x526 x527 x528 x529 x530 x531 x532 x533 x534 x535 x536 x537 x538 x539 x540 x541 x542 x543 x544 x545 x546 x547 x548 x549 x550 x551 x552 x553 x554 x555 x556 x557 x558 x559 x560 x561 x562 x563 x564 x565 x566 x567 x568 x569 x570 x571 x572 x573 x574 x575 : Value) :
    Code.wp Tryz.prog (cRest 1 (cThen (cHead 19 (bodyOf Tryz.f3)))) (Exit.then KK (qS w0)) { tmps := List.toArray ((.slice u1 n1 c1) :: (.slice u2 n2 c2) :: x2 :: x3 :: x4 :: x5 :: x6 :: x7 :: x8 :: x9 :: x10 :: x11 :: x12 :: x13 :: x14 :: x15 :: x16 :: x17 :: x18 :: x19 :: x20 :: x21 :: x22 :: x23 :: x24 :: x25 :: x26 :: x27 :: x28 :: x29 :: x30 :: x31 :: (.slice a_x nx c_x) :: x33 :: x34 :: x35 :: x36 :: x37 :: x38 :: x39 :: x40 :: x41 :: x42 :: x43 :: x44 :: x45 :: x46 :: x47 :: x48 :: x49 :: x50 :: x51 :: x52 :: x53 :: x54 :: x55 :: x56 :: x57 :: x58 :: x59 :: x60 :: x61 :: x62 :: x63 :: x64 :: x65 :: x66 :: x67 :: x68 :: x69 :: x70 :: x71 :: x72 :: x73 :: x74 :: x75 :: x76 :: x77 :: x78 :: x79 :: x80 :: x81 :: x82 :: x83 :: x84 :: x85 :: x86 :: x87 :: x88 :: x89 :: x90 :: x91 :: x92 :: x93 :: x94 :: x95 :: x96 :: x97 :: x98 :: x99 :: x100 :: x101 :: x102 :: x103 :: x104 :: x105 :: x106 :: x107 :: x108 :: x109 :: x110 :: x111 :: x112 :: x113 :: x114 :: x115 :: x116 :: x117 :: x118 :: x119 :: x120 :: x121 :: x122 :: x123 :: x124 :: x125 :: x126 :: x127 :: x128 :: x129 :: x130 :: x131 :: x132 :: x133 :: x134 :: x135 :: x136 :: x137 :: x138 :: x139 :: x140 :: x141 :: x142 :: x143 :: x144 :: x145 :: x146 :: x147 :: x148 :: x149 :: x150 :: x151 :: x152 :: x153 :: x154 :: x155 :: x156 :: x157 :: x158 :: x159 :: x160 :: x161 :: x162 :: x163 :: x164 :: x165 :: x166 :: x167 :: x168 :: x169 :: x170 :: x171 :: x172 :: x173 :: x174 :: x175 :: x176 :: x177 :: x178 :: x179 :: x180 :: x181 :: x182 :: x183 :: x184 :: x185 :: x186 :: x187 :: x188 :: x189 :: x190 :: x191 :: x192 :: x193 :: x194 :: x195 :: x196 :: x197 :: x198 :: x199 :: x200 :: x201 :: x202 :: x203 :: x204 :: x205 :: x206 :: x207 :: x208 :: x209 :: x210 :: x211 :: x212 :: x213 :: x214 :: x215 :: x216 :: x217 :: x218 :: x219 :: x220 :: x221 :: x222 :: x223 :: x224 :: x225 :: x226 :: x227 :: x228 :: x229 :: x230 :: x231 :: x232 :: x233 :: x234 :: x235 :: x236 :: x237 :: x238 :: x239 :: x240 :: x241 :: x242 :: x243 :: x244 :: x245 :: x246 :: x247 :: x248 :: x249 :: x250 :: x251 :: x252 :: x253 :: x254 :: x255 :: x256 :: x257 :: x258 :: x259 :: x260 :: x261 :: x262 :: x263 :: x264 :: x265 :: x266 :: x267 :: x268 :: x269 :: x270 :: x271 :: x272 :: x273 :: x274 :: x275 :: x276 :: x277 :: x278 :: x279 :: x280 :: x281 :: x282 :: x283 :: x284 :: x285 :: x286 :: x287 :: x288 :: x289 :: x290 :: x291 :: x292 :: x293 :: x294 :: x295 :: x296 :: x297 :: x298 :: x299 :: x300 :: x301 :: x302 :: x303 :: x304 :: x305 :: x306 :: x307 :: x308 :: x309 :: x310 :: x311 :: x312 :: x313 :: x314 :: x315 :: x316 :: x317 :: x318 :: x319 :: x320 :: x321 :: x322 :: x323 :: x324 :: x325 :: x326 :: x327 :: x328 :: x329 :: x330 :: x331 :: x332 :: x333 :: x334 :: x335 :: x336 :: x337 :: x338 :: x339 :: x340 :: x341 :: x342 :: x343 :: x344 :: x345 :: x346 :: x347 :: x348 :: x349 :: x350 :: x351 :: x352 :: x353 :: x354 :: x355 :: x356 :: x357 :: x358 :: x359 :: x360 :: x361 :: x362 :: x363 :: x364 :: x365 :: x366 :: x367 :: x368 :: x369 :: x370 :: x371 :: x372 :: x373 :: x374 :: x375 :: x376 :: x377 :: x378 :: x379 :: x380 :: x381 :: x382 :: x383 :: x384 :: x385 :: x386 :: x387 :: x388 :: x389 :: x390 :: x391 :: x392 :: x393 :: x394 :: x395 :: x396 :: x397 :: x398 :: x399 :: x400 :: x401 :: x402 :: x403 :: x404 :: x405 :: x406 :: x407 :: x408 :: x409 :: x410 :: x411 :: x412 :: x413 :: x414 :: x415 :: x416 :: x417 :: x418 :: x419 :: x420 :: x421 :: x422 :: x423 :: x424 :: x425 :: x426 :: x427 :: x428 :: x429 :: x430 :: x431 :: x432 :: x433 :: x434 :: x435 :: x436 :: x437 :: x438 :: x439 :: x440 :: x441 :: x442 :: x443 :: x444 :: x445 :: x446 :: x447 :: x448 :: x449 :: x450 :: x451 :: x452 :: x453 :: x454 :: x455 :: x456 :: x457 :: x458 :: x459 :: x460 :: x461 :: x462 :: x463 :: x464 :: x465 :: x466 :: x467 :: x468 :: x469 :: x470 :: x471 :: x472 :: x473 :: x474 :: x475 :: x476 :: x477 :: x478 :: x479 :: x480 :: x481 :: x482 :: x483 :: x484 :: x485 :: x486 :: x487 :: x488 :: x489 :: x490 :: x491 :: x492 :: x493 :: x494 :: x495 :: x496 :: x497 :: x498 :: x499 :: x500 :: x501 :: x502 :: x503 :: x504 :: x505 :: x506 :: x507 :: x508 :: x509 :: x510 :: x511 :: x512 :: x513 :: x514 :: x515 :: x516 :: x517 :: x518 :: x519 :: x520 :: x521 :: x522 :: x523 :: x524 :: x525 :: x526 :: x527 :: x528 :: x529 :: x530 :: x531 :: x532 :: x533 :: x534 :: x535 :: x536 :: x537 :: x538 :: x539 :: x540 :: x541 :: x542 :: x543 :: x544 :: x545 :: x546 :: x547 :: x548 :: x549 :: x550 :: x551 :: x552 :: x553 :: x554 :: x555 :: x556 :: x557 :: x558 :: x559 :: x560 :: x561 :: x562 :: x563 :: x564 :: x565 :: x566 :: x567 :: x568 :: x569 :: x570 :: x571 :: x572 :: x573 :: x574 :: x575 :: []), defers := [] } w := by
  simp only [bodyOf, Tryz.f3, Option.getD_some, cHead, cThen, cRest]
  have HB := hid hB
  have HBY := hid hby
  clear hB hby
  go_wp2_with fail
  go_loopw [368] (fun i wr => ∃ c : Nat, c ≤ nx ∧ i = .int .i64 c ∧ Below w.heap.size w wr)
    (fun i _ => nx - (intOf i).toNat)
  case atStart => exact ⟨0, by omega, rfl, Below.refl _ _⟩
  case round =>
    obtain ⟨c, hc, rfl, hb⟩ := hrel
    by_cases hlc : c < nx
    · obtain ⟨j, hj⟩ : ∃ j : Nat, j = nx - 1 - c := ⟨_, rfl⟩
      have hlj : j < nx := by omega
      obtain ⟨x, hkx⟩ := get_lt X c (by rw [← Hnx.out]; exact hlc)
      have hky : X[j]? = some x := by rw [← hkx, hj, Hnx.out]; exact at_rev Hrev.out (by rw [← Hnx.out]; exact hlc)
      obtain ⟨b0, o0, ix0, hb0, ce0⟩ := (Rd_x.out.kept hb).at (P := Tryz.prog) (T := 24) nx c_x uslice sone hkx hlc
      obtain ⟨b1, o1, ix1, hb1, ce1⟩ := (Rd_x.out.kept hb).at (P := Tryz.prog) (T := 24) nx c_x uslice sone hky hlj
      obtain ⟨x1, x2⟩ := HXb.out.at hkx
      have i1 : IntKind.i64.wrap ((nx : Int) - 1 - (c : Int)) = (j : Int) := by rw [show (nx : Int) - 1 - (c : Int) = (j : Int) from by omega]; exact IntWalk.i64_in _ (by omega)
      have i2 : wrap64 ((nx : Int) - 1 - (c : Int)) = (j : Int) := by rw [show (nx : Int) - 1 - (c : Int) = (j : Int) from by omega]; exact IntWalk.wrap64_in _ (by omega)
      have HHb := hid hb
      clear hkx hky hj hb
      go_wp2_with fail
      go_quiet (fail)
      have hbq := below_drewN HHb.out nq
      generalize wr.drewN nq = wq at hbq ⊢
      go_wp2_with fail
      go_roundw
      case rel => exact ⟨c + 1, by omega, by go_num, hbq⟩
      case measure => simp [intOf]; omega
    · have hge : (nx : Int) ≤ (c : Int) := by omega
      have HHb := hid (bel_step HB.out hb)
      have HBY := hid (By.later HBY.out hb)
      clear hlc hb
      go_wp2_with fail
      refine HK.out _ _ ?_
      exact sums_F u1 u2 n1 c1 n2 c2 w0 wr HHb.out HBY.out hl2 _ _ _ _ _ _ _ _ _ _ _ _ _ _ _ _ _ _ _ _ _ _ _ _ _ _ _ _ _ _ _ _ _ _ _ _ _ _ _ _ _ _ _ _ _ _ _ _ _ _ _ _ _ _ _ _ _ _ _ _ _ _ _ _ _ _ _ _ _ _ _ _ _ _ _ _ _ _ _ _ _ _ _ _ _ _ _ _ _ _ _ _ _ _ _ _ _ _ _ _ _ _ _ _ _ _ _ _ _ _ _ _ _ _ _ _ _ _ _ _ _ _ _ _ _ _ _ _ _ _ _ _ _ _ _ _ _ _ _ _ _ _ _ _ _ _ _ _ _ _ _ _ _ _ _ _ _ _ _ _ _ _ _ _ _ _ _ _ _ _ _ _ _ _ _ _ _ _ _ _ _ _ _ _ _ _ _ _ _ _ _ _ _ _ _ _ _ _ _ _ _ _ _ _ _ _ _ _ _ _ _ _ _ _ _ _ _ _ _ _ _ _ _ _ _ _ _ _ _ _ _ _ _ _ _ _ _ _ _ _ _ _ _ _ _ _ _ _ _ _ _ _ _ _ _ _ _ _ _ _ _ _ _ _ _ _ _ _ _ _ _ _ _ _ _ _ _ _ _ _ _ _ _ _ _ _ _ _ _ _ _ _ _ _ _ _ _ _ _ _ _ _ _ _ _ _ _ _ _ _ _ _ _ _ _ _ _ _ _ _ _ _ _ _ _ _ _ _ _ _ _ _ _ _ _ _ _ _ _ _ _ _ _ _ _ _ _ _ _ _ _ _ _ _ _ _ _ _ _ _ _ _ _ _ _ _ _ _ _ _ _ _ _ _ _ _ _ _ _ _ _ _ _ _ _ _ _ _ _ _ _ _ _ _ _ _ _ _ _ _ _ _ _ _ _ _ _ _ _ _ _ _ _ _ _ _ _ _ _ _ _ _ _ _ _ _ _ _ _ _ _ _ _ _ _ _ _ _ _ _ _ _ _ _ _ _ _ _ _ _ _ _ _ _ _ _ _ _ _ _ _ _ _ _ _ _ _ _ _ _ _ _ _ _ _ _ _ _ _ _ _ _ _ _ _ _ _ _ _ _ _ _ _ _ _ _ _ _ _ _ _ _ _ _ _ _ _ _ _ _ _ _ _ _ _ _ _ _ _ _ _ _ _ _ _ _ _ _ _ _ _ _ _ _ _ _ _ _ _ _ _ _ _ _ _ _ _ _ _ _ _ _ _ _ _ _ _ _ _ _ _ _ _ _ _ _ _ _ _ _ _ _ _ _


set_option maxRecDepth 20000 in
set_option maxHeartbeats 8000000 in
theorem sums_D1 (u1 u2 : Option Addr) (n1 c1 n2 c2 : Nat) (w0 w : World) (hB : Below w0.heap.size w0 w) (hby : By w.heap.size w u2 n2) (hl2 : n2 ≤ 1048576) (KK : Act → World → Prop) (HK : Hid (∀ a w, Code.wp Tryz.prog (cRest 20 (bodyOf Tryz.f3)) (qS w0) a w → KK a w)) (x y G A B : Int) (hx1 : 1 ≤ x) (hx2 : x ≤ 4) (hy1 : 1 ≤ y) (hy2 : y ≤ 8) (g1 : 1 ≤ G) (g2 : G ≤ 4096) (X : List Int) (nx : Nat) (a_x : Option Addr) (c_x : Nat) (Hnx : Hid (nx = X.length)) (Rd_x : Hid (Rd w a_x X)) (Hrev : Hid (X.reverse = X)) (nx1 : 1 ≤ nx) (nx2 : nx ≤ 64) (HXb : Hid (InP (-5000) 5000 X)) (HS : Hid (Sl w (.slice a_x nx c_x) X)) (Hsum : Hid (sumL X = G)) (H0 : Hid (X[0]? = some 1)) (HL : Hid ((nx : Int) = x * (y - 1) + 1)) (Hpar : Hid ((y % 2 = 0 ∧ A = 0) ∨ (y % 2 = 1 ∧ A = 1 ∧ B = G))) (x2 x3 x4 x5 x6 x7 x8 x9 x10 x11 x12 x13 x14 x15 x16 x17 x18 x19 x20 x21 x22 x23 x24 x25 x26 x27 x28 x29 x33 x34 x35 x37 x38 x39 x42 x43 x44 x45 x46 x47 x48 x49 x50 x51 x52 x53 x54 x55 x56 x57 x58 x59 x60 x61 x62 x63 x64 x65 x66 x67 x68 x69 x70 x71 x72 x73 x74 x75 x76 x77 x78 x79 x80 x81 x82 x83 x84 x85 x86 x87 x88 x89 x90 x91 x92 x93 x94 x95 x96 x97 x98 x99 x100 x101 x102 x103 x104 x105 x106 x107 x108 x109 x110 x111 x112 x113 x114 x115 x116 x117 x118 x119 x120 x121 x122 x123 x124 x125 x126 x127 x128 x129 x130 x131 x132 x133 x134 x135 x136 x137 x138 x139 x140 x141 x142 x143 x144 x145 x146 x147 x148 x149 x150 x151 x152 x153 x154 x155 x156 x157 x158 x159 x160 x161 x162 x163 x164 x165 x166 x167 x168 x169 x170 x171 x172 x173 x174 x175 x176 x177 x178 x179 x180 x181 x182 x183 x184 x185 x186 x187 x188 x189 x190 x191 x192 x193 x194 x195 x196 x197 x198 x199 x200 x201 x202 x203 x204 x205 x206 x207 x208 x209 x210 x211 x212 x213 x214 x215 x216 x217 x218 x219 x220 x221 x222 x223 x224 x225 x226 x227 x228 x229 x230 x231 x232 x233 x234 x235 x236 x237 x238 x239 x240 x241 x242 x243 x244 x245 x246 x247 x248 x249 x250 x251 x252 x253 x254 x255 x256 x257 x258 x259 x260 x261 x262 x263 x264 x265 x266 x267 x268 x269 x270 x271 x272 x273 x274 x275 x276 x277 x278 x279 x280 x281 x282 x283 x284 x285 x286 x287 x288 x289 x290 x291 x292 x293 x294 x295 x296 x297 x298 x299 x300 x301 x302 x303 x304 x305 x306 x307 x308 x309 x310 x311 x312 x313 x314 x315 x316 x317 x318 x319 x320 x321 x322 x323 x324 x325 x326 x327 x328 x329 x330 x331 x332 x333 x334 x335 x336 x337 x338 x339 x340 x341 x342 x343 x344 x345 x346 x347 x348 x349 x350 x351 x352 x353 x354 x355 x356 x357 x358 x359 x360 x361 x362 x363 x364 x365 x366 x367 x368 x369 x370 x371 x372 x373 x374 x375 x376 x377 x378 x379 x380 x381 x382 x383 x384 x385 x386 x387 x388 x389 x390 x391 x392 x393 x394 x395 x396 x397 x398 x399 x400 x401 x402 x403 x404 x405 x406 x407 x408 x409 x410 x411 x412 x413 x414 x415 x416 x417 x418 x419 x420 x421 x422 x423 x424 x425 x426 x427 x428 x429 x430 x431 x432 x433 x434 x435 x436 x437 x438 x439 x440 x441 x442 x443 x444 x445 x446 x447 x448 x449 x450 x451 x452 x453 x454 x455 x456 x457 x458 x459 x460 x461 x462 x463 x464 x465 x466 x467 x468 x469 x470 x471 x472 x473 x474 x475 x476 x477 x478 x479 x480 x481 x482 x483 x484 x485 x486 x487 x488 x489 x490 x491 x492 x493 x494 x495 x496 x497 x498 x499 x500 x501 x502 x503 x504 x505 x506 x507 x508 x509 x510 x511 x512 x513 x514 x515 x516 x517 x518 x519 x520 x521 x522 x523 x524 x525 x526 x527 x528 x529 x530 x531 x532 x533 x534 x535 x536 x537 x538 x539 x540 x541 x542 x543 x544 x545 x546 x547 x548 x549 x550 x551 x552 x553 x554 x555 x556 x557 x558 x559 x560 x561 x562 x563 x564 x565 x566 x567 x568 x569 x570 x571 x572 x573 x574 x575 : Value) :
    Code.wp Tryz.prog ((cThen (cHead 19 (bodyOf Tryz.f3)))) (Exit.then KK (qS w0)) { tmps := List.toArray ((.slice u1 n1 c1) :: (.slice u2 n2 c2) :: x2 :: x3 :: x4 :: x5 :: x6 :: x7 :: x8 :: x9 :: x10 :: x11 :: x12 :: x13 :: x14 :: x15 :: x16 :: x17 :: x18 :: x19 :: x20 :: x21 :: x22 :: x23 :: x24 :: x25 :: x26 :: x27 :: x28 :: x29 :: (.int .i64 x) :: (.int .i64 y) :: (.slice a_x nx c_x) :: x33 :: x34 :: x35 :: (.int .i64 G) :: x37 :: x38 :: x39 :: (.int .i64 A) :: (.int .i64 B) :: x42 :: x43 :: x44 :: x45 :: x46 :: x47 :: x48 :: x49 :: x50 :: x51 :: x52 :: x53 :: x54 :: x55 :: x56 :: x57 :: x58 :: x59 :: x60 :: x61 :: x62 :: x63 :: x64 :: x65 :: x66 :: x67 :: x68 :: x69 :: x70 :: x71 :: x72 :: x73 :: x74 :: x75 :: x76 :: x77 :: x78 :: x79 :: x80 :: x81 :: x82 :: x83 :: x84 :: x85 :: x86 :: x87 :: x88 :: x89 :: x90 :: x91 :: x92 :: x93 :: x94 :: x95 :: x96 :: x97 :: x98 :: x99 :: x100 :: x101 :: x102 :: x103 :: x104 :: x105 :: x106 :: x107 :: x108 :: x109 :: x110 :: x111 :: x112 :: x113 :: x114 :: x115 :: x116 :: x117 :: x118 :: x119 :: x120 :: x121 :: x122 :: x123 :: x124 :: x125 :: x126 :: x127 :: x128 :: x129 :: x130 :: x131 :: x132 :: x133 :: x134 :: x135 :: x136 :: x137 :: x138 :: x139 :: x140 :: x141 :: x142 :: x143 :: x144 :: x145 :: x146 :: x147 :: x148 :: x149 :: x150 :: x151 :: x152 :: x153 :: x154 :: x155 :: x156 :: x157 :: x158 :: x159 :: x160 :: x161 :: x162 :: x163 :: x164 :: x165 :: x166 :: x167 :: x168 :: x169 :: x170 :: x171 :: x172 :: x173 :: x174 :: x175 :: x176 :: x177 :: x178 :: x179 :: x180 :: x181 :: x182 :: x183 :: x184 :: x185 :: x186 :: x187 :: x188 :: x189 :: x190 :: x191 :: x192 :: x193 :: x194 :: x195 :: x196 :: x197 :: x198 :: x199 :: x200 :: x201 :: x202 :: x203 :: x204 :: x205 :: x206 :: x207 :: x208 :: x209 :: x210 :: x211 :: x212 :: x213 :: x214 :: x215 :: x216 :: x217 :: x218 :: x219 :: x220 :: x221 :: x222 :: x223 :: x224 :: x225 :: x226 :: x227 :: x228 :: x229 :: x230 :: x231 :: x232 :: x233 :: x234 :: x235 :: x236 :: x237 :: x238 :: x239 :: x240 :: x241 :: x242 :: x243 :: x244 :: x245 :: x246 :: x247 :: x248 :: x249 :: x250 :: x251 :: x252 :: x253 :: x254 :: x255 :: x256 :: x257 :: x258 :: x259 :: x260 :: x261 :: x262 :: x263 :: x264 :: x265 :: x266 :: x267 :: x268 :: x269 :: x270 :: x271 :: x272 :: x273 :: x274 :: x275 :: x276 :: x277 :: x278 :: x279 :: x280 :: x281 :: x282 :: x283 :: x284 :: x285 :: x286 :: x287 :: x288 :: x289 :: x290 :: x291 :: x292 :: x293 :: x294 :: x295 :: x296 :: x297 :: x298 :: x299 :: x300 :: x301 :: x302 :: x303 :: x304 :: x305 :: x306 :: x307 :: x308 :: x309 :: x310 :: x311 :: x312 :: x313 :: x314 :: x315 :: x316 :: x317 :: x318 :: x319 :: x320 :: x321 :: x322 :: x323 :: x324 :: x325 :: x326 :: x327 :: x328 :: x329 :: x330 :: x331 :: x332 :: x333 :: x334 :: x335 :: x336 :: x337 :: x338 :: x339 :: x340 :: x341 :: x342 :: x343 :: x344 :: x345 :: x346 :: x347 :: x348 :: x349 :: x350 :: x351 :: x352 :: x353 :: x354 :: x355 :: x356 :: x357 :: x358 :: x359 :: x360 :: x361 :: x362 :: x363 :: x364 :: x365 :: x366 :: x367 :: x368 :: x369 :: x370 :: x371 :: x372 :: x373 :: x374 :: x375 :: x376 :: x377 :: x378 :: x379 :: x380 :: x381 :: x382 :: x383 :: x384 :: x385 :: x386 :: x387 :: x388 :: x389 :: x390 :: x391 :: x392 :: x393 :: x394 :: x395 :: x396 :: x397 :: x398 :: x399 :: x400 :: x401 :: x402 :: x403 :: x404 :: x405 :: x406 :: x407 :: x408 :: x409 :: x410 :: x411 :: x412 :: x413 :: x414 :: x415 :: x416 :: x417 :: x418 :: x419 :: x420 :: x421 :: x422 :: x423 :: x424 :: x425 :: x426 :: x427 :: x428 :: x429 :: x430 :: x431 :: x432 :: x433 :: x434 :: x435 :: x436 :: x437 :: x438 :: x439 :: x440 :: x441 :: x442 :: x443 :: x444 :: x445 :: x446 :: x447 :: x448 :: x449 :: x450 :: x451 :: x452 :: x453 :: x454 :: x455 :: x456 :: x457 :: x458 :: x459 :: x460 :: x461 :: x462 :: x463 :: x464 :: x465 :: x466 :: x467 :: x468 :: x469 :: x470 :: x471 :: x472 :: x473 :: x474 :: x475 :: x476 :: x477 :: x478 :: x479 :: x480 :: x481 :: x482 :: x483 :: x484 :: x485 :: x486 :: x487 :: x488 :: x489 :: x490 :: x491 :: x492 :: x493 :: x494 :: x495 :: x496 :: x497 :: x498 :: x499 :: x500 :: x501 :: x502 :: x503 :: x504 :: x505 :: x506 :: x507 :: x508 :: x509 :: x510 :: x511 :: x512 :: x513 :: x514 :: x515 :: x516 :: x517 :: x518 :: x519 :: x520 :: x521 :: x522 :: x523 :: x524 :: x525 :: x526 :: x527 :: x528 :: x529 :: x530 :: x531 :: x532 :: x533 :: x534 :: x535 :: x536 :: x537 :: x538 :: x539 :: x540 :: x541 :: x542 :: x543 :: x544 :: x545 :: x546 :: x547 :: x548 :: x549 :: x550 :: x551 :: x552 :: x553 :: x554 :: x555 :: x556 :: x557 :: x558 :: x559 :: x560 :: x561 :: x562 :: x563 :: x564 :: x565 :: x566 :: x567 :: x568 :: x569 :: x570 :: x571 :: x572 :: x573 :: x574 :: x575 :: []), defers := [] } w := by
  rw [show (cThen (cHead 19 (bodyOf Tryz.f3))) = .seq (cHead 0 (cThen (cHead 19 (bodyOf Tryz.f3)))) (cRest 1 (cThen (cHead 19 (bodyOf Tryz.f3)))) from by kernel_rfl]
  generalize hR : cRest 1 (cThen (cHead 19 (bodyOf Tryz.f3))) = R
  have HR := hid hR
  clear hR
  simp only [bodyOf, Tryz.f3, Option.getD_some, cHead, cThen]
  have HB := hid hB
  have HBY := hid hby
  clear hB hby
  have KY := fun (W : World) (v : Value) (h : Sl W v X) => iSum_any v X W h (by rw [← Hnx.out]; omega) (fun z hz => by have := HXb.out z hz; omega)
  rw [Hsum.out] at KY
  have KY := hid KY
  obtain ⟨b0, o0, ix0, hb0, ce0⟩ := Rd_x.out.at (P := Tryz.prog) (T := 24) nx c_x uslice sone H0.out (by omega)
  rw [show ((0 : Nat) : Int) = 0 from rfl] at ix0
  obtain ⟨L1, hL1⟩ : ∃ L1, L1 = x * (y - 1) := ⟨_, rfl⟩
  have hnl : (nx : Int) = L1 + 1 := by rw [hL1]; exact HL.out
  have i1 : ∀ [Inhabited Unit], IntKind.i64.wrap (x * (y - 1)) = L1 := fun {_} => by rw [← hL1]; exact IntWalk.i64_in _ (by omega)
  have i2 : ∀ [Inhabited Unit], wrap64 (x * (y - 1)) = L1 := fun {_} => by rw [← hL1]; exact IntWalk.wrap64_in _ (by omega)
  have i3 : ∀ [Inhabited Unit], IntKind.i64.wrap (L1 + 1) = (nx : Int) := fun {_} => by rw [← hnl]; exact IntWalk.i64_in _ (by omega)
  have i4 : ∀ [Inhabited Unit], wrap64 (L1 + 1) = (nx : Int) := fun {_} => by rw [← hnl]; exact IntWalk.wrap64_in _ (by omega)
  have hLb : 0 ≤ L1 ∧ L1 ≤ 63 := by omega
  obtain ⟨L2, L3⟩ := hLb
  clear hL1 hnl
  rcases Hpar.out with ⟨hp, hA⟩ | ⟨hp, hA, hB⟩
  · have m1 : y % 2 = 0 := hp
    have m2 : y.tmod 2 = 0 := by rw [Int.tmod_eq_emod_of_nonneg (by omega)]; exact hp
    subst hA
    clear hp
    go_wp2_with fail
    refine (KY.out _ _ HS.out).mono ?_
    rintro e w' ⟨rfl, rfl⟩
    go_wp2_with fail
    rw [← HR.out]
    exact sums_D2 u1 u2 n1 c1 n2 c2 w0 w HB.out HBY.out hl2 KK HK X nx a_x c_x Hnx Rd_x Hrev nx1 nx2 HXb _ _ _ _ _ _ _ _ _ _ _ _ _ _ _ _ _ _ _ _ _ _ _ _ _ _ _ _ _ _ _ _ _ _ _ _ _ _ _ _ _ _ _ _ _ _ _ _ _ _ _ _ _ _ _ _ _ _ _ _ _ _ _ _ _ _ _ _ _ _ _ _ _ _ _ _ _ _ _ _ _ _ _ _ _ _ _ _ _ _ _ _ _ _ _ _ _ _ _ _ _ _ _ _ _ _ _ _ _ _ _ _ _ _ _ _ _ _ _ _ _ _ _ _ _ _ _ _ _ _ _ _ _ _ _ _ _ _ _ _ _ _ _ _ _ _ _ _ _ _ _ _ _ _ _ _ _ _ _ _ _ _ _ _ _ _ _ _ _ _ _ _ _ _ _ _ _ _ _ _ _ _ _ _ _ _ _ _ _ _ _ _ _ _ _ _ _ _ _ _ _ _ _ _ _ _ _ _ _ _ _ _ _ _ _ _ _ _ _ _ _ _ _ _ _ _ _ _ _ _ _ _ _ _ _ _ _ _ _ _ _ _ _ _ _ _ _ _ _ _ _ _ _ _ _ _ _ _ _ _ _ _ _ _ _ _ _ _ _ _ _ _ _ _ _ _ _ _ _ _ _ _ _ _ _ _ _ _ _ _ _ _ _ _ _ _ _ _ _ _ _ _ _ _ _ _ _ _ _ _ _ _ _ _ _ _ _ _ _ _ _ _ _ _ _ _ _ _ _ _ _ _ _ _ _ _ _ _ _ _ _ _ _ _ _ _ _ _ _ _ _ _ _ _ _ _ _ _ _ _ _ _ _ _ _ _ _ _ _ _ _ _ _ _ _ _ _ _ _ _ _ _ _ _ _ _ _ _ _ _ _ _ _ _ _ _ _ _ _ _ _ _ _ _ _ _ _ _ _ _ _ _ _ _ _ _ _ _ _ _ _ _ _ _ _ _ _ _ _ _ _ _ _ _ _ _ _ _ _ _ _ _ _ _ _ _ _ _ _ _ _ _ _ _ _ _ _ _ _ _ _ _ _ _ _ _ _ _ _ _ _ _ _ _ _ _ _ _ _ _ _ _ _ _ _ _ _ _ _ _ _ _ _ _ _ _ _ _ _ _ _ _ _ _ _ _ _ _ _ _ _ _ _ _ _ _ _ _ _ _ _ _ _ _ _ _ _ _ _ _ _ _ _ _ _ _ _ _ _ _ _ _ _ _ _ _ _ _ _ _ _ _ _ _ _ _ _ _ _ _ _ _ _ _ _ _ _ _ _ _ _ _ _
  · have m1 : y % 2 = 1 := hp
    have m2 : y.tmod 2 = 1 := by rw [Int.tmod_eq_emod_of_nonneg (by omega)]; exact hp
    subst hA
    subst hB
    clear hp
    go_wp2_with fail
    refine (KY.out _ _ HS.out).mono ?_
    rintro e w' ⟨rfl, rfl⟩
    go_wp2_with fail
    rw [← HR.out]
    exact sums_D2 u1 u2 n1 c1 n2 c2 w0 w HB.out HBY.out hl2 KK HK X nx a_x c_x Hnx Rd_x Hrev nx1 nx2 HXb _ _ _ _ _ _ _ _ _ _ _ _ _ _ _ _ _ _ _ _ _ _ _ _ _ _ _ _ _ _ _ _ _ _ _ _ _ _ _ _ _ _ _ _ _ _ _ _ _ _ _ _ _ _ _ _ _ _ _ _ _ _ _ _ _ _ _ _ _ _ _ _ _ _ _ _ _ _ _ _ _ _ _ _ _ _ _ _ _ _ _ _ _ _ _ _ _ _ _ _ _ _ _ _ _ _ _ _ _ _ _ _ _ _ _ _ _ _ _ _ _ _ _ _ _ _ _ _ _ _ _ _ _ _ _ _ _ _ _ _ _ _ _ _ _ _ _ _ _ _ _ _ _ _ _ _ _ _ _ _ _ _ _ _ _ _ _ _ _ _ _ _ _ _ _ _ _ _ _ _ _ _ _ _ _ _ _ _ _ _ _ _ _ _ _ _ _ _ _ _ _ _ _ _ _ _ _ _ _ _ _ _ _ _ _ _ _ _ _ _ _ _ _ _ _ _ _ _ _ _ _ _ _ _ _ _ _ _ _ _ _ _ _ _ _ _ _ _ _ _ _ _ _ _ _ _ _ _ _ _ _ _ _ _ _ _ _ _ _ _ _ _ _ _ _ _ _ _ _ _ _ _ _ _ _ _ _ _ _ _ _ _ _ _ _ _ _ _ _ _ _ _ _ _ _ _ _ _ _ _ _ _ _ _ _ _ _ _ _ _ _ _ _ _ _ _ _ _ _ _ _ _ _ _ _ _ _ _ _ _ _ _ _ _ _ _ _ _ _ _ _ _ _ _ _ _ _ _ _ _ _ _ _ _ _ _ _ _ _ _ _ _ _ _ _ _ _ _ _ _ _ _ _ _ _ _ _ _ _ _ _ _ _ _ _ _ _ _ _ _ _ _ _ _ _ _ _ _ _ _ _ _ _ _ _ _ _ _ _ _ _ _ _ _ _ _ _ _ _ _ _ _ _ _ _ _ _ _ _ _ _ _ _ _ _ _ _ _ _ _ _ _ _ _ _ _ _ _ _ _ _ _ _ _ _ _ _ _ _ _ _ _ _ _ _ _ _ _ _ _ _ _ _ _ _ _ _ _ _ _ _ _ _ _ _ _ _ _ _ _ _ _ _ _ _ _ _ _ _ _ _ _ _ _ _ _ _ _ _ _ _ _ _ _ _ _ _ _ _ _ _ _ _ _ _ _ _ _ _ _ _ _ _ _ _ _ _ _ _ _ _ _ _ _ _ _ _ _ _ _ _ _ _ _ _ _ _ _ _ _ _ _ _


set_option maxRecDepth 20000 in
set_option maxHeartbeats 8000000 in
theorem sums_D1C (u1 u2 : Option Addr) (n1 c1 n2 c2 : Nat) (w0 w : World) (hB : Below w0.heap.size w0 w) (hby : By w.heap.size w u2 n2) (hl2 : n2 ≤ 1048576) (x y G A B : Int) (hx1 : 1 ≤ x) (hx2 : x ≤ 4) (hy1 : 1 ≤ y) (hy2 : y ≤ 8) (g1 : 1 ≤ G) (g2 : G ≤ 4096) (X : List Int) (nx : Nat) (a_x : Option Addr) (c_x : Nat) (Hnx : Hid (nx = X.length)) (Rd_x : Hid (Rd w a_x X)) (Hrev : Hid (X.reverse = X)) (nx1 : 1 ≤ nx) (nx2 : nx ≤ 64) (HXb : Hid (InP (-5000) 5000 X)) (HS : Hid (Sl w (.slice a_x nx c_x) X)) (Hsum : Hid (sumL X = G)) (H0 : Hid (X[0]? = some 1)) (HL : Hid ((nx : Int) = x * (y - 1) + 1)) (Hpar : Hid ((y % 2 = 0 ∧ A = 0) ∨ (y % 2 = 1 ∧ A = 1 ∧ B = G))) (x2 x3 x4 x5 x6 x7 x8 x9 x10 x11 x12 x13 x14 x15 x16 x17 x18 x19 x20 x21 x22 x23 x24 x25 x26 x27 x28 x29 x34 x35 x37 x38 x39 x42 x43 x44 x45 x46 x47 x48 x49 x50 x51 x52 x53 x54 x55 x56 x57 x58 x59 x60 x61 x62 x63 x64 x65 x66 x67 x68 x69 x70 x71 x72 x73 x74 x75 x76 x77 x78 x79 x80 x81 x82 x83 x84 x85 x86 x87 x88 x89 x90 x91 x92 x93 x94 x95 x96 x97 x98 x99 x100 x101 x102 x103 x104 x105 x106 x107 x108 x109 x110 x111 x112 x113 x114 x115 x116 x117 x118 x119 x120 x121 x122 x123 x124 x125 x126 x127 x128 x129 x130 x131 x132 x133 x134 x135 x136 x137 x138 x139 x140 x141 x142 x143 x144 x145 x146 x147 x148 x149 x150 x151 x152 x153 x154 x155 x156 x157 x158 x159 x160 x161 x162 x163 x164 x165 x166 x167 x168 x169 x170 x171 x172 x173 x174 x175 x176 x177 x178 x179 x180 x181 x182 x183 x184 x185 x186 x187 x188 x189 x190 x191 x192 x193 x194 x195 x196 x197 x198 x199 x200 x201 x202 x203 x204 x205 x206 x207 x208 x209 x210 x211 x212 x213 x214 x215 x216 x217 x218 x219 x220 x221 x222 x223 x224 x225 x226 x227 x228 x229 x230 x231 x232 x233 x234 x235 x236 x237 x238 x239 x240 x241 x242 x243 x244 x245 x246 x247 x248 x249 x250 x251 x252 x253 x254 x255 x256 x257 x258 x259 x260 x261 x262 x263 x264 x265 x266 x267 x268 x269 x270 x271 x272 x273 x274 x275 x276 x277 x278 x279 x280 x281 x282 x283 x284 x285 x286 x287 x288 x289 x290 x291 x292 x293 x294 x295 x296 x297 x298 x299 x300 x301 x302 x303 x304 x305 x306 x307 x308 x309 x310 x311 x312 x313 x314 x315 x316 x317 x318 x319 x320 x321 x322 x323 x324 x325 x326 x327 x328 x329 x330 x331 x332 x333 x334 x335 x336 x337 x338 x339 x340 x341 x342 x343 x344 x345 x346 x347 x348 x349 x350 x351 x352 x353 x354 x355 x356 x357 x358 x359 x360 x361 x362 x363 x364 x365 x366 x367 x368 x369 x370 x371 x372 x373 x374 x375 x376 x377 x378 x379 x380 x381 x382 x383 x384 x385 x386 x387 x388 x389 x390 x391 x392 x393 x394 x395 x396 x397 x398 x399 x400 x401 x402 x403 x404 x405 x406 x407 x408 x409 x410 x411 x412 x413 x414 x415 x416 x417 x418 x419 x420 x421 x422 x423 x424 x425 x426 x427 x428 x429 x430 x431 x432 x433 x434 x435 x436 x437 x438 x439 x440 x441 x442 x443 x444 x445 x446 x447 x448 x449 x450 x451 x452 x453 x454 x455 x456 x457 x458 x459 x460 x461 x462 x463 x464 x465 x466 x467 x468 x469 x470 x471 x472 x473 x474 x475 x476 x477 x478 x479 x480 x481 x482 x483 x484 x485 x486 x487 x488 x489 x490 x491 x492 x493 x494 x495 x496 x497 x498 x499 x500 x501 x502 x503 x504 x505 x506 x507 x508 x509 x510 x511 x512 x513 x514 x515 x516 x517 x518 x519 x520 x521 x522 x523 x524 x525 x526 x527 x528 x529 x530 x531 x532 x533 x534 x535 x536 x537 x538 x539 x540 x541 x542 x543 x544 x545 x546 x547 x548 x549 x550 x551 x552 x553 x554 x555 x556 x557 x558 x559 x560 x561 x562 x563 x564 x565 x566 x567 x568 x569 x570 x571 x572 x573 x574 x575 : Value) :
    Code.wp Tryz.prog (cRest 19 (bodyOf Tryz.f3)) (qS w0) { tmps := List.toArray ((.slice u1 n1 c1) :: (.slice u2 n2 c2) :: x2 :: x3 :: x4 :: x5 :: x6 :: x7 :: x8 :: x9 :: x10 :: x11 :: x12 :: x13 :: x14 :: x15 :: x16 :: x17 :: x18 :: x19 :: x20 :: x21 :: x22 :: x23 :: x24 :: x25 :: x26 :: x27 :: x28 :: x29 :: (.int .i64 x) :: (.int .i64 y) :: (.slice a_x nx c_x) :: (.bool true) :: x34 :: x35 :: (.int .i64 G) :: x37 :: x38 :: x39 :: (.int .i64 A) :: (.int .i64 B) :: x42 :: x43 :: x44 :: x45 :: x46 :: x47 :: x48 :: x49 :: x50 :: x51 :: x52 :: x53 :: x54 :: x55 :: x56 :: x57 :: x58 :: x59 :: x60 :: x61 :: x62 :: x63 :: x64 :: x65 :: x66 :: x67 :: x68 :: x69 :: x70 :: x71 :: x72 :: x73 :: x74 :: x75 :: x76 :: x77 :: x78 :: x79 :: x80 :: x81 :: x82 :: x83 :: x84 :: x85 :: x86 :: x87 :: x88 :: x89 :: x90 :: x91 :: x92 :: x93 :: x94 :: x95 :: x96 :: x97 :: x98 :: x99 :: x100 :: x101 :: x102 :: x103 :: x104 :: x105 :: x106 :: x107 :: x108 :: x109 :: x110 :: x111 :: x112 :: x113 :: x114 :: x115 :: x116 :: x117 :: x118 :: x119 :: x120 :: x121 :: x122 :: x123 :: x124 :: x125 :: x126 :: x127 :: x128 :: x129 :: x130 :: x131 :: x132 :: x133 :: x134 :: x135 :: x136 :: x137 :: x138 :: x139 :: x140 :: x141 :: x142 :: x143 :: x144 :: x145 :: x146 :: x147 :: x148 :: x149 :: x150 :: x151 :: x152 :: x153 :: x154 :: x155 :: x156 :: x157 :: x158 :: x159 :: x160 :: x161 :: x162 :: x163 :: x164 :: x165 :: x166 :: x167 :: x168 :: x169 :: x170 :: x171 :: x172 :: x173 :: x174 :: x175 :: x176 :: x177 :: x178 :: x179 :: x180 :: x181 :: x182 :: x183 :: x184 :: x185 :: x186 :: x187 :: x188 :: x189 :: x190 :: x191 :: x192 :: x193 :: x194 :: x195 :: x196 :: x197 :: x198 :: x199 :: x200 :: x201 :: x202 :: x203 :: x204 :: x205 :: x206 :: x207 :: x208 :: x209 :: x210 :: x211 :: x212 :: x213 :: x214 :: x215 :: x216 :: x217 :: x218 :: x219 :: x220 :: x221 :: x222 :: x223 :: x224 :: x225 :: x226 :: x227 :: x228 :: x229 :: x230 :: x231 :: x232 :: x233 :: x234 :: x235 :: x236 :: x237 :: x238 :: x239 :: x240 :: x241 :: x242 :: x243 :: x244 :: x245 :: x246 :: x247 :: x248 :: x249 :: x250 :: x251 :: x252 :: x253 :: x254 :: x255 :: x256 :: x257 :: x258 :: x259 :: x260 :: x261 :: x262 :: x263 :: x264 :: x265 :: x266 :: x267 :: x268 :: x269 :: x270 :: x271 :: x272 :: x273 :: x274 :: x275 :: x276 :: x277 :: x278 :: x279 :: x280 :: x281 :: x282 :: x283 :: x284 :: x285 :: x286 :: x287 :: x288 :: x289 :: x290 :: x291 :: x292 :: x293 :: x294 :: x295 :: x296 :: x297 :: x298 :: x299 :: x300 :: x301 :: x302 :: x303 :: x304 :: x305 :: x306 :: x307 :: x308 :: x309 :: x310 :: x311 :: x312 :: x313 :: x314 :: x315 :: x316 :: x317 :: x318 :: x319 :: x320 :: x321 :: x322 :: x323 :: x324 :: x325 :: x326 :: x327 :: x328 :: x329 :: x330 :: x331 :: x332 :: x333 :: x334 :: x335 :: x336 :: x337 :: x338 :: x339 :: x340 :: x341 :: x342 :: x343 :: x344 :: x345 :: x346 :: x347 :: x348 :: x349 :: x350 :: x351 :: x352 :: x353 :: x354 :: x355 :: x356 :: x357 :: x358 :: x359 :: x360 :: x361 :: x362 :: x363 :: x364 :: x365 :: x366 :: x367 :: x368 :: x369 :: x370 :: x371 :: x372 :: x373 :: x374 :: x375 :: x376 :: x377 :: x378 :: x379 :: x380 :: x381 :: x382 :: x383 :: x384 :: x385 :: x386 :: x387 :: x388 :: x389 :: x390 :: x391 :: x392 :: x393 :: x394 :: x395 :: x396 :: x397 :: x398 :: x399 :: x400 :: x401 :: x402 :: x403 :: x404 :: x405 :: x406 :: x407 :: x408 :: x409 :: x410 :: x411 :: x412 :: x413 :: x414 :: x415 :: x416 :: x417 :: x418 :: x419 :: x420 :: x421 :: x422 :: x423 :: x424 :: x425 :: x426 :: x427 :: x428 :: x429 :: x430 :: x431 :: x432 :: x433 :: x434 :: x435 :: x436 :: x437 :: x438 :: x439 :: x440 :: x441 :: x442 :: x443 :: x444 :: x445 :: x446 :: x447 :: x448 :: x449 :: x450 :: x451 :: x452 :: x453 :: x454 :: x455 :: x456 :: x457 :: x458 :: x459 :: x460 :: x461 :: x462 :: x463 :: x464 :: x465 :: x466 :: x467 :: x468 :: x469 :: x470 :: x471 :: x472 :: x473 :: x474 :: x475 :: x476 :: x477 :: x478 :: x479 :: x480 :: x481 :: x482 :: x483 :: x484 :: x485 :: x486 :: x487 :: x488 :: x489 :: x490 :: x491 :: x492 :: x493 :: x494 :: x495 :: x496 :: x497 :: x498 :: x499 :: x500 :: x501 :: x502 :: x503 :: x504 :: x505 :: x506 :: x507 :: x508 :: x509 :: x510 :: x511 :: x512 :: x513 :: x514 :: x515 :: x516 :: x517 :: x518 :: x519 :: x520 :: x521 :: x522 :: x523 :: x524 :: x525 :: x526 :: x527 :: x528 :: x529 :: x530 :: x531 :: x532 :: x533 :: x534 :: x535 :: x536 :: x537 :: x538 :: x539 :: x540 :: x541 :: x542 :: x543 :: x544 :: x545 :: x546 :: x547 :: x548 :: x549 :: x550 :: x551 :: x552 :: x553 :: x554 :: x555 :: x556 :: x557 :: x558 :: x559 :: x560 :: x561 :: x562 :: x563 :: x564 :: x565 :: x566 :: x567 :: x568 :: x569 :: x570 :: x571 :: x572 :: x573 :: x574 :: x575 :: []), defers := [] } w := by
  rw [show cRest 19 (bodyOf Tryz.f3) = .seq (cHead 19 (bodyOf Tryz.f3)) (cRest 20 (bodyOf Tryz.f3)) from by kernel_rfl]
  refine wp_seq_k ?_
  intro KK hK
  have HK := hid hK
  clear hK
  rw [show cHead 19 (bodyOf Tryz.f3) = .seq (cHead 0 (cHead 19 (bodyOf Tryz.f3))) (.cond (Operand.tmp 323) (cThen (cHead 19 (bodyOf Tryz.f3))) .skip) from by kernel_rfl]
  generalize hT : (cThen (cHead 19 (bodyOf Tryz.f3))) = TV
  have HT := hid hT
  clear hT
  simp only [bodyOf, Tryz.f3, Option.getD_some, cHead]
  have HB := hid hB
  have HBY := hid hby
  clear hB hby
  go_wp2_with fail
  rw [← HT.out]
  exact sums_D1 u1 u2 n1 c1 n2 c2 w0 w HB.out HBY.out hl2 KK HK x y G A B hx1 hx2 hy1 hy2 g1 g2 X nx a_x c_x Hnx Rd_x Hrev nx1 nx2 HXb HS Hsum H0 HL Hpar _ _ _ _ _ _ _ _ _ _ _ _ _ _ _ _ _ _ _ _ _ _ _ _ _ _ _ _ _ _ _ _ _ _ _ _ _ _ _ _ _ _ _ _ _ _ _ _ _ _ _ _ _ _ _ _ _ _ _ _ _ _ _ _ _ _ _ _ _ _ _ _ _ _ _ _ _ _ _ _ _ _ _ _ _ _ _ _ _ _ _ _ _ _ _ _ _ _ _ _ _ _ _ _ _ _ _ _ _ _ _ _ _ _ _ _ _ _ _ _ _ _ _ _ _ _ _ _ _ _ _ _ _ _ _ _ _ _ _ _ _ _ _ _ _ _ _ _ _ _ _ _ _ _ _ _ _ _ _ _ _ _ _ _ _ _ _ _ _ _ _ _ _ _ _ _ _ _ _ _ _ _ _ _ _ _ _ _ _ _ _ _ _ _ _ _ _ _ _ _ _ _ _ _ _ _ _ _ _ _ _ _ _ _ _ _ _ _ _ _ _ _ _ _ _ _ _ _ _ _ _ _ _ _ _ _ _ _ _ _ _ _ _ _ _ _ _ _ _ _ _ _ _ _ _ _ _ _ _ _ _ _ _ _ _ _ _ _ _ _ _ _ _ _ _ _ _ _ _ _ _ _ _ _ _ _ _ _ _ _ _ _ _ _ _ _ _ _ _ _ _ _ _ _ _ _ _ _ _ _ _ _ _ _ _ _ _ _ _ _ _ _ _ _ _ _ _ _ _ _ _ _ _ _ _ _ _ _ _ _ _ _ _ _ _ _ _ _ _ _ _ _ _ _ _ _ _ _ _ _ _ _ _ _ _ _ _ _ _ _ _ _ _ _ _ _ _ _ _ _ _ _ _ _ _ _ _ _ _ _ _ _ _ _ _ _ _ _ _ _ _ _ _ _ _ _ _ _ _ _ _ _ _ _ _ _ _ _ _ _ _ _ _ _ _ _ _ _ _ _ _ _ _ _ _ _ _ _ _ _ _ _ _ _ _ _ _ _ _ _ _ _ _ _ _ _ _ _ _ _ _ _ _ _ _ _ _ _ _ _ _ _ _ _ _ _ _ _ _ _ _ _ _ _ _ _ _ _ _ _ _ _ _ _ _ _ _ _ _ _ _ _ _ _ _ _ _ _ _ _ _ _ _ _ _ _ _ _ _ _ _ _ _ _ _ _ _ _ _ _ _ _ _ _ _ _ _ _ _ _ _ _ _ _ _ _ _ _ _ _ _ _ _ _ _ _ _ _ _ _ _ _ _ _ _ _ _ _


set_option maxRecDepth 20000 in
set_option maxHeartbeats 8000000 in
theorem sums_D1N (u1 u2 : Option Addr) (n1 c1 n2 c2 : Nat) (w0 w : World) (hB : Below w0.heap.size w0 w) (hby : By w.heap.size w u2 n2) (hl2 : n2 ≤ 1048576) (x2 x3 x4 x5 x6 x7 x8 x9 x10 x11 x12 x13 x14 x15 x16 x17 x18 x19 x20 x21 x22 x23 x24 x25 x26 x27 x28 x29 x30 x31 x32 x34 x35 x36 x37 x38 x39 x40 x41 x42 x43 x44 x45 x46 x47 x48 x49 x50 x51 x52 x53 x54 x55 x56 x57 x58 x59 x60 x61 x62 x63 x64 x65 x66 x67 x68 x69 x70 x71 x72 x73 x74 x75 x76 x77 x78 x79 x80 x81 x82 x83 x84 x85 x86 x87 x88 x89 x90 x91 x92 x93 x94 x95 x96 x97 x98 x99 x100 x101 x102 x103 x104 x105 x106 x107 x108 x109 x110 x111 x112 x113 x114 x115 x116 x117 x118 x119 x120 x121 x122 x123 x124 x125 x126 x127 x128 x129 x130 x131 x132 x133 x134 x135 x136 x137 x138 x139 x140 x141 x142 x143 x144 x145 x146 x147 x148 x149 x150 x151 x152 x153 x154 x155 x156 x157 x158 x159 x160 x161 x162 x163 x164 x165 x166 x167 x168 x169 x170 x171 x172 x173 x174 x175 x176 x177 x178 x179 x180 x181 x182 x183 x184 x185 x186 x187 x188 x189 x190 x191 x192 x193 x194 x195 x196 x197 x198 x199 x200 x201 x202 x203 x204 x205 x206 x207 x208 x209 x210 x211 x212 x213 x214 x215 x216 x217 x218 x219 x220 x221 x222 x223 x224 x225 x226 x227 x228 x229 x230 x231 x232 x233 x234 x235 x236 x237 x238 x239 x240 x241 x242 x243 x244 x245 x246 x247 x248 x249 x250 x251 x252 x253 x254 x255 x256 x257 x258 x259 x260 x261 x262 x263 x264 x265 x266 x267 x268 x269 x270 x271 x272 x273 x274 x275 x276 x277 x278 x279 x280 x281 x282 x283 x284 x285 x286 x287 x288 x289 x290 x291 x292 x293 x294 x295 x296 x297 x298 x299 x300 x301 x302 x303 x304 x305 x306 x307 x308 x309 x310 x311 x312 x313 x314 x315 x316 x317 x318 x319 x320 x321 x322 x323 x324 x325 x326 x327 x328 x329 x330 x331 x332 x333 x334 x335 x336 x337 x338 x339 x340 x341 x342 x343 x344 x345 x346 x347 x348 x349 x350 x351 x352 x353 x354 x355 x356 x357 x358 x359 x360 x361 x362 x363 x364 x365 x366 x367 x368 x369 x370 x371 x372 x373 x374 x375 x376 x377 x378 x379 x380 x381 x382 x383 x384 x385 x386 x387 x388 x389 x390 x391 x392 x393 x394 x395 x396 x397 x398 x399 x400 x401 x402 x403 x404 x405 x406 x407 x408 x409 x410 x411 x412 x413 x414 x415 x416 x417 x418 x419 x420 x421 x422 x423 x424 x425 x426 x427 x428 x429 x430 x431 x432 x433 x434 x435 x436 x437 x438 x439 x440 x441 x442 x443 x444 x445 x446 x447 x448 x449 x450 x451 x452 x453 x454 x455 x456 x457 x458 x459 x460 x461 x462 x463 x464 x465 x466 x467 x468 x469 x470 x471 x472 x473 x474 x475 x476 x477 x478 x479 x480 x481 x482 x483 x484 x485 x486 x487 x488 x489 x490 x491 x492 x493 x494 x495 x496 x497 x498 x499 x500 x501 x502 x503 x504 x505 x506 x507 x508 x509 x510 x511 x512 x513 x514 x515 x516 x517 x518 x519 x520 x521 x522 x523 x524 x525 x526 x527 x528 x529 x530 x531 x532 x533 x534 x535 x536 x537 x538 x539 x540 x541 x542 x543 x544 x545 x546 x547 x548 x549 x550 x551 x552 x553 x554 x555 x556 x557 x558 x559 x560 x561 x562 x563 x564 x565 x566 x567 x568 x569 x570 x571 x572 x573 x574 x575 : Value) :
    Code.wp Tryz.prog (cRest 19 (bodyOf Tryz.f3)) (qS w0) { tmps := List.toArray ((.slice u1 n1 c1) :: (.slice u2 n2 c2) :: x2 :: x3 :: x4 :: x5 :: x6 :: x7 :: x8 :: x9 :: x10 :: x11 :: x12 :: x13 :: x14 :: x15 :: x16 :: x17 :: x18 :: x19 :: x20 :: x21 :: x22 :: x23 :: x24 :: x25 :: x26 :: x27 :: x28 :: x29 :: x30 :: x31 :: x32 :: (.bool false) :: x34 :: x35 :: x36 :: x37 :: x38 :: x39 :: x40 :: x41 :: x42 :: x43 :: x44 :: x45 :: x46 :: x47 :: x48 :: x49 :: x50 :: x51 :: x52 :: x53 :: x54 :: x55 :: x56 :: x57 :: x58 :: x59 :: x60 :: x61 :: x62 :: x63 :: x64 :: x65 :: x66 :: x67 :: x68 :: x69 :: x70 :: x71 :: x72 :: x73 :: x74 :: x75 :: x76 :: x77 :: x78 :: x79 :: x80 :: x81 :: x82 :: x83 :: x84 :: x85 :: x86 :: x87 :: x88 :: x89 :: x90 :: x91 :: x92 :: x93 :: x94 :: x95 :: x96 :: x97 :: x98 :: x99 :: x100 :: x101 :: x102 :: x103 :: x104 :: x105 :: x106 :: x107 :: x108 :: x109 :: x110 :: x111 :: x112 :: x113 :: x114 :: x115 :: x116 :: x117 :: x118 :: x119 :: x120 :: x121 :: x122 :: x123 :: x124 :: x125 :: x126 :: x127 :: x128 :: x129 :: x130 :: x131 :: x132 :: x133 :: x134 :: x135 :: x136 :: x137 :: x138 :: x139 :: x140 :: x141 :: x142 :: x143 :: x144 :: x145 :: x146 :: x147 :: x148 :: x149 :: x150 :: x151 :: x152 :: x153 :: x154 :: x155 :: x156 :: x157 :: x158 :: x159 :: x160 :: x161 :: x162 :: x163 :: x164 :: x165 :: x166 :: x167 :: x168 :: x169 :: x170 :: x171 :: x172 :: x173 :: x174 :: x175 :: x176 :: x177 :: x178 :: x179 :: x180 :: x181 :: x182 :: x183 :: x184 :: x185 :: x186 :: x187 :: x188 :: x189 :: x190 :: x191 :: x192 :: x193 :: x194 :: x195 :: x196 :: x197 :: x198 :: x199 :: x200 :: x201 :: x202 :: x203 :: x204 :: x205 :: x206 :: x207 :: x208 :: x209 :: x210 :: x211 :: x212 :: x213 :: x214 :: x215 :: x216 :: x217 :: x218 :: x219 :: x220 :: x221 :: x222 :: x223 :: x224 :: x225 :: x226 :: x227 :: x228 :: x229 :: x230 :: x231 :: x232 :: x233 :: x234 :: x235 :: x236 :: x237 :: x238 :: x239 :: x240 :: x241 :: x242 :: x243 :: x244 :: x245 :: x246 :: x247 :: x248 :: x249 :: x250 :: x251 :: x252 :: x253 :: x254 :: x255 :: x256 :: x257 :: x258 :: x259 :: x260 :: x261 :: x262 :: x263 :: x264 :: x265 :: x266 :: x267 :: x268 :: x269 :: x270 :: x271 :: x272 :: x273 :: x274 :: x275 :: x276 :: x277 :: x278 :: x279 :: x280 :: x281 :: x282 :: x283 :: x284 :: x285 :: x286 :: x287 :: x288 :: x289 :: x290 :: x291 :: x292 :: x293 :: x294 :: x295 :: x296 :: x297 :: x298 :: x299 :: x300 :: x301 :: x302 :: x303 :: x304 :: x305 :: x306 :: x307 :: x308 :: x309 :: x310 :: x311 :: x312 :: x313 :: x314 :: x315 :: x316 :: x317 :: x318 :: x319 :: x320 :: x321 :: x322 :: x323 :: x324 :: x325 :: x326 :: x327 :: x328 :: x329 :: x330 :: x331 :: x332 :: x333 :: x334 :: x335 :: x336 :: x337 :: x338 :: x339 :: x340 :: x341 :: x342 :: x343 :: x344 :: x345 :: x346 :: x347 :: x348 :: x349 :: x350 :: x351 :: x352 :: x353 :: x354 :: x355 :: x356 :: x357 :: x358 :: x359 :: x360 :: x361 :: x362 :: x363 :: x364 :: x365 :: x366 :: x367 :: x368 :: x369 :: x370 :: x371 :: x372 :: x373 :: x374 :: x375 :: x376 :: x377 :: x378 :: x379 :: x380 :: x381 :: x382 :: x383 :: x384 :: x385 :: x386 :: x387 :: x388 :: x389 :: x390 :: x391 :: x392 :: x393 :: x394 :: x395 :: x396 :: x397 :: x398 :: x399 :: x400 :: x401 :: x402 :: x403 :: x404 :: x405 :: x406 :: x407 :: x408 :: x409 :: x410 :: x411 :: x412 :: x413 :: x414 :: x415 :: x416 :: x417 :: x418 :: x419 :: x420 :: x421 :: x422 :: x423 :: x424 :: x425 :: x426 :: x427 :: x428 :: x429 :: x430 :: x431 :: x432 :: x433 :: x434 :: x435 :: x436 :: x437 :: x438 :: x439 :: x440 :: x441 :: x442 :: x443 :: x444 :: x445 :: x446 :: x447 :: x448 :: x449 :: x450 :: x451 :: x452 :: x453 :: x454 :: x455 :: x456 :: x457 :: x458 :: x459 :: x460 :: x461 :: x462 :: x463 :: x464 :: x465 :: x466 :: x467 :: x468 :: x469 :: x470 :: x471 :: x472 :: x473 :: x474 :: x475 :: x476 :: x477 :: x478 :: x479 :: x480 :: x481 :: x482 :: x483 :: x484 :: x485 :: x486 :: x487 :: x488 :: x489 :: x490 :: x491 :: x492 :: x493 :: x494 :: x495 :: x496 :: x497 :: x498 :: x499 :: x500 :: x501 :: x502 :: x503 :: x504 :: x505 :: x506 :: x507 :: x508 :: x509 :: x510 :: x511 :: x512 :: x513 :: x514 :: x515 :: x516 :: x517 :: x518 :: x519 :: x520 :: x521 :: x522 :: x523 :: x524 :: x525 :: x526 :: x527 :: x528 :: x529 :: x530 :: x531 :: x532 :: x533 :: x534 :: x535 :: x536 :: x537 :: x538 :: x539 :: x540 :: x541 :: x542 :: x543 :: x544 :: x545 :: x546 :: x547 :: x548 :: x549 :: x550 :: x551 :: x552 :: x553 :: x554 :: x555 :: x556 :: x557 :: x558 :: x559 :: x560 :: x561 :: x562 :: x563 :: x564 :: x565 :: x566 :: x567 :: x568 :: x569 :: x570 :: x571 :: x572 :: x573 :: x574 :: x575 :: []), defers := [] } w := by
  rw [show cRest 19 (bodyOf Tryz.f3) = .seq (cHead 19 (bodyOf Tryz.f3)) (cRest 20 (bodyOf Tryz.f3)) from by kernel_rfl]
  generalize hR : cRest 20 (bodyOf Tryz.f3) = R
  have HR := hid hR
  clear hR
  simp only [bodyOf, Tryz.f3, Option.getD_some, cHead]
  have HB := hid hB
  have HBY := hid hby
  clear hB hby
  go_wp2_with fail
  rw [← HR.out]
  exact sums_F u1 u2 n1 c1 n2 c2 w0 w HB.out HBY.out hl2 _ _ _ _ _ _ _ _ _ _ _ _ _ _ _ _ _ _ _ _ _ _ _ _ _ _ _ _ _ _ _ _ _ _ _ _ _ _ _ _ _ _ _ _ _ _ _ _ _ _ _ _ _ _ _ _ _ _ _ _ _ _ _ _ _ _ _ _ _ _ _ _ _ _ _ _ _ _ _ _ _ _ _ _ _ _ _ _ _ _ _ _ _ _ _ _ _ _ _ _ _ _ _ _ _ _ _ _ _ _ _ _ _ _ _ _ _ _ _ _ _ _ _ _ _ _ _ _ _ _ _ _ _ _ _ _ _ _ _ _ _ _ _ _ _ _ _ _ _ _ _ _ _ _ _ _ _ _ _ _ _ _ _ _ _ _ _ _ _ _ _ _ _ _ _ _ _ _ _ _ _ _ _ _ _ _ _ _ _ _ _ _ _ _ _ _ _ _ _ _ _ _ _ _ _ _ _ _ _ _ _ _ _ _ _ _ _ _ _ _ _ _ _ _ _ _ _ _ _ _ _ _ _ _ _ _ _ _ _ _ _ _ _ _ _ _ _ _ _ _ _ _ _ _ _ _ _ _ _ _ _ _ _ _ _ _ _ _ _ _ _ _ _ _ _ _ _ _ _ _ _ _ _ _ _ _ _ _ _ _ _ _ _ _ _ _ _ _ _ _ _ _ _ _ _ _ _ _ _ _ _ _ _ _ _ _ _ _ _ _ _ _ _ _ _ _ _ _ _ _ _ _ _ _ _ _ _ _ _ _ _ _ _ _ _ _ _ _ _ _ _ _ _ _ _ _ _ _ _ _ _ _ _ _ _ _ _ _ _ _ _ _ _ _ _ _ _ _ _ _ _ _ _ _ _ _ _ _ _ _ _ _ _ _ _ _ _ _ _ _ _ _ _ _ _ _ _ _ _ _ _ _ _ _ _ _ _ _ _ _ _ _ _ _ _ _ _ _ _ _ _ _ _ _ _ _ _ _ _ _ _ _ _ _ _ _ _ _ _ _ _ _ _ _ _ _ _ _ _ _ _ _ _ _ _ _ _ _ _ _ _ _ _ _ _ _ _ _ _ _ _ _ _ _ _ _ _ _ _ _ _ _ _ _ _ _ _ _ _ _ _ _ _ _ _ _ _ _ _ _ _ _ _ _ _ _ _ _ _ _ _ _ _ _ _ _ _ _ _ _ _ _ _ _ _ _ _ _ _ _ _ _ _ _ _ _ _ _ _ _ _ _ _ _ _ _ _ _ _ _ _ _ _ _ _ _ _ _ _ _ _ _ _ _


set_option maxRecDepth 20000 in
set_option maxHeartbeats 8000000 in
theorem sums_D (u1 u2 : Option Addr) (n1 c1 n2 c2 : Nat) (w0 w : World) (hB : Below w0.heap.size w0 w) (hby : By w.heap.size w u2 n2) (hl2 : n2 ≤ 1048576) (x2 x3 x4 x5 x6 x7 x8 x9 x10 x11 x12 x13 x14 x15 x16 x17 x18 x19 x20 x21 x22 x23 x24 x25 x26 x27 x28 x29 x30 x31 x32 x33 x34 x35 x36 x37 x38 x39 x40 x41 x42 x43 x44 x45 x46 x47 x48 x49 x50 x51 x52 x53 x54 x55 x56 x57 x58 x59 x60 x61 x62 x63 x64 x65 x66 x67 x68 x69 x70 x71 x72 x73 x74 x75 x76 x77 x78 x79 x80 x81 x82 x83 x84 x85 x86 x87 x88 x89 x90 x91 x92 x93 x94 x95 x96 x97 x98 x99 x100 x101 x102 x103 x104 x105 x106 x107 x108 x109 x110 x111 x112 x113 x114 x115 x116 x117 x118 x119 x120 x121 x122 x123 x124 x125 x126 x127 x128 x129 x130 x131 x132 x133 x134 x135 x136 x137 x138 x139 x140 x141 x142 x143 x144 x145 x146 x147 x148 x149 x150 x151 x152 x153 x154 x155 x156 x157 x158 x159 x160 x161 x162 x163 x164 x165 x166 x167 x168 x169 x170 x171 x172 x173 x174 x175 x176 x177 x178 x179 x180 x181 x182 x183 x184 x185 x186 x187 x188 x189 x190 x191 x192 x193 x194 x195 x196 x197 x198 x199 x200 x201 x202 x203 x204 x205 x206 x207 x208 x209 x210 x211 x212 x213 x214 x215 x216 x217 x218 x219 x220 x221 x222 x223 x224 x225 x226 x227 x228 x229 x230 x231 x232 x233 x234 x235 x236 x237 x238 x239 x240 x241 x242 x243 x244 x245 x246 x247 x248 x249 x250 x251 x252 x253 x254 x255 x256 x257 x258 x259 x260 x261 x262 x263 x264 x265 x266 x267 x268 x269 x270 x271 x272 x273 x274 x275 x276 x277 x278 x279 x280 x281 x282 x283 x284 x285 x286 x287 x288 x289 x290 x291 x292 x293 x294 x295 x296 x297 x298 x299 x300 x301 x302 x303 x304 x305 x306 x307 x308 x309 x310 x311 x312 x313 x314 x315 x316 x317 x318 x319 x320 x321 x322 x323 x324 x325 x326 x327 x328 x329 x330 x331 x332 x333 x334 x335 x336 x337 x338 x339 x340 x341 x342 x343 x344 x345 x346 x347 x348 x349 x350 x351 x352 x353 x354 x355 x356 x357 x358 x359 x360 x361 x362 x363 x364 x365 x366 x367 x368 x369 x370 x371 x372 x373 x374 x375 x376 x377 x378 x379 x380 x381 x382 x383 x384 x385 x386 x387 x388 x389 x390 x391 x392 x393 x394 x395 x396 x397 x398 x399 x400 x401 x402 x403 x404 x405 x406 x407 x408 x409 x410 x411 x412 x413 x414 x415 x416 x417 x418 x419 x420 x421 x422 x423 x424 x425 x426 x427 x428 x429 x430 x431 x432 x433 x434 x435 x436 x437 x438 x439 x440 x441 x442 x443 x444 x445 x446 x447 x448 x449 x450 x451 x452 x453 x454 x455 x456 x457 x458 x459 x460 x461 x462 x463 x464 x465 x466 x467 x468 x469 x470 x471 x472 x473 x474 x475 x476 x477 x478 x479 x480 x481 x482 x483 x484 x485 x486 x487 x488 x489 x490 x491 x492 x493 x494 x495 x496 x497 x498 x499 x500 x501 x502 x503 x504 x505 x506 x507 x508 x509 x510 x511 x512 x513 x514 x515 x516 x517 x518 x519 x520 x521 x522 x523 x524 x525 x526 x527 x528 x529 x530 x531 x532 x533 x534 x535 x536 x537 x538 x539 x540 x541 x542 x543 x544 x545 x546 x547 x548 x549 x550 x551 x552 x553 x554 x555 x556 x557 x558 x559 x560 x561 x562 x563 x564 x565 x566 x567 x568 x569 x570 x571 x572 x573 x574 x575 : Value) :
    Code.wp Tryz.prog (cRest 11 (bodyOf Tryz.f3)) (qS w0) { tmps := List.toArray ((.slice u1 n1 c1) :: (.slice u2 n2 c2) :: x2 :: x3 :: x4 :: x5 :: x6 :: x7 :: x8 :: x9 :: x10 :: x11 :: x12 :: x13 :: x14 :: x15 :: x16 :: x17 :: x18 :: x19 :: x20 :: x21 :: x22 :: x23 :: x24 :: x25 :: x26 :: x27 :: x28 :: x29 :: x30 :: x31 :: x32 :: x33 :: x34 :: x35 :: x36 :: x37 :: x38 :: x39 :: x40 :: x41 :: x42 :: x43 :: x44 :: x45 :: x46 :: x47 :: x48 :: x49 :: x50 :: x51 :: x52 :: x53 :: x54 :: x55 :: x56 :: x57 :: x58 :: x59 :: x60 :: x61 :: x62 :: x63 :: x64 :: x65 :: x66 :: x67 :: x68 :: x69 :: x70 :: x71 :: x72 :: x73 :: x74 :: x75 :: x76 :: x77 :: x78 :: x79 :: x80 :: x81 :: x82 :: x83 :: x84 :: x85 :: x86 :: x87 :: x88 :: x89 :: x90 :: x91 :: x92 :: x93 :: x94 :: x95 :: x96 :: x97 :: x98 :: x99 :: x100 :: x101 :: x102 :: x103 :: x104 :: x105 :: x106 :: x107 :: x108 :: x109 :: x110 :: x111 :: x112 :: x113 :: x114 :: x115 :: x116 :: x117 :: x118 :: x119 :: x120 :: x121 :: x122 :: x123 :: x124 :: x125 :: x126 :: x127 :: x128 :: x129 :: x130 :: x131 :: x132 :: x133 :: x134 :: x135 :: x136 :: x137 :: x138 :: x139 :: x140 :: x141 :: x142 :: x143 :: x144 :: x145 :: x146 :: x147 :: x148 :: x149 :: x150 :: x151 :: x152 :: x153 :: x154 :: x155 :: x156 :: x157 :: x158 :: x159 :: x160 :: x161 :: x162 :: x163 :: x164 :: x165 :: x166 :: x167 :: x168 :: x169 :: x170 :: x171 :: x172 :: x173 :: x174 :: x175 :: x176 :: x177 :: x178 :: x179 :: x180 :: x181 :: x182 :: x183 :: x184 :: x185 :: x186 :: x187 :: x188 :: x189 :: x190 :: x191 :: x192 :: x193 :: x194 :: x195 :: x196 :: x197 :: x198 :: x199 :: x200 :: x201 :: x202 :: x203 :: x204 :: x205 :: x206 :: x207 :: x208 :: x209 :: x210 :: x211 :: x212 :: x213 :: x214 :: x215 :: x216 :: x217 :: x218 :: x219 :: x220 :: x221 :: x222 :: x223 :: x224 :: x225 :: x226 :: x227 :: x228 :: x229 :: x230 :: x231 :: x232 :: x233 :: x234 :: x235 :: x236 :: x237 :: x238 :: x239 :: x240 :: x241 :: x242 :: x243 :: x244 :: x245 :: x246 :: x247 :: x248 :: x249 :: x250 :: x251 :: x252 :: x253 :: x254 :: x255 :: x256 :: x257 :: x258 :: x259 :: x260 :: x261 :: x262 :: x263 :: x264 :: x265 :: x266 :: x267 :: x268 :: x269 :: x270 :: x271 :: x272 :: x273 :: x274 :: x275 :: x276 :: x277 :: x278 :: x279 :: x280 :: x281 :: x282 :: x283 :: x284 :: x285 :: x286 :: x287 :: x288 :: x289 :: x290 :: x291 :: x292 :: x293 :: x294 :: x295 :: x296 :: x297 :: x298 :: x299 :: x300 :: x301 :: x302 :: x303 :: x304 :: x305 :: x306 :: x307 :: x308 :: x309 :: x310 :: x311 :: x312 :: x313 :: x314 :: x315 :: x316 :: x317 :: x318 :: x319 :: x320 :: x321 :: x322 :: x323 :: x324 :: x325 :: x326 :: x327 :: x328 :: x329 :: x330 :: x331 :: x332 :: x333 :: x334 :: x335 :: x336 :: x337 :: x338 :: x339 :: x340 :: x341 :: x342 :: x343 :: x344 :: x345 :: x346 :: x347 :: x348 :: x349 :: x350 :: x351 :: x352 :: x353 :: x354 :: x355 :: x356 :: x357 :: x358 :: x359 :: x360 :: x361 :: x362 :: x363 :: x364 :: x365 :: x366 :: x367 :: x368 :: x369 :: x370 :: x371 :: x372 :: x373 :: x374 :: x375 :: x376 :: x377 :: x378 :: x379 :: x380 :: x381 :: x382 :: x383 :: x384 :: x385 :: x386 :: x387 :: x388 :: x389 :: x390 :: x391 :: x392 :: x393 :: x394 :: x395 :: x396 :: x397 :: x398 :: x399 :: x400 :: x401 :: x402 :: x403 :: x404 :: x405 :: x406 :: x407 :: x408 :: x409 :: x410 :: x411 :: x412 :: x413 :: x414 :: x415 :: x416 :: x417 :: x418 :: x419 :: x420 :: x421 :: x422 :: x423 :: x424 :: x425 :: x426 :: x427 :: x428 :: x429 :: x430 :: x431 :: x432 :: x433 :: x434 :: x435 :: x436 :: x437 :: x438 :: x439 :: x440 :: x441 :: x442 :: x443 :: x444 :: x445 :: x446 :: x447 :: x448 :: x449 :: x450 :: x451 :: x452 :: x453 :: x454 :: x455 :: x456 :: x457 :: x458 :: x459 :: x460 :: x461 :: x462 :: x463 :: x464 :: x465 :: x466 :: x467 :: x468 :: x469 :: x470 :: x471 :: x472 :: x473 :: x474 :: x475 :: x476 :: x477 :: x478 :: x479 :: x480 :: x481 :: x482 :: x483 :: x484 :: x485 :: x486 :: x487 :: x488 :: x489 :: x490 :: x491 :: x492 :: x493 :: x494 :: x495 :: x496 :: x497 :: x498 :: x499 :: x500 :: x501 :: x502 :: x503 :: x504 :: x505 :: x506 :: x507 :: x508 :: x509 :: x510 :: x511 :: x512 :: x513 :: x514 :: x515 :: x516 :: x517 :: x518 :: x519 :: x520 :: x521 :: x522 :: x523 :: x524 :: x525 :: x526 :: x527 :: x528 :: x529 :: x530 :: x531 :: x532 :: x533 :: x534 :: x535 :: x536 :: x537 :: x538 :: x539 :: x540 :: x541 :: x542 :: x543 :: x544 :: x545 :: x546 :: x547 :: x548 :: x549 :: x550 :: x551 :: x552 :: x553 :: x554 :: x555 :: x556 :: x557 :: x558 :: x559 :: x560 :: x561 :: x562 :: x563 :: x564 :: x565 :: x566 :: x567 :: x568 :: x569 :: x570 :: x571 :: x572 :: x573 :: x574 :: x575 :: []), defers := [] } w := by
  rw [show cRest 11 (bodyOf Tryz.f3) = .seq (cHead 11 (bodyOf Tryz.f3)) (.seq (cHead 12 (bodyOf Tryz.f3)) (.seq (cHead 13 (bodyOf Tryz.f3)) (.seq (cHead 14 (bodyOf Tryz.f3)) (.seq (cHead 15 (bodyOf Tryz.f3)) (.seq (cHead 16 (bodyOf Tryz.f3)) (.seq (cHead 17 (bodyOf Tryz.f3)) (.seq (cHead 18 (bodyOf Tryz.f3)) (cRest 19 (bodyOf Tryz.f3))))))))) from by kernel_rfl]
  generalize hR : cRest 19 (bodyOf Tryz.f3) = R
  have HR := hid hR
  clear hR
  simp only [bodyOf, Tryz.f3, Option.getD_some, cHead]
  have HB := hid hB
  have HBY := hid hby
  clear hB hby
  go_wp2_with fail
  refine (DrawBoxAnswer_any u2 n2 c2 _ HBY.out hl2).mono ?_
  rintro e w1 ⟨⟨x, y, rfl, ⟨x1, x2⟩, y1, y2⟩, hb⟩
  have HB := hid (bel_step HB.out hb)
  have HBY := hid (By.later HBY.out hb)
  clear hb
  obtain ⟨q, hq⟩ : ∃ z, z = caB x y := ⟨_, rfl⟩
  obtain ⟨X, hX⟩ : ∃ z, z = onL q (cbW y.toNat x.toNat) := ⟨_, rfl⟩
  obtain ⟨G, hG⟩ : ∃ z, z = onI q (cbG y.toNat x.toNat) := ⟨_, rfl⟩
  obtain ⟨A, hA⟩ : ∃ z, z = onI q (dA y.toNat x.toNat) := ⟨_, rfl⟩
  obtain ⟨B, hB⟩ : ∃ z, z = onI q (dB y.toNat x.toNat) := ⟨_, rfl⟩
  have lX : X.length ≤ 2000000 := by rw [hX, hq]; exact cbW_len
  have Kxi := fun (W : World) => impl_BoxAnswer_any x y W
  have Kxs := fun (W : World) => spec_BoxAnswer_any x y W
  have Kgi := fun (W : World) => impl_CombGain_any x y W
  have Kgs := fun (W : World) => spec_CombGain_any x y W
  have Kdi := fun (W : World) => impl_BoxDroop_any x y W
  have Kds := fun (W : World) => spec_BoxDroop_any x y W
  rw [← hq, ← hX] at Kxi Kxs
  rw [← hq, ← hG] at Kgi Kgs
  rw [← hq, ← hA, ← hB] at Kdi Kds
  have Kxi := hid Kxi
  have Kxs := hid Kxs
  have Kgi := hid Kgi
  have Kgs := hid Kgs
  have Kdi := hid Kdi
  have Kds := hid Kds
  have Hq := hid hq
  clear hq
  have HX := hid hX
  clear hX
  have HG := hid hG
  clear hG
  have HA := hid hA
  clear hA
  have HB9 := hid hB
  clear hB
  go_wp2_with fail
  refine (Kxi.out _).mono ?_
  rintro e w2 ⟨v_Xi, rfl, r_Xi, hb⟩
  have HB := hid (bel_step HB.out hb)
  have HBY := hid (By.later HBY.out hb)
  have HR_Xi := hid r_Xi
  clear hb r_Xi
  go_wp2_with fail
  refine (Kxs.out _).mono ?_
  rintro e w3 ⟨v_Xs, rfl, r_Xs, hb⟩
  have HB := hid (bel_step HB.out hb)
  have HBY := hid (By.later HBY.out hb)
  have HR_Xi := hid (HR_Xi.out.kept hb)
  have HR_Xs := hid r_Xs
  clear hb r_Xs
  go_wp2_with fail
  refine (Kgi.out _).mono ?_
  rintro e w4 ⟨rfl, hb⟩
  have HB := hid (bel_step HB.out hb)
  have HBY := hid (By.later HBY.out hb)
  have HR_Xi := hid (HR_Xi.out.kept hb)
  have HR_Xs := hid (HR_Xs.out.kept hb)
  clear hb
  go_wp2_with fail
  refine (Kgs.out _).mono ?_
  rintro e w5 ⟨rfl, hb⟩
  have HB := hid (bel_step HB.out hb)
  have HBY := hid (By.later HBY.out hb)
  have HR_Xi := hid (HR_Xi.out.kept hb)
  have HR_Xs := hid (HR_Xs.out.kept hb)
  clear hb
  go_wp2_with fail
  refine (Kdi.out _).mono ?_
  rintro e w6 ⟨rfl, hb⟩
  have HB := hid (bel_step HB.out hb)
  have HBY := hid (By.later HBY.out hb)
  have HR_Xi := hid (HR_Xi.out.kept hb)
  have HR_Xs := hid (HR_Xs.out.kept hb)
  clear hb
  go_wp2_with fail
  refine (Kds.out _).mono ?_
  rintro e w7 ⟨rfl, hb⟩
  have HB := hid (bel_step HB.out hb)
  have HBY := hid (By.later HBY.out hb)
  have HR_Xi := hid (HR_Xi.out.kept hb)
  have HR_Xs := hid (HR_Xs.out.kept hb)
  clear hb
  clear Kxi Kxs Kgi Kgs Kdi Kds
  obtain ⟨a_x, nx, c_x, rfl, hnx, -⟩ := id HR_Xi.out.sl.rd
  have Hnx := hid hnx
  clear hnx
  cases q
  all_goals
    go_wp2_with fail
    refine (iSame_same _ _ X _ HR_Xi.out.sl HR_Xs.out.sl lX).mono ?_
    rintro e w8 ⟨rfl, hb⟩
    have HB := hid (bel_step HB.out hb)
    have HBY := hid (By.later HBY.out hb)
    have HR_Xi := hid (HR_Xi.out.kept hb)
    have HR_Xs := hid (HR_Xs.out.kept hb)
    clear hb
    clear HR_Xs
  · go_wp2_with fail
    rw [← HR.out]
    exact sums_D1N u1 u2 n1 c1 n2 c2 w0 w8 HB.out HBY.out hl2 _ _ _ _ _ _ _ _ _ _ _ _ _ _ _ _ _ _ _ _ _ _ _ _ _ _ _ _ _ _ _ _ _ _ _ _ _ _ _ _ _ _ _ _ _ _ _ _ _ _ _ _ _ _ _ _ _ _ _ _ _ _ _ _ _ _ _ _ _ _ _ _ _ _ _ _ _ _ _ _ _ _ _ _ _ _ _ _ _ _ _ _ _ _ _ _ _ _ _ _ _ _ _ _ _ _ _ _ _ _ _ _ _ _ _ _ _ _ _ _ _ _ _ _ _ _ _ _ _ _ _ _ _ _ _ _ _ _ _ _ _ _ _ _ _ _ _ _ _ _ _ _ _ _ _ _ _ _ _ _ _ _ _ _ _ _ _ _ _ _ _ _ _ _ _ _ _ _ _ _ _ _ _ _ _ _ _ _ _ _ _ _ _ _ _ _ _ _ _ _ _ _ _ _ _ _ _ _ _ _ _ _ _ _ _ _ _ _ _ _ _ _ _ _ _ _ _ _ _ _ _ _ _ _ _ _ _ _ _ _ _ _ _ _ _ _ _ _ _ _ _ _ _ _ _ _ _ _ _ _ _ _ _ _ _ _ _ _ _ _ _ _ _ _ _ _ _ _ _ _ _ _ _ _ _ _ _ _ _ _ _ _ _ _ _ _ _ _ _ _ _ _ _ _ _ _ _ _ _ _ _ _ _ _ _ _ _ _ _ _ _ _ _ _ _ _ _ _ _ _ _ _ _ _ _ _ _ _ _ _ _ _ _ _ _ _ _ _ _ _ _ _ _ _ _ _ _ _ _ _ _ _ _ _ _ _ _ _ _ _ _ _ _ _ _ _ _ _ _ _ _ _ _ _ _ _ _ _ _ _ _ _ _ _ _ _ _ _ _ _ _ _ _ _ _ _ _ _ _ _ _ _ _ _ _ _ _ _ _ _ _ _ _ _ _ _ _ _ _ _ _ _ _ _ _ _ _ _ _ _ _ _ _ _ _ _ _ _ _ _ _ _ _ _ _ _ _ _ _ _ _ _ _ _ _ _ _ _ _ _ _ _ _ _ _ _ _ _ _ _ _ _ _ _ _ _ _ _ _ _ _ _ _ _ _ _ _ _ _ _ _ _ _ _ _ _ _ _ _ _ _ _ _ _ _ _ _ _ _ _ _ _ _ _ _ _ _ _ _ _ _ _ _ _ _ _ _ _ _ _ _ _ _ _ _ _ _ _ _ _ _ _ _ _ _ _ _ _ _ _ _ _ _ _ _ _ _ _ _ _ _ _ _
  · go_wp2_with fail
    rw [← HR.out]
    have hca : askB x y = true := Hq.out.symm
    obtain ⟨⟨hx1, hx2⟩, hy1, hy2⟩ := askB_t hca
    have eX : X = cbW y.toNat x.toNat := HX.out
    have eG : G = cbG y.toNat x.toNat := HG.out
    have eA : A = dA y.toNat x.toNat := HA.out
    have eB : B = dB y.toNat x.toNat := HB9.out
    obtain ⟨f1, f2, f3, f4⟩ := box_facts (r := y.toNat) (st := x.toNat) (by omega) (by omega) (by omega) (by omega)
    obtain ⟨p1, p2, p3, p4, p5⟩ := cb_parts (r := y.toNat) (st := x.toNat) (by omega) (by omega) (by omega)
    obtain ⟨d1, d2⟩ := droop_facts (r := y.toNat) (st := x.toNat) (by omega) (by omega) (by omega) (by omega)
    rw [← eX] at f1 f2 f3 f4 p1 p2 p3 p4
    rw [← eG] at f1 p3 p5 d2
    rw [← eA] at d1
    rw [← eB] at d2
    have hnl : nx = X.length := Hnx.out
    have hS := HR_Xi.out.sl
    obtain ⟨a', n', c', ev, _, rd⟩ := hS.rd
    cases ev
    exact sums_D1C u1 u2 n1 c1 n2 c2 w0 w8 HB.out HBY.out hl2 x y G A B hx1 hx2 hy1 hy2 p5.1 p5.2 X nx a_x c_x Hnx (hid rd) (hid f4) (by rw [hnl]; exact p1.1) (by rw [hnl]; exact Nat.le_trans p1.2 (by decide)) (hid (fun z hz => by have := p2 z hz; omega)) (hid hS) (hid (by rw [sumL_at]; exact f1)) (hid (by
        obtain ⟨z, hz⟩ := get_lt X 0 (by omega)
        rw [at0_of hz] at f3
        rw [hz, f3])) (hid (by
        rw [hnl, f2, Int.natCast_add, Int.natCast_mul, Int.toNat_of_nonneg (by omega), show (((y.toNat - 1 : Nat)) : Int) = y - 1 from by omega]; rfl)) (hid (by
        by_cases hp : y.toNat % 2 = 0
        · left; rw [if_pos hp] at d1; exact ⟨by omega, d1⟩
        · right; rw [if_neg hp] at d1; exact ⟨by omega, d1, d2 (by omega)⟩)) _ _ _ _ _ _ _ _ _ _ _ _ _ _ _ _ _ _ _ _ _ _ _ _ _ _ _ _ _ _ _ _ _ _ _ _ _ _ _ _ _ _ _ _ _ _ _ _ _ _ _ _ _ _ _ _ _ _ _ _ _ _ _ _ _ _ _ _ _ _ _ _ _ _ _ _ _ _ _ _ _ _ _ _ _ _ _ _ _ _ _ _ _ _ _ _ _ _ _ _ _ _ _ _ _ _ _ _ _ _ _ _ _ _ _ _ _ _ _ _ _ _ _ _ _ _ _ _ _ _ _ _ _ _ _ _ _ _ _ _ _ _ _ _ _ _ _ _ _ _ _ _ _ _ _ _ _ _ _ _ _ _ _ _ _ _ _ _ _ _ _ _ _ _ _ _ _ _ _ _ _ _ _ _ _ _ _ _ _ _ _ _ _ _ _ _ _ _ _ _ _ _ _ _ _ _ _ _ _ _ _ _ _ _ _ _ _ _ _ _ _ _ _ _ _ _ _ _ _ _ _ _ _ _ _ _ _ _ _ _ _ _ _ _ _ _ _ _ _ _ _ _ _ _ _ _ _ _ _ _ _ _ _ _ _ _ _ _ _ _ _ _ _ _ _ _ _ _ _ _ _ _ _ _ _ _ _ _ _ _ _ _ _ _ _ _ _ _ _ _ _ _ _ _ _ _ _ _ _ _ _ _ _ _ _ _ _ _ _ _ _ _ _ _ _ _ _ _ _ _ _ _ _ _ _ _ _ _ _ _ _ _ _ _ _ _ _ _ _ _ _ _ _ _ _ _ _ _ _ _ _ _ _ _ _ _ _ _ _ _ _ _ _ _ _ _ _ _ _ _ _ _ _ _ _ _ _ _ _ _ _ _ _ _ _ _ _ _ _ _ _ _ _ _ _ _ _ _ _ _ _ _ _ _ _ _ _ _ _ _ _ _ _ _ _ _ _ _ _ _ _ _ _ _ _ _ _ _ _ _ _ _ _ _ _ _ _ _ _ _ _ _ _ _ _ _ _ _ _ _ _ _ _ _ _ _ _ _ _ _ _ _ _ _ _ _ _ _ _ _ _ _ _ _ _ _ _ _ _ _ _ _ _ _ _ _ _ _ _ _ _ _ _ _ _ _ _ _ _ _ _ _ _ _ _ _ _ _ _ _ _ _ _ _ _ _ _ _ _ _ _ _ _ _ _ _ _ _ _ _ _ _ _ _ _ _ _ _ _ _ _ _ _ _ _ _ _ _ _ _ _ _ _ _ _ _ _

end Go.Proofs.YtichkianildkgaaGreat

