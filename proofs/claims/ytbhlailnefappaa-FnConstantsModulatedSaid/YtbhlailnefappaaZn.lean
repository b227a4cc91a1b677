
import Derived.Test.YtbhlailnefappaaZm
import Derived.Test.YtbhlailnefappaaQi
import Derived.Test.YtbhlailnefappaaQr
import Derived.Test.YtbhlailnefappaaQl
namespace Go.Proofs.Ytbhlailnefappaa
open Go.RowKit BitX Go.MemX Go.ChV
set_option linter.unusedVariables false


def qS (w0 : World) : Exit → Act → World → Prop := bodyPost Try.prog Try.f4 fun e w' => e = .returned (.bool true) ∧ Below w0.heap.size w0 w'

theorem cut_lh {a off n cap p q : Nat} (hc : n ≤ cap) (hq : 1 ≤ q) (h : p + q ≤ n) : ∀ W : World, (Instr.slice 24 (.slice (some ⟨a, off, none⟩) n cap) (some (.int .i64 (p : Int))) (some (.int .i64 ((p : Int) + (q : Int)))) none).run Try.prog W = .ok (.slice (some ⟨a, off + p, none⟩) q (cap - p)) W := fun W => by
  rw [run_slice_lh (P := Try.prog) W 24 (some ⟨a, off, none⟩) n cap uslice .i64 .i64 (p : Int) ((p : Int) + (q : Int)) (by omega) (by omega) (by omega), sone]
  have h1 : ¬ cap = p := by omega
  have h2 : ((p : Int) + (q : Int)).toNat - p = q := by omega
  simp [sliced, Addr.add, h1, h2]


theorem sub_at {bs : List Int} {p q i : Nat} (h : i < q) : ((bs.take (p + q)).drop p)[i]? = bs[p + i]? := by
  rw [List.getElem?_drop, List.getElem?_take_of_lt (by omega)]
theorem sub_sl {w : World} {b off n cap p q : Nat} {bs : List Int} (hn : n = bs.length) (hc : n ≤ cap) (hq : 1 ≤ q) (h : p + q ≤ n) (hlt : b < w.heap.size) (hcell : ∀ i x, bs[i]? = some x → w.cell? ⟨b, off + i, none⟩ = some (.int .i64 x)) :
    Sl w (.slice (some ⟨b, off + p, none⟩) q (cap - p)) ((bs.take (p + q)).drop p) := by
  refine .inr ⟨b, off + p, q, cap - p, rfl, ?_, hq, by omega, hlt, fun i x hi => ?_⟩
  · rw [List.length_drop, List.length_take]; omega
  · have hil : i < q := by
      have := (List.getElem?_eq_some_iff.1 hi).1
      rw [List.length_drop, List.length_take] at this; omega
    rw [sub_at hil] at hi
    rw [show off + p + i = off + (p + i) from by omega]
    exact hcell _ _ hi


theorem mv_t {bs : List Int} {k : Int} (h : mvB bs k = true) : BitP bs ∧ 1 ≤ k ∧ k ≤ bs.length := by
  unfold mvB at h
  rw [Bool.and_eq_true] at h
  have h2 := of_decide_eq_true h.2
  exact ⟨bitB_t h.1, h2.1, h2.2⟩
theorem mv_yes {bs X : List Int} {k : Int} (hX : X = mvL bs k) (h : mvB bs k = true) : X = wnL bs k.toNat := by rw [hX]; unfold mvL; rw [h]; rfl


/-- the constants of a list as a row, also where they are not asked -/
theorem co_all {m : Int} {bs X : List Int} (hX : X = coL m bs) : ∃ (A : Int) (k : Nat), X = tab k (fun i => A + (i : Int)) ∧ k ≤ 3000 ∧ (∀ i : Nat, i < k → nuB m (A + (i : Int)) = true ∧ moBL m (List.replicate bs.length (A + (i : Int))) = bs) ∧ (0 < k → bs.length ≤ 200) := by
  cases h : coB m bs
  · refine ⟨0, 0, ?_, by omega, fun i hi => by omega, fun hh => by omega⟩
    rw [hX]; unfold coL; rw [h]; rfl
  · have h2 := h
    unfold coB at h2
    rw [Bool.and_eq_true] at h2
    have hm := scB_t h2.1
    have hb := bitB_t h2.2
    obtain ⟨A, k, e, h3, h4⟩ := co_row hm.1 hb
    refine ⟨A, k, ?_, by omega, fun i hi => ⟨?_, (h4 i hi).2⟩, fun _ => hb.1⟩
    · rw [hX]; unfold coL; rw [h]; exact e
    · unfold nuB
      rw [h2.1, Bool.true_and]
      exact decide_eq_true (h4 i hi).1


set_option maxRecDepth 20000 in
set_option maxHeartbeats 8000000 in
theorem cons_S26 (u1 u2 : Option Addr) (n1 c1 n2 c2 : Nat) (w0 w : World) (hB : Below w0.heap.size w0 w) (bs : List Int) (gb off n cap q ns : Nat) (a_s : Option Addr) (c_s : Nat) (q1 : 1 ≤ q) (q2 : q ≤ n) (nle : n ≤ 200) (hcap : n ≤ cap) (hns : ns + q = n + 1) (Hn : Hid (n = bs.length)) (HBP : Hid (BitP bs)) (hlt : gb < w.heap.size) (Hcell : Hid (∀ i x, bs[i]? = some x → w.cell? ⟨gb, off + i, none⟩ = some (.int .i64 x))) (Rd_s : Hid (Rd w a_s (wnL bs q))) (x2 x3 x4 x5 x6 x7 x8 x9 x10 x11 x12 x13 x14 x15 x16 x17 x18 x19 x20 x21 x22 x23 x24 x25 x26 x27 x28 x29 x30 x31 x32 x33 x34 x35 x36 x37 x38 x39 x40 x41 x42 x43 x44 x45 x46 x47 x52 x53 x54 x55 x56 x57 x58 x59 x60 x61 x62 x63 x64 x65 x66 x67 x68 x69 x70 x71 x72 x73 x74 x75 x76 x77 x78 x79 x80 x81 x82 x83 x84 x85 x86 x87 x88 x89 x90 x91 x92 x93 x94 x95 x96 x97 x98 x99 x100 x101 x102 x103 x104 x105 x106 x107 x108 x109 x110 x111 x112 x113 x114 x115 x116 x117 x118 x119 x120 x121 x122 x123 x124 x125 x126 x127 x128 x129 x130 x131 x132 x133 x134 x135 x136 x137 x138 x139 x140 x141 x142 x143 x144 x145 x146 x147 x148 x149 x150 x151 x152 x153 x154 x155 x156 x157 x158 x159 x160 x161 x162 x163 x164 x165 x166 x167 x168 x169 x170 x171 x172 x173 x174 x175 x176 x177 x178 x179 x180 x181 x182 x183 x184 x185 x186 x187 x188 x189 x190 x191 x192 x193 x194 x195 x196 x197 x198 x199 x200 x201 x202 x203 x204 x205 x206 x207 x208 x209 x210 x211 x212 x213 x214 x215 x216 x217 x218 x219 x220 x221 x222 x223 x224 x225 x226 x227 x228 x229 x230 x231 x232 x233 x234 x235 x236 x237 x238 x239 x240 x241 x242 x243 x244 x245 x246 x247 x248 x249 x250 x251 x252 x253 x254 x255 x256 x257 x258 x259 x260 x261 x262 x263 x264 x265 x266 x267 x268 x269 x270 x271 x272 x273 x274 x275 x276 x277 x278 x279 x280 x281 x282 x283 x284 x285 x286 x287 x288 x289 x290 x291 x292 x293 x294 x295 x296 x297 x298 x299 x300 x301 x302 x303 x304 x305 x306 x307 x308 x309 x310 x311 x312 x313 x314 x315 x316 x317 x318 x319 x320 x321 x322 x323 x324 x325 x326 x327 x328 x329 x330 x331 x332 x333 x334 x335 x336 x337 x338 x339 x340 x341 x342 x343 x344 x345 x346 x347 x348 x349 x350 x351 x352 x353 x354 x355 x356 x357 x358 x359 x360 x361 x362 x363 x364 x365 x366 x367 x368 x369 x370 x371 x372 x373 x374 x375 x376 x377 x378 x379 x380 x381 x382 x383 x384 x385 : Value) :
    Code.wp Try.prog (cRest 26 (bodyOf Try.f4)) (qS w0) { tmps := List.toArray ((.slice u1 n1 c1) :: (.slice u2 n2 c2) :: x2 :: x3 :: x4 :: x5 :: x6 :: x7 :: x8 :: x9 :: x10 :: x11 :: x12 :: x13 :: x14 :: x15 :: x16 :: x17 :: x18 :: x19 :: x20 :: x21 :: x22 :: x23 :: x24 :: x25 :: x26 :: x27 :: x28 :: x29 :: x30 :: x31 :: x32 :: x33 :: x34 :: x35 :: x36 :: x37 :: x38 :: x39 :: x40 :: x41 :: x42 :: x43 :: x44 :: x45 :: x46 :: x47 :: (.slice (some ⟨gb, off, none⟩) n cap) :: (.int .i64 (q : Int)) :: (.slice a_s ns c_s) :: (.bool true) :: x52 :: x53 :: x54 :: x55 :: x56 :: x57 :: x58 :: x59 :: x60 :: x61 :: x62 :: x63 :: x64 :: x65 :: x66 :: x67 :: x68 :: x69 :: x70 :: x71 :: x72 :: x73 :: x74 :: x75 :: x76 :: x77 :: x78 :: x79 :: x80 :: x81 :: x82 :: x83 :: x84 :: x85 :: x86 :: x87 :: x88 :: x89 :: x90 :: x91 :: x92 :: x93 :: x94 :: x95 :: x96 :: x97 :: x98 :: x99 :: x100 :: x101 :: x102 :: x103 :: x104 :: x105 :: x106 :: x107 :: x108 :: x109 :: x110 :: x111 :: x112 :: x113 :: x114 :: x115 :: x116 :: x117 :: x118 :: x119 :: x120 :: x121 :: x122 :: x123 :: x124 :: x125 :: x126 :: x127 :: x128 :: x129 :: x130 :: x131 :: x132 :: x133 :: x134 :: x135 :: x136 :: x137 :: x138 :: x139 :: x140 :: x141 :: x142 :: x143 :: x144 :: x145 :: x146 :: x147 :: x148 :: x149 :: x150 :: x151 :: x152 :: x153 :: x154 :: x155 :: x156 :: x157 :: x158 :: x159 :: x160 :: x161 :: x162 :: x163 :: x164 :: x165 :: x166 :: x167 :: x168 :: x169 :: x170 :: x171 :: x172 :: x173 :: x174 :: x175 :: x176 :: x177 :: x178 :: x179 :: x180 :: x181 :: x182 :: x183 :: x184 :: x185 :: x186 :: x187 :: x188 :: x189 :: x190 :: x191 :: x192 :: x193 :: x194 :: x195 :: x196 :: x197 :: x198 :: x199 :: x200 :: x201 :: x202 :: x203 :: x204 :: x205 :: x206 :: x207 :: x208 :: x209 :: x210 :: x211 :: x212 :: x213 :: x214 :: x215 :: x216 :: x217 :: x218 :: x219 :: x220 :: x221 :: x222 :: x223 :: x224 :: x225 :: x226 :: x227 :: x228 :: x229 :: x230 :: x231 :: x232 :: x233 :: x234 :: x235 :: x236 :: x237 :: x238 :: x239 :: x240 :: x241 :: x242 :: x243 :: x244 :: x245 :: x246 :: x247 :: x248 :: x249 :: x250 :: x251 :: x252 :: x253 :: x254 :: x255 :: x256 :: x257 :: x258 :: x259 :: x260 :: x261 :: x262 :: x263 :: x264 :: x265 :: x266 :: x267 :: x268 :: x269 :: x270 :: x271 :: x272 :: x273 :: x274 :: x275 :: x276 :: x277 :: x278 :: x279 :: x280 :: x281 :: x282 :: x283 :: x284 :: x285 :: x286 :: x287 :: x288 :: x289 :: x290 :: x291 :: x292 :: x293 :: x294 :: x295 :: x296 :: x297 :: x298 :: x299 :: x300 :: x301 :: x302 :: x303 :: x304 :: x305 :: x306 :: x307 :: x308 :: x309 :: x310 :: x311 :: x312 :: x313 :: x314 :: x315 :: x316 :: x317 :: x318 :: x319 :: x320 :: x321 :: x322 :: x323 :: x324 :: x325 :: x326 :: x327 :: x328 :: x329 :: x330 :: x331 :: x332 :: x333 :: x334 :: x335 :: x336 :: x337 :: x338 :: x339 :: x340 :: x341 :: x342 :: x343 :: x344 :: x345 :: x346 :: x347 :: x348 :: x349 :: x350 :: x351 :: x352 :: x353 :: x354 :: x355 :: x356 :: x357 :: x358 :: x359 :: x360 :: x361 :: x362 :: x363 :: x364 :: x365 :: x366 :: x367 :: x368 :: x369 :: x370 :: x371 :: x372 :: x373 :: x374 :: x375 :: x376 :: x377 :: x378 :: x379 :: x380 :: x381 :: x382 :: x383 :: x384 :: x385 :: []), defers := [] } w := by
  simp only [bodyOf, Try.f4, Option.getD_some, cRest]
  have HB := hid hB
  clear hB
  go_wp2_with fail
  go_loopw [363] (fun i wr => ∃ c : Nat, c ≤ ns ∧ i = .int .i64 c ∧ Below w.heap.size w wr)
    (fun i _ => ns - (intOf i).toNat)
  case atStart => exact ⟨0, by omega, rfl, Below.refl _ _⟩
  case round =>
    obtain ⟨c, hc, rfl, hb⟩ := hrel
    by_cases hlc : c < ns
    · have hkw : (wnL bs q)[c]? = some (wnI bs q c) := tab_get _ _ _ (by rw [← Hn.out]; omega)
      obtain ⟨b7, o7, ix7, hb7, ce7⟩ := (Rd_s.out.kept hb).at (P := Try.prog) (T := 24) ns c_s uslice sone hkw hlc
      have hcut := cut_lh (a := gb) (off := off) (n := n) (cap := cap) (p := c) (q := q) hcap q1 (by omega)
      have hsl := sub_sl (w := wr) (b := gb) (off := off) (n := n) (cap := cap) (p := c) (q := q) Hn.out hcap q1 (by omega) (Nat.lt_of_lt_of_le hlt hb.size) (fun i x hi => by rw [hb.cell (by exact hlt)]; exact Hcell.out i x hi)
      have hws : sumL ((bs.take (c + q)).drop c) = wnI bs q c := (wn_sum (by rw [← Hn.out]; omega)).symm
      have KS := iSum_any _ _ wr hsl (by rw [List.length_drop, List.length_take]; have := HBP.out.1; omega) (fun x hx => by rcases HBP.out.2 x (List.mem_of_mem_take (List.mem_of_mem_drop hx)) with h | h <;> omega)
      rw [hws] at KS
      have KS := hid KS
      generalize wnI bs q c = y at *
      have HHb := hid hb
      clear hkw hsl hws hb
      go_wp2_with fail
      refine KS.out.mono ?_
      rintro e w' ⟨rfl, rfl⟩
      go_wp2_with fail
      go_roundw
      case rel => exact ⟨c + 1, by omega, by go_num, HHb.out⟩
      case measure => simp [intOf]; omega
    · have hge : (ns : Int) ≤ (c : Int) := by omega
      have e1 : ((ns : Int) == (n : Int) - (q : Int) + 1) = true := beq_iff_eq.2 (by omega)
      have HHb := hid (bel_step HB.out hb)
      clear hlc hb
      go_wp2
      unfold qS
      go_ret
      exact ⟨rfl, HHb.out⟩


set_option maxRecDepth 20000 in
set_option maxHeartbeats 8000000 in
theorem cons_N26 (u1 u2 : Option Addr) (n1 c1 n2 c2 : Nat) (w0 w : World) (hB : Below w0.heap.size w0 w) (x2 x3 x4 x5 x6 x7 x8 x9 x10 x11 x12 x13 x14 x15 x16 x17 x18 x19 x20 x21 x22 x23 x24 x25 x26 x27 x28 x29 x30 x31 x32 x33 x34 x35 x36 x37 x38 x39 x40 x41 x42 x43 x44 x45 x46 x47 x48 x49 x50 x52 x53 x54 x55 x56 x57 x58 x59 x60 x61 x62 x63 x64 x65 x66 x67 x68 x69 x70 x71 x72 x73 x74 x75 x76 x77 x78 x79 x80 x81 x82 x83 x84 x85 x86 x87 x88 x89 x90 x91 x92 x93 x94 x95 x96 x97 x98 x99 x100 x101 x102 x103 x104 x105 x106 x107 x108 x109 x110 x111 x112 x113 x114 x115 x116 x117 x118 x119 x120 x121 x122 x123 x124 x125 x126 x127 x128 x129 x130 x131 x132 x133 x134 x135 x136 x137 x138 x139 x140 x141 x142 x143 x144 x145 x146 x147 x148 x149 x150 x151 x152 x153 x154 x155 x156 x157 x158 x159 x160 x161 x162 x163 x164 x165 x166 x167 x168 x169 x170 x171 x172 x173 x174 x175 x176 x177 x178 x179 x180 x181 x182 x183 x184 x185 x186 x187 x188 x189 x190 x191 x192 x193 x194 x195 x196 x197 x198 x199 x200 x201 x202 x203 x204 x205 x206 x207 x208 x209 x210 x211 x212 x213 x214 x215 x216 x217 x218 x219 x220 x221 x222 x223 x224 x225 x226 x227 x228 x229 x230 x231 x232 x233 x234 x235 x236 x237 x238 x239 x240 x241 x242 x243 x244 x245 x246 x247 x248 x249 x250 x251 x252 x253 x254 x255 x256 x257 x258 x259 x260 x261 x262 x263 x264 x265 x266 x267 x268 x269 x270 x271 x272 x273 x274 x275 x276 x277 x278 x279 x280 x281 x282 x283 x284 x285 x286 x287 x288 x289 x290 x291 x292 x293 x294 x295 x296 x297 x298 x299 x300 x301 x302 x303 x304 x305 x306 x307 x308 x309 x310 x311 x312 x313 x314 x315 x316 x317 x318 x319 x320 x321 x322 x323 x324 x325 x326 x327 x328 x329 x330 x331 x332 x333 x334 x335 x336 x337 x338 x339 x340 x341 x342 x343 x344 x345 x346 x347 x348 x349 x350 x351 x352 x353 x354 x355 x356 x357 x358 x359 x360 x361 x362 x363 x364 x365 x366 x367 x368 x369 x370 x371 x372 x373 x374 x375 x376 x377 x378 x379 x380 x381 x382 x383 x384 x385 : Value) :
    Code.wp Try.prog (cRest 26 (bodyOf Try.f4)) (qS w0) { tmps := List.toArray ((.slice u1 n1 c1) :: (.slice u2 n2 c2) :: x2 :: x3 :: x4 :: x5 :: x6 :: x7 :: x8 :: x9 :: x10 :: x11 :: x12 :: x13 :: x14 :: x15 :: x16 :: x17 :: x18 :: x19 :: x20 :: x21 :: x22 :: x23 :: x24 :: x25 :: x26 :: x27 :: x28 :: x29 :: x30 :: x31 :: x32 :: x33 :: x34 :: x35 :: x36 :: x37 :: x38 :: x39 :: x40 :: x41 :: x42 :: x43 :: x44 :: x45 :: x46 :: x47 :: x48 :: x49 :: x50 :: (.bool false) :: x52 :: x53 :: x54 :: x55 :: x56 :: x57 :: x58 :: x59 :: x60 :: x61 :: x62 :: x63 :: x64 :: x65 :: x66 :: x67 :: x68 :: x69 :: x70 :: x71 :: x72 :: x73 :: x74 :: x75 :: x76 :: x77 :: x78 :: x79 :: x80 :: x81 :: x82 :: x83 :: x84 :: x85 :: x86 :: x87 :: x88 :: x89 :: x90 :: x91 :: x92 :: x93 :: x94 :: x95 :: x96 :: x97 :: x98 :: x99 :: x100 :: x101 :: x102 :: x103 :: x104 :: x105 :: x106 :: x107 :: x108 :: x109 :: x110 :: x111 :: x112 :: x113 :: x114 :: x115 :: x116 :: x117 :: x118 :: x119 :: x120 :: x121 :: x122 :: x123 :: x124 :: x125 :: x126 :: x127 :: x128 :: x129 :: x130 :: x131 :: x132 :: x133 :: x134 :: x135 :: x136 :: x137 :: x138 :: x139 :: x140 :: x141 :: x142 :: x143 :: x144 :: x145 :: x146 :: x147 :: x148 :: x149 :: x150 :: x151 :: x152 :: x153 :: x154 :: x155 :: x156 :: x157 :: x158 :: x159 :: x160 :: x161 :: x162 :: x163 :: x164 :: x165 :: x166 :: x167 :: x168 :: x169 :: x170 :: x171 :: x172 :: x173 :: x174 :: x175 :: x176 :: x177 :: x178 :: x179 :: x180 :: x181 :: x182 :: x183 :: x184 :: x185 :: x186 :: x187 :: x188 :: x189 :: x190 :: x191 :: x192 :: x193 :: x194 :: x195 :: x196 :: x197 :: x198 :: x199 :: x200 :: x201 :: x202 :: x203 :: x204 :: x205 :: x206 :: x207 :: x208 :: x209 :: x210 :: x211 :: x212 :: x213 :: x214 :: x215 :: x216 :: x217 :: x218 :: x219 :: x220 :: x221 :: x222 :: x223 :: x224 :: x225 :: x226 :: x227 :: x228 :: x229 :: x230 :: x231 :: x232 :: x233 :: x234 :: x235 :: x236 :: x237 :: x238 :: x239 :: x240 :: x241 :: x242 :: x243 :: x244 :: x245 :: x246 :: x247 :: x248 :: x249 :: x250 :: x251 :: x252 :: x253 :: x254 :: x255 :: x256 :: x257 :: x258 :: x259 :: x260 :: x261 :: x262 :: x263 :: x264 :: x265 :: x266 :: x267 :: x268 :: x269 :: x270 :: x271 :: x272 :: x273 :: x274 :: x275 :: x276 :: x277 :: x278 :: x279 :: x280 :: x281 :: x282 :: x283 :: x284 :: x285 :: x286 :: x287 :: x288 :: x289 :: x290 :: x291 :: x292 :: x293 :: x294 :: x295 :: x296 :: x297 :: x298 :: x299 :: x300 :: x301 :: x302 :: x303 :: x304 :: x305 :: x306 :: x307 :: x308 :: x309 :: x310 :: x311 :: x312 :: x313 :: x314 :: x315 :: x316 :: x317 :: x318 :: x319 :: x320 :: x321 :: x322 :: x323 :: x324 :: x325 :: x326 :: x327 :: x328 :: x329 :: x330 :: x331 :: x332 :: x333 :: x334 :: x335 :: x336 :: x337 :: x338 :: x339 :: x340 :: x341 :: x342 :: x343 :: x344 :: x345 :: x346 :: x347 :: x348 :: x349 :: x350 :: x351 :: x352 :: x353 :: x354 :: x355 :: x356 :: x357 :: x358 :: x359 :: x360 :: x361 :: x362 :: x363 :: x364 :: x365 :: x366 :: x367 :: x368 :: x369 :: x370 :: x371 :: x372 :: x373 :: x374 :: x375 :: x376 :: x377 :: x378 :: x379 :: x380 :: x381 :: x382 :: x383 :: x384 :: x385 :: []), defers := [] } w := by
  simp only [bodyOf, Try.f4, Option.getD_some, cRest]
  go_wp2
  unfold qS
  go_ret
  exact ⟨rfl, hB⟩


set_option maxRecDepth 20000 in
set_option maxHeartbeats 8000000 in
theorem cons_M (u1 u2 : Option Addr) (n1 c1 n2 c2 : Nat) (w0 w : World) (hB : Below w0.heap.size w0 w) (hby : By w.heap.size w u2 n2) (hl2 : n2 ≤ 1048576) (x2 x3 x4 x5 x6 x7 x8 x9 x10 x11 x12 x13 x14 x15 x16 x17 x18 x19 x20 x21 x22 x23 x24 x25 x26 x27 x28 x29 x30 x31 x32 x33 x34 x35 x36 x37 x38 x39 x40 x41 x42 x43 x44 x45 x46 x47 x48 x49 x50 x51 x52 x53 x54 x55 x56 x57 x58 x59 x60 x61 x62 x63 x64 x65 x66 x67 x68 x69 x70 x71 x72 x73 x74 x75 x76 x77 x78 x79 x80 x81 x82 x83 x84 x85 x86 x87 x88 x89 x90 x91 x92 x93 x94 x95 x96 x97 x98 x99 x100 x101 x102 x103 x104 x105 x106 x107 x108 x109 x110 x111 x112 x113 x114 x115 x116 x117 x118 x119 x120 x121 x122 x123 x124 x125 x126 x127 x128 x129 x130 x131 x132 x133 x134 x135 x136 x137 x138 x139 x140 x141 x142 x143 x144 x145 x146 x147 x148 x149 x150 x151 x152 x153 x154 x155 x156 x157 x158 x159 x160 x161 x162 x163 x164 x165 x166 x167 x168 x169 x170 x171 x172 x173 x174 x175 x176 x177 x178 x179 x180 x181 x182 x183 x184 x185 x186 x187 x188 x189 x190 x191 x192 x193 x194 x195 x196 x197 x198 x199 x200 x201 x202 x203 x204 x205 x206 x207 x208 x209 x210 x211 x212 x213 x214 x215 x216 x217 x218 x219 x220 x221 x222 x223 x224 x225 x226 x227 x228 x229 x230 x231 x232 x233 x234 x235 x236 x237 x238 x239 x240 x241 x242 x243 x244 x245 x246 x247 x248 x249 x250 x251 x252 x253 x254 x255 x256 x257 x258 x259 x260 x261 x262 x263 x264 x265 x266 x267 x268 x269 x270 x271 x272 x273 x274 x275 x276 x277 x278 x279 x280 x281 x282 x283 x284 x285 x286 x287 x288 x289 x290 x291 x292 x293 x294 x295 x296 x297 x298 x299 x300 x301 x302 x303 x304 x305 x306 x307 x308 x309 x310 x311 x312 x313 x314 x315 x316 x317 x318 x319 x320 x321 x322 x323 x324 x325 x326 x327 x328 x329 x330 x331 x332 x333 x334 x335 x336 x337 x338 x339 x340 x341 x342 x343 x344 x345 x346 x347 x348 x349 x350 x351 x352 x353 x354 x355 x356 x357 x358 x359 x360 x361 x362 x363 x364 x365 x366 x367 x368 x369 x370 x371 x372 x373 x374 x375 x376 x377 x378 x379 x380 x381 x382 x383 x384 x385 : Value) :
    Code.wp Try.prog (cRest 12 (bodyOf Try.f4)) (qS w0) { tmps := List.toArray ((.slice u1 n1 c1) :: (.slice u2 n2 c2) :: x2 :: x3 :: x4 :: x5 :: x6 :: x7 :: x8 :: x9 :: x10 :: x11 :: x12 :: x13 :: x14 :: x15 :: x16 :: x17 :: x18 :: x19 :: x20 :: x21 :: x22 :: x23 :: x24 :: x25 :: x26 :: x27 :: x28 :: x29 :: x30 :: x31 :: x32 :: x33 :: x34 :: x35 :: x36 :: x37 :: x38 :: x39 :: x40 :: x41 :: x42 :: x43 :: x44 :: x45 :: x46 :: x47 :: x48 :: x49 :: x50 :: x51 :: x52 :: x53 :: x54 :: x55 :: x56 :: x57 :: x58 :: x59 :: x60 :: x61 :: x62 :: x63 :: x64 :: x65 :: x66 :: x67 :: x68 :: x69 :: x70 :: x71 :: x72 :: x73 :: x74 :: x75 :: x76 :: x77 :: x78 :: x79 :: x80 :: x81 :: x82 :: x83 :: x84 :: x85 :: x86 :: x87 :: x88 :: x89 :: x90 :: x91 :: x92 :: x93 :: x94 :: x95 :: x96 :: x97 :: x98 :: x99 :: x100 :: x101 :: x102 :: x103 :: x104 :: x105 :: x106 :: x107 :: x108 :: x109 :: x110 :: x111 :: x112 :: x113 :: x114 :: x115 :: x116 :: x117 :: x118 :: x119 :: x120 :: x121 :: x122 :: x123 :: x124 :: x125 :: x126 :: x127 :: x128 :: x129 :: x130 :: x131 :: x132 :: x133 :: x134 :: x135 :: x136 :: x137 :: x138 :: x139 :: x140 :: x141 :: x142 :: x143 :: x144 :: x145 :: x146 :: x147 :: x148 :: x149 :: x150 :: x151 :: x152 :: x153 :: x154 :: x155 :: x156 :: x157 :: x158 :: x159 :: x160 :: x161 :: x162 :: x163 :: x164 :: x165 :: x166 :: x167 :: x168 :: x169 :: x170 :: x171 :: x172 :: x173 :: x174 :: x175 :: x176 :: x177 :: x178 :: x179 :: x180 :: x181 :: x182 :: x183 :: x184 :: x185 :: x186 :: x187 :: x188 :: x189 :: x190 :: x191 :: x192 :: x193 :: x194 :: x195 :: x196 :: x197 :: x198 :: x199 :: x200 :: x201 :: x202 :: x203 :: x204 :: x205 :: x206 :: x207 :: x208 :: x209 :: x210 :: x211 :: x212 :: x213 :: x214 :: x215 :: x216 :: x217 :: x218 :: x219 :: x220 :: x221 :: x222 :: x223 :: x224 :: x225 :: x226 :: x227 :: x228 :: x229 :: x230 :: x231 :: x232 :: x233 :: x234 :: x235 :: x236 :: x237 :: x238 :: x239 :: x240 :: x241 :: x242 :: x243 :: x244 :: x245 :: x246 :: x247 :: x248 :: x249 :: x250 :: x251 :: x252 :: x253 :: x254 :: x255 :: x256 :: x257 :: x258 :: x259 :: x260 :: x261 :: x262 :: x263 :: x264 :: x265 :: x266 :: x267 :: x268 :: x269 :: x270 :: x271 :: x272 :: x273 :: x274 :: x275 :: x276 :: x277 :: x278 :: x279 :: x280 :: x281 :: x282 :: x283 :: x284 :: x285 :: x286 :: x287 :: x288 :: x289 :: x290 :: x291 :: x292 :: x293 :: x294 :: x295 :: x296 :: x297 :: x298 :: x299 :: x300 :: x301 :: x302 :: x303 :: x304 :: x305 :: x306 :: x307 :: x308 :: x309 :: x310 :: x311 :: x312 :: x313 :: x314 :: x315 :: x316 :: x317 :: x318 :: x319 :: x320 :: x321 :: x322 :: x323 :: x324 :: x325 :: x326 :: x327 :: x328 :: x329 :: x330 :: x331 :: x332 :: x333 :: x334 :: x335 :: x336 :: x337 :: x338 :: x339 :: x340 :: x341 :: x342 :: x343 :: x344 :: x345 :: x346 :: x347 :: x348 :: x349 :: x350 :: x351 :: x352 :: x353 :: x354 :: x355 :: x356 :: x357 :: x358 :: x359 :: x360 :: x361 :: x362 :: x363 :: x364 :: x365 :: x366 :: x367 :: x368 :: x369 :: x370 :: x371 :: x372 :: x373 :: x374 :: x375 :: x376 :: x377 :: x378 :: x379 :: x380 :: x381 :: x382 :: x383 :: x384 :: x385 :: []), defers := [] } w := by
  rw [show cRest 12 (bodyOf Try.f4) = .seq (cHead 12 (bodyOf Try.f4)) (.seq (cHead 13 (bodyOf Try.f4)) (.seq (cHead 14 (bodyOf Try.f4)) (.seq (cHead 15 (bodyOf Try.f4)) (.seq (cHead 16 (bodyOf Try.f4)) (.seq (cHead 17 (bodyOf Try.f4)) (.seq (cHead 18 (bodyOf Try.f4)) (.seq (cHead 19 (bodyOf Try.f4)) (.seq (cHead 20 (bodyOf Try.f4)) (.seq (cHead 21 (bodyOf Try.f4)) (.seq (cHead 22 (bodyOf Try.f4)) (.seq (cHead 23 (bodyOf Try.f4)) (.seq (cHead 24 (bodyOf Try.f4)) (.seq (cHead 25 (bodyOf Try.f4)) (cRest 26 (bodyOf Try.f4))))))))))))))) from by kernel_rfl]
  generalize hR : cRest 26 (bodyOf Try.f4) = R
  have HR := hid hR
  clear hR
  simp only [bodyOf, Try.f4, Option.getD_some, cHead]
  have HB := hid hB
  have HBY := hid hby
  clear hB hby
  go_wp2_with fail
  refine (DrawPeriodOfConstant_any u2 n2 c2 _ HBY.out hl2).mono ?_
  rintro e w1 ⟨⟨m, x, rfl, hm9, hx9⟩, hb⟩
  have HB := hid (bel_step HB.out hb)
  have HBY := hid (By.later HBY.out hb)
  clear hb
  clear hm9 hx9
  obtain ⟨nb, hnb⟩ : ∃ z, z = nuB m x := ⟨_, rfl⟩
  obtain ⟨PP, hPP⟩ : ∃ z, z = poI m x := ⟨_, rfl⟩
  obtain ⟨OO, hOO⟩ : ∃ z, z = ooI m x := ⟨_, rfl⟩
  have KPi := fun (W : World) => impl_PeriodOfConstant_is m x W
  rw [← hnb, ← hPP] at KPi
  have KPi := hid KPi
  have KPs := fun (W : World) => spec_PeriodOfConstant_is m x W
  rw [← hnb, ← hPP] at KPs
  have KPs := hid KPs
  have KOi := fun (W : World) => impl_OnesInPeriod_is m x W
  rw [← hnb, ← hOO] at KOi
  have KOi := hid KOi
  have KOs := fun (W : World) => spec_OnesInPeriod_is m x W
  rw [← hnb, ← hOO] at KOs
  have KOs := hid KOs
  clear hnb hPP hOO
  go_wp2_with fail
  refine (KPi.out _).mono ?_
  rintro e w2 ⟨rfl, hb⟩
  have HB := hid (bel_step HB.out hb)
  have HBY := hid (By.later HBY.out hb)
  clear hb
  go_wp2_with fail
  refine (KPs.out _).mono ?_
  rintro e w3 ⟨rfl, hb⟩
  have HB := hid (bel_step HB.out hb)
  have HBY := hid (By.later HBY.out hb)
  clear hb
  go_wp2_with fail
  refine (KOi.out _).mono ?_
  rintro e w4 ⟨rfl, hb⟩
  have HB := hid (bel_step HB.out hb)
  have HBY := hid (By.later HBY.out hb)
  clear hb
  go_wp2_with fail
  refine (KOs.out _).mono ?_
  rintro e w5 ⟨rfl, hb⟩
  have HB := hid (bel_step HB.out hb)
  have HBY := hid (By.later HBY.out hb)
  clear hb
  clear KPi KPs KOi KOs
  go_wp2_with fail
  refine (DrawIsBalancedList_any u2 n2 c2 _ HBY.out hl2).mono ?_
  rintro e w6 ⟨⟨v_c, cs, rfl, r_c, hcl⟩, hb⟩
  have HB := hid (bel_step HB.out hb)
  have HBY := hid (By.later HBY.out hb)
  have HR_c := hid r_c
  clear hb r_c
  obtain ⟨bb, hbb⟩ : ∃ z, z = bitB cs := ⟨_, rfl⟩
  obtain ⟨ib, hib⟩ : ∃ z, z = isB cs := ⟨_, rfl⟩
  obtain ⟨RR, hRR⟩ : ∃ z, z = rrL cs := ⟨_, rfl⟩
  have lRR : RR.length ≤ 2000000 := by rw [hRR]; exact rrL_len cs (by omega)
  have KBi := fun (W : World) (v : Value) (h : Sl W v cs) => impl_IsBalancedList_is v cs W h
  rw [← hbb, ← hib] at KBi
  have KBi := hid KBi
  have KRi := fun (W : World) (v : Value) (h : Sl W v cs) => impl_RunsOf_is v cs W h
  rw [← hbb, ← hRR] at KRi
  have KRi := hid KRi
  have KBs := fun (W : World) (v : Value) (h : Sl W v cs) => spec_IsBalancedList_is v cs W h
  rw [← hbb, ← hib] at KBs
  have KBs := hid KBs
  have KRs := fun (W : World) (v : Value) (h : Sl W v cs) => spec_RunsOf_is v cs W h
  rw [← hbb, ← hRR] at KRs
  have KRs := hid KRs
  clear hbb hib hRR
  go_wp2_with fail
  refine (KBi.out _ _ HR_c.out.sl).mono ?_
  rintro e w7 ⟨rfl, hb⟩
  have HB := hid (bel_step HB.out hb)
  have HBY := hid (By.later HBY.out hb)
  have HR_c := hid (HR_c.out.kept hb)
  clear hb
  go_wp2_with fail
  refine (KBs.out _ _ HR_c.out.sl).mono ?_
  rintro e w8 ⟨rfl, hb⟩
  have HB := hid (bel_step HB.out hb)
  have HBY := hid (By.later HBY.out hb)
  have HR_c := hid (HR_c.out.kept hb)
  clear hb
  go_wp2_with fail
  refine (KRi.out _ _ HR_c.out.sl).mono ?_
  rintro e w9 ⟨v_Ri, rfl, r_Ri, hb⟩
  have HB := hid (bel_step HB.out hb)
  have HBY := hid (By.later HBY.out hb)
  have HR_c := hid (HR_c.out.kept hb)
  have HR_Ri := hid r_Ri
  clear hb r_Ri
  go_wp2_with fail
  refine (KRs.out _ _ HR_c.out.sl).mono ?_
  rintro e w10 ⟨v_Rs, rfl, r_Rs, hb⟩
  have HB := hid (bel_step HB.out hb)
  have HBY := hid (By.later HBY.out hb)
  have HR_c := hid (HR_c.out.kept hb)
  have HR_Ri := hid (HR_Ri.out.kept hb)
  have HR_Rs := hid r_Rs
  clear hb r_Rs
  clear KBi KBs KRi KRs HR_c
  go_wp2_with fail
  refine (DrawMovingSums_any u2 n2 c2 _ HBY.out hl2).mono ?_
  rintro e w11 ⟨⟨v_d, ds, k, rfl, r_d, hdl, k1, k2⟩, hb⟩
  have HB := hid (bel_step HB.out hb)
  have HR_Ri := hid (HR_Ri.out.kept hb)
  have HR_Rs := hid (HR_Rs.out.kept hb)
  have HR_d := hid r_d
  clear hb r_d HBY
  obtain ⟨mv, hmv⟩ : ∃ z, z = mvB ds k := ⟨_, rfl⟩
  obtain ⟨X, hX⟩ : ∃ z, z = mvL ds k := ⟨_, rfl⟩
  have lX : X.length ≤ 2000000 := by rw [hX]; exact mvL_len ds k (by omega)
  have KMi := fun (W : World) (v : Value) (h : Sl W v ds) => impl_MovingSums_is v ds k W h
  rw [← hmv, ← hX] at KMi
  have KMi := hid KMi
  have KMs := fun (W : World) (v : Value) (h : Sl W v ds) => spec_MovingSums_is v ds k W h
  rw [← hmv, ← hX] at KMs
  have KMs := hid KMs
  have Hmv := hid hmv
  clear hmv
  have HX := hid hX
  clear hX
  go_wp2_with fail
  refine (KMi.out _ _ HR_d.out.sl).mono ?_
  rintro e w12 ⟨v_Xi, rfl, r_Xi, hb⟩
  have HB := hid (bel_step HB.out hb)
  have HR_Ri := hid (HR_Ri.out.kept hb)
  have HR_Rs := hid (HR_Rs.out.kept hb)
  have HR_d := hid (HR_d.out.kept hb)
  have HR_Xi := hid r_Xi
  clear hb r_Xi
  go_wp2_with fail
  refine (KMs.out _ _ HR_d.out.sl).mono ?_
  rintro e w13 ⟨v_Xs, rfl, r_Xs, hb⟩
  have HB := hid (bel_step HB.out hb)
  have HR_Ri := hid (HR_Ri.out.kept hb)
  have HR_Rs := hid (HR_Rs.out.kept hb)
  have HR_d := hid (HR_d.out.kept hb)
  have HR_Xi := hid (HR_Xi.out.kept hb)
  have HR_Xs := hid r_Xs
  clear hb r_Xs
  clear KMi KMs
  cases nb
  all_goals cases bb
  all_goals cases mv
  all_goals
    go_wp2_with fail
    refine (iSame_same _ _ RR _ HR_Ri.out.sl HR_Rs.out.sl lRR).mono ?_
    rintro e w14 ⟨rfl, hb⟩
    have HB := hid (bel_step HB.out hb)
    have HR_Ri := hid (HR_Ri.out.kept hb)
    have HR_Rs := hid (HR_Rs.out.kept hb)
    have HR_d := hid (HR_d.out.kept hb)
    have HR_Xi := hid (HR_Xi.out.kept hb)
    have HR_Xs := hid (HR_Xs.out.kept hb)
    clear hb
    go_wp2_with fail
    refine (iSame_same _ _ X _ HR_Xi.out.sl HR_Xs.out.sl lX).mono ?_
    rintro e w15 ⟨rfl, hb⟩
    have HB := hid (bel_step HB.out hb)
    have HR_Ri := hid (HR_Ri.out.kept hb)
    have HR_Rs := hid (HR_Rs.out.kept hb)
    have HR_d := hid (HR_d.out.kept hb)
    have HR_Xi := hid (HR_Xi.out.kept hb)
    have HR_Xs := hid (HR_Xs.out.kept hb)
    clear hb
    go_wp2_with fail
    rw [← HR.out]
    first
      | exact cons_N26 u1 u2 n1 c1 n2 c2 w0 w15 HB.out _ _ _ _ _ _ _ _ _ _ _ _ _ _ _ _ _ _ _ _ _ _ _ _ _ _ _ _ _ _ _ _ _ _ _ _ _ _ _ _ _ _ _ _ _ _ _ _ _ _ _ _ _ _ _ _ _ _ _ _ _ _ _ _ _ _ _ _ _ _ _ _ _ _ _ _ _ _ _ _ _ _ _ _ _ _ _ _ _ _ _ _ _ _ _ _ _ _ _ _ _ _ _ _ _ _ _ _ _ _ _ _ _ _ _ _ _ _ _ _ _ _ _ _ _ _ _ _ _ _ _ _ _ _ _ _ _ _ _ _ _ _ _ _ _ _ _ _ _ _ _ _ _ _ _ _ _ _ _ _ _ _ _ _ _ _ _ _ _ _ _ _ _ _ _ _ _ _ _ _ _ _ _ _ _ _ _ _ _ _ _ _ _ _ _ _ _ _ _ _ _ _ _ _ _ _ _ _ _ _ _ _ _ _ _ _ _ _ _ _ _ _ _ _ _ _ _ _ _ _ _ _ _ _ _ _ _ _ _ _ _ _ _ _ _ _ _ _ _ _ _ _ _ _ _ _ _ _ _ _ _ _ _ _ _ _ _ _ _ _ _ _ _ _ _ _ _ _ _ _ _ _ _ _ _ _ _ _ _ _ _ _ _ _ _ _ _ _ _ _ _ _ _ _ _ _ _ _ _ _ _ _ _ _ _ _ _ _ _ _ _ _ _ _ _ _ _ _ _ _ _ _ _ _ _ _ _ _ _ _ _ _ _ _ _ _ _ _ _ _ _ _ _ _ _ _ _ _ _ _ _ _ _ _ _ _ _ _ _ _ _ _ _ _ _ _ _ _ _ _ _ _ _
      | (obtain ⟨hbp, hk1, hk2⟩ := mv_t Hmv.out.symm
         have hX2 := mv_yes HX.out Hmv.out.symm
         have sd := HR_d.out.sl
         have sx := HR_Xi.out.sl
         rw [hX2] at sx
         obtain ⟨kn, rfl⟩ : ∃ kn : Nat, k = kn := ⟨k.toNat, by omega⟩
         rcases sd with ⟨h0, _⟩ | ⟨gb, off, nd, cap, rfl, hnd, _, hcap, hlt, hcell⟩
         · exfalso; subst h0; simp at hk2; omega
         · obtain ⟨a_s, ns, c_s, rfl, hns, rds⟩ := sx.rd
           rw [wnL, tab_len] at hns
           exact cons_S26 u1 u2 n1 c1 n2 c2 w0 w15 HB.out ds gb off nd cap kn ns a_s c_s (by omega) (by omega) (by rw [hnd]; exact hbp.1) hcap (by omega) (hid hnd) (hid hbp) hlt (hid hcell) (hid rds) _ _ _ _ _ _ _ _ _ _ _ _ _ _ _ _ _ _ _ _ _ _ _ _ _ _ _ _ _ _ _ _ _ _ _ _ _ _ _ _ _ _ _ _ _ _ _ _ _ _ _ _ _ _ _ _ _ _ _ _ _ _ _ _ _ _ _ _ _ _ _ _ _ _ _ _ _ _ _ _ _ _ _ _ _ _ _ _ _ _ _ _ _ _ _ _ _ _ _ _ _ _ _ _ _ _ _ _ _ _ _ _ _ _ _ _ _ _ _ _ _ _ _ _ _ _ _ _ _ _ _ _ _ _ _ _ _ _ _ _ _ _ _ _ _ _ _ _ _ _ _ _ _ _ _ _ _ _ _ _ _ _ _ _ _ _ _ _ _ _ _ _ _ _ _ _ _ _ _ _ _ _ _ _ _ _ _ _ _ _ _ _ _ _ _ _ _ _ _ _ _ _ _ _ _ _ _ _ _ _ _ _ _ _ _ _ _ _ _ _ _ _ _ _ _ _ _ _ _ _ _ _ _ _ _ _ _ _ _ _ _ _ _ _ _ _ _ _ _ _ _ _ _ _ _ _ _ _ _ _ _ _ _ _ _ _ _ _ _ _ _ _ _ _ _ _ _ _ _ _ _ _ _ _ _ _ _ _ _ _ _ _ _ _ _ _ _ _ _ _ _ _ _ _ _ _ _ _ _ _ _ _ _ _ _ _ _ _ _ _ _ _ _ _ _ _ _ _ _ _ _ _ _ _ _ _ _ _ _ _ _ _ _ _ _ _ _ _ _ _ _ _ _ _ _ _ _ _ _ _ _ _ _ _ _ _ _ _ _ _ _ _ _ _ _ _ _ _ _ _)


set_option maxRecDepth 20000 in
set_option maxHeartbeats 8000000 in
theorem cons_L11 (u1 u2 : Option Addr) (n1 c1 n2 c2 : Nat) (w0 w : World) (hB : Below w0.heap.size w0 w) (hby : By w.heap.size w u2 n2) (hl2 : n2 ≤ 1048576) (m A : Int) (bs : List Int) (k n : Nat) (a_l a_a : Option Addr) (c_l c_a : Nat) (hk : k ≤ 3000) (Hn : Hid (n = bs.length)) (Hbl : Hid (bs.length ≤ 203)) (Hall : Hid (∀ i : Nat, i < k → nuB m (A + (i : Int)) = true ∧ moBL m (List.replicate bs.length (A + (i : Int))) = bs)) (Hl2 : Hid (0 < k → bs.length ≤ 200)) (HSl : Hid (Sl w (.slice a_l n c_l) bs)) (Rd_a : Hid (Rd w a_a (tab k (fun i => A + (i : Int))))) (x2 x3 x4 x5 x6 x7 x8 x9 x10 x11 x12 x13 x14 x15 x16 x17 x18 x22 x23 x24 x25 x26 x27 x28 x29 x30 x31 x32 x33 x34 x35 x36 x37 x38 x39 x40 x41 x42 x43 x44 x45 x46 x47 x48 x49 x50 x51 x52 x53 x54 x55 x56 x57 x58 x59 x60 x61 x62 x63 x64 x65 x66 x67 x68 x69 x70 x71 x72 x73 x74 x75 x76 x77 x78 x79 x80 x81 x82 x83 x84 x85 x86 x87 x88 x89 x90 x91 x92 x93 x94 x95 x96 x97 x98 x99 x100 x101 x102 x103 x104 x105 x106 x107 x108 x109 x110 x111 x112 x113 x114 x115 x116 x117 x118 x119 x120 x121 x122 x123 x124 x125 x126 x127 x128 x129 x130 x131 x132 x133 x134 x135 x136 x137 x138 x139 x140 x141 x142 x143 x144 x145 x146 x147 x148 x149 x150 x151 x152 x153 x154 x155 x156 x157 x158 x159 x160 x161 x162 x163 x164 x165 x166 x167 x168 x169 x170 x171 x172 x173 x174 x175 x176 x177 x178 x179 x180 x181 x182 x183 x184 x185 x186 x187 x188 x189 x190 x191 x192 x193 x194 x195 x196 x197 x198 x199 x200 x201 x202 x203 x204 x205 x206 x207 x208 x209 x210 x211 x212 x213 x214 x215 x216 x217 x218 x219 x220 x221 x222 x223 x224 x225 x226 x227 x228 x229 x230 x231 x232 x233 x234 x235 x236 x237 x238 x239 x240 x241 x242 x243 x244 x245 x246 x247 x248 x249 x250 x251 x252 x253 x254 x255 x256 x257 x258 x259 x260 x261 x262 x263 x264 x265 x266 x267 x268 x269 x270 x271 x272 x273 x274 x275 x276 x277 x278 x279 x280 x281 x282 x283 x284 x285 x286 x287 x288 x289 x290 x291 x292 x293 x294 x295 x296 x297 x298 x299 x300 x301 x302 x303 x304 x305 x306 x307 x308 x309 x310 x311 x312 x313 x314 x315 x316 x317 x318 x319 x320 x321 x322 x323 x324 x325 x326 x327 x328 x329 x330 x331 x332 x333 x334 x335 x336 x337 x338 x339 x340 x341 x342 x343 x344 x345 x346 x347 x348 x349 x350 x351 x352 x353 x354 x355 x356 x357 x358 x359 x360 x361 x362 x363 x364 x365 x366 x367 x368 x369 x370 x371 x372 x373 x374 x375 x376 x377 x378 x379 x380 x381 x382 x383 x384 x385 : Value) :
    Code.wp Try.prog (cRest 11 (bodyOf Try.f4)) (qS w0) { tmps := List.toArray ((.slice u1 n1 c1) :: (.slice u2 n2 c2) :: x2 :: x3 :: x4 :: x5 :: x6 :: x7 :: x8 :: x9 :: x10 :: x11 :: x12 :: x13 :: x14 :: x15 :: x16 :: x17 :: x18 :: (.int .i64 m) :: (.slice a_l n c_l) :: (.slice a_a k c_a) :: x22 :: x23 :: x24 :: x25 :: x26 :: x27 :: x28 :: x29 :: x30 :: x31 :: x32 :: x33 :: x34 :: x35 :: x36 :: x37 :: x38 :: x39 :: x40 :: x41 :: x42 :: x43 :: x44 :: x45 :: x46 :: x47 :: x48 :: x49 :: x50 :: x51 :: x52 :: x53 :: x54 :: x55 :: x56 :: x57 :: x58 :: x59 :: x60 :: x61 :: x62 :: x63 :: x64 :: x65 :: x66 :: x67 :: x68 :: x69 :: x70 :: x71 :: x72 :: x73 :: x74 :: x75 :: x76 :: x77 :: x78 :: x79 :: x80 :: x81 :: x82 :: x83 :: x84 :: x85 :: x86 :: x87 :: x88 :: x89 :: x90 :: x91 :: x92 :: x93 :: x94 :: x95 :: x96 :: x97 :: x98 :: x99 :: x100 :: x101 :: x102 :: x103 :: x104 :: x105 :: x106 :: x107 :: x108 :: x109 :: x110 :: x111 :: x112 :: x113 :: x114 :: x115 :: x116 :: x117 :: x118 :: x119 :: x120 :: x121 :: x122 :: x123 :: x124 :: x125 :: x126 :: x127 :: x128 :: x129 :: x130 :: x131 :: x132 :: x133 :: x134 :: x135 :: x136 :: x137 :: x138 :: x139 :: x140 :: x141 :: x142 :: x143 :: x144 :: x145 :: x146 :: x147 :: x148 :: x149 :: x150 :: x151 :: x152 :: x153 :: x154 :: x155 :: x156 :: x157 :: x158 :: x159 :: x160 :: x161 :: x162 :: x163 :: x164 :: x165 :: x166 :: x167 :: x168 :: x169 :: x170 :: x171 :: x172 :: x173 :: x174 :: x175 :: x176 :: x177 :: x178 :: x179 :: x180 :: x181 :: x182 :: x183 :: x184 :: x185 :: x186 :: x187 :: x188 :: x189 :: x190 :: x191 :: x192 :: x193 :: x194 :: x195 :: x196 :: x197 :: x198 :: x199 :: x200 :: x201 :: x202 :: x203 :: x204 :: x205 :: x206 :: x207 :: x208 :: x209 :: x210 :: x211 :: x212 :: x213 :: x214 :: x215 :: x216 :: x217 :: x218 :: x219 :: x220 :: x221 :: x222 :: x223 :: x224 :: x225 :: x226 :: x227 :: x228 :: x229 :: x230 :: x231 :: x232 :: x233 :: x234 :: x235 :: x236 :: x237 :: x238 :: x239 :: x240 :: x241 :: x242 :: x243 :: x244 :: x245 :: x246 :: x247 :: x248 :: x249 :: x250 :: x251 :: x252 :: x253 :: x254 :: x255 :: x256 :: x257 :: x258 :: x259 :: x260 :: x261 :: x262 :: x263 :: x264 :: x265 :: x266 :: x267 :: x268 :: x269 :: x270 :: x271 :: x272 :: x273 :: x274 :: x275 :: x276 :: x277 :: x278 :: x279 :: x280 :: x281 :: x282 :: x283 :: x284 :: x285 :: x286 :: x287 :: x288 :: x289 :: x290 :: x291 :: x292 :: x293 :: x294 :: x295 :: x296 :: x297 :: x298 :: x299 :: x300 :: x301 :: x302 :: x303 :: x304 :: x305 :: x306 :: x307 :: x308 :: x309 :: x310 :: x311 :: x312 :: x313 :: x314 :: x315 :: x316 :: x317 :: x318 :: x319 :: x320 :: x321 :: x322 :: x323 :: x324 :: x325 :: x326 :: x327 :: x328 :: x329 :: x330 :: x331 :: x332 :: x333 :: x334 :: x335 :: x336 :: x337 :: x338 :: x339 :: x340 :: x341 :: x342 :: x343 :: x344 :: x345 :: x346 :: x347 :: x348 :: x349 :: x350 :: x351 :: x352 :: x353 :: x354 :: x355 :: x356 :: x357 :: x358 :: x359 :: x360 :: x361 :: x362 :: x363 :: x364 :: x365 :: x366 :: x367 :: x368 :: x369 :: x370 :: x371 :: x372 :: x373 :: x374 :: x375 :: x376 :: x377 :: x378 :: x379 :: x380 :: x381 :: x382 :: x383 :: x384 :: x385 :: []), defers := [] } w := by
  rw [show cRest 11 (bodyOf Try.f4) = .seq (cHead 11 (bodyOf Try.f4)) (cRest 12 (bodyOf Try.f4)) from by kernel_rfl]
  generalize hR : cRest 12 (bodyOf Try.f4) = R
  have HR := hid hR
  clear hR
  simp only [bodyOf, Try.f4, Option.getD_some, cHead]
  have HB := hid hB
  have HBY := hid hby
  clear hB hby
  go_wp2_with fail
  go_loopw [201] (fun i wr => ∃ c : Nat, c ≤ k ∧ i = .int .i64 c ∧ Below w.heap.size w wr)
    (fun i _ => k - (intOf i).toNat)
  case atStart => exact ⟨0, by omega, rfl, Below.refl _ _⟩
  case round =>
    obtain ⟨c, hc, rfl, hb⟩ := hrel
    by_cases hlc : c < k
    · have hall := Hall.out c hlc
      have hnu := nuB_t hall.1
      have hkx : (tab k (fun i => A + (i : Int)))[c]? = some (A + (c : Int)) := tab_get _ _ _ hlc
      obtain ⟨b7, o7, ix7, hb7, ce7⟩ := (Rd_a.out.kept hb).at (P := Try.prog) (T := 24) k c_a uslice sone hkx hlc
      have KC := fun (W : World) => impl_ConstantBits_any m (A + (c : Int)) (n : Int) W
      have hcb : cbkB m (A + (c : Int)) (n : Int) = true := cbk_g hall.1 (decide_eq_true (by have := Hl2.out (by omega); rw [Hn.out]; omega))
      rw [hcb, show ((n : Int)).toNat = bs.length from by rw [Hn.out]; omega, hall.2, show onB true bs [] = bs from rfl] at KC
      have KC := hid KC
      have ly : -1000 ≤ A + (c : Int) ∧ A + (c : Int) ≤ 1000 := by omega
      obtain ⟨ly1, ly2⟩ := ly
      obtain ⟨Y, hY⟩ : ∃ Y, Y = A + (c : Int) := ⟨_, rfl⟩
      rw [← hY] at ce7 ly1 ly2 KC
      have HHb := hid hb
      clear hall hnu hkx hcb hb
      by_cases hc0 : c = 0
      · have d0 : decide (0 < c) = false := decide_eq_false (by omega)
        have d1 : c ≤ 0 := by omega
        have HYe := hid hY
        clear hc0 hY
        go_wp2_with fail
        refine (KC.out _).mono ?_
        rintro e w5 ⟨v_o, rfl, r_o, hb5⟩
        have hbb := HHb.out.trans (hb5.mono HHb.out.size)
        have HSl := hid (HSl.out.kept hbb)
        have Rd5 := hid (Rd_a.out.kept hbb)
        have Hbb := hid hbb
        have HRo := hid r_o
        clear hb5 hbb r_o KC
        go_wp2_with fail
        refine (iSame_same _ _ bs _ HRo.out.sl HSl.out (by have := Hbl.out; omega)).mono ?_
        rintro e w6 ⟨rfl, hb6⟩
        have HHc := hid (Hbb.out.trans (hb6.mono Hbb.out.size))
        go_wp2_with fail
        go_roundw
        case rel => exact ⟨c + 1, by omega, by go_num, HHc.out⟩
        case measure => simp [intOf]; omega
      · have d0 : decide (0 < c) = true := decide_eq_true (by omega)
        have d1 : 0 < c := by omega
        obtain ⟨j, hj⟩ : ∃ j : Nat, c = j + 1 := ⟨c - 1, by omega⟩
        have hlj : j < k := by omega
        have hkz : (tab k (fun i => A + (i : Int)))[j]? = some (A + (j : Int)) := tab_get _ _ _ hlj
        have hz : A + (j : Int) = Y - 1 := by rw [hY]; omega
        rw [hz] at hkz
        have i1 : IntKind.i64.wrap ((c : Int) - 1) = (j : Int) := by rw [show (c : Int) - 1 = (j : Int) from by omega]; exact IntWalk.i64_in _ (by omega)
        have i2 : wrap64 ((c : Int) - 1) = (j : Int) := by rw [show (c : Int) - 1 = (j : Int) from by omega]; exact IntWalk.wrap64_in _ (by omega)
        have Hkz := hid hkz
        clear hc0 hY hj hz hkz
        go_wp2_with fail
        refine (KC.out _).mono ?_
        rintro e w5 ⟨v_o, rfl, r_o, hb5⟩
        have hbb := HHb.out.trans (hb5.mono HHb.out.size)
        have HSl := hid (HSl.out.kept hbb)
        have Rd5 := hid (Rd_a.out.kept hbb)
        have Hbb := hid hbb
        have HRo := hid r_o
        clear hb5 hbb r_o KC
        go_wp2_with fail
        refine (iSame_same _ _ bs _ HRo.out.sl HSl.out (by have := Hbl.out; omega)).mono ?_
        rintro e w6 ⟨rfl, hb6⟩
        have HHc := hid (Hbb.out.trans (hb6.mono Hbb.out.size))
        obtain ⟨b8, o8, ix8, hb8, ce8⟩ := (Rd_a.out.kept HHc.out).at (P := Try.prog) (T := 24) k c_a uslice sone Hkz.out hlj
        clear hb6
        go_wp2_with fail
        go_roundw
        case rel => exact ⟨c + 1, by omega, by go_num, HHc.out⟩
        case measure => simp [intOf]; omega
    · have hge : (k : Int) ≤ (c : Int) := by omega
      have HHb := hid (bel_step HB.out hb)
      have HBY := hid (By.later HBY.out hb)
      clear hlc hb
      go_wp2_with fail
      rw [← HR.out]
      exact cons_M u1 u2 n1 c1 n2 c2 w0 wr HHb.out HBY.out hl2 _ _ _ _ _ _ _ _ _ _ _ _ _ _ _ _ _ _ _ _ _ _ _ _ _ _ _ _ _ _ _ _ _ _ _ _ _ _ _ _ _ _ _ _ _ _ _ _ _ _ _ _ _ _ _ _ _ _ _ _ _ _ _ _ _ _ _ _ _ _ _ _ _ _ _ _ _ _ _ _ _ _ _ _ _ _ _ _ _ _ _ _ _ _ _ _ _ _ _ _ _ _ _ _ _ _ _ _ _ _ _ _ _ _ _ _ _ _ _ _ _ _ _ _ _ _ _ _ _ _ _ _ _ _ _ _ _ _ _ _ _ _ _ _ _ _ _ _ _ _ _ _ _ _ _ _ _ _ _ _ _ _ _ _ _ _ _ _ _ _ _ _ _ _ _ _ _ _ _ _ _ _ _ _ _ _ _ _ _ _ _ _ _ _ _ _ _ _ _ _ _ _ _ _ _ _ _ _ _ _ _ _ _ _ _ _ _ _ _ _ _ _ _ _ _ _ _ _ _ _ _ _ _ _ _ _ _ _ _ _ _ _ _ _ _ _ _ _ _ _ _ _ _ _ _ _ _ _ _ _ _ _ _ _ _ _ _ _ _ _ _ _ _ _ _ _ _ _ _ _ _ _ _ _ _ _ _ _ _ _ _ _ _ _ _ _ _ _ _ _ _ _ _ _ _ _ _ _ _ _ _ _ _ _ _ _ _ _ _ _ _ _ _ _ _ _ _ _ _ _ _ _ _ _ _ _ _ _ _ _ _ _ _ _ _ _ _ _ _ _ _ _ _ _ _ _ _ _ _ _ _ _ _ _ _ _ _ _ _ _ _ _ _ _ _ _ _ _ _ _ _ _ _ _


set_option maxRecDepth 20000 in
set_option maxHeartbeats 8000000 in
theorem cons_D (u1 u2 : Option Addr) (n1 c1 n2 c2 : Nat) (w0 w : World) (hB : Below w0.heap.size w0 w) (hby : By w.heap.size w u2 n2) (hl2 : n2 ≤ 1048576) (x2 x3 x4 x5 x6 x7 x8 x9 x10 x11 x12 x13 x14 x15 x16 x17 x18 x19 x20 x21 x22 x23 x24 x25 x26 x27 x28 x29 x30 x31 x32 x33 x34 x35 x36 x37 x38 x39 x40 x41 x42 x43 x44 x45 x46 x47 x48 x49 x50 x51 x52 x53 x54 x55 x56 x57 x58 x59 x60 x61 x62 x63 x64 x65 x66 x67 x68 x69 x70 x71 x72 x73 x74 x75 x76 x77 x78 x79 x80 x81 x82 x83 x84 x85 x86 x87 x88 x89 x90 x91 x92 x93 x94 x95 x96 x97 x98 x99 x100 x101 x102 x103 x104 x105 x106 x107 x108 x109 x110 x111 x112 x113 x114 x115 x116 x117 x118 x119 x120 x121 x122 x123 x124 x125 x126 x127 x128 x129 x130 x131 x132 x133 x134 x135 x136 x137 x138 x139 x140 x141 x142 x143 x144 x145 x146 x147 x148 x149 x150 x151 x152 x153 x154 x155 x156 x157 x158 x159 x160 x161 x162 x163 x164 x165 x166 x167 x168 x169 x170 x171 x172 x173 x174 x175 x176 x177 x178 x179 x180 x181 x182 x183 x184 x185 x186 x187 x188 x189 x190 x191 x192 x193 x194 x195 x196 x197 x198 x199 x200 x201 x202 x203 x204 x205 x206 x207 x208 x209 x210 x211 x212 x213 x214 x215 x216 x217 x218 x219 x220 x221 x222 x223 x224 x225 x226 x227 x228 x229 x230 x231 x232 x233 x234 x235 x236 x237 x238 x239 x240 x241 x242 x243 x244 x245 x246 x247 x248 x249 x250 x251 x252 x253 x254 x255 x256 x257 x258 x259 x260 x261 x262 x263 x264 x265 x266 x267 x268 x269 x270 x271 x272 x273 x274 x275 x276 x277 x278 x279 x280 x281 x282 x283 x284 x285 x286 x287 x288 x289 x290 x291 x292 x293 x294 x295 x296 x297 x298 x299 x300 x301 x302 x303 x304 x305 x306 x307 x308 x309 x310 x311 x312 x313 x314 x315 x316 x317 x318 x319 x320 x321 x322 x323 x324 x325 x326 x327 x328 x329 x330 x331 x332 x333 x334 x335 x336 x337 x338 x339 x340 x341 x342 x343 x344 x345 x346 x347 x348 x349 x350 x351 x352 x353 x354 x355 x356 x357 x358 x359 x360 x361 x362 x363 x364 x365 x366 x367 x368 x369 x370 x371 x372 x373 x374 x375 x376 x377 x378 x379 x380 x381 x382 x383 x384 x385 : Value) :
    Code.wp Try.prog (cRest 7 (bodyOf Try.f4)) (qS w0) { tmps := List.toArray ((.slice u1 n1 c1) :: (.slice u2 n2 c2) :: x2 :: x3 :: x4 :: x5 :: x6 :: x7 :: x8 :: x9 :: x10 :: x11 :: x12 :: x13 :: x14 :: x15 :: x16 :: x17 :: x18 :: x19 :: x20 :: x21 :: x22 :: x23 :: x24 :: x25 :: x26 :: x27 :: x28 :: x29 :: x30 :: x31 :: x32 :: x33 :: x34 :: x35 :: x36 :: x37 :: x38 :: x39 :: x40 :: x41 :: x42 :: x43 :: x44 :: x45 :: x46 :: x47 :: x48 :: x49 :: x50 :: x51 :: x52 :: x53 :: x54 :: x55 :: x56 :: x57 :: x58 :: x59 :: x60 :: x61 :: x62 :: x63 :: x64 :: x65 :: x66 :: x67 :: x68 :: x69 :: x70 :: x71 :: x72 :: x73 :: x74 :: x75 :: x76 :: x77 :: x78 :: x79 :: x80 :: x81 :: x82 :: x83 :: x84 :: x85 :: x86 :: x87 :: x88 :: x89 :: x90 :: x91 :: x92 :: x93 :: x94 :: x95 :: x96 :: x97 :: x98 :: x99 :: x100 :: x101 :: x102 :: x103 :: x104 :: x105 :: x106 :: x107 :: x108 :: x109 :: x110 :: x111 :: x112 :: x113 :: x114 :: x115 :: x116 :: x117 :: x118 :: x119 :: x120 :: x121 :: x122 :: x123 :: x124 :: x125 :: x126 :: x127 :: x128 :: x129 :: x130 :: x131 :: x132 :: x133 :: x134 :: x135 :: x136 :: x137 :: x138 :: x139 :: x140 :: x141 :: x142 :: x143 :: x144 :: x145 :: x146 :: x147 :: x148 :: x149 :: x150 :: x151 :: x152 :: x153 :: x154 :: x155 :: x156 :: x157 :: x158 :: x159 :: x160 :: x161 :: x162 :: x163 :: x164 :: x165 :: x166 :: x167 :: x168 :: x169 :: x170 :: x171 :: x172 :: x173 :: x174 :: x175 :: x176 :: x177 :: x178 :: x179 :: x180 :: x181 :: x182 :: x183 :: x184 :: x185 :: x186 :: x187 :: x188 :: x189 :: x190 :: x191 :: x192 :: x193 :: x194 :: x195 :: x196 :: x197 :: x198 :: x199 :: x200 :: x201 :: x202 :: x203 :: x204 :: x205 :: x206 :: x207 :: x208 :: x209 :: x210 :: x211 :: x212 :: x213 :: x214 :: x215 :: x216 :: x217 :: x218 :: x219 :: x220 :: x221 :: x222 :: x223 :: x224 :: x225 :: x226 :: x227 :: x228 :: x229 :: x230 :: x231 :: x232 :: x233 :: x234 :: x235 :: x236 :: x237 :: x238 :: x239 :: x240 :: x241 :: x242 :: x243 :: x244 :: x245 :: x246 :: x247 :: x248 :: x249 :: x250 :: x251 :: x252 :: x253 :: x254 :: x255 :: x256 :: x257 :: x258 :: x259 :: x260 :: x261 :: x262 :: x263 :: x264 :: x265 :: x266 :: x267 :: x268 :: x269 :: x270 :: x271 :: x272 :: x273 :: x274 :: x275 :: x276 :: x277 :: x278 :: x279 :: x280 :: x281 :: x282 :: x283 :: x284 :: x285 :: x286 :: x287 :: x288 :: x289 :: x290 :: x291 :: x292 :: x293 :: x294 :: x295 :: x296 :: x297 :: x298 :: x299 :: x300 :: x301 :: x302 :: x303 :: x304 :: x305 :: x306 :: x307 :: x308 :: x309 :: x310 :: x311 :: x312 :: x313 :: x314 :: x315 :: x316 :: x317 :: x318 :: x319 :: x320 :: x321 :: x322 :: x323 :: x324 :: x325 :: x326 :: x327 :: x328 :: x329 :: x330 :: x331 :: x332 :: x333 :: x334 :: x335 :: x336 :: x337 :: x338 :: x339 :: x340 :: x341 :: x342 :: x343 :: x344 :: x345 :: x346 :: x347 :: x348 :: x349 :: x350 :: x351 :: x352 :: x353 :: x354 :: x355 :: x356 :: x357 :: x358 :: x359 :: x360 :: x361 :: x362 :: x363 :: x364 :: x365 :: x366 :: x367 :: x368 :: x369 :: x370 :: x371 :: x372 :: x373 :: x374 :: x375 :: x376 :: x377 :: x378 :: x379 :: x380 :: x381 :: x382 :: x383 :: x384 :: x385 :: []), defers := [] } w := by
  rw [show cRest 7 (bodyOf Try.f4) = .seq (cHead 7 (bodyOf Try.f4)) (.seq (cHead 8 (bodyOf Try.f4)) (.seq (cHead 9 (bodyOf Try.f4)) (.seq (cHead 10 (bodyOf Try.f4)) (cRest 11 (bodyOf Try.f4))))) from by kernel_rfl]
  generalize hR : cRest 11 (bodyOf Try.f4) = R
  have HR := hid hR
  clear hR
  simp only [bodyOf, Try.f4, Option.getD_some, cHead]
  have HB := hid hB
  have HBY := hid hby
  clear hB hby
  go_wp2_with fail
  refine (DrawConstantsOf_any u2 n2 c2 _ HBY.out hl2).mono ?_
  rintro e w1 ⟨⟨m, v_l, bs, rfl, r_l, hll, m1, m2⟩, hb⟩
  obtain ⟨a_l, n, c_l, rfl, hn, -⟩ := id r_l.sl.rd
  have HB := hid (bel_step HB.out hb)
  have HBY := hid (By.later HBY.out hb)
  have HR_l := hid r_l
  have Hn := hid hn
  clear hb r_l hn
  obtain ⟨q, hq⟩ : ∃ z, z = coB m bs := ⟨_, rfl⟩
  obtain ⟨X, hX⟩ : ∃ z, z = coL m bs := ⟨_, rfl⟩
  have lX : X.length ≤ 2000000 := by rw [hX]; exact coL_len m bs
  have Ki := fun (W : World) (v : Value) (h : Sl W v bs) => impl_ConstantsOf_is m v bs W h
  rw [← hq, ← hX] at Ki
  have Ki := hid Ki
  have Ks := fun (W : World) (v : Value) (h : Sl W v bs) => spec_ConstantsOf_is m v bs W h
  rw [← hq, ← hX] at Ks
  have Ks := hid Ks
  have Hq := hid hq
  clear hq
  have HX := hid hX
  clear hX
  go_wp2_with fail
  refine (Ki.out _ _ HR_l.out.sl).mono ?_
  rintro e w2 ⟨v_Xi, rfl, r_Xi, hb⟩
  have HB := hid (bel_step HB.out hb)
  have HBY := hid (By.later HBY.out hb)
  have HR_l := hid (HR_l.out.kept hb)
  have HR_Xi := hid r_Xi
  clear hb r_Xi
  go_wp2_with fail
  refine (Ks.out _ _ HR_l.out.sl).mono ?_
  rintro e w3 ⟨v_Xs, rfl, r_Xs, hb⟩
  have HB := hid (bel_step HB.out hb)
  have HBY := hid (By.later HBY.out hb)
  have HR_l := hid (HR_l.out.kept hb)
  have HR_Xi := hid (HR_Xi.out.kept hb)
  have HR_Xs := hid r_Xs
  clear hb r_Xs
  clear Ki Ks
  obtain ⟨A, k, hrow, hk9, hfac, hfl⟩ := co_all HX.out
  have Hrow := hid hrow
  have Hfac := hid hfac
  have Hfl := hid hfl
  clear hrow hfac hfl
  cases q
  all_goals
    go_wp2_with fail
    refine (iSame_same _ _ X _ HR_Xi.out.sl HR_Xs.out.sl lX).mono ?_
    rintro e w4 ⟨rfl, hb⟩
    have HB := hid (bel_step HB.out hb)
    have HBY := hid (By.later HBY.out hb)
    have HR_l := hid (HR_l.out.kept hb)
    have HR_Xi := hid (HR_Xi.out.kept hb)
    have HR_Xs := hid (HR_Xs.out.kept hb)
    clear hb
    go_wp2_with fail
    rw [← HR.out]
    have sX := HR_Xi.out.sl
    rw [Hrow.out] at sX
    obtain ⟨a_a, na, c_a, rfl, hna, rda⟩ := sX.rd
    rw [tab_len] at hna
    subst hna
    exact cons_L11 u1 u2 n1 c1 n2 c2 w0 w4 HB.out HBY.out hl2 m A bs na n a_l a_a c_l c_a hk9 Hn (hid (by omega)) Hfac Hfl (hid HR_l.out.sl) (hid rda) _ _ _ _ _ _ _ _ _ _ _ _ _ _ _ _ _ _ _ _ _ _ _ _ _ _ _ _ _ _ _ _ _ _ _ _ _ _ _ _ _ _ _ _ _ _ _ _ _ _ _ _ _ _ _ _ _ _ _ _ _ _ _ _ _ _ _ _ _ _ _ _ _ _ _ _ _ _ _ _ _ _ _ _ _ _ _ _ _ _ _ _ _ _ _ _ _ _ _ _ _ _ _ _ _ _ _ _ _ _ _ _ _ _ _ _ _ _ _ _ _ _ _ _ _ _ _ _ _ _ _ _ _ _ _ _ _ _ _ _ _ _ _ _ _ _ _ _ _ _ _ _ _ _ _ _ _ _ _ _ _ _ _ _ _ _ _ _ _ _ _ _ _ _ _ _ _ _ _ _ _ _ _ _ _ _ _ _ _ _ _ _ _ _ _ _ _ _ _ _ _ _ _ _ _ _ _ _ _ _ _ _ _ _ _ _ _ _ _ _ _ _ _ _ _ _ _ _ _ _ _ _ _ _ _ _ _ _ _ _ _ _ _ _ _ _ _ _ _ _ _ _ _ _ _ _ _ _ _ _ _ _ _ _ _ _ _ _ _ _ _ _ _ _ _ _ _ _ _ _ _ _ _ _ _ _ _ _ _ _ _ _ _ _ _ _ _ _ _ _ _ _ _ _ _ _ _ _ _ _ _ _ _ _ _ _ _ _ _ _ _ _ _ _ _ _ _ _ _ _ _ _ _ _ _ _ _ _ _ _ _ _ _ _ _ _ _ _ _ _ _ _ _ _ _ _ _ _ _ _ _ _ _ _ _ _ _ _ _ _ _ _ _ _ _ _ _ _ _ _ _

end Go.Proofs.Ytbhlailnefappaa
