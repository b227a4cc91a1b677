
import Derived.Test.YtdedifgpbehpoaaZg
namespace Go.Proofs.Ytdedifgpbehpoaa
open Go.RowKit BitX Go.MemX Go.Ch6 Go.ShX
set_option linter.unusedVariables false


/-- all samples are in the word -/
def fitQ (P : Int) (xs : List Int) : Bool := decide (∀ x ∈ xs, -P ≤ x ∧ x ≤ P - 1)
theorem fitQ_nil (P : Int) : fitQ P [] = true := by simp [fitQ]
theorem fitQ_no {P x : Int} {xs : List Int} {k : Nat} (hx : xs[k]? = some x) (h : fitQ P (xs.take k) = false) : fitQ P (xs.take (k + 1)) = false := by
  refine decide_eq_false fun q => of_decide_eq_false h fun y hy => q y ?_
  rw [take_step xs k x hx]; exact List.mem_append_left _ hy
theorem fitQ_out {P x : Int} {xs : List Int} {k : Nat} (hx : xs[k]? = some x) (h : ¬ (-P ≤ x ∧ x ≤ P - 1)) : fitQ P (xs.take (k + 1)) = false := by
  refine decide_eq_false fun q => h (q x ?_)
  rw [take_step xs k x hx]; simp
theorem fitQ_yes {P x : Int} {xs : List Int} {k : Nat} (hx : xs[k]? = some x) (h : fitQ P (xs.take k) = true) (h2 : -P ≤ x ∧ x ≤ P - 1) : fitQ P (xs.take (k + 1)) = true := by
  refine decide_eq_true fun y hy => ?_
  rw [take_step xs k x hx] at hy
  rcases List.mem_append.1 hy with hy | hy
  · exact of_decide_eq_true h y hy
  · rw [List.mem_singleton] at hy; subst hy; exact h2
theorem pow_word {c : Nat} (h1 : 2 ≤ c) (h2 : c ≤ 16) : (2 : Int) ≤ 2 ^ (c - 1) ∧ (2 : Int) ^ (c - 1) ≤ 32768 := by
  have h3 : (2 : Nat) ^ 1 ≤ 2 ^ (c - 1) := Nat.pow_le_pow_right (by decide) (by omega)
  have h4 : (2 : Nat) ^ (c - 1) ≤ 2 ^ 15 := Nat.pow_le_pow_right (by decide) (by omega)
  have h5 : (2 : Int) ^ 1 ≤ 2 ^ (c - 1) := by exact_mod_cast h3
  have h6 : (2 : Int) ^ (c - 1) ≤ 2 ^ 15 := by exact_mod_cast h4
  omega


theorem fst_least2 {p : Nat → Bool} (h : fstO p = true) : ∃ e : Nat, fstR p = e ∧ 2 ≤ e ∧ e ≤ 40 ∧ p e = true ∧ True := by
  obtain ⟨e, e1, e2, e3, e4, _⟩ := fst_min h
  exact ⟨e, e1, e2, e3, e4, trivial⟩
theorem wc_t {s : List Int} {b x y : Int} (h : wcB s b x y = true) : SigP s ∧ (2 ≤ b ∧ b ≤ 40) ∧ (1 ≤ x ∧ x ≤ 4) ∧ (1 ≤ y ∧ y ≤ 8) := by
  unfold wcB at h
  simp only [Bool.and_eq_true] at h
  obtain ⟨⟨h1, h2⟩, h3⟩ := h
  have h5 := askB_t h2
  exact ⟨sigB_t h1, lonB_t h3, h5.1, h5.2⟩
theorem ec_sig {s : List Int} {x y : Int} {Y : List Int} (h : ecB s x y = true) (e : Y = ecL s x y) : SigP Y := by
  unfold ecB at h
  simp only [Bool.and_eq_true] at h
  rw [e]; exact sigB_t h.2


set_option maxRecDepth 20000 in
set_option maxHeartbeats 8000000 in
theorem combs_B4 (u1 u2 : Option Addr) (n1 c1 n2 c2 : Nat) (w0 w : World) (hB : Below w0.heap.size w0 w) (hby : By w.heap.size w u2 n2) (hl2 : n2 ≤ 1048576) (KK : Act → World → Prop) (HK : Hid (∀ a w, Code.wp Try.prog (cRest 9 (bodyOf Try.f3)) (qS w0) a w → KK a w)) (s W E : List Int) (b t r ns n : Nat) (b1 : 2 ≤ b) (b2 : b ≤ 40) (t1 : 1 ≤ t) (t2 : t ≤ 4) (r1 : 1 ≤ r) (r2 : r ≤ 8) (HW : Hid (W = wcL s b t r)) (HE : Hid (E = dropL r (r - 1) (caL r t s))) (HsE : Hid (SigP E)) (HG : Hid (SigP s)) (hn : n ≤ 64) (Hn : Hid (n = E.length)) (hns : ns ≤ 64) (Hns : Hid (ns = s.length)) (a_s a_w a_e : Option Addr) (c_s c_w c_e : Nat) (HSs : Hid (Sl w (.slice a_s ns c_s) s)) (HSW : Hid (Sl w (.slice a_w n c_w) W)) (HSE : Hid (Sl w (.slice a_e n c_e) E)) (x2 x3 x4 x10 x11 x12 x14 x15 x16 x17 x18 x19 x20 x21 x22 x23 x24 x25 x26 x27 x28 x29 x30 x31 x32 x33 x34 x35 x36 x37 x38 x39 x40 x41 x42 x43 x44 x45 x46 x47 x48 x49 x50 x51 x52 x53 x54 x55 x56 x57 x58 x59 x60 x61 x62 x63 x64 x65 x66 x67 x68 x69 x70 x71 x72 x73 x74 x75 x76 x77 x78 x79 x80 x81 x82 x83 x84 x85 x86 x87 x88 x89 x90 x91 x92 x93 x94 x95 x96 x97 x98 x99 x100 x101 x102 x103 x104 x105 x106 x107 x108 x109 x110 x111 x112 x113 x114 x115 x116 x117 x118 x119 x120 x121 x122 x123 x124 x125 x126 x127 x128 x129 x130 x131 x132 x133 x134 x135 x136 x137 x138 x139 x140 x141 x142 x143 x144 x145 x146 x147 x148 x149 x150 x151 x152 x153 x154 x155 x156 x157 x158 x159 x160 x161 x162 x163 x164 x165 x166 x167 x168 x169 x170 x171 x172 x173 x174 x175 x176 x177 x178 x179 x180 x181 x182 x183 x184 x185 x186 x187 x188 x189 x190 x191 x192 x193 x194 x195 x196 x197 x198 x199 x200 x201 x202 x203 x204 x205 x206 x207 x208 x209 x210 x211 x212 x213 x214 x215 x216 x217 x218 x219 x220 x221 x222 x223 x224 x225 x226 x227 x228 x229 x230 x231 x232 x233 x234 x235 x236 x237 x238 x239 x240 x241 x242 x243 x244 x245 x246 x247 x248 x249 x250 x251 x252 x253 x254 x255 x256 x257 x258 x259 x260 x261 x262 x263 x264 x265 x266 x267 x268 x269 x270 x271 x272 x273 x274 x275 x276 x277 x278 x279 x280 x281 x282 x283 x284 x285 x286 x287 x288 x289 x290 x291 x292 x293 x294 x295 x296 x297 x298 x299 x300 x301 x302 x303 x304 x305 x306 x307 x308 x309 x310 x311 x312 x313 x314 x315 x316 x317 x318 x319 x320 x321 x322 x323 x324 x325 x326 x327 x328 x329 x330 x331 x332 x333 x334 : Value) :
    Code.wp Try.prog (cRest 4 (cThen (cHead 8 (bodyOf Try.f3)))) (Exit.then KK (qS w0)) { tmps := List.toArray ((.slice u1 n1 c1) :: (.slice u2 n2 c2) :: x2 :: x3 :: x4 :: (.slice a_s ns c_s) :: (.int .i64 (b : Int)) :: (.int .i64 (t : Int)) :: (.int .i64 (r : Int)) :: (.slice a_w n c_w) :: x10 :: x11 :: x12 :: (.slice a_e n c_e) :: x14 :: x15 :: x16 :: x17 :: x18 :: x19 :: x20 :: x21 :: x22 :: x23 :: x24 :: x25 :: x26 :: x27 :: x28 :: x29 :: x30 :: x31 :: x32 :: x33 :: x34 :: x35 :: x36 :: x37 :: x38 :: x39 :: x40 :: x41 :: x42 :: x43 :: x44 :: x45 :: x46 :: x47 :: x48 :: x49 :: x50 :: x51 :: x52 :: x53 :: x54 :: x55 :: x56 :: x57 :: x58 :: x59 :: x60 :: x61 :: x62 :: x63 :: x64 :: x65 :: x66 :: x67 :: x68 :: x69 :: x70 :: x71 :: x72 :: x73 :: x74 :: x75 :: x76 :: x77 :: x78 :: x79 :: x80 :: x81 :: x82 :: x83 :: x84 :: x85 :: x86 :: x87 :: x88 :: x89 :: x90 :: x91 :: x92 :: x93 :: x94 :: x95 :: x96 :: x97 :: x98 :: x99 :: x100 :: x101 :: x102 :: x103 :: x104 :: x105 :: x106 :: x107 :: x108 :: x109 :: x110 :: x111 :: x112 :: x113 :: x114 :: x115 :: x116 :: x117 :: x118 :: x119 :: x120 :: x121 :: x122 :: x123 :: x124 :: x125 :: x126 :: x127 :: x128 :: x129 :: x130 :: x131 :: x132 :: x133 :: x134 :: x135 :: x136 :: x137 :: x138 :: x139 :: x140 :: x141 :: x142 :: x143 :: x144 :: x145 :: x146 :: x147 :: x148 :: x149 :: x150 :: x151 :: x152 :: x153 :: x154 :: x155 :: x156 :: x157 :: x158 :: x159 :: x160 :: x161 :: x162 :: x163 :: x164 :: x165 :: x166 :: x167 :: x168 :: x169 :: x170 :: x171 :: x172 :: x173 :: x174 :: x175 :: x176 :: x177 :: x178 :: x179 :: x180 :: x181 :: x182 :: x183 :: x184 :: x185 :: x186 :: x187 :: x188 :: x189 :: x190 :: x191 :: x192 :: x193 :: x194 :: x195 :: x196 :: x197 :: x198 :: x199 :: x200 :: x201 :: x202 :: x203 :: x204 :: x205 :: x206 :: x207 :: x208 :: x209 :: x210 :: x211 :: x212 :: x213 :: x214 :: x215 :: x216 :: x217 :: x218 :: x219 :: x220 :: x221 :: x222 :: x223 :: x224 :: x225 :: x226 :: x227 :: x228 :: x229 :: x230 :: x231 :: x232 :: x233 :: x234 :: x235 :: x236 :: x237 :: x238 :: x239 :: x240 :: x241 :: x242 :: x243 :: x244 :: x245 :: x246 :: x247 :: x248 :: x249 :: x250 :: x251 :: x252 :: x253 :: x254 :: x255 :: x256 :: x257 :: x258 :: x259 :: x260 :: x261 :: x262 :: x263 :: x264 :: x265 :: x266 :: x267 :: x268 :: x269 :: x270 :: x271 :: x272 :: x273 :: x274 :: x275 :: x276 :: x277 :: x278 :: x279 :: x280 :: x281 :: x282 :: x283 :: x284 :: x285 :: x286 :: x287 :: x288 :: x289 :: x290 :: x291 :: x292 :: x293 :: x294 :: x295 :: x296 :: x297 :: x298 :: x299 :: x300 :: x301 :: x302 :: x303 :: x304 :: x305 :: x306 :: x307 :: x308 :: x309 :: x310 :: x311 :: x312 :: x313 :: x314 :: x315 :: x316 :: x317 :: x318 :: x319 :: x320 :: x321 :: x322 :: x323 :: x324 :: x325 :: x326 :: x327 :: x328 :: x329 :: x330 :: x331 :: x332 :: x333 :: x334 :: []), defers := [] } w := by
  simp only [bodyOf, Try.f3, Option.getD_some, cHead, cThen, cRest]
  have HB := hid hB
  have HBY := hid hby
  clear hB hby
  obtain ⟨a', n', c', ev, hz, rd_s⟩ := HSs.out.rd
  cases ev
  have Rd_s := hid rd_s
  clear rd_s hz
  go_wp2_with fail
  go_loopw [21, 22] (fun q i wr => ∃ (c : Nat) (p : Bool), 2 ≤ c ∧ c ≤ 17 ∧ i = .int .i64 c ∧ q = .bool p ∧ Below w.heap.size w wr)
    (fun _ i _ => 17 - (intOf i).toNat)
  case atStart => exact ⟨2, true, by omega, by omega, rfl, rfl, Below.refl _ _⟩
  case round =>
    obtain ⟨c, p, h2, h17, rfl, rfl, hb⟩ := hrel
    by_cases hc : c ≤ 16
    · have hp := pow_word h2 hc
      obtain ⟨P, hP⟩ : ∃ P : Int, P = 2 ^ (c - 1) := ⟨_, rfl⟩
      rw [← hP] at hp
      obtain ⟨p1, p2⟩ := hp
      have wP : ∀ [Inhabited Unit], wrap64 (2 ^ (c - 1)) = P := fun {_} => by rw [← hP]; exact IntWalk.wrap64_in _ (by omega)
      have iP : ∀ [Inhabited Unit], IntKind.i64.wrap (2 ^ (c - 1)) = P := fun {_} => by rw [← hP]; exact IntWalk.i64_in _ (by omega)
      have s0 : ∀ [Inhabited Unit], ((c : Int) - 1).toNat = c - 1 := fun {_} => by omega
      have m0 : ∀ [Inhabited Unit], min (c - 1) 64 = c - 1 := fun {_} => by omega
      have HP := hid hP
      have HHB := hid hb
      have RS := hid (Rd_s.out.kept hb)
      clear hP hb
      go_wp2_with fail
      go_loopw [21, 179] (fun q i w2 => ∃ k : Nat, k ≤ ns ∧ i = .int .i64 k ∧ q = .bool (fitQ P (s.take k)) ∧ Below wr.heap.size wr w2)
        (fun _ i _ => ns - (intOf i).toNat)
      case atStart => exact ⟨0, by omega, rfl, by rw [List.take_zero, fitQ_nil], Below.refl _ _⟩
      case round =>
        obtain ⟨k, hk, rfl, rfl, hb⟩ := hrel
        have HHb := hid hb
        by_cases hlk : k < ns
        · obtain ⟨x, hkx⟩ := get_lt s k (by rw [← Hns.out]; exact hlk)
          obtain ⟨b7, o7, ix7, hb7, ce7⟩ := (RS.out.kept hb).at (P := Try.prog) (T := 24) ns c_s uslice sone hkx hlk
          obtain ⟨x1, x2⟩ := HG.out.2.at hkx
          have Hkx := hid hkx
          clear hkx hb
          cases hf : fitQ P (s.take k)
          · have Hq := hid (fitQ_no Hkx.out hf)
            clear hf
            go_wp2_with fail
            go_roundw
            case rel => exact ⟨k + 1, by omega, by go_num, by rw [Hq.out], HHb.out⟩
            case measure => simp [intOf]; omega
          · by_cases hlo : -P ≤ x
            · by_cases hhi : x < P
              · have Hq := hid (fitQ_yes Hkx.out hf ⟨hlo, by omega⟩)
                have dlo : decide (-P ≤ x) = true := decide_eq_true hlo
                have dhi : decide (x < P) = true := decide_eq_true hhi
                clear hf
                go_wp2_with fail
                go_roundw
                case rel => exact ⟨k + 1, by omega, by go_num, by rw [Hq.out], HHb.out⟩
                case measure => simp [intOf]; omega
              · have Hq := hid (fitQ_out (P := P) Hkx.out (by omega))
                have dlo : decide (-P ≤ x) = true := decide_eq_true hlo
                have dhi : decide (x < P) = false := decide_eq_false hhi
                clear hf hhi
                go_wp2_with fail
                go_roundw
                case rel => exact ⟨k + 1, by omega, by go_num, by rw [Hq.out], HHb.out⟩
                case measure => simp [intOf]; omega
            · have Hq := hid (fitQ_out (P := P) Hkx.out (by omega))
              have dlo : decide (-P ≤ x) = false := decide_eq_false hlo
              clear hf hlo
              go_wp2_with fail
              go_roundw
              case rel => exact ⟨k + 1, by omega, by go_num, by rw [Hq.out], HHb.out⟩
              case measure => simp [intOf]; omega
        · have hge : (ns : Int) ≤ (k : Int) := by omega
          have eT : s.take k = s := List.take_of_length_le (by rw [← Hns.out]; omega)
          rw [eT]
          have HHC := hid (HHB.out.trans (hb.mono HHB.out.size))
          clear hlk hb eT
          cases hf : fitQ P s
          · clear hf
            go_wp2_with fail
            go_roundw
            case rel => exact ⟨c + 1, false, by omega, by omega, by go_num, rfl, HHC.out⟩
            case measure => simp [intOf]; omega
          · have Hf := hid hf
            clear hf
            obtain ⟨O, hO⟩ : ∃ z, z = bcO (c : Int) (t : Int) (r : Int) := ⟨_, rfl⟩
            obtain ⟨R9, hR9⟩ : ∃ z, z = bcR (c : Int) (t : Int) (r : Int) := ⟨_, rfl⟩
            have Kb := fun (W : World) => impl_BitsForComb_any (c : Int) (t : Int) (r : Int) W
            rw [← hO, ← hR9] at Kb
            have Kb := hid Kb
            have HO := hid hO
            have HR9 := hid hR9
            clear hO hR9
            go_wp2_with fail
            refine (Kb.out _).mono ?_
            rintro e w5 ⟨rfl, hb⟩
            have hb5 := HHC.out.trans (hb.mono (HHC.out.size))
            have HB5 := hid (bel_step HB.out hb5)
            have HBY5 := hid (By.later HBY.out hb5)
            have HSW5 := hid (HSW.out.kept hb5)
            have HSE5 := hid (HSE.out.kept hb5)
            clear hb hb5 Kb
            cases O
            · go_wp2_with fail
              refine HK.out _ _ ?_
              exact combs_D u1 u2 n1 c1 n2 c2 w0 w5 HB5.out HBY5.out hl2 _ _ _ _ _ _ _ _ _ _ _ _ _ _ _ _ _ _ _ _ _ _ _ _ _ _ _ _ _ _ _ _ _ _ _ _ _ _ _ _ _ _ _ _ _ _ _ _ _ _ _ _ _ _ _ _ _ _ _ _ _ _ _ _ _ _ _ _ _ _ _ _ _ _ _ _ _ _ _ _ _ _ _ _ _ _ _ _ _ _ _ _ _ _ _ _ _ _ _ _ _ _ _ _ _ _ _ _ _ _ _ _ _ _ _ _ _ _ _ _ _ _ _ _ _ _ _ _ _ _ _ _ _ _ _ _ _ _ _ _ _ _ _ _ _ _ _ _ _ _ _ _ _ _ _ _ _ _ _ _ _ _ _ _ _ _ _ _ _ _ _ _ _ _ _ _ _ _ _ _ _ _ _ _ _ _ _ _ _ _ _ _ _ _ _ _ _ _ _ _ _ _ _ _ _ _ _ _ _ _ _ _ _ _ _ _ _ _ _ _ _ _ _ _ _ _ _ _ _ _ _ _ _ _ _ _ _ _ _ _ _ _ _ _ _ _ _ _ _ _ _ _ _ _ _ _ _ _ _ _ _ _ _ _ _ _ _ _ _ _ _ _ _ _ _ _ _ _ _ _ _ _ _ _ _ _ _ _ _ _ _ _ _ _ _ _ _ _ _ _ _ _ _ _ _ _ _ _ _ _ _ _ _ _ _ _ _ _ _ _ _ _ _ _ _ _ _ _ _ _ _ _ _
            · have ho := HO.out.symm
              unfold bcO at ho
              rw [Bool.and_eq_true] at ho
              obtain ⟨ho1, ho2⟩ := ho
              have hR := HR9.out
              unfold bcR at hR
              rw [ho1] at hR
              obtain ⟨e, he, e1, e2, e3, e4⟩ := fst_least2 ho2
              have hR2 : R9 = (e : Int) := hR.trans he
              subst hR2
              have E3 := hid e3
              clear ho1 ho2 hR he e3 e4
              by_cases heb : e ≤ b
              · have hWE : W = E := by
                  rw [HW.out, HE.out]
                  exact enough_is (n := c) (e := e) t1 t2 r1 r2 (by omega) (by rw [← HP.out]; exact of_decide_eq_true Hf.out) E3.out (by omega) heb
                have HSW6 := hid (show Sl w5 (.slice a_w n c_w) E from by rw [← hWE]; exact HSW5.out)
                have hle : (e : Int) ≤ (b : Int) := by omega
                have lE : E.length ≤ 2000000 := by rw [← Hn.out]; omega
                clear hWE heb
                go_wp2_with fail
                refine (iSame_same _ _ E _ HSW6.out HSE5.out lE).mono ?_
                rintro e w6 ⟨rfl, hb⟩
                have HB6 := hid (bel_step HB5.out hb)
                have HBY6 := hid (By.later HBY5.out hb)
                clear hb
                go_wp2_with fail
                refine HK.out _ _ ?_
                exact combs_D u1 u2 n1 c1 n2 c2 w0 w6 HB6.out HBY6.out hl2 _ _ _ _ _ _ _ _ _ _ _ _ _ _ _ _ _ _ _ _ _ _ _ _ _ _ _ _ _ _ _ _ _ _ _ _ _ _ _ _ _ _ _ _ _ _ _ _ _ _ _ _ _ _ _ _ _ _ _ _ _ _ _ _ _ _ _ _ _ _ _ _ _ _ _ _ _ _ _ _ _ _ _ _ _ _ _ _ _ _ _ _ _ _ _ _ _ _ _ _ _ _ _ _ _ _ _ _ _ _ _ _ _ _ _ _ _ _ _ _ _ _ _ _ _ _ _ _ _ _ _ _ _ _ _ _ _ _ _ _ _ _ _ _ _ _ _ _ _ _ _ _ _ _ _ _ _ _ _ _ _ _ _ _ _ _ _ _ _ _ _ _ _ _ _ _ _ _ _ _ _ _ _ _ _ _ _ _ _ _ _ _ _ _ _ _ _ _ _ _ _ _ _ _ _ _ _ _ _ _ _ _ _ _ _ _ _ _ _ _ _ _ _ _ _ _ _ _ _ _ _ _ _ _ _ _ _ _ _ _ _ _ _ _ _ _ _ _ _ _ _ _ _ _ _ _ _ _ _ _ _ _ _ _ _ _ _ _ _ _ _ _ _ _ _ _ _ _ _ _ _ _ _ _ _ _ _ _ _ _ _ _ _ _ _ _ _ _ _ _ _ _ _ _ _ _ _ _ _ _ _ _ _ _ _ _ _ _ _ _ _ _ _ _ _ _ _ _ _ _ _ _ _
              · have hle : (b : Int) < (e : Int) := by omega
                clear heb
                go_wp2_with fail
                refine HK.out _ _ ?_
                exact combs_D u1 u2 n1 c1 n2 c2 w0 w5 HB5.out HBY5.out hl2 _ _ _ _ _ _ _ _ _ _ _ _ _ _ _ _ _ _ _ _ _ _ _ _ _ _ _ _ _ _ _ _ _ _ _ _ _ _ _ _ _ _ _ _ _ _ _ _ _ _ _ _ _ _ _ _ _ _ _ _ _ _ _ _ _ _ _ _ _ _ _ _ _ _ _ _ _ _ _ _ _ _ _ _ _ _ _ _ _ _ _ _ _ _ _ _ _ _ _ _ _ _ _ _ _ _ _ _ _ _ _ _ _ _ _ _ _ _ _ _ _ _ _ _ _ _ _ _ _ _ _ _ _ _ _ _ _ _ _ _ _ _ _ _ _ _ _ _ _ _ _ _ _ _ _ _ _ _ _ _ _ _ _ _ _ _ _ _ _ _ _ _ _ _ _ _ _ _ _ _ _ _ _ _ _ _ _ _ _ _ _ _ _ _ _ _ _ _ _ _ _ _ _ _ _ _ _ _ _ _ _ _ _ _ _ _ _ _ _ _ _ _ _ _ _ _ _ _ _ _ _ _ _ _ _ _ _ _ _ _ _ _ _ _ _ _ _ _ _ _ _ _ _ _ _ _ _ _ _ _ _ _ _ _ _ _ _ _ _ _ _ _ _ _ _ _ _ _ _ _ _ _ _ _ _ _ _ _ _ _ _ _ _ _ _ _ _ _ _ _ _ _ _ _ _ _ _ _ _ _ _ _ _ _ _ _ _ _ _ _ _ _ _ _ _ _ _ _ _ _ _ _ _
    · have hge : 16 < (c : Int) := by omega
      have HB5 := hid (bel_step HB.out hb)
      have HBY5 := hid (By.later HBY.out hb)
      clear hc hb
      go_wp2_with fail
      refine HK.out _ _ ?_
      exact combs_D u1 u2 n1 c1 n2 c2 w0 wr HB5.out HBY5.out hl2 _ _ _ _ _ _ _ _ _ _ _ _ _ _ _ _ _ _ _ _ _ _ _ _ _ _ _ _ _ _ _ _ _ _ _ _ _ _ _ _ _ _ _ _ _ _ _ _ _ _ _ _ _ _ _ _ _ _ _ _ _ _ _ _ _ _ _ _ _ _ _ _ _ _ _ _ _ _ _ _ _ _ _ _ _ _ _ _ _ _ _ _ _ _ _ _ _ _ _ _ _ _ _ _ _ _ _ _ _ _ _ _ _ _ _ _ _ _ _ _ _ _ _ _ _ _ _ _ _ _ _ _ _ _ _ _ _ _ _ _ _ _ _ _ _ _ _ _ _ _ _ _ _ _ _ _ _ _ _ _ _ _ _ _ _ _ _ _ _ _ _ _ _ _ _ _ _ _ _ _ _ _ _ _ _ _ _ _ _ _ _ _ _ _ _ _ _ _ _ _ _ _ _ _ _ _ _ _ _ _ _ _ _ _ _ _ _ _ _ _ _ _ _ _ _ _ _ _ _ _ _ _ _ _ _ _ _ _ _ _ _ _ _ _ _ _ _ _ _ _ _ _ _ _ _ _ _ _ _ _ _ _ _ _ _ _ _ _ _ _ _ _ _ _ _ _ _ _ _ _ _ _ _ _ _ _ _ _ _ _ _ _ _ _ _ _ _ _ _ _ _ _ _ _ _ _ _ _ _ _ _ _ _ _ _ _ _ _ _ _ _ _ _ _ _ _ _ _ _ _ _ _ _


set_option maxRecDepth 20000 in
set_option maxHeartbeats 8000000 in
theorem combs_B2 (u1 u2 : Option Addr) (n1 c1 n2 c2 : Nat) (w0 w : World) (hB : Below w0.heap.size w0 w) (hby : By w.heap.size w u2 n2) (hl2 : n2 ≤ 1048576) (KK : Act → World → Prop) (HK : Hid (∀ a w, Code.wp Try.prog (cRest 9 (bodyOf Try.f3)) (qS w0) a w → KK a w)) (s W E : List Int) (b t r ns n : Nat) (b1 : 2 ≤ b) (b2 : b ≤ 40) (t1 : 1 ≤ t) (t2 : t ≤ 4) (r1 : 1 ≤ r) (r2 : r ≤ 8) (HW : Hid (W = wcL s b t r)) (HE : Hid (E = dropL r (r - 1) (caL r t s))) (HsE : Hid (SigP E)) (HG : Hid (SigP s)) (hn : n ≤ 64) (Hn : Hid (n = E.length)) (hns : ns ≤ 64) (Hns : Hid (ns = s.length)) (a_s a_w a_e : Option Addr) (c_s c_w c_e : Nat) (HSs : Hid (Sl w (.slice a_s ns c_s) s)) (HSW : Hid (Sl w (.slice a_w n c_w) W)) (HSE : Hid (Sl w (.slice a_e n c_e) E)) (Hec : Hid (ecB s (t : Int) (r : Int) = true)) (x2 x3 x4 x10 x11 x12 x14 x15 x16 x17 x18 x19 x20 x21 x22 x23 x24 x25 x26 x27 x28 x29 x30 x31 x32 x33 x34 x35 x36 x37 x38 x39 x40 x41 x42 x43 x44 x45 x46 x47 x48 x49 x50 x51 x52 x53 x54 x55 x56 x57 x58 x59 x60 x61 x62 x63 x64 x65 x66 x67 x68 x69 x70 x71 x72 x73 x74 x75 x76 x77 x78 x79 x80 x81 x82 x83 x84 x85 x86 x87 x88 x89 x90 x91 x92 x93 x94 x95 x96 x97 x98 x99 x100 x101 x102 x103 x104 x105 x106 x107 x108 x109 x110 x111 x112 x113 x114 x115 x116 x117 x118 x119 x120 x121 x122 x123 x124 x125 x126 x127 x128 x129 x130 x131 x132 x133 x134 x135 x136 x137 x138 x139 x140 x141 x142 x143 x144 x145 x146 x147 x148 x149 x150 x151 x152 x153 x154 x155 x156 x157 x158 x159 x160 x161 x162 x163 x164 x165 x166 x167 x168 x169 x170 x171 x172 x173 x174 x175 x176 x177 x178 x179 x180 x181 x182 x183 x184 x185 x186 x187 x188 x189 x190 x191 x192 x193 x194 x195 x196 x197 x198 x199 x200 x201 x202 x203 x204 x205 x206 x207 x208 x209 x210 x211 x212 x213 x214 x215 x216 x217 x218 x219 x220 x221 x222 x223 x224 x225 x226 x227 x228 x229 x230 x231 x232 x233 x234 x235 x236 x237 x238 x239 x240 x241 x242 x243 x244 x245 x246 x247 x248 x249 x250 x251 x252 x253 x254 x255 x256 x257 x258 x259 x260 x261 x262 x263 x264 x265 x266 x267 x268 x269 x270 x271 x272 x273 x274 x275 x276 x277 x278 x279 x280 x281 x282 x283 x284 x285 x286 x287 x288 x289 x290 x291 x292 x293 x294 x295 x296 x297 x298 x299 x300 x301 x302 x303 x304 x305 x306 x307 x308 x309 x310 x311 x312 x313 x314 x315 x316 x317 x318 x319 x320 x321 x322 x323 x324 x325 x326 x327 x328 x329 x330 x331 x332 x333 x334 : Value) :
    Code.wp Try.prog (cRest 2 (cThen (cHead 8 (bodyOf Try.f3)))) (Exit.then KK (qS w0)) { tmps := List.toArray ((.slice u1 n1 c1) :: (.slice u2 n2 c2) :: x2 :: x3 :: x4 :: (.slice a_s ns c_s) :: (.int .i64 (b : Int)) :: (.int .i64 (t : Int)) :: (.int .i64 (r : Int)) :: (.slice a_w n c_w) :: x10 :: x11 :: x12 :: (.slice a_e n c_e) :: x14 :: x15 :: x16 :: x17 :: x18 :: x19 :: x20 :: x21 :: x22 :: x23 :: x24 :: x25 :: x26 :: x27 :: x28 :: x29 :: x30 :: x31 :: x32 :: x33 :: x34 :: x35 :: x36 :: x37 :: x38 :: x39 :: x40 :: x41 :: x42 :: x43 :: x44 :: x45 :: x46 :: x47 :: x48 :: x49 :: x50 :: x51 :: x52 :: x53 :: x54 :: x55 :: x56 :: x57 :: x58 :: x59 :: x60 :: x61 :: x62 :: x63 :: x64 :: x65 :: x66 :: x67 :: x68 :: x69 :: x70 :: x71 :: x72 :: x73 :: x74 :: x75 :: x76 :: x77 :: x78 :: x79 :: x80 :: x81 :: x82 :: x83 :: x84 :: x85 :: x86 :: x87 :: x88 :: x89 :: x90 :: x91 :: x92 :: x93 :: x94 :: x95 :: x96 :: x97 :: x98 :: x99 :: x100 :: x101 :: x102 :: x103 :: x104 :: x105 :: x106 :: x107 :: x108 :: x109 :: x110 :: x111 :: x112 :: x113 :: x114 :: x115 :: x116 :: x117 :: x118 :: x119 :: x120 :: x121 :: x122 :: x123 :: x124 :: x125 :: x126 :: x127 :: x128 :: x129 :: x130 :: x131 :: x132 :: x133 :: x134 :: x135 :: x136 :: x137 :: x138 :: x139 :: x140 :: x141 :: x142 :: x143 :: x144 :: x145 :: x146 :: x147 :: x148 :: x149 :: x150 :: x151 :: x152 :: x153 :: x154 :: x155 :: x156 :: x157 :: x158 :: x159 :: x160 :: x161 :: x162 :: x163 :: x164 :: x165 :: x166 :: x167 :: x168 :: x169 :: x170 :: x171 :: x172 :: x173 :: x174 :: x175 :: x176 :: x177 :: x178 :: x179 :: x180 :: x181 :: x182 :: x183 :: x184 :: x185 :: x186 :: x187 :: x188 :: x189 :: x190 :: x191 :: x192 :: x193 :: x194 :: x195 :: x196 :: x197 :: x198 :: x199 :: x200 :: x201 :: x202 :: x203 :: x204 :: x205 :: x206 :: x207 :: x208 :: x209 :: x210 :: x211 :: x212 :: x213 :: x214 :: x215 :: x216 :: x217 :: x218 :: x219 :: x220 :: x221 :: x222 :: x223 :: x224 :: x225 :: x226 :: x227 :: x228 :: x229 :: x230 :: x231 :: x232 :: x233 :: x234 :: x235 :: x236 :: x237 :: x238 :: x239 :: x240 :: x241 :: x242 :: x243 :: x244 :: x245 :: x246 :: x247 :: x248 :: x249 :: x250 :: x251 :: x252 :: x253 :: x254 :: x255 :: x256 :: x257 :: x258 :: x259 :: x260 :: x261 :: x262 :: x263 :: x264 :: x265 :: x266 :: x267 :: x268 :: x269 :: x270 :: x271 :: x272 :: x273 :: x274 :: x275 :: x276 :: x277 :: x278 :: x279 :: x280 :: x281 :: x282 :: x283 :: x284 :: x285 :: x286 :: x287 :: x288 :: x289 :: x290 :: x291 :: x292 :: x293 :: x294 :: x295 :: x296 :: x297 :: x298 :: x299 :: x300 :: x301 :: x302 :: x303 :: x304 :: x305 :: x306 :: x307 :: x308 :: x309 :: x310 :: x311 :: x312 :: x313 :: x314 :: x315 :: x316 :: x317 :: x318 :: x319 :: x320 :: x321 :: x322 :: x323 :: x324 :: x325 :: x326 :: x327 :: x328 :: x329 :: x330 :: x331 :: x332 :: x333 :: x334 :: []), defers := [] } w := by
  rw [show cRest 2 (cThen (cHead 8 (bodyOf Try.f3))) = .seq (cHead 2 (cThen (cHead 8 (bodyOf Try.f3)))) (.seq (cHead 3 (cThen (cHead 8 (bodyOf Try.f3)))) (cRest 4 (cThen (cHead 8 (bodyOf Try.f3))))) from by kernel_rfl]
  generalize hR : cRest 4 (cThen (cHead 8 (bodyOf Try.f3))) = R
  have HR := hid hR
  clear hR
  simp only [bodyOf, Try.f3, Option.getD_some, cHead, cThen]
  have HB := hid hB
  have HBY := hid hby
  clear hB hby
  obtain ⟨e, f1, f2, f3, f4, f5, f6⟩ := lb_facts (s := s) (st := t) (r := r) t1 r1 (by rw [← HE.out]; exact HsE.out)
  have hec : ecB s (t : Int) (r : Int) = true := Hec.out
  have Kl := fun (W : World) (v : Value) (h : Sl W v s) => impl_LeastBits_any v s (t : Int) (r : Int) W h
  rw [show lbO s (t : Int) (r : Int) = true from by unfold lbO; rw [hec]; exact f2, show lbR s (t : Int) (r : Int) = (e : Int) from by unfold lbR; rw [hec]; exact f1] at Kl
  have Kl := hid Kl
  rw [← HE.out] at f5 f6
  have F5 := hid f5
  have F6 := hid f6
  clear f1 f2 f5 f6 hec
  go_wp2_with fail
  refine (Kl.out _ _ HSs.out).mono ?_
  rintro e9 w1 ⟨rfl, hb⟩
  have HB := hid (bel_step HB.out hb)
  have HBY := hid (By.later HBY.out hb)
  have HSs := hid (HSs.out.kept hb)
  have HSW := hid (HSW.out.kept hb)
  have HSE := hid (HSE.out.kept hb)
  clear hb Kl
  have lE : E.length ≤ 2000000 := by rw [← Hn.out]; omega
  have lW : W.length ≤ 2000000 := by have h := HSW.out.rd; obtain ⟨_, _, _, ev, h2, _⟩ := h; cases ev; rw [← h2]; omega
  rcases Nat.lt_trichotomy e b with h | h | h
  · have q1 : (e : Int) < (b : Int) := by omega
    have q2 : ((e : Int) == (b : Int)) = false := beq_eq_false_iff_ne.2 (by omega)
    clear h
    go_wp2_with fail
    rw [← HR.out]
    exact combs_B4 u1 u2 n1 c1 n2 c2 w0 w1 HB.out HBY.out hl2 KK HK s W E b t r ns n b1 b2 t1 t2 r1 r2 HW HE HsE HG hn Hn hns Hns a_s a_w a_e c_s c_w c_e HSs HSW HSE _ _ _ _ _ _ _ _ _ _ _ _ _ _ _ _ _ _ _ _ _ _ _ _ _ _ _ _ _ _ _ _ _ _ _ _ _ _ _ _ _ _ _ _ _ _ _ _ _ _ _ _ _ _ _ _ _ _ _ _ _ _ _ _ _ _ _ _ _ _ _ _ _ _ _ _ _ _ _ _ _ _ _ _ _ _ _ _ _ _ _ _ _ _ _ _ _ _ _ _ _ _ _ _ _ _ _ _ _ _ _ _ _ _ _ _ _ _ _ _ _ _ _ _ _ _ _ _ _ _ _ _ _ _ _ _ _ _ _ _ _ _ _ _ _ _ _ _ _ _ _ _ _ _ _ _ _ _ _ _ _ _ _ _ _ _ _ _ _ _ _ _ _ _ _ _ _ _ _ _ _ _ _ _ _ _ _ _ _ _ _ _ _ _ _ _ _ _ _ _ _ _ _ _ _ _ _ _ _ _ _ _ _ _ _ _ _ _ _ _ _ _ _ _ _ _ _ _ _ _ _ _ _ _ _ _ _ _ _ _ _ _ _ _ _ _ _ _ _ _ _ _ _ _ _ _ _ _ _ _ _ _ _ _ _ _ _ _ _ _ _ _ _ _ _ _ _ _ _ _ _ _ _ _ _ _ _ _ _ _ _ _ _ _ _ _ _ _ _ _ _ _ _ _ _ _ _ _ _ _ _ _ _ _ _ _ _ _ _ _ _ _ _ _ _ _ _
  · have h2 := h.symm
    subst h2
    have hWE : W = E := by rw [HW.out]; exact F6.out
    have HSW6 := hid (show Sl w1 (.slice a_w n c_w) E from by rw [← hWE]; exact HSW.out)
    clear hWE
    go_wp2_with fail
    refine (iSame_same _ _ E _ HSW6.out HSE.out lE).mono ?_
    rintro e9 w2 ⟨rfl, hb⟩
    have HB := hid (bel_step HB.out hb)
    have HBY := hid (By.later HBY.out hb)
    have HSs := hid (HSs.out.kept hb)
    have HSW := hid (HSW.out.kept hb)
    have HSE := hid (HSE.out.kept hb)
    clear hb HSW6
    go_wp2_with fail
    rw [← HR.out]
    exact combs_B4 u1 u2 n1 c1 n2 c2 w0 w2 HB.out HBY.out hl2 KK HK s W E b t r ns n b1 b2 t1 t2 r1 r2 HW HE HsE HG hn Hn hns Hns a_s a_w a_e c_s c_w c_e HSs HSW HSE _ _ _ _ _ _ _ _ _ _ _ _ _ _ _ _ _ _ _ _ _ _ _ _ _ _ _ _ _ _ _ _ _ _ _ _ _ _ _ _ _ _ _ _ _ _ _ _ _ _ _ _ _ _ _ _ _ _ _ _ _ _ _ _ _ _ _ _ _ _ _ _ _ _ _ _ _ _ _ _ _ _ _ _ _ _ _ _ _ _ _ _ _ _ _ _ _ _ _ _ _ _ _ _ _ _ _ _ _ _ _ _ _ _ _ _ _ _ _ _ _ _ _ _ _ _ _ _ _ _ _ _ _ _ _ _ _ _ _ _ _ _ _ _ _ _ _ _ _ _ _ _ _ _ _ _ _ _ _ _ _ _ _ _ _ _ _ _ _ _ _ _ _ _ _ _ _ _ _ _ _ _ _ _ _ _ _ _ _ _ _ _ _ _ _ _ _ _ _ _ _ _ _ _ _ _ _ _ _ _ _ _ _ _ _ _ _ _ _ _ _ _ _ _ _ _ _ _ _ _ _ _ _ _ _ _ _ _ _ _ _ _ _ _ _ _ _ _ _ _ _ _ _ _ _ _ _ _ _ _ _ _ _ _ _ _ _ _ _ _ _ _ _ _ _ _ _ _ _ _ _ _ _ _ _ _ _ _ _ _ _ _ _ _ _ _ _ _ _ _ _ _ _ _ _ _ _ _ _ _ _ _ _ _ _ _ _ _ _ _ _ _ _ _ _ _ _
  · have q1 : (b : Int) < (e : Int) := by omega
    have hWE : decide (W = E) = false := decide_eq_false (by rw [HW.out]; exact F5.out b b1 h)
    have KI := iSame_is _ _ W E w1 HSW.out HSE.out lW lE
    rw [hWE] at KI
    have KI := hid KI
    clear h hWE
    go_wp2_with fail
    refine KI.out.mono ?_
    rintro e9 w2 ⟨rfl, hb⟩
    have HB := hid (bel_step HB.out hb)
    have HBY := hid (By.later HBY.out hb)
    have HSs := hid (HSs.out.kept hb)
    have HSW := hid (HSW.out.kept hb)
    have HSE := hid (HSE.out.kept hb)
    clear hb KI
    go_wp2_with fail
    rw [← HR.out]
    exact combs_B4 u1 u2 n1 c1 n2 c2 w0 w2 HB.out HBY.out hl2 KK HK s W E b t r ns n b1 b2 t1 t2 r1 r2 HW HE HsE HG hn Hn hns Hns a_s a_w a_e c_s c_w c_e HSs HSW HSE _ _ _ _ _ _ _ _ _ _ _ _ _ _ _ _ _ _ _ _ _ _ _ _ _ _ _ _ _ _ _ _ _ _ _ _ _ _ _ _ _ _ _ _ _ _ _ _ _ _ _ _ _ _ _ _ _ _ _ _ _ _ _ _ _ _ _ _ _ _ _ _ _ _ _ _ _ _ _ _ _ _ _ _ _ _ _ _ _ _ _ _ _ _ _ _ _ _ _ _ _ _ _ _ _ _ _ _ _ _ _ _ _ _ _ _ _ _ _ _ _ _ _ _ _ _ _ _ _ _ _ _ _ _ _ _ _ _ _ _ _ _ _ _ _ _ _ _ _ _ _ _ _ _ _ _ _ _ _ _ _ _ _ _ _ _ _ _ _ _ _ _ _ _ _ _ _ _ _ _ _ _ _ _ _ _ _ _ _ _ _ _ _ _ _ _ _ _ _ _ _ _ _ _ _ _ _ _ _ _ _ _ _ _ _ _ _ _ _ _ _ _ _ _ _ _ _ _ _ _ _ _ _ _ _ _ _ _ _ _ _ _ _ _ _ _ _ _ _ _ _ _ _ _ _ _ _ _ _ _ _ _ _ _ _ _ _ _ _ _ _ _ _ _ _ _ _ _ _ _ _ _ _ _ _ _ _ _ _ _ _ _ _ _ _ _ _ _ _ _ _ _ _ _ _ _ _ _ _ _ _ _ _ _ _ _ _ _ _ _ _ _ _ _ _ _ _


set_option maxRecDepth 20000 in
set_option maxHeartbeats 8000000 in
theorem combs_B0 (u1 u2 : Option Addr) (n1 c1 n2 c2 : Nat) (w0 w : World) (hB : Below w0.heap.size w0 w) (hby : By w.heap.size w u2 n2) (hl2 : n2 ≤ 1048576) (KK : Act → World → Prop) (HK : Hid (∀ a w, Code.wp Try.prog (cRest 9 (bodyOf Try.f3)) (qS w0) a w → KK a w)) (s W E : List Int) (b t r ns n : Nat) (b1 : 2 ≤ b) (b2 : b ≤ 40) (t1 : 1 ≤ t) (t2 : t ≤ 4) (r1 : 1 ≤ r) (r2 : r ≤ 8) (HW : Hid (W = wcL s b t r)) (HE : Hid (E = dropL r (r - 1) (caL r t s))) (HsE : Hid (SigP E)) (HG : Hid (SigP s)) (hn : n ≤ 64) (Hn : Hid (n = E.length)) (hns : ns ≤ 64) (Hns : Hid (ns = s.length)) (a_s a_w a_e : Option Addr) (c_s c_w c_e : Nat) (HSs : Hid (Sl w (.slice a_s ns c_s) s)) (HSW : Hid (Sl w (.slice a_w n c_w) W)) (HSE : Hid (Sl w (.slice a_e n c_e) E)) (Hec : Hid (ecB s (t : Int) (r : Int) = true)) (x2 x3 x4 x10 x11 x12 x14 x15 x16 x17 x18 x19 x20 x21 x22 x23 x24 x25 x26 x27 x28 x29 x30 x31 x32 x33 x34 x35 x36 x37 x38 x39 x40 x41 x42 x43 x44 x45 x46 x47 x48 x49 x50 x51 x52 x53 x54 x55 x56 x57 x58 x59 x60 x61 x62 x63 x64 x65 x66 x67 x68 x69 x70 x71 x72 x73 x74 x75 x76 x77 x78 x79 x80 x81 x82 x83 x84 x85 x86 x87 x88 x89 x90 x91 x92 x93 x94 x95 x96 x97 x98 x99 x100 x101 x102 x103 x104 x105 x106 x107 x108 x109 x110 x111 x112 x113 x114 x115 x116 x117 x118 x119 x120 x121 x122 x123 x124 x125 x126 x127 x128 x129 x130 x131 x132 x133 x134 x135 x136 x137 x138 x139 x140 x141 x142 x143 x144 x145 x146 x147 x148 x149 x150 x151 x152 x153 x154 x155 x156 x157 x158 x159 x160 x161 x162 x163 x164 x165 x166 x167 x168 x169 x170 x171 x172 x173 x174 x175 x176 x177 x178 x179 x180 x181 x182 x183 x184 x185 x186 x187 x188 x189 x190 x191 x192 x193 x194 x195 x196 x197 x198 x199 x200 x201 x202 x203 x204 x205 x206 x207 x208 x209 x210 x211 x212 x213 x214 x215 x216 x217 x218 x219 x220 x221 x222 x223 x224 x225 x226 x227 x228 x229 x230 x231 x232 x233 x234 x235 x236 x237 x238 x239 x240 x241 x242 x243 x244 x245 x246 x247 x248 x249 x250 x251 x252 x253 x254 x255 x256 x257 x258 x259 x260 x261 x262 x263 x264 x265 x266 x267 x268 x269 x270 x271 x272 x273 x274 x275 x276 x277 x278 x279 x280 x281 x282 x283 x284 x285 x286 x287 x288 x289 x290 x291 x292 x293 x294 x295 x296 x297 x298 x299 x300 x301 x302 x303 x304 x305 x306 x307 x308 x309 x310 x311 x312 x313 x314 x315 x316 x317 x318 x319 x320 x321 x322 x323 x324 x325 x326 x327 x328 x329 x330 x331 x332 x333 x334 : Value) :
    Code.wp Try.prog ((cThen (cHead 8 (bodyOf Try.f3)))) (Exit.then KK (qS w0)) { tmps := List.toArray ((.slice u1 n1 c1) :: (.slice u2 n2 c2) :: x2 :: x3 :: x4 :: (.slice a_s ns c_s) :: (.int .i64 (b : Int)) :: (.int .i64 (t : Int)) :: (.int .i64 (r : Int)) :: (.slice a_w n c_w) :: x10 :: x11 :: x12 :: (.slice a_e n c_e) :: x14 :: x15 :: x16 :: x17 :: x18 :: x19 :: x20 :: x21 :: x22 :: x23 :: x24 :: x25 :: x26 :: x27 :: x28 :: x29 :: x30 :: x31 :: x32 :: x33 :: x34 :: x35 :: x36 :: x37 :: x38 :: x39 :: x40 :: x41 :: x42 :: x43 :: x44 :: x45 :: x46 :: x47 :: x48 :: x49 :: x50 :: x51 :: x52 :: x53 :: x54 :: x55 :: x56 :: x57 :: x58 :: x59 :: x60 :: x61 :: x62 :: x63 :: x64 :: x65 :: x66 :: x67 :: x68 :: x69 :: x70 :: x71 :: x72 :: x73 :: x74 :: x75 :: x76 :: x77 :: x78 :: x79 :: x80 :: x81 :: x82 :: x83 :: x84 :: x85 :: x86 :: x87 :: x88 :: x89 :: x90 :: x91 :: x92 :: x93 :: x94 :: x95 :: x96 :: x97 :: x98 :: x99 :: x100 :: x101 :: x102 :: x103 :: x104 :: x105 :: x106 :: x107 :: x108 :: x109 :: x110 :: x111 :: x112 :: x113 :: x114 :: x115 :: x116 :: x117 :: x118 :: x119 :: x120 :: x121 :: x122 :: x123 :: x124 :: x125 :: x126 :: x127 :: x128 :: x129 :: x130 :: x131 :: x132 :: x133 :: x134 :: x135 :: x136 :: x137 :: x138 :: x139 :: x140 :: x141 :: x142 :: x143 :: x144 :: x145 :: x146 :: x147 :: x148 :: x149 :: x150 :: x151 :: x152 :: x153 :: x154 :: x155 :: x156 :: x157 :: x158 :: x159 :: x160 :: x161 :: x162 :: x163 :: x164 :: x165 :: x166 :: x167 :: x168 :: x169 :: x170 :: x171 :: x172 :: x173 :: x174 :: x175 :: x176 :: x177 :: x178 :: x179 :: x180 :: x181 :: x182 :: x183 :: x184 :: x185 :: x186 :: x187 :: x188 :: x189 :: x190 :: x191 :: x192 :: x193 :: x194 :: x195 :: x196 :: x197 :: x198 :: x199 :: x200 :: x201 :: x202 :: x203 :: x204 :: x205 :: x206 :: x207 :: x208 :: x209 :: x210 :: x211 :: x212 :: x213 :: x214 :: x215 :: x216 :: x217 :: x218 :: x219 :: x220 :: x221 :: x222 :: x223 :: x224 :: x225 :: x226 :: x227 :: x228 :: x229 :: x230 :: x231 :: x232 :: x233 :: x234 :: x235 :: x236 :: x237 :: x238 :: x239 :: x240 :: x241 :: x242 :: x243 :: x244 :: x245 :: x246 :: x247 :: x248 :: x249 :: x250 :: x251 :: x252 :: x253 :: x254 :: x255 :: x256 :: x257 :: x258 :: x259 :: x260 :: x261 :: x262 :: x263 :: x264 :: x265 :: x266 :: x267 :: x268 :: x269 :: x270 :: x271 :: x272 :: x273 :: x274 :: x275 :: x276 :: x277 :: x278 :: x279 :: x280 :: x281 :: x282 :: x283 :: x284 :: x285 :: x286 :: x287 :: x288 :: x289 :: x290 :: x291 :: x292 :: x293 :: x294 :: x295 :: x296 :: x297 :: x298 :: x299 :: x300 :: x301 :: x302 :: x303 :: x304 :: x305 :: x306 :: x307 :: x308 :: x309 :: x310 :: x311 :: x312 :: x313 :: x314 :: x315 :: x316 :: x317 :: x318 :: x319 :: x320 :: x321 :: x322 :: x323 :: x324 :: x325 :: x326 :: x327 :: x328 :: x329 :: x330 :: x331 :: x332 :: x333 :: x334 :: []), defers := [] } w := by
  rw [show (cThen (cHead 8 (bodyOf Try.f3))) = .seq (cHead 0 (cThen (cHead 8 (bodyOf Try.f3)))) (.seq (cHead 1 (cThen (cHead 8 (bodyOf Try.f3)))) (cRest 2 (cThen (cHead 8 (bodyOf Try.f3))))) from by kernel_rfl]
  generalize hR : cRest 2 (cThen (cHead 8 (bodyOf Try.f3))) = R
  have HR := hid hR
  clear hR
  simp only [bodyOf, Try.f3, Option.getD_some, cHead, cThen]
  have HB := hid hB
  have HBY := hid hby
  clear hB hby
  have eW : W = E.map (wrI b) := by rw [HW.out, HE.out]; exact wcL_map t1 r1
  obtain ⟨a', n', c', ev, hz, rd_w⟩ := HSW.out.rd
  cases ev
  rw [eW] at rd_w
  have Rd_w := hid rd_w
  clear rd_w hz eW
  obtain ⟨a', n', c', ev, hz, rd_e⟩ := HSE.out.rd
  cases ev
  have Rd_e := hid rd_e
  clear rd_e hz
  go_wp2_with fail
  go_loopw [120] (fun i wr => ∃ c : Nat, c ≤ n ∧ i = .int .i64 c ∧ Below w.heap.size w wr)
    (fun i _ => n - (intOf i).toNat)
  case atStart => exact ⟨0, by omega, rfl, Below.refl _ _⟩
  case round =>
    obtain ⟨c, hc, rfl, hb⟩ := hrel
    by_cases hlc : c < n
    · obtain ⟨x, hkx⟩ := get_lt E c (by rw [← Hn.out]; exact hlc)
      have hkw : (E.map (wrI b))[c]? = some (wrI b x) := by rw [List.getElem?_map, hkx]; rfl
      obtain ⟨x1, x2⟩ := HsE.out.2.at hkx
      obtain ⟨b7, o7, ix7, hb7, ce7⟩ := (Rd_e.out.kept hb).at (P := Try.prog) (T := 24) n c_e uslice sone hkx hlc
      obtain ⟨b8, o8, ix8, hb8, ce8⟩ := (Rd_w.out.kept hb).at (P := Try.prog) (T := 24) n c_w uslice sone hkw hlc
      obtain ⟨y1, y2⟩ := wrI_big b2 x
      have KI := fun (W : World) => iWrap_any x b W b1 b2 (by omega) (by omega)
      generalize wrI b x = y at *
      have KI := hid KI
      have HHb := hid hb
      clear hkx hkw hb
      go_wp2_with fail
      go_quiet ((go_at_call 11; exact Calls.quiet_of_same ((KI.out _).mono fun e w' h => ⟨h.1, h.2.symm⟩)))
      have hbq := below_drewN HHb.out nq
      generalize wr.drewN nq = wq at hbq ⊢
      go_wp2_with fail
      go_roundw
      case rel => exact ⟨c + 1, by omega, by go_num, hbq⟩
      case measure => simp [intOf]; omega
    · have hge : (n : Int) ≤ (c : Int) := by omega
      have HHb := hid (bel_step HB.out hb)
      have HBY := hid (By.later HBY.out hb)
      have HSs := hid (HSs.out.kept hb)
      have HSW := hid (HSW.out.kept hb)
      have HSE := hid (HSE.out.kept hb)
      clear hlc hb
      go_wp2_with fail
      rw [← HR.out]
      exact combs_B2 u1 u2 n1 c1 n2 c2 w0 wr HHb.out HBY.out hl2 KK HK s W E b t r ns n b1 b2 t1 t2 r1 r2 HW HE HsE HG hn Hn hns Hns a_s a_w a_e c_s c_w c_e HSs HSW HSE Hec _ _ _ _ _ _ _ _ _ _ _ _ _ _ _ _ _ _ _ _ _ _ _ _ _ _ _ _ _ _ _ _ _ _ _ _ _ _ _ _ _ _ _ _ _ _ _ _ _ _ _ _ _ _ _ _ _ _ _ _ _ _ _ _ _ _ _ _ _ _ _ _ _ _ _ _ _ _ _ _ _ _ _ _ _ _ _ _ _ _ _ _ _ _ _ _ _ _ _ _ _ _ _ _ _ _ _ _ _ _ _ _ _ _ _ _ _ _ _ _ _ _ _ _ _ _ _ _ _ _ _ _ _ _ _ _ _ _ _ _ _ _ _ _ _ _ _ _ _ _ _ _ _ _ _ _ _ _ _ _ _ _ _ _ _ _ _ _ _ _ _ _ _ _ _ _ _ _ _ _ _ _ _ _ _ _ _ _ _ _ _ _ _ _ _ _ _ _ _ _ _ _ _ _ _ _ _ _ _ _ _ _ _ _ _ _ _ _ _ _ _ _ _ _ _ _ _ _ _ _ _ _ _ _ _ _ _ _ _ _ _ _ _ _ _ _ _ _ _ _ _ _ _ _ _ _ _ _ _ _ _ _ _ _ _ _ _ _ _ _ _ _ _ _ _ _ _ _ _ _ _ _ _ _ _ _ _ _ _ _ _ _ _ _ _ _ _ _ _ _ _ _ _ _ _ _ _ _ _ _ _ _ _ _ _ _ _ _ _ _ _ _ _ _ _ _ _


set_option maxRecDepth 20000 in
set_option maxHeartbeats 8000000 in
theorem combs_B8 (u1 u2 : Option Addr) (n1 c1 n2 c2 : Nat) (w0 w : World) (hB : Below w0.heap.size w0 w) (hby : By w.heap.size w u2 n2) (hl2 : n2 ≤ 1048576) (s W E : List Int) (b t r ns n : Nat) (b1 : 2 ≤ b) (b2 : b ≤ 40) (t1 : 1 ≤ t) (t2 : t ≤ 4) (r1 : 1 ≤ r) (r2 : r ≤ 8) (HW : Hid (W = wcL s b t r)) (HE : Hid (E = dropL r (r - 1) (caL r t s))) (HsE : Hid (SigP E)) (HG : Hid (SigP s)) (hn : n ≤ 64) (Hn : Hid (n = E.length)) (hns : ns ≤ 64) (Hns : Hid (ns = s.length)) (a_s a_w a_e : Option Addr) (c_s c_w c_e : Nat) (HSs : Hid (Sl w (.slice a_s ns c_s) s)) (HSW : Hid (Sl w (.slice a_w n c_w) W)) (HSE : Hid (Sl w (.slice a_e n c_e) E)) (Hec : Hid (ecB s (t : Int) (r : Int) = true)) (x2 x3 x4 x11 x12 x15 x16 x17 x18 x19 x20 x21 x22 x23 x24 x25 x26 x27 x28 x29 x30 x31 x32 x33 x34 x35 x36 x37 x38 x39 x40 x41 x42 x43 x44 x45 x46 x47 x48 x49 x50 x51 x52 x53 x54 x55 x56 x57 x58 x59 x60 x61 x62 x63 x64 x65 x66 x67 x68 x69 x70 x71 x72 x73 x74 x75 x76 x77 x78 x79 x80 x81 x82 x83 x84 x85 x86 x87 x88 x89 x90 x91 x92 x93 x94 x95 x96 x97 x98 x99 x100 x101 x102 x103 x104 x105 x106 x107 x108 x109 x110 x111 x112 x113 x114 x115 x116 x117 x118 x119 x120 x121 x122 x123 x124 x125 x126 x127 x128 x129 x130 x131 x132 x133 x134 x135 x136 x137 x138 x139 x140 x141 x142 x143 x144 x145 x146 x147 x148 x149 x150 x151 x152 x153 x154 x155 x156 x157 x158 x159 x160 x161 x162 x163 x164 x165 x166 x167 x168 x169 x170 x171 x172 x173 x174 x175 x176 x177 x178 x179 x180 x181 x182 x183 x184 x185 x186 x187 x188 x189 x190 x191 x192 x193 x194 x195 x196 x197 x198 x199 x200 x201 x202 x203 x204 x205 x206 x207 x208 x209 x210 x211 x212 x213 x214 x215 x216 x217 x218 x219 x220 x221 x222 x223 x224 x225 x226 x227 x228 x229 x230 x231 x232 x233 x234 x235 x236 x237 x238 x239 x240 x241 x242 x243 x244 x245 x246 x247 x248 x249 x250 x251 x252 x253 x254 x255 x256 x257 x258 x259 x260 x261 x262 x263 x264 x265 x266 x267 x268 x269 x270 x271 x272 x273 x274 x275 x276 x277 x278 x279 x280 x281 x282 x283 x284 x285 x286 x287 x288 x289 x290 x291 x292 x293 x294 x295 x296 x297 x298 x299 x300 x301 x302 x303 x304 x305 x306 x307 x308 x309 x310 x311 x312 x313 x314 x315 x316 x317 x318 x319 x320 x321 x322 x323 x324 x325 x326 x327 x328 x329 x330 x331 x332 x333 x334 : Value) :
    Code.wp Try.prog (cRest 8 (bodyOf Try.f3)) (qS w0) { tmps := List.toArray ((.slice u1 n1 c1) :: (.slice u2 n2 c2) :: x2 :: x3 :: x4 :: (.slice a_s ns c_s) :: (.int .i64 (b : Int)) :: (.int .i64 (t : Int)) :: (.int .i64 (r : Int)) :: (.slice a_w n c_w) :: (.bool true) :: x11 :: x12 :: (.slice a_e n c_e) :: (.bool true) :: x15 :: x16 :: x17 :: x18 :: x19 :: x20 :: x21 :: x22 :: x23 :: x24 :: x25 :: x26 :: x27 :: x28 :: x29 :: x30 :: x31 :: x32 :: x33 :: x34 :: x35 :: x36 :: x37 :: x38 :: x39 :: x40 :: x41 :: x42 :: x43 :: x44 :: x45 :: x46 :: x47 :: x48 :: x49 :: x50 :: x51 :: x52 :: x53 :: x54 :: x55 :: x56 :: x57 :: x58 :: x59 :: x60 :: x61 :: x62 :: x63 :: x64 :: x65 :: x66 :: x67 :: x68 :: x69 :: x70 :: x71 :: x72 :: x73 :: x74 :: x75 :: x76 :: x77 :: x78 :: x79 :: x80 :: x81 :: x82 :: x83 :: x84 :: x85 :: x86 :: x87 :: x88 :: x89 :: x90 :: x91 :: x92 :: x93 :: x94 :: x95 :: x96 :: x97 :: x98 :: x99 :: x100 :: x101 :: x102 :: x103 :: x104 :: x105 :: x106 :: x107 :: x108 :: x109 :: x110 :: x111 :: x112 :: x113 :: x114 :: x115 :: x116 :: x117 :: x118 :: x119 :: x120 :: x121 :: x122 :: x123 :: x124 :: x125 :: x126 :: x127 :: x128 :: x129 :: x130 :: x131 :: x132 :: x133 :: x134 :: x135 :: x136 :: x137 :: x138 :: x139 :: x140 :: x141 :: x142 :: x143 :: x144 :: x145 :: x146 :: x147 :: x148 :: x149 :: x150 :: x151 :: x152 :: x153 :: x154 :: x155 :: x156 :: x157 :: x158 :: x159 :: x160 :: x161 :: x162 :: x163 :: x164 :: x165 :: x166 :: x167 :: x168 :: x169 :: x170 :: x171 :: x172 :: x173 :: x174 :: x175 :: x176 :: x177 :: x178 :: x179 :: x180 :: x181 :: x182 :: x183 :: x184 :: x185 :: x186 :: x187 :: x188 :: x189 :: x190 :: x191 :: x192 :: x193 :: x194 :: x195 :: x196 :: x197 :: x198 :: x199 :: x200 :: x201 :: x202 :: x203 :: x204 :: x205 :: x206 :: x207 :: x208 :: x209 :: x210 :: x211 :: x212 :: x213 :: x214 :: x215 :: x216 :: x217 :: x218 :: x219 :: x220 :: x221 :: x222 :: x223 :: x224 :: x225 :: x226 :: x227 :: x228 :: x229 :: x230 :: x231 :: x232 :: x233 :: x234 :: x235 :: x236 :: x237 :: x238 :: x239 :: x240 :: x241 :: x242 :: x243 :: x244 :: x245 :: x246 :: x247 :: x248 :: x249 :: x250 :: x251 :: x252 :: x253 :: x254 :: x255 :: x256 :: x257 :: x258 :: x259 :: x260 :: x261 :: x262 :: x263 :: x264 :: x265 :: x266 :: x267 :: x268 :: x269 :: x270 :: x271 :: x272 :: x273 :: x274 :: x275 :: x276 :: x277 :: x278 :: x279 :: x280 :: x281 :: x282 :: x283 :: x284 :: x285 :: x286 :: x287 :: x288 :: x289 :: x290 :: x291 :: x292 :: x293 :: x294 :: x295 :: x296 :: x297 :: x298 :: x299 :: x300 :: x301 :: x302 :: x303 :: x304 :: x305 :: x306 :: x307 :: x308 :: x309 :: x310 :: x311 :: x312 :: x313 :: x314 :: x315 :: x316 :: x317 :: x318 :: x319 :: x320 :: x321 :: x322 :: x323 :: x324 :: x325 :: x326 :: x327 :: x328 :: x329 :: x330 :: x331 :: x332 :: x333 :: x334 :: []), defers := [] } w := by
  rw [show cRest 8 (bodyOf Try.f3) = .seq (cHead 8 (bodyOf Try.f3)) (cRest 9 (bodyOf Try.f3)) from by kernel_rfl]
  refine wp_seq_k ?_
  intro KK hK
  have HK := hid hK
  clear hK
  rw [show cHead 8 (bodyOf Try.f3) = .seq (cHead 0 (cHead 8 (bodyOf Try.f3))) (.cond (Operand.tmp 112) (cThen (cHead 8 (bodyOf Try.f3))) .skip) from by kernel_rfl]
  generalize hT : (cThen (cHead 8 (bodyOf Try.f3))) = TV
  have HT := hid hT
  clear hT
  simp only [bodyOf, Try.f3, Option.getD_some, cHead]
  have HB := hid hB
  have HBY := hid hby
  clear hB hby
  go_wp2_with fail
  rw [← HT.out]
  exact combs_B0 u1 u2 n1 c1 n2 c2 w0 w HB.out HBY.out hl2 KK HK s W E b t r ns n b1 b2 t1 t2 r1 r2 HW HE HsE HG hn Hn hns Hns a_s a_w a_e c_s c_w c_e HSs HSW HSE Hec _ _ _ _ _ _ _ _ _ _ _ _ _ _ _ _ _ _ _ _ _ _ _ _ _ _ _ _ _ _ _ _ _ _ _ _ _ _ _ _ _ _ _ _ _ _ _ _ _ _ _ _ _ _ _ _ _ _ _ _ _ _ _ _ _ _ _ _ _ _ _ _ _ _ _ _ _ _ _ _ _ _ _ _ _ _ _ _ _ _ _ _ _ _ _ _ _ _ _ _ _ _ _ _ _ _ _ _ _ _ _ _ _ _ _ _ _ _ _ _ _ _ _ _ _ _ _ _ _ _ _ _ _ _ _ _ _ _ _ _ _ _ _ _ _ _ _ _ _ _ _ _ _ _ _ _ _ _ _ _ _ _ _ _ _ _ _ _ _ _ _ _ _ _ _ _ _ _ _ _ _ _ _ _ _ _ _ _ _ _ _ _ _ _ _ _ _ _ _ _ _ _ _ _ _ _ _ _ _ _ _ _ _ _ _ _ _ _ _ _ _ _ _ _ _ _ _ _ _ _ _ _ _ _ _ _ _ _ _ _ _ _ _ _ _ _ _ _ _ _ _ _ _ _ _ _ _ _ _ _ _ _ _ _ _ _ _ _ _ _ _ _ _ _ _ _ _ _ _ _ _ _ _ _ _ _ _ _ _ _ _ _ _ _ _ _ _ _ _ _ _ _ _ _ _ _ _ _ _ _ _ _ _ _ _ _ _ _ _ _ _ _ _ _ _ _ _


set_option maxRecDepth 20000 in
set_option maxHeartbeats 8000000 in
theorem combs_M1 (u1 u2 : Option Addr) (n1 c1 n2 c2 : Nat) (w0 w : World) (hB : Below w0.heap.size w0 w) (hby : By w.heap.size w u2 n2) (hl2 : n2 ≤ 1048576) (x2 x3 x4 x5 x6 x7 x8 x9 x11 x12 x13 x14 x15 x16 x17 x18 x19 x20 x21 x22 x23 x24 x25 x26 x27 x28 x29 x30 x31 x32 x33 x34 x35 x36 x37 x38 x39 x40 x41 x42 x43 x44 x45 x46 x47 x48 x49 x50 x51 x52 x53 x54 x55 x56 x57 x58 x59 x60 x61 x62 x63 x64 x65 x66 x67 x68 x69 x70 x71 x72 x73 x74 x75 x76 x77 x78 x79 x80 x81 x82 x83 x84 x85 x86 x87 x88 x89 x90 x91 x92 x93 x94 x95 x96 x97 x98 x99 x100 x101 x102 x103 x104 x105 x106 x107 x108 x109 x110 x111 x112 x113 x114 x115 x116 x117 x118 x119 x120 x121 x122 x123 x124 x125 x126 x127 x128 x129 x130 x131 x132 x133 x134 x135 x136 x137 x138 x139 x140 x141 x142 x143 x144 x145 x146 x147 x148 x149 x150 x151 x152 x153 x154 x155 x156 x157 x158 x159 x160 x161 x162 x163 x164 x165 x166 x167 x168 x169 x170 x171 x172 x173 x174 x175 x176 x177 x178 x179 x180 x181 x182 x183 x184 x185 x186 x187 x188 x189 x190 x191 x192 x193 x194 x195 x196 x197 x198 x199 x200 x201 x202 x203 x204 x205 x206 x207 x208 x209 x210 x211 x212 x213 x214 x215 x216 x217 x218 x219 x220 x221 x222 x223 x224 x225 x226 x227 x228 x229 x230 x231 x232 x233 x234 x235 x236 x237 x238 x239 x240 x241 x242 x243 x244 x245 x246 x247 x248 x249 x250 x251 x252 x253 x254 x255 x256 x257 x258 x259 x260 x261 x262 x263 x264 x265 x266 x267 x268 x269 x270 x271 x272 x273 x274 x275 x276 x277 x278 x279 x280 x281 x282 x283 x284 x285 x286 x287 x288 x289 x290 x291 x292 x293 x294 x295 x296 x297 x298 x299 x300 x301 x302 x303 x304 x305 x306 x307 x308 x309 x310 x311 x312 x313 x314 x315 x316 x317 x318 x319 x320 x321 x322 x323 x324 x325 x326 x327 x328 x329 x330 x331 x332 x333 x334 : Value) :
    Code.wp Try.prog (cRest 8 (bodyOf Try.f3)) (qS w0) { tmps := List.toArray ((.slice u1 n1 c1) :: (.slice u2 n2 c2) :: x2 :: x3 :: x4 :: x5 :: x6 :: x7 :: x8 :: x9 :: (.bool false) :: x11 :: x12 :: x13 :: x14 :: x15 :: x16 :: x17 :: x18 :: x19 :: x20 :: x21 :: x22 :: x23 :: x24 :: x25 :: x26 :: x27 :: x28 :: x29 :: x30 :: x31 :: x32 :: x33 :: x34 :: x35 :: x36 :: x37 :: x38 :: x39 :: x40 :: x41 :: x42 :: x43 :: x44 :: x45 :: x46 :: x47 :: x48 :: x49 :: x50 :: x51 :: x52 :: x53 :: x54 :: x55 :: x56 :: x57 :: x58 :: x59 :: x60 :: x61 :: x62 :: x63 :: x64 :: x65 :: x66 :: x67 :: x68 :: x69 :: x70 :: x71 :: x72 :: x73 :: x74 :: x75 :: x76 :: x77 :: x78 :: x79 :: x80 :: x81 :: x82 :: x83 :: x84 :: x85 :: x86 :: x87 :: x88 :: x89 :: x90 :: x91 :: x92 :: x93 :: x94 :: x95 :: x96 :: x97 :: x98 :: x99 :: x100 :: x101 :: x102 :: x103 :: x104 :: x105 :: x106 :: x107 :: x108 :: x109 :: x110 :: x111 :: x112 :: x113 :: x114 :: x115 :: x116 :: x117 :: x118 :: x119 :: x120 :: x121 :: x122 :: x123 :: x124 :: x125 :: x126 :: x127 :: x128 :: x129 :: x130 :: x131 :: x132 :: x133 :: x134 :: x135 :: x136 :: x137 :: x138 :: x139 :: x140 :: x141 :: x142 :: x143 :: x144 :: x145 :: x146 :: x147 :: x148 :: x149 :: x150 :: x151 :: x152 :: x153 :: x154 :: x155 :: x156 :: x157 :: x158 :: x159 :: x160 :: x161 :: x162 :: x163 :: x164 :: x165 :: x166 :: x167 :: x168 :: x169 :: x170 :: x171 :: x172 :: x173 :: x174 :: x175 :: x176 :: x177 :: x178 :: x179 :: x180 :: x181 :: x182 :: x183 :: x184 :: x185 :: x186 :: x187 :: x188 :: x189 :: x190 :: x191 :: x192 :: x193 :: x194 :: x195 :: x196 :: x197 :: x198 :: x199 :: x200 :: x201 :: x202 :: x203 :: x204 :: x205 :: x206 :: x207 :: x208 :: x209 :: x210 :: x211 :: x212 :: x213 :: x214 :: x215 :: x216 :: x217 :: x218 :: x219 :: x220 :: x221 :: x222 :: x223 :: x224 :: x225 :: x226 :: x227 :: x228 :: x229 :: x230 :: x231 :: x232 :: x233 :: x234 :: x235 :: x236 :: x237 :: x238 :: x239 :: x240 :: x241 :: x242 :: x243 :: x244 :: x245 :: x246 :: x247 :: x248 :: x249 :: x250 :: x251 :: x252 :: x253 :: x254 :: x255 :: x256 :: x257 :: x258 :: x259 :: x260 :: x261 :: x262 :: x263 :: x264 :: x265 :: x266 :: x267 :: x268 :: x269 :: x270 :: x271 :: x272 :: x273 :: x274 :: x275 :: x276 :: x277 :: x278 :: x279 :: x280 :: x281 :: x282 :: x283 :: x284 :: x285 :: x286 :: x287 :: x288 :: x289 :: x290 :: x291 :: x292 :: x293 :: x294 :: x295 :: x296 :: x297 :: x298 :: x299 :: x300 :: x301 :: x302 :: x303 :: x304 :: x305 :: x306 :: x307 :: x308 :: x309 :: x310 :: x311 :: x312 :: x313 :: x314 :: x315 :: x316 :: x317 :: x318 :: x319 :: x320 :: x321 :: x322 :: x323 :: x324 :: x325 :: x326 :: x327 :: x328 :: x329 :: x330 :: x331 :: x332 :: x333 :: x334 :: []), defers := [] } w := by
  rw [show cRest 8 (bodyOf Try.f3) = .seq (cHead 8 (bodyOf Try.f3)) (cRest 9 (bodyOf Try.f3)) from by kernel_rfl]
  generalize hR : cRest 9 (bodyOf Try.f3) = R
  have HR := hid hR
  clear hR
  simp only [bodyOf, Try.f3, Option.getD_some, cHead]
  have HB := hid hB
  have HBY := hid hby
  clear hB hby
  go_wp2_with fail
  rw [← HR.out]
  exact combs_D u1 u2 n1 c1 n2 c2 w0 w HB.out HBY.out hl2 _ _ _ _ _ _ _ _ _ _ _ _ _ _ _ _ _ _ _ _ _ _ _ _ _ _ _ _ _ _ _ _ _ _ _ _ _ _ _ _ _ _ _ _ _ _ _ _ _ _ _ _ _ _ _ _ _ _ _ _ _ _ _ _ _ _ _ _ _ _ _ _ _ _ _ _ _ _ _ _ _ _ _ _ _ _ _ _ _ _ _ _ _ _ _ _ _ _ _ _ _ _ _ _ _ _ _ _ _ _ _ _ _ _ _ _ _ _ _ _ _ _ _ _ _ _ _ _ _ _ _ _ _ _ _ _ _ _ _ _ _ _ _ _ _ _ _ _ _ _ _ _ _ _ _ _ _ _ _ _ _ _ _ _ _ _ _ _ _ _ _ _ _ _ _ _ _ _ _ _ _ _ _ _ _ _ _ _ _ _ _ _ _ _ _ _ _ _ _ _ _ _ _ _ _ _ _ _ _ _ _ _ _ _ _ _ _ _ _ _ _ _ _ _ _ _ _ _ _ _ _ _ _ _ _ _ _ _ _ _ _ _ _ _ _ _ _ _ _ _ _ _ _ _ _ _ _ _ _ _ _ _ _ _ _ _ _ _ _ _ _ _ _ _ _ _ _ _ _ _ _ _ _ _ _ _ _ _ _ _ _ _ _ _ _ _ _ _ _ _ _ _ _ _ _ _ _ _ _ _ _ _ _ _ _ _ _ _ _ _ _ _ _ _ _ _ _ _ _ _ _ _ _


set_option maxRecDepth 20000 in
set_option maxHeartbeats 8000000 in
theorem combs_M2 (u1 u2 : Option Addr) (n1 c1 n2 c2 : Nat) (w0 w : World) (hB : Below w0.heap.size w0 w) (hby : By w.heap.size w u2 n2) (hl2 : n2 ≤ 1048576) (x2 x3 x4 x5 x6 x7 x8 x9 x11 x12 x13 x15 x16 x17 x18 x19 x20 x21 x22 x23 x24 x25 x26 x27 x28 x29 x30 x31 x32 x33 x34 x35 x36 x37 x38 x39 x40 x41 x42 x43 x44 x45 x46 x47 x48 x49 x50 x51 x52 x53 x54 x55 x56 x57 x58 x59 x60 x61 x62 x63 x64 x65 x66 x67 x68 x69 x70 x71 x72 x73 x74 x75 x76 x77 x78 x79 x80 x81 x82 x83 x84 x85 x86 x87 x88 x89 x90 x91 x92 x93 x94 x95 x96 x97 x98 x99 x100 x101 x102 x103 x104 x105 x106 x107 x108 x109 x110 x111 x112 x113 x114 x115 x116 x117 x118 x119 x120 x121 x122 x123 x124 x125 x126 x127 x128 x129 x130 x131 x132 x133 x134 x135 x136 x137 x138 x139 x140 x141 x142 x143 x144 x145 x146 x147 x148 x149 x150 x151 x152 x153 x154 x155 x156 x157 x158 x159 x160 x161 x162 x163 x164 x165 x166 x167 x168 x169 x170 x171 x172 x173 x174 x175 x176 x177 x178 x179 x180 x181 x182 x183 x184 x185 x186 x187 x188 x189 x190 x191 x192 x193 x194 x195 x196 x197 x198 x199 x200 x201 x202 x203 x204 x205 x206 x207 x208 x209 x210 x211 x212 x213 x214 x215 x216 x217 x218 x219 x220 x221 x222 x223 x224 x225 x226 x227 x228 x229 x230 x231 x232 x233 x234 x235 x236 x237 x238 x239 x240 x241 x242 x243 x244 x245 x246 x247 x248 x249 x250 x251 x252 x253 x254 x255 x256 x257 x258 x259 x260 x261 x262 x263 x264 x265 x266 x267 x268 x269 x270 x271 x272 x273 x274 x275 x276 x277 x278 x279 x280 x281 x282 x283 x284 x285 x286 x287 x288 x289 x290 x291 x292 x293 x294 x295 x296 x297 x298 x299 x300 x301 x302 x303 x304 x305 x306 x307 x308 x309 x310 x311 x312 x313 x314 x315 x316 x317 x318 x319 x320 x321 x322 x323 x324 x325 x326 x327 x328 x329 x330 x331 x332 x333 x334 : Value) :
    Code.wp Try.prog (cRest 8 (bodyOf Try.f3)) (qS w0) { tmps := List.toArray ((.slice u1 n1 c1) :: (.slice u2 n2 c2) :: x2 :: x3 :: x4 :: x5 :: x6 :: x7 :: x8 :: x9 :: (.bool true) :: x11 :: x12 :: x13 :: (.bool false) :: x15 :: x16 :: x17 :: x18 :: x19 :: x20 :: x21 :: x22 :: x23 :: x24 :: x25 :: x26 :: x27 :: x28 :: x29 :: x30 :: x31 :: x32 :: x33 :: x34 :: x35 :: x36 :: x37 :: x38 :: x39 :: x40 :: x41 :: x42 :: x43 :: x44 :: x45 :: x46 :: x47 :: x48 :: x49 :: x50 :: x51 :: x52 :: x53 :: x54 :: x55 :: x56 :: x57 :: x58 :: x59 :: x60 :: x61 :: x62 :: x63 :: x64 :: x65 :: x66 :: x67 :: x68 :: x69 :: x70 :: x71 :: x72 :: x73 :: x74 :: x75 :: x76 :: x77 :: x78 :: x79 :: x80 :: x81 :: x82 :: x83 :: x84 :: x85 :: x86 :: x87 :: x88 :: x89 :: x90 :: x91 :: x92 :: x93 :: x94 :: x95 :: x96 :: x97 :: x98 :: x99 :: x100 :: x101 :: x102 :: x103 :: x104 :: x105 :: x106 :: x107 :: x108 :: x109 :: x110 :: x111 :: x112 :: x113 :: x114 :: x115 :: x116 :: x117 :: x118 :: x119 :: x120 :: x121 :: x122 :: x123 :: x124 :: x125 :: x126 :: x127 :: x128 :: x129 :: x130 :: x131 :: x132 :: x133 :: x134 :: x135 :: x136 :: x137 :: x138 :: x139 :: x140 :: x141 :: x142 :: x143 :: x144 :: x145 :: x146 :: x147 :: x148 :: x149 :: x150 :: x151 :: x152 :: x153 :: x154 :: x155 :: x156 :: x157 :: x158 :: x159 :: x160 :: x161 :: x162 :: x163 :: x164 :: x165 :: x166 :: x167 :: x168 :: x169 :: x170 :: x171 :: x172 :: x173 :: x174 :: x175 :: x176 :: x177 :: x178 :: x179 :: x180 :: x181 :: x182 :: x183 :: x184 :: x185 :: x186 :: x187 :: x188 :: x189 :: x190 :: x191 :: x192 :: x193 :: x194 :: x195 :: x196 :: x197 :: x198 :: x199 :: x200 :: x201 :: x202 :: x203 :: x204 :: x205 :: x206 :: x207 :: x208 :: x209 :: x210 :: x211 :: x212 :: x213 :: x214 :: x215 :: x216 :: x217 :: x218 :: x219 :: x220 :: x221 :: x222 :: x223 :: x224 :: x225 :: x226 :: x227 :: x228 :: x229 :: x230 :: x231 :: x232 :: x233 :: x234 :: x235 :: x236 :: x237 :: x238 :: x239 :: x240 :: x241 :: x242 :: x243 :: x244 :: x245 :: x246 :: x247 :: x248 :: x249 :: x250 :: x251 :: x252 :: x253 :: x254 :: x255 :: x256 :: x257 :: x258 :: x259 :: x260 :: x261 :: x262 :: x263 :: x264 :: x265 :: x266 :: x267 :: x268 :: x269 :: x270 :: x271 :: x272 :: x273 :: x274 :: x275 :: x276 :: x277 :: x278 :: x279 :: x280 :: x281 :: x282 :: x283 :: x284 :: x285 :: x286 :: x287 :: x288 :: x289 :: x290 :: x291 :: x292 :: x293 :: x294 :: x295 :: x296 :: x297 :: x298 :: x299 :: x300 :: x301 :: x302 :: x303 :: x304 :: x305 :: x306 :: x307 :: x308 :: x309 :: x310 :: x311 :: x312 :: x313 :: x314 :: x315 :: x316 :: x317 :: x318 :: x319 :: x320 :: x321 :: x322 :: x323 :: x324 :: x325 :: x326 :: x327 :: x328 :: x329 :: x330 :: x331 :: x332 :: x333 :: x334 :: []), defers := [] } w := by
  rw [show cRest 8 (bodyOf Try.f3) = .seq (cHead 8 (bodyOf Try.f3)) (cRest 9 (bodyOf Try.f3)) from by kernel_rfl]
  generalize hR : cRest 9 (bodyOf Try.f3) = R
  have HR := hid hR
  clear hR
  simp only [bodyOf, Try.f3, Option.getD_some, cHead]
  have HB := hid hB
  have HBY := hid hby
  clear hB hby
  go_wp2_with fail
  rw [← HR.out]
  exact combs_D u1 u2 n1 c1 n2 c2 w0 w HB.out HBY.out hl2 _ _ _ _ _ _ _ _ _ _ _ _ _ _ _ _ _ _ _ _ _ _ _ _ _ _ _ _ _ _ _ _ _ _ _ _ _ _ _ _ _ _ _ _ _ _ _ _ _ _ _ _ _ _ _ _ _ _ _ _ _ _ _ _ _ _ _ _ _ _ _ _ _ _ _ _ _ _ _ _ _ _ _ _ _ _ _ _ _ _ _ _ _ _ _ _ _ _ _ _ _ _ _ _ _ _ _ _ _ _ _ _ _ _ _ _ _ _ _ _ _ _ _ _ _ _ _ _ _ _ _ _ _ _ _ _ _ _ _ _ _ _ _ _ _ _ _ _ _ _ _ _ _ _ _ _ _ _ _ _ _ _ _ _ _ _ _ _ _ _ _ _ _ _ _ _ _ _ _ _ _ _ _ _ _ _ _ _ _ _ _ _ _ _ _ _ _ _ _ _ _ _ _ _ _ _ _ _ _ _ _ _ _ _ _ _ _ _ _ _ _ _ _ _ _ _ _ _ _ _ _ _ _ _ _ _ _ _ _ _ _ _ _ _ _ _ _ _ _ _ _ _ _ _ _ _ _ _ _ _ _ _ _ _ _ _ _ _ _ _ _ _ _ _ _ _ _ _ _ _ _ _ _ _ _ _ _ _ _ _ _ _ _ _ _ _ _ _ _ _ _ _ _ _ _ _ _ _ _ _ _ _ _ _ _ _ _ _ _ _ _ _ _ _ _ _ _ _ _ _ _ _ _


set_option maxRecDepth 20000 in
set_option maxHeartbeats 8000000 in
theorem combs_A (u1 u2 : Option Addr) (n1 c1 n2 c2 : Nat) (w0 : World) (hby : By w0.heap.size w0 u1 n1) (hby2 : By w0.heap.size w0 u2 n2) (hl1 : n1 ≤ 1048576) (hl2 : n2 ≤ 1048576 - n1) (x2 x3 x4 x5 x6 x7 x8 x9 x10 x11 x12 x13 x14 x15 x16 x17 x18 x19 x20 x21 x22 x23 x24 x25 x26 x27 x28 x29 x30 x31 x32 x33 x34 x35 x36 x37 x38 x39 x40 x41 x42 x43 x44 x45 x46 x47 x48 x49 x50 x51 x52 x53 x54 x55 x56 x57 x58 x59 x60 x61 x62 x63 x64 x65 x66 x67 x68 x69 x70 x71 x72 x73 x74 x75 x76 x77 x78 x79 x80 x81 x82 x83 x84 x85 x86 x87 x88 x89 x90 x91 x92 x93 x94 x95 x96 x97 x98 x99 x100 x101 x102 x103 x104 x105 x106 x107 x108 x109 x110 x111 x112 x113 x114 x115 x116 x117 x118 x119 x120 x121 x122 x123 x124 x125 x126 x127 x128 x129 x130 x131 x132 x133 x134 x135 x136 x137 x138 x139 x140 x141 x142 x143 x144 x145 x146 x147 x148 x149 x150 x151 x152 x153 x154 x155 x156 x157 x158 x159 x160 x161 x162 x163 x164 x165 x166 x167 x168 x169 x170 x171 x172 x173 x174 x175 x176 x177 x178 x179 x180 x181 x182 x183 x184 x185 x186 x187 x188 x189 x190 x191 x192 x193 x194 x195 x196 x197 x198 x199 x200 x201 x202 x203 x204 x205 x206 x207 x208 x209 x210 x211 x212 x213 x214 x215 x216 x217 x218 x219 x220 x221 x222 x223 x224 x225 x226 x227 x228 x229 x230 x231 x232 x233 x234 x235 x236 x237 x238 x239 x240 x241 x242 x243 x244 x245 x246 x247 x248 x249 x250 x251 x252 x253 x254 x255 x256 x257 x258 x259 x260 x261 x262 x263 x264 x265 x266 x267 x268 x269 x270 x271 x272 x273 x274 x275 x276 x277 x278 x279 x280 x281 x282 x283 x284 x285 x286 x287 x288 x289 x290 x291 x292 x293 x294 x295 x296 x297 x298 x299 x300 x301 x302 x303 x304 x305 x306 x307 x308 x309 x310 x311 x312 x313 x314 x315 x316 x317 x318 x319 x320 x321 x322 x323 x324 x325 x326 x327 x328 x329 x330 x331 x332 x333 x334 : Value) :
    Code.wp Try.prog (cRest 0 (bodyOf Try.f3)) (qS w0) { tmps := List.toArray ((.slice u1 n1 c1) :: (.slice u2 n2 c2) :: x2 :: x3 :: x4 :: x5 :: x6 :: x7 :: x8 :: x9 :: x10 :: x11 :: x12 :: x13 :: x14 :: x15 :: x16 :: x17 :: x18 :: x19 :: x20 :: x21 :: x22 :: x23 :: x24 :: x25 :: x26 :: x27 :: x28 :: x29 :: x30 :: x31 :: x32 :: x33 :: x34 :: x35 :: x36 :: x37 :: x38 :: x39 :: x40 :: x41 :: x42 :: x43 :: x44 :: x45 :: x46 :: x47 :: x48 :: x49 :: x50 :: x51 :: x52 :: x53 :: x54 :: x55 :: x56 :: x57 :: x58 :: x59 :: x60 :: x61 :: x62 :: x63 :: x64 :: x65 :: x66 :: x67 :: x68 :: x69 :: x70 :: x71 :: x72 :: x73 :: x74 :: x75 :: x76 :: x77 :: x78 :: x79 :: x80 :: x81 :: x82 :: x83 :: x84 :: x85 :: x86 :: x87 :: x88 :: x89 :: x90 :: x91 :: x92 :: x93 :: x94 :: x95 :: x96 :: x97 :: x98 :: x99 :: x100 :: x101 :: x102 :: x103 :: x104 :: x105 :: x106 :: x107 :: x108 :: x109 :: x110 :: x111 :: x112 :: x113 :: x114 :: x115 :: x116 :: x117 :: x118 :: x119 :: x120 :: x121 :: x122 :: x123 :: x124 :: x125 :: x126 :: x127 :: x128 :: x129 :: x130 :: x131 :: x132 :: x133 :: x134 :: x135 :: x136 :: x137 :: x138 :: x139 :: x140 :: x141 :: x142 :: x143 :: x144 :: x145 :: x146 :: x147 :: x148 :: x149 :: x150 :: x151 :: x152 :: x153 :: x154 :: x155 :: x156 :: x157 :: x158 :: x159 :: x160 :: x161 :: x162 :: x163 :: x164 :: x165 :: x166 :: x167 :: x168 :: x169 :: x170 :: x171 :: x172 :: x173 :: x174 :: x175 :: x176 :: x177 :: x178 :: x179 :: x180 :: x181 :: x182 :: x183 :: x184 :: x185 :: x186 :: x187 :: x188 :: x189 :: x190 :: x191 :: x192 :: x193 :: x194 :: x195 :: x196 :: x197 :: x198 :: x199 :: x200 :: x201 :: x202 :: x203 :: x204 :: x205 :: x206 :: x207 :: x208 :: x209 :: x210 :: x211 :: x212 :: x213 :: x214 :: x215 :: x216 :: x217 :: x218 :: x219 :: x220 :: x221 :: x222 :: x223 :: x224 :: x225 :: x226 :: x227 :: x228 :: x229 :: x230 :: x231 :: x232 :: x233 :: x234 :: x235 :: x236 :: x237 :: x238 :: x239 :: x240 :: x241 :: x242 :: x243 :: x244 :: x245 :: x246 :: x247 :: x248 :: x249 :: x250 :: x251 :: x252 :: x253 :: x254 :: x255 :: x256 :: x257 :: x258 :: x259 :: x260 :: x261 :: x262 :: x263 :: x264 :: x265 :: x266 :: x267 :: x268 :: x269 :: x270 :: x271 :: x272 :: x273 :: x274 :: x275 :: x276 :: x277 :: x278 :: x279 :: x280 :: x281 :: x282 :: x283 :: x284 :: x285 :: x286 :: x287 :: x288 :: x289 :: x290 :: x291 :: x292 :: x293 :: x294 :: x295 :: x296 :: x297 :: x298 :: x299 :: x300 :: x301 :: x302 :: x303 :: x304 :: x305 :: x306 :: x307 :: x308 :: x309 :: x310 :: x311 :: x312 :: x313 :: x314 :: x315 :: x316 :: x317 :: x318 :: x319 :: x320 :: x321 :: x322 :: x323 :: x324 :: x325 :: x326 :: x327 :: x328 :: x329 :: x330 :: x331 :: x332 :: x333 :: x334 :: []), defers := [] } w0 := by
  rw [show cRest 0 (bodyOf Try.f3) = .seq (cHead 0 (bodyOf Try.f3)) (.seq (cHead 1 (bodyOf Try.f3)) (.seq (cHead 2 (bodyOf Try.f3)) (.seq (cHead 3 (bodyOf Try.f3)) (.seq (cHead 4 (bodyOf Try.f3)) (.seq (cHead 5 (bodyOf Try.f3)) (.seq (cHead 6 (bodyOf Try.f3)) (.seq (cHead 7 (bodyOf Try.f3)) (cRest 8 (bodyOf Try.f3))))))))) from by kernel_rfl]
  generalize hR : cRest 8 (bodyOf Try.f3) = R
  have HR := hid hR
  clear hR
  simp only [bodyOf, Try.f3, Option.getD_some, cHead]
  have HBY1 := hid hby
  have HBY := hid hby2
  clear hby hby2
  go_wp2_with fail
  refine (big_any _ _ _ _ _ _ _ hl1 hl2).mono ?_
  rintro e w' ⟨rfl, rfl⟩
  go_wp2_with fail
  refine (DrawWrappedComb_any u1 n1 c1 _ HBY1.out hl1).mono ?_
  rintro e w1 ⟨⟨v_s, s, b, t, r, rfl, r_s, hsl, hb9, ht9, hr9⟩, hb⟩
  obtain ⟨a_s, ns, c_s, rfl, hns, -⟩ := id r_s.sl.rd
  have HB := hid hb
  have HBY := hid (By.later HBY.out hb)
  have HR_s := hid r_s
  have Hns := hid hns
  clear hb r_s hns HBY1 hb9 ht9 hr9
  obtain ⟨q, hq⟩ : ∃ z, z = wcB s b t r := ⟨_, rfl⟩
  obtain ⟨X, hX⟩ : ∃ z, z = onL q (wcL s b.toNat t.toNat r.toNat) := ⟨_, rfl⟩
  obtain ⟨p, hp⟩ : ∃ z, z = ecB s t r := ⟨_, rfl⟩
  obtain ⟨Y, hY⟩ : ∃ z, z = onL p (ecL s t r) := ⟨_, rfl⟩
  have lX : X.length ≤ 2000000 := by rw [hX, hq]; exact wc_len (by omega)
  have lY : Y.length ≤ 2000000 := by rw [hY, hp]; exact ec_len
  have Kwi := fun (W : World) (v : Value) (h : Sl W v s) => impl_WrappedComb_any v s b t r W h
  have Kws := fun (W : World) (v : Value) (h : Sl W v s) => spec_WrappedComb_any v s b t r W h
  have Kei := fun (W : World) (v : Value) (h : Sl W v s) => impl_ExactComb_any v s t r W h
  have Kes := fun (W : World) (v : Value) (h : Sl W v s) => spec_ExactComb_any v s t r W h
  rw [← hq, ← hX] at Kwi Kws
  rw [← hp, ← hY] at Kei Kes
  have Kwi := hid Kwi
  have Kws := hid Kws
  have Kei := hid Kei
  have Kes := hid Kes
  have Hq := hid hq
  clear hq
  have HX := hid hX
  clear hX
  have Hp := hid hp
  clear hp
  have HY := hid hY
  clear hY
  go_wp2_with fail
  refine (Kwi.out _ _ HR_s.out.sl).mono ?_
  rintro e w2 ⟨v_Xi, rfl, r_Xi, hb⟩
  have HB := hid (bel_step HB.out hb)
  have HBY := hid (By.later HBY.out hb)
  have HR_s := hid (HR_s.out.kept hb)
  have HR_Xi := hid r_Xi
  clear hb r_Xi
  go_wp2_with fail
  refine (Kws.out _ _ HR_s.out.sl).mono ?_
  rintro e w3 ⟨v_Xs, rfl, r_Xs, hb⟩
  have HB := hid (bel_step HB.out hb)
  have HBY := hid (By.later HBY.out hb)
  have HR_s := hid (HR_s.out.kept hb)
  have HR_Xi := hid (HR_Xi.out.kept hb)
  have HR_Xs := hid r_Xs
  clear hb r_Xs
  go_wp2_with fail
  refine (Kei.out _ _ HR_s.out.sl).mono ?_
  rintro e w4 ⟨v_Yi, rfl, r_Yi, hb⟩
  have HB := hid (bel_step HB.out hb)
  have HBY := hid (By.later HBY.out hb)
  have HR_s := hid (HR_s.out.kept hb)
  have HR_Xi := hid (HR_Xi.out.kept hb)
  have HR_Xs := hid (HR_Xs.out.kept hb)
  have HR_Yi := hid r_Yi
  clear hb r_Yi
  go_wp2_with fail
  refine (Kes.out _ _ HR_s.out.sl).mono ?_
  rintro e w5 ⟨v_Ys, rfl, r_Ys, hb⟩
  have HB := hid (bel_step HB.out hb)
  have HBY := hid (By.later HBY.out hb)
  have HR_s := hid (HR_s.out.kept hb)
  have HR_Xi := hid (HR_Xi.out.kept hb)
  have HR_Xs := hid (HR_Xs.out.kept hb)
  have HR_Yi := hid (HR_Yi.out.kept hb)
  have HR_Ys := hid r_Ys
  clear hb r_Ys
  clear Kwi Kws Kei Kes
  cases q
  all_goals cases p
  all_goals
    go_wp2_with fail
    refine (iSame_same _ _ X _ HR_Xi.out.sl HR_Xs.out.sl lX).mono ?_
    rintro e w6 ⟨rfl, hb⟩
    have HB := hid (bel_step HB.out hb)
    have HBY := hid (By.later HBY.out hb)
    have HR_s := hid (HR_s.out.kept hb)
    have HR_Xi := hid (HR_Xi.out.kept hb)
    have HR_Xs := hid (HR_Xs.out.kept hb)
    have HR_Yi := hid (HR_Yi.out.kept hb)
    have HR_Ys := hid (HR_Ys.out.kept hb)
    clear hb
    go_wp2_with fail
    refine (iSame_same _ _ Y _ HR_Yi.out.sl HR_Ys.out.sl lY).mono ?_
    rintro e w7 ⟨rfl, hb⟩
    have HB := hid (bel_step HB.out hb)
    have HBY := hid (By.later HBY.out hb)
    have HR_s := hid (HR_s.out.kept hb)
    have HR_Xi := hid (HR_Xi.out.kept hb)
    have HR_Xs := hid (HR_Xs.out.kept hb)
    have HR_Yi := hid (HR_Yi.out.kept hb)
    have HR_Ys := hid (HR_Ys.out.kept hb)
    clear hb
  · go_wp2_with fail
    rw [← HR.out]
    exact combs_M1 u1 u2 n1 c1 n2 c2 w0 w7 HB.out HBY.out (by omega) _ _ _ _ _ _ _ _ _ _ _ _ _ _ _ _ _ _ _ _ _ _ _ _ _ _ _ _ _ _ _ _ _ _ _ _ _ _ _ _ _ _ _ _ _ _ _ _ _ _ _ _ _ _ _ _ _ _ _ _ _ _ _ _ _ _ _ _ _ _ _ _ _ _ _ _ _ _ _ _ _ _ _ _ _ _ _ _ _ _ _ _ _ _ _ _ _ _ _ _ _ _ _ _ _ _ _ _ _ _ _ _ _ _ _ _ _ _ _ _ _ _ _ _ _ _ _ _ _ _ _ _ _ _ _ _ _ _ _ _ _ _ _ _ _ _ _ _ _ _ _ _ _ _ _ _ _ _ _ _ _ _ _ _ _ _ _ _ _ _ _ _ _ _ _ _ _ _ _ _ _ _ _ _ _ _ _ _ _ _ _ _ _ _ _ _ _ _ _ _ _ _ _ _ _ _ _ _ _ _ _ _ _ _ _ _ _ _ _ _ _ _ _ _ _ _ _ _ _ _ _ _ _ _ _ _ _ _ _ _ _ _ _ _ _ _ _ _ _ _ _ _ _ _ _ _ _ _ _ _ _ _ _ _ _ _ _ _ _ _ _ _ _ _ _ _ _ _ _ _ _ _ _ _ _ _ _ _ _ _ _ _ _ _ _ _ _ _ _ _ _ _ _ _ _ _ _ _ _ _ _ _ _ _ _ _ _ _ _ _ _ _ _ _ _ _ _ _ _ _ _ _
  · go_wp2_with fail
    rw [← HR.out]
    exact combs_M1 u1 u2 n1 c1 n2 c2 w0 w7 HB.out HBY.out (by omega) _ _ _ _ _ _ _ _ _ _ _ _ _ _ _ _ _ _ _ _ _ _ _ _ _ _ _ _ _ _ _ _ _ _ _ _ _ _ _ _ _ _ _ _ _ _ _ _ _ _ _ _ _ _ _ _ _ _ _ _ _ _ _ _ _ _ _ _ _ _ _ _ _ _ _ _ _ _ _ _ _ _ _ _ _ _ _ _ _ _ _ _ _ _ _ _ _ _ _ _ _ _ _ _ _ _ _ _ _ _ _ _ _ _ _ _ _ _ _ _ _ _ _ _ _ _ _ _ _ _ _ _ _ _ _ _ _ _ _ _ _ _ _ _ _ _ _ _ _ _ _ _ _ _ _ _ _ _ _ _ _ _ _ _ _ _ _ _ _ _ _ _ _ _ _ _ _ _ _ _ _ _ _ _ _ _ _ _ _ _ _ _ _ _ _ _ _ _ _ _ _ _ _ _ _ _ _ _ _ _ _ _ _ _ _ _ _ _ _ _ _ _ _ _ _ _ _ _ _ _ _ _ _ _ _ _ _ _ _ _ _ _ _ _ _ _ _ _ _ _ _ _ _ _ _ _ _ _ _ _ _ _ _ _ _ _ _ _ _ _ _ _ _ _ _ _ _ _ _ _ _ _ _ _ _ _ _ _ _ _ _ _ _ _ _ _ _ _ _ _ _ _ _ _ _ _ _ _ _ _ _ _ _ _ _ _ _ _ _ _ _ _ _ _ _ _ _ _ _ _ _ _
  · go_wp2_with fail
    rw [← HR.out]
    exact combs_M2 u1 u2 n1 c1 n2 c2 w0 w7 HB.out HBY.out (by omega) _ _ _ _ _ _ _ _ _ _ _ _ _ _ _ _ _ _ _ _ _ _ _ _ _ _ _ _ _ _ _ _ _ _ _ _ _ _ _ _ _ _ _ _ _ _ _ _ _ _ _ _ _ _ _ _ _ _ _ _ _ _ _ _ _ _ _ _ _ _ _ _ _ _ _ _ _ _ _ _ _ _ _ _ _ _ _ _ _ _ _ _ _ _ _ _ _ _ _ _ _ _ _ _ _ _ _ _ _ _ _ _ _ _ _ _ _ _ _ _ _ _ _ _ _ _ _ _ _ _ _ _ _ _ _ _ _ _ _ _ _ _ _ _ _ _ _ _ _ _ _ _ _ _ _ _ _ _ _ _ _ _ _ _ _ _ _ _ _ _ _ _ _ _ _ _ _ _ _ _ _ _ _ _ _ _ _ _ _ _ _ _ _ _ _ _ _ _ _ _ _ _ _ _ _ _ _ _ _ _ _ _ _ _ _ _ _ _ _ _ _ _ _ _ _ _ _ _ _ _ _ _ _ _ _ _ _ _ _ _ _ _ _ _ _ _ _ _ _ _ _ _ _ _ _ _ _ _ _ _ _ _ _ _ _ _ _ _ _ _ _ _ _ _ _ _ _ _ _ _ _ _ _ _ _ _ _ _ _ _ _ _ _ _ _ _ _ _ _ _ _ _ _ _ _ _ _ _ _ _ _ _ _ _ _ _ _ _ _ _ _ _ _ _ _ _ _ _ _ _ _
  · go_wp2_with fail
    rw [← HR.out]
    obtain ⟨hg, hb1, hx, hy⟩ := wc_t Hq.out.symm
    obtain ⟨bn, rfl⟩ : ∃ bn : Nat, b = bn := ⟨b.toNat, by omega⟩
    obtain ⟨tn, rfl⟩ : ∃ bn : Nat, t = bn := ⟨t.toNat, by omega⟩
    obtain ⟨rn, rfl⟩ : ∃ bn : Nat, r = bn := ⟨r.toNat, by omega⟩
    have eX : X = wcL s bn tn rn := HX.out
    have eY : Y = dropL rn (rn - 1) (caL rn tn s) := HY.out
    have hsig : SigP Y := ec_sig Hp.out.symm HY.out
    have eXY : X = Y.map (wrI bn) := by rw [eX, eY]; exact wcL_map (by omega) (by omega)
    have sX := HR_Xi.out.sl
    have sY := HR_Yi.out.sl
    obtain ⟨a_x, n_x, c_x, rfl, hnx, rdx⟩ := id sX.rd
    obtain ⟨a_y, n_y, c_y, rfl, hny, rdy⟩ := id sY.rd
    obtain rfl : n_y = n_x := by rw [hnx, hny, eXY, List.length_map]
    exact combs_B8 u1 u2 n1 c1 n2 c2 w0 w7 HB.out HBY.out (by omega) s X Y bn tn rn ns n_y (by omega) (by omega) (by omega) (by omega) (by omega) (by omega) (hid eX) (hid eY) (hid hsig) (hid hg) (by rw [hny]; exact hsig.1) (hid hny) (by rw [Hns.out]; exact hg.1) Hns a_s a_x a_y c_s c_x c_y (hid HR_s.out.sl) (hid sX) (hid sY) (hid Hp.out.symm) _ _ _ _ _ _ _ _ _ _ _ _ _ _ _ _ _ _ _ _ _ _ _ _ _ _ _ _ _ _ _ _ _ _ _ _ _ _ _ _ _ _ _ _ _ _ _ _ _ _ _ _ _ _ _ _ _ _ _ _ _ _ _ _ _ _ _ _ _ _ _ _ _ _ _ _ _ _ _ _ _ _ _ _ _ _ _ _ _ _ _ _ _ _ _ _ _ _ _ _ _ _ _ _ _ _ _ _ _ _ _ _ _ _ _ _ _ _ _ _ _ _ _ _ _ _ _ _ _ _ _ _ _ _ _ _ _ _ _ _ _ _ _ _ _ _ _ _ _ _ _ _ _ _ _ _ _ _ _ _ _ _ _ _ _ _ _ _ _ _ _ _ _ _ _ _ _ _ _ _ _ _ _ _ _ _ _ _ _ _ _ _ _ _ _ _ _ _ _ _ _ _ _ _ _ _ _ _ _ _ _ _ _ _ _ _ _ _ _ _ _ _ _ _ _ _ _ _ _ _ _ _ _ _ _ _ _ _ _ _ _ _ _ _ _ _ _ _ _ _ _ _ _ _ _ _ _ _ _ _ _ _ _ _ _ _ _ _ _ _ _ _ _ _ _ _ _ _ _ _ _ _ _ _ _ _ _ _ _ _ _ _ _ _ _ _ _ _ _ _ _ _ _ _ _ _ _ _ _ _ _ _ _ _ _ _ _ _ _ _ _ _ _ _ _


set_option maxRecDepth 20000 in
set_option maxHeartbeats 4000000 in
theorem law_FnCombsWrap (u1 u2 : Option Addr) (n1 c1 n2 c2 : Nat) (w : World) (hby : By w.heap.size w u1 n1) (hby2 : By w.heap.size w u2 n2) (hl1 : n1 ≤ 1048576) (hl2 : n2 ≤ 1048576 - n1) :
    Calls Try.prog 3 #[.slice u1 n1 c1, .slice u2 n2 c2] w fun e w' => e = .returned (.bool true) ∧ Below w.heap.size w w' := by
  go_enter Try.func3, Try.ntmps3
  exact combs_A u1 u2 n1 c1 n2 c2 w hby hby2 hl1 hl2 _ _ _ _ _ _ _ _ _ _ _ _ _ _ _ _ _ _ _ _ _ _ _ _ _ _ _ _ _ _ _ _ _ _ _ _ _ _ _ _ _ _ _ _ _ _ _ _ _ _ _ _ _ _ _ _ _ _ _ _ _ _ _ _ _ _ _ _ _ _ _ _ _ _ _ _ _ _ _ _ _ _ _ _ _ _ _ _ _ _ _ _ _ _ _ _ _ _ _ _ _ _ _ _ _ _ _ _ _ _ _ _ _ _ _ _ _ _ _ _ _ _ _ _ _ _ _ _ _ _ _ _ _ _ _ _ _ _ _ _ _ _ _ _ _ _ _ _ _ _ _ _ _ _ _ _ _ _ _ _ _ _ _ _ _ _ _ _ _ _ _ _ _ _ _ _ _ _ _ _ _ _ _ _ _ _ _ _ _ _ _ _ _ _ _ _ _ _ _ _ _ _ _ _ _ _ _ _ _ _ _ _ _ _ _ _ _ _ _ _ _ _ _ _ _ _ _ _ _ _ _ _ _ _ _ _ _ _ _ _ _ _ _ _ _ _ _ _ _ _ _ _ _ _ _ _ _ _ _ _ _ _ _ _ _ _ _ _ _ _ _ _ _ _ _ _ _ _ _ _ _ _ _ _ _ _ _ _ _ _ _ _ _ _ _ _ _ _ _ _ _ _ _ _ _ _ _ _ _ _ _ _ _ _ _ _ _ _ _ _ _ _ _ _ _ _ _ _ _ _ _ _ _

set_option maxRecDepth 20000 in
set_option maxHeartbeats 4000000 in
theorem walk_FnCombsWrap (w : World) (u1 : Option Addr) (n1 c1 : Nat) (z1 : List Int) (hr1 : IsRow .u8 w u1 n1 c1 z1) (u2 : Option Addr) (n2 c2 : Nat) (z2 : List Int) (hr2 : IsRow .u8 w u2 n2 c2 z2) :
    Calls Try.prog 3 #[.slice u1 n1 c1, .slice u2 n2 c2] w fun e w' => e = .returned (.bool true) ∧ Below w.heap.size w w' := by
  have hb := IsRow.by hr1
  have hb2 := IsRow.by hr2
  have hm := IsRow.len_le hr2
  clear hr1 hr2
  by_cases h1 : 1048576 < n1
  · clear hb hb2
    go_enter Try.func3, Try.ntmps3
    go_wp2_with fail
    refine (big_first _ _ _ _ _ _ _ h1).mono ?_
    rintro e w' ⟨rfl, rfl⟩
    go_wp2
    go_ret
    exact ⟨rfl, Below.refl _ _⟩
  · have h1' : n1 ≤ 1048576 := by omega
    by_cases h2 : 1048576 - n1 < n2
    · have H2 := hid h2
      clear hb hb2 h1 h2
      go_enter Try.func3, Try.ntmps3
      go_wp2_with fail
      refine (big_both _ _ _ _ _ _ _ h1' H2.out hm).mono ?_
      rintro e w' ⟨rfl, rfl⟩
      go_wp2
      go_ret
      exact ⟨rfl, Below.refl _ _⟩
    · exact law_FnCombsWrap u1 u2 n1 c1 n2 c2 w hb hb2 h1' (by omega)

end Go.Proofs.Ytdedifgpbehpoaa
