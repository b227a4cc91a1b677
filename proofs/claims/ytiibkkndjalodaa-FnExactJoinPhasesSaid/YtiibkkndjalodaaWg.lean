
import Derived.Test.YtiibkkndjalodaaSg
import Derived.Test.YtiibkkndjalodaaRm
import Derived.Test.YtiibkkndjalodaaRd
namespace Go.Proofs.Ytiibkkndjalodaa
open Go.RowKit BitX Go.MemX
set_option linter.unusedVariables false


theorem sone : ∀ w : World, (sizeOf (Try.prog.elem 24)).run Try.prog w = .ok 1 w := fun w => by kernel_rfl
def WgtP (xs : List Int) : Prop := (1 ≤ xs.length ∧ xs.length ≤ 9) ∧ InP (-1000) 1000 xs
instance (lo hi : Int) (xs : List Int) : Decidable (InP lo hi xs) := List.decidableBAll _ _
instance (xs : List Int) : Decidable (WgtP xs) := inferInstanceAs (Decidable ((1 ≤ xs.length ∧ xs.length ≤ 9) ∧ InP (-1000) 1000 xs))
instance (xs : List Int) : Decidable (SigP xs) := inferInstanceAs (Decidable (xs.length ≤ 64 ∧ InP (-100000) 100000 xs))
/-- the tests as values -/
def wgtB (xs : List Int) : Bool := decide (WgtP xs)
def sigB (xs : List Int) : Bool := decide (SigP xs)
theorem wgtB_t {xs : List Int} (h : wgtB xs = true) : WgtP xs := of_decide_eq_true h
theorem wgtB_f {xs : List Int} (h : wgtB xs = false) : ¬ WgtP xs := of_decide_eq_false h
theorem sigB_t {xs : List Int} (h : sigB xs = true) : SigP xs := of_decide_eq_true h
theorem sigB_f {xs : List Int} (h : sigB xs = false) : ¬ SigP xs := of_decide_eq_false h
theorem wgtB_of {xs : List Int} (h : WgtP xs) : wgtB xs = true := decide_eq_true h
theorem sigB_of {xs : List Int} (h : SigP xs) : sigB xs = true := decide_eq_true h


theorem ownsRow_below {w w' : World} {base : Nat} {e : TypeId} {size : Nat} {v : Value} {n : Nat} {xs : List Value} (h : w.ownsRow base e size v n xs) (hb : Below w.heap.size w w') : w'.ownsRow base e size v n xs := by
  obtain ⟨h1, h2⟩ := h
  refine ⟨h1, ?_⟩
  rcases h2 with h2 | ⟨g, cap, cur, hv, hg, hh, r⟩
  · exact .inl h2
  · exact .inr ⟨g, cap, cur, hv, hg, by rw [hb.block g (lt_of_block hh)]; exact hh, r⟩
theorem ownsRow_base {w : World} {base : Nat} {e : TypeId} {size : Nat} {v : Value} {n : Nat} {xs : List Value} (h : w.ownsRow base e size v n xs) : ∀ j, v.ownBlock = some j → base ≤ j := by
  obtain ⟨_, h2⟩ := h
  intro j hj
  rcases h2 with ⟨rfl, _⟩ | ⟨g, cap, cur, rfl, hg, _⟩
  · cases hj
  · cases hj; exact hg
/-- the world behind a draw is one that lies below -/
theorem bel_drewN (w : World) (q : Nat) : Below w.heap.size w (w.drewN q) := below_drewN (Below.refl _ _) q


theorem l1All_is (v : Value) (xs : List Int) (lo hi : Int) (b : Bool) (w : World) (hs : Sl w v xs) (hl : xs.length ≤ 2000000) (h : decide (InP lo hi xs) = b) :
    Calls Try.prog 25 #[v, .int .i64 lo, .int .i64 hi] w fun e w' => e = .returned (.bool b) ∧ w = w' := by
  cases b
  · exact l1All_no v xs lo hi w hs hl (of_decide_eq_false h)
  · exact l1All_yes v xs lo hi w hs hl (of_decide_eq_true h)
theorem l1In_is (n lo hi : Int) (b : Bool) (w : World) (h : decide (lo ≤ n ∧ n ≤ hi) = b) :
    Calls Try.prog 14 #[.int .i64 n, .int .i64 lo, .int .i64 hi] w fun e w' => e = .returned (.bool b) ∧ w = w' := by
  cases b
  · exact l1In_no n lo hi w (of_decide_eq_false h)
  · have a := of_decide_eq_true h
    exact l1In_yes n lo hi w a.1 a.2
set_option maxHeartbeats 400000 in
theorem weGood_in (v : Value) (xs : List Int) (w : World) (hs : Sl w v xs) (b : Bool) (hl : 1 ≤ xs.length ∧ xs.length ≤ 9) (h : decide (InP (-1000) 1000 xs) = b) :
    Calls Try.prog 21 #[v] w fun e w' => e = .returned (.bool b) ∧ w = w' := by
  obtain ⟨a, n, cap, rfl, hn, hrd⟩ := hs.rd
  have Hn := hid hn
  have Hrd := hid hrd
  have hb : decide ((1 : Int) ≤ (n : Int) ∧ (n : Int) ≤ 9) = true := decide_eq_true (by omega)
  have hl2 : xs.length ≤ 2000000 := by omega
  have HS := hid hs
  have H := hid h
  have HB := hid hb
  have HL := hid hl2
  clear hn hrd hs h hb hl2 hl
  go_enter Try.func21, Try.ntmps21
  go_wp2_with fail
  refine (l1In_is _ _ _ true _ HB.out).mono ?_
  rintro e w' ⟨rfl, rfl⟩
  go_wp2_with fail
  refine (l1All_is _ xs _ _ b _ HS.out HL.out H.out).mono ?_
  rintro e w' ⟨rfl, rfl⟩
  go_wp2
  go_ret
  exact ⟨rfl, rfl⟩


set_option maxHeartbeats 400000 in
theorem weGood_out (v : Value) (xs : List Int) (w : World) (hs : Sl w v xs) (hl : ¬ (1 ≤ xs.length ∧ xs.length ≤ 9)) :
    Calls Try.prog 21 #[v] w fun e w' => e = .returned (.bool false) ∧ w = w' := by
  obtain ⟨a, n, cap, rfl, hn, hrd⟩ := hs.rd
  have Hn := hid hn
  have Hrd := hid hrd
  have hb : decide ((1 : Int) ≤ (n : Int) ∧ (n : Int) ≤ 9) = false := decide_eq_false (by omega)
  have HB := hid hb
  clear hn hrd hs hb hl
  go_enter Try.func21, Try.ntmps21
  go_wp2_with fail
  refine (l1In_is _ _ _ false _ HB.out).mono ?_
  rintro e w' ⟨rfl, rfl⟩
  go_wp2
  go_ret
  exact ⟨rfl, rfl⟩


theorem weGood_is (v : Value) (xs : List Int) (b : Bool) (w : World) (hs : Sl w v xs) (h : wgtB xs = b) :
    Calls Try.prog 21 #[v] w fun e w' => e = .returned (.bool b) ∧ w = w' := by
  by_cases hl : 1 ≤ xs.length ∧ xs.length ≤ 9
  · refine weGood_in v xs w hs b hl ?_
    rw [← h]; unfold wgtB; congr 1; rw [eq_iff_iff]; exact ⟨fun a => ⟨hl, a⟩, fun a => a.2⟩
  · have : b = false := by rw [← h]; exact decide_eq_false fun a => hl a.1
    subst this
    exact weGood_out v xs w hs hl


set_option maxHeartbeats 400000 in
theorem impl_IsWeights_yes (v : Value) (xs : List Int) (w : World) (hs : Sl w v xs) (hl : 1 ≤ xs.length ∧ xs.length ≤ 9) (hi : InP (-1000) 1000 xs) :
    Calls Try.prog 24 #[v] w fun e w' => e = .returned (.bool true) ∧ w = w' := by
  obtain ⟨a, n, cap, rfl, hn, hrd⟩ := hs.rd
  have Hn := hid hn
  have Hrd := hid hrd
  have hl' : n ≤ 9 := by omega
  clear hn hrd 
  have hl1 : 1 ≤ n := by rw [Hn.out]; exact hl.1
  have Hi := hid hi
  clear hi hl hs
  go_enter Try.func24, Try.ntmps24
  go_wp2_with fail
  go_loop [15] (fun i => ∃ k : Nat, k ≤ n ∧ i = .int .i64 k ∧ Hid (InP (-1000) 1000 (xs.take k)))
    (fun i => n - (intOf i).toNat)
  case atStart => exact ⟨0, by omega, rfl, InP.nil _ _⟩
  case round =>
    obtain ⟨k, hk, rfl, hin⟩ := hrel
    by_cases hlk : k < n
    · obtain ⟨x, hkx⟩ := get_lt xs k (by rw [← Hn.out]; exact hlk)
      obtain ⟨bb, oo, hix, hbb, hce⟩ := Hrd.out.at (P := Try.prog) (T := 24) n cap uslice sone hkx hlk
      have Hkx := hid hkx
      have Hin := hid hin
      clear hkx hin
      obtain ⟨x1, x2⟩ := Hi.out.at Hkx.out
      go_wp2
      go_round
      case rel => exact ⟨k + 1, by omega, by go_num, Hin.out.step Hkx.out x1 x2⟩
      case measure => simp [intOf]; omega
    · have hge : (n : Int) ≤ (k : Int) := by omega
      have hkn : k = xs.length := by rw [← Hn.out]; omega
      have Hk := hid hkn
      clear hkn hlk
      have Hin := hid hin
      clear hin
      go_wp2
      go_ret
      exact ⟨rfl, rfl⟩


set_option maxHeartbeats 400000 in
theorem impl_IsWeights_out (v : Value) (xs : List Int) (w : World) (hs : Sl w v xs) (hl : 1 ≤ xs.length ∧ xs.length ≤ 9) (hi : ¬ InP (-1000) 1000 xs) :
    Calls Try.prog 24 #[v] w fun e w' => e = .returned (.bool false) ∧ w = w' := by
  obtain ⟨a, n, cap, rfl, hn, hrd⟩ := hs.rd
  have Hn := hid hn
  have Hrd := hid hrd
  have hl' : n ≤ 9 := by omega
  clear hn hrd 
  have hl1 : 1 ≤ n := by rw [Hn.out]; exact hl.1
  have Hi := hid hi
  clear hi hl hs
  go_enter Try.func24, Try.ntmps24
  go_wp2_with fail
  go_loop [15] (fun i => ∃ k : Nat, k ≤ n ∧ i = .int .i64 k ∧ Hid (InP (-1000) 1000 (xs.take k)))
    (fun i => n - (intOf i).toNat)
  case atStart => exact ⟨0, by omega, rfl, InP.nil _ _⟩
  case round =>
    obtain ⟨k, hk, rfl, hin⟩ := hrel
    by_cases hlk : k < n
    · obtain ⟨x, hkx⟩ := get_lt xs k (by rw [← Hn.out]; exact hlk)
      obtain ⟨bb, oo, hix, hbb, hce⟩ := Hrd.out.at (P := Try.prog) (T := 24) n cap uslice sone hkx hlk
      have Hkx := hid hkx
      have Hin := hid hin
      clear hkx hin
      by_cases hx : -1000 ≤ x ∧ x ≤ 1000
      · obtain ⟨x1, x2⟩ := hx
        go_wp2
        go_round
        case rel => exact ⟨k + 1, by omega, by go_num, Hin.out.step Hkx.out x1 x2⟩
        case measure => simp [intOf]; omega
      · by_cases hx1 : x < -1000
        · clear hx
          go_wp2
          go_ret
          exact ⟨rfl, rfl⟩
        · have hx2 : -1000 ≤ x := by omega
          have hx3 : 1000 < x := by omega
          clear hx hx1
          go_wp2
          go_ret
          exact ⟨rfl, rfl⟩
    · have hge : (n : Int) ≤ (k : Int) := by omega
      have hkn : k = xs.length := by rw [← Hn.out]; omega
      have Hk := hid hkn
      clear hkn hlk
      have Hin := hid hin
      clear hin
      exact absurd (Hin.out.all Hk.out) Hi.out


set_option maxHeartbeats 400000 in
theorem impl_IsWeights_short (v : Value) (xs : List Int) (w : World) (hs : Sl w v xs) (hl : xs.length < 1) :
    Calls Try.prog 24 #[v] w fun e w' => e = .returned (.bool false) ∧ w = w' := by
  obtain ⟨a, n, cap, rfl, hn, hrd⟩ := hs.rd
  have Hn := hid hn
  have Hrd := hid hrd
  have h1 : n < 1 := by omega
  clear hn hrd hs hl
  go_enter Try.func24, Try.ntmps24
  go_wp2
  go_ret
  exact ⟨rfl, rfl⟩


set_option maxHeartbeats 400000 in
theorem impl_IsWeights_long (v : Value) (xs : List Int) (w : World) (hs : Sl w v xs) (hl : 9 < xs.length) :
    Calls Try.prog 24 #[v] w fun e w' => e = .returned (.bool false) ∧ w = w' := by
  obtain ⟨a, n, cap, rfl, hn, hrd⟩ := hs.rd
  have Hn := hid hn
  have Hrd := hid hrd
  have h1 : 1 ≤ n := by omega
  have h2 : 9 < n := by omega
  clear hn hrd hs hl
  go_enter Try.func24, Try.ntmps24
  go_wp2
  go_ret
  exact ⟨rfl, rfl⟩


theorem impl_IsWeights_is (v : Value) (xs : List Int) (b : Bool) (w : World) (hs : Sl w v xs) (h : wgtB xs = b) :
    Calls Try.prog 24 #[v] w fun e w' => e = .returned (.bool b) ∧ w = w' := by
  cases b
  · have hn := wgtB_f h
    by_cases h1 : xs.length < 1
    · exact impl_IsWeights_short v xs w hs h1
    · by_cases h2 : 9 < xs.length
      · exact impl_IsWeights_long v xs w hs h2
      · exact impl_IsWeights_out v xs w hs ⟨by omega, by omega⟩ fun a => hn ⟨⟨by omega, by omega⟩, a⟩
  · have hn := wgtB_t h
    exact impl_IsWeights_yes v xs w hs hn.1 hn.2
end Go.Proofs.Ytiibkkndjalodaa
