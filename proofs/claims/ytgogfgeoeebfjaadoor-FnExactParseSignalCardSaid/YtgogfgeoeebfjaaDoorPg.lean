
import Derived.Test.YtgogfgeoeebfjaaDoorPf
namespace Go.Proofs.YtgogfgeoeebfjaaDoor
open Go.RowKit BitX Go.MemX
set_option linter.unusedVariables false


set_option maxHeartbeats 1600000 in
theorem gen_FnExactParseSignal (s : ByteArray)  (ys : List Int) (ok : Bool) (w : World)  (hy : ys.length ≤ 2000000) (hspec : ∀ (w : World) , Calls Tryd.prog 9 #[.string s] w (Gives w ys ok)) (himpl : ∀ (w2 : World), Below w.heap.size w w2 → Calls Tryd.prog 10 #[.string s] w2 (Gives w2 ys ok)) (hsz : (s.size : Int) ≤ 1048576) :
    Calls Tryd.prog 4 #[.string s] w fun e w' => e = .returned (.bool true) ∧ Below w.heap.size w w' := by
  have HSP := hid hspec
  have HIM := hid himpl
  clear hspec himpl
  all_goals cases ok
  all_goals
    go_enter Tryd.func4, Tryd.ntmps4
    go_wp2_with fail
    refine (HSP.out _).mono ?_
    rintro e w1 ⟨v_R0, rfl, R0, hb⟩
    have B1 := hb
    have hz1 : w.heap.size ≤ w1.heap.size := by first | exact hb.size | (have := hb.size; simp at this; omega)
    have hlt0 : ∀ g, v_R0.ownBlock = some g → g < w1.heap.size := fun g hg => R0.lt hg
    have Hlt0 := hid hlt0
    clear hlt0
    go_wp2_with fail
    refine (HIM.out _ B1).mono ?_
    rintro e w2 ⟨v_R1, rfl, R1, hb⟩
    have B2 := bel_step B1 hb
    have hz2 : w1.heap.size ≤ w2.heap.size := hb.size
    have R0_2 := R0.kept hb
    have hne01 : ∀ g, v_R0.ownBlock = some g → v_R1.ownBlock ≠ some g := fun g hg e => by have a1 := R1.ge e; have a2 := Hlt0.out g hg; omega
    have Hne01 := hid hne01
    clear hne01
    have hge1 : ∀ g, v_R1.ownBlock = some g → w1.heap.size ≤ g := fun g hg => R1.ge hg
    have Hge1 := hid hge1
    clear hge1
    go_wp2_with fail
    refine (eqIntS_same _ _ ys _ R1.sl R0_2.sl hy).mono ?_
    rintro e w3 ⟨rfl, hb⟩
    have B3 := bel_step B2 hb
    have hz3 : w2.heap.size ≤ w3.heap.size := hb.size
    have R0_3 := R0_2.kept hb
    have R1_3 := R1.kept hb
    go_wp2_with fail
    refine (markIntS_one _ ys _ _ R1_3 hy).mono ?_
    rintro e w4 ⟨rfl, ho, M⟩
    have B4 := B3.trans (ho.below fun g hg => Nat.le_trans B1.size (Hge1.out g hg))
    have hz4 : w3.heap.size ≤ w4.heap.size := Nat.le_of_eq ho.size.symm
    have R0_4 := R0_3.only ho Hne01.out
    go_wp2_with fail
    refine (heldIntS_one _ ys.length _ _ M hy).mono ?_
    rintro e w' ⟨rfl, rfl⟩
    go_wp2_with fail
    refine (HIM.out _ B4).mono ?_
    rintro e w5 ⟨v_R2, rfl, R2, hb⟩
    have B5 := bel_step B4 hb
    have hz5 : w4.heap.size ≤ w5.heap.size := hb.size
    have R0_5 := R0_4.kept hb
    have M_5 := M.kept hb
    go_wp2_with fail
    refine (eqIntS_same _ _ ys _ R2.sl R0_5.sl hy).mono ?_
    rintro e w6 ⟨rfl, hb⟩
    have B6 := bel_step B5 hb
    have hz6 : w5.heap.size ≤ w6.heap.size := hb.size
    have R0_6 := R0_5.kept hb
    have M_6 := M_5.kept hb
    have R2_6 := R2.kept hb
    go_wp2_with fail
    refine (heldIntS_one _ ys.length _ _ M_6 hy).mono ?_
    rintro e w' ⟨rfl, rfl⟩
    go_wp2_with fail
    go_ret
    exact ⟨rfl, B6⟩


open Classical in
theorem sigL_len (t : List UInt8) : (sigL t).length ≤ 2000000 := by
  by_cases h : ∃ xs, isTxt t xs
  · obtain ⟨xs, hx⟩ := h
    rw [(sig_yes hx).2]
    have := hx.1.1
    omega
  · rw [(sig_no (t := t) fun xs hx => h ⟨xs, hx⟩).2]; simp
set_option maxHeartbeats 1600000 in
theorem walk_FnExactParseSignal (w : World) (s : ByteArray) (E : Env w) :
    Calls Tryd.prog 4 #[.string s] w fun e w' => e = .returned (.bool true) ∧ Below w.heap.size w w' := by
  by_cases hbig : 1048576 < s.size
  · clear E
    go_enter Tryd.func4, Tryd.ntmps4
    go_wp2
    go_ret
    exact ⟨rfl, Below.refl _ _⟩
  · exact gen_FnExactParseSignal s (sigL s.data.toList) (sigO s.data.toList) w (sigL_len _) (fun w => spec_ParseSignal_any s w) (fun w2 hb => impl_ParseSignal_any s w2 (E.kept hb) (by omega)) (by omega)
end Go.Proofs.YtgogfgeoeebfjaaDoor
