
import Derived.Test.YtbhlailnefappaaQn
import Derived.Test.YtbhlailnefappaaQw
import Derived.Test.YtbhlailnefappaaQh
import Derived.Test.YtbhlailnefappaaEi
namespace Go.Proofs.Ytbhlailnefappaa
open Go.RowKit BitX Go.MemX Go.ChV
set_option linter.unusedVariables false

theorem gives_noB {w w' : World} {ys : List Int} {b : Bool} (h : b = false) (hb : Below w.heap.size w w') : Gives w (onB b ys []) b (.returned (.tuple #[.slice none 0 0, .bool false])) w' := by subst h; exact ⟨_, rfl, .inl ⟨rfl, rfl⟩, hb⟩
theorem gives_yesB {w w' : World} {v : Value} {ys : List Int} {b : Bool} (h : b = true) (hv : Res 3 w.heap.size w' v ys) (hb : Below w.heap.size w w') : Gives w (onB b ys []) b (.returned (.tuple #[v, .bool true])) w' := by subst h; exact ⟨_, rfl, hv, hb⟩
def cbkB (m x n : Int) : Bool := nuB m x && decide (0 ≤ n ∧ n ≤ 200)
theorem cbk_n1 {m x n : Int} (h : nuB m x = false) : cbkB m x n = false := by unfold cbkB; rw [h]; rfl
theorem cbk_n2 {m x n : Int} (h : decide (0 ≤ n ∧ n ≤ 200) = false) : cbkB m x n = false := by unfold cbkB; rw [h]; simp
theorem cbk_g {m x n : Int} (h : nuB m x = true) (h2 : decide (0 ≤ n ∧ n ≤ 200) = true) : cbkB m x n = true := by unfold cbkB; rw [h, h2]; rfl


set_option maxHeartbeats 1000000 in
theorem spec_ConstantBits_any (m x n : Int) (w : World) :
    Calls Try.prog 27 #[.int .i64 m, .int .i64 x, .int .i64 n] w (Gives w (onB (cbkB m x n) (moBL m (List.replicate n.toNat x)) []) (cbkB m x n)) := by
  cases h0 : nuB m x
  · have HB0 := hid h0
    clear h0
    go_enter Try.func27, Try.ntmps27
    go_wp2_with fail
    refine (dmNumber_q _ _ false _ HB0.out).mono ?_
    rintro e w' ⟨rfl, rfl⟩
    go_wp2_with fail
    go_ret2
    exact gives_noB (cbk_n1 HB0.out) (Below.refl _ _)
  · have HB0 := hid h0
    clear h0
    cases h1 : decide (0 ≤ n ∧ n ≤ 200)
    · have HB1 := hid h1
      clear h1
      go_enter Try.func27, Try.ntmps27
      go_wp2_with fail
      refine (dmNumber_q _ _ true _ HB0.out).mono ?_
      rintro e w' ⟨rfl, rfl⟩
      go_wp2_with fail
      refine (l1In_is _ _ _ false _ HB1.out).mono ?_
      rintro e w' ⟨rfl, rfl⟩
      go_wp2_with fail
      go_ret2
      exact gives_noB (cbk_n2 HB1.out) (Below.refl _ _)
    · have HB1 := hid h1
      clear h1
      have HT := hid (cbk_g HB0.out HB1.out)
      obtain ⟨⟨m1, m2⟩, ⟨x1, x2⟩⟩ := nuB_t HB0.out
      obtain ⟨n1, n2⟩ := of_decide_eq_true HB1.out
      obtain ⟨q, rfl⟩ : ∃ q : Nat, n = q := ⟨n.toNat, by omega⟩
      have q2 : q ≤ 200 := by omega
      go_enter Try.func27, Try.ntmps27
      go_wp2_with fail
      refine (dmNumber_q _ _ true _ HB0.out).mono ?_
      rintro e w' ⟨rfl, rfl⟩
      go_wp2_with fail
      refine (l1In_is _ _ _ true _ HB1.out).mono ?_
      rintro e w' ⟨rfl, rfl⟩
      go_wp2_with fail
      refine (dmConstant_any m x q _ q2 m1 m2 x1 x2).mono ?_
      rintro e w1 ⟨v_R, rfl, R, hb⟩
      have B1 := hb
      go_wp2_with fail
      go_ret2
      exact gives_yesB HT.out R B1


set_option maxHeartbeats 1000000 in
theorem impl_ConstantBits_any (m x n : Int) (w : World) :
    Calls Try.prog 26 #[.int .i64 m, .int .i64 x, .int .i64 n] w (Gives w (onB (cbkB m x n) (moBL m (List.replicate n.toNat x)) []) (cbkB m x n)) := by
  cases h0 : nuB m x
  · have HB0 := hid h0
    clear h0
    go_enter Try.func26, Try.ntmps26
    go_wp2_with fail
    refine (isConstant_q _ _ false _ HB0.out).mono ?_
    rintro e w' ⟨rfl, rfl⟩
    go_wp2_with fail
    go_ret2
    exact gives_noB (cbk_n1 HB0.out) (Below.refl _ _)
  · have HB0 := hid h0
    clear h0
    by_cases hlo : n < 0
    · have HN := hid (show cbkB m x n = false from cbk_n2 (decide_eq_false (by omega)))
      go_enter Try.func26, Try.ntmps26
      go_wp2_with fail
      refine (isConstant_q _ _ true _ HB0.out).mono ?_
      rintro e w' ⟨rfl, rfl⟩
      go_wp2_with fail
      go_ret2
      exact gives_noB HN.out (Below.refl _ _)
    · by_cases hhi : 200 < n
      · have HN := hid (show cbkB m x n = false from cbk_n2 (decide_eq_false (by omega)))
        have hlo2 : 0 ≤ n := by omega
        clear hlo
        go_enter Try.func26, Try.ntmps26
        go_wp2_with fail
        refine (isConstant_q _ _ true _ HB0.out).mono ?_
        rintro e w' ⟨rfl, rfl⟩
        go_wp2_with fail
        go_ret2
        exact gives_noB HN.out (Below.refl _ _)
      · have HB1 := hid (show decide (0 ≤ n ∧ n ≤ 200) = true from decide_eq_true (by omega))
        clear hlo hhi
        have HT := hid (cbk_g HB0.out HB1.out)
        obtain ⟨⟨m1, m2⟩, ⟨x1, x2⟩⟩ := nuB_t HB0.out
        obtain ⟨n1, n2⟩ := of_decide_eq_true HB1.out
        obtain ⟨q, rfl⟩ : ∃ q : Nat, n = q := ⟨n.toNat, by omega⟩
        have q2 : q ≤ 200 := by omega
        go_enter Try.func26, Try.ntmps26
        go_wp2_with fail
        refine (isConstant_q _ _ true _ HB0.out).mono ?_
        rintro e w' ⟨rfl, rfl⟩
        go_wp2_with fail
        refine (repeat_any w.heap.size 0 1 x q _ ((show Blk 3 (w.alloc (.cells #[.int .i64 x] 3)) w.heap.size [x] from heap_alloc_new _ _).cell rfl) (by omega)).mono ?_
        rintro e w1 ⟨v1, rfl, R1, hb1⟩
        have B1 := bel_step (bel_alloc w _) hb1
        have Hs1 := hid R1.sl
        clear R1
        go_wp2_with fail
        refine (runOneBit_w m _ (List.replicate q x) _ Hs1.out (by rw [List.length_replicate]; exact q2) (rep_in x1 x2) m1 m2).mono ?_
        rintro e w2 ⟨u1, u2, rfl, hr1, hr2, hb2⟩
        have hr3 := hr1.mono B1.size
        have B2 := bel_step B1 hb2
        clear hr1 hr2
        go_wp2_with fail
        go_ret2
        exact gives_yesB HT.out hr3 B2


theorem cbk_len {m x n : Int} : (onB (cbkB m x n) (moBL m (List.replicate n.toNat x)) []).length ≤ 2000000 := by
  unfold onB; split
  · rename_i h
    unfold cbkB at h
    rw [Bool.and_eq_true] at h
    have := of_decide_eq_true h.2
    rw [moBL, tab_len, List.length_replicate]; omega
  · simp


end Go.Proofs.Ytbhlailnefappaa
