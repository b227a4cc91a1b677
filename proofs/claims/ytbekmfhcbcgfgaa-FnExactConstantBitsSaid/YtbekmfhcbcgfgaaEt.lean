
import Derived.Test.YtbekmfhcbcgfgaaQw
import Derived.Test.YtbekmfhcbcgfgaaQh
import Derived.Test.YtbekmfhcbcgfgaaEi
namespace Go.Proofs.Ytbekmfhcbcgfgaa
open Go.RowKit BitX Go.MemX Go.ChV
set_option linter.unusedVariables false

theorem rep_in {m x : Int} {L : Nat} (x1 : -m ≤ x) (x2 : x ≤ m) : InP (-m) m (List.replicate L x) := fun y hy => by rw [List.eq_of_mem_replicate hy]; exact ⟨x1, x2⟩


set_option maxHeartbeats 2000000 in
theorem dmConstant_any (m x : Int) (L : Nat) (w : World) (hL : L ≤ 200) (m1 : 1 ≤ m) (m2 : m ≤ 1000) (x1 : -m ≤ x) (x2 : x ≤ m) :
    Calls Try.prog 18 #[.int .i64 m, .int .i64 x, .int .i64 (L : Int)] w (GivesL w (moBL m (List.replicate L x))) := by
  have hmk := run_make_ints (P := Try.prog) 22 3 uslice iint L (by omega)
  obtain ⟨R, hR⟩ : ∃ R, R = List.replicate L x := ⟨_, rfl⟩
  have hRl : R.length = L := by rw [hR]; simp
  have hRat : ∀ c, c < L → R[c]? = some x := fun c hc => by rw [hR]; simp [hc]
  have hRin : InP (-m) m R := by rw [hR]; exact rep_in x1 x2
  rw [← hR]
  have HRat := hid hRat
  have HRl := hid hRl
  have HRin := hid hRin
  clear hRat hRl hRin hR
  go_enter Try.func18, Try.ntmps18
  go_wp2_with fail
  go_loopw [15] (fun i wr => ∃ c : Nat, c ≤ L ∧ i = .int .i64 c ∧ Blk 3 wr w.heap.size (upTo R c) ∧ Below w.heap.size w wr)
    (fun i _ => L - (intOf i).toNat)
  case atStart => exact ⟨0, by omega, rfl, by rw [upTo_zero, HRl.out]; exact heap_alloc_new _ _, bel_alloc _ _⟩
  case round =>
    obtain ⟨c, hc, rfl, hblk, hb⟩ := hrel
    have hsz : w.heap.size ≤ wr.heap.size := hb.size
    by_cases hlk : c < L
    · have hcd := hblk.cell (upTo_get R c (by rw [HRl.out]; exact hlk))
      have hfd := hblk.free c
      have Hblk := hid hblk
      clear hblk
      go_wp2
      go_roundw
      case rel => exact ⟨c + 1, by omega, by go_num, by rw [← upTo_step R c x (HRat.out c hlk)]; exact Hblk.out.set c _, hb.setCell (Nat.le_refl _) _⟩
      case measure => simp [intOf]; omega
    · have hge : (L : Int) ≤ (c : Int) := by omega
      have hkn : c = R.length := by rw [HRl.out]; omega
      rw [hkn, upTo_full] at hblk
      have hsl := hblk.sl
      rw [HRl.out] at hsl
      have Hsl := hid hsl
      have HB := hid hb
      clear hkn hlk hblk hsl hb
      go_wp2_with fail
      refine (dmOne_any m _ R _ Hsl.out (by rw [HRl.out]; omega) HRin.out m1 m2).mono ?_
      rintro e w2 ⟨u1, u2, rfl, hr1, hr2, hb2⟩
      go_wp2_with fail
      go_ret
      exact ⟨_, rfl, hr1.mono HB.out.size, bel_step HB.out hb2⟩




theorem gives_noB {w w' : World} {ys : List Int} {b : Bool} (h : b = false) (hb : Below w.heap.size w w') : Gives w (onB b ys []) b (.returned (.tuple #[.slice none 0 0, .bool false])) w' := by subst h; exact ⟨_, rfl, .inl ⟨rfl, rfl⟩, hb⟩
theorem gives_yesB {w w' : World} {v : Value} {ys : List Int} {b : Bool} (h : b = true) (hv : Res 3 w.heap.size w' v ys) (hb : Below w.heap.size w w') : Gives w (onB b ys []) b (.returned (.tuple #[v, .bool true])) w' := by subst h; exact ⟨_, rfl, hv, hb⟩
def cbkB (m x n : Int) : Bool := nuB m x && decide (0 ≤ n ∧ n ≤ 200)
theorem cbk_n1 {m x n : Int} (h : nuB m x = false) : cbkB m x n = false := by unfold cbkB; rw [h]; rfl
theorem cbk_n2 {m x n : Int} (h : decide (0 ≤ n ∧ n ≤ 200) = false) : cbkB m x n = false := by unfold cbkB; rw [h]; simp
theorem cbk_g {m x n : Int} (h : nuB m x = true) (h2 : decide (0 ≤ n ∧ n ≤ 200) = true) : cbkB m x n = true := by unfold cbkB; rw [h, h2]; rfl


set_option maxHeartbeats 1000000 in
theorem spec_ConstantBits_any (m x n : Int) (w : World) :
    Calls Try.prog 5 #[.int .i64 m, .int .i64 x, .int .i64 n] w (Gives w (onB (cbkB m x n) (moBL m (List.replicate n.toNat x)) []) (cbkB m x n)) := by
  cases h0 : nuB m x
  · have HB0 := hid h0
    clear h0
    go_enter Try.func5, Try.ntmps5
    go_wp2_with fail
    refine (dmNumber_q _ _ false _ HB0.out).mono ?_
    rintro e w' ⟨rfl, rfl⟩
    go_wp2_with fail
    go_ret2
    exact gives_noB (cbk_n1 HB0.out) (Below.refl _ _)
  · have HB0 := hid h0
    clear h0
    cases h1 : decide (0 ≤ n ∧ n ≤ 200)
    · have HB1 := hid h1
      clear h1
      go_enter Try.func5, Try.ntmps5
      go_wp2_with fail
      refine (dmNumber_q _ _ true _ HB0.out).mono ?_
      rintro e w' ⟨rfl, rfl⟩
      go_wp2_with fail
      refine (l1In_is _ _ _ false _ HB1.out).mono ?_
      rintro e w' ⟨rfl, rfl⟩
      go_wp2_with fail
      go_ret2
      exact gives_noB (cbk_n2 HB1.out) (Below.refl _ _)
    · have HB1 := hid h1
      clear h1
      have HT := hid (cbk_g HB0.out HB1.out)
      obtain ⟨⟨m1, m2⟩, ⟨x1, x2⟩⟩ := nuB_t HB0.out
      obtain ⟨n1, n2⟩ := of_decide_eq_true HB1.out
      obtain ⟨q, rfl⟩ : ∃ q : Nat, n = q := ⟨n.toNat, by omega⟩
      have q2 : q ≤ 200 := by omega
      go_enter Try.func5, Try.ntmps5
      go_wp2_with fail
      refine (dmNumber_q _ _ true _ HB0.out).mono ?_
      rintro e w' ⟨rfl, rfl⟩
      go_wp2_with fail
      refine (l1In_is _ _ _ true _ HB1.out).mono ?_
      rintro e w' ⟨rfl, rfl⟩
      go_wp2_with fail
      refine (dmConstant_any m x q _ q2 m1 m2 x1 x2).mono ?_
      rintro e w1 ⟨v_R, rfl, R, hb⟩
      have B1 := hb
      go_wp2_with fail
      go_ret2
      exact gives_yesB HT.out R B1


set_option maxHeartbeats 1000000 in
theorem impl_ConstantBits_any (m x n : Int) (w : World) :
    Calls Try.prog 6 #[.int .i64 m, .int .i64 x, .int .i64 n] w (Gives w (onB (cbkB m x n) (moBL m (List.replicate n.toNat x)) []) (cbkB m x n)) := by
  cases h0 : nuB m x
  · have HB0 := hid h0
    clear h0
    go_enter Try.func6, Try.ntmps6
    go_wp2_with fail
    refine (isConstant_q _ _ false _ HB0.out).mono ?_
    rintro e w' ⟨rfl, rfl⟩
    go_wp2_with fail
    go_ret2
    exact gives_noB (cbk_n1 HB0.out) (Below.refl _ _)
  · have HB0 := hid h0
    clear h0
    by_cases hlo : n < 0
    · have HN := hid (show cbkB m x n = false from cbk_n2 (decide_eq_false (by omega)))
      go_enter Try.func6, Try.ntmps6
      go_wp2_with fail
      refine (isConstant_q _ _ true _ HB0.out).mono ?_
      rintro e w' ⟨rfl, rfl⟩
      go_wp2_with fail
      go_ret2
      exact gives_noB HN.out (Below.refl _ _)
    · by_cases hhi : 200 < n
      · have HN := hid (show cbkB m x n = false from cbk_n2 (decide_eq_false (by omega)))
        have hlo2 : 0 ≤ n := by omega
        clear hlo
        go_enter Try.func6, Try.ntmps6
        go_wp2_with fail
        refine (isConstant_q _ _ true _ HB0.out).mono ?_
        rintro e w' ⟨rfl, rfl⟩
        go_wp2_with fail
        go_ret2
        exact gives_noB HN.out (Below.refl _ _)
      · have HB1 := hid (show decide (0 ≤ n ∧ n ≤ 200) = true from decide_eq_true (by omega))
        clear hlo hhi
        have HT := hid (cbk_g HB0.out HB1.out)
        obtain ⟨⟨m1, m2⟩, ⟨x1, x2⟩⟩ := nuB_t HB0.out
        obtain ⟨n1, n2⟩ := of_decide_eq_true HB1.out
        obtain ⟨q, rfl⟩ : ∃ q : Nat, n = q := ⟨n.toNat, by omega⟩
        have q2 : q ≤ 200 := by omega
        go_enter Try.func6, Try.ntmps6
        go_wp2_with fail
        refine (isConstant_q _ _ true _ HB0.out).mono ?_
        rintro e w' ⟨rfl, rfl⟩
        go_wp2_with fail
        refine (repeat_any w.heap.size 0 1 x q _ ((show Blk 3 (w.alloc (.cells #[.int .i64 x] 3)) w.heap.size [x] from heap_alloc_new _ _).cell rfl) (by omega)).mono ?_
        rintro e w1 ⟨v1, rfl, R1, hb1⟩
        have B1 := bel_step (bel_alloc w _) hb1
        have Hs1 := hid R1.sl
        clear R1
        go_wp2_with fail
        refine (runOneBit_w m _ (List.replicate q x) _ Hs1.out (by rw [List.length_replicate]; exact q2) (rep_in x1 x2) m1 m2).mono ?_
        rintro e w2 ⟨u1, u2, rfl, hr1, hr2, hb2⟩
        have hr3 := hr1.mono B1.size
        have B2 := bel_step B1 hb2
        clear hr1 hr2
        go_wp2_with fail
        go_ret2
        exact gives_yesB HT.out hr3 B2


theorem cbk_len {m x n : Int} : (onB (cbkB m x n) (moBL m (List.replicate n.toNat x)) []).length ≤ 2000000 := by
  unfold onB; split
  · rename_i h
    unfold cbkB at h
    rw [Bool.and_eq_true] at h
    have := of_decide_eq_true h.2
    rw [moBL, tab_len, List.length_replicate]; omega
  · simp


set_option maxHeartbeats 1600000 in
theorem gen_FnExactConstantBits (m : Int) (x : Int) (n : Int)  (ys : List Int) (ok : Bool) (w : World)  (hy : ys.length ≤ 2000000) (hspec : ∀ (w : World) , Calls Try.prog 5 #[.int .i64 m, .int .i64 x, .int .i64 n] w (Gives w ys ok)) (himpl : ∀ (w : World) , Calls Try.prog 6 #[.int .i64 m, .int .i64 x, .int .i64 n] w (Gives w ys ok)) :
    Calls Try.prog 3 #[.int .i64 m, .int .i64 x, .int .i64 n] w fun e w' => e = .returned (.bool true) ∧ Below w.heap.size w w' := by
  have HSP := hid hspec
  have HIM := hid himpl
  clear hspec himpl
  all_goals cases ok
  all_goals
    go_enter Try.func3, Try.ntmps3
    go_wp2_with fail
    refine (HSP.out _).mono ?_
    rintro e w1 ⟨v_R0, rfl, R0, hb⟩
    have B1 := hb
    have hz1 : w.heap.size ≤ w1.heap.size := by first | exact hb.size | (have := hb.size; simp at this; omega)
    have hlt0 : ∀ g, v_R0.ownBlock = some g → g < w1.heap.size := fun g hg => R0.lt hg
    have Hlt0 := hid hlt0
    clear hlt0
    go_wp2_with fail
    refine (HIM.out _).mono ?_
    rintro e w2 ⟨v_R1, rfl, R1, hb⟩
    have B2 := bel_step B1 hb
    have hz2 : w1.heap.size ≤ w2.heap.size := hb.size
    have R0_2 := R0.kept hb
    have hne01 : ∀ g, v_R0.ownBlock = some g → v_R1.ownBlock ≠ some g := fun g hg e => by have a1 := R1.ge e; have a2 := Hlt0.out g hg; omega
    have Hne01 := hid hne01
    clear hne01
    have hge1 : ∀ g, v_R1.ownBlock = some g → w1.heap.size ≤ g := fun g hg => R1.ge hg
    have Hge1 := hid hge1
    clear hge1
    go_wp2_with fail
    refine (eqIntS_same _ _ ys _ R1.sl R0_2.sl hy).mono ?_
    rintro e w3 ⟨rfl, hb⟩
    have B3 := bel_step B2 hb
    have hz3 : w2.heap.size ≤ w3.heap.size := hb.size
    have R0_3 := R0_2.kept hb
    have R1_3 := R1.kept hb
    go_wp2_with fail
    refine (markIntS_one _ ys _ _ R1_3 hy).mono ?_
    rintro e w4 ⟨rfl, ho, M⟩
    have B4 := B3.trans (ho.below fun g hg => Nat.le_trans B1.size (Hge1.out g hg))
    have hz4 : w3.heap.size ≤ w4.heap.size := Nat.le_of_eq ho.size.symm
    have R0_4 := R0_3.only ho Hne01.out
    go_wp2_with fail
    refine (heldIntS_one _ ys.length _ _ M hy).mono ?_
    rintro e w' ⟨rfl, rfl⟩
    go_wp2_with fail
    refine (HIM.out _).mono ?_
    rintro e w5 ⟨v_R2, rfl, R2, hb⟩
    have B5 := bel_step B4 hb
    have hz5 : w4.heap.size ≤ w5.heap.size := hb.size
    have R0_5 := R0_4.kept hb
    have M_5 := M.kept hb
    go_wp2_with fail
    refine (eqIntS_same _ _ ys _ R2.sl R0_5.sl hy).mono ?_
    rintro e w6 ⟨rfl, hb⟩
    have B6 := bel_step B5 hb
    have hz6 : w5.heap.size ≤ w6.heap.size := hb.size
    have R0_6 := R0_5.kept hb
    have M_6 := M_5.kept hb
    have R2_6 := R2.kept hb
    go_wp2_with fail
    refine (heldIntS_one _ ys.length _ _ M_6 hy).mono ?_
    rintro e w' ⟨rfl, rfl⟩
    go_wp2_with fail
    go_ret
    exact ⟨rfl, B6⟩


set_option maxHeartbeats 1600000 in
theorem walk_FnExactConstantBits (w : World) (m : Int) (w_m : (Lit.int .i64 m).wf = true) (x : Int) (w_x : (Lit.int .i64 x).wf = true) (n : Int) (w_n : (Lit.int .i64 n).wf = true) :
    Calls Try.prog 3 #[.int .i64 m, .int .i64 x, .int .i64 n] w fun e w' => e = .returned (.bool true) ∧ Below w.heap.size w w' := by
  obtain ⟨m_1, m_2⟩ := bounds_i64 w_m
  obtain ⟨x_1, x_2⟩ := bounds_i64 w_x
  obtain ⟨n_1, n_2⟩ := bounds_i64 w_n
  exact gen_FnExactConstantBits m x n _ _ w cbk_len (fun w  => spec_ConstantBits_any m x n w) (fun w  => impl_ConstantBits_any m x n w)

end Go.Proofs.Ytbekmfhcbcgfgaa
