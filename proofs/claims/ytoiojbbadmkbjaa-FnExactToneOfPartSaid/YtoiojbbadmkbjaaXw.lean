
import Derived.Test.YtoiojbbadmkbjaaXj
import Derived.Test.YtoiojbbadmkbjaaXo
import Derived.Deep.RegionHeld3
namespace Go.Proofs.Ytoiojbbadmkbjaa
open Go.RowKit BitX Go.MemX Go.Ch6 Go.Ch9 FltX
set_option linter.unusedVariables false
theorem t4_in {k : Int} {b : Bool} (h : toneB k 4 = b) : decide (0 ≤ k ∧ k ≤ 3) = b := by
  rw [← h]; unfold toneB; exact decide_eq_decide.2 ⟨fun q => ⟨.inl rfl, q.1, by omega⟩, fun q => ⟨q.2.1, by omega⟩⟩
theorem t6_in {k : Int} {b : Bool} (h : toneB k 6 = b) : decide (0 ≤ k ∧ k ≤ 5) = b := by
  rw [← h]; unfold toneB; exact decide_eq_decide.2 ⟨fun q => ⟨.inr rfl, q.1, by omega⟩, fun q => ⟨q.2.1, by omega⟩⟩
theorem mw4 (re im : Nat) (w : World) : (method 174 51 (.complex .f64 re im) "loop.example/g01198/impl.wave").run Try.prog w = .ok (48, .complex .f64 re im) w := by kernel_rfl
theorem mw6 (x y : Int) (w : World) : (method 174 53 (.agg #[.int .i64 x, .int .i64 y]) "loop.example/g01198/impl.wave").run Try.prog w = .ok (52, .agg #[.int .i64 x, .int .i64 y]) w := by kernel_rfl
set_option maxHeartbeats 1000000 in
theorem fwave_any (re im : Nat) (x : Int) (w : World) (hre : RepE Ieee.double re x 0) (x1 : -6400000 ≤ x) (x2 : x ≤ 6400000) :
    Calls Try.prog 48 #[.complex .f64 re im] w fun e w' => e = .returned (.int .i64 x) ∧ Below w.heap.size w w' := by
  have b1 := back64' (P := Try.prog) 70 3 hre.rep (by omega) (by kernel_rfl) (by kernel_rfl)
  clear hre
  go_enter Try.func48, Try.ntmps48
  go_wp2
  go_ret
  exact ⟨rfl, Below.refl _ _⟩
set_option maxHeartbeats 1000000 in
theorem swave_any (x y : Int) (w : World) (x1 : -6400000 ≤ x) (x2 : x ≤ 6400000) (y1 : -6400000 ≤ y) (y2 : y ≤ 6400000) :
    Calls Try.prog 52 #[.agg #[.int .i64 x, .int .i64 y]] w fun e w' => e = .returned (.int .i64 (2 * x + y)) ∧ Below w.heap.size w w' := by
  go_enter Try.func52, Try.ntmps52
  go_wp2
  go_ret
  exact ⟨rfl, bel_alloc _ _⟩
def lnB9 (n : Int) : Bool := decide (0 ≤ n ∧ n ≤ 64)
def szB9 (z : Int) : Bool := decide (0 ≤ z ∧ z ≤ 1000)
def tpB (p k z n : Int) : Bool := toneB k p && (szB9 z && lnB9 n)
theorem tp_n1 {p k z n : Int} (h : toneB k p = false) : tpB p k z n = false := by unfold tpB; rw [h]; rfl
theorem tp_n2 {p k z n : Int} (h : szB9 z = false) : tpB p k z n = false := by unfold tpB; rw [h, Bool.false_and, Bool.and_false]
theorem tp_n3 {p k z n : Int} (h : lnB9 n = false) : tpB p k z n = false := by unfold tpB; rw [h, Bool.and_false, Bool.and_false]
theorem tp_t {p k z n : Int} (h : toneB k p = true) (h2 : szB9 z = true) (h3 : lnB9 n = true) : tpB p k z n = true := by unfold tpB; rw [h, h2, h3]; rfl
theorem tone_bad {p k : Int} (h : decide (p = 4 ∨ p = 6) = false) : toneB k p = false := decide_eq_false fun q => of_decide_eq_false h q.1
def tpL (p : Nat) (k z n : Int) : List Int := tab n.toNat fun m => waI p z.toNat (k.toNat * m)
theorem tpL_len (p : Nat) (k z n : Int) : (tpL p k z n).length = n.toNat := tab_len _ _
theorem lnB9_t {n : Int} (h : lnB9 n = true) : 0 ≤ n ∧ n ≤ 64 := of_decide_eq_true h
theorem szB9_t {n : Int} (h : szB9 n = true) : 0 ≤ n ∧ n ≤ 1000 := of_decide_eq_true h

set_option maxHeartbeats 400000 in
theorem isLength_is (x : Int) (q : Bool) (w : World) (h : lnB9 x = q) :
    Calls Try.prog 26 #[.int .i64 x] w fun e w' => e = .returned (.bool (q)) ∧ w = w' := by
  cases q
  · have h := of_decide_eq_false h
    by_cases h1 : x < 0
    · clear h
      go_enter Try.func26, Try.ntmps26
      go_wp2
      go_ret
      exact ⟨by first | rfl | exact ret_b (decide_eq_false (by omega)) | exact ret_b (decide_eq_true (by omega)), rfl⟩
    · have h2 : 64 < x := by omega
      have h3 : 0 ≤ x := by omega
      clear h h1
      go_enter Try.func26, Try.ntmps26
      go_wp2
      go_ret
      exact ⟨by first | rfl | exact ret_b (decide_eq_false (by omega)) | exact ret_b (decide_eq_true (by omega)), rfl⟩
  · have h := of_decide_eq_true h
    obtain ⟨h1, h2⟩ := h
    go_enter Try.func26, Try.ntmps26
    go_wp2
    go_ret
    exact ⟨by first | rfl | exact ret_b (decide_eq_false (by omega)) | exact ret_b (decide_eq_true (by omega)), rfl⟩

set_option maxHeartbeats 400000 in
theorem tnParts_is (p : Int) (b : Bool) (w : World) (h : decide (p = 4 ∨ p = 6) = b) : Calls Try.prog 22 #[.int .i64 p] w fun e w' => e = .returned (.bool (b)) ∧ w = w' := by
  by_cases h4 : p = 4
  · subst h4
    obtain rfl : b = true := h.symm
    clear h
    go_enter Try.func22, Try.ntmps22
    go_wp2
    go_ret
    exact ⟨rfl, rfl⟩
  · by_cases h6 : p = 6
    · subst h6
      obtain rfl : b = true := h.symm
      clear h h4
      go_enter Try.func22, Try.ntmps22
      go_wp2
      go_ret
      exact ⟨rfl, rfl⟩
    · obtain rfl : b = false := by rw [← h]; exact decide_eq_false (by omega)
      have q4 : (p == 4) = false := by rw [beq_eq_false_iff_ne]; exact h4
      have q6 : (p == 6) = false := by rw [beq_eq_false_iff_ne]; exact h6
      clear h h4 h6
      go_enter Try.func22, Try.ntmps22
      go_wp2
      go_ret
      exact ⟨by first | rfl | simp [q4, q6], rfl⟩


set_option maxHeartbeats 2000000 in
theorem spec_top_4 (k z n : Int) (w : World) :
    Calls Try.prog 12 #[.int .i64 4, .int .i64 k, .int .i64 z, .int .i64 n] w (Gives w (onL (tpB 4 k z n) (tpL 4 k z n)) (tpB 4 k z n)) := by
  cases h0 : toneB k 4
  · have HB0 := hid h0
    clear h0
    go_enter Try.func12, Try.ntmps12
    go_wp2_with fail
    refine (tnParts_is 4 true _ rfl).mono ?_
    rintro e w' ⟨rfl, rfl⟩
    go_wp2_with fail
    refine (l1In_is _ _ _ false _ (t4_in HB0.out)).mono ?_
    rintro e w' ⟨rfl, rfl⟩
    go_wp2_with fail
    go_ret2
    exact gives_no (tp_n1 HB0.out) (Below.refl _ _)
  · have HB0 := hid h0
    clear h0
    cases h1 : szB9 z
    · have HB1 := hid h1
      clear h1
      go_enter Try.func12, Try.ntmps12
      go_wp2_with fail
      refine (tnParts_is 4 true _ rfl).mono ?_
      rintro e w' ⟨rfl, rfl⟩
      go_wp2_with fail
      refine (l1In_is _ _ _ true _ (t4_in HB0.out)).mono ?_
      rintro e w' ⟨rfl, rfl⟩
      go_wp2_with fail
      refine (l1In_is _ _ _ false _ HB1.out).mono ?_
      rintro e w' ⟨rfl, rfl⟩
      go_wp2_with fail
      go_ret2
      exact gives_no (tp_n2 HB1.out) (Below.refl _ _)
    · have HB1 := hid h1
      clear h1
      cases h2 : lnB9 n
      · have HB2 := hid h2
        clear h2
        go_enter Try.func12, Try.ntmps12
        go_wp2_with fail
        refine (tnParts_is 4 true _ rfl).mono ?_
        rintro e w' ⟨rfl, rfl⟩
        go_wp2_with fail
        refine (l1In_is _ _ _ true _ (t4_in HB0.out)).mono ?_
        rintro e w' ⟨rfl, rfl⟩
        go_wp2_with fail
        refine (l1In_is _ _ _ true _ HB1.out).mono ?_
        rintro e w' ⟨rfl, rfl⟩
        go_wp2_with fail
        refine (l1In_is _ _ _ false _ HB2.out).mono ?_
        rintro e w' ⟨rfl, rfl⟩
        go_wp2_with fail
        go_ret2
        exact gives_no (tp_n3 HB2.out) (Below.refl _ _)
      · have HB2 := hid h2
        clear h2
        have HBZ := hid HB1.out
        have HBN := hid HB2.out
        obtain ⟨_, k0, k1⟩ := tone_t HB0.out
        obtain ⟨z0, z1⟩ := szB9_t HBZ.out
        obtain ⟨n0, n1⟩ := lnB9_t HBN.out
        obtain ⟨K, rfl⟩ : ∃ K : Nat, k = K := ⟨k.toNat, by omega⟩
        obtain ⟨Z, rfl⟩ : ∃ Z : Nat, z = Z := ⟨z.toNat, by omega⟩
        obtain ⟨N, rfl⟩ : ∃ N : Nat, n = N := ⟨n.toNat, by omega⟩
        go_enter Try.func12, Try.ntmps12
        go_wp2_with fail
        refine (tnParts_is 4 true _ rfl).mono ?_
        rintro e w' ⟨rfl, rfl⟩
        go_wp2_with fail
        refine (l1In_is _ _ _ true _ (t4_in HB0.out)).mono ?_
        rintro e w' ⟨rfl, rfl⟩
        go_wp2_with fail
        refine (l1In_is _ _ _ true _ HB1.out).mono ?_
        rintro e w' ⟨rfl, rfl⟩
        go_wp2_with fail
        refine (l1In_is _ _ _ true _ HB2.out).mono ?_
        rintro e w' ⟨rfl, rfl⟩
        obtain ⟨i0, hi0, hz0, hz1, hz2⟩ := info_parts iint
        go_wp2_with fail
        go_loopw [10, 11] (fun v i wr => ∃ c : Nat, c ≤ N ∧ i = .int .i64 c ∧ wr.ownsRow w.heap.size 3 1 v c ((tab c (fun m => waI 4 Z (K * m))).map (Value.int .i64)) ∧ Below w.heap.size w wr)
          (fun _ i _ => N - (intOf i).toNat)
        case atStart => exact ⟨0, by omega, rfl, World.ownsRow_nil _ _ _ _, Below.refl _ _⟩
        case round =>
          obtain ⟨c, hc, rfl, hown, hb⟩ := hrel
          have hsz : w.heap.size ≤ wr.heap.size := hb.size
          by_cases hlk : c < N
          · obtain ⟨m, hm⟩ : ∃ m, m = K * c := ⟨_, rfl⟩
            have hm4 : m ≤ 400 := by rw [hm]; exact Nat.le_trans (Nat.mul_le_mul (show K ≤ 6 by omega) (show c ≤ 64 by omega)) (by omega)
            have hmi : (K : Int) * (c : Int) = (m : Int) := by rw [hm]; exact (Int.natCast_mul _ _).symm
            have e1 : ∀ [Inhabited Unit], wrap64 ((K : Int) * (c : Int)) = (m : Int) := by rw [hmi]; exact IntWalk.wrap64_in _ (by clear hm hmi; omega)
            have HM := hid hm
            obtain ⟨u1, u2⟩ := tuX_in 4 m
            obtain ⟨v1, v2⟩ := tuY_in 4 m
            have hst : tab (c + 1) (fun m => waI 4 Z (K * m)) = tab c (fun m => waI 4 Z (K * m)) ++ [waI 4 Z m] := by rw [HM.out]; exact tab_step c (fun m => waI 4 Z (K * m))
            have hwa : waI 4 Z m = (Z : Int) * tuX 4 m := rfl
            have hpr : -3000 ≤ (Z : Int) * tuX 4 m ∧ (Z : Int) * tuX 4 m ≤ 3000 := by
              have := mul_in (a := (Z : Int)) (b := tuX 4 m) (A := 1000) (B := 3) (by omega) (by omega) (by omega) (by omega) (by omega)
              omega
            rw [hwa] at hst
            generalize htx : tuX 4 m = tx at *
            generalize hty : tuY 4 m = ty at *
            have e4 : ∀ [Inhabited Unit], wrap64 ((Z : Int) * tx) = (Z : Int) * tx := IntWalk.wrap64_in _ (by clear hm hmi; omega)
            have Hst := hid hst
            have Hxy := hid (And.intro htx hty)
            have Hob := hid (ownsRow_base hown)
            have Hown := hid hown
            clear hst hwa hpr htx hty hown hm hmi
            go_wp2_with fail
            refine (tnTurn_4 m _ (by omega)).mono ?_
            rintro e w2 ⟨rfl, hb2⟩
            rw [Hxy.out.1, Hxy.out.2]
            have hB2 : Below w.heap.size w (w2.alloc (.cells #[.int .i64 tx, .int .i64 ty] 41)) := (hb.trans (hb2.mono hsz)).alloc (Nat.le_trans hsz hb2.size) _
            have hs2 : w.heap.size ≤ (w2.alloc (.cells #[.int .i64 tx, .int .i64 ty] 41)).heap.size := hB2.size
            obtain ⟨d0, d1⟩ := (Pair9.new tx ty w2).cells
            have hown2 := (ownsRow_below Hown.out hb2).alloc (.cells #[.int .i64 tx, .int .i64 ty] 41)
            have Hown2 := hid hown2
            have HB2 := hid hB2
            clear hown2 hB2 hb2
            go_wp2_with (at_builtin; refine wpList_append_own _ rfl _ _ 22 rfl w.heap.size 3 i0 (.int .i64 0) 1 8 uslice hi0 hz0 hz1 hz2 rfl (by decide) _ _ _ rfl (Hown2.out.alloc _) ⟨w2.heap.size + 1, 0, none⟩ 1 1 [.int .i64 ((Z : Int) * tx)] rfl rfl ?c1 ?c2 ?c3 ?c4 ?c5 ?_)
            case c1 => rw [show w2.heap.size + 1 = (w2.alloc (.cells #[.int .i64 tx, .int .i64 ty] 41)).heap.size from by simp]; exact cell_one_new _ _ _
            case c2 => intro u hu; simp at hu; subst hu; rfl
            case c3 => unfold maxLen; omega
            case c4 => omega
            case c5 => simp at hs2 ⊢; omega
            intro v' w3 hown3 hgrow _
            have hb3 : Below w.heap.size w w3 := (HB2.out.alloc hs2 _).grown hgrow (by simp at hs2 ⊢; omega) (fun j hj => Hob.out j hj)
            have Hown3 := hid hown3
            clear hown3 hgrow
            go_wp2
            go_roundw
            case rel => exact ⟨c + 1, by omega, by go_num, by rw [Hst.out, List.map_append]; exact Hown3.out, hb3⟩
            case measure => simp [intOf]; omega
          · have hge : (N : Int) ≤ (c : Int) := by omega
            have hkn : c = N := by omega
            have Hk := hid hkn
            have Hown := hid hown
            clear hkn hlk hown
            go_wp2
            go_ret2
            have ho := Hown.out
            rw [Hk.out] at ho
            exact gives_yes (tp_t HB0.out HBZ.out HBN.out) (Res.owns (by rw [tpL_len]; exact ho)) hb


set_option maxHeartbeats 2000000 in
theorem spec_top_6 (k z n : Int) (w : World) :
    Calls Try.prog 12 #[.int .i64 6, .int .i64 k, .int .i64 z, .int .i64 n] w (Gives w (onL (tpB 6 k z n) (tpL 6 k z n)) (tpB 6 k z n)) := by
  cases h0 : toneB k 6
  · have HB0 := hid h0
    clear h0
    go_enter Try.func12, Try.ntmps12
    go_wp2_with fail
    refine (tnParts_is 6 true _ rfl).mono ?_
    rintro e w' ⟨rfl, rfl⟩
    go_wp2_with fail
    refine (l1In_is _ _ _ false _ (t6_in HB0.out)).mono ?_
    rintro e w' ⟨rfl, rfl⟩
    go_wp2_with fail
    go_ret2
    exact gives_no (tp_n1 HB0.out) (Below.refl _ _)
  · have HB0 := hid h0
    clear h0
    cases h1 : szB9 z
    · have HB1 := hid h1
      clear h1
      go_enter Try.func12, Try.ntmps12
      go_wp2_with fail
      refine (tnParts_is 6 true _ rfl).mono ?_
      rintro e w' ⟨rfl, rfl⟩
      go_wp2_with fail
      refine (l1In_is _ _ _ true _ (t6_in HB0.out)).mono ?_
      rintro e w' ⟨rfl, rfl⟩
      go_wp2_with fail
      refine (l1In_is _ _ _ false _ HB1.out).mono ?_
      rintro e w' ⟨rfl, rfl⟩
      go_wp2_with fail
      go_ret2
      exact gives_no (tp_n2 HB1.out) (Below.refl _ _)
    · have HB1 := hid h1
      clear h1
      cases h2 : lnB9 n
      · have HB2 := hid h2
        clear h2
        go_enter Try.func12, Try.ntmps12
        go_wp2_with fail
        refine (tnParts_is 6 true _ rfl).mono ?_
        rintro e w' ⟨rfl, rfl⟩
        go_wp2_with fail
        refine (l1In_is _ _ _ true _ (t6_in HB0.out)).mono ?_
        rintro e w' ⟨rfl, rfl⟩
        go_wp2_with fail
        refine (l1In_is _ _ _ true _ HB1.out).mono ?_
        rintro e w' ⟨rfl, rfl⟩
        go_wp2_with fail
        refine (l1In_is _ _ _ false _ HB2.out).mono ?_
        rintro e w' ⟨rfl, rfl⟩
        go_wp2_with fail
        go_ret2
        exact gives_no (tp_n3 HB2.out) (Below.refl _ _)
      · have HB2 := hid h2
        clear h2
        have HBZ := hid HB1.out
        have HBN := hid HB2.out
        obtain ⟨_, k0, k1⟩ := tone_t HB0.out
        obtain ⟨z0, z1⟩ := szB9_t HBZ.out
        obtain ⟨n0, n1⟩ := lnB9_t HBN.out
        obtain ⟨K, rfl⟩ : ∃ K : Nat, k = K := ⟨k.toNat, by omega⟩
        obtain ⟨Z, rfl⟩ : ∃ Z : Nat, z = Z := ⟨z.toNat, by omega⟩
        obtain ⟨N, rfl⟩ : ∃ N : Nat, n = N := ⟨n.toNat, by omega⟩
        go_enter Try.func12, Try.ntmps12
        go_wp2_with fail
        refine (tnParts_is 6 true _ rfl).mono ?_
        rintro e w' ⟨rfl, rfl⟩
        go_wp2_with fail
        refine (l1In_is _ _ _ true _ (t6_in HB0.out)).mono ?_
        rintro e w' ⟨rfl, rfl⟩
        go_wp2_with fail
        refine (l1In_is _ _ _ true _ HB1.out).mono ?_
        rintro e w' ⟨rfl, rfl⟩
        go_wp2_with fail
        refine (l1In_is _ _ _ true _ HB2.out).mono ?_
        rintro e w' ⟨rfl, rfl⟩
        obtain ⟨i0, hi0, hz0, hz1, hz2⟩ := info_parts iint
        go_wp2_with fail
        go_loopw [10, 11] (fun v i wr => ∃ c : Nat, c ≤ N ∧ i = .int .i64 c ∧ wr.ownsRow w.heap.size 3 1 v c ((tab c (fun m => waI 6 Z (K * m))).map (Value.int .i64)) ∧ Below w.heap.size w wr)
          (fun _ i _ => N - (intOf i).toNat)
        case atStart => exact ⟨0, by omega, rfl, World.ownsRow_nil _ _ _ _, Below.refl _ _⟩
        case round =>
          obtain ⟨c, hc, rfl, hown, hb⟩ := hrel
          have hsz : w.heap.size ≤ wr.heap.size := hb.size
          by_cases hlk : c < N
          · obtain ⟨m, hm⟩ : ∃ m, m = K * c := ⟨_, rfl⟩
            have hm4 : m ≤ 400 := by rw [hm]; exact Nat.le_trans (Nat.mul_le_mul (show K ≤ 6 by omega) (show c ≤ 64 by omega)) (by omega)
            have hmi : (K : Int) * (c : Int) = (m : Int) := by rw [hm]; exact (Int.natCast_mul _ _).symm
            have e1 : ∀ [Inhabited Unit], wrap64 ((K : Int) * (c : Int)) = (m : Int) := by rw [hmi]; exact IntWalk.wrap64_in _ (by clear hm hmi; omega)
            have HM := hid hm
            obtain ⟨u1, u2⟩ := tuX_in 6 m
            obtain ⟨v1, v2⟩ := tuY_in 6 m
            have hst : tab (c + 1) (fun m => waI 6 Z (K * m)) = tab c (fun m => waI 6 Z (K * m)) ++ [waI 6 Z m] := by rw [HM.out]; exact tab_step c (fun m => waI 6 Z (K * m))
            have hwa : waI 6 Z m = (Z : Int) * (2 * tuX 6 m + tuY 6 m) := rfl
            have hpr : -3000 ≤ (Z : Int) * (2 * tuX 6 m + tuY 6 m) ∧ (Z : Int) * (2 * tuX 6 m + tuY 6 m) ≤ 3000 := by
              have := mul_in (a := (Z : Int)) (b := 2 * tuX 6 m + tuY 6 m) (A := 1000) (B := 3) (by omega) (by omega) (by omega) (by omega) (by omega)
              omega
            rw [hwa] at hst
            generalize htx : tuX 6 m = tx at *
            generalize hty : tuY 6 m = ty at *
            have e4 : ∀ [Inhabited Unit], wrap64 ((Z : Int) * (2 * tx + ty)) = (Z : Int) * (2 * tx + ty) := IntWalk.wrap64_in _ (by clear hm hmi; omega)
            have Hst := hid hst
            have Hxy := hid (And.intro htx hty)
            have Hob := hid (ownsRow_base hown)
            have Hown := hid hown
            clear hst hwa hpr htx hty hown hm hmi
            go_wp2_with fail
            refine (tnTurn_6 m _ (by omega)).mono ?_
            rintro e w2 ⟨rfl, hb2⟩
            rw [Hxy.out.1, Hxy.out.2]
            have hB2 : Below w.heap.size w (w2.alloc (.cells #[.int .i64 tx, .int .i64 ty] 41)) := (hb.trans (hb2.mono hsz)).alloc (Nat.le_trans hsz hb2.size) _
            have hs2 : w.heap.size ≤ (w2.alloc (.cells #[.int .i64 tx, .int .i64 ty] 41)).heap.size := hB2.size
            obtain ⟨d0, d1⟩ := (Pair9.new tx ty w2).cells
            have hown2 := (ownsRow_below Hown.out hb2).alloc (.cells #[.int .i64 tx, .int .i64 ty] 41)
            have Hown2 := hid hown2
            have HB2 := hid hB2
            clear hown2 hB2 hb2
            go_wp2_with (at_builtin; refine wpList_append_own _ rfl _ _ 22 rfl w.heap.size 3 i0 (.int .i64 0) 1 8 uslice hi0 hz0 hz1 hz2 rfl (by decide) _ _ _ rfl (Hown2.out.alloc _) ⟨w2.heap.size + 1, 0, none⟩ 1 1 [.int .i64 ((Z : Int) * (2 * tx + ty))] rfl rfl ?c1 ?c2 ?c3 ?c4 ?c5 ?_)
            case c1 => rw [show w2.heap.size + 1 = (w2.alloc (.cells #[.int .i64 tx, .int .i64 ty] 41)).heap.size from by simp]; exact cell_one_new _ _ _
            case c2 => intro u hu; simp at hu; subst hu; rfl
            case c3 => unfold maxLen; omega
            case c4 => omega
            case c5 => simp at hs2 ⊢; omega
            intro v' w3 hown3 hgrow _
            have hb3 : Below w.heap.size w w3 := (HB2.out.alloc hs2 _).grown hgrow (by simp at hs2 ⊢; omega) (fun j hj => Hob.out j hj)
            have Hown3 := hid hown3
            clear hown3 hgrow
            go_wp2
            go_roundw
            case rel => exact ⟨c + 1, by omega, by go_num, by rw [Hst.out, List.map_append]; exact Hown3.out, hb3⟩
            case measure => simp [intOf]; omega
          · have hge : (N : Int) ≤ (c : Int) := by omega
            have hkn : c = N := by omega
            have Hk := hid hkn
            have Hown := hid hown
            clear hkn hlk hown
            go_wp2
            go_ret2
            have ho := Hown.out
            rw [Hk.out] at ho
            exact gives_yes (tp_t HB0.out HBZ.out HBN.out) (Res.owns (by rw [tpL_len]; exact ho)) hb


set_option maxHeartbeats 2000000 in
theorem impl_top_4 (k z n : Int) (w : World) :
    Calls Try.prog 13 #[.int .i64 4, .int .i64 k, .int .i64 z, .int .i64 n] w (Gives w (onL (tpB 4 k z n) (tpL 4 k z n)) (tpB 4 k z n)) := by
  cases h0 : toneB k 4
  · have HB0 := hid h0
    clear h0
    go_enter Try.func13, Try.ntmps13
    go_wp2_with fail
    refine (isTone_is _ 4 false _ HB0.out).mono ?_
    rintro e w' ⟨rfl, rfl⟩
    go_wp2_with fail
    go_ret2
    exact gives_no (tp_n1 HB0.out) (Below.refl _ _)
  · have HB0 := hid h0
    clear h0
    cases h1 : decide (0 ≤ z)
    · have HB1 := hid h1
      clear h1
      have e1 := Int.not_le.1 (of_decide_eq_false HB1.out)
      go_enter Try.func13, Try.ntmps13
      go_wp2_with fail
      refine (isTone_is _ 4 true _ HB0.out).mono ?_
      rintro e w' ⟨rfl, rfl⟩
      go_wp2_with fail
      go_ret2
      exact gives_no (tp_n2 (decide_eq_false (by omega))) (Below.refl _ _)
    · have HB1 := hid h1
      clear h1
      have e1 := of_decide_eq_true HB1.out
      cases h2 : decide (z ≤ 1000)
      · have HB2 := hid h2
        clear h2
        have e2 := Int.not_le.1 (of_decide_eq_false HB2.out)
        go_enter Try.func13, Try.ntmps13
        go_wp2_with fail
        refine (isTone_is _ 4 true _ HB0.out).mono ?_
        rintro e w' ⟨rfl, rfl⟩
        go_wp2_with fail
        go_ret2
        exact gives_no (tp_n2 (decide_eq_false (by omega))) (Below.refl _ _)
      · have HB2 := hid h2
        clear h2
        have e2 := of_decide_eq_true HB2.out
        cases h3 : lnB9 n
        · have HB3 := hid h3
          clear h3
          go_enter Try.func13, Try.ntmps13
          go_wp2_with fail
          refine (isTone_is _ 4 true _ HB0.out).mono ?_
          rintro e w' ⟨rfl, rfl⟩
          go_wp2_with fail
          refine (isLength_is _ false _ HB3.out).mono ?_
          rintro e w' ⟨rfl, rfl⟩
          go_wp2_with fail
          go_ret2
          exact gives_no (tp_n3 HB3.out) (Below.refl _ _)
        · have HB3 := hid h3
          clear h3
          have HBZ := hid (show szB9 z = true from decide_eq_true ⟨e1, e2⟩)
          have HBN := hid HB3.out
          obtain ⟨_, k0, k1⟩ := tone_t HB0.out
          obtain ⟨z0, z1⟩ := szB9_t HBZ.out
          obtain ⟨n0, n1⟩ := lnB9_t HBN.out
          obtain ⟨K, rfl⟩ : ∃ K : Nat, k = K := ⟨k.toNat, by omega⟩
          obtain ⟨Z, rfl⟩ : ∃ Z : Nat, z = Z := ⟨z.toNat, by omega⟩
          obtain ⟨N, rfl⟩ : ∃ N : Nat, n = N := ⟨n.toNat, by omega⟩
          go_enter Try.func13, Try.ntmps13
          go_wp2_with fail
          refine (isTone_is _ 4 true _ HB0.out).mono ?_
          rintro e w' ⟨rfl, rfl⟩
          go_wp2_with fail
          refine (isLength_is _ true _ HB3.out).mono ?_
          rintro e w' ⟨rfl, rfl⟩
          have hmk := run_make_ints (P := Try.prog) 22 3 uslice iint N (by omega)
          have na := na4
          have me := me4
          have mw := mw4
          go_wp2_with fail
          go_loopw [33] (fun i wr => ∃ c : Nat, c ≤ N ∧ i = .int .i64 c ∧ Blk 3 wr w.heap.size (upTo (tab N (fun m => waI 4 Z (K * m))) c) ∧ Below w.heap.size w wr)
            (fun i _ => N - (intOf i).toNat)
          case atStart => exact ⟨0, by omega, rfl, by rw [upTo_zero, tab_len]; exact heap_alloc_new _ _, bel_alloc _ _⟩
          case round =>
            obtain ⟨c, hc, rfl, hblk, hb⟩ := hrel
            have hsz : w.heap.size ≤ wr.heap.size := hb.size
            by_cases hlk : c < N
            · obtain ⟨m, hm⟩ : ∃ m, m = K * c := ⟨_, rfl⟩
              have hm4 : m ≤ 400 := by rw [hm]; exact Nat.le_trans (Nat.mul_le_mul (show K ≤ 6 by omega) (show c ≤ 64 by omega)) (by omega)
              have hmi : (K : Int) * (c : Int) = (m : Int) := by rw [hm]; exact (Int.natCast_mul _ _).symm
              have e1 : ∀ [Inhabited Unit], IntKind.i64.wrap ((K : Int) * (c : Int)) = (m : Int) := by rw [hmi]; exact IntWalk.i64_in _ (by clear hm hmi; omega)
              have HM := hid hm
              obtain ⟨j, hj0⟩ : ∃ j, j = m % 4 := ⟨_, rfl⟩
              have hj : j < 4 := by rw [hj0]; exact Nat.mod_lt _ (by omega)
              have e2 : ∀ [Inhabited Unit], (m : Int).tmod 4 = (j : Int) := by rw [hj0]; exact (Int.tmod_eq_emod_of_nonneg (by omega)).trans rfl
              have e3 : ∀ [Inhabited Unit], IntKind.i64.wrap (j : Int) = (j : Int) := IntWalk.i64_in _ (by clear hm hmi hj0; omega)
              have hwa := show waI 4 Z m = (Z : Int) * t4X j from by rw [hj0]; rfl
              have hkt : (tab N (fun m => waI 4 Z (K * m)))[c]? = some (waI 4 Z m) := by rw [HM.out]; exact tab_get N (fun m => waI 4 Z (K * m)) c hlk
              rw [hwa] at hkt
              have hpr : -3000 ≤ (Z : Int) * t4X j ∧ (Z : Int) * t4X j ≤ 3000 := by
                have := t4X_in j
                have := mul_in (a := (Z : Int)) (b := t4X j) (A := 1000) (B := 3) (by omega) (by omega) (by omega) (by omega) (by omega)
                omega
              have Hkt := hid hkt
              have Hblk := hid hblk
              clear hkt hwa hj0 hm hmi hblk
              go_wp2_with fail
              go_region_with (first | (go_at_call 27; refine (silence_4 _).mono ?_; rintro e w1 ⟨rfl, rfl⟩) | (go_at_call 49; refine (fwith_any 0 0 0 0 (Z : Int) j _ hj rep_0 rep_0 (by omega) (by omega) (by omega) (by omega) (by omega) (by omega)).mono ?_; rintro e w2 ⟨⟨re', im', rfl, r1, r2⟩, hb2⟩; have R3 := hid r1; clear r1 r2; have hB := hb.trans ((bel_undrew hb2).mono hsz)) | (go_at_call 48; refine (fwave_any re' im' _ _ R3.out (by omega) (by omega)).mono ?_; rintro e w3 ⟨rfl, hb3⟩; have hB3 : Below w.heap.size w w3 := hB.trans (hb3.mono hB.size); have hblk2 := (Hblk.out.kept (bel_undrew hb2) Hblk.out.lt).kept hb3 (Hblk.out.kept (bel_undrew hb2) Hblk.out.lt).lt; have hcd : w3.cell? ⟨w.heap.size, c, none⟩ = some (.int .i64 0) := hblk2.cell (upTo_get (tab N (fun m => waI 4 Z (K * m))) c (by rw [tab_len]; exact hlk)); have hfd := hblk2.free c; have Hblk2 := hid hblk2; have HB3 := hid hB3; clear hblk2 hB3 hb3 hb2))
              all_goals go_wp2
              all_goals go_roundw
              case rel => exact ⟨c + 1, by omega, by go_num, by rw [← upTo_step (tab N (fun m => waI 4 Z (K * m))) c _ Hkt.out]; exact Hblk2.out.set c _, HB3.out.setCell (by exact Nat.le_refl _) _⟩
              case measure => simp [intOf]; omega
            · have hge : (N : Int) ≤ (c : Int) := by omega
              have hkn : c = N := by omega
              have Hk := hid hkn
              have Hblk := hid hblk
              clear hkn hlk hblk
              go_wp2
              go_ret2
              have hbk := Hblk.out
              rw [Hk.out, show upTo (tab N (fun m => waI 4 Z (K * m))) N = tab N (fun m => waI 4 Z (K * m)) from by have := upTo_full (tab N (fun m => waI 4 Z (K * m))); rwa [tab_len] at this] at hbk
              have h2 := hbk.res (Nat.le_refl w.heap.size)
              rw [tab_len] at h2
              exact gives_yes (tp_t HB0.out HBZ.out HBN.out) h2 hb


set_option maxHeartbeats 2000000 in
theorem impl_top_6 (k z n : Int) (w : World) :
    Calls Try.prog 13 #[.int .i64 6, .int .i64 k, .int .i64 z, .int .i64 n] w (Gives w (onL (tpB 6 k z n) (tpL 6 k z n)) (tpB 6 k z n)) := by
  cases h0 : toneB k 6
  · have HB0 := hid h0
    clear h0
    go_enter Try.func13, Try.ntmps13
    go_wp2_with fail
    refine (isTone_is _ 6 false _ HB0.out).mono ?_
    rintro e w' ⟨rfl, rfl⟩
    go_wp2_with fail
    go_ret2
    exact gives_no (tp_n1 HB0.out) (Below.refl _ _)
  · have HB0 := hid h0
    clear h0
    cases h1 : decide (0 ≤ z)
    · have HB1 := hid h1
      clear h1
      have e1 := Int.not_le.1 (of_decide_eq_false HB1.out)
      go_enter Try.func13, Try.ntmps13
      go_wp2_with fail
      refine (isTone_is _ 6 true _ HB0.out).mono ?_
      rintro e w' ⟨rfl, rfl⟩
      go_wp2_with fail
      go_ret2
      exact gives_no (tp_n2 (decide_eq_false (by omega))) (Below.refl _ _)
    · have HB1 := hid h1
      clear h1
      have e1 := of_decide_eq_true HB1.out
      cases h2 : decide (z ≤ 1000)
      · have HB2 := hid h2
        clear h2
        have e2 := Int.not_le.1 (of_decide_eq_false HB2.out)
        go_enter Try.func13, Try.ntmps13
        go_wp2_with fail
        refine (isTone_is _ 6 true _ HB0.out).mono ?_
        rintro e w' ⟨rfl, rfl⟩
        go_wp2_with fail
        go_ret2
        exact gives_no (tp_n2 (decide_eq_false (by omega))) (Below.refl _ _)
      · have HB2 := hid h2
        clear h2
        have e2 := of_decide_eq_true HB2.out
        cases h3 : lnB9 n
        · have HB3 := hid h3
          clear h3
          go_enter Try.func13, Try.ntmps13
          go_wp2_with fail
          refine (isTone_is _ 6 true _ HB0.out).mono ?_
          rintro e w' ⟨rfl, rfl⟩
          go_wp2_with fail
          refine (isLength_is _ false _ HB3.out).mono ?_
          rintro e w' ⟨rfl, rfl⟩
          go_wp2_with fail
          go_ret2
          exact gives_no (tp_n3 HB3.out) (Below.refl _ _)
        · have HB3 := hid h3
          clear h3
          have HBZ := hid (show szB9 z = true from decide_eq_true ⟨e1, e2⟩)
          have HBN := hid HB3.out
          obtain ⟨_, k0, k1⟩ := tone_t HB0.out
          obtain ⟨z0, z1⟩ := szB9_t HBZ.out
          obtain ⟨n0, n1⟩ := lnB9_t HBN.out
          obtain ⟨K, rfl⟩ : ∃ K : Nat, k = K := ⟨k.toNat, by omega⟩
          obtain ⟨Z, rfl⟩ : ∃ Z : Nat, z = Z := ⟨z.toNat, by omega⟩
          obtain ⟨N, rfl⟩ : ∃ N : Nat, n = N := ⟨n.toNat, by omega⟩
          go_enter Try.func13, Try.ntmps13
          go_wp2_with fail
          refine (isTone_is _ 6 true _ HB0.out).mono ?_
          rintro e w' ⟨rfl, rfl⟩
          go_wp2_with fail
          refine (isLength_is _ true _ HB3.out).mono ?_
          rintro e w' ⟨rfl, rfl⟩
          have hmk := run_make_ints (P := Try.prog) 22 3 uslice iint N (by omega)
          have na := na6
          have me := me6
          have mw := mw6
          go_wp2_with fail
          go_loopw [33] (fun i wr => ∃ c : Nat, c ≤ N ∧ i = .int .i64 c ∧ Blk 3 wr w.heap.size (upTo (tab N (fun m => waI 6 Z (K * m))) c) ∧ Below w.heap.size w wr)
            (fun i _ => N - (intOf i).toNat)
          case atStart => exact ⟨0, by omega, rfl, by rw [upTo_zero, tab_len]; exact heap_alloc_new _ _, bel_alloc _ _⟩
          case round =>
            obtain ⟨c, hc, rfl, hblk, hb⟩ := hrel
            have hsz : w.heap.size ≤ wr.heap.size := hb.size
            by_cases hlk : c < N
            · obtain ⟨m, hm⟩ : ∃ m, m = K * c := ⟨_, rfl⟩
              have hm4 : m ≤ 400 := by rw [hm]; exact Nat.le_trans (Nat.mul_le_mul (show K ≤ 6 by omega) (show c ≤ 64 by omega)) (by omega)
              have hmi : (K : Int) * (c : Int) = (m : Int) := by rw [hm]; exact (Int.natCast_mul _ _).symm
              have e1 : ∀ [Inhabited Unit], IntKind.i64.wrap ((K : Int) * (c : Int)) = (m : Int) := by rw [hmi]; exact IntWalk.i64_in _ (by clear hm hmi; omega)
              have HM := hid hm
              obtain ⟨j, hj0⟩ : ∃ j, j = m % 6 := ⟨_, rfl⟩
              have hj : j < 6 := by rw [hj0]; exact Nat.mod_lt _ (by omega)
              have e2 : ∀ [Inhabited Unit], (m : Int).tmod 6 = (j : Int) := by rw [hj0]; exact (Int.tmod_eq_emod_of_nonneg (by omega)).trans rfl
              have e3 : ∀ [Inhabited Unit], IntKind.i64.wrap (j : Int) = (j : Int) := IntWalk.i64_in _ (by clear hm hmi hj0; omega)
              have hwa := show waI 6 Z m = 2 * ((Z : Int) * t6X j) + (Z : Int) * t6Y j from by
                rw [hj0]
                show (Z : Int) * (2 * t6X (m % 6) + t6Y (m % 6)) = _
                rw [Int.mul_add, Int.mul_left_comm]
              have hkt : (tab N (fun m => waI 6 Z (K * m)))[c]? = some (waI 6 Z m) := by rw [HM.out]; exact tab_get N (fun m => waI 6 Z (K * m)) c hlk
              rw [hwa] at hkt
              have hpr : -3000 ≤ (Z : Int) * t6X j ∧ (Z : Int) * t6X j ≤ 3000 ∧ -3000 ≤ (Z : Int) * t6Y j ∧ (Z : Int) * t6Y j ≤ 3000 := by
                have := t6X_in j
                have := t6Y_in j
                have := mul_in (a := (Z : Int)) (b := t6X j) (A := 1000) (B := 3) (by omega) (by omega) (by omega) (by omega) (by omega)
                have := mul_in (a := (Z : Int)) (b := t6Y j) (A := 1000) (B := 3) (by omega) (by omega) (by omega) (by omega) (by omega)
                omega
              have Hkt := hid hkt
              have Hblk := hid hblk
              clear hkt hwa hj0 hm hmi hblk
              go_wp2_with fail
              go_region_with (first | (go_at_call 27; refine (silence_6 _).mono ?_; rintro e w1 ⟨rfl, rfl⟩) | (go_at_call 53; refine (swith_any 0 0 (Z : Int) j _ hj (by omega) (by omega) (by omega) (by omega) (by omega) (by omega)).mono ?_; rintro e w2 ⟨rfl, hb2⟩; have hB := hb.trans ((bel_undrew hb2).mono hsz)) | (go_at_call 52; refine (swave_any _ _ _ (by omega) (by omega) (by omega) (by omega)).mono ?_; rintro e w3 ⟨rfl, hb3⟩; have hB3 : Below w.heap.size w w3 := hB.trans (hb3.mono hB.size); have hblk2 := (Hblk.out.kept (bel_undrew hb2) Hblk.out.lt).kept hb3 (Hblk.out.kept (bel_undrew hb2) Hblk.out.lt).lt; have hcd : w3.cell? ⟨w.heap.size, c, none⟩ = some (.int .i64 0) := hblk2.cell (upTo_get (tab N (fun m => waI 6 Z (K * m))) c (by rw [tab_len]; exact hlk)); have hfd := hblk2.free c; have Hblk2 := hid hblk2; have HB3 := hid hB3; clear hblk2 hB3 hb3 hb2))
              all_goals go_wp2
              all_goals go_roundw
              case rel => exact ⟨c + 1, by omega, by go_num, by rw [← upTo_step (tab N (fun m => waI 6 Z (K * m))) c _ Hkt.out]; exact Hblk2.out.set c _, HB3.out.setCell (by exact Nat.le_refl _) _⟩
              case measure => simp [intOf]; omega
            · have hge : (N : Int) ≤ (c : Int) := by omega
              have hkn : c = N := by omega
              have Hk := hid hkn
              have Hblk := hid hblk
              clear hkn hlk hblk
              go_wp2
              go_ret2
              have hbk := Hblk.out
              rw [Hk.out, show upTo (tab N (fun m => waI 6 Z (K * m))) N = tab N (fun m => waI 6 Z (K * m)) from by have := upTo_full (tab N (fun m => waI 6 Z (K * m))); rwa [tab_len] at this] at hbk
              have h2 := hbk.res (Nat.le_refl w.heap.size)
              rw [tab_len] at h2
              exact gives_yes (tp_t HB0.out HBZ.out HBN.out) h2 hb


set_option maxHeartbeats 1000000 in
theorem spec_ToneOfPart_any (p k z n : Int) (w : World) :
    Calls Try.prog 12 #[.int .i64 p, .int .i64 k, .int .i64 z, .int .i64 n] w (Gives w (onL (tpB p k z n) (tpL p.toNat k z n)) (tpB p k z n)) := by
  by_cases h4 : p = 4
  · subst h4
    exact spec_top_4 k z n w
  · by_cases h6 : p = 6
    · subst h6
      exact spec_top_6 k z n w
    · have HP := hid (show decide (p = 4 ∨ p = 6) = false from decide_eq_false (by omega))
      have HN := hid (tp_n1 (z := z) (n := n) (tone_bad (k := k) HP.out))
      clear h4 h6
      go_enter Try.func12, Try.ntmps12
      go_wp2_with fail
      refine (tnParts_is p false _ HP.out).mono ?_
      rintro e w' ⟨rfl, rfl⟩
      go_wp2_with fail
      go_ret2
      exact gives_no HN.out (Below.refl _ _)


set_option maxHeartbeats 1000000 in
theorem impl_ToneOfPart_any (p k z n : Int) (w : World) :
    Calls Try.prog 13 #[.int .i64 p, .int .i64 k, .int .i64 z, .int .i64 n] w (Gives w (onL (tpB p k z n) (tpL p.toNat k z n)) (tpB p k z n)) := by
  by_cases h4 : p = 4
  · subst h4
    exact impl_top_4 k z n w
  · by_cases h6 : p = 6
    · subst h6
      exact impl_top_6 k z n w
    · have HP := hid (show decide (p = 4 ∨ p = 6) = false from decide_eq_false (by omega))
      have HN := hid (tp_n1 (z := z) (n := n) (tone_bad (k := k) HP.out))
      clear h4 h6
      go_enter Try.func13, Try.ntmps13
      go_wp2_with fail
      refine (isTone_is k p false _ (tone_bad HP.out)).mono ?_
      rintro e w' ⟨rfl, rfl⟩
      go_wp2_with fail
      go_ret2
      exact gives_no HN.out (Below.refl _ _)

theorem tp_len {p k z n : Int} : (onL (tpB p k z n) (tpL p.toNat k z n)).length ≤ 2000000 := onL_len fun h => by
  have h1 : lnB9 n = true := by
    cases h2 : lnB9 n
    · rw [tp_n3 h2] at h; cases h
    · rfl
  have := lnB9_t h1
  rw [tpL_len]; omega


set_option maxHeartbeats 1600000 in
theorem gen_FnExactToneOfPart (p : Int) (k : Int) (z : Int) (n : Int)  (ys : List Int) (ok : Bool) (w : World)  (hy : ys.length ≤ 2000000) (hspec : ∀ (w : World) , Calls Try.prog 12 #[.int .i64 p, .int .i64 k, .int .i64 z, .int .i64 n] w (Gives w ys ok)) (himpl : ∀ (w : World) , Calls Try.prog 13 #[.int .i64 p, .int .i64 k, .int .i64 z, .int .i64 n] w (Gives w ys ok)) :
    Calls Try.prog 5 #[.int .i64 p, .int .i64 k, .int .i64 z, .int .i64 n] w fun e w' => e = .returned (.bool true) ∧ Below w.heap.size w w' := by
  have HSP := hid hspec
  have HIM := hid himpl
  clear hspec himpl
  all_goals cases ok
  all_goals
    go_enter Try.func5, Try.ntmps5
    go_wp2_with fail
    refine (HSP.out _).mono ?_
    rintro e w1 ⟨v_R0, rfl, R0, hb⟩
    have B1 := hb
    have hz1 : w.heap.size ≤ w1.heap.size := by first | exact hb.size | (have := hb.size; simp at this; omega)
    have hlt0 : ∀ g, v_R0.ownBlock = some g → g < w1.heap.size := fun g hg => R0.lt hg
    have Hlt0 := hid hlt0
    clear hlt0
    go_wp2_with fail
    refine (HIM.out _).mono ?_
    rintro e w2 ⟨v_R1, rfl, R1, hb⟩
    have B2 := bel_step B1 hb
    have hz2 : w1.heap.size ≤ w2.heap.size := hb.size
    have R0_2 := R0.kept hb
    have hne01 : ∀ g, v_R0.ownBlock = some g → v_R1.ownBlock ≠ some g := fun g hg e => by have a1 := R1.ge e; have a2 := Hlt0.out g hg; omega
    have Hne01 := hid hne01
    clear hne01
    have hge1 : ∀ g, v_R1.ownBlock = some g → w1.heap.size ≤ g := fun g hg => R1.ge hg
    have Hge1 := hid hge1
    clear hge1
    go_wp2_with fail
    refine (eqIntS_same _ _ ys _ R1.sl R0_2.sl hy).mono ?_
    rintro e w3 ⟨rfl, hb⟩
    have B3 := bel_step B2 hb
    have hz3 : w2.heap.size ≤ w3.heap.size := hb.size
    have R0_3 := R0_2.kept hb
    have R1_3 := R1.kept hb
    go_wp2_with fail
    refine (markIntS_one _ ys _ _ R1_3 hy).mono ?_
    rintro e w4 ⟨rfl, ho, M⟩
    have B4 := B3.trans (ho.below fun g hg => Nat.le_trans B1.size (Hge1.out g hg))
    have hz4 : w3.heap.size ≤ w4.heap.size := Nat.le_of_eq ho.size.symm
    have R0_4 := R0_3.only ho Hne01.out
    go_wp2_with fail
    refine (heldIntS_one _ ys.length _ _ M hy).mono ?_
    rintro e w' ⟨rfl, rfl⟩
    go_wp2_with fail
    refine (HIM.out _).mono ?_
    rintro e w5 ⟨v_R2, rfl, R2, hb⟩
    have B5 := bel_step B4 hb
    have hz5 : w4.heap.size ≤ w5.heap.size := hb.size
    have R0_5 := R0_4.kept hb
    have M_5 := M.kept hb
    go_wp2_with fail
    refine (eqIntS_same _ _ ys _ R2.sl R0_5.sl hy).mono ?_
    rintro e w6 ⟨rfl, hb⟩
    have B6 := bel_step B5 hb
    have hz6 : w5.heap.size ≤ w6.heap.size := hb.size
    have R0_6 := R0_5.kept hb
    have M_6 := M_5.kept hb
    have R2_6 := R2.kept hb
    go_wp2_with fail
    refine (heldIntS_one _ ys.length _ _ M_6 hy).mono ?_
    rintro e w' ⟨rfl, rfl⟩
    go_wp2_with fail
    go_ret
    exact ⟨rfl, B6⟩


set_option maxHeartbeats 1600000 in
theorem walk_FnExactToneOfPart (w : World) (p : Int) (w_p : (Lit.int .i64 p).wf = true) (k : Int) (w_k : (Lit.int .i64 k).wf = true) (z : Int) (w_z : (Lit.int .i64 z).wf = true) (n : Int) (w_n : (Lit.int .i64 n).wf = true) :
    Calls Try.prog 5 #[.int .i64 p, .int .i64 k, .int .i64 z, .int .i64 n] w fun e w' => e = .returned (.bool true) ∧ Below w.heap.size w w' := by
  obtain ⟨p_1, p_2⟩ := bounds_i64 w_p
  obtain ⟨k_1, k_2⟩ := bounds_i64 w_k
  obtain ⟨z_1, z_2⟩ := bounds_i64 w_z
  obtain ⟨n_1, n_2⟩ := bounds_i64 w_n
  exact gen_FnExactToneOfPart p k z n _ _ w tp_len (fun w  => spec_ToneOfPart_any p k z n w) (fun w  => impl_ToneOfPart_any p k z n w)

end Go.Proofs.Ytoiojbbadmkbjaa
