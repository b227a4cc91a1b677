
import Derived.Test.YtgkjncgaecfbgacBl
namespace Go.Proofs.Ytgkjncgaecfbgac
open Go.RowKit BitX Go.MemX
set_option linter.unusedVariables false


def negL (xs : List Int) : List Int := xs.map fun x => -x
theorem negL_len (xs : List Int) : (negL xs).length = xs.length := by simp [negL]
theorem sca_neg (xs : List Int) : tab xs.length (sca xs (-1)) = negL xs := by
  apply List.ext_getElem?
  intro i
  by_cases h : i < xs.length
  · rw [tab_get _ _ _ h]; simp [sca, negL, h]
  · rw [List.getElem?_eq_none (by rw [tab_len]; omega), List.getElem?_eq_none (by rw [negL_len]; omega)]
theorem InP.rev {lo hi : Int} {xs : List Int} (h : InP lo hi xs) : InP lo hi xs.reverse := fun x hx => h x (List.mem_reverse.1 hx)
/-- turned up to k, as it was behind -/
def negTo (xs : List Int) (k : Nat) : List Int := tab xs.length fun i => if i < k then -(at0 xs i) else at0 xs i
theorem negTo_zero (xs : List Int) : negTo xs 0 = xs := by
  conv => rhs; rw [← tab_self xs]
  exact tab_congr _ _ _ fun i _ => by simp
theorem negTo_full (xs : List Int) : negTo xs xs.length = negL xs := by
  apply List.ext_getElem?
  intro i
  by_cases h : i < xs.length
  · unfold negTo
    rw [tab_get _ _ _ h, if_pos h, at0_of (List.getElem?_eq_getElem h)]; simp [negL, h]
  · rw [List.getElem?_eq_none (by unfold negTo; rw [tab_len]; omega), List.getElem?_eq_none (by rw [negL_len]; omega)]
theorem negTo_len (xs : List Int) (k : Nat) : (negTo xs k).length = xs.length := tab_len _ _
theorem negTo_get {xs : List Int} {k : Nat} {x : Int} (h : xs[k]? = some x) : (negTo xs k)[k]? = some x := by
  have hk : k < xs.length := (List.getElem?_eq_some_iff.1 h).1
  unfold negTo; rw [tab_get _ _ _ hk, if_neg (by omega), at0_of h]
theorem negTo_step {xs : List Int} {k : Nat} {x : Int} (h : xs[k]? = some x) : (negTo xs k).set k (-x) = negTo xs (k + 1) := by
  unfold negTo
  refine tab_set _ _ _ _ ?_ fun i _ hne => ?_
  · rw [if_pos (by omega), at0_of h]
  · by_cases h2 : i < k
    · rw [if_pos h2, if_pos (by omega)]
    · rw [if_neg h2, if_neg (by omega)]


set_option maxHeartbeats 400000 in
theorem spec_IsMirrored_any (v : Value) (xs : List Int) (w : World) (hs : Sl w v xs) :
    Calls Try.prog 20 #[v] w fun e w' => e = .returned (.tuple #[.bool (onB (wgtB xs) (decide (xs = negL xs.reverse)) false), .bool (wgtB xs)]) ∧ Below w.heap.size w w' := by
  have HS := hid hs
  clear hs
  cases h0 : wgtB xs
  · have HB0 := hid h0
    clear h0
    go_enter Try.func20, Try.ntmps20
    go_wp2_with fail
    refine (weGood_is _ xs _ _ HS.out HB0.out).mono ?_
    rintro e w' ⟨rfl, rfl⟩
    go_wp2_with fail
    go_ret2
    exact ⟨rfl, Below.refl _ _⟩
  · have HB0 := hid h0
    clear h0
    go_enter Try.func20, Try.ntmps20
    go_wp2_with fail
    refine (weGood_is _ xs _ _ HS.out HB0.out).mono ?_
    rintro e w' ⟨rfl, rfl⟩
    go_wp2_with fail
    refine (weBack_any _ xs _ HS.out (Nat.le_trans (wgtB_t HB0.out).1.2 (by omega))).mono ?_
    rintro e w1 ⟨v_R, rfl, R, hb⟩
    have B1 := hb
    go_wp2_with fail
    refine (wdScale_any (-1) _ xs.reverse _ R.sl (by rw [List.length_reverse]; exact (Nat.le_trans (wgtB_t HB0.out).1.2 (by omega))) ((wgtB_t HB0.out).2.rev.wide (by omega) (by omega)) (by omega) (by omega)).mono ?_
    rintro e w2 ⟨v_N, rfl, N, hb⟩
    have B2 := bel_step B1 hb
    have R_2 := R.kept hb
    rw [sca_neg] at N
    go_wp2_with fail
    refine (weSame_is _ _ xs (negL xs.reverse) _ _ (HS.out.kept B2) N.sl (Nat.le_trans (wgtB_t HB0.out).1.2 (by omega)) rfl).mono ?_
    rintro e w3 ⟨rfl, hb⟩
    have B3 := bel_step B2 hb
    have R_3 := R_2.kept hb
    have N_3 := N.kept hb
    go_wp2_with fail
    go_ret2
    exact ⟨rfl, B3⟩


set_option maxHeartbeats 400000 in
theorem impl_IsMirrored_any (v : Value) (xs : List Int) (w : World) (hs : Sl w v xs) :
    Calls Try.prog 21 #[v] w fun e w' => e = .returned (.tuple #[.bool (onB (wgtB xs) (decide (xs = negL xs.reverse)) false), .bool (wgtB xs)]) ∧ Below w.heap.size w w' := by
  have HS := hid hs
  clear hs
  cases h0 : wgtB xs
  · have HB0 := hid h0
    clear h0
    go_enter Try.func21, Try.ntmps21
    go_wp2_with fail
    refine (impl_IsWeights_is _ xs _ _ HS.out HB0.out).mono ?_
    rintro e w' ⟨rfl, rfl⟩
    go_wp2_with fail
    go_ret2
    exact ⟨rfl, Below.refl _ _⟩
  · have HB0 := hid h0
    clear h0
    go_enter Try.func21, Try.ntmps21
    go_wp2_with fail
    refine (impl_IsWeights_is _ xs _ _ HS.out HB0.out).mono ?_
    rintro e w' ⟨rfl, rfl⟩
    go_wp2_with fail
    refine (backwards_any _ xs _ HS.out (Nat.le_trans (wgtB_t HB0.out).1.2 (by omega))).mono ?_
    rintro e w1 ⟨v_R, rfl, R, hb⟩
    have B1 := hb
    have hne : xs.reverse ≠ [] := fun e => by have h1 := congrArg List.length e; have h2 := (wgtB_t HB0.out).1.1; rw [List.length_reverse] at h1; simp only [List.length_nil] at h1; omega
    have hwl := (wgtB_t HB0.out).1
    have hwi := (wgtB_t HB0.out).2
    rcases R with ⟨he, _⟩ | ⟨g, cap, rfl, hg, hrow⟩
    · exact absurd he hne
    clear hne
    obtain ⟨n, hn⟩ : ∃ n, n = xs.reverse.length := ⟨_, rfl⟩
    have hn9 : n ≤ 9 := by rw [hn, List.length_reverse]; exact hwl.2
    rw [← hn]
    have Hn := hid hn
    have Hrow := hid hrow
    have Hin := hid hwi.rev
    clear hn hrow hwi hwl
    go_wp2_with fail
    go_loopw [13] (fun i wr => ∃ k : Nat, k ≤ n ∧ i = .int .i64 k ∧ OnlyV (.slice (some ⟨g, 0, none⟩) n cap) w1 wr ∧ RowB 3 wr g cap (negTo xs.reverse k))
      (fun i _ => n - (intOf i).toNat)
    case atStart => exact ⟨0, by omega, rfl, OnlyV.refl _ _, by rw [negTo_zero]; exact Hrow.out⟩
    case round =>
      obtain ⟨k, hk, rfl, ho, hblk⟩ := hrel
      by_cases hlk : k < n
      · obtain ⟨x, hkx⟩ := get_lt xs.reverse k (by rw [← Hn.out]; exact hlk)
        obtain ⟨x1, x2⟩ := Hin.out.at hkx
        have hcd : wr.cell? ⟨g, k, none⟩ = some (.int .i64 x) := hblk.cell (negTo_get hkx)
        have hfd := hblk.free k
        have Hkx := hid hkx
        have Hblk := hid hblk
        clear hkx hblk
        go_wp2
        go_roundw
        case rel => exact ⟨k + 1, by omega, by go_num, ho.set _ _, by rw [← negTo_step Hkx.out]; exact Hblk.out.set k _⟩
        case measure => simp [intOf]; omega
      · have hge : (n : Int) ≤ (k : Int) := by omega
        have hkn : k = n := by omega
        rw [hkn, Hn.out, negTo_full] at hblk
        have hB2 : Below w.heap.size w wr := B1.trans (ho.below fun j hj => by cases hj; exact hg)
        have hsl : Sl wr (.slice (some ⟨g, 0, none⟩) n cap) (negL xs.reverse) := by
          have := hblk.sl; rwa [negL_len, ← Hn.out] at this
        have Hsl := hid hsl
        clear hlk hkn hblk hsl
        go_wp2_with fail
        refine (slEqual_is _ _ xs (negL xs.reverse) _ _ (HS.out.kept hB2) Hsl.out (Nat.le_trans (wgtB_t HB0.out).1.2 (by omega)) (by rw [negL_len, ← Hn.out]; omega) rfl).mono ?_
        rintro e w9 ⟨rfl, hb9⟩
        go_wp2_with fail
        go_ret2
        exact ⟨rfl, bel_step hB2 hb9⟩


/-- the different sizes but 0, in the order in which they come -/
def szs (xs : List Int) : List Int := xs.foldl (fun acc x => if x ≠ 0 ∧ absI x ∉ acc then acc ++ [absI x] else acc) []
theorem szs_step {xs : List Int} {k : Nat} {x : Int} (h : xs[k]? = some x) : szs (xs.take (k + 1)) = if x ≠ 0 ∧ absI x ∉ szs (xs.take k) then szs (xs.take k) ++ [absI x] else szs (xs.take k) := by
  rw [take_step xs k x h]; unfold szs; rw [List.foldl_append]; rfl
theorem szs_len (xs : List Int) : (szs xs).length ≤ xs.length := by
  suffices ∀ (acc : List Int), (xs.foldl (fun acc x => if x ≠ 0 ∧ absI x ∉ acc then acc ++ [absI x] else acc) acc).length ≤ acc.length + xs.length by
    have := this []; simpa [szs] using this
  induction xs with
  | nil => intro acc; simp
  | cons x xs ih =>
    intro acc
    rw [List.foldl_cons]
    refine Nat.le_trans (ih _) ?_
    split <;> simp <;> omega
theorem szs_take (xs : List Int) (k : Nat) (n : Nat) (h : k ≤ n) : (szs (xs.take k)).length ≤ n := by
  have := szs_len (xs.take k)
  simp only [List.length_take] at this
  omega
theorem absI_zero {x : Int} (h : x = 0) : absI x = 0 := by subst h; rfl
theorem absI_pos {x : Int} (h : x ≠ 0) : absI x ≠ 0 := by unfold absI; omega


set_option maxHeartbeats 400000 in
theorem l1Has_no (v : Value) (xs : List Int) (w : World) (hs : Sl w v xs) (y : Int) (hl : xs.length ≤ 2000000) (h : y ∉ xs) :
    Calls Try.prog 39 #[v, .int .i64 y] w fun e w' => e = .returned (.bool false) ∧ w = w' := by
  obtain ⟨a, n, cap, rfl, hn, hrd⟩ := hs.rd
  have Hn := hid hn
  have Hrd := hid hrd
  have hl' : n ≤ 2000000 := by omega
  clear hn hrd 
  have H := hid h
  clear h hl hs
  go_enter Try.func39, Try.ntmps39
  go_wp2_with fail
  go_loop [9] (fun i => ∃ k : Nat, k ≤ n ∧ i = .int .i64 k)
    (fun i => n - (intOf i).toNat)
  case atStart => exact ⟨0, by omega, rfl⟩
  case round =>
    obtain ⟨k, hk, rfl⟩ := hrel
    by_cases hlk : k < n
    · obtain ⟨x, hkx⟩ := get_lt xs k (by rw [← Hn.out]; exact hlk)
      obtain ⟨bb, oo, hix, hbb, hce⟩ := Hrd.out.at (P := Try.prog) (T := 22) n cap uslice sone hkx hlk
      have hxy : x ≠ y := fun e => H.out (e ▸ List.mem_of_getElem? hkx)
      have hxy1 : (x == y) = false := by rw [beq_eq_false_iff_ne]; exact hxy
      clear hkx hxy
      go_wp2
      go_round
      case rel => exact ⟨k + 1, by omega, by go_num⟩
      case measure => simp [intOf]; omega
    · have hge : (n : Int) ≤ (k : Int) := by omega
      have hkn : k = xs.length := by rw [← Hn.out]; omega
      have Hk := hid hkn
      clear hkn hlk
      go_wp2
      go_ret
      exact ⟨rfl, rfl⟩


set_option maxHeartbeats 400000 in
theorem l1Has_yes (v : Value) (xs : List Int) (w : World) (hs : Sl w v xs) (y : Int) (hl : xs.length ≤ 2000000) (h : y ∈ xs) :
    Calls Try.prog 39 #[v, .int .i64 y] w fun e w' => e = .returned (.bool true) ∧ w = w' := by
  obtain ⟨a, n, cap, rfl, hn, hrd⟩ := hs.rd
  have Hn := hid hn
  have Hrd := hid hrd
  have hl' : n ≤ 2000000 := by omega
  clear hn hrd 
  have H := hid h
  clear h hl hs
  go_enter Try.func39, Try.ntmps39
  go_wp2_with fail
  go_loop [9] (fun i => ∃ k : Nat, k ≤ n ∧ i = .int .i64 k ∧ Hid (y ∉ xs.take k))
    (fun i => n - (intOf i).toNat)
  case atStart => exact ⟨0, by omega, rfl, (by simp : y ∉ xs.take 0)⟩
  case round =>
    obtain ⟨k, hk, rfl, hout⟩ := hrel
    by_cases hlk : k < n
    · obtain ⟨x, hkx⟩ := get_lt xs k (by rw [← Hn.out]; exact hlk)
      obtain ⟨bb, oo, hix, hbb, hce⟩ := Hrd.out.at (P := Try.prog) (T := 22) n cap uslice sone hkx hlk
      by_cases hxy : x = y
      · subst hxy
        have hxx : (x == x) = true := by simp
        clear hkx hout
        go_wp2
        go_ret
        exact ⟨rfl, rfl⟩
      have hxy1 : (x == y) = false := by rw [beq_eq_false_iff_ne]; exact hxy
      have hnx : y ∉ xs.take (k + 1) := by rw [take_step xs k x hkx]; intro hm; rcases List.mem_append.1 hm with hm | hm; exact hout.out hm; simp at hm; exact hxy hm.symm
      have Hnx := hid hnx
      clear hkx hxy hnx hout
      go_wp2
      go_round
      case rel => exact ⟨k + 1, by omega, by go_num, Hnx⟩
      case measure => simp [intOf]; omega
    · have hge : (n : Int) ≤ (k : Int) := by omega
      have hkn : k = xs.length := by rw [← Hn.out]; omega
      have Hk := hid hkn
      clear hkn hlk
      have := hout.out
      rw [Hk.out, List.take_length] at this
      exact absurd H.out this


theorem l1Has_is (v : Value) (xs : List Int) (y : Int) (b : Bool) (w : World) (hs : Sl w v xs) (hl : xs.length ≤ 2000000) (h : decide (y ∈ xs) = b) :
    Calls Try.prog 39 #[v, .int .i64 y] w fun e w' => e = .returned (.bool b) ∧ w = w' := by
  cases b
  · exact l1Has_no v xs w hs y hl (of_decide_eq_false h)
  · exact l1Has_yes v xs w hs y hl (of_decide_eq_true h)


set_option maxHeartbeats 1000000 in
theorem spec_Folded_in (v : Value) (xs : List Int) (w : World) (hs : Sl w v xs) (h : WgtP xs) :
    Calls Try.prog 26 #[v] w fun e w' => e = .returned (.tuple #[.int .i64 ((szs xs).length : Int), .bool true]) ∧ Below w.heap.size w w' := by
  have hw := h
  have hs0 := hs
  obtain ⟨a, n, cap, rfl, hn, hrd⟩ := hs.rd
  have Hn := hid hn
  have Hrd := hid hrd
  have hl' : n ≤ 9 := by rw [hn]; exact h.1.2
  have HS := hid hs0
  have HW := hid hw
  have Hi := hid h.2
  clear hn hrd hs hs0 hw h
  obtain ⟨i0, hi0, hz0, hz1, hz2⟩ := info_parts iint
  go_enter Try.func26, Try.ntmps26
  go_wp2_with fail
  refine (weGood_is _ xs true _ HS.out (wgtB_of HW.out)).mono ?_
  rintro e w' ⟨rfl, rfl⟩
  go_wp2_with fail
  go_loopw [4, 12] (fun v i wr => ∃ k : Nat, k ≤ n ∧ i = .int .i64 k ∧ wr.ownsRow w.heap.size 3 1 v (szs (xs.take k)).length ((szs (xs.take k)).map (Value.int .i64)) ∧ Below w.heap.size w wr)
    (fun _ i _ => n - (intOf i).toNat)
  case atStart => exact ⟨0, by omega, rfl, World.ownsRow_nil _ _ _ _, Below.refl _ _⟩
  case round =>
    obtain ⟨k, hk, rfl, hown, hb⟩ := hrel
    have hsz : w.heap.size ≤ wr.heap.size := hb.size
    by_cases hlk : k < n
    · obtain ⟨x, hkx⟩ := get_lt xs k (by rw [← Hn.out]; exact hlk)
      obtain ⟨bb, oo, hix, hbb, hce⟩ := (Hrd.out.kept hb).at (P := Try.prog) (T := 22) n cap uslice sone hkx hlk
      obtain ⟨x1, x2⟩ := Hi.out.at hkx
      have hst := szs_step hkx
      have hln := szs_take xs k 9 (by omega)
      have hres := Res.owns hown
      generalize hys : szs (xs.take k) = ys at hst hown hln hres
      have Hob := hid (ownsRow_base hown)
      have Hown := hid hown
      have Hres := hid hres
      clear hkx hown hys hres
      generalize hq : ys.length = q at *
      have Hq := hid hq
      clear hq
      have ha1 : -1000 ≤ absI x ∧ absI x ≤ 1000 := by unfold absI; omega
      obtain ⟨ha1, ha2⟩ := ha1
      by_cases hx0 : x = 0
      · have Hst := hid (show szs (xs.take (k + 1)) = ys from by rw [hst, if_neg (fun h => h.1 hx0)])
        clear hst
        subst hx0
        go_wp2
        go_roundw
        case rel => exact ⟨k + 1, by omega, by go_num, by rw [Hst.out, Hq.out]; exact Hown.out, hb⟩
        case measure => simp [intOf]; omega
      · by_cases hm : absI x ∈ ys
        · have Hst := hid (show szs (xs.take (k + 1)) = ys from by rw [hst, if_neg (fun h => h.2 hm)])
          have Hm := hid hm
          clear hst hm
          have hxe : (x == 0) = false := by rw [beq_eq_false_iff_ne]; exact hx0
          have hxn : (x != 0) = true := by rw [bne_iff_ne]; exact hx0
          clear hx0
          go_wp2_with fail
          refine (l1Abs_any _ _ (by omega) (by omega)).mono ?_
          rintro e w' ⟨rfl, rfl⟩
          go_wp2_with fail
          refine (l1Has_is _ ys _ true _ Hres.out.sl (by rw [Hq.out]; omega) (decide_eq_true Hm.out)).mono ?_
          rintro e w' ⟨rfl, rfl⟩
          go_wp2
          go_roundw
          case rel => exact ⟨k + 1, by omega, by go_num, by rw [Hst.out, Hq.out]; exact Hown.out, hb⟩
          case measure => simp [intOf]; omega
        · have Hst := hid (show szs (xs.take (k + 1)) = ys ++ [absI x] from by rw [hst, if_pos ⟨hx0, hm⟩])
          have Hm := hid hm
          clear hst hm
          have hxe : (x == 0) = false := by rw [beq_eq_false_iff_ne]; exact hx0
          have hxn : (x != 0) = true := by rw [bne_iff_ne]; exact hx0
          clear hx0
          go_wp2_with fail
          refine (l1Abs_any _ _ (by omega) (by omega)).mono ?_
          rintro e w' ⟨rfl, rfl⟩
          go_wp2_with fail
          refine (l1Has_is _ ys _ false _ Hres.out.sl (by rw [Hq.out]; omega) (decide_eq_false Hm.out)).mono ?_
          rintro e w' ⟨rfl, rfl⟩
          go_wp2_with fail
          refine (l1Abs_any _ _ (by omega) (by omega)).mono ?_
          rintro e w' ⟨rfl, rfl⟩
          go_wp2_with (at_builtin; refine wpList_append_own _ rfl _ _ 22 rfl w.heap.size 3 i0 (.int .i64 0) 1 8 uslice hi0 hz0 hz1 hz2 rfl (by decide) _ _ _ rfl (Hown.out.alloc _) ⟨wr.heap.size, 0, none⟩ 1 1 [.int .i64 (absI x)] rfl rfl ?c1 ?c2 ?c3 ?c4 ?c5 ?_)
          case c1 => exact cell_one_new _ _ _
          case c2 => intro u hu; simp at hu; subst hu; rfl
          case c3 => unfold maxLen; omega
          case c4 => omega
          case c5 => simp; omega
          · intro v' w3 hown3 hgrow _
            have hb3 : Below w.heap.size w w3 := (hb.alloc hsz _).grown hgrow (by simp; omega) (fun j hj => Hob.out j hj)
            have Hown3 := hid hown3
            clear hown3 hgrow
            go_wp2
            go_roundw
            case rel => exact ⟨k + 1, by omega, by go_num, by have h3 := Hown3.out; rw [Hst.out, List.map_append, List.length_append, Hq.out]; exact h3, hb3⟩
            case measure => simp [intOf]; omega
    · have hge : (n : Int) ≤ (k : Int) := by omega
      have hkn : k = xs.length := by rw [← Hn.out]; omega
      rw [hkn, List.take_length] at hown
      have hres := Res.owns hown
      clear hkn hlk hown
      rcases hres with ⟨hnil, rfl⟩ | ⟨g, c2, rfl, _, _⟩
      · have Hnil := hid hnil
        clear hnil
        go_wp2
        go_ret2
        exact ⟨ret_ib (by rw [Hnil.out]; rfl), hb⟩
      · go_wp2
        go_ret2
        exact ⟨rfl, hb⟩


set_option maxHeartbeats 1000000 in
theorem impl_Folded_in (v : Value) (xs : List Int) (w : World) (hs : Sl w v xs) (h : WgtP xs) :
    Calls Try.prog 27 #[v] w fun e w' => e = .returned (.tuple #[.int .i64 ((szs xs).length : Int), .bool true]) ∧ Below w.heap.size w w' := by
  have hw := h
  have hs0 := hs
  obtain ⟨a, n, cap, rfl, hn, hrd⟩ := hs.rd
  have Hn := hid hn
  have Hrd := hid hrd
  have hl' : n ≤ 9 := by rw [hn]; exact h.1.2
  have HS := hid hs0
  have HW := hid hw
  have Hi := hid h.2
  clear hn hrd hs hs0 hw h
  obtain ⟨i0, hi0, hz0, hz1, hz2⟩ := info_parts iint
  go_enter Try.func27, Try.ntmps27
  go_wp2_with fail
  refine (impl_IsWeights_is _ xs true _ HS.out (wgtB_of HW.out)).mono ?_
  rintro e w' ⟨rfl, rfl⟩
  go_wp2_with fail
  go_loopw [4, 13] (fun v i wr => ∃ k : Nat, k ≤ n ∧ i = .int .i64 k ∧ wr.ownsRow w.heap.size 3 1 v (szs (xs.take k)).length ((szs (xs.take k)).map (Value.int .i64)) ∧ Below w.heap.size w wr)
    (fun _ i _ => n - (intOf i).toNat)
  case atStart => exact ⟨0, by omega, rfl, World.ownsRow_nil _ _ _ _, Below.refl _ _⟩
  case round =>
    obtain ⟨k, hk, rfl, hown, hb⟩ := hrel
    have hsz : w.heap.size ≤ wr.heap.size := hb.size
    by_cases hlk : k < n
    · obtain ⟨x, hkx⟩ := get_lt xs k (by rw [← Hn.out]; exact hlk)
      obtain ⟨bb, oo, hix, hbb, hce⟩ := (Hrd.out.kept hb).at (P := Try.prog) (T := 22) n cap uslice sone hkx hlk
      obtain ⟨x1, x2⟩ := Hi.out.at hkx
      have hst := szs_step hkx
      have hln := szs_take xs k 9 (by omega)
      have hres := Res.owns hown
      generalize hys : szs (xs.take k) = ys at hst hown hln hres
      have Hob := hid (ownsRow_base hown)
      have Hown := hid hown
      have Hres := hid hres
      clear hkx hown hys hres
      generalize hq : ys.length = q at *
      have Hq := hid hq
      clear hq
      have ha1 : -1000 ≤ absI x ∧ absI x ≤ 1000 := by unfold absI; omega
      obtain ⟨ha1, ha2⟩ := ha1
      by_cases hx0 : x = 0
      · have Hst := hid (show szs (xs.take (k + 1)) = ys from by rw [hst, if_neg (fun h => h.1 hx0)])
        clear hst
        have ha0 : absI x = 0 := absI_zero hx0
        subst hx0
        clear ha1 ha2
        go_wp2_with fail
        refine (sizeOf_any _ _ (by omega) (by omega)).mono ?_
        rintro e w' ⟨rfl, rfl⟩
        rw [ha0]
        clear ha0
        go_wp2
        go_roundw
        case rel => exact ⟨k + 1, by omega, by go_num, by rw [Hst.out, Hq.out]; exact Hown.out, hb⟩
        case measure => simp [intOf]; omega
      · by_cases hm : absI x ∈ ys
        · have Hst := hid (show szs (xs.take (k + 1)) = ys from by rw [hst, if_neg (fun h => h.2 hm)])
          have Hm := hid hm
          clear hst hm
          have ha0 : absI x ≠ 0 := absI_pos hx0
          have hxe : (absI x == 0) = false := by rw [beq_eq_false_iff_ne]; exact ha0
          have hxn : (absI x != 0) = true := by rw [bne_iff_ne]; exact ha0
          clear hx0 ha0
          go_wp2_with fail
          refine (sizeOf_any _ _ (by omega) (by omega)).mono ?_
          rintro e w' ⟨rfl, rfl⟩
          go_wp2_with fail
          refine (slContains_is _ ys _ true _ Hres.out.sl (by rw [Hq.out]; omega) (decide_eq_true Hm.out)).mono ?_
          rintro e w' ⟨rfl, rfl⟩
          go_wp2
          go_roundw
          case rel => exact ⟨k + 1, by omega, by go_num, by rw [Hst.out, Hq.out]; exact Hown.out, hb⟩
          case measure => simp [intOf]; omega
        · have Hst := hid (show szs (xs.take (k + 1)) = ys ++ [absI x] from by rw [hst, if_pos ⟨hx0, hm⟩])
          have Hm := hid hm
          clear hst hm
          have ha0 : absI x ≠ 0 := absI_pos hx0
          have hxe : (absI x == 0) = false := by rw [beq_eq_false_iff_ne]; exact ha0
          have hxn : (absI x != 0) = true := by rw [bne_iff_ne]; exact ha0
          clear hx0 ha0
          go_wp2_with fail
          refine (sizeOf_any _ _ (by omega) (by omega)).mono ?_
          rintro e w' ⟨rfl, rfl⟩
          go_wp2_with fail
          refine (slContains_is _ ys _ false _ Hres.out.sl (by rw [Hq.out]; omega) (decide_eq_false Hm.out)).mono ?_
          rintro e w' ⟨rfl, rfl⟩
          go_wp2_with (at_builtin; refine wpList_append_own _ rfl _ _ 22 rfl w.heap.size 3 i0 (.int .i64 0) 1 8 uslice hi0 hz0 hz1 hz2 rfl (by decide) _ _ _ rfl (Hown.out.alloc _) ⟨wr.heap.size, 0, none⟩ 1 1 [.int .i64 (absI x)] rfl rfl ?c1 ?c2 ?c3 ?c4 ?c5 ?_)
          case c1 => exact cell_one_new _ _ _
          case c2 => intro u hu; simp at hu; subst hu; rfl
          case c3 => unfold maxLen; omega
          case c4 => omega
          case c5 => simp; omega
          · intro v' w3 hown3 hgrow _
            have hb3 : Below w.heap.size w w3 := (hb.alloc hsz _).grown hgrow (by simp; omega) (fun j hj => Hob.out j hj)
            have Hown3 := hid hown3
            clear hown3 hgrow
            go_wp2
            go_roundw
            case rel => exact ⟨k + 1, by omega, by go_num, by have h3 := Hown3.out; rw [Hst.out, List.map_append, List.length_append, Hq.out]; exact h3, hb3⟩
            case measure => simp [intOf]; omega
    · have hge : (n : Int) ≤ (k : Int) := by omega
      have hkn : k = xs.length := by rw [← Hn.out]; omega
      rw [hkn, List.take_length] at hown
      have hres := Res.owns hown
      clear hkn hlk hown
      rcases hres with ⟨hnil, rfl⟩ | ⟨g, c2, rfl, _, _⟩
      · have Hnil := hid hnil
        clear hnil
        go_wp2
        go_ret2
        exact ⟨ret_ib (by rw [Hnil.out]; rfl), hb⟩
      · go_wp2
        go_ret2
        exact ⟨rfl, hb⟩


set_option maxHeartbeats 400000 in
theorem spec_FoldedProducts_any (v : Value) (xs : List Int) (w : World) (hs : Sl w v xs) :
    Calls Try.prog 26 #[v] w fun e w' => e = .returned (.tuple #[.int .i64 (onB (wgtB xs) ((szs xs).length : Int) 0), .bool (wgtB xs)]) ∧ Below w.heap.size w w' := by
  have HS := hid hs
  clear hs
  cases h0 : wgtB xs
  · have HB0 := hid h0
    clear h0
    go_enter Try.func26, Try.ntmps26
    go_wp2_with fail
    refine (weGood_is _ xs _ _ HS.out HB0.out).mono ?_
    rintro e w' ⟨rfl, rfl⟩
    go_wp2_with fail
    go_ret2
    exact ⟨rfl, Below.refl _ _⟩
  · have HB0 := hid h0
    clear h0
    exact spec_Folded_in v xs w HS.out (wgtB_t HB0.out)


set_option maxHeartbeats 400000 in
theorem impl_FoldedProducts_any (v : Value) (xs : List Int) (w : World) (hs : Sl w v xs) :
    Calls Try.prog 27 #[v] w fun e w' => e = .returned (.tuple #[.int .i64 (onB (wgtB xs) ((szs xs).length : Int) 0), .bool (wgtB xs)]) ∧ Below w.heap.size w w' := by
  have HS := hid hs
  clear hs
  cases h0 : wgtB xs
  · have HB0 := hid h0
    clear h0
    go_enter Try.func27, Try.ntmps27
    go_wp2_with fail
    refine (impl_IsWeights_is _ xs _ _ HS.out HB0.out).mono ?_
    rintro e w' ⟨rfl, rfl⟩
    go_wp2_with fail
    go_ret2
    exact ⟨rfl, Below.refl _ _⟩
  · have HB0 := hid h0
    clear h0
    exact impl_Folded_in v xs w HS.out (wgtB_t HB0.out)

end Go.Proofs.Ytgkjncgaecfbgac
