
import Derived.Test.YtkpfcaipbhfgkaaHe
import Derived.Test.YtkpfcaipbhfgkaaSc
namespace Go.MemX
open Go Go.RowKit
set_option linter.unusedVariables false
def Fo.cells (f : Fo) : List Value := [.int .i64 f.a, .int .i64 f.k, .int .i64 f.m, .int .i64 f.b, .bool f.r]
theorem flatF_len (fs : List Fo) : (fs.flatMap Fo.cells).length = fs.length * 5 := by
  induction fs with
  | nil => rfl
  | cons f fs ih => simp [Fo.cells] at ih ⊢; omega
theorem flatF_get (fs : List Fo) : ∀ (i : Nat) (f : Fo) (j : Nat), fs[i]? = some f → j < 5 → (fs.flatMap Fo.cells)[i * 5 + j]? = f.cells[j]? := by
  induction fs with
  | nil => intro i f j h; simp at h
  | cons g fs ih =>
    intro i f j h hj
    cases i with
    | zero =>
      simp at h; subst h
      rw [List.flatMap_cons, List.getElem?_append_left (by simp [Fo.cells]; omega)]; simp
    | succ i =>
      rw [List.flatMap_cons, List.getElem?_append_right (by simp [Fo.cells]; omega)]
      have := ih i f j (by simpa using h) hj
      rw [← this]; congr 1; simp [Fo.cells]; omega
theorem FRes.owns {E : TypeId} {B : Nat} {w : World} {v : Value} {fs : List Fo} (h : w.ownsRow B E 5 v fs.length (fs.flatMap Fo.cells)) : FRes E B w v fs := by
  obtain ⟨_, h | ⟨g, cap, cur, hv, hB, hh, hn, _, hs, ht⟩⟩ := h
  · exact .inl ⟨List.length_eq_zero_iff.1 h.2, h.1⟩
  · refine .inr ⟨g, cap, hv, hB, cur, hh, by omega, hn, fun i f hi => ?_⟩
    have hil : i < fs.length := (List.getElem?_eq_some_iff.1 hi).1
    have key : ∀ j, j < 5 → cur[i * 5 + j]? = f.cells[j]? := fun j hj => by
      rw [← flatF_get fs i f j hi hj, ← ht, List.getElem?_take_of_lt (by omega)]
      simp
    exact ⟨key 0 (by omega), key 1 (by omega), key 2 (by omega), key 3 (by omega), key 4 (by omega)⟩
/-- an order: each index of n is in the list, which has n entries -/
def orB (n : Nat) (os : List Int) : Bool := decide (os.length = n) && (List.range n).all fun i => decide ((i : Int) ∈ os)
theorem orB_len {n : Nat} {os : List Int} (h : os.length ≠ n) : orB n os = false := by unfold orB; rw [decide_eq_false h]; rfl
theorem orB_bad {n i : Nat} {os : List Int} (hi : i < n) (h : (i : Int) ∉ os) : orB n os = false := by
  unfold orB
  have : ((List.range n).all fun i => decide ((i : Int) ∈ os)) = false := by
    rw [List.all_eq_false]
    exact ⟨i, List.mem_range.2 hi, by simpa using h⟩
  rw [this, Bool.and_false]
theorem orB_mk {n : Nat} {os : List Int} (h1 : os.length = n) (h2 : ∀ (i : Nat), i < n → (i : Int) ∈ os) : orB n os = true := by
  unfold orB
  rw [Bool.and_eq_true]
  exact ⟨decide_eq_true h1, List.all_eq_true.2 fun i hi => decide_eq_true (h2 i (List.mem_range.1 hi))⟩
theorem orB_t {n : Nat} {os : List Int} (h : orB n os = true) : os.length = n ∧ ∀ (i : Nat), i < n → (i : Int) ∈ os := by
  unfold orB at h
  rw [Bool.and_eq_true] at h
  exact ⟨of_decide_eq_true h.1, fun i hi => of_decide_eq_true (List.all_eq_true.1 h.2 i (List.mem_range.2 hi))⟩
theorem order_in (n : Nat) : ∀ (os : List Int), os.length = n → (∀ (i : Nat), i < n → (i : Int) ∈ os) → ∀ x ∈ os, 0 ≤ x ∧ x < (n : Int) := by
  induction n with
  | zero => intro os hl _ x hx; rw [List.length_eq_zero_iff.1 hl] at hx; cases hx
  | succ n ih =>
    intro os hl hin x hx
    have hn := hin n (by omega)
    have hl2 : (os.erase (n : Int)).length = n := by rw [List.length_erase_of_mem hn]; omega
    have h := ih (os.erase (n : Int)) hl2 (fun i hi => (List.mem_erase_of_ne (by omega)).2 (hin i (by omega)))
    by_cases he : x = (n : Int)
    · omega
    · have := h x ((List.mem_erase_of_ne he).2 hx)
      omega
theorem orB_in {n : Nat} {os : List Int} (h : orB n os = true) {k : Nat} {x : Int} (hk : os[k]? = some x) : 0 ≤ x ∧ x < (n : Int) :=
  order_in n os (orB_t h).1 (orB_t h).2 x (List.mem_of_getElem? hk)
/-- the filters in the order -/
def oPs (fs : List Fo) (os : List Int) : List Fo := os.map fun i => fs.getD i.toNat fz
theorem oPs_len (fs : List Fo) (os : List Int) : (oPs fs os).length = os.length := by simp [oPs]
theorem oPs_step {fs : List Fo} {os : List Int} {k : Nat} {x : Int} {f : Fo} (hk : os[k]? = some x) (hf : fs[x.toNat]? = some f) : oPs fs (os.take (k + 1)) = oPs fs (os.take k) ++ [f] := by
  unfold oPs
  rw [take_step os k x hk, List.map_append]; simp [List.getD_eq_getElem?_getD, hf]
theorem oPs_get {fs : List Fo} {os : List Int} {k : Nat} {x : Int} {f : Fo} (hk : os[k]? = some x) (hf : fs[x.toNat]? = some f) : (oPs fs os)[k]? = some f := by
  unfold oPs
  rw [List.getElem?_map, hk]; simp [List.getD_eq_getElem?_getD, hf]
end Go.MemX
namespace Go.Proofs.Ytkpfcaipbhfgkaa
open Go.RowKit BitX Go.MemX
set_option linter.unusedVariables false

set_option maxHeartbeats 400000 in
theorem l1Has_no (v : Value) (xs : List Int) (w : World) (hs : Sl w v xs) (y : Int) (hl : xs.length ≤ 2000000) (h : y ∉ xs) :
    Calls Try.prog 52 #[v, .int .i64 y] w fun e w' => e = .returned (.bool false) ∧ w = w' := by
  obtain ⟨a, n, cap, rfl, hn, hrd⟩ := hs.rd
  have Hn := hid hn
  have Hrd := hid hrd
  have hl' : n ≤ 2000000 := by omega
  clear hn hrd 
  have H := hid h
  clear h hl hs
  go_enter Try.func52, Try.ntmps52
  go_wp2_with fail
  go_loop [9] (fun i => ∃ k : Nat, k ≤ n ∧ i = .int .i64 k)
    (fun i => n - (intOf i).toNat)
  case atStart => exact ⟨0, by omega, rfl⟩
  case round =>
    obtain ⟨k, hk, rfl⟩ := hrel
    by_cases hlk : k < n
    · obtain ⟨x, hkx⟩ := get_lt xs k (by rw [← Hn.out]; exact hlk)
      obtain ⟨bb, oo, hix, hbb, hce⟩ := Hrd.out.at (P := Try.prog) (T := 31) n cap uslice sone hkx hlk
      have hxy : x ≠ y := fun e => H.out (e ▸ List.mem_of_getElem? hkx)
      have hxy1 : (x == y) = false := by rw [beq_eq_false_iff_ne]; exact hxy
      clear hkx hxy
      go_wp2
      go_round
      case rel => exact ⟨k + 1, by omega, by go_num⟩
      case measure => simp [intOf]; omega
    · have hge : (n : Int) ≤ (k : Int) := by omega
      have hkn : k = xs.length := by rw [← Hn.out]; omega
      have Hk := hid hkn
      clear hkn hlk
      go_wp2
      go_ret
      exact ⟨rfl, rfl⟩



set_option maxHeartbeats 400000 in
theorem l1Has_yes (v : Value) (xs : List Int) (w : World) (hs : Sl w v xs) (y : Int) (hl : xs.length ≤ 2000000) (h : y ∈ xs) :
    Calls Try.prog 52 #[v, .int .i64 y] w fun e w' => e = .returned (.bool true) ∧ w = w' := by
  obtain ⟨a, n, cap, rfl, hn, hrd⟩ := hs.rd
  have Hn := hid hn
  have Hrd := hid hrd
  have hl' : n ≤ 2000000 := by omega
  clear hn hrd 
  have H := hid h
  clear h hl hs
  go_enter Try.func52, Try.ntmps52
  go_wp2_with fail
  go_loop [9] (fun i => ∃ k : Nat, k ≤ n ∧ i = .int .i64 k ∧ Hid (y ∉ xs.take k))
    (fun i => n - (intOf i).toNat)
  case atStart => exact ⟨0, by omega, rfl, (by simp : y ∉ xs.take 0)⟩
  case round =>
    obtain ⟨k, hk, rfl, hout⟩ := hrel
    by_cases hlk : k < n
    · obtain ⟨x, hkx⟩ := get_lt xs k (by rw [← Hn.out]; exact hlk)
      obtain ⟨bb, oo, hix, hbb, hce⟩ := Hrd.out.at (P := Try.prog) (T := 31) n cap uslice sone hkx hlk
      by_cases hxy : x = y
      · subst hxy
        have hxx : (x == x) = true := by simp
        clear hkx hout
        go_wp2
        go_ret
        exact ⟨rfl, rfl⟩
      have hxy1 : (x == y) = false := by rw [beq_eq_false_iff_ne]; exact hxy
      have hnx : y ∉ xs.take (k + 1) := by rw [take_step xs k x hkx]; intro hm; rcases List.mem_append.1 hm with hm | hm; exact hout.out hm; simp at hm; exact hxy hm.symm
      have Hnx := hid hnx
      clear hkx hxy hnx hout
      go_wp2
      go_round
      case rel => exact ⟨k + 1, by omega, by go_num, Hnx⟩
      case measure => simp [intOf]; omega
    · have hge : (n : Int) ≤ (k : Int) := by omega
      have hkn : k = xs.length := by rw [← Hn.out]; omega
      have Hk := hid hkn
      clear hkn hlk
      have := hout.out
      rw [Hk.out, List.take_length] at this
      exact absurd H.out this



theorem l1Has_is (v : Value) (xs : List Int) (y : Int) (b : Bool) (w : World) (hs : Sl w v xs) (hl : xs.length ≤ 2000000) (h : decide (y ∈ xs) = b) :
    Calls Try.prog 52 #[v, .int .i64 y] w fun e w' => e = .returned (.bool b) ∧ w = w' := by
  cases b
  · exact l1Has_no v xs w hs y hl (of_decide_eq_false h)
  · exact l1Has_yes v xs w hs y hl (of_decide_eq_true h)




set_option maxHeartbeats 1000000 in
theorem isOrder_is (u : Value) (os : List Int) (n : Nat) (w : World) (ho : Sl w u os) (hl : os.length ≤ 2000000) (hn : n ≤ 2000000) :
    Calls Try.prog 35 #[u, .int .i64 (n : Int)] w fun e w' => e = .returned (.bool (orB n os)) ∧ w = w' := by
  skip
  skip
  skip
  skip
  skip
  have HO := hid ho
  obtain ⟨a, m, cap, rfl, hm, _⟩ := ho.rd
  have Hm := hid hm
  clear ho
  by_cases hlen : m = n
  · subst hlen
    clear hm
    go_enter Try.func35, Try.ntmps35
    go_wp2_with fail
    go_loop [11] (fun i => ∃ k : Nat, k ≤ m ∧ i = .int .i64 k ∧ Hid (∀ (j : Nat), j < k → (j : Int) ∈ os))
      (fun i => m - (intOf i).toNat)
    case atStart => exact ⟨0, by omega, rfl, hid (fun j hj => absurd hj (Nat.not_lt_zero _))⟩
    case round =>
      obtain ⟨k, hk, rfl, HG⟩ := hrel
      by_cases hlk : k < m
      · by_cases hin : (k : Int) ∈ os
        · have HI := hid hin
          clear hin
          go_wp2_with (go_at_call 53; refine (slContains_is _ os _ true _ HO.out hl (decide_eq_true HI.out)).mono ?_; rintro e w' ⟨rfl, rfl⟩)
          go_round
          case rel => exact ⟨k + 1, by omega, by go_num, hid (fun j hj => by
            rcases Nat.lt_succ_iff_lt_or_eq.1 hj with h | h
            · exact HG.out j h
            · subst h; exact HI.out)⟩
          case measure => simp [intOf]; omega
        · have HI := hid (orB_bad hlk hin)
          have HJ := hid hin
          clear hin
          go_wp2_with (go_at_call 53; refine (slContains_is _ os _ false _ HO.out hl (decide_eq_false HJ.out)).mono ?_; rintro e w' ⟨rfl, rfl⟩)
          go_ret
          exact ⟨by rw [HI.out]; rfl, rfl⟩
      · have hge : (m : Int) ≤ (k : Int) := by omega
        have HK := hid (show k = m from by omega)
        clear hlk
        go_wp2
        go_ret
        exact ⟨by rw [orB_mk Hm.out.symm (fun i hi => HG.out i (by rw [HK.out]; exact hi))]; rfl, rfl⟩
  · have HB := hid (orB_len (os := os) (n := n) (by omega))
    have h1 : ((m : Int) == (n : Int)) = false := by rw [beq_eq_false_iff_ne]; omega
    have h2 : ((m : Int) != (n : Int)) = true := by rw [bne_iff_ne]; omega
    have h3 : m ≤ 2000000 := by omega
    clear hlen hm
    go_enter Try.func35, Try.ntmps35
    go_wp2
    go_ret
    exact ⟨by rw [HB.out]; rfl, rfl⟩


set_option maxHeartbeats 1000000 in
theorem chOrder_is (u : Value) (os : List Int) (v : Value) (fs : List Fo) (w : World) (ho : Sl w u os) (hl : os.length ≤ 2000000) (hs : FSl w v fs) (hn : fs.length ≤ 2000000) :
    Calls Try.prog 33 #[v, u] w fun e w' => e = .returned (.bool (orB fs.length os)) ∧ w = w' := by
  obtain ⟨av, n, capv, rfl, hnv, _⟩ := hs
  rw [← hnv] at hn ⊢
  clear hnv
  have HO := hid ho
  obtain ⟨a, m, cap, rfl, hm, _⟩ := ho.rd
  have Hm := hid hm
  clear ho
  by_cases hlen : m = n
  · subst hlen
    clear hm
    go_enter Try.func33, Try.ntmps33
    go_wp2_with fail
    go_loop [13] (fun i => ∃ k : Nat, k ≤ m ∧ i = .int .i64 k ∧ Hid (∀ (j : Nat), j < k → (j : Int) ∈ os))
      (fun i => m - (intOf i).toNat)
    case atStart => exact ⟨0, by omega, rfl, hid (fun j hj => absurd hj (Nat.not_lt_zero _))⟩
    case round =>
      obtain ⟨k, hk, rfl, HG⟩ := hrel
      by_cases hlk : k < m
      · by_cases hin : (k : Int) ∈ os
        · have HI := hid hin
          clear hin
          go_wp2_with (go_at_call 52; refine (l1Has_is _ os _ true _ HO.out hl (decide_eq_true HI.out)).mono ?_; rintro e w' ⟨rfl, rfl⟩)
          go_round
          case rel => exact ⟨k + 1, by omega, by go_num, hid (fun j hj => by
            rcases Nat.lt_succ_iff_lt_or_eq.1 hj with h | h
            · exact HG.out j h
            · subst h; exact HI.out)⟩
          case measure => simp [intOf]; omega
        · have HI := hid (orB_bad hlk hin)
          have HJ := hid hin
          clear hin
          go_wp2_with (go_at_call 52; refine (l1Has_is _ os _ false _ HO.out hl (decide_eq_false HJ.out)).mono ?_; rintro e w' ⟨rfl, rfl⟩)
          go_ret
          exact ⟨by rw [HI.out]; rfl, rfl⟩
      · have hge : (m : Int) ≤ (k : Int) := by omega
        have HK := hid (show k = m from by omega)
        clear hlk
        go_wp2
        go_ret
        exact ⟨by rw [orB_mk Hm.out.symm (fun i hi => HG.out i (by rw [HK.out]; exact hi))]; rfl, rfl⟩
  · have HB := hid (orB_len (os := os) (n := n) (by omega))
    have h1 : ((m : Int) == (n : Int)) = false := by rw [beq_eq_false_iff_ne]; omega
    have h2 : ((m : Int) != (n : Int)) = true := by rw [bne_iff_ne]; omega
    have h3 : m ≤ 2000000 := by omega
    clear hlen hm
    go_enter Try.func33, Try.ntmps33
    go_wp2
    go_ret
    exact ⟨by rw [HB.out]; rfl, rfl⟩


set_option maxHeartbeats 2000000 in
theorem chTake_any (v u : Value) (fs : List Fo) (os : List Int) (w : World) (hs : FSl w v fs) (ho : Sl w u os) (hl : fs.length ≤ 4) (hq : orB fs.length os = true) :
    Calls Try.prog 34 #[v, u] w fun e w' => ∃ r, e = .returned r ∧ FRi w.heap.size w' r (oPs fs os) ∧ Below w.heap.size w w' := by
  obtain ⟨a, n, cap, rfl, hn, hrd⟩ := hs
  obtain ⟨a2, m, cap2, rfl, hm, hrd2⟩ := ho.rd
  have hmn : m = n := by rw [hm, hn]; exact (orB_t hq).1
  subst hmn
  have Hn := hid hn
  have Hm := hid hm
  have Hrd := hid hrd
  have Hrd2 := hid hrd2
  have HQ := hid hq
  have hl' : m ≤ 4 := by omega
  obtain ⟨i0, hi0, hz0, hz1, hz2⟩ := info_parts iFirst
  have hzc : fz.v.cells.size = 5 := rfl
  clear hn hm hrd hrd2 hq hl ho
  go_enter Try.func34, Try.ntmps34
  go_wp2_with fail
  go_loopw [5, 10] (fun r i wr => ∃ k : Nat, k ≤ m ∧ i = .int .i64 k ∧ wr.ownsRow w.heap.size 49 5 r k ((oPs fs (os.take k)).flatMap Fo.cells) ∧ Below w.heap.size w wr)
    (fun _ i _ => m - (intOf i).toNat)
  case atStart => exact ⟨0, by omega, rfl, World.ownsRow_nil _ _ _ _, Below.refl _ _⟩
  case round =>
    obtain ⟨k, hk, rfl, hown, hb⟩ := hrel
    have hsz : w.heap.size ≤ wr.heap.size := hb.size
    by_cases hlk : k < m
    · obtain ⟨x, hkx⟩ := get_lt os k (by rw [← Hm.out]; exact hlk)
      obtain ⟨x1, x2⟩ := orB_in HQ.out hkx
      rw [← Hn.out] at x2
      obtain ⟨j, rfl⟩ : ∃ j : Nat, x = (j : Int) := ⟨x.toNat, by omega⟩
      have hjm : j < m := by omega
      obtain ⟨f, hkf⟩ := get_lt fs j (by rw [← Hn.out]; exact hjm)
      obtain ⟨b2, o2, hix2, hbb2, hce2⟩ := (Hrd2.out.kept hb).at (P := Try.prog) (T := 31) m cap2 uslice sone hkx hlk
      obtain ⟨bb, oo, hix, hbb, h0, h1, h2, h3, h4⟩ := (Hrd.out.kept hb).at (P := Try.prog) (T := 25) m cap usliceF sfiveF hkf hjm
      have Hst := hid (oPs_step (fs := fs) hkx (by simpa using hkf))
      have i1 : (0 : Int) ≤ (k : Int) := by omega
      have i2 : (k : Int) < (m : Int) := by omega
      have Hob := hid (ownsRow_base hown)
      have Hown := hid hown
      clear hkx hkf hown
      go_wp2_with (at_builtin; refine wpList_append_own _ rfl _ _ 25 rfl w.heap.size 49 i0 fz.v 5 40 usliceF hi0 hz0 hz1 hz2 hzc (by decide) _ _ _ rfl (Hown.out.alloc _) ⟨wr.heap.size, 0, none⟩ 1 1 f.cells rfl rfl ?c1 ?c2 ?c3 ?c4 ?c5 ?_)
      case c1 =>
        intro j u hj
        rw [Go.WideShapes.add_plain, Nat.zero_add, World.cell?_alloc_at _ _ _ _ rfl]
        match j, hj with
        | 0, hj => simp [Fo.cells] at hj; subst hj; rfl
        | 1, hj => simp [Fo.cells] at hj; subst hj; rfl
        | 2, hj => simp [Fo.cells] at hj; subst hj; rfl
        | 3, hj => simp [Fo.cells] at hj; subst hj; rfl
        | 4, hj => simp [Fo.cells] at hj; subst hj; rfl
        | j + 5, hj => simp [Fo.cells] at hj
      case c2 => intro u hu; simp [Fo.cells] at hu; rcases hu with rfl | rfl | rfl | rfl | rfl <;> rfl
      case c3 => unfold maxLen; omega
      case c4 => omega
      case c5 => simp; omega
      intro v' w3 hown3 hgrow _
      have hb3 : Below w.heap.size w w3 := (hb.alloc hsz _).grown hgrow (by simp; omega) (fun j hj => Hob.out j hj)
      have Hown3 := hid hown3
      clear hown3 hgrow
      go_wp2
      go_roundw
      case rel => exact ⟨k + 1, by omega, by go_num, by rw [Hst.out, List.flatMap_append]; simpa using Hown3.out, hb3⟩
      case measure => simp [intOf]; omega
    · have hge : (m : Int) ≤ (k : Int) := by omega
      have HK := hid (show k = os.length from by rw [← Hm.out]; omega)
      have Hown := hid hown
      clear hlk hown
      go_wp2
      go_ret
      have h2 := Hown.out
      rw [HK.out, List.take_length] at h2
      exact ⟨_, rfl, FRes.owns (by rw [oPs_len]; exact h2), hb⟩


set_option maxHeartbeats 2000000 in
theorem inOrder_any (v u : Value) (fs : List Fo) (os : List Int) (w : World) (hs : FSl w v fs) (ho : Sl w u os) (hl : fs.length ≤ 4) (hq : orB fs.length os = true) :
    Calls Try.prog 36 #[v, u] w fun e w' => ∃ r, e = .returned r ∧ FRi w.heap.size w' r (oPs fs os) ∧ Below w.heap.size w w' := by
  obtain ⟨a, n, cap, rfl, hn, hrd⟩ := hs
  obtain ⟨a2, m, cap2, rfl, hm, hrd2⟩ := ho.rd
  have hmn : m = n := by rw [hm, hn]; exact (orB_t hq).1
  subst hmn
  have Hn := hid hn
  have Hm := hid hm
  have Hrd := hid hrd
  have Hrd2 := hid hrd2
  have HQ := hid hq
  have hl' : m ≤ 4 := by omega
  have Hol := hid (show (oPs fs os).length = m from by rw [oPs_len]; exact hm.symm)
  have hmk := run_make_firsts (P := Try.prog) 25 49 usliceF iFirst m (by omega)
  clear hn hm hrd hrd2 hq hl ho
  go_enter Try.func36, Try.ntmps36
  go_wp2_with fail
  go_loopw [13] (fun i wr => ∃ k : Nat, k ≤ m ∧ i = .int .i64 k ∧ FRow 49 wr w.heap.size m (fUp (oPs fs os) k) ∧ Below w.heap.size w wr)
    (fun i _ => m - (intOf i).toNat)
  case atStart => exact ⟨0, by omega, rfl, by rw [fUp_zero, Hol.out]; exact FRow.made _ _ _, bel_alloc _ _⟩
  case round =>
    obtain ⟨k, hk, rfl, hrow, hb⟩ := hrel
    by_cases hlk : k < m
    · obtain ⟨x, hkx⟩ := get_lt os k (by rw [← Hm.out]; exact hlk)
      obtain ⟨x1, x2⟩ := orB_in HQ.out hkx
      rw [← Hn.out] at x2
      obtain ⟨j, rfl⟩ : ∃ j : Nat, x = (j : Int) := ⟨x.toNat, by omega⟩
      have hjm : j < m := by omega
      obtain ⟨f, hkf⟩ := get_lt fs j (by rw [← Hn.out]; exact hjm)
      obtain ⟨b2, o2, hix2, hbb2, hce2⟩ := (Hrd2.out.kept hb).at (P := Try.prog) (T := 31) m cap2 uslice sone hkx hlk
      obtain ⟨bb, oo, hix, hbb, h0, h1, h2, h3, h4⟩ := (Hrd.out.kept hb).at (P := Try.prog) (T := 25) m cap usliceF sfiveF hkf hjm
      obtain ⟨d0, d1, d2, d3, d4⟩ := hrow.five (fUp_get (oPs fs os) k (by rw [Hol.out]; exact hlk))
      have q0 := hrow.free (k * 5)
      have q1 := hrow.free (k * 5 + 1)
      have q2 := hrow.free (k * 5 + 2)
      have q3 := hrow.free (k * 5 + 3)
      have q4 := hrow.free (k * 5 + 4)
      have Hst := hid (fUp_step (oPs fs os) k f (oPs_get hkx (by simpa using hkf)))
      have Hset := hid (hrow.set (k := k) (by rw [fUp_len _ k (by rw [Hol.out]; exact hk), Hol.out]; exact hlk) f)
      have i1 : (0 : Int) ≤ (k : Int) := by omega
      have i2 : (k : Int) < (m : Int) := by omega
      clear hkx hkf hrow
      go_wp2
      go_roundw
      case rel => exact ⟨k + 1, by omega, by go_num, by rw [← Hst.out]; exact Hset.out, ((((hb.setCell (by exact Nat.le_refl _) _).setCell (by exact Nat.le_refl _) _).setCell (by exact Nat.le_refl _) _).setCell (by exact Nat.le_refl _) _).setCell (by exact Nat.le_refl _) _⟩
      case measure => simp [intOf]; omega
    · have hge : (m : Int) ≤ (k : Int) := by omega
      have HK := hid (show k = (oPs fs os).length from by rw [Hol.out]; omega)
      have Hrow := hid hrow
      clear hlk hrow
      go_wp2
      go_ret
      refine ⟨_, rfl, .inr ⟨w.heap.size, m, by rw [Hol.out]; rfl, Nat.le_refl _, ?_⟩, hb⟩
      have := Hrow.out
      rw [HK.out, fUp_full] at this
      exact this
/-- parts and an order -/
def opB (fs : List Fo) (os : List Int) : Bool := fsB fs && orB fs.length os
def opL (fs : List Fo) (os : List Int) : List Fo := match opB fs os with | true => oPs fs os | false => []
theorem opL_len (fs : List Fo) (os : List Int) (h : os.length ≤ 1048576) : (opL fs os).length ≤ 2000000 := by
  unfold opL; split
  · rw [oPs_len]; omega
  · simp
theorem givesF_of {w w2 : World} {ys zs : List Fo} {b c : Bool} {e : Ending} (h1 : b = c) (h2 : ys = zs) (h : GivesF w zs c e w2) : GivesF w ys b e w2 := by subst h1 h2; exact h


set_option maxHeartbeats 2000000 in
theorem spec_OrderParts_is (v u : Value) (fs : List Fo) (os : List Int) (w : World) (hs : FSl w v fs) (ho : Sl w u os) (hl : fs.length ≤ 2000000) (hl2 : os.length ≤ 2000000) :
    Calls Try.prog 15 #[v, u] w (GivesF w (opL fs os) (opB fs os)) := by
  have Hs := hid hs
  have Ho := hid ho
  skip
  cases hg : fsB fs
  · have HZ := hid (show opB fs os = false from by unfold opB; rw [hg]; rfl)
    have HG := hid hg
    clear hg hs ho
    go_enter Try.func15, Try.ntmps15
    go_wp2_with fail
    refine (chGood_is _ fs _ Hs.out hl).mono ?_
    rintro e w1 ⟨rfl, hb⟩
    rw [HG.out]
    go_wp2_with fail
    go_ret2
    exact givesF_of HZ.out (by unfold opL; rw [HZ.out]) ⟨_, rfl, .inl ⟨rfl, rfl⟩, hb⟩
  · cases hq : orB fs.length os
    · have HZ := hid (show opB fs os = false from by unfold opB; rw [hg, hq]; rfl)
      have HG := hid hg
      have HQ := hid hq
      clear hg hq hs ho
      go_enter Try.func15, Try.ntmps15
      go_wp2_with fail
      refine (chGood_is _ fs _ Hs.out hl).mono ?_
      rintro e w1 ⟨rfl, hb⟩
      rw [HG.out]
      go_wp2_with fail
      refine (chOrder_is _ os _ fs _ (Ho.out.kept hb) hl2 (Hs.out.kept hb) hl).mono ?_
      rintro e w' ⟨rfl, rfl⟩
      rw [HQ.out]
      go_wp2_with fail
      go_ret2
      exact givesF_of HZ.out (by unfold opL; rw [HZ.out]) ⟨_, rfl, .inl ⟨rfl, rfl⟩, hb⟩
    · have HZ := hid (show opB fs os = true from by unfold opB; rw [hg, hq]; rfl)
      have HG := hid hg
      have HQ := hid hq
      have H4 := hid (fsB_t hg).1.2
      clear hg hq hs ho
      go_enter Try.func15, Try.ntmps15
      go_wp2_with fail
      refine (chGood_is _ fs _ Hs.out hl).mono ?_
      rintro e w1 ⟨rfl, hb⟩
      rw [HG.out]
      go_wp2_with fail
      refine (chOrder_is _ os _ fs _ (Ho.out.kept hb) hl2 (Hs.out.kept hb) hl).mono ?_
      rintro e w' ⟨rfl, rfl⟩
      rw [HQ.out]
      go_wp2_with fail
      refine (chTake_any _ _ fs os _ (Hs.out.kept hb) (Ho.out.kept hb) H4.out HQ.out).mono ?_
      rintro e w2 ⟨r, rfl, hr, hb2⟩
      have Hr := hid hr
      clear hr
      go_wp2_with fail
      go_ret2
      exact givesF_of HZ.out (by unfold opL; rw [HZ.out]) ⟨_, rfl, Hr.out.mono hb.size, bel_step hb hb2⟩


set_option maxHeartbeats 2000000 in
theorem impl_OrderParts_is (v u : Value) (fs : List Fo) (os : List Int) (w : World) (hs : FSl w v fs) (ho : Sl w u os) (hl : fs.length ≤ 2000000) (hl2 : os.length ≤ 2000000) :
    Calls Try.prog 17 #[v, u] w (GivesF w (opL fs os) (opB fs os)) := by
  have Hs := hid hs
  have Ho := hid ho
  obtain ⟨av, n, cv, rfl, hn, _⟩ := hs
  have hn2 : n ≤ 2000000 := by omega
  have Hn := hid hn
  clear hn
  cases hg : fsB fs
  · have HZ := hid (show opB fs os = false from by unfold opB; rw [hg]; rfl)
    have HG := hid hg
    clear hg ho
    go_enter Try.func17, Try.ntmps17
    go_wp2_with fail
    refine (AreParts_is _ fs _ Hs.out hl).mono ?_
    rintro e w1 ⟨rfl, hb⟩
    rw [HG.out]
    go_wp2_with fail
    go_ret2
    exact givesF_of HZ.out (by unfold opL; rw [HZ.out]) ⟨_, rfl, .inl ⟨rfl, rfl⟩, hb⟩
  · cases hq : orB fs.length os
    · have HZ := hid (show opB fs os = false from by unfold opB; rw [hg, hq]; rfl)
      have HG := hid hg
      have HQ := hid hq
      clear hg hq ho
      go_enter Try.func17, Try.ntmps17
      go_wp2_with fail
      refine (AreParts_is _ fs _ Hs.out hl).mono ?_
      rintro e w1 ⟨rfl, hb⟩
      rw [HG.out]
      go_wp2_with fail
      refine (isOrder_is _ os n _ (Ho.out.kept hb) hl2 (by omega)).mono ?_
      rintro e w' ⟨rfl, rfl⟩
      rw [show orB n os = false from by rw [Hn.out]; exact HQ.out]
      go_wp2_with fail
      go_ret2
      exact givesF_of HZ.out (by unfold opL; rw [HZ.out]) ⟨_, rfl, .inl ⟨rfl, rfl⟩, hb⟩
    · have HZ := hid (show opB fs os = true from by unfold opB; rw [hg, hq]; rfl)
      have HG := hid hg
      have HQ := hid hq
      have H4 := hid (fsB_t hg).1.2
      clear hg hq ho
      go_enter Try.func17, Try.ntmps17
      go_wp2_with fail
      refine (AreParts_is _ fs _ Hs.out hl).mono ?_
      rintro e w1 ⟨rfl, hb⟩
      rw [HG.out]
      go_wp2_with fail
      refine (isOrder_is _ os n _ (Ho.out.kept hb) hl2 (by omega)).mono ?_
      rintro e w' ⟨rfl, rfl⟩
      rw [show orB n os = true from by rw [Hn.out]; exact HQ.out]
      go_wp2_with fail
      refine (inOrder_any _ _ fs os _ (Hs.out.kept hb) (Ho.out.kept hb) H4.out HQ.out).mono ?_
      rintro e w2 ⟨r, rfl, hr, hb2⟩
      have Hr := hid hr
      clear hr
      go_wp2_with fail
      go_ret2
      exact givesF_of HZ.out (by unfold opL; rw [HZ.out]) ⟨_, rfl, Hr.out.mono hb.size, bel_step hb hb2⟩


set_option maxHeartbeats 3200000 in
theorem gen_FnExactOrderParts (fs : List Fo) (os : List Int) (u_fs : Option Addr) (l_fs c_fs : Nat) (u_os : Option Addr) (l_os c_os : Nat) (ys : List Fo) (ok : Bool) (w : World) (hs_fs : FSl w (.slice u_fs l_fs c_fs) fs) (ll_fs : l_fs ≤ 1048576) (hl_fs : fs.length ≤ 1048576) (hs_os : Sl w (.slice u_os l_os c_os) os) (ll_os : l_os ≤ 1048576) (hl_os : os.length ≤ 1048576) (hy : ys.length ≤ 2000000) (hspec : ∀ (w : World) (v_fs : Value) (v_os : Value), FSl w v_fs fs → Sl w v_os os → Calls Try.prog 15 #[v_fs, v_os] w (GivesF w ys ok)) (himpl : ∀ (w : World) (v_fs : Value) (v_os : Value), FSl w v_fs fs → Sl w v_os os → Calls Try.prog 17 #[v_fs, v_os] w (GivesF w ys ok)) :
    Calls Try.prog 5 #[.slice u_fs l_fs c_fs, .slice u_os l_os c_os] w fun e w' => e = .returned (.bool true) ∧ Below w.heap.size w w' := by
  have HSfs := hid hs_fs
  clear hs_fs
  have HSos := hid hs_os
  clear hs_os
  have HSP := hid hspec
  have HIM := hid himpl
  clear hspec himpl
  all_goals cases ok
  all_goals
    go_enter Try.func5, Try.ntmps5
    go_wp2_with fail
    refine (szFirstS_le _ _ _ _ ll_fs).mono ?_
    rintro e w' ⟨rfl, rfl⟩
    have hsz0 : ¬ (1048576 - (l_fs : Int)) < 0 := by omega
    go_wp2_with fail
    refine (toFirstS_any _ fs _ HSfs.out (by omega)).mono ?_
    rintro e w1 ⟨v_Afs, rfl, Afs, hb⟩
    have B1 := hb
    have hz1 : w.heap.size ≤ w1.heap.size := hb.size
    go_wp2_with fail
    refine (toIntS_res _ os _ (HSos.out.kept B1) (by omega)).mono ?_
    rintro e w2 ⟨v_Aos, rfl, Aos, hb⟩
    have B2 := bel_step B1 hb
    have hz2 : w1.heap.size ≤ w2.heap.size := hb.size
    have Afs_2 := Afs.kept hb
    go_wp2_with fail
    refine (HSP.out _ _ _ Afs_2.sl Aos.sl).mono ?_
    rintro e w3 ⟨v_R0, rfl, R0, hb⟩
    have B3 := bel_step B2 hb
    have hz3 : w2.heap.size ≤ w3.heap.size := hb.size
    have Afs_3 := Afs_2.kept hb
    have Aos_3 := Aos.kept hb
    have Hlt0 := hid (fun g (hg : v_R0.ownBlock = some g) => R0.lt hg)
    go_wp2_with fail
    refine (toFirstS_any _ fs _ (HSfs.out.kept B3) (by omega)).mono ?_
    rintro e w4 ⟨v_Xfs, rfl, Xfs, hb⟩
    have B4 := bel_step B3 hb
    have hz4 : w3.heap.size ≤ w4.heap.size := hb.size
    have R0_4 := R0.kept hb
    have Hne_Xfs := hid (show ∀ g, v_R0.ownBlock = some g → v_Xfs.ownBlock ≠ some g from fun g hg e => by have a1 := Hlt0.out g hg; have a2 := Xfs.ge e; omega)
    have KXfs := hid (fun g (hg : v_Xfs.ownBlock = some g) => Xfs.lt hg)
    have JXfs := hid (fun g (hg : v_Xfs.ownBlock = some g) => Xfs.ge hg)
    go_wp2_with fail
    refine (toIntS_res _ os _ (HSos.out.kept B4) (by omega)).mono ?_
    rintro e w5 ⟨v_Xos, rfl, Xos, hb⟩
    have B5 := bel_step B4 hb
    have hz5 : w4.heap.size ≤ w5.heap.size := hb.size
    have R0_5 := R0_4.kept hb
    have Xfs_5 := Xfs.kept hb
    have Hne_Xos := hid (show ∀ g, v_R0.ownBlock = some g → v_Xos.ownBlock ≠ some g from fun g hg e => by have a1 := Hlt0.out g hg; have a2 := Xos.ge e; omega)
    have Hxx_Xfs_Xos := hid (show ∀ g, v_Xfs.ownBlock = some g → v_Xos.ownBlock ≠ some g from fun g hg e => by have a1 := KXfs.out g hg; have a2 := Xos.ge e; omega)
    have KXos := hid (fun g (hg : v_Xos.ownBlock = some g) => Xos.lt hg)
    have JXos := hid (fun g (hg : v_Xos.ownBlock = some g) => Xos.ge hg)
    go_wp2_with fail
    refine (HIM.out _ _ _ Xfs_5.sl Xos.sl).mono ?_
    rintro e w6 ⟨v_R1, rfl, R1, hb⟩
    have B6 := bel_step B5 hb
    have hz6 : w5.heap.size ≤ w6.heap.size := hb.size
    have R0_6 := R0_5.kept hb
    have Xfs_6 := Xfs_5.kept hb
    have Xos_6 := Xos.kept hb
    have Hne1_Xfs := hid (show ∀ g, v_R1.ownBlock = some g → v_Xfs.ownBlock ≠ some g from fun g hg e => by have a1 := R1.ge hg; have a2 := KXfs.out g e; omega)
    have Hne1_Xos := hid (show ∀ g, v_R1.ownBlock = some g → v_Xos.ownBlock ≠ some g from fun g hg e => by have a1 := R1.ge hg; have a2 := KXos.out g e; omega)
    have Hne01 := hid (show ∀ g, v_R0.ownBlock = some g → v_R1.ownBlock ≠ some g from fun g hg e => by have a1 := R1.ge e; have a2 := Hlt0.out g hg; omega)
    have Hge1 := hid (show ∀ g, v_R1.ownBlock = some g → w.heap.size ≤ g from fun g hg => by have a1 := R1.ge hg; omega)
    go_wp2_with fail
    refine (eqFirstS_same _ _ ys _ R1.sl R0_6.sl hy).mono ?_
    rintro e w7 ⟨rfl, hb⟩
    have B7 := bel_step B6 hb
    have hz7 : w6.heap.size ≤ w7.heap.size := hb.size
    have R0_7 := R0_6.kept hb
    have Xfs_7 := Xfs_6.kept hb
    have Xos_7 := Xos_6.kept hb
    have R1_7 := R1.kept hb
    go_wp2_with fail
    refine (toFirstS_any _ fs _ (HSfs.out.kept B7) (by omega)).mono ?_
    rintro e w8 ⟨v_Tfs, rfl, Tfs, hb⟩
    have B8 := bel_step B7 hb
    have hz8 : w7.heap.size ≤ w8.heap.size := hb.size
    have R0_8 := R0_7.kept hb
    have Xfs_8 := Xfs_7.kept hb
    have Xos_8 := Xos_7.kept hb
    have R1_8 := R1_7.kept hb
    go_wp2_with fail
    refine (eqFirstS_same _ _ fs _ Xfs_8.sl Tfs.sl (by omega)).mono ?_
    rintro e w9 ⟨rfl, hb⟩
    have B9 := bel_step B8 hb
    have hz9 : w8.heap.size ≤ w9.heap.size := hb.size
    have R0_9 := R0_8.kept hb
    have Xfs_9 := Xfs_8.kept hb
    have Xos_9 := Xos_8.kept hb
    have R1_9 := R1_8.kept hb
    have Tfs_9 := Tfs.kept hb
    go_wp2_with fail
    refine (toIntS_res _ os _ (HSos.out.kept B9) (by omega)).mono ?_
    rintro e w10 ⟨v_Tos, rfl, Tos, hb⟩
    have B10 := bel_step B9 hb
    have hz10 : w9.heap.size ≤ w10.heap.size := hb.size
    have R0_10 := R0_9.kept hb
    have Xfs_10 := Xfs_9.kept hb
    have Xos_10 := Xos_9.kept hb
    have R1_10 := R1_9.kept hb
    go_wp2_with fail
    refine (eqIntS_same _ _ os _ Xos_10.sl Tos.sl (by omega)).mono ?_
    rintro e w11 ⟨rfl, hb⟩
    have B11 := bel_step B10 hb
    have hz11 : w10.heap.size ≤ w11.heap.size := hb.size
    have R0_11 := R0_10.kept hb
    have Xfs_11 := Xfs_10.kept hb
    have Xos_11 := Xos_10.kept hb
    have R1_11 := R1_10.kept hb
    have Tos_11 := Tos.kept hb
    go_wp2_with fail
    refine (markFirstS_res _ fs (1) _ _ Xfs_11 (by omega) (by omega)).mono ?_
    rintro e w12 ⟨rfl, ho, MXfs⟩
    have B12 := B11.trans (ho.below fun g hg => Nat.le_trans (by omega) (JXfs.out g hg))
    have hz12 : w11.heap.size ≤ w12.heap.size := Nat.le_of_eq ho.size.symm
    have R0_12 := R0_11.only ho Hne_Xfs.out
    have R1_12 := R1_11.only ho Hne1_Xfs.out
    have Xos_12 := Xos_11.only ho (fun g hg e => Hxx_Xfs_Xos.out g e hg)
    go_wp2_with fail
    refine (markIntS_res _ os (1 + 5 * fs.length) _ _ Xos_12 (by omega) (by omega)).mono ?_
    rintro e w13 ⟨rfl, ho, MXos⟩
    have B13 := B12.trans (ho.below fun g hg => Nat.le_trans (by omega) (JXos.out g hg))
    have hz13 : w12.heap.size ≤ w13.heap.size := Nat.le_of_eq ho.size.symm
    have R0_13 := R0_12.only ho Hne_Xos.out
    have R1_13 := R1_12.only ho Hne1_Xos.out
    have hpos : (0 : Int) ≤ ((1 + 5 * fs.length + os.length : Nat) : Int) := by omega
    generalize (1 + 5 * fs.length + os.length) = kk at hpos ⊢
    go_wp2_with fail
    refine (eqFirstS_same _ _ ys _ R1_13.sl R0_13.sl hy).mono ?_
    rintro e w14 ⟨rfl, hb⟩
    have B14 := bel_step B13 hb
    have hz14 : w13.heap.size ≤ w14.heap.size := hb.size
    have R0_14 := R0_13.kept hb
    have R1_14 := R1_13.kept hb
    go_wp2_with fail
    refine (markFirstS_res _ ys (1) _ _ R1_14 hy (by omega)).mono ?_
    rintro e w15 ⟨rfl, ho, MR1⟩
    have B15 := B14.trans (ho.below fun g hg => Hge1.out g hg)
    have hz15 : w14.heap.size ≤ w15.heap.size := Nat.le_of_eq ho.size.symm
    have R0_15 := R0_14.only ho Hne01.out
    have hpos2 : (0 : Int) ≤ ((1 + 5 * ys.length : Nat) : Int) := by omega
    go_wp2_with fail
    refine (heldFirstS_res _ ys.length 1 _ MR1.sl hy (by omega)).mono ?_
    rintro e w' ⟨rfl, rfl⟩
    go_wp2_with fail
    refine (toFirstS_any _ fs _ (HSfs.out.kept B15) (by omega)).mono ?_
    rintro e w16 ⟨v_Zfs, rfl, Zfs, hb⟩
    have B16 := bel_step B15 hb
    have hz16 : w15.heap.size ≤ w16.heap.size := hb.size
    have R0_16 := R0_15.kept hb
    have MR1_16 := MR1.kept hb
    go_wp2_with fail
    refine (toIntS_res _ os _ (HSos.out.kept B16) (by omega)).mono ?_
    rintro e w17 ⟨v_Zos, rfl, Zos, hb⟩
    have B17 := bel_step B16 hb
    have hz17 : w16.heap.size ≤ w17.heap.size := hb.size
    have R0_17 := R0_16.kept hb
    have MR1_17 := MR1_16.kept hb
    have Zfs_17 := Zfs.kept hb
    go_wp2_with fail
    refine (HIM.out _ _ _ Zfs_17.sl Zos.sl).mono ?_
    rintro e w18 ⟨v_R2, rfl, R2, hb⟩
    have B18 := bel_step B17 hb
    have hz18 : w17.heap.size ≤ w18.heap.size := hb.size
    have R0_18 := R0_17.kept hb
    have MR1_18 := MR1_17.kept hb
    have Zfs_18 := Zfs_17.kept hb
    have Zos_18 := Zos.kept hb
    go_wp2_with fail
    refine (eqFirstS_same _ _ ys _ R2.sl R0_18.sl hy).mono ?_
    rintro e w19 ⟨rfl, hb⟩
    have B19 := bel_step B18 hb
    have hz19 : w18.heap.size ≤ w19.heap.size := hb.size
    have R0_19 := R0_18.kept hb
    have MR1_19 := MR1_18.kept hb
    have R2_19 := R2.kept hb
    go_wp2_with fail
    refine (heldFirstS_res _ ys.length 1 _ MR1_19.sl hy (by omega)).mono ?_
    rintro e w' ⟨rfl, rfl⟩
    go_wp2_with fail
    go_ret
    exact ⟨rfl, B19⟩


set_option maxHeartbeats 1600000 in
theorem walk_FnExactOrderParts (w : World) (u_fs : Option Addr) (l_fs c_fs : Nat) (fs : List Fo) (hr_fs : IsFs w u_fs l_fs c_fs fs) (u_os : Option Addr) (l_os c_os : Nat) (z_os : List Int) (hr_os : IsRow .i64 w u_os l_os c_os z_os) :
    Calls Try.prog 5 #[.slice u_fs l_fs c_fs, .slice u_os l_os c_os] w fun e w' => e = .returned (.bool true) ∧ Below w.heap.size w w' := by
  obtain ⟨hs_fs, hlen_fs, hin_fs, hmx_fs⟩ := hr_fs
  obtain ⟨hs_os, hlen_os, hin_os⟩ := hr_os.sl
  generalize z_os.take l_os = os at hs_os hlen_os hin_os
  clear hr_os
  by_cases hbig_os : 1048576 < l_os
  · skip
    clear hs_os hlen_os hin_os hs_fs hlen_fs hin_fs
    go_enter Try.func5, Try.ntmps5
    go_wp2
    go_ret
    exact ⟨rfl, Below.refl _ _⟩
  · have hq_os : l_os ≤ 1048576 := by omega
    by_cases hbig_fs : 1048576 < l_fs
    · skip
      clear hs_fs hlen_fs hin_fs
      have hm2 : l_fs ≤ 9223372036854775807 := by have := hmx_fs; unfold maxLen at this; omega
      clear hmx_fs
      go_enter Try.func5, Try.ntmps5
      go_wp2_with fail
      refine (szFirstS_gt _ _ _ _ hbig_fs hm2).mono ?_
      rintro e w' ⟨rfl, rfl⟩
      go_wp2
      go_ret
      exact ⟨rfl, Below.refl _ _⟩
    · have hq_fs : l_fs ≤ 1048576 := by omega
      exact gen_FnExactOrderParts fs os _ _ _ _ _ _ (opL fs os) (opB fs os) w hs_fs (by omega) (by omega) hs_os (by omega) (by omega) (opL_len _ _ (by omega)) (fun w v_fs v_os h_fs h_os => spec_OrderParts_is _ _ _ _ _ h_fs h_os (by omega) (by omega)) (fun w v_fs v_os h_fs h_os => impl_OrderParts_is _ _ _ _ _ h_fs h_os (by omega) (by omega))


end Go.Proofs.Ytkpfcaipbhfgkaa
