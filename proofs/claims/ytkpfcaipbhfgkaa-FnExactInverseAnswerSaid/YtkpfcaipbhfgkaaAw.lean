
import Derived.Test.YtkpfcaipbhfgkaaAb
import Derived.Test.YtkpfcaipbhfgkaaWin
namespace Go.Proofs.Ytkpfcaipbhfgkaa
open Go.RowKit BitX Go.MemX
set_option linter.unusedVariables false

/-- the first n numbers that the weights answer with these, if they are whole and no greater in size than L -/
def awS (h a : List Int) (L : Int) : Nat → Option (List Int)
  | 0 => some []
  | n + 1 => match awS h a L n with
    | some q => if (at0 a n - conv h q n).tdiv (at0 h 0) * at0 h 0 = at0 a n - conv h q n ∧ absI ((at0 a n - conv h q n).tdiv (at0 h 0)) ≤ L then some (q ++ [(at0 a n - conv h q n).tdiv (at0 h 0)]) else none
    | none => none
theorem awS_yes {h a q : List Int} {L : Int} {n : Nat} (hq : awS h a L n = some q) (h1 : (at0 a n - conv h q n).tdiv (at0 h 0) * at0 h 0 = at0 a n - conv h q n) (h2 : absI ((at0 a n - conv h q n).tdiv (at0 h 0)) ≤ L) :
    awS h a L (n + 1) = some (q ++ [(at0 a n - conv h q n).tdiv (at0 h 0)]) := by rw [awS, hq]; simp only [h1, h2, and_self, if_true]
theorem awS_no {h a q : List Int} {L : Int} {n : Nat} (hq : awS h a L n = some q) (h1 : ¬ ((at0 a n - conv h q n).tdiv (at0 h 0) * at0 h 0 = at0 a n - conv h q n ∧ absI ((at0 a n - conv h q n).tdiv (at0 h 0)) ≤ L)) :
    ∀ N, n + 1 ≤ N → awS h a L N = none := by
  intro N hN
  induction N with
  | zero => omega
  | succ N ih =>
    by_cases e : n = N
    · subst e; rw [awS, hq]; simp only [h1, if_false]
    · rw [awS, ih (by omega)]
theorem awS_in {h a : List Int} {L : Int} : ∀ {n : Nat} {q : List Int}, awS h a L n = some q → q.length = n ∧ InP (-L) L q
  | 0, q, e => by cases e; exact ⟨rfl, InP.nil _ _⟩
  | n + 1, q, e => by
    rw [awS] at e
    split at e
    · rename_i p hp
      split at e
      · rename_i hc
        cases e
        obtain ⟨i1, i2⟩ := awS_in hp
        refine ⟨by simp [i1], fun x hx => ?_⟩
        rcases List.mem_append.1 hx with hx | hx
        · exact i2 x hx
        · simp at hx; rw [hx]; have := hc.2; unfold absI at this; omega
      · cases e
    · cases e
def awOk (h a : List Int) (L : Int) (N : Nat) : Bool := (awS h a L N).isSome
def awL (h a : List Int) (L : Int) (N : Nat) : List Int := (awS h a L N).getD []
theorem awOk_t {h a q : List Int} {L : Int} {N : Nat} (hq : awS h a L N = some q) : awOk h a L N = true ∧ awL h a L N = q := by simp [awOk, awL, hq]
theorem awOk_f {h a : List Int} {L : Int} {N : Nat} (hq : awS h a L N = none) : awOk h a L N = false ∧ awL h a L N = [] := by simp [awOk, awL, hq]
theorem awL_len {h a : List Int} {L : Int} {N : Nat} : (awL h a L N).length ≤ N := by
  unfold awL
  cases hq : awS h a L N with
  | none => simp
  | some q => simp [(awS_in hq).1]
theorem conv_cur (h q : List Int) (N n : Nat) (hn : n < N) : conv h (tab N (at0 q)) n = conv h q n := by
  unfold conv
  exact sumF_congr _ _ _ fun i hi => by rw [at0_tab _ _ _ (by omega)]
theorem cur_set {q : List Int} {n : Nat} (N : Nat) (x : Int) (hq : q.length = n) : (tab N (at0 q)).set n x = tab N (at0 (q ++ [x])) := by
  refine tab_set _ _ _ _ ?_ fun i _ hne => ?_
  · unfold at0; rw [List.getD_eq_getElem?_getD, List.getElem?_append_right (by omega)]; simp [hq]
  · unfold at0
    rw [List.getD_eq_getElem?_getD, List.getD_eq_getElem?_getD]
    by_cases h : i < n
    · rw [List.getElem?_append_left (by omega)]
    · rw [List.getElem?_eq_none (by omega), List.getElem?_eq_none (by simp; omega)]
theorem cur_zero (N : Nat) : tab N (at0 []) = List.replicate N 0 := by
  rw [← tab_zero]; exact tab_congr _ _ _ fun i _ => rfl
theorem cur_get {q : List Int} {n N : Nat} (hq : q.length = n) (hn : n < N) : (tab N (at0 q))[n]? = some 0 := by
  rw [tab_get _ _ _ hn, at0_out (by omega)]
theorem cur_full {q : List Int} {N : Nat} (hq : q.length = N) : tab N (at0 q) = q := by rw [← hq]; exact tab_self q
theorem tdiv_small {r d B : Int} (h1 : -B ≤ r) (h2 : r ≤ B) : -B ≤ r.tdiv d ∧ r.tdiv d ≤ B := by
  have h : (r.tdiv d).natAbs ≤ r.natAbs := by rw [Int.natAbs_tdiv]; exact Nat.div_le_self _ _
  omega
theorem cur_in {q : List Int} {N : Nat} {L : Int} (h : InP (-L) L q) (h0 : 0 ≤ L) : InP (-L) L (tab N (at0 q)) := fun x hx => by
  obtain ⟨i, hi⟩ := List.getElem?_of_mem hx
  have hl := (List.getElem?_eq_some_iff.1 hi).1
  rw [tab_len] at hl
  rw [tab_get _ _ _ hl] at hi
  have e := Option.some.inj hi
  rw [← e]; exact at0_in h (by omega) h0 i
end Go.Proofs.Ytkpfcaipbhfgkaa
