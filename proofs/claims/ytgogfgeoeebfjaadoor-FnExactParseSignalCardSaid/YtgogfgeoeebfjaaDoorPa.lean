
import Derived.Test.YtgogfgeoeebfjaaDoorTy
import Derived.Lib.AtoiTie
import Derived.Lib.Split
namespace Go.Proofs.YtgogfgeoeebfjaaDoor
open Go.RowKit BitX Go.MemX
set_option linter.unusedVariables false
/-- what the reading of a text carries: the numbers read, the one under way, its sign, how many digits it has -/
abbrev PSt := List Int × Int × Bool × Nat
def pSep (s : PSt) : Option PSt := if s.2.2.2 = 0 then none else some (s.1 ++ [if s.2.2.1 then -s.2.1 else s.2.1], 0, false, 0)
def pStep (s : PSt) (c : Nat) : Option PSt :=
  if c = 44 then pSep s
  else if c = 45 ∧ s.2.2.2 = 0 ∧ s.2.2.1 = false then some (s.1, s.2.1, true, s.2.2.2)
  else if 48 ≤ c ∧ c ≤ 57 ∧ s.2.2.2 < 7 then some (s.1, 10 * s.2.1 + ((c : Int) - 48), s.2.2.1, s.2.2.2 + 1)
  else none
def pRun (s : PSt) : List UInt8 → Option PSt
  | [] => some s
  | c :: r => (pStep s c.toNat).bind fun s' => pRun s' r
theorem pRun_append (s : PSt) (a b : List UInt8) : pRun s (a ++ b) = (pRun s a).bind fun s' => pRun s' b := by
  induction a generalizing s with
  | nil => rfl
  | cons c r ih =>
    simp only [List.cons_append, pRun]
    cases pStep s c.toNat with
    | none => rfl
    | some s' => exact ih s'
theorem pRun_take (s : PSt) (l : List UInt8) (k : Nat) (c : UInt8) (h : l[k]? = some c) : pRun s (l.take (k + 1)) = (pRun s (l.take k)).bind fun s' => pStep s' c.toNat := by
  rw [List.take_add_one, h, pRun_append]
  congr 1
  funext s'
  simp [pRun]
theorem pRun_none (s : PSt) (l : List UInt8) (k : Nat) (h : pRun s (l.take k) = none) : pRun s l = none := by
  have := pRun_append s (l.take k) (l.drop k)
  rw [List.take_append_drop, h] at this
  exact this
def pIni : PSt := ([], 0, false, 0)
def parseL (l : List UInt8) : Option (List Int) := ((pRun pIni l).bind pSep).map (·.1)
theorem digit_val (n : Nat) (h : n < 10) : (UInt8.ofNat (48 + n)).toNat = 48 + n := by simp [UInt8.toNat_ofNat]; omega
theorem pStep_digit (s : PSt) (n : Nat) (h : n < 10) (hd : s.2.2.2 < 7) : pStep s (48 + n) = some (s.1, 10 * s.2.1 + (n : Int), s.2.2.1, s.2.2.2 + 1) := by
  unfold pStep
  rw [if_neg (by omega), if_neg (by omega), if_pos (by omega)]
  congr 4; omega
theorem digits_pos (n : Nat) : 1 ≤ (Lib.decDigits n).length := by
  by_cases h : n < 10
  · rw [digits_small n h]; simp
  · rw [digits_more n (by omega)]; simp
theorem pRun_digits : ∀ (n : Nat) (s : PSt), s.2.1 = 0 → s.2.2.2 + (Lib.decDigits n).length ≤ 7 → pRun s (Lib.decDigits n) = some (s.1, (n : Int), s.2.2.1, s.2.2.2 + (Lib.decDigits n).length) := by
  intro n
  induction n using Nat.strongRecOn with
  | ind n ih =>
    intro s h0 hl
    by_cases h : n < 10
    · rw [digits_small n h] at hl ⊢
      simp only [List.length_singleton] at hl ⊢
      simp only [pRun]
      rw [digit_val n h, pStep_digit s n h (by omega), h0]
      simp
    · rw [digits_more n (by omega)] at hl ⊢
      simp only [List.length_append, List.length_singleton] at hl ⊢
      rw [pRun_append, ih (n / 10) (by omega) s h0 (by omega)]
      simp only [Option.bind_some, pRun]
      rw [digit_val (n % 10) (by omega), pStep_digit _ (n % 10) (by omega) (by simp only; omega)]
      simp only [Option.bind_some, Option.some.injEq, Prod.mk.injEq, true_and]
      omega
theorem pRun_itoa (out : List Int) (x : Int) (h1 : -100000 ≤ x) (h2 : x ≤ 100000) : ∃ dg, 1 ≤ dg ∧ pRun (out, 0, false, 0) (Lib.itoa x) = some (out, (x.natAbs : Int), decide (x < 0), dg) := by
  unfold Lib.itoa
  split
  · rename_i h
    have hl := digits_len 6 x.natAbs (by omega) (by omega)
    refine ⟨(Lib.decDigits x.natAbs).length, digits_pos _, ?_⟩
    simp only [pRun]
    rw [show pStep (out, 0, false, 0) (45 : UInt8).toNat = some (out, 0, true, 0) from rfl]
    simp only [Option.bind_some]
    rw [pRun_digits x.natAbs (out, 0, true, 0) rfl (by simp only; omega)]
    simp [h]
  · rename_i h
    have hl := digits_len 6 x.toNat (by omega) (by omega)
    refine ⟨(Lib.decDigits x.toNat).length, digits_pos _, ?_⟩
    rw [pRun_digits x.toNat (out, 0, false, 0) rfl (by simp only; omega)]
    simp [h]; omega
theorem sep_itoa (out : List Int) (x : Int) (dg : Nat) (hd : 1 ≤ dg) : pSep (out, (x.natAbs : Int), decide (x < 0), dg) = some (out ++ [x], 0, false, 0) := by
  unfold pSep
  simp only
  rw [if_neg (by omega)]
  congr 4
  by_cases h : x < 0 <;> simp [h] <;> omega
theorem pRun_acc (xs : List Int) (hx : InP (-100000) 100000 xs) : ∀ k, k < xs.length → ∃ dg x, 1 ≤ dg ∧ xs[k]? = some x ∧ pRun pIni (accL xs (k + 1)) = some (xs.take k, (x.natAbs : Int), decide (x < 0), dg)
  | 0, h => by
    obtain ⟨x, hkx⟩ := get_lt xs 0 h
    obtain ⟨x1, x2⟩ := hx.at hkx
    obtain ⟨dg, hd, he⟩ := pRun_itoa [] x x1 x2
    exact ⟨dg, x, hd, hkx, by rw [accL_one xs x hkx]; exact he⟩
  | k + 1, h => by
    obtain ⟨dg, x, hd, hkx, he⟩ := pRun_acc xs hx k (by omega)
    obtain ⟨y, hky⟩ := get_lt xs (k + 1) h
    obtain ⟨y1, y2⟩ := hx.at hky
    obtain ⟨dg2, hd2, he2⟩ := pRun_itoa (xs.take (k + 1)) y y1 y2
    refine ⟨dg2, y, hd2, hky, ?_⟩
    rw [accL_step xs (k + 1) y (by omega) hky, List.append_assoc, pRun_append, he]
    simp only [Option.bind_some, List.cons_append, List.nil_append, pRun]
    rw [show pStep (xs.take k, (x.natAbs : Int), decide (x < 0), dg) (44 : UInt8).toNat = pSep (xs.take k, (x.natAbs : Int), decide (x < 0), dg) from rfl, sep_itoa _ _ _ hd]
    simp only [Option.bind_some]
    rw [show xs.take k ++ [x] = xs.take (k + 1) from (take_step xs k x hkx).symm]
    exact he2
theorem parse_acc (xs : List Int) (hx : InP (-100000) 100000 xs) (h0 : xs ≠ []) : parseL (accL xs xs.length) = some xs := by
  have hl := List.length_pos_iff.2 h0
  obtain ⟨dg, x, hd, hkx, he⟩ := pRun_acc xs hx (xs.length - 1) (by omega)
  rw [show xs.length - 1 + 1 = xs.length from by omega] at he
  unfold parseL
  rw [he]
  simp only [Option.bind_some]
  rw [sep_itoa _ _ _ hd]
  simp only [Option.map_some]
  rw [show xs.take (xs.length - 1) ++ [x] = xs.take (xs.length - 1 + 1) from (take_step xs _ x hkx).symm, show xs.length - 1 + 1 = xs.length from by omega, List.take_length]
theorem parse_dash : parseL [45] = none := by decide
theorem txt_dash (xs : List Int) (hx : InP (-100000) 100000 xs) (h : txtL xs = [45]) : xs = [] := by
  by_cases h0 : xs = []
  · exact h0
  · unfold txtL at h
    rw [if_neg h0] at h
    have := parse_acc xs hx h0
    rw [h, parse_dash] at this
    cases this
theorem txt_parse (xs : List Int) (hx : InP (-100000) 100000 xs) (h : txtL xs ≠ [45]) : parseL (txtL xs) = some xs := by
  have h0 : xs ≠ [] := fun e => h (by rw [e]; rfl)
  have := parse_acc xs hx h0
  unfold txtL
  rw [if_neg h0]; exact this
theorem txt_uniq (xs ys : List Int) (hx : InP (-100000) 100000 xs) (hy : InP (-100000) 100000 ys) (h : txtL xs = txtL ys) : xs = ys := by
  by_cases hd : txtL ys = [45]
  · rw [txt_dash ys hy hd, txt_dash xs hx (h.trans hd)]
  · have a := txt_parse ys hy hd
    have b := txt_parse xs hx (by rw [h]; exact hd)
    rw [h] at b
    exact Option.some.inj (b.symm.trans a)
/-- the signal with this text, if there is one -/
def isTxt (t : List UInt8) (xs : List Int) : Prop := SigP xs ∧ txtL xs = t
open Classical in
noncomputable def sigO (t : List UInt8) : Bool := decide (∃ xs, isTxt t xs)
open Classical in
noncomputable def sigL (t : List UInt8) : List Int := if h : ∃ xs, isTxt t xs then h.choose else []
open Classical in
theorem sig_yes {t : List UInt8} {xs : List Int} (h : isTxt t xs) : sigO t = true ∧ sigL t = xs := by
  have hx : ∃ xs, isTxt t xs := ⟨xs, h⟩
  refine ⟨decide_eq_true hx, ?_⟩
  unfold sigL
  rw [dif_pos hx]
  have := hx.choose_spec
  exact txt_uniq _ _ this.1.2 h.1.2 (this.2.trans h.2.symm)
open Classical in
theorem sig_no {t : List UInt8} (h : ∀ xs, ¬ isTxt t xs) : sigO t = false ∧ sigL t = [] := by
  have hx : ¬ ∃ xs, isTxt t xs := fun ⟨xs, hh⟩ => h xs hh
  exact ⟨decide_eq_false hx, by unfold sigL; rw [dif_neg hx]⟩
theorem txt_len {t : List UInt8} {xs : List Int} (h : isTxt t xs) : t.length ≤ 512 := by
  rw [← h.2]
  unfold txtL
  split
  · simp
  · have := accL_len xs h.1.2 xs.length (Nat.le_refl _)
    have := h.1.1
    omega
theorem no_parse {t : List UInt8} (hd : t ≠ [45]) (h : parseL t = none) : ∀ xs, ¬ isTxt t xs := fun xs hx => by
  have := txt_parse xs hx.1.2 (by rw [hx.2]; exact hd)
  rw [hx.2, h] at this; cases this
theorem only_parse {t : List UInt8} {ys : List Int} (hd : t ≠ [45]) (h : parseL t = some ys) (hn : ¬ isTxt t ys) : ∀ xs, ¬ isTxt t xs := fun xs hx => by
  have := txt_parse xs hx.1.2 (by rw [hx.2]; exact hd)
  rw [hx.2, h] at this
  cases this; exact hn hx
end Go.Proofs.YtgogfgeoeebfjaaDoor
