
import Derived.Test.YtbbfigbfkhlddaaNc
namespace Go.Proofs.Ytbbfigbfkhlddaa
open Go.RowKit BitX Go.MemX Go.ShX
set_option linter.unusedVariables false

/-- the walk from p on -/
def orb2 {α : Type} (S : α → α) (p : α) : Nat → α
  | 0 => p
  | k + 1 => S (orb2 S p k)
theorem orb2_zero {α : Type} (S : α → α) (p : α) : orb2 S p 0 = p := rfl
theorem orb2_succ {α : Type} (S : α → α) (p : α) (k : Nat) : orb2 S p (k + 1) = S (orb2 S p k) := rfl
theorem orb2_shift {α : Type} {S : α → α} {p : α} {i j : Nat} (h : orb2 S p i = orb2 S p j) (k : Nat) : orb2 S p (i + k) = orb2 S p (j + k) := by
  induction k with
  | zero => exact h
  | succ k ih => rw [← Nat.add_assoc, ← Nat.add_assoc, orb2_succ, orb2_succ, ih]
/-- m steps ahead of a cycle of l -/
structure Rp {α : Type} (o : Nat → α) (m l : Nat) : Prop where
  pos : 1 ≤ l
  back : o (m + l) = o m
  apart : ∀ i j, i < j → j < m + l → o i ≠ o j
theorem Rp.unique {α : Type} {o : Nat → α} {m l m' l' : Nat} (h : Rp o m l) (k : Rp o m' l') : m = m' ∧ l = l' := by
  have key : ∀ {a b c d : Nat}, Rp o a b → Rp o c d → ¬ a + b < c + d := fun {a b c d} h1 h2 hlt =>
    h2.apart a (a + b) (by have := h1.pos; omega) hlt h1.back.symm
  have e : m + l = m' + l' := by
    have h1 := key h k
    have h2 := key k h
    omega
  have hm : m = m' := by
    have hb : o m = o m' := by rw [← h.back, e, k.back]
    rcases Nat.lt_trichotomy m m' with hlt | heq | hgt
    · exact absurd hb (h.apart m m' hlt (by have := k.pos; omega))
    · exact heq
    · exact absurd hb.symm (h.apart m' m hgt (by have := h.pos; omega))
  exact ⟨hm, by omega⟩
section
variable {α : Type} {S : α → α} {p : α} {m l : Nat}
theorem Rp.turn (h : Rp (orb2 S p) m l) (i : Nat) (hi : m ≤ i) : orb2 S p (i + l) = orb2 S p i := by
  have := orb2_shift h.back (i - m)
  rw [show m + l + (i - m) = i + l from by omega, show m + (i - m) = i from by omega] at this
  exact this
theorem Rp.turns (h : Rp (orb2 S p) m l) (i k : Nat) (hi : m ≤ i) : orb2 S p (i + k * l) = orb2 S p i := by
  induction k with
  | zero => simp
  | succ k ih => rw [Nat.add_mul, Nat.one_mul, ← Nat.add_assoc, h.turn _ (by omega), ih]
theorem Rp.rest (h : Rp (orb2 S p) m l) (i : Nat) (hi : m ≤ i) : orb2 S p i = orb2 S p (m + (i - m) % l) := by
  have h1 := h.turns (m + (i - m) % l) ((i - m) / l) (by omega)
  have h2 := Nat.mod_add_div (i - m) l
  rw [Nat.mul_comm] at h2
  rw [show m + (i - m) % l + (i - m) / l * l = i from by omega] at h1
  exact h1
theorem Rp.eq_iff (h : Rp (orb2 S p) m l) {i j : Nat} (hij : i < j) : orb2 S p i = orb2 S p j ↔ m ≤ i ∧ l ∣ (j - i) := by
  have hl := h.pos
  constructor
  · intro e
    by_cases hi : m ≤ i
    · refine ⟨hi, ?_⟩
      rw [h.rest i hi, h.rest j (by omega)] at e
      have a := Nat.mod_lt (i - m) (show l > 0 by omega)
      have b := Nat.mod_lt (j - m) (show l > 0 by omega)
      have heq : (i - m) % l = (j - m) % l := by
        rcases Nat.lt_trichotomy ((i - m) % l) ((j - m) % l) with hlt | heq | hgt
        · exact absurd e (h.apart _ _ (by omega) (by omega))
        · exact heq
        · exact absurd e.symm (h.apart _ _ (by omega) (by omega))
      have := Nat.dvd_of_mod_eq_zero (Nat.sub_mod_eq_zero_of_mod_eq heq.symm)
      rwa [show j - m - (i - m) = j - i from by omega] at this
    · exfalso
      by_cases hj : m ≤ j
      · rw [h.rest j hj] at e
        have b := Nat.mod_lt (j - m) (show l > 0 by omega)
        exact h.apart i _ (by omega) (by omega) e
      · exact h.apart i j hij (by omega) e
  · rintro ⟨hi, q, hq⟩
    have := h.turns i q hi
    rw [Nat.mul_comm] at hq
    rw [← this, show i + q * l = j from by omega]
/-- whoever comes again comes to a cycle -/
theorem rp_ex {o : Nat → α} {i j : Nat} (hij : i < j) (h : o i = o j) : ∃ m l, Rp o m l ∧ m + l ≤ j := by
  induction j using Nat.strongRecOn generalizing i with
  | ind j ih =>
    by_cases hc : ∃ a b, a < b ∧ b < j ∧ o a = o b
    · obtain ⟨a, b, hab, hb, e⟩ := hc
      obtain ⟨m, l, hr, hl⟩ := ih b hb hab e
      exact ⟨m, l, hr, by omega⟩
    · refine ⟨i, j - i, ⟨by omega, by rw [show i + (j - i) = j from by omega]; exact h.symm, fun a b hab hb e => ?_⟩, by omega⟩
      exact hc ⟨a, b, hab, by omega, e⟩
/-- the slow walk and the fast one meet -/
theorem Rp.meet (h : Rp (orb2 S p) m l) {n : Nat} (hn : 1 ≤ n) : orb2 S p n = orb2 S p (2 * n) ↔ m ≤ n ∧ l ∣ n := by
  rw [h.eq_iff (show n < 2 * n by omega), show 2 * n - n = n from by omega]
theorem Rp.meets (h : Rp (orb2 S p) m l) : ∃ n, 1 ≤ n ∧ n ≤ m + l ∧ m ≤ n ∧ l ∣ n := by
  have hl := h.pos
  by_cases hm : m = 0
  · exact ⟨l, by omega, by omega, by omega, Nat.dvd_refl _⟩
  · refine ⟨(m + l - 1) / l * l, ?_, ?_, ?_, Nat.dvd_mul_left _ _⟩
    all_goals
      have h1 := Nat.mod_add_div (m + l - 1) l
      have h2 := Nat.mod_lt (m + l - 1) (show l > 0 by omega)
      rw [Nat.mul_comm] at h1
      omega
/-- the first place at which a walk from p and one from behind n steps meet -/
theorem Rp.start (h : Rp (orb2 S p) m l) {n s : Nat} (hn : 1 ≤ n) (hd : l ∣ n) : orb2 S p s = orb2 S p (n + s) ↔ m ≤ s := by
  rw [h.eq_iff (show s < n + s by omega), show n + s - s = n from by omega]
  exact ⟨fun q => q.1, fun q => ⟨q, hd⟩⟩
theorem Rp.loop (h : Rp (orb2 S p) m l) {k : Nat} (hk : 1 ≤ k) (hl : k ≤ l) : orb2 S p m = orb2 S p (m + k) ↔ k = l := by
  rw [h.eq_iff (show m < m + k by omega), show m + k - m = k from by omega]
  constructor
  · rintro ⟨_, hd⟩
    have := Nat.le_of_dvd (by omega) hd
    omega
  · rintro rfl; exact ⟨Nat.le_refl _, Nat.dvd_refl _⟩
end


/-- the next pair -/
def nxP (F : Int → Int → Int) (p : Int × Int) : Int × Int := (F p.1 p.2, p.1)
theorem nx_in {a d : Int} {k : Nat} {mode x : Int} {n : Nat} {wd : Bool} (h : SoOk a d k mode n) {y z : Int} (y1 : -100000 ≤ y) (y2 : y ≤ 100000) (z1 : -100000 ≤ z) (z2 : z ≤ 100000) (i : Nat) :
    (-100000 ≤ (orb2 (nxP (stepS a d k mode n wd x)) (y, z) i).1 ∧ (orb2 (nxP (stepS a d k mode n wd x)) (y, z) i).1 ≤ 100000) ∧ -100000 ≤ (orb2 (nxP (stepS a d k mode n wd x)) (y, z) i).2 ∧ (orb2 (nxP (stepS a d k mode n wd x)) (y, z) i).2 ≤ 100000 := by
  induction i with
  | zero => exact ⟨⟨y1, y2⟩, z1, z2⟩
  | succ i ih => exact ⟨stepS_in h, ih.1⟩
/-- steps ahead of the cycle, and its length; 0 and 0 if they are too many -/
noncomputable def perR {α : Type} (o : Nat → α) : Nat × Nat := by
  classical exact if h : ∃ c : Nat × Nat, Rp o c.1 c.2 ∧ c.1 + c.2 ≤ 20000 then h.choose else (0, 0)
theorem perR_yes {α : Type} {o : Nat → α} {m l : Nat} (h : Rp o m l) (hb : m + l ≤ 20000) : perR o = (m, l) := by
  have hx : ∃ c : Nat × Nat, Rp o c.1 c.2 ∧ c.1 + c.2 ≤ 20000 := ⟨(m, l), h, hb⟩
  unfold perR
  rw [dif_pos hx]
  obtain ⟨h1, h2⟩ := h.unique hx.choose_spec.1
  exact Prod.ext h1.symm h2.symm
theorem perR_no {α : Type} {o : Nat → α} (h : ∀ m l, Rp o m l → 20000 < m + l) : perR o = (0, 0) := by
  unfold perR
  rw [dif_neg]
  rintro ⟨c, hc, hb⟩
  have := h _ _ hc
  omega
theorem perR_big {α : Type} {o : Nat → α} {m l : Nat} (h : Rp o m l) (hb : 20000 < m + l) : perR o = (0, 0) :=
  perR_no fun m' l' h' => by obtain ⟨rfl, rfl⟩ := h.unique h'; exact hb
theorem perR_apart {α : Type} {o : Nat → α} (h : ∀ i j, i < j → j ≤ 20000 → o i ≠ o j) : perR o = (0, 0) :=
  perR_no fun m l hr => by
    rcases Nat.lt_or_ge 20000 (m + l) with q | q
    · exact q
    · exact absurd hr.back.symm (h m (m + l) (by have := hr.pos; omega) q)
theorem perR_far {S : Int × Int → Int × Int} {p : Int × Int} (h : ∀ i, 1 ≤ i → i ≤ 20000 → orb2 S p i ≠ orb2 S p (2 * i)) : perR (orb2 S p) = (0, 0) :=
  perR_no fun m l hr => by
    rcases Nat.lt_or_ge 20000 (m + l) with q | q
    · exact q
    · obtain ⟨n, h1, h2, h3, h4⟩ := hr.meets
      exact absurd ((hr.meet h1).2 ⟨h3, h4⟩) (h n h1 (by omega))

end Go.Proofs.Ytbbfigbfkhlddaa
