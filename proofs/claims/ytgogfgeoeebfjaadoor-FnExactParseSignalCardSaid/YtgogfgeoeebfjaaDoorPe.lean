
import Derived.Test.YtgogfgeoeebfjaaDoorPb
namespace Go.Proofs.YtgogfgeoeebfjaaDoor
open Go.RowKit BitX Go.MemX
set_option linter.unusedVariables false
theorem index_no : ∀ (l : List UInt8), (∀ c ∈ l, c ≠ 44) → Lib.index l [44] = -1
  | [], _ => rfl
  | b :: l, h => by
    have hb : b ≠ 44 := h b (by simp)
    have ih := index_no l fun c hc => h c (by simp [hc])
    unfold Lib.index
    rw [ih]
    have : ([44] : List UInt8).isPrefixOf (b :: l) = false := by
      simp [List.isPrefixOf]; exact fun e => hb e.symm
    rw [this]; rfl
theorem index_at : ∀ (p r : List UInt8), (∀ c ∈ p, c ≠ 44) → Lib.index (p ++ 44 :: r) [44] = (p.length : Int)
  | [], r, _ => by
    unfold Lib.index
    simp [List.isPrefixOf]
  | b :: p, r, h => by
    have hb : b ≠ 44 := h b (by simp)
    have ih := index_at p r fun c hc => h c (by simp [hc])
    rw [List.cons_append]
    unfold Lib.index
    rw [ih]
    have : ([44] : List UInt8).isPrefixOf (b :: (p ++ 44 :: r)) = false := by
      simp [List.isPrefixOf]; exact fun e => hb e.symm
    rw [this]
    have hne : ((p.length : Int) == -1) = false := by rw [beq_eq_false_iff_ne]; omega
    simp only [Bool.false_eq_true, if_false, hne]
    simp
theorem join_two (p q : List UInt8) (r : List (List UInt8)) : Lib.join (p :: q :: r) [44] = p ++ 44 :: Lib.join (q :: r) [44] := by
  rw [Lib.join_cons, Lib.join_cons]
  simp [Lib.joinTail]
theorem splitK_join : ∀ (ps : List (List UInt8)) (k : Nat), ps ≠ [] → (∀ p ∈ ps, ∀ c ∈ p, c ≠ 44) → ps.length ≤ k + 1 → Lib.splitK [44] 0 k (Lib.join ps [44]) = ps
  | [], _, h, _, _ => absurd rfl h
  | [p], k, _, hc, _ => by
    rw [Lib.join_one]
    cases k with
    | zero => rfl
    | succ k =>
      unfold Lib.splitK
      rw [index_no p (hc p (by simp))]; rfl
  | p :: q :: r, 0, _, _, hk => by simp at hk
  | p :: q :: r, k + 1, _, hc, hk => by
    rw [join_two]
    unfold Lib.splitK
    rw [index_at p _ (hc p (by simp))]
    have hne : ((p.length : Int) == -1) = false := by rw [beq_eq_false_iff_ne]; omega
    rw [hne]
    simp only [Bool.false_eq_true, if_false, Int.toNat_natCast, Nat.add_zero, List.length_singleton]
    rw [List.take_left', show p.length + 1 = (p ++ [44]).length by simp, show p ++ 44 :: Lib.join (q :: r) [44] = (p ++ [44]) ++ Lib.join (q :: r) [44] by simp, List.drop_left']
    · rw [splitK_join (q :: r) k (by simp) (fun x hx => hc x (by simp [List.mem_cons.1 hx])) (by simp at hk ⊢; omega)]
    · rfl
    · rfl
theorem dig_no44 (n : Nat) (h : n < 10) : UInt8.ofNat (48 + n) ≠ 44 := by
  intro e
  have := congrArg UInt8.toNat e
  rw [digit_val n h] at this
  have e2 : (44 : UInt8).toNat = 44 := rfl
  omega
theorem digits_no44 : ∀ (n : Nat), ∀ c ∈ Lib.decDigits n, c ≠ 44 := by
  intro n
  induction n using Nat.strongRecOn with
  | ind n ih =>
    intro c hc
    by_cases h : n < 10
    · rw [digits_small n h] at hc
      rw [List.mem_singleton] at hc; rw [hc]; exact dig_no44 n h
    · rw [digits_more n (by omega)] at hc
      rcases List.mem_append.1 hc with h1 | h1
      · exact ih (n / 10) (by omega) c h1
      · rw [List.mem_singleton] at h1; rw [h1]; exact dig_no44 (n % 10) (by omega)
theorem itoa_no44 (x : Int) : ∀ c ∈ Lib.itoa x, c ≠ 44 := by
  intro c hc
  unfold Lib.itoa at hc
  split at hc
  · rcases List.mem_cons.1 hc with rfl | h
    · decide
    · exact digits_no44 _ c h
  · exact digits_no44 _ c hc
theorem digit_val2 (n : Nat) (h : n < 10) : Lib.digitVal (UInt8.ofNat (48 + n)) = some n := by
  unfold Lib.digitVal
  rw [digit_val n h]
  simp; omega
theorem decFrom_snoc (acc : Nat) (l : List UInt8) (c : UInt8) (d m : Nat) (h : Lib.decFrom acc l = some m) (hd : Lib.digitVal c = some d) : Lib.decFrom acc (l ++ [c]) = some (m * 10 + d) := by
  induction l generalizing acc with
  | nil => simp only [Lib.decFrom] at h; cases h; simp [Lib.decFrom, hd]
  | cons b r ih =>
    simp only [List.cons_append, Lib.decFrom] at h ⊢
    cases hb : Lib.digitVal b with
    | none => rw [hb] at h; cases h
    | some e => rw [hb] at h; exact ih _ h
theorem decFrom_digits : ∀ (n : Nat), Lib.decFrom 0 (Lib.decDigits n) = some n := by
  intro n
  induction n using Nat.strongRecOn with
  | ind n ih =>
    by_cases h : n < 10
    · rw [digits_small n h]; simp only [Lib.decFrom, digit_val2 n h]; simp
    · rw [digits_more n (by omega), decFrom_snoc 0 _ _ (n % 10) (n / 10) (ih (n / 10) (by omega)) (digit_val2 _ (by omega))]
      congr 1; omega
theorem decNat_digits (n : Nat) : Lib.decNat (Lib.decDigits n) = some n := by
  unfold Lib.decNat
  have := digits_pos n
  cases h : Lib.decDigits n with
  | nil => rw [h] at this; simp at this
  | cons b r => rw [← h]; simp [h]; rw [← h]; exact decFrom_digits n
theorem digits_head (n : Nat) : ∃ b r, Lib.decDigits n = b :: r ∧ b ≠ 45 ∧ b ≠ 43 := by
  induction n using Nat.strongRecOn with
  | ind n ih =>
    by_cases h : n < 10
    · refine ⟨_, [], digits_small n h, ?_, ?_⟩
      · intro e; have := congrArg UInt8.toNat e; rw [digit_val n h] at this; have e2 : (45 : UInt8).toNat = 45 := rfl; omega
      · intro e; have := congrArg UInt8.toNat e; rw [digit_val n h] at this; have e2 : (43 : UInt8).toNat = 43 := rfl; omega
    · obtain ⟨b, r, e, h1, h2⟩ := ih (n / 10) (by omega)
      exact ⟨b, r ++ [UInt8.ofNat (48 + n % 10)], by rw [digits_more n (by omega), e]; rfl, h1, h2⟩
theorem atoi_itoa (x : Int) : Lib.atoi (Lib.itoa x) = some x := by
  unfold Lib.itoa
  split
  · rename_i h
    simp only [Lib.atoi]
    rw [if_pos (by rfl), decNat_digits]
    simp; omega
  · rename_i h
    obtain ⟨b, r, e, h1, h2⟩ := digits_head x.toNat
    have hd := decNat_digits x.toNat
    rw [e] at hd ⊢
    simp only [Lib.atoi]
    rw [if_neg (by simpa using h1), if_neg (by simpa using h2), hd]
    simp; omega
def atoiR (l : List UInt8) : Option Int := match Lib.atoiAll l with | .ok v => some v | _ => none
theorem atoiR_itoa (x : Int) (h1 : -100000 ≤ x) (h2 : x ≤ 100000) : atoiR (Lib.itoa x) = some x := by
  have hl := itoa_len x h1 h2
  unfold atoiR
  rw [Lib.atoiAll_short _ (by omega), atoi_itoa]; rfl
/-- the parts of a text -/
def parts (s : ByteArray) : List ByteArray := Lib.splitB ⟨#[44]⟩ 0 (min 65 (s.size + 1) - 1) s
def isRead (s : ByteArray) (ys : List Int) : Prop :=
  (s.data.toList = [45] ∧ ys = []) ∨ (s.data.toList ≠ [45] ∧ ys.length = (parts s).length ∧ ∀ (i : Nat) (p : ByteArray), (parts s)[i]? = some p → ∃ v, ys[i]? = some v ∧ atoiR p.data.toList = some v)
theorem read_uniq {s : ByteArray} {ys zs : List Int} (h : isRead s ys) (k : isRead s zs) : ys = zs := by
  rcases h with ⟨a, rfl⟩ | ⟨a, hl, hy⟩
  · rcases k with ⟨_, rfl⟩ | ⟨b, _⟩
    · rfl
    · exact absurd a b
  · rcases k with ⟨b, _⟩ | ⟨b, kl, kz⟩
    · exact absurd b a
    · apply List.ext_getElem?
      intro i
      cases hp : (parts s)[i]? with
      | none =>
        have : (parts s).length ≤ i := List.getElem?_eq_none_iff.1 hp
        rw [List.getElem?_eq_none (by omega), List.getElem?_eq_none (by omega)]
      | some p =>
        obtain ⟨v, e1, e2⟩ := hy i p hp
        obtain ⟨u, f1, f2⟩ := kz i p hp
        rw [e1, f1]
        rw [e2] at f2; exact f2
theorem txt_read {s : ByteArray} {xs : List Int} (h : isTxt s.data.toList xs) : isRead s xs := by
  by_cases hd : s.data.toList = [45]
  · exact .inl ⟨hd, txt_dash xs h.1.2 (h.2.trans hd)⟩
  · have h0 : xs ≠ [] := fun e => hd (by rw [← h.2, e]; rfl)
    have hl := List.length_pos_iff.2 h0
    have ht : Lib.join (xs.map Lib.itoa) [44] = s.data.toList := by
      rw [← h.2]; unfold txtL accL; rw [if_neg h0, List.take_length]
    have hsz : xs.length ≤ s.size + 1 := by
      by_cases hq : xs.length ≤ 1
      · omega
      · have : ∀ (ps : List (List UInt8)), ps ≠ [] → ps.length ≤ (Lib.join ps [44]).length + 1 := by
          intro ps
          induction ps with
          | nil => intro h; exact absurd rfl h
          | cons p r ih =>
            intro _
            cases r with
            | nil => simp
            | cons q r2 =>
              have := ih (by simp)
              rw [join_two]
              simp at this ⊢; omega
        have := this (xs.map Lib.itoa) (by simpa using h0)
        rw [ht] at this
        simpa using this
    have hp : (parts s).map (·.data.toList) = xs.map Lib.itoa := by
      unfold parts
      rw [Lib.splitB_data]
      rw [show (⟨#[44]⟩ : ByteArray).data.toList = [44] from rfl, ← ht]
      refine splitK_join _ _ (by simpa using h0) ?_ ?_
      · intro p hp c hc
        obtain ⟨x, _, rfl⟩ := List.mem_map.1 hp
        exact itoa_no44 x c hc
      · have := h.1.1
        simp; omega
    refine .inr ⟨hd, by have := congrArg List.length hp; simpa using this.symm, fun i p hpi => ?_⟩
    have e : ((parts s).map (·.data.toList))[i]? = some p.data.toList := by rw [List.getElem?_map, hpi]; rfl
    rw [hp, List.getElem?_map] at e
    cases hx : xs[i]? with
    | none => rw [hx] at e; cases e
    | some x =>
      rw [hx] at e
      obtain ⟨x1, x2⟩ := h.1.2.at hx
      refine ⟨x, rfl, ?_⟩
      rw [← Option.some.inj e]
      exact atoiR_itoa x x1 x2
end Go.Proofs.YtgogfgeoeebfjaaDoor
