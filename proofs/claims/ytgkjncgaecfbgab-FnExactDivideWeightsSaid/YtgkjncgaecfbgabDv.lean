
import Derived.Test.YtgkjncgaecfbgabIn
namespace Go.Proofs.Ytgkjncgaecfbgab
open Go.RowKit BitX Go.MemX
set_option linter.unusedVariables false


theorem conv_snoc (b q : List Int) (x : Int) (j : Nat) : conv b (q ++ [x]) j = conv b q j + if q.length ≤ j then at0 b (j - q.length) * x else 0 := by
  rw [conv_comm b, conv_comm b]
  have e : ∀ m, m < q.length → at0 (q ++ [x]) m = at0 q m := fun m hm => by
    unfold at0; rw [List.getD_eq_getElem?_getD, List.getD_eq_getElem?_getD, List.getElem?_append_left hm]
  have ex : at0 (q ++ [x]) q.length = x := by
    unfold at0; rw [List.getD_eq_getElem?_getD, List.getElem?_append_right (Nat.le_refl _)]; simp
  by_cases h : q.length ≤ j
  · rw [if_pos h, ← conv_upto (q ++ [x]) b j (q.length + 1) (by omega) (by simp), ← conv_upto q b j q.length (by omega) (by omega), sumF_succ, ex, Int.mul_comm x]
    congr 1
    exact sumF_congr _ _ _ fun m hm => by rw [e m hm]
  · rw [if_neg h, Int.add_zero]
    unfold conv
    exact sumF_congr _ _ _ fun m hm => by rw [e m (by omega)]
/-- what is left of a behind the products of b and q -/
def lft (a b q : List Int) (j : Nat) : Int := at0 a j - conv b q j
/-- .. and behind t products of b and the next number x, that lies at place i -/
def lftT (a b q : List Int) (x : Int) (i t j : Nat) : Int := lft a b q j - if i ≤ j ∧ j < i + t then x * at0 b (j - i) else 0
theorem lftT_zero (a b q : List Int) (x : Int) (i j : Nat) : lftT a b q x i 0 j = lft a b q j := by unfold lftT; rw [if_neg (by omega)]; omega
theorem lftT_full {a b q : List Int} {x : Int} {i : Nat} (hq : q.length = i) (j : Nat) : lftT a b q x i b.length j = lft a b (q ++ [x]) j := by
  unfold lftT lft
  rw [conv_snoc, hq]
  by_cases h : i ≤ j
  · rw [if_pos h]
    by_cases h2 : j < i + b.length
    · rw [if_pos ⟨h, h2⟩, Int.mul_comm x]; omega
    · rw [if_neg (by omega), at0_out (show b.length ≤ j - i by omega)]; omega
  · rw [if_neg h, if_neg (by omega)]; omega
theorem lftT_at (a b q : List Int) (x : Int) (i t : Nat) : lftT a b q x i (t + 1) (i + t) = lftT a b q x i t (i + t) - x * at0 b t := by
  unfold lftT; rw [if_pos (by omega), if_neg (by omega), show i + t - i = t from by omega]; omega
theorem lftT_other (a b q : List Int) (x : Int) (i t j : Nat) (h : j ≠ i + t) : lftT a b q x i t j = lftT a b q x i (t + 1) j := by
  unfold lftT
  congr 1
  by_cases hk : i ≤ j ∧ j < i + t
  · rw [if_pos hk, if_pos (by omega)]
  · rw [if_neg hk, if_neg (by omega)]
theorem lft_bound {a b q : List Int} (j : Nat) (ha : InP (-1000) 1000 a) (hb : WgtP b) (hq : InP (-100000) 100000 q) : -900001000 ≤ lft a b q j ∧ lft a b q j ≤ 900001000 := by
  have h1 := at0_in ha (by omega) (by omega) j
  have h2 := conv_bound b q j hb.1.2 hb.2 hq
  unfold lft; omega
theorem lftT_bound {a b q : List Int} {x : Int} (i t j : Nat) (ha : InP (-1000) 1000 a) (hb : WgtP b) (hq : InP (-100000) 100000 q) (x1 : -1000 ≤ x) (x2 : x ≤ 1000) : -901001000 ≤ lftT a b q x i t j ∧ lftT a b q x i t j ≤ 901001000 := by
  have h1 := lft_bound (a := a) (b := b) (q := q) j ha hb hq
  have h2 := at0_in hb.2 (by omega) (by omega) (j - i)
  have h3 := mul_in x1 x2 h2.1 h2.2 (by omega)
  unfold lftT
  split <;> omega
theorem lft_start (a b : List Int) : tab a.length (lft a b []) = a := by
  conv => rhs; rw [← tab_self a]
  refine tab_congr _ _ _ fun i _ => ?_
  unfold lft
  have : conv b [] i = 0 := by
    rw [conv_comm, ← conv_upto [] b i 0 (by omega) (by simp)]; rfl
  rw [this]; omega
theorem tmod_iff {r d : Int} (hd : d ≠ 0) : r.tmod d = 0 ↔ r.tdiv d * d = r := by
  have h := Int.mul_tdiv_add_tmod r d
  rw [Int.mul_comm] at h
  constructor <;> intro e <;> omega
/-- nothing is left just where the answer is a -/
theorem lft_done {a b q : List Int} (hb : b ≠ []) (hq : q ≠ []) (hl : a.length = b.length + q.length - 1) : (∀ j, j < a.length → lft a b q j = 0) ↔ ans b q = a := by
  rw [ans_cons b q hq]
  constructor
  · intro h
    conv => rhs; rw [← tab_self a]
    rw [hl]
    refine tab_congr _ _ _ fun i hi => ?_
    have := h i (by omega)
    unfold lft at this; omega
  · intro h j hj
    have e : at0 a j = conv b q j := by rw [← h]; exact at0_tab _ _ _ (by omega)
    unfold lft; omega
/-- the greatest size -/
def pkM (xs : List Int) : Int := xs.foldl (fun m x => mostI m (absI x)) 0
theorem pkM_step {xs : List Int} {k : Nat} {x : Int} (h : xs[k]? = some x) : pkM (xs.take (k + 1)) = mostI (pkM (xs.take k)) (absI x) := by
  rw [take_step xs k x h]; unfold pkM; rw [List.foldl_append]; rfl
theorem pkM_zero (xs : List Int) : pkM xs = 0 ↔ ∀ x ∈ xs, x = 0 := by
  suffices ∀ (m : Int), 0 ≤ m → (0 ≤ xs.foldl (fun m x => mostI m (absI x)) m ∧ (xs.foldl (fun m x => mostI m (absI x)) m = 0 ↔ m = 0 ∧ ∀ x ∈ xs, x = 0)) by
    have := this 0 (by omega); unfold pkM; rw [this.2]; simp
  induction xs with
  | nil => intro m hm; exact ⟨hm, by simp⟩
  | cons x xs ih =>
    intro m hm
    have h0 : 0 ≤ mostI m (absI x) := by unfold mostI absI; split <;> omega
    have h := ih _ h0
    rw [List.foldl_cons]
    refine ⟨h.1, ?_⟩
    rw [h.2]
    have e : mostI m (absI x) = 0 ↔ m = 0 ∧ x = 0 := by
      unfold mostI absI; split <;> omega
    rw [e]; simp [and_assoc]
theorem pkM_nonneg (xs : List Int) : 0 ≤ pkM xs := by
  suffices ∀ (m : Int), 0 ≤ m → 0 ≤ xs.foldl (fun m x => mostI m (absI x)) m from this 0 (by omega)
  induction xs with
  | nil => intro m hm; exact hm
  | cons x xs ih => intro m hm; exact ih _ (show 0 ≤ mostI m (absI x) from by unfold mostI absI; split <;> omega)
theorem pkM_le {xs : List Int} {B : Int} (h : InP (-B) B xs) (hB : 0 ≤ B) : pkM xs ≤ B := by
  suffices ∀ (m : Int), m ≤ B → xs.foldl (fun m x => mostI m (absI x)) m ≤ B from this 0 hB
  induction xs with
  | nil => intro m hm; exact hm
  | cons x xs ih =>
    intro m hm
    have := h x (by simp)
    exact ih (fun y hy => h y (by simp [hy])) _ (show mostI m (absI x) ≤ B from by unfold mostI absI; split <;> omega)


set_option maxHeartbeats 400000 in
theorem wdPeakM_any (v : Value) (xs : List Int) (w : World) (hs : Sl w v xs) (hl : xs.length ≤ 2000) (hi : InP (-10000000000) 10000000000 xs) :
    Calls Try.prog 42 #[v] w fun e w' => e = .returned (.int .i64 (pkM xs)) ∧ w = w' := by
  obtain ⟨a, n, cap, rfl, hn, hrd⟩ := hs.rd
  have Hn := hid hn
  have Hrd := hid hrd
  have hl' : n ≤ 2000 := by omega
  clear hn hrd 
  have Hi := hid hi
  clear hi hl hs
  go_enter Try.func42, Try.ntmps42
  go_wp2_with fail
  go_loop [3, 8] (fun s0 i => ∃ k : Nat, k ≤ n ∧ i = .int .i64 k ∧ s0 = .int .i64 (pkM (xs.take k)))
    (fun _ i => n - (intOf i).toNat)
  case atStart => exact ⟨0, by omega, rfl, rfl⟩
  case round =>
    obtain ⟨k, hk, rfl, rfl⟩ := hrel
    by_cases hlk : k < n
    · obtain ⟨x, hkx⟩ := get_lt xs k (by rw [← Hn.out]; exact hlk)
      obtain ⟨bb, oo, hix, hbb, hce⟩ := Hrd.out.at (P := Try.prog) (T := 22) n cap uslice sone hkx hlk
      obtain ⟨x1, x2⟩ := Hi.out.at hkx
      have hst := pkM_step hkx
      have hp0 := pkM_nonneg (xs.take k)
      have hp1 := pkM_le (xs := xs.take k) (B := 10000000000) (fun x hx => Hi.out x (List.mem_of_mem_take hx)) (by omega)
      have Hst := hid hst
      clear hst hkx
      generalize pkM (xs.take k) = z at *
      have ha1 : 0 ≤ absI x ∧ absI x ≤ 10000000000 := by unfold absI; omega
      obtain ⟨ha1, ha2⟩ := ha1
      go_wp2_with fail
      refine (l1Abs_any _ _ (by omega) (by omega)).mono ?_
      rintro e w' ⟨rfl, rfl⟩
      go_wp2_with fail
      refine (l1Most_any _ _ _).mono ?_
      rintro e w' ⟨rfl, rfl⟩
      go_wp2
      go_round
      case rel => exact ⟨k + 1, by omega, by go_num, by rw [Hst.out]⟩
      case measure => simp [intOf]; omega
    · have hge : (n : Int) ≤ (k : Int) := by omega
      have hkn : k = xs.length := by rw [← Hn.out]; omega
      have Hk := hid hkn
      clear hkn hlk
      go_wp2
      go_ret
      exact ⟨ret_i (by rw [Hk.out, List.take_length]), rfl⟩


/-- the quotient's places, and whether there is one -/
def dvP (a b : List Int) : Nat := a.length + 1 - b.length
def dvA (a b : List Int) : List Int := a.take (dvP a b)
def dvQ (a b : List Int) : List Int := awL b (dvA a b) 1000 (dvP a b)
def dvOk (a b : List Int) : Bool := awOk b (dvA a b) 1000 (dvP a b) && decide (ans b (dvQ a b) = a)
theorem dvA_len {a b : List Int} (h : 1 ≤ b.length) : (dvA a b).length = dvP a b := by unfold dvA dvP; simp; omega
theorem dvA_at {a b : List Int} {i : Nat} (h : i < dvP a b) : at0 (dvA a b) i = at0 a i := by
  unfold dvA at0; rw [List.getD_eq_getElem?_getD, List.getD_eq_getElem?_getD, List.getElem?_take_of_lt h]
theorem wide_w {xs : List Int} (h : WgtP xs) : InP (-100000) 100000 xs := (wgt_sig h).2
theorem aw_some {h a : List Int} {L : Int} {N : Nat} (hk : awOk h a L N = true) : awS h a L N = some (awL h a L N) := by
  unfold awOk at hk; unfold awL
  cases hq : awS h a L N with
  | none => rw [hq] at hk; cases hk
  | some q => rfl


set_option maxHeartbeats 3200000 in
theorem impl_Divide_in (u v : Value) (a b : List Int) (w : World) (hu : Sl w u a) (hv : Sl w v b) (ha : WgtP a) (hb : WgtP b) (hd0 : at0 b 0 ≠ 0) (hba : b.length ≤ a.length) :
    Calls Try.prog 23 #[u, v] w (Gives w (onB (dvOk a b) (dvQ a b) []) (dvOk a b)) := by
  have hla := ha.1
  have hlb := hb.1
  obtain ⟨a1, n, cap, rfl, hn, hrd⟩ := hu.rd
  obtain ⟨a2, m, cap2, rfl, hm, hrd2⟩ := hv.rd
  have HU := hid hu
  have HV := hid hv
  have HA := hid ha
  have HB := hid hb
  have hm1 : 0 < m := by omega
  have hn1 : 0 < n := by omega
  have hn9 : n ≤ 9 := by omega
  have hmn : m ≤ n := by omega
  obtain ⟨bb, oo, hix, hbb, hce⟩ := hrd2.at (P := Try.prog) (T := 22) m cap2 uslice sone (get0 hb) hm1
  simp only [Int.natCast_zero] at hix
  have Hd0 := hid hd0
  obtain ⟨d, hd⟩ : ∃ d, at0 b 0 = d := ⟨_, rfl⟩
  rw [hd] at hce hd0
  have ne1 : (d == 0) = false := by rw [beq_eq_false_iff_ne]; exact hd0
  obtain ⟨P, hP⟩ : ∃ P, P = dvP a b := ⟨_, rfl⟩
  have hPn : P + m = n + 1 := by rw [hP]; unfold dvP; omega
  have hAl := dvA_len (a := a) (b := b) (by omega)
  rw [← hP] at hAl
  have hsl : Sl w (.slice a1 P P) (dvA a b) := by
    rcases hu with ⟨rfl, _⟩ | ⟨b1, o1, n1, c1, he, hn2, h02, hc2, hlt2, hx2⟩
    · simp at hn; omega
    · cases he
      have := Sl.cut (w := w) (b := b1) (off := o1) (n := n) (cap := cap) (xs := a) (.inr ⟨b1, o1, n, cap, rfl, hn2, h02, hc2, hlt2, hx2⟩) (lo := 0) (hi := P) (c2 := P) (by omega) (by omega) (by omega)
      unfold dvA; rw [← hP]; simpa using this
  have hcap : n ≤ cap := by
    rcases hu with ⟨rfl, _⟩ | ⟨b1, o1, n1, c1, he, hn2, h02, hc2, hlt2, hx2⟩
    · simp at hn; omega
    · cases he; exact hc2
  have hsome : ∃ b1 o1, a1 = some ⟨b1, o1, none⟩ := by
    rcases hu with ⟨rfl, _⟩ | ⟨b1, o1, n1, c1, he, hn2, h02, hc2, hlt2, hx2⟩
    · simp at hn; omega
    · cases he; exact ⟨_, _, rfl⟩
  obtain ⟨b1, o1, rfl⟩ := hsome
  have Hsl := hid hsl
  have HAl := hid hAl
  have HP := hid hP
  have hAin : InP (-100000) 100000 (dvA a b) := fun x hx => wide_w ha x (List.mem_of_mem_take hx)
  have HAin := hid hAin
  have hla3 : a.length ≤ 2000000 := by omega
  have Hla3 := hid hla3
  have hcast : ((P : Nat) : Int) = (n : Int) - m + 1 := by omega
  have Hcast := hid hcast
  have i1 : (0 : Int) ≤ (n : Int) - m + 1 := by omega
  have i2 : (n : Int) - m + 1 ≤ cap := by omega
  have i3 : ((n : Int) - m + 1).toNat = P := by omega
  clear hu hv ha hb hla hlb hn hm hrd hrd2 hd hd0 hP hAl hsl hAin hla3 hcast
  go_enter Try.func23, Try.ntmps23
  go_wp2_with fail
  refine (impl_IsWeights_is _ a true _ HU.out (wgtB_of HA.out)).mono ?_
  rintro e w' ⟨rfl, rfl⟩
  go_wp2_with fail
  refine (impl_IsWeights_is _ b true _ HV.out (wgtB_of HB.out)).mono ?_
  rintro e w' ⟨rfl, rfl⟩
  go_wp2_with fail
  have h4 := answered_in _ _ b (dvA a b) 1000 w HV.out Hsl.out HB.out Hd0.out (by rw [HAl.out]; omega) HAin.out (by omega) (by omega)
  rw [HAl.out] at h4
  refine h4.mono ?_
  rintro e w1 ⟨v1, rfl, R, B1⟩
  clear h4
  have HUw := hid (HU.out.kept B1)
  have HVw := hid (HV.out.kept B1)
  have HQe := hid (show dvQ a b = awL b (dvA a b) 1000 P from by unfold dvQ; rw [← HP.out])
  cases hok : awOk b (dvA a b) 1000 P
  · have Hbad := hid (show dvOk a b = false from by unfold dvOk; rw [← HP.out, hok]; rfl)
    clear hok
    go_wp2
    go_ret2
    exact gives_of Hbad.out (show onB (dvOk a b) (dvQ a b) [] = [] from by rw [Hbad.out]; rfl) ⟨_, rfl, .inl ⟨rfl, rfl⟩, B1⟩
  · have hq := awS_in (aw_some hok)
    have hql : (dvQ a b).length ≤ 64 := by rw [HQe.out, hq.1]; omega
    have hqi : InP (-100000) 100000 (dvQ a b) := fun x hx => by rw [HQe.out] at hx; have := hq.2 x hx; omega
    have hal : (ans b (dvQ a b)).length ≤ 2000000 := by
      by_cases h0 : dvQ a b = []
      · rw [h0]; simp [ans]
      · rw [ans_len _ _ h0]; have := HB.out.1.2; omega
    have Hq1 := hid hql
    have Hq2 := hid hqi
    have Hal := hid hal
    have Hok := hid hok
    have HR : Hid (Res 3 w.heap.size w1 v1 (dvQ a b)) := by rw [HQe.out]; exact R
    clear hq hql hqi hal hok R
    go_wp2_with fail
    refine (wholeAnswer_any _ _ b (dvQ a b) _ HVw.out HR.out.sl HB.out Hq1.out Hq2.out).mono ?_
    rintro e w2 ⟨v2, rfl, R2, hb2⟩
    have B2 := bel_step B1 hb2
    have HR2 := hid (HR.out.kept hb2)
    have HUx := hid (HU.out.kept B2)
    cases heq : decide (ans b (dvQ a b) = a)
    · have Hbad := hid (show dvOk a b = false from by unfold dvOk; rw [heq, Bool.and_false])
      have Heq := hid heq
      clear heq
      go_wp2_with fail
      refine (slEqual_is _ _ (ans b (dvQ a b)) a false _ R2.sl HUx.out Hal.out Hla3.out Heq.out).mono ?_
      rintro e w3 ⟨rfl, hb3⟩
      go_wp2
      go_ret2
      exact gives_of Hbad.out (show onB (dvOk a b) (dvQ a b) [] = [] from by rw [Hbad.out]; rfl) ⟨_, rfl, .inl ⟨rfl, rfl⟩, bel_step B2 hb3⟩
    · have Hgood := hid (show dvOk a b = true from by unfold dvOk; rw [heq, ← HP.out, Hok.out]; rfl)
      have Heq := hid heq
      clear heq
      go_wp2_with fail
      refine (slEqual_is _ _ (ans b (dvQ a b)) a true _ R2.sl HUx.out Hal.out Hla3.out Heq.out).mono ?_
      rintro e w3 ⟨rfl, hb3⟩
      have HR3 := hid (HR2.out.kept hb3)
      go_wp2
      go_ret2
      exact gives_of Hgood.out (show onB (dvOk a b) (dvQ a b) [] = dvQ a b from by rw [Hgood.out]; rfl) ⟨_, rfl, HR3.out, bel_step B2 hb3⟩

end Go.Proofs.Ytgkjncgaecfbgab
