
import Derived.Test.YthkfjoonkkmgiaaQh
import Derived.Test.YthkfjoonkkmgiaaAb
import Derived.Test.YthkfjoonkkmgiaaQb
namespace Go.Proofs.Ythkfjoonkkmgiaa
open Go.RowKit BitX Go.MemX Go.ChV
set_option linter.unusedVariables false
/-- the greatest size -/
def pkM (xs : List Int) : Int := xs.foldl (fun m x => mostI m (absI x)) 0
theorem pkM_step {xs : List Int} {k : Nat} {x : Int} (h : xs[k]? = some x) : pkM (xs.take (k + 1)) = mostI (pkM (xs.take k)) (absI x) := by
  rw [take_step xs k x h]; unfold pkM; rw [List.foldl_append]; rfl
theorem pkM_zero (xs : List Int) : pkM xs = 0 ↔ ∀ x ∈ xs, x = 0 := by
  suffices ∀ (m : Int), 0 ≤ m → (0 ≤ xs.foldl (fun m x => mostI m (absI x)) m ∧ (xs.foldl (fun m x => mostI m (absI x)) m = 0 ↔ m = 0 ∧ ∀ x ∈ xs, x = 0)) by
    have := this 0 (by omega); unfold pkM; rw [this.2]; simp
  induction xs with
  | nil => intro m hm; exact ⟨hm, by simp⟩
  | cons x xs ih =>
    intro m hm
    have h0 : 0 ≤ mostI m (absI x) := by unfold mostI absI; split <;> omega
    have h := ih _ h0
    rw [List.foldl_cons]
    refine ⟨h.1, ?_⟩
    rw [h.2]
    have e : mostI m (absI x) = 0 ↔ m = 0 ∧ x = 0 := by
      unfold mostI absI; split <;> omega
    rw [e]; simp [and_assoc]
theorem pkM_nonneg (xs : List Int) : 0 ≤ pkM xs := by
  suffices ∀ (m : Int), 0 ≤ m → 0 ≤ xs.foldl (fun m x => mostI m (absI x)) m from this 0 (by omega)
  induction xs with
  | nil => intro m hm; exact hm
  | cons x xs ih => intro m hm; exact ih _ (show 0 ≤ mostI m (absI x) from by unfold mostI absI; split <;> omega)
theorem pkM_le {xs : List Int} {B : Int} (h : InP (-B) B xs) (hB : 0 ≤ B) : pkM xs ≤ B := by
  suffices ∀ (m : Int), m ≤ B → xs.foldl (fun m x => mostI m (absI x)) m ≤ B from this 0 hB
  induction xs with
  | nil => intro m hm; exact hm
  | cons x xs ih =>
    intro m hm
    have := h x (by simp)
    exact ih (fun y hy => h y (by simp [hy])) _ (show mostI m (absI x) ≤ B from by unfold mostI absI; split <;> omega)


set_option maxHeartbeats 400000 in
theorem wdPeakM_any (v : Value) (xs : List Int) (w : World) (hs : Sl w v xs) (hl : xs.length ≤ 2000) (hi : InP (-10000000000) 10000000000 xs) :
    Calls Try.prog 38 #[v] w fun e w' => e = .returned (.int .i64 (pkM xs)) ∧ w = w' := by
  obtain ⟨a, n, cap, rfl, hn, hrd⟩ := hs.rd
  have Hn := hid hn
  have Hrd := hid hrd
  have hl' : n ≤ 2000 := by omega
  clear hn hrd 
  have Hi := hid hi
  clear hi hl hs
  go_enter Try.func38, Try.ntmps38
  go_wp2_with fail
  go_loop [3, 8] (fun s0 i => ∃ k : Nat, k ≤ n ∧ i = .int .i64 k ∧ s0 = .int .i64 (pkM (xs.take k)))
    (fun _ i => n - (intOf i).toNat)
  case atStart => exact ⟨0, by omega, rfl, rfl⟩
  case round =>
    obtain ⟨k, hk, rfl, rfl⟩ := hrel
    by_cases hlk : k < n
    · obtain ⟨x, hkx⟩ := get_lt xs k (by rw [← Hn.out]; exact hlk)
      obtain ⟨bb, oo, hix, hbb, hce⟩ := Hrd.out.at (P := Try.prog) (T := 24) n cap uslice sone hkx hlk
      obtain ⟨x1, x2⟩ := Hi.out.at hkx
      have hst := pkM_step hkx
      have hp0 := pkM_nonneg (xs.take k)
      have hp1 := pkM_le (xs := xs.take k) (B := 10000000000) (fun x hx => Hi.out x (List.mem_of_mem_take hx)) (by omega)
      have Hst := hid hst
      clear hst hkx
      generalize pkM (xs.take k) = z at *
      have ha1 : 0 ≤ absI x ∧ absI x ≤ 10000000000 := by unfold absI; omega
      obtain ⟨ha1, ha2⟩ := ha1
      go_wp2_with fail
      refine (l1Abs_any _ _ (by omega) (by omega)).mono ?_
      rintro e w' ⟨rfl, rfl⟩
      go_wp2_with fail
      refine (l1Most_any _ _ _).mono ?_
      rintro e w' ⟨rfl, rfl⟩
      go_wp2
      go_round
      case rel => exact ⟨k + 1, by omega, by go_num, by rw [Hst.out]⟩
      case measure => simp [intOf]; omega
    · have hge : (n : Int) ≤ (k : Int) := by omega
      have hkn : k = xs.length := by rw [← Hn.out]; omega
      have Hk := hid hkn
      clear hkn hlk
      go_wp2
      go_ret
      exact ⟨ret_i (by rw [Hk.out, List.take_length]), rfl⟩



theorem pkM_of {xs : List Int} {m : Int} (h : pkM xs ≤ m) : InP (-m) m xs := by
  suffices hs : ∀ (xs : List Int) (a : Int), 0 ≤ a → a ≤ xs.foldl (fun m x => mostI m (absI x)) a ∧ ∀ x ∈ xs, absI x ≤ xs.foldl (fun m x => mostI m (absI x)) a by
    intro x hx
    have h1 := (hs xs 0 (by omega)).2 x hx
    have h2 : absI x ≤ m := Int.le_trans h1 h
    unfold absI at h2
    omega
  intro xs
  induction xs with
  | nil => intro a ha; exact ⟨Int.le_refl _, fun x hx => by cases hx⟩
  | cons y ys ih =>
    intro a ha
    have h0 : a ≤ mostI a (absI y) ∧ absI y ≤ mostI a (absI y) := by unfold mostI; split <;> omega
    obtain ⟨h1, h2⟩ := ih (mostI a (absI y)) (by omega)
    rw [List.foldl_cons]
    refine ⟨by omega, fun x hx => ?_⟩
    rcases List.mem_cons.1 hx with rfl | hx
    · omega
    · exact h2 x hx
def sdB (m : Int) (s : List Int) : Bool := scB m && (sigB s && decide (InP (-m) m s))
theorem sdB_t {m : Int} {s : List Int} (h : sdB m s = true) : (1 ≤ m ∧ m ≤ 1000) ∧ SigP s ∧ InP (-m) m s := by
  unfold sdB at h
  simp only [Bool.and_eq_true] at h
  exact ⟨scB_t h.1, sigB_t h.2.1, of_decide_eq_true h.2.2⟩
theorem at0_inp {m : Int} {s : List Int} (h : InP (-m) m s) (hm : 0 ≤ m) (i : Nat) : -m ≤ at0 s i ∧ at0 s i ≤ m := by
  by_cases hi : i < s.length
  · obtain ⟨x, hx⟩ := get_lt s i hi
    rw [at0_of hx]; exact h.at hx
  · rw [at0_out (by omega)]; omega
def Gives2 (w : World) (xs ys : List Int) (e : Ending) (w' : World) : Prop :=
  ∃ v u, e = .returned (.tuple #[v, u]) ∧ Res 3 w.heap.size w' v xs ∧ Res 3 w.heap.size w' u ys ∧ Below w.heap.size w w'


end Go.Proofs.Ythkfjoonkkmgiaa
