
import Derived.Test.YthgdpmhpieakhaaQc
import Derived.Test.YthgdpmhpieakhaaAb
namespace Go.Proofs.Ythgdpmhpieakhaa
open Go.RowKit BitX Go.MemX Go.ShX Go.ChV
set_option linter.unusedVariables false

/-- the greatest size -/
def pkM (xs : List Int) : Int := xs.foldl (fun m x => mostI m (absI x)) 0
theorem pkM_step {xs : List Int} {k : Nat} {x : Int} (h : xs[k]? = some x) : pkM (xs.take (k + 1)) = mostI (pkM (xs.take k)) (absI x) := by
  rw [take_step xs k x h]; unfold pkM; rw [List.foldl_append]; rfl
theorem pkM_zero (xs : List Int) : pkM xs = 0 ↔ ∀ x ∈ xs, x = 0 := by
  suffices ∀ (m : Int), 0 ≤ m → (0 ≤ xs.foldl (fun m x => mostI m (absI x)) m ∧ (xs.foldl (fun m x => mostI m (absI x)) m = 0 ↔ m = 0 ∧ ∀ x ∈ xs, x = 0)) by
    have := this 0 (by omega); unfold pkM; rw [this.2]; simp
  induction xs with
  | nil => intro m hm; exact ⟨hm, by simp⟩
  | cons x xs ih =>
    intro m hm
    have h0 : 0 ≤ mostI m (absI x) := by unfold mostI absI; split <;> omega
    have h := ih _ h0
    rw [List.foldl_cons]
    refine ⟨h.1, ?_⟩
    rw [h.2]
    have e : mostI m (absI x) = 0 ↔ m = 0 ∧ x = 0 := by
      unfold mostI absI; split <;> omega
    rw [e]; simp [and_assoc]
theorem pkM_nonneg (xs : List Int) : 0 ≤ pkM xs := by
  suffices ∀ (m : Int), 0 ≤ m → 0 ≤ xs.foldl (fun m x => mostI m (absI x)) m from this 0 (by omega)
  induction xs with
  | nil => intro m hm; exact hm
  | cons x xs ih => intro m hm; exact ih _ (show 0 ≤ mostI m (absI x) from by unfold mostI absI; split <;> omega)
theorem pkM_le {xs : List Int} {B : Int} (h : InP (-B) B xs) (hB : 0 ≤ B) : pkM xs ≤ B := by
  suffices ∀ (m : Int), m ≤ B → xs.foldl (fun m x => mostI m (absI x)) m ≤ B from this 0 hB
  induction xs with
  | nil => intro m hm; exact hm
  | cons x xs ih =>
    intro m hm
    have := h x (by simp)
    exact ih (fun y hy => h y (by simp [hy])) _ (show mostI m (absI x) ≤ B from by unfold mostI absI; split <;> omega)


set_option maxHeartbeats 400000 in
theorem wdPeakM_any (v : Value) (xs : List Int) (w : World) (hs : Sl w v xs) (hl : xs.length ≤ 2000) (hi : InP (-10000000000) 10000000000 xs) :
    Calls Try.prog 24 #[v] w fun e w' => e = .returned (.int .i64 (pkM xs)) ∧ w = w' := by
  obtain ⟨a, n, cap, rfl, hn, hrd⟩ := hs.rd
  have Hn := hid hn
  have Hrd := hid hrd
  have hl' : n ≤ 2000 := by omega
  clear hn hrd 
  have Hi := hid hi
  clear hi hl hs
  go_enter Try.func24, Try.ntmps24
  go_wp2_with fail
  go_loop [3, 8] (fun s0 i => ∃ k : Nat, k ≤ n ∧ i = .int .i64 k ∧ s0 = .int .i64 (pkM (xs.take k)))
    (fun _ i => n - (intOf i).toNat)
  case atStart => exact ⟨0, by omega, rfl, rfl⟩
  case round =>
    obtain ⟨k, hk, rfl, rfl⟩ := hrel
    by_cases hlk : k < n
    · obtain ⟨x, hkx⟩ := get_lt xs k (by rw [← Hn.out]; exact hlk)
      obtain ⟨bb, oo, hix, hbb, hce⟩ := Hrd.out.at (P := Try.prog) (T := 24) n cap uslice sone hkx hlk
      obtain ⟨x1, x2⟩ := Hi.out.at hkx
      have hst := pkM_step hkx
      have hp0 := pkM_nonneg (xs.take k)
      have hp1 := pkM_le (xs := xs.take k) (B := 10000000000) (fun x hx => Hi.out x (List.mem_of_mem_take hx)) (by omega)
      have Hst := hid hst
      clear hst hkx
      generalize pkM (xs.take k) = z at *
      have ha1 : 0 ≤ absI x ∧ absI x ≤ 10000000000 := by unfold absI; omega
      obtain ⟨ha1, ha2⟩ := ha1
      go_wp2_with fail
      refine (l1Abs_any _ _ (by omega) (by omega)).mono ?_
      rintro e w' ⟨rfl, rfl⟩
      go_wp2_with fail
      refine (l1Most_any _ _ _).mono ?_
      rintro e w' ⟨rfl, rfl⟩
      go_wp2
      go_round
      case rel => exact ⟨k + 1, by omega, by go_num, by rw [Hst.out]⟩
      case measure => simp [intOf]; omega
    · have hge : (n : Int) ≤ (k : Int) := by omega
      have hkn : k = xs.length := by rw [← Hn.out]; omega
      have Hk := hid hkn
      clear hkn hlk
      go_wp2
      go_ret
      exact ⟨ret_i (by rw [Hk.out, List.take_length]), rfl⟩




theorem sumL_tab (n : Nat) (f : Nat → Int) : sumL (tab n f) = sumF n f := by
  induction n with
  | zero => rfl
  | succ n ih => rw [tab_step, sumL_append, ih, sumF_succ]; simp [sumL]
def gpL (s : List Int) (k : Nat) (mode order : Int) : List Int := tab s.length (gpI s k mode order)
theorem run_gpL (s : List Int) (k : Nat) (mode order : Int) : tab (gpL s k mode order).length (run (gpL s k mode order)) = sgL s k mode order := by
  unfold sgL
  rw [show (gpL s k mode order).length = s.length from tab_len _ _]
  refine tab_congr _ _ _ fun i hi => ?_
  unfold run gpL
  rw [tab_take _ _ _ (by omega), sumL_tab]; rfl
theorem gpL_in (s : List Int) (k : Nat) (mode order : Int) (hk : (2 : Int) ^ k ≤ 1024) : InP (-100000) 100000 (gpL s k mode order) := by
  intro x hx
  unfold gpL tab at hx
  obtain ⟨i, _, rfl⟩ := List.mem_map.1 hx
  have := gp_in s k mode order hk i
  omega
theorem gp_of {s : List Int} {k : Nat} {mode order : Int} {i : Nat} {x q : Int} (hx : s[i]? = some x) (hq : q = shI s k mode order i * 2 ^ k) : gpI s k mode order i = x - q := by
  unfold gpI; rw [at0_of hx, ← hq]
theorem sh_in (s : List Int) (k : Nat) (mode order : Int) (hk : (2 : Int) ^ k ≤ 1024) (i : Nat) {x : Int} (hx : at0 s i = x) (x1 : -100000 ≤ x) (x2 : x ≤ 100000) : -105000 ≤ shI s k mode order i * 2 ^ k ∧ shI s k mode order i * 2 ^ k ≤ 105000 := by
  have := gp_in s k mode order hk i
  unfold gpI at this
  rw [hx] at this; omega


set_option maxHeartbeats 2000000 in
theorem dmGaps_any (v : Value) (s : List Int) (k : Nat) (mode order : Int) (w : World) (hs : Sl w v s) (hl : s.length ≤ 64) (hi : InP (-100000) 100000 s) (hk : k ≤ 10) (hm : mode = 0 ∨ mode = 1 ∨ mode = 2) (ho : 0 ≤ order ∧ order ≤ 2) :
    Calls Try.prog 22 #[v, .int .i64 (k : Int), .int .i64 mode, .int .i64 order] w (GivesL w (sgL s k mode order)) := by
  have HS := hid hs
  have HI := hid hi
  have HP := hid (pow10 k hk).2
  obtain ⟨i0, hi0, hz0, hz1, hz2⟩ := info_parts iint
  go_enter Try.func22, Try.ntmps22
  go_wp2_with fail
  refine (dmShape_any v s k mode order _ HS.out hl HI.out hk hm ho).mono ?_
  rintro e w1 ⟨u1, u2, rfl, hr1, _, hb0⟩
  obtain ⟨aa, n, cap, rfl, hn, hrd⟩ := id (hs.kept hb0).rd
  obtain ⟨ab, n2, cap2, rfl, hn2, hrd2⟩ := id hr1.sl.rd
  rw [show (shL s k mode order).length = s.length from tab_len _ _, ← hn] at hn2
  subst hn2
  have Hn := hid hn
  have Hrd := hid hrd
  have Hrd2 := hid hrd2
  have HB := hid hb0
  have hl' : n2 ≤ 64 := by omega
  clear hs hi hl hm ho hrd hrd2 hr1 hn hb0 HS
  go_wp2_with fail
  go_loopw [11, 24] (fun v i wr => ∃ c : Nat, c ≤ n2 ∧ i = .int .i64 c ∧ wr.ownsRow w1.heap.size 3 1 v c ((tab c (gpI s k mode order)).map (Value.int .i64)) ∧ Below w1.heap.size w1 wr)
    (fun _ i _ => n2 - (intOf i).toNat)
  case atStart => exact ⟨0, by omega, rfl, World.ownsRow_nil _ _ _ _, Below.refl _ _⟩
  case round =>
    obtain ⟨c, hc, rfl, hown, hb⟩ := hrel
    have hsz : w1.heap.size ≤ wr.heap.size := hb.size
    by_cases hlk : c < n2
    · obtain ⟨x, hkx⟩ := get_lt s c (by rw [← Hn.out]; exact hlk)
      obtain ⟨bb, oo, hix, hbb, hce⟩ := (Hrd.out.kept hb).at (P := Try.prog) (T := 24) n2 cap uslice sone hkx hlk
      have hky : (shL s k mode order)[c]? = some (shI s k mode order c) := tab_get _ _ _ (by rw [← Hn.out]; exact hlk)
      obtain ⟨bb2, oo2, hix2, hbb2, hce2⟩ := (Hrd2.out.kept hb).at (P := Try.prog) (T := 24) n2 cap2 uslice sone hky hlk
      obtain ⟨x1, x2⟩ := HI.out.at hkx
      have hq12 := sh_in s k mode order HP.out c (at0_of hkx) x1 x2
      have hst := tab_step c (gpI s k mode order)
      obtain ⟨q, hq⟩ : ∃ q, q = shI s k mode order c * 2 ^ k := ⟨_, rfl⟩
      rw [gp_of hkx hq] at hst
      rw [← hq] at hq12
      obtain ⟨q1, q2⟩ := hq12
      generalize shI s k mode order c = y at *
      have hw1 : wrap64 (y * 2 ^ k) = q := by rw [← hq]; exact IntWalk.wrap64_in _ (by omega)
      have hw2 : wrap64 (y * 2 ^ min k 64) = q := by rw [Nat.min_eq_left (by omega)]; exact hw1
      generalize tab c (gpI s k mode order) = ys at hst hown
      have Hob := hid (ownsRow_base hown)
      have Hst := hid hst
      have Hown := hid hown
      clear hkx hky hst hown hq
      go_wp2_with (at_builtin; refine wpList_append_own2 _ rfl _ _ 24 rfl w1.heap.size 3 i0 (.int .i64 0) 1 8 uslice hi0 hz0 hz1 hz2 rfl (by decide) _ _ _ rfl (Hown.out.alloc _) ⟨wr.heap.size, 0, none⟩ 1 1 [.int .i64 (x - q)] rfl rfl ?c1 ?c2 ?c3 ?c4 ?c5 ?_)
      case c1 => exact cell_one_new _ _ _
      case c2 => intro u hu; simp at hu; subst hu; rfl
      case c3 => unfold maxLen; omega
      case c4 => omega
      case c5 => simp; omega
      intro v' w3 hown3 hgrow _
      have hb3 : Below w1.heap.size w1 w3 := (hb.alloc hsz _).grown hgrow (by simp; omega) (fun j hj => Hob.out j hj)
      have Hown3 := hid hown3
      clear hown3 hgrow
      go_wp2
      go_roundw
      case rel => exact ⟨c + 1, by omega, by go_num, by rw [Hst.out, List.map_append]; exact Hown3.out, hb3⟩
      case measure => simp [intOf]; omega
    · have hge : (n2 : Int) ≤ (c : Int) := by omega
      have hkn : c = s.length := by rw [← Hn.out]; omega
      have hown2 : wr.ownsRow w1.heap.size 3 1 u11 s.length ((gpL s k mode order).map (Value.int .i64)) := by rw [← hkn]; unfold gpL; rw [← hkn]; exact hown
      have hres : Res 3 w1.heap.size wr u11 (gpL s k mode order) := Res.owns (by rw [gpL, tab_len]; exact hown2)
      have hll : (gpL s k mode order).length ≤ 64 := by rw [gpL, tab_len]; omega
      have Hres := hid hres
      clear hkn hlk hown hown2 hres
      go_wp2_with fail
      refine (wdSums_any _ (gpL s k mode order) _ Hres.out.sl hll (gpL_in _ _ _ _ HP.out)).mono ?_
      rintro e w4 ⟨u4, rfl, hr4, hb4⟩
      rw [run_gpL] at hr4
      have Hr4 := hid hr4
      clear hr4
      go_wp2_with fail
      go_ret
      have hb5 := HB.out.trans ((hb.trans (hb4.mono hsz)).mono HB.out.size)
      exact ⟨_, rfl, Hr4.out.mono (Nat.le_trans HB.out.size hsz), hb5⟩

end Go.Proofs.Ythgdpmhpieakhaa
