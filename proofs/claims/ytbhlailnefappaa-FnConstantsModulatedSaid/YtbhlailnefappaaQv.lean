
import Derived.Test.YtbhlailnefappaaQk
import Derived.Test.YtbhlailnefappaaQh
import Derived.Test.YtbhlailnefappaaAb
import Derived.Test.YtbhlailnefappaaQb
namespace Go.Proofs.Ytbhlailnefappaa
open Go.RowKit BitX Go.MemX Go.ChV
set_option linter.unusedVariables false
/-- the greatest size -/
def pkM (xs : List Int) : Int := xs.foldl (fun m x => mostI m (absI x)) 0
theorem pkM_step {xs : List Int} {k : Nat} {x : Int} (h : xs[k]? = some x) : pkM (xs.take (k + 1)) = mostI (pkM (xs.take k)) (absI x) := by
  rw [take_step xs k x h]; unfold pkM; rw [List.foldl_append]; rfl
theorem pkM_zero (xs : List Int) : pkM xs = 0 ↔ ∀ x ∈ xs, x = 0 := by
  suffices ∀ (m : Int), 0 ≤ m → (0 ≤ xs.foldl (fun m x => mostI m (absI x)) m ∧ (xs.foldl (fun m x => mostI m (absI x)) m = 0 ↔ m = 0 ∧ ∀ x ∈ xs, x = 0)) by
    have := this 0 (by omega); unfold pkM; rw [this.2]; simp
  induction xs with
  | nil => intro m hm; exact ⟨hm, by simp⟩
  | cons x xs ih =>
    intro m hm
    have h0 : 0 ≤ mostI m (absI x) := by unfold mostI absI; split <;> omega
    have h := ih _ h0
    rw [List.foldl_cons]
    refine ⟨h.1, ?_⟩
    rw [h.2]
    have e : mostI m (absI x) = 0 ↔ m = 0 ∧ x = 0 := by
      unfold mostI absI; split <;> omega
    rw [e]; simp [and_assoc]
theorem pkM_nonneg (xs : List Int) : 0 ≤ pkM xs := by
  suffices ∀ (m : Int), 0 ≤ m → 0 ≤ xs.foldl (fun m x => mostI m (absI x)) m from this 0 (by omega)
  induction xs with
  | nil => intro m hm; exact hm
  | cons x xs ih => intro m hm; exact ih _ (show 0 ≤ mostI m (absI x) from by unfold mostI absI; split <;> omega)
theorem pkM_le {xs : List Int} {B : Int} (h : InP (-B) B xs) (hB : 0 ≤ B) : pkM xs ≤ B := by
  suffices ∀ (m : Int), m ≤ B → xs.foldl (fun m x => mostI m (absI x)) m ≤ B from this 0 hB
  induction xs with
  | nil => intro m hm; exact hm
  | cons x xs ih =>
    intro m hm
    have := h x (by simp)
    exact ih (fun y hy => h y (by simp [hy])) _ (show mostI m (absI x) ≤ B from by unfold mostI absI; split <;> omega)


set_option maxHeartbeats 400000 in
theorem wdPeakM_any (v : Value) (xs : List Int) (w : World) (hs : Sl w v xs) (hl : xs.length ≤ 2000) (hi : InP (-10000000000) 10000000000 xs) :
    Calls Try.prog 82 #[v] w fun e w' => e = .returned (.int .i64 (pkM xs)) ∧ w = w' := by
  obtain ⟨a, n, cap, rfl, hn, hrd⟩ := hs.rd
  have Hn := hid hn
  have Hrd := hid hrd
  have hl' : n ≤ 2000 := by omega
  clear hn hrd 
  have Hi := hid hi
  clear hi hl hs
  go_enter Try.func82, Try.ntmps82
  go_wp2_with fail
  go_loop [3, 8] (fun s0 i => ∃ k : Nat, k ≤ n ∧ i = .int .i64 k ∧ s0 = .int .i64 (pkM (xs.take k)))
    (fun _ i => n - (intOf i).toNat)
  case atStart => exact ⟨0, by omega, rfl, rfl⟩
  case round =>
    obtain ⟨k, hk, rfl, rfl⟩ := hrel
    by_cases hlk : k < n
    · obtain ⟨x, hkx⟩ := get_lt xs k (by rw [← Hn.out]; exact hlk)
      obtain ⟨bb, oo, hix, hbb, hce⟩ := Hrd.out.at (P := Try.prog) (T := 24) n cap uslice sone hkx hlk
      obtain ⟨x1, x2⟩ := Hi.out.at hkx
      have hst := pkM_step hkx
      have hp0 := pkM_nonneg (xs.take k)
      have hp1 := pkM_le (xs := xs.take k) (B := 10000000000) (fun x hx => Hi.out x (List.mem_of_mem_take hx)) (by omega)
      have Hst := hid hst
      clear hst hkx
      generalize pkM (xs.take k) = z at *
      have ha1 : 0 ≤ absI x ∧ absI x ≤ 10000000000 := by unfold absI; omega
      obtain ⟨ha1, ha2⟩ := ha1
      go_wp2_with fail
      refine (l1Abs_any _ _ (by omega) (by omega)).mono ?_
      rintro e w' ⟨rfl, rfl⟩
      go_wp2_with fail
      refine (l1Most_any _ _ _).mono ?_
      rintro e w' ⟨rfl, rfl⟩
      go_wp2
      go_round
      case rel => exact ⟨k + 1, by omega, by go_num, by rw [Hst.out]⟩
      case measure => simp [intOf]; omega
    · have hge : (n : Int) ≤ (k : Int) := by omega
      have hkn : k = xs.length := by rw [← Hn.out]; omega
      have Hk := hid hkn
      clear hkn hlk
      go_wp2
      go_ret
      exact ⟨ret_i (by rw [Hk.out, List.take_length]), rfl⟩



theorem pkM_of {xs : List Int} {m : Int} (h : pkM xs ≤ m) : InP (-m) m xs := by
  suffices hs : ∀ (xs : List Int) (a : Int), 0 ≤ a → a ≤ xs.foldl (fun m x => mostI m (absI x)) a ∧ ∀ x ∈ xs, absI x ≤ xs.foldl (fun m x => mostI m (absI x)) a by
    intro x hx
    have h1 := (hs xs 0 (by omega)).2 x hx
    have h2 : absI x ≤ m := Int.le_trans h1 h
    unfold absI at h2
    omega
  intro xs
  induction xs with
  | nil => intro a ha; exact ⟨Int.le_refl _, fun x hx => by cases hx⟩
  | cons y ys ih =>
    intro a ha
    have h0 : a ≤ mostI a (absI y) ∧ absI y ≤ mostI a (absI y) := by unfold mostI; split <;> omega
    obtain ⟨h1, h2⟩ := ih (mostI a (absI y)) (by omega)
    rw [List.foldl_cons]
    refine ⟨by omega, fun x hx => ?_⟩
    rcases List.mem_cons.1 hx with rfl | hx
    · omega
    · exact h2 x hx
def sdB (m : Int) (s : List Int) : Bool := scB m && (sigB s && decide (InP (-m) m s))
theorem sdB_t {m : Int} {s : List Int} (h : sdB m s = true) : (1 ≤ m ∧ m ≤ 1000) ∧ SigP s ∧ InP (-m) m s := by
  unfold sdB at h
  simp only [Bool.and_eq_true] at h
  exact ⟨scB_t h.1, sigB_t h.2.1, of_decide_eq_true h.2.2⟩
theorem at0_inp {m : Int} {s : List Int} (h : InP (-m) m s) (hm : 0 ≤ m) (i : Nat) : -m ≤ at0 s i ∧ at0 s i ≤ m := by
  by_cases hi : i < s.length
  · obtain ⟨x, hx⟩ := get_lt s i hi
    rw [at0_of hx]; exact h.at hx
  · rw [at0_out (by omega)]; omega
def Gives2 (w : World) (xs ys : List Int) (e : Ending) (w' : World) : Prop :=
  ∃ v u, e = .returned (.tuple #[v, u]) ∧ Res 3 w.heap.size w' v xs ∧ Res 3 w.heap.size w' u ys ∧ Below w.heap.size w w'


set_option maxHeartbeats 1000000 in
theorem spec_dmScaled_sd (m : Int) (v : Value) (s : List Int) (w : World) (hs : Sl w v s) :
    Calls Try.prog 46 #[.int .i64 m, v] w fun e w' => e = .returned (.bool (sdB m s)) ∧ w = w' := by
  have HS := hid hs
  clear hs
  cases g0 : scB m
  · have HR := hid (show sdB m s = false from by unfold sdB; rw [g0]; rfl)
    have G0 := hid g0
    clear g0
    go_enter Try.func46, Try.ntmps46
    go_wp2_with fail
    refine (dmScale_q m false _ G0.out).mono ?_
    rintro e w' ⟨rfl, rfl⟩
    go_wp2_with fail
    go_ret
    exact ⟨ret_b HR.out.symm, rfl⟩
  · obtain ⟨m1, m2⟩ := scB_t g0
    cases g1 : sigB s
    · have HR := hid (show sdB m s = false from by unfold sdB; rw [g0, g1]; rfl)
      have G1 := hid g1
      have G0 := hid g0
      clear g0 g1
      go_enter Try.func46, Try.ntmps46
      go_wp2_with fail
      refine (dmScale_q m true _ G0.out).mono ?_
      rintro e w' ⟨rfl, rfl⟩
      go_wp2_with fail
      refine (wdSignal_is v s false _ HS.out G1.out).mono ?_
      rintro e w' ⟨rfl, rfl⟩
      go_wp2_with fail
      go_ret
      exact ⟨ret_b HR.out.symm, rfl⟩
    · have HP := hid (show InP (-10000000000) 10000000000 s from fun x hx => by have := (sigB_t g1).2 x hx; omega)
      have hl2 : s.length ≤ 2000 := by have := (sigB_t g1).1; omega
      have hpk := pkM_le (xs := s) (B := 100000) (fun x hx => (sigB_t g1).2 x hx) (by omega)
      have hpk0 := pkM_nonneg s
      have G1 := hid g1
      have G0 := hid g0
      clear g0 g1
      by_cases hle : pkM s ≤ m
      · have HR := hid (show sdB m s = true from by unfold sdB; rw [G0.out, G1.out]; exact decide_eq_true (pkM_of hle))
        go_enter Try.func46, Try.ntmps46
        go_wp2_with fail
        refine (dmScale_q m true _ G0.out).mono ?_
        rintro e w' ⟨rfl, rfl⟩
        go_wp2_with fail
        refine (wdSignal_is v s true _ HS.out G1.out).mono ?_
        rintro e w' ⟨rfl, rfl⟩
        go_wp2_with fail
        refine (wdPeakM_any v s _ HS.out hl2 HP.out).mono ?_
        rintro e w' ⟨rfl, rfl⟩
        generalize pkM s = pk at *
        go_wp2_with fail
        go_ret
        exact ⟨ret_b (by rw [HR.out]; first | done | exact decide_eq_true (by omega)), rfl⟩
      · have HR := hid (show sdB m s = false from by unfold sdB; rw [G0.out, G1.out]; exact decide_eq_false fun h => hle (pkM_le h (by omega)))
        go_enter Try.func46, Try.ntmps46
        go_wp2_with fail
        refine (dmScale_q m true _ G0.out).mono ?_
        rintro e w' ⟨rfl, rfl⟩
        go_wp2_with fail
        refine (wdSignal_is v s true _ HS.out G1.out).mono ?_
        rintro e w' ⟨rfl, rfl⟩
        go_wp2_with fail
        refine (wdPeakM_any v s _ HS.out hl2 HP.out).mono ?_
        rintro e w' ⟨rfl, rfl⟩
        generalize pkM s = pk at *
        go_wp2_with fail
        go_ret
        exact ⟨ret_b (by rw [HR.out]; first | done | exact decide_eq_false (by omega)), rfl⟩

theorem spec_dmScaled_q (m : Int) (v : Value) (s : List Int) (q : Bool) (w : World) (hs : Sl w v s) (h : sdB m s = q) : Calls Try.prog 46 #[.int .i64 m, v] w fun e w' => e = .returned (.bool (q)) ∧ w = w' := h ▸ spec_dmScaled_sd m v s w hs


set_option maxHeartbeats 1000000 in
theorem impl_IsScaled_sd (m : Int) (v : Value) (s : List Int) (w : World) (hs : Sl w v s) :
    Calls Try.prog 14 #[.int .i64 m, v] w fun e w' => e = .returned (.bool (sdB m s)) ∧ w = w' := by
  have HS := hid hs
  clear hs
  cases g0 : scB m
  · have HR := hid (show sdB m s = false from by unfold sdB; rw [g0]; rfl)
    have G0 := hid g0
    clear g0
    go_enter Try.func14, Try.ntmps14
    go_wp2_with fail
    refine (isScale_q m false _ G0.out).mono ?_
    rintro e w' ⟨rfl, rfl⟩
    go_wp2_with fail
    go_ret
    exact ⟨ret_b HR.out.symm, rfl⟩
  · obtain ⟨m1, m2⟩ := scB_t g0
    cases g1 : sigB s
    · have HR := hid (show sdB m s = false from by unfold sdB; rw [g0, g1]; rfl)
      have G1 := hid g1
      have G0 := hid g0
      clear g0 g1
      go_enter Try.func14, Try.ntmps14
      go_wp2_with fail
      refine (isScale_q m true _ G0.out).mono ?_
      rintro e w' ⟨rfl, rfl⟩
      go_wp2_with fail
      refine (impl_IsSignal_is v s false _ HS.out G1.out).mono ?_
      rintro e w' ⟨rfl, rfl⟩
      go_wp2_with fail
      go_ret
      exact ⟨ret_b HR.out.symm, rfl⟩
    · obtain ⟨aa, n, cap, rfl, hn, hrd⟩ := HS.out.rd
      have HI := hid (sigB_t g1).2
      have hl' : n ≤ 64 := by rw [hn]; exact (sigB_t g1).1
      have Hn := hid hn
      have Hrd := hid hrd
      have G1 := hid g1
      have G0 := hid g0
      clear g0 g1 hn hrd
      go_enter Try.func14, Try.ntmps14
      go_wp2_with fail
      refine (isScale_q m true _ G0.out).mono ?_
      rintro e w' ⟨rfl, rfl⟩
      go_wp2_with fail
      refine (impl_IsSignal_is _ s true _ HS.out G1.out).mono ?_
      rintro e w' ⟨rfl, rfl⟩
      go_wp2_with fail
      go_loop [17] (fun i => ∃ k : Nat, k ≤ n ∧ Hid (InP (-m) m (s.take k)) ∧ i = .int .i64 k)
        (fun i => n - (intOf i).toNat)
      case atStart => exact ⟨0, by omega, hid fun x hx => by simp at hx, rfl⟩
      case round =>
        obtain ⟨k, hk, HG, rfl⟩ := hrel
        by_cases hlk : k < n
        · obtain ⟨x, hkx⟩ := get_lt s k (by rw [← Hn.out]; exact hlk)
          obtain ⟨bb, oo, hix, hbb, hce⟩ := Hrd.out.at (P := Try.prog) (T := 24) n cap uslice sone hkx hlk
          obtain ⟨x1, x2⟩ := HI.out.at hkx
          by_cases hab : absI x ≤ m
          · have HG2 := hid (HG.out.step hkx (show -m ≤ x from by unfold absI at hab; omega) (show x ≤ m from by unfold absI at hab; omega))
            clear hkx
            go_wp2_with fail
            refine (sizeOf_any x _ (by omega) (by omega)).mono ?_
            rintro e w' ⟨rfl, rfl⟩
            generalize absI x = ax at *
            go_wp2
            go_round
            case rel => exact ⟨k + 1, by omega, HG2, by go_num⟩
            case measure => simp [intOf]; omega
          · have HR := hid (show sdB m s = false from by unfold sdB; rw [G0.out, G1.out]; exact decide_eq_false fun h => by have := h.at hkx; unfold absI at hab; omega)
            have hab2 : m < absI x := by omega
            clear hkx hab
            go_wp2_with fail
            refine (sizeOf_any x _ (by omega) (by omega)).mono ?_
            rintro e w' ⟨rfl, rfl⟩
            generalize absI x = ax at *
            go_wp2
            go_ret
            exact ⟨ret_b HR.out.symm, rfl⟩
        · have hge : (n : Int) ≤ (k : Int) := by omega
          have hkn : k = s.length := by rw [← Hn.out]; omega
          have HR := hid (show sdB m s = true from by unfold sdB; rw [G0.out, G1.out]; exact decide_eq_true (HG.out.all hkn))
          clear hkn hlk
          go_wp2
          go_ret
          exact ⟨ret_b HR.out.symm, rfl⟩

theorem impl_IsScaled_q (m : Int) (v : Value) (s : List Int) (q : Bool) (w : World) (hs : Sl w v s) (h : sdB m s = q) : Calls Try.prog 14 #[.int .i64 m, v] w fun e w' => e = .returned (.bool (q)) ∧ w = w' := h ▸ impl_IsScaled_sd m v s w hs


set_option maxHeartbeats 400000 in
theorem spec_IsScaled_is (m : Int) (v : Value) (s : List Int) (w : World) (hs : Sl w v s) :
    Calls Try.prog 15 #[.int .i64 m, v] w fun e w' => e = .returned (.bool (sdB m s)) ∧ Below w.heap.size w w' := by
  have HS := hid hs
  clear hs
  go_enter Try.func15, Try.ntmps15
  go_wp2_with fail
  refine (spec_dmScaled_sd m v s _ HS.out).mono ?_
  rintro e w' ⟨rfl, rfl⟩
  go_wp2_with fail
  go_ret
  exact ⟨rfl, Below.refl _ _⟩
theorem impl_IsScaled_is (m : Int) (v : Value) (s : List Int) (w : World) (hs : Sl w v s) :
    Calls Try.prog 14 #[.int .i64 m, v] w fun e w' => e = .returned (.bool (sdB m s)) ∧ Below w.heap.size w w' := by
  refine (impl_IsScaled_sd m v s w hs).mono ?_
  rintro e w' ⟨rfl, rfl⟩
  exact ⟨rfl, Below.refl _ _⟩


set_option maxHeartbeats 4000000 in
theorem dmOne_any (m : Int) (v : Value) (s : List Int) (w : World) (hs : Sl w v s) (hl : s.length ≤ 1000) (hi : InP (-m) m s) (m1 : 1 ≤ m) (m2 : m ≤ 1000) :
    Calls Try.prog 47 #[.int .i64 m, v] w (Gives2 w (moBL m s) (moSL m s)) := by
  obtain ⟨aa, n, cap, rfl, hn, hrd⟩ := id hs.rd
  have Hn := hid hn
  have Hrd := hid hrd
  have HJ := hid hi
  have hl' : n ≤ 1000 := by omega
  obtain ⟨i0, hi0, hz0, hz1, hz2⟩ := info_parts iint
  clear hs hn hrd hi hl
  go_enter Try.func47, Try.ntmps47
  go_wp2_with fail
  go_loopw [6, 7, 8, 15] (fun v u st i wr => ∃ c : Nat, c ≤ n ∧ st = .int .i64 (moS m s c) ∧ i = .int .i64 c ∧ wr.ownsRow w.heap.size 3 1 v c ((tab c (Go.ChV.moB m s)).map (Value.int .i64)) ∧ wr.ownsRow w.heap.size 3 1 u c ((tab c (fun i => moS m s (i + 1))).map (Value.int .i64)) ∧ Apart v u ∧ Below w.heap.size w wr)
    (fun _ _ _ i _ => n - (intOf i).toNat)
  case atStart => exact ⟨0, by omega, rfl, rfl, World.ownsRow_nil _ _ _ _, World.ownsRow_nil _ _ _ _, Apart.nil _, Below.refl _ _⟩
  case round =>
    obtain ⟨c, hc, rfl, rfl, hown1, hown2, hap, hb⟩ := hrel
    have hsz : w.heap.size ≤ wr.heap.size := hb.size
    by_cases hlk : c < n
    · obtain ⟨x, hkx⟩ := get_lt s c (by rw [← Hn.out]; exact hlk)
      obtain ⟨bb, oo, hix, hbb, hce⟩ := (Hrd.out.kept hb).at (P := Try.prog) (T := 24) n cap uslice sone hkx hlk
      obtain ⟨x1, x2⟩ := HJ.out.at hkx
      obtain ⟨s1, s2⟩ := moS_in (s := s) m1 (at0_inp HJ.out (by omega)) c
      have hst1 := tab_step c (Go.ChV.moB m s)
      have hst2 : tab (c + 1) (fun i => moS m s (i + 1)) = tab c (fun i => moS m s (i + 1)) ++ [moS m s (c + 1)] := tab_step c (fun i => moS m s (i + 1))
      have hax := at0_of hkx
      by_cases hs0 : 0 ≤ moS m s c + x
      · have hsn := moS_t (m := m) (s := s) (i := c) (by rw [hax]; exact hs0)
        have hbt : Go.ChV.moB m s c = 1 := by unfold Go.ChV.moB; rw [hax]; exact biI_t hs0
        rw [hax] at hsn
        rw [hbt] at hst1
        rw [hsn] at hst2
        generalize hz : moS m s c = z at *
        generalize tab c (Go.ChV.moB m s) = ys at hst1 hown1
        generalize tab c (fun i => moS m s (i + 1)) = zs at hst2 hown2
        have Hob1 := hid (ownsRow_base hown1)
        have Hob2 := hid (ownsRow_base hown2)
        have Hsn := hid hsn
        have Hst1 := hid hst1
        have Hst2 := hid hst2
        have Hown1 := hid hown1
        have Hown2 := hid hown2
        have Hap := hid hap
        clear hkx hsn hst1 hst2 hown1 hown2 hap hz hax hbt
        go_wp2_with (at_builtin; refine wpList_append_own2 _ rfl _ _ 24 rfl w.heap.size 3 i0 (.int .i64 0) 1 8 uslice hi0 hz0 hz1 hz2 rfl (by decide) _ _ _ rfl (Hown1.out.alloc _) ⟨wr.heap.size, 0, none⟩ 1 1 [.int .i64 (1)] rfl rfl ?c1 ?c2 ?c3 ?c4 ?c5 ?_)
        case c1 => exact cell_one_new _ _ _
        case c2 => intro u hu; simp at hu; subst hu; rfl
        case c3 => unfold maxLen; omega
        case c4 => omega
        case c5 => simp; omega
        intro v' w3 hown3 hgrow hnew
        have hb3 : Below w.heap.size w w3 := (hb.alloc hsz _).grown hgrow (by simp; omega) (fun j hj => Hob1.out j hj)
        have hsz3 := hb3.size
        have hu3 := owns_other (Hown2.out.alloc _) hgrow Hap.out
        have hap3 := Apart.grown Hap.out hnew (fun j hj => by have := (Hown2.out.lt j hj).2; omega)
        have Hown3 := hid hown3
        have Hu3 := hid hu3
        have Hap3 := hid hap3
        clear hown3 hgrow hnew hu3 hap3
        go_wp2_with (at_builtin; refine wpList_append_own2 _ rfl _ _ 24 rfl w.heap.size 3 i0 (.int .i64 0) 1 8 uslice hi0 hz0 hz1 hz2 rfl (by decide) _ _ _ rfl (Hu3.out.alloc _) ⟨w3.heap.size, 0, none⟩ 1 1 [.int .i64 (z + x - m)] rfl rfl ?c1 ?c2 ?c3 ?c4 ?c5 ?_)
        case c1 => exact cell_one_new _ _ _
        case c2 => intro u hu; simp at hu; subst hu; rfl
        case c3 => unfold maxLen; omega
        case c4 => omega
        case c5 => simp; omega
        intro u' w4 hown4 hgrow hnew
        have hb4 : Below w.heap.size w w4 := (hb3.alloc hsz3 _).grown hgrow (by simp; omega) (fun j hj => Hob2.out j hj)
        have hv4 := owns_other (Hown3.out.alloc _) hgrow Hap3.out.symm
        have hap4 := (Apart.grown Hap3.out.symm hnew (fun j hj => by have := (Hown3.out.lt j hj).2; omega)).symm
        have Hown4 := hid hown4
        have Hv4 := hid hv4
        have Hap4 := hid hap4
        clear hown4 hgrow hnew hv4 hap4
        go_wp2
        go_roundw
        case rel => exact ⟨c + 1, by omega, by rw [Hsn.out], by go_num, by rw [Hst1.out, List.map_append]; exact Hv4.out, by rw [Hst2.out, List.map_append]; exact Hown4.out, Hap4.out, hb4⟩
        case measure => simp [intOf]; omega
      · replace hs0 : moS m s c + x < 0 := by omega
        have hsn := moS_f (m := m) (s := s) (i := c) (by rw [hax]; exact hs0)
        have hbt : Go.ChV.moB m s c = -1 := by unfold Go.ChV.moB; rw [hax]; exact biI_f hs0
        rw [hax] at hsn
        rw [hbt] at hst1
        rw [hsn] at hst2
        generalize hz : moS m s c = z at *
        have e0 : z + x - -m = z + x + m := by omega
        generalize tab c (Go.ChV.moB m s) = ys at hst1 hown1
        generalize tab c (fun i => moS m s (i + 1)) = zs at hst2 hown2
        have Hob1 := hid (ownsRow_base hown1)
        have Hob2 := hid (ownsRow_base hown2)
        have Hsn := hid hsn
        have Hst1 := hid hst1
        have Hst2 := hid hst2
        have Hown1 := hid hown1
        have Hown2 := hid hown2
        have Hap := hid hap
        clear hkx hsn hst1 hst2 hown1 hown2 hap hz hax hbt
        go_wp2_with (at_builtin; refine wpList_append_own2 _ rfl _ _ 24 rfl w.heap.size 3 i0 (.int .i64 0) 1 8 uslice hi0 hz0 hz1 hz2 rfl (by decide) _ _ _ rfl (Hown1.out.alloc _) ⟨wr.heap.size, 0, none⟩ 1 1 [.int .i64 (-1)] rfl rfl ?c1 ?c2 ?c3 ?c4 ?c5 ?_)
        case c1 => exact cell_one_new _ _ _
        case c2 => intro u hu; simp at hu; subst hu; rfl
        case c3 => unfold maxLen; omega
        case c4 => omega
        case c5 => simp; omega
        intro v' w3 hown3 hgrow hnew
        have hb3 : Below w.heap.size w w3 := (hb.alloc hsz _).grown hgrow (by simp; omega) (fun j hj => Hob1.out j hj)
        have hsz3 := hb3.size
        have hu3 := owns_other (Hown2.out.alloc _) hgrow Hap.out
        have hap3 := Apart.grown Hap.out hnew (fun j hj => by have := (Hown2.out.lt j hj).2; omega)
        have Hown3 := hid hown3
        have Hu3 := hid hu3
        have Hap3 := hid hap3
        clear hown3 hgrow hnew hu3 hap3
        go_wp2_with (at_builtin; refine wpList_append_own2 _ rfl _ _ 24 rfl w.heap.size 3 i0 (.int .i64 0) 1 8 uslice hi0 hz0 hz1 hz2 rfl (by decide) _ _ _ rfl (Hu3.out.alloc _) ⟨w3.heap.size, 0, none⟩ 1 1 [.int .i64 (z + x + m)] rfl rfl ?c1 ?c2 ?c3 ?c4 ?c5 ?_)
        case c1 => exact cell_one_new _ _ _
        case c2 => intro u hu; simp at hu; subst hu; rfl
        case c3 => unfold maxLen; omega
        case c4 => omega
        case c5 => simp; omega
        intro u' w4 hown4 hgrow hnew
        have hb4 : Below w.heap.size w w4 := (hb3.alloc hsz3 _).grown hgrow (by simp; omega) (fun j hj => Hob2.out j hj)
        have hv4 := owns_other (Hown3.out.alloc _) hgrow Hap3.out.symm
        have hap4 := (Apart.grown Hap3.out.symm hnew (fun j hj => by have := (Hown3.out.lt j hj).2; omega)).symm
        have Hown4 := hid hown4
        have Hv4 := hid hv4
        have Hap4 := hid hap4
        clear hown4 hgrow hnew hv4 hap4
        go_wp2
        go_roundw
        case rel => exact ⟨c + 1, by omega, by rw [Hsn.out], by go_num, by rw [Hst1.out, List.map_append]; exact Hv4.out, by rw [Hst2.out, List.map_append]; exact Hown4.out, Hap4.out, hb4⟩
        case measure => simp [intOf]; omega
    · have hge : (n : Int) ≤ (c : Int) := by omega
      have hkn : c = s.length := by rw [← Hn.out]; omega
      have Hk := hid hkn
      have Hown1 := hid hown1
      have Hown2 := hid hown2
      clear hkn hlk hown1 hown2 hap
      go_wp2
      go_ret2
      have ho1 := Hown1.out
      have ho2 := Hown2.out
      rw [Hk.out] at ho1 ho2
      exact ⟨_, _, rfl, Res.owns (by rw [moBL, tab_len]; exact ho1), Res.owns (by rw [moSL, tab_len]; exact ho2), hb⟩

end Go.Proofs.Ytbhlailnefappaa
