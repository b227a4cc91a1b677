
import Derived.Test.YthgdpmhpieakhaaOa
import Derived.Test.YthgdpmhpieakhaaOd
import Derived.Test.YthgdpmhpieakhaaTb
import Derived.Test.YthgdpmhpieakhaaQb
namespace Go.Proofs.Ythgdpmhpieakhaa
open Go.RowKit BitX Go.MemX Go.ShX Go.ChV
set_option linter.unusedVariables false
def spB (s : List Int) (k mode order : Int) : Bool := sigB s && (kB k && (moB mode && moB order))
theorem spB_t {s : List Int} {k mode order : Int} (h : spB s k mode order = true) : SigP s ∧ (0 ≤ k ∧ k ≤ 10) ∧ (0 ≤ mode ∧ mode ≤ 2) ∧ (0 ≤ order ∧ order ≤ 2) := by
  unfold spB at h
  simp only [Bool.and_eq_true] at h
  exact ⟨sigB_t h.1, of_decide_eq_true h.2.1, of_decide_eq_true h.2.2.1, of_decide_eq_true h.2.2.2⟩


set_option maxHeartbeats 1000000 in
theorem dmShaped_is (v : Value) (s : List Int) (k mode order : Int) (w : World) (hs : Sl w v s) :
    Calls Try.prog 19 #[v, .int .i64 k, .int .i64 mode, .int .i64 order] w fun e w' => e = .returned (.bool (spB s k mode order)) ∧ w = w' := by
  cases g0 : sigB s
  · have HS := hid hs
    clear hs
    have G0 := hid g0
    clear g0
    go_enter Try.func19, Try.ntmps19
    go_wp2_with fail
    refine (wdSignal_is _ s false _ HS.out G0.out).mono ?_
    rintro e w' ⟨rfl, rfl⟩
    go_wp2_with fail
    go_ret
    exact ⟨ret_b (by first | (simp [spB, G0.out]; done) | (simp [spB, G0.out]; omega)), rfl⟩
  · cases g1 : kB k
    · have HS := hid hs
      clear hs
      have G0 := hid g0
      clear g0
      have G1 := hid g1
      clear g1
      go_enter Try.func19, Try.ntmps19
      go_wp2_with fail
      refine (wdSignal_is _ s true _ HS.out G0.out).mono ?_
      rintro e w' ⟨rfl, rfl⟩
      go_wp2_with fail
      refine (l1In_is _ _ _ false _ G1.out).mono ?_
      rintro e w' ⟨rfl, rfl⟩
      go_wp2_with fail
      go_ret
      exact ⟨ret_b (by first | (simp [spB, G0.out, G1.out]; done) | (simp [spB, G0.out, G1.out]; omega)), rfl⟩
    · cases g2 : moB mode
      · have HS := hid hs
        clear hs
        have G0 := hid g0
        clear g0
        have G1 := hid g1
        clear g1
        have G2 := hid g2
        clear g2
        go_enter Try.func19, Try.ntmps19
        go_wp2_with fail
        refine (wdSignal_is _ s true _ HS.out G0.out).mono ?_
        rintro e w' ⟨rfl, rfl⟩
        go_wp2_with fail
        refine (l1In_is _ _ _ true _ G1.out).mono ?_
        rintro e w' ⟨rfl, rfl⟩
        go_wp2_with fail
        refine (wdMode_isq _ _ false _ (by rw [kB_sh G1.out]; exact G2.out)).mono ?_
        rintro e w' ⟨rfl, rfl⟩
        go_wp2_with fail
        go_ret
        exact ⟨ret_b (by first | (simp [spB, G0.out, G1.out, G2.out]; done) | (simp [spB, G0.out, G1.out, G2.out]; omega)), rfl⟩
      · cases g3 : moB order
        · have HS := hid hs
          clear hs
          have G0 := hid g0
          clear g0
          have G1 := hid g1
          clear g1
          have G2 := hid g2
          clear g2
          have G3 := hid g3
          clear g3
          go_enter Try.func19, Try.ntmps19
          go_wp2_with fail
          refine (wdSignal_is _ s true _ HS.out G0.out).mono ?_
          rintro e w' ⟨rfl, rfl⟩
          go_wp2_with fail
          refine (l1In_is _ _ _ true _ G1.out).mono ?_
          rintro e w' ⟨rfl, rfl⟩
          go_wp2_with fail
          refine (wdMode_isq _ _ true _ (by rw [kB_sh G1.out]; exact G2.out)).mono ?_
          rintro e w' ⟨rfl, rfl⟩
          go_wp2_with fail
          refine (l1In_is _ _ _ false _ G3.out).mono ?_
          rintro e w' ⟨rfl, rfl⟩
          go_wp2_with fail
          go_ret
          exact ⟨ret_b (by first | (simp [spB, G0.out, G1.out, G2.out, G3.out]; done) | (simp [spB, G0.out, G1.out, G2.out, G3.out]; omega)), rfl⟩
        · have HS := hid hs
          clear hs
          have G0 := hid g0
          clear g0
          have G1 := hid g1
          clear g1
          have G2 := hid g2
          clear g2
          have G3 := hid g3
          clear g3
          go_enter Try.func19, Try.ntmps19
          go_wp2_with fail
          refine (wdSignal_is _ s true _ HS.out G0.out).mono ?_
          rintro e w' ⟨rfl, rfl⟩
          go_wp2_with fail
          refine (l1In_is _ _ _ true _ G1.out).mono ?_
          rintro e w' ⟨rfl, rfl⟩
          go_wp2_with fail
          refine (wdMode_isq _ _ true _ (by rw [kB_sh G1.out]; exact G2.out)).mono ?_
          rintro e w' ⟨rfl, rfl⟩
          go_wp2_with fail
          refine (l1In_is _ _ _ true _ G3.out).mono ?_
          rintro e w' ⟨rfl, rfl⟩
          go_wp2_with fail
          go_ret
          exact ⟨ret_b (by first | (simp [spB, G0.out, G1.out, G2.out, G3.out]; done) | (simp [spB, G0.out, G1.out, G2.out, G3.out]; omega)), rfl⟩


set_option maxHeartbeats 1000000 in
theorem canShape_is (v : Value) (s : List Int) (k mode order : Int) (w : World) (hs : Sl w v s) :
    Calls Try.prog 17 #[v, .int .i64 k, .int .i64 mode, .int .i64 order] w fun e w' => e = .returned (.bool (spB s k mode order)) ∧ w = w' := by
  cases g0 : sigB s
  · have HS := hid hs
    clear hs
    have G0 := hid g0
    clear g0
    go_enter Try.func17, Try.ntmps17
    go_wp2_with fail
    refine (impl_IsSignal_is _ s false _ HS.out G0.out).mono ?_
    rintro e w' ⟨rfl, rfl⟩
    go_wp2_with fail
    go_ret
    exact ⟨ret_b (by first | (simp [spB, G0.out]; done) | (simp [spB, G0.out]; omega)), rfl⟩
  · cases g1 : kB k
    · have nn := of_decide_eq_false g1
      by_cases nlt : k < 0
      · clear nn
        have HS := hid hs
        clear hs
        have G0 := hid g0
        clear g0
        have G1 := hid g1
        clear g1
        go_enter Try.func17, Try.ntmps17
        go_wp2_with fail
        refine (impl_IsSignal_is _ s true _ HS.out G0.out).mono ?_
        rintro e w' ⟨rfl, rfl⟩
        go_wp2_with fail
        go_ret
        exact ⟨ret_b (by first | (simp [spB, G0.out, G1.out]; done) | (simp [spB, G0.out, G1.out]; omega)), rfl⟩
      · have nge : 0 ≤ k := by omega
        have ngt : 10 < k := by omega
        clear nn nlt
        have HS := hid hs
        clear hs
        have G0 := hid g0
        clear g0
        have G1 := hid g1
        clear g1
        go_enter Try.func17, Try.ntmps17
        go_wp2_with fail
        refine (impl_IsSignal_is _ s true _ HS.out G0.out).mono ?_
        rintro e w' ⟨rfl, rfl⟩
        go_wp2_with fail
        go_ret
        exact ⟨ret_b (by first | (simp [spB, G0.out, G1.out]; done) | (simp [spB, G0.out, G1.out]; omega)), rfl⟩
    · obtain ⟨n11, n12⟩ := of_decide_eq_true g1
      cases g2 : moB mode
      · have HS := hid hs
        clear hs
        have G0 := hid g0
        clear g0
        have G1 := hid g1
        clear g1
        have G2 := hid g2
        clear g2
        go_enter Try.func17, Try.ntmps17
        go_wp2_with fail
        refine (impl_IsSignal_is _ s true _ HS.out G0.out).mono ?_
        rintro e w' ⟨rfl, rfl⟩
        go_wp2_with fail
        refine (isMode_isq _ false _ G2.out).mono ?_
        rintro e w' ⟨rfl, rfl⟩
        go_wp2_with fail
        go_ret
        exact ⟨ret_b (by first | (simp [spB, G0.out, G1.out, G2.out]; done) | (simp [spB, G0.out, G1.out, G2.out]; omega)), rfl⟩
      · cases g3 : moB order
        · have nn := of_decide_eq_false g3
          by_cases nlt : order < 0
          · clear nn
            have HS := hid hs
            clear hs
            have G0 := hid g0
            clear g0
            have G1 := hid g1
            clear g1
            have G2 := hid g2
            clear g2
            have G3 := hid g3
            clear g3
            go_enter Try.func17, Try.ntmps17
            go_wp2_with fail
            refine (impl_IsSignal_is _ s true _ HS.out G0.out).mono ?_
            rintro e w' ⟨rfl, rfl⟩
            go_wp2_with fail
            refine (isMode_isq _ true _ G2.out).mono ?_
            rintro e w' ⟨rfl, rfl⟩
            go_wp2_with fail
            go_ret
            exact ⟨ret_b (by first | (simp [spB, G0.out, G1.out, G2.out, G3.out]; done) | (simp [spB, G0.out, G1.out, G2.out, G3.out]; omega)), rfl⟩
          · have nge : 0 ≤ order := by omega
            have ngt : 2 < order := by omega
            clear nn nlt
            have HS := hid hs
            clear hs
            have G0 := hid g0
            clear g0
            have G1 := hid g1
            clear g1
            have G2 := hid g2
            clear g2
            have G3 := hid g3
            clear g3
            go_enter Try.func17, Try.ntmps17
            go_wp2_with fail
            refine (impl_IsSignal_is _ s true _ HS.out G0.out).mono ?_
            rintro e w' ⟨rfl, rfl⟩
            go_wp2_with fail
            refine (isMode_isq _ true _ G2.out).mono ?_
            rintro e w' ⟨rfl, rfl⟩
            go_wp2_with fail
            go_ret
            exact ⟨ret_b (by first | (simp [spB, G0.out, G1.out, G2.out, G3.out]; done) | (simp [spB, G0.out, G1.out, G2.out, G3.out]; omega)), rfl⟩
        · obtain ⟨n31, n32⟩ := of_decide_eq_true g3
          have HS := hid hs
          clear hs
          have G0 := hid g0
          clear g0
          have G1 := hid g1
          clear g1
          have G2 := hid g2
          clear g2
          have G3 := hid g3
          clear g3
          go_enter Try.func17, Try.ntmps17
          go_wp2_with fail
          refine (impl_IsSignal_is _ s true _ HS.out G0.out).mono ?_
          rintro e w' ⟨rfl, rfl⟩
          go_wp2_with fail
          refine (isMode_isq _ true _ G2.out).mono ?_
          rintro e w' ⟨rfl, rfl⟩
          go_wp2_with fail
          go_ret
          exact ⟨ret_b (by first | (simp [spB, G0.out, G1.out, G2.out, G3.out]; done) | (simp [spB, G0.out, G1.out, G2.out, G3.out]; omega)), rfl⟩


theorem dmShaped_q (v : Value) (s : List Int) (k mode order : Int) (q : Bool) (w : World) (hs : Sl w v s) (h : spB s k mode order = q) :
    Calls Try.prog 19 #[v, .int .i64 k, .int .i64 mode, .int .i64 order] w fun e w' => e = .returned (.bool q) ∧ w = w' := h ▸ dmShaped_is v s k mode order w hs
theorem canShape_q (v : Value) (s : List Int) (k mode order : Int) (q : Bool) (w : World) (hs : Sl w v s) (h : spB s k mode order = q) :
    Calls Try.prog 17 #[v, .int .i64 k, .int .i64 mode, .int .i64 order] w fun e w' => e = .returned (.bool q) ∧ w = w' := h ▸ canShape_is v s k mode order w hs
/-- what a call leaves that hands back two new lists -/
def Gives2 (w : World) (xs ys : List Int) (e : Ending) (w' : World) : Prop :=
  ∃ v u, e = .returned (.tuple #[v, u]) ∧ Res 3 w.heap.size w' v xs ∧ Res 3 w.heap.size w' u ys ∧ Below w.heap.size w w'
theorem gives_of {w w2 : World} {ys zs : List Int} {b c : Bool} {e : Ending} (h1 : b = c) (h2 : ys = zs) (h : Gives w zs c e w2) : Gives w ys b e w2 := by subst h1 h2; exact h
theorem pow10 (k : Nat) (h : k ≤ 10) : (1 : Int) ≤ 2 ^ k ∧ (2 : Int) ^ k ≤ 1024 := by
  have h1 := Int.pow_pos (n := 2) (m := k) (by decide)
  have h2 : (2 : Nat) ^ k ≤ 2 ^ 10 := Nat.pow_le_pow_right (by decide) h
  have h3 : ((2 ^ k : Nat) : Int) ≤ ((2 ^ 10 : Nat) : Int) := by omega
  simp at h3
  omega


set_option maxHeartbeats 4000000 in
theorem dmShape_0 (v : Value) (s : List Int) (k : Nat) (mode : Int) (w : World) (hs : Sl w v s) (hl : s.length ≤ 64) (hi : InP (-100000) 100000 s) (hk : k ≤ 10) (hm : mode = 0 ∨ mode = 1 ∨ mode = 2) :
    Calls Try.prog 20 #[v, .int .i64 (k : Int), .int .i64 mode, .int .i64 0] w (Gives2 w (shL s k mode 0) (seL s k mode 0)) := by
  obtain ⟨aa, n, cap, rfl, hn, hrd⟩ := id hs.rd
  have Hn := hid hn
  have Hrd := hid hrd
  have HJ := hid hi
  have HM := hid hm
  have HP := hid (pow10 k hk).2
  have hl' : n ≤ 64 := by omega
  obtain ⟨i0, hi0, hz0, hz1, hz2⟩ := info_parts iint
  clear hs hn hrd hi hl hm
  go_enter Try.func20, Try.ntmps20
  go_wp2_with fail
  go_loopw [10, 11, 12, 13, 20] (fun v u la be i wr => ∃ c : Nat, c ≤ n ∧ la = .int .i64 (erL s k mode 0 c) ∧ be = .int .i64 (erB s k mode 0 c) ∧ i = .int .i64 c ∧ wr.ownsRow w.heap.size 3 1 v c ((tab c (shI s k mode 0)).map (Value.int .i64)) ∧ wr.ownsRow w.heap.size 3 1 u c ((tab c (fun i => erL s k mode 0 (i + 1))).map (Value.int .i64)) ∧ Apart v u ∧ Below w.heap.size w wr)
    (fun _ _ _ _ i _ => n - (intOf i).toNat)
  case atStart => exact ⟨0, by omega, rfl, rfl, rfl, World.ownsRow_nil _ _ _ _, World.ownsRow_nil _ _ _ _, Apart.nil _, Below.refl _ _⟩
  case round =>
    obtain ⟨c, hc, rfl, rfl, rfl, hown1, hown2, hap, hb⟩ := hrel
    have hsz : w.heap.size ≤ wr.heap.size := hb.size
    by_cases hlk : c < n
    · obtain ⟨x, hkx⟩ := get_lt s c (by rw [← Hn.out]; exact hlk)
      obtain ⟨bb, oo, hix, hbb, hce⟩ := (Hrd.out.kept hb).at (P := Try.prog) (T := 24) n cap uslice sone hkx hlk
      obtain ⟨x1, x2⟩ := HJ.out.at hkx
      obtain ⟨⟨l1, l2⟩, b1, b2⟩ := er_in s k mode 0 HP.out c
      have hsv : suI s k mode 0 c = x := by unfold suI; rw [at0_of hkx, bkI_0]; exact Int.add_zero _
      have hys : shI s k mode 0 c = shiftI (x) k mode := by unfold shI; rw [hsv]
      have hes := erL_succ s k mode 0 c
      have hbs := erB_succ s k mode 0 c
      have hrs := rest_in (x) k mode
      rw [hsv, hys] at hes
      have hst1 := tab_step c (shI s k mode 0)
      have hst2 : tab (c + 1) (fun i => erL s k mode 0 (i + 1)) = tab c (fun i => erL s k mode 0 (i + 1)) ++ [erL s k mode 0 (c + 1)] := tab_step c (fun i => erL s k mode 0 (i + 1))
      rw [hys] at hst1
      rw [hes] at hst2
      generalize hla : erL s k mode 0 c = la at *
      generalize hbe : erB s k mode 0 c = be at *
      generalize hy : shiftI (x) k mode = y at *
      obtain ⟨q, hq⟩ : ∃ q, q = y * 2 ^ k := ⟨_, rfl⟩
      rw [← hq] at hes hst2 hrs
      have hp1 := HP.out
      have hw1 : wrap64 (y * 2 ^ k) = q := by rw [← hq]; exact IntWalk.wrap64_in _ (by omega)
      have hw2 : wrap64 (y * 2 ^ min k 64) = q := by rw [Nat.min_eq_left (by omega)]; exact hw1
      obtain ⟨q1, q2⟩ : -200000 ≤ q ∧ q ≤ 200000 := by omega
      generalize hys1 : tab c (shI s k mode 0) = ys at hst1 hown1
      generalize hzs1 : tab c (fun i => erL s k mode 0 (i + 1)) = zs at hst2 hown2
      have Hob1 := hid (ownsRow_base hown1)
      have Hob2 := hid (ownsRow_base hown2)
      have Hes := hid hes
      have Hbs := hid hbs
      have Hst1 := hid hst1
      have Hst2 := hid hst2
      have Hown1 := hid hown1
      have Hown2 := hid hown2
      have Hap := hid hap
      have Hy := hid hy
      have Hkx := hid hkx
      clear hkx hes hbs hst1 hst2 hown1 hown2 hap hy hys1 hzs1 hla hbe hys hsv hq hrs hp1
      go_wp2_with fail
      refine (wdShift_any (x) k mode _ (by omega) (by omega) (by omega) HM.out).mono ?_
      rintro e w' ⟨rfl, rfl⟩
      rw [Hy.out]
      go_wp2_with (at_builtin; refine wpList_append_own2 _ rfl _ _ 24 rfl w.heap.size 3 i0 (.int .i64 0) 1 8 uslice hi0 hz0 hz1 hz2 rfl (by decide) _ _ _ rfl (Hown1.out.alloc _) ⟨wr.heap.size, 0, none⟩ 1 1 [.int .i64 (y)] rfl rfl ?c1 ?c2 ?c3 ?c4 ?c5 ?_)
      case c1 => exact cell_one_new _ _ _
      case c2 => intro u hu; simp at hu; subst hu; rfl
      case c3 => unfold maxLen; omega
      case c4 => omega
      case c5 => simp; omega
      intro v' w3 hown3 hgrow hnew
      have hb3 : Below w.heap.size w w3 := (hb.alloc hsz _).grown hgrow (by simp; omega) (fun j hj => Hob1.out j hj)
      have hsz3 := hb3.size
      have hu3 := owns_other (Hown2.out.alloc _) hgrow Hap.out
      have hap3 := Apart.grown Hap.out hnew (fun j hj => by have := (Hown2.out.lt j hj).2; omega)
      have Hown3 := hid hown3
      have Hu3 := hid hu3
      have Hap3 := hid hap3
      clear hown3 hgrow hnew hu3 hap3
      go_wp2_with (at_builtin; refine wpList_append_own2 _ rfl _ _ 24 rfl w.heap.size 3 i0 (.int .i64 0) 1 8 uslice hi0 hz0 hz1 hz2 rfl (by decide) _ _ _ rfl (Hu3.out.alloc _) ⟨w3.heap.size, 0, none⟩ 1 1 [.int .i64 (x - q)] rfl rfl ?c1 ?c2 ?c3 ?c4 ?c5 ?_)
      case c1 => exact cell_one_new _ _ _
      case c2 => intro u hu; simp at hu; subst hu; rfl
      case c3 => unfold maxLen; omega
      case c4 => omega
      case c5 => simp; omega
      intro u' w4 hown4 hgrow hnew
      have hb4 : Below w.heap.size w w4 := (hb3.alloc hsz3 _).grown hgrow (by simp; omega) (fun j hj => Hob2.out j hj)
      have hv4 := owns_other (Hown3.out.alloc _) hgrow Hap3.out.symm
      have hap4 := (Apart.grown Hap3.out.symm hnew (fun j hj => by have := (Hown3.out.lt j hj).2; omega)).symm
      have Hown4 := hid hown4
      have Hv4 := hid hv4
      have Hap4 := hid hap4
      clear hown4 hgrow hnew hv4 hap4
      go_wp2
      go_roundw
      case rel => exact ⟨c + 1, by omega, by rw [Hes.out], by rw [Hbs.out], by go_num, by rw [Hst1.out, List.map_append]; exact Hv4.out, by rw [Hst2.out, List.map_append]; exact Hown4.out, Hap4.out, hb4⟩
      case measure => simp [intOf]; omega
    · have hge : (n : Int) ≤ (c : Int) := by omega
      have hkn : c = s.length := by rw [← Hn.out]; omega
      have Hk := hid hkn
      have Hown1 := hid hown1
      have Hown2 := hid hown2
      clear hkn hlk hown1 hown2 hap
      go_wp2
      go_ret2
      have ho1 := Hown1.out
      have ho2 := Hown2.out
      rw [Hk.out] at ho1 ho2
      exact ⟨_, _, rfl, Res.owns (by rw [shL, tab_len]; exact ho1), Res.owns (by rw [seL, tab_len]; exact ho2), hb⟩


set_option maxHeartbeats 4000000 in
theorem dmShape_1 (v : Value) (s : List Int) (k : Nat) (mode : Int) (w : World) (hs : Sl w v s) (hl : s.length ≤ 64) (hi : InP (-100000) 100000 s) (hk : k ≤ 10) (hm : mode = 0 ∨ mode = 1 ∨ mode = 2) :
    Calls Try.prog 20 #[v, .int .i64 (k : Int), .int .i64 mode, .int .i64 1] w (Gives2 w (shL s k mode 1) (seL s k mode 1)) := by
  obtain ⟨aa, n, cap, rfl, hn, hrd⟩ := id hs.rd
  have Hn := hid hn
  have Hrd := hid hrd
  have HJ := hid hi
  have HM := hid hm
  have HP := hid (pow10 k hk).2
  have hl' : n ≤ 64 := by omega
  obtain ⟨i0, hi0, hz0, hz1, hz2⟩ := info_parts iint
  clear hs hn hrd hi hl hm
  go_enter Try.func20, Try.ntmps20
  go_wp2_with fail
  go_loopw [10, 11, 12, 13, 20] (fun v u la be i wr => ∃ c : Nat, c ≤ n ∧ la = .int .i64 (erL s k mode 1 c) ∧ be = .int .i64 (erB s k mode 1 c) ∧ i = .int .i64 c ∧ wr.ownsRow w.heap.size 3 1 v c ((tab c (shI s k mode 1)).map (Value.int .i64)) ∧ wr.ownsRow w.heap.size 3 1 u c ((tab c (fun i => erL s k mode 1 (i + 1))).map (Value.int .i64)) ∧ Apart v u ∧ Below w.heap.size w wr)
    (fun _ _ _ _ i _ => n - (intOf i).toNat)
  case atStart => exact ⟨0, by omega, rfl, rfl, rfl, World.ownsRow_nil _ _ _ _, World.ownsRow_nil _ _ _ _, Apart.nil _, Below.refl _ _⟩
  case round =>
    obtain ⟨c, hc, rfl, rfl, rfl, hown1, hown2, hap, hb⟩ := hrel
    have hsz : w.heap.size ≤ wr.heap.size := hb.size
    by_cases hlk : c < n
    · obtain ⟨x, hkx⟩ := get_lt s c (by rw [← Hn.out]; exact hlk)
      obtain ⟨bb, oo, hix, hbb, hce⟩ := (Hrd.out.kept hb).at (P := Try.prog) (T := 24) n cap uslice sone hkx hlk
      obtain ⟨x1, x2⟩ := HJ.out.at hkx
      obtain ⟨⟨l1, l2⟩, b1, b2⟩ := er_in s k mode 1 HP.out c
      have hsv : suI s k mode 1 c = x + erL s k mode 1 c := by unfold suI; rw [at0_of hkx, bkI_1]
      have hys : shI s k mode 1 c = shiftI (x + erL s k mode 1 c) k mode := by unfold shI; rw [hsv]
      have hes := erL_succ s k mode 1 c
      have hbs := erB_succ s k mode 1 c
      have hrs := rest_in (x + erL s k mode 1 c) k mode
      rw [hsv, hys] at hes
      have hst1 := tab_step c (shI s k mode 1)
      have hst2 : tab (c + 1) (fun i => erL s k mode 1 (i + 1)) = tab c (fun i => erL s k mode 1 (i + 1)) ++ [erL s k mode 1 (c + 1)] := tab_step c (fun i => erL s k mode 1 (i + 1))
      rw [hys] at hst1
      rw [hes] at hst2
      generalize hla : erL s k mode 1 c = la at *
      generalize hbe : erB s k mode 1 c = be at *
      generalize hy : shiftI (x + la) k mode = y at *
      obtain ⟨q, hq⟩ : ∃ q, q = y * 2 ^ k := ⟨_, rfl⟩
      rw [← hq] at hes hst2 hrs
      have hp1 := HP.out
      have hw1 : wrap64 (y * 2 ^ k) = q := by rw [← hq]; exact IntWalk.wrap64_in _ (by omega)
      have hw2 : wrap64 (y * 2 ^ min k 64) = q := by rw [Nat.min_eq_left (by omega)]; exact hw1
      obtain ⟨q1, q2⟩ : -200000 ≤ q ∧ q ≤ 200000 := by omega
      generalize hys1 : tab c (shI s k mode 1) = ys at hst1 hown1
      generalize hzs1 : tab c (fun i => erL s k mode 1 (i + 1)) = zs at hst2 hown2
      have Hob1 := hid (ownsRow_base hown1)
      have Hob2 := hid (ownsRow_base hown2)
      have Hes := hid hes
      have Hbs := hid hbs
      have Hst1 := hid hst1
      have Hst2 := hid hst2
      have Hown1 := hid hown1
      have Hown2 := hid hown2
      have Hap := hid hap
      have Hy := hid hy
      have Hkx := hid hkx
      clear hkx hes hbs hst1 hst2 hown1 hown2 hap hy hys1 hzs1 hla hbe hys hsv hq hrs hp1
      go_wp2_with fail
      refine (wdShift_any (x + la) k mode _ (by omega) (by omega) (by omega) HM.out).mono ?_
      rintro e w' ⟨rfl, rfl⟩
      rw [Hy.out]
      go_wp2_with (at_builtin; refine wpList_append_own2 _ rfl _ _ 24 rfl w.heap.size 3 i0 (.int .i64 0) 1 8 uslice hi0 hz0 hz1 hz2 rfl (by decide) _ _ _ rfl (Hown1.out.alloc _) ⟨wr.heap.size, 0, none⟩ 1 1 [.int .i64 (y)] rfl rfl ?c1 ?c2 ?c3 ?c4 ?c5 ?_)
      case c1 => exact cell_one_new _ _ _
      case c2 => intro u hu; simp at hu; subst hu; rfl
      case c3 => unfold maxLen; omega
      case c4 => omega
      case c5 => simp; omega
      intro v' w3 hown3 hgrow hnew
      have hb3 : Below w.heap.size w w3 := (hb.alloc hsz _).grown hgrow (by simp; omega) (fun j hj => Hob1.out j hj)
      have hsz3 := hb3.size
      have hu3 := owns_other (Hown2.out.alloc _) hgrow Hap.out
      have hap3 := Apart.grown Hap.out hnew (fun j hj => by have := (Hown2.out.lt j hj).2; omega)
      have Hown3 := hid hown3
      have Hu3 := hid hu3
      have Hap3 := hid hap3
      clear hown3 hgrow hnew hu3 hap3
      go_wp2_with (at_builtin; refine wpList_append_own2 _ rfl _ _ 24 rfl w.heap.size 3 i0 (.int .i64 0) 1 8 uslice hi0 hz0 hz1 hz2 rfl (by decide) _ _ _ rfl (Hu3.out.alloc _) ⟨w3.heap.size, 0, none⟩ 1 1 [.int .i64 (x + la - q)] rfl rfl ?c1 ?c2 ?c3 ?c4 ?c5 ?_)
      case c1 => exact cell_one_new _ _ _
      case c2 => intro u hu; simp at hu; subst hu; rfl
      case c3 => unfold maxLen; omega
      case c4 => omega
      case c5 => simp; omega
      intro u' w4 hown4 hgrow hnew
      have hb4 : Below w.heap.size w w4 := (hb3.alloc hsz3 _).grown hgrow (by simp; omega) (fun j hj => Hob2.out j hj)
      have hv4 := owns_other (Hown3.out.alloc _) hgrow Hap3.out.symm
      have hap4 := (Apart.grown Hap3.out.symm hnew (fun j hj => by have := (Hown3.out.lt j hj).2; omega)).symm
      have Hown4 := hid hown4
      have Hv4 := hid hv4
      have Hap4 := hid hap4
      clear hown4 hgrow hnew hv4 hap4
      go_wp2
      go_roundw
      case rel => exact ⟨c + 1, by omega, by rw [Hes.out], by rw [Hbs.out], by go_num, by rw [Hst1.out, List.map_append]; exact Hv4.out, by rw [Hst2.out, List.map_append]; exact Hown4.out, Hap4.out, hb4⟩
      case measure => simp [intOf]; omega
    · have hge : (n : Int) ≤ (c : Int) := by omega
      have hkn : c = s.length := by rw [← Hn.out]; omega
      have Hk := hid hkn
      have Hown1 := hid hown1
      have Hown2 := hid hown2
      clear hkn hlk hown1 hown2 hap
      go_wp2
      go_ret2
      have ho1 := Hown1.out
      have ho2 := Hown2.out
      rw [Hk.out] at ho1 ho2
      exact ⟨_, _, rfl, Res.owns (by rw [shL, tab_len]; exact ho1), Res.owns (by rw [seL, tab_len]; exact ho2), hb⟩


set_option maxHeartbeats 4000000 in
theorem dmShape_2 (v : Value) (s : List Int) (k : Nat) (mode : Int) (w : World) (hs : Sl w v s) (hl : s.length ≤ 64) (hi : InP (-100000) 100000 s) (hk : k ≤ 10) (hm : mode = 0 ∨ mode = 1 ∨ mode = 2) :
    Calls Try.prog 20 #[v, .int .i64 (k : Int), .int .i64 mode, .int .i64 2] w (Gives2 w (shL s k mode 2) (seL s k mode 2)) := by
  obtain ⟨aa, n, cap, rfl, hn, hrd⟩ := id hs.rd
  have Hn := hid hn
  have Hrd := hid hrd
  have HJ := hid hi
  have HM := hid hm
  have HP := hid (pow10 k hk).2
  have hl' : n ≤ 64 := by omega
  obtain ⟨i0, hi0, hz0, hz1, hz2⟩ := info_parts iint
  clear hs hn hrd hi hl hm
  go_enter Try.func20, Try.ntmps20
  go_wp2_with fail
  go_loopw [10, 11, 12, 13, 20] (fun v u la be i wr => ∃ c : Nat, c ≤ n ∧ la = .int .i64 (erL s k mode 2 c) ∧ be = .int .i64 (erB s k mode 2 c) ∧ i = .int .i64 c ∧ wr.ownsRow w.heap.size 3 1 v c ((tab c (shI s k mode 2)).map (Value.int .i64)) ∧ wr.ownsRow w.heap.size 3 1 u c ((tab c (fun i => erL s k mode 2 (i + 1))).map (Value.int .i64)) ∧ Apart v u ∧ Below w.heap.size w wr)
    (fun _ _ _ _ i _ => n - (intOf i).toNat)
  case atStart => exact ⟨0, by omega, rfl, rfl, rfl, World.ownsRow_nil _ _ _ _, World.ownsRow_nil _ _ _ _, Apart.nil _, Below.refl _ _⟩
  case round =>
    obtain ⟨c, hc, rfl, rfl, rfl, hown1, hown2, hap, hb⟩ := hrel
    have hsz : w.heap.size ≤ wr.heap.size := hb.size
    by_cases hlk : c < n
    · obtain ⟨x, hkx⟩ := get_lt s c (by rw [← Hn.out]; exact hlk)
      obtain ⟨bb, oo, hix, hbb, hce⟩ := (Hrd.out.kept hb).at (P := Try.prog) (T := 24) n cap uslice sone hkx hlk
      obtain ⟨x1, x2⟩ := HJ.out.at hkx
      obtain ⟨⟨l1, l2⟩, b1, b2⟩ := er_in s k mode 2 HP.out c
      have hsv : suI s k mode 2 c = x + (2 * erL s k mode 2 c - erB s k mode 2 c) := by unfold suI; rw [at0_of hkx, bkI_2]
      have hys : shI s k mode 2 c = shiftI (x + (2 * erL s k mode 2 c - erB s k mode 2 c)) k mode := by unfold shI; rw [hsv]
      have hes := erL_succ s k mode 2 c
      have hbs := erB_succ s k mode 2 c
      have hrs := rest_in (x + (2 * erL s k mode 2 c - erB s k mode 2 c)) k mode
      rw [hsv, hys] at hes
      have hst1 := tab_step c (shI s k mode 2)
      have hst2 : tab (c + 1) (fun i => erL s k mode 2 (i + 1)) = tab c (fun i => erL s k mode 2 (i + 1)) ++ [erL s k mode 2 (c + 1)] := tab_step c (fun i => erL s k mode 2 (i + 1))
      rw [hys] at hst1
      rw [hes] at hst2
      generalize hla : erL s k mode 2 c = la at *
      generalize hbe : erB s k mode 2 c = be at *
      generalize hy : shiftI (x + (2 * la - be)) k mode = y at *
      obtain ⟨q, hq⟩ : ∃ q, q = y * 2 ^ k := ⟨_, rfl⟩
      rw [← hq] at hes hst2 hrs
      have hp1 := HP.out
      have hw1 : wrap64 (y * 2 ^ k) = q := by rw [← hq]; exact IntWalk.wrap64_in _ (by omega)
      have hw2 : wrap64 (y * 2 ^ min k 64) = q := by rw [Nat.min_eq_left (by omega)]; exact hw1
      obtain ⟨q1, q2⟩ : -200000 ≤ q ∧ q ≤ 200000 := by omega
      generalize hys1 : tab c (shI s k mode 2) = ys at hst1 hown1
      generalize hzs1 : tab c (fun i => erL s k mode 2 (i + 1)) = zs at hst2 hown2
      have Hob1 := hid (ownsRow_base hown1)
      have Hob2 := hid (ownsRow_base hown2)
      have Hes := hid hes
      have Hbs := hid hbs
      have Hst1 := hid hst1
      have Hst2 := hid hst2
      have Hown1 := hid hown1
      have Hown2 := hid hown2
      have Hap := hid hap
      have Hy := hid hy
      have Hkx := hid hkx
      clear hkx hes hbs hst1 hst2 hown1 hown2 hap hy hys1 hzs1 hla hbe hys hsv hq hrs hp1
      go_wp2_with fail
      refine (wdShift_any (x + (2 * la - be)) k mode _ (by omega) (by omega) (by omega) HM.out).mono ?_
      rintro e w' ⟨rfl, rfl⟩
      rw [Hy.out]
      go_wp2_with (at_builtin; refine wpList_append_own2 _ rfl _ _ 24 rfl w.heap.size 3 i0 (.int .i64 0) 1 8 uslice hi0 hz0 hz1 hz2 rfl (by decide) _ _ _ rfl (Hown1.out.alloc _) ⟨wr.heap.size, 0, none⟩ 1 1 [.int .i64 (y)] rfl rfl ?c1 ?c2 ?c3 ?c4 ?c5 ?_)
      case c1 => exact cell_one_new _ _ _
      case c2 => intro u hu; simp at hu; subst hu; rfl
      case c3 => unfold maxLen; omega
      case c4 => omega
      case c5 => simp; omega
      intro v' w3 hown3 hgrow hnew
      have hb3 : Below w.heap.size w w3 := (hb.alloc hsz _).grown hgrow (by simp; omega) (fun j hj => Hob1.out j hj)
      have hsz3 := hb3.size
      have hu3 := owns_other (Hown2.out.alloc _) hgrow Hap.out
      have hap3 := Apart.grown Hap.out hnew (fun j hj => by have := (Hown2.out.lt j hj).2; omega)
      have Hown3 := hid hown3
      have Hu3 := hid hu3
      have Hap3 := hid hap3
      clear hown3 hgrow hnew hu3 hap3
      go_wp2_with (at_builtin; refine wpList_append_own2 _ rfl _ _ 24 rfl w.heap.size 3 i0 (.int .i64 0) 1 8 uslice hi0 hz0 hz1 hz2 rfl (by decide) _ _ _ rfl (Hu3.out.alloc _) ⟨w3.heap.size, 0, none⟩ 1 1 [.int .i64 (x + (2 * la - be) - q)] rfl rfl ?c1 ?c2 ?c3 ?c4 ?c5 ?_)
      case c1 => exact cell_one_new _ _ _
      case c2 => intro u hu; simp at hu; subst hu; rfl
      case c3 => unfold maxLen; omega
      case c4 => omega
      case c5 => simp; omega
      intro u' w4 hown4 hgrow hnew
      have hb4 : Below w.heap.size w w4 := (hb3.alloc hsz3 _).grown hgrow (by simp; omega) (fun j hj => Hob2.out j hj)
      have hv4 := owns_other (Hown3.out.alloc _) hgrow Hap3.out.symm
      have hap4 := (Apart.grown Hap3.out.symm hnew (fun j hj => by have := (Hown3.out.lt j hj).2; omega)).symm
      have Hown4 := hid hown4
      have Hv4 := hid hv4
      have Hap4 := hid hap4
      clear hown4 hgrow hnew hv4 hap4
      go_wp2
      go_roundw
      case rel => exact ⟨c + 1, by omega, by rw [Hes.out], by rw [Hbs.out], by go_num, by rw [Hst1.out, List.map_append]; exact Hv4.out, by rw [Hst2.out, List.map_append]; exact Hown4.out, Hap4.out, hb4⟩
      case measure => simp [intOf]; omega
    · have hge : (n : Int) ≤ (c : Int) := by omega
      have hkn : c = s.length := by rw [← Hn.out]; omega
      have Hk := hid hkn
      have Hown1 := hid hown1
      have Hown2 := hid hown2
      clear hkn hlk hown1 hown2 hap
      go_wp2
      go_ret2
      have ho1 := Hown1.out
      have ho2 := Hown2.out
      rw [Hk.out] at ho1 ho2
      exact ⟨_, _, rfl, Res.owns (by rw [shL, tab_len]; exact ho1), Res.owns (by rw [seL, tab_len]; exact ho2), hb⟩


theorem dmShape_any (v : Value) (s : List Int) (k : Nat) (mode order : Int) (w : World) (hs : Sl w v s) (hl : s.length ≤ 64) (hi : InP (-100000) 100000 s) (hk : k ≤ 10) (hm : mode = 0 ∨ mode = 1 ∨ mode = 2) (ho : 0 ≤ order ∧ order ≤ 2) :
    Calls Try.prog 20 #[v, .int .i64 (k : Int), .int .i64 mode, .int .i64 order] w (Gives2 w (shL s k mode order) (seL s k mode order)) := by
  obtain rfl | rfl | rfl : order = 0 ∨ order = 1 ∨ order = 2 := by omega
  · exact dmShape_0 v s k mode w hs hl hi hk hm
  · exact dmShape_1 v s k mode w hs hl hi hk hm
  · exact dmShape_2 v s k mode w hs hl hi hk hm

end Go.Proofs.Ythgdpmhpieakhaa
