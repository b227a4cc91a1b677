
import Derived.Test.YtnagpfkchkdiiaaUm
import Derived.Deep.CutRange
import Derived.Deep.Cut
import Derived.Deep.RegionLaw
namespace Go.Proofs.Ytnagpfkchkdiiaa
open Go.RowKit BitX Go.MemX Go.Ch6 Go.Ch8
set_option linter.unusedVariables false
theorem step_append_own2 {P : Program} {ops : Array Oper} {o : Oper} {a : Act} {w : World} {K : Act → World → Prop} {Q : Exit → Act → World → Prop} {E : Prop} (hgd : o.guard = none) (s x : Operand) (t : TypeId)
    (ho : o.op = .call { callee := .builtin .append, args := #[s, x], argTypes := #[t, t] })
    (base : Nat) (e : TypeId) (i : TypeInfo) (z : Value) (size bytes : Nat) (ht : P.underlying t = some (.slice e)) (hi : P.info? e = some i) (hz : i.zero = some z)
    (hsize : i.size = size) (hby : i.bytes = bytes) (hzs : z.cells.size = size) (hsz : 0 < size)
    (v : Value) (n : Nat) (xs : List Value) (hs : a.eval s = v) (hown : w.ownsRow base e size v n xs)
    (ad : Addr) (m c : Nat) (news : List Value) (hx : a.eval x = .slice (some ad) m c) (hl : news.length = m * size) (hnews : ∀ j u, news[j]? = some u → w.cell? (ad.add j) = some u) (h1 : ∀ u ∈ news, u.oneCell' = true)
    (h63 : n + m ≤ maxLen) (hbytes : (n + m) * bytes ≤ 140737488355328) (hbase : base ≤ w.heap.size)
    (h : ∀ v' w', w'.ownsRow base e size v' (n + m) (xs ++ news) → w.grownBy w' v.ownBlock → (∀ k, v'.ownBlock = some k → v.ownBlock = some k ∨ w.heap.size ≤ k) → K (a.put o.dst v') w') :
    if Region.wanted o (yielded ops a.tmps) = true then Oper.wp P o a w K Q else E := by
  rw [if_pos (by simp [Region.wanted, hgd])]
  obtain ⟨v', w', hr, h2, h3, h4⟩ := run_append_own2 (P := P) w base t o.type e i z size bytes ht hi hz hsize hby hzs hsz v n xs hown ad m c news hl hnews h1 h63 hbytes hbase
  unfold Oper.wp execOp
  simp only [ho, resolve, invoke, builtin, Sem.run_bind, Sem.run_pure, Result.andThen_ok, List.map_toArray, List.map_cons, List.map_nil, hs, hx, hr]
  exact h v' w' h2 h3 h4


theorem owns_lt {w : World} {B : Nat} {E : TypeId} {sz n : Nat} {v : Value} {xs : List Value} (h : w.ownsRow B E sz v n xs) {k : Nat} (hk : v.ownBlock = some k) : k < w.heap.size := by
  rcases h.2 with ⟨rfl, _⟩ | ⟨g, cap, cur, rfl, _, hh, _⟩
  · cases hk
  · cases hk; exact lt_of_block hh


set_option maxHeartbeats 2000000 in
theorem spec_TwoBands_any (v : Value) (s : List Int) (w : World) (hs : Sl w v s) :
    Calls Try.prog 5 #[v] w (GivesLL w (onL (tbO s) (tlL s)) (onL (tbO s) (thL s)) (tbO s)) := by
  have HS := hid hs
  clear hs
  obtain ⟨a, n, cap, rfl, hx1, hx2⟩ := HS.out.rd
  have Hn := hid hx1
  clear hx1 hx2
  cases h0 : sigB s
  · have HB0 := hid h0
    clear h0
    go_enter Try.func5, Try.ntmps5
    go_wp2_with fail
    refine (wdSignal_is _ s false _ HS.out HB0.out).mono ?_
    rintro e w' ⟨rfl, rfl⟩
    go_wp2_with fail
    go_ret3
    exact givesLL_no (tb_n1 HB0.out) (Below.refl _ _)
  · have HB0 := hid h0
    clear h0
    cases h1 : decide (s.length % 2 = 0)
    · have HB1 := hid h1
      clear h1
      have hev : (n : Int) % 2 = 1 := by rw [Hn.out]; have := of_decide_eq_false HB1.out; omega
      go_enter Try.func5, Try.ntmps5
      go_wp2_with fail
      refine (wdSignal_is _ s true _ HS.out HB0.out).mono ?_
      rintro e w' ⟨rfl, rfl⟩
      go_wp2_with fail
      go_ret3
      exact givesLL_no (tb_n2 HB1.out) (Below.refl _ _)
    · have HB1 := hid h1
      clear h1
      have hev : (n : Int) % 2 = 0 := by rw [Hn.out]; have := of_decide_eq_true HB1.out; omega
      have hn64 : n ≤ 64 := by rw [Hn.out]; exact (sigB_t HB0.out).1
      have HEv := hid (of_decide_eq_true HB1.out)
      obtain ⟨q1, q2, q3, hq, hx4, hr1⟩ := HS.out.rd
      cases hq
      have Hr := hid hr1
      clear hx4 hr1
      obtain ⟨n2, hn2⟩ : ∃ m, m = n / 2 := ⟨_, rfl⟩
      have hnn : n = 2 * n2 := by have := HEv.out; have := Hn.out; omega
      have hn32 : n2 ≤ 32 := by omega
      have Hnn := hid hnn
      have Hn2 := hid hn2
      have hni : (n : Int) = 2 * (n2 : Int) := by omega
      have Hni := hid hni
      clear hnn hn2 hni
      obtain ⟨i0, hi0, hz0, hz1, hz2⟩ := info_parts iint
      go_enter Try.func5, Try.ntmps5
      go_wp2_with fail
      refine (wdSignal_is _ s true _ HS.out HB0.out).mono ?_
      rintro e w' ⟨rfl, rfl⟩
      go_wp2_with fail
      clear hev
      go_loopw [5, 6, 7] (fun u v i wr => ∃ k : Nat, k ≤ n2 ∧ i = .int .i64 (2 * (k : Int)) ∧ wr.ownsRow w.heap.size 3 1 u k ((tab k (tlF s)).map (Value.int .i64)) ∧ wr.ownsRow w.heap.size 3 1 v k ((tab k (thF s)).map (Value.int .i64)) ∧ Apart u v ∧ Below w.heap.size w wr)
        (fun _ _ i _ => n + 1 - (intOf i).toNat)
      case atStart => exact ⟨0, by omega, rfl, World.ownsRow_nil _ _ _ _, World.ownsRow_nil _ _ _ _, Apart.nil _, Below.refl _ _⟩
      case round =>
        obtain ⟨k, hk, rfl, hou, hov, hap, hb⟩ := hrel
        have hsz : w.heap.size ≤ wr.heap.size := hb.size
        by_cases hlk : k < n2
        · have hk0 : 2 * k < n := by have := Hnn.out; omega
          have hk1 : 2 * k + 1 < n := by have := Hnn.out; omega
          obtain ⟨x, hkx⟩ := get_lt s (2 * k) (by rw [← Hn.out]; exact hk0)
          obtain ⟨y, hky⟩ := get_lt s (2 * k + 1) (by rw [← Hn.out]; exact hk1)
          obtain ⟨bb, oo, hix, hbb, hce⟩ := (Hr.out.kept hb).at (P := Try.prog) (T := 22) n cap uslice sone hkx hk0
          obtain ⟨b3, o3, hix2, hbb2, hce2⟩ := (Hr.out.kept hb).at (P := Try.prog) (T := 22) n cap uslice sone hky hk1
          obtain ⟨x1, x2⟩ := (sigB_t HB0.out).2.at hkx
          obtain ⟨y1, y2⟩ := (sigB_t HB0.out).2.at hky
          have hst1 := tab_step k (tlF s)
          have hst2 := tab_step k (thF s)
          rw [show tlF s k = (x + y) / 2 from by unfold tlF; rw [at0_of hkx, at0_of hky]] at hst1
          rw [show thF s k = x - y from by unfold thF; rw [at0_of hkx, at0_of hky]] at hst2
          have hc1 : ((2 * k : Nat) : Int) = 2 * (k : Int) := by omega
          have hc2 : ((2 * k + 1 : Nat) : Int) = 2 * (k : Int) + 1 := by omega
          rw [hc1] at hix
          rw [hc2] at hix2
          generalize hys : tab k (tlF s) = us at hst1 hou
          generalize hzs : tab k (thF s) = vs at hst2 hov
          have Hob1 := hid (ownsRow_base hou)
          have Hob2 := hid (ownsRow_base hov)
          have Hst1 := hid hst1
          have Hst2 := hid hst2
          have Hou := hid hou
          have Hov := hid hov
          have Hap := hid hap
          have Hkx := hid hkx
          have Hky := hid hky
          have y3 : -1000000000000 ≤ x + y := by omega
          have y4 : x + y ≤ 1000000000000 := by omega
          have f1 : 2 * (k : Int) < (n : Int) := by rw [Hni.out]; omega
          have e1 : ∀ [Inhabited Unit], IntKind.i64.wrap (2 * (k : Int) + 1) = 2 * (k : Int) + 1 := IntWalk.i64_in _ (by omega)
          have e2 : ∀ [Inhabited Unit], IntKind.i64.wrap (x + y) = x + y := IntWalk.i64_in _ (by omega)
          have e3 : ∀ [Inhabited Unit], IntKind.i64.wrap (x - y) = x - y := IntWalk.i64_in _ (by omega)
          have Hc := hid (And.intro hc1 hc2)
          clear hst1 hst2 hou hov hys hzs hkx hky hap hc1 hc2
          go_wp2_with fail
          go_region_law (first | (refine step_append_own2 rfl _ _ 22 rfl w.heap.size 3 i0 (.int .i64 0) 1 8 uslice hi0 hz0 hz1 hz2 rfl (by decide) _ k _ rfl ((ownsRow_below Hou.out (Below.refl _ _).drew).alloc _) ⟨wr.heap.size, 0, none⟩ 1 1 [.int .i64 ((x + y) / 2)] rfl rfl (cell_one_new _ _ _) (by intro u hu; simp at hu; subst hu; rfl) (by unfold maxLen; omega) (by omega) (by simp; omega) ?_; intro av aw aown agrow anew; have hb3 : Below w.heap.size w aw := (hb.drew.alloc hsz _).grown agrow (by simp; omega) (fun j hj => Hob1.out j hj); have hov3 := hid (owns_other ((ownsRow_below Hov.out (Below.refl _ _).drew).alloc _) agrow Hap.out); have hap3 := hid (Hap.out.grown anew (fun k hk => by have := owns_lt Hov.out hk; simp; omega)); have Hou3 := hid aown; clear aown agrow anew) | (go_simp; go_at_call 14; refine (wdShift_1 (x + y) _ y3 y4).mono ?_; rintro e w' ⟨rfl, rfl⟩))
          all_goals go_wp2_with fail
          all_goals
            clear hix hix2 hbb hbb2 hce hce2
            obtain ⟨bb, oo, hix, hbb, hce⟩ := (Hr.out.kept hb3).at (P := Try.prog) (T := 22) n cap uslice sone Hkx.out hk0
            obtain ⟨b3, o3, hix2, hbb2, hce2⟩ := (Hr.out.kept hb3).at (P := Try.prog) (T := 22) n cap uslice sone Hky.out hk1
            rw [Hc.out.1] at hix
            rw [Hc.out.2] at hix2
            have hsz3 : w.heap.size ≤ aw.heap.size := hb3.size
            go_region_law (first | (refine step_append_own2 rfl _ _ 22 rfl w.heap.size 3 i0 (.int .i64 0) 1 8 uslice hi0 hz0 hz1 hz2 rfl (by decide) _ k _ rfl ((ownsRow_below hov3.out (Below.refl _ _).drew).alloc _) ⟨aw.heap.size, 0, none⟩ 1 1 [.int .i64 (x - y)] rfl rfl (cell_one_new _ _ _) (by intro u hu; simp at hu; subst hu; rfl) (by unfold maxLen; omega) (by omega) (by simp; omega) ?_; intro cv cw cown cgrow cnew; have hb5 : Below w.heap.size w cw := (hb3.drew.alloc hsz3 _).grown cgrow (by simp; omega) (fun j hj => Hob2.out j hj); have hou5 := hid (owns_other ((ownsRow_below Hou3.out (Below.refl _ _).drew).alloc _) cgrow hap3.out.symm); have hap5 := hid (hap3.out.symm.grown cnew (fun k hk => by have := owns_lt Hou3.out hk; simp; omega)).symm; have Hov5 := hid cown; clear cown cgrow cnew))
            all_goals go_wp2
            all_goals go_roundw
            all_goals first
              | exact ⟨k + 1, by omega, by first | go_num | (congr 1; omega), by rw [Hst1.out, List.map_append]; exact hou5.out, by rw [Hst2.out, List.map_append]; exact Hov5.out, hap5.out, hb5⟩
              | (simp [intOf]; omega)
        · have hge : (n : Int) ≤ 2 * (k : Int) := by rw [Hni.out]; omega
          have hkn : k = n2 := by omega
          have Hk := hid (hkn.trans Hn2.out)
          have Hou := hid hou
          have Hov := hid hov
          have Hap := hid hap
          clear hkn hlk hou hov hap
          have h1 := Hou.out
          have h2 := Hov.out
          rw [Hk.out, Hn.out] at h1 h2
          have R1 : Res 3 w.heap.size wr _ (tlL s) := Res.owns (by unfold tlL; rw [tab_len]; exact h1)
          have R2 : Res 3 w.heap.size wr _ (thL s) := Res.owns (by unfold thL; rw [tab_len]; exact h2)
          have HR1 := hid R1
          have HR2 := hid R2
          clear R1 R2 h1 h2
          cases hq : sigB (thL s)
          · have HQ := hid hq
            clear hq
            go_wp2_with fail
            refine (wdSignal_is _ (thL s) false _ HR2.out.sl HQ.out).mono ?_
            rintro e w' ⟨rfl, rfl⟩
            go_wp2_with fail
            go_ret3
            exact givesLL_no (tb_n3 HQ.out) hb
          · have HQ := hid hq
            clear hq
            go_wp2_with fail
            refine (wdSignal_is _ (thL s) true _ HR2.out.sl HQ.out).mono ?_
            rintro e w' ⟨rfl, rfl⟩
            go_wp2_with fail
            go_ret3
            exact givesLL_yes (tb_y HB0.out HB1.out HQ.out) HR1.out HR2.out Hap.out hb

end Go.Proofs.Ytnagpfkchkdiiaa
