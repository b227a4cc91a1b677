
import Derived.Test.YtbhlailnefappaaQj
import Derived.Test.YtbhlailnefappaaRm
namespace Go.Proofs.Ytbhlailnefappaa
open Go.RowKit BitX Go.MemX Go.ChV
set_option linter.unusedVariables false
theorem gives_of {w w2 : World} {ys zs : List Int} {b c : Bool} {e : Ending} (h1 : b = c) (h2 : ys = zs) (h : Gives w zs c e w2) : Gives w ys b e w2 := by subst h1 h2; exact h
/-- the sum of k bits from a place on -/
def wnI (bs : List Int) (k i : Nat) : Int := suB bs (i + k) - suB bs i
theorem wn_on {bs : List Int} (h : BitP bs) {k i : Nat} (hi : i + k ≤ bs.length) : wnI bs k i = 2 * (onS bs (i + k) - onS bs i) - k := by
  have h1 := onS_su h (i + k) hi
  have h2 := onS_su h i (by omega)
  unfold wnI; omega
theorem bel_cell {w w' : World} {B b o : Nat} {v : Value} (hb : Below B w w') (hlt : b < B) (h : w.cell? ⟨b, o, none⟩ = some v) : w'.cell? ⟨b, o, none⟩ = some v := by rw [hb.cell (by exact hlt)]; exact h
def wnL (bs : List Int) (k : Nat) : List Int := tab (bs.length + 1 - k) (wnI bs k)
def mvB (bs : List Int) (k : Int) : Bool := bitB bs && decide (1 ≤ k ∧ k ≤ bs.length)
def mvL (bs : List Int) (k : Int) : List Int := onB (mvB bs k) (wnL bs k.toNat) []
theorem mvL_len (bs : List Int) (k : Int) (h : bs.length ≤ 1048576) : (mvL bs k).length ≤ 2000000 := by
  unfold mvL onB; split
  · rw [wnL, tab_len]; omega
  · simp
theorem ownsRow_drew {w : World} {B : Nat} {E : TypeId} {size : Nat} {v : Value} {n : Nat} {xs : List Value} (h : w.ownsRow B E size v n xs) : w.drew.ownsRow B E size v n xs := h
theorem step_append_own {P : Program} {ops : Array Oper} {o : Oper} {a : Act} {w : World} {K : Act → World → Prop} {Q : Exit → Act → World → Prop} {E : Prop} (hgd : o.guard = none) (s x : Operand) (t : TypeId)
    (ho : o.op = .call { callee := .builtin .append, args := #[s, x], argTypes := #[t, t] })
    (base : Nat) (e : TypeId) (i : TypeInfo) (z : Value) (size bytes : Nat) (ht : P.underlying t = some (.slice e)) (hi : P.info? e = some i) (hz : i.zero = some z)
    (hsize : i.size = size) (hby : i.bytes = bytes) (hzs : z.cells.size = size) (hsz : 0 < size)
    (v : Value) (n : Nat) (xs : List Value) (hs : a.eval s = v) (hown : w.ownsRow base e size v n xs)
    (ad : Addr) (m c : Nat) (news : List Value) (hx : a.eval x = .slice (some ad) m c) (hl : news.length = m * size) (hnews : ∀ j u, news[j]? = some u → w.cell? (ad.add j) = some u) (h1 : ∀ u ∈ news, u.oneCell' = true)
    (h63 : n + m ≤ maxLen) (hbytes : (n + m) * bytes ≤ 140737488355328) (hbase : base ≤ w.heap.size)
    (h : ∀ v' w', w'.ownsRow base e size v' (n + m) (xs ++ news) → w.grownBy w' v.ownBlock → (v' = .slice none 0 0 ↔ v = .slice none 0 0 ∧ m = 0) → K (a.put o.dst v') w') :
    if Region.wanted o (yielded ops a.tmps) = true then Oper.wp P o a w K Q else E := by
  rw [if_pos (by simp [Region.wanted, hgd])]
  exact wp_append_own w s x t ho base e i z size bytes ht hi hz hsize hby hzs hsz v n xs hs hown ad m c news hx hl hnews h1 h63 hbytes hbase h


set_option maxHeartbeats 2000000 in
theorem spec_MovingSums_is (v : Value) (bs : List Int) (k : Int) (w : World) (hs : Sl w v bs) :
    Calls Try.prog 43 #[v, .int .i64 k] w (Gives w (mvL bs k) (mvB bs k)) := by
  cases hq : bitB bs
  · have hz : mvB bs k = false := by unfold mvB; rw [hq]; rfl
    have HR := hid (show mvL bs k = [] from by unfold mvL; rw [hz]; rfl)
    have HZ := hid hz
    have HQ := hid hq
    have HS := hid hs
    clear hq hs hz
    go_enter Try.func43, Try.ntmps43
    go_wp2_with fail
    refine (dmBits_q v bs false _ HS.out HQ.out).mono ?_
    rintro e w' ⟨rfl, rfl⟩
    go_wp2_with fail
    go_ret2
    exact gives_of HZ.out HR.out ⟨_, rfl, .inl ⟨rfl, rfl⟩, Below.refl _ _⟩
  · have hb := bitB_t hq
    have HBP := hid hb
    obtain ⟨aa, n, cap, rfl, hn, hrd⟩ := id hs.rd
    have Hn := hid hn
    have HS := hid hs
    have HQ := hid hq
    have hl' : n ≤ 200 := by rw [hn]; exact hb.1
    cases hk : decide (1 ≤ k ∧ k ≤ (n : Int))
    · have hz : mvB bs k = false := by unfold mvB; rw [hq, ← hn, hk]; rfl
      have HR := hid (show mvL bs k = [] from by unfold mvL; rw [hz]; rfl)
      have HZ := hid hz
      have HK := hid hk
      clear hq hs hz hk hn hrd hb
      go_enter Try.func43, Try.ntmps43
      go_wp2_with fail
      refine (dmBits_q _ bs true _ HS.out HQ.out).mono ?_
      rintro e w' ⟨rfl, rfl⟩
      go_wp2_with fail
      refine (l1In_is _ _ _ false _ HK.out).mono ?_
      rintro e w' ⟨rfl, rfl⟩
      go_wp2_with fail
      go_ret2
      exact gives_of HZ.out HR.out ⟨_, rfl, .inl ⟨rfl, rfl⟩, Below.refl _ _⟩
    · obtain ⟨k1, k2⟩ := of_decide_eq_true hk
      obtain ⟨q, rfl⟩ : ∃ q : Nat, k = q := ⟨k.toNat, by omega⟩
      have hz : mvB bs (q : Int) = true := by unfold mvB; rw [hq, ← hn, hk]; rfl
      have HR := hid (show mvL bs (q : Int) = wnL bs q from by unfold mvL; rw [hz]; rfl)
      have HZ := hid hz
      have HK := hid hk
      obtain ⟨i0, hi0, hz0, hz1, hz2⟩ := info_parts iint
      have hq1 : 1 ≤ q := by omega
      have hq2 : q ≤ n := by omega
      clear hq hs hz hk hn hrd hb k1 k2
      go_enter Try.func43, Try.ntmps43
      go_wp2_with fail
      refine (dmBits_q _ bs true _ HS.out HQ.out).mono ?_
      rintro e w' ⟨rfl, rfl⟩
      go_wp2_with fail
      refine (l1In_is _ _ _ true _ HK.out).mono ?_
      rintro e w' ⟨rfl, rfl⟩
      go_wp2_with fail
      refine (dmOnes_any _ bs _ HS.out HBP.out).mono ?_
      rintro e w1 ⟨u1, rfl, hr1, hb1⟩
      obtain ⟨av, m, cv, rfl, hm, hrv⟩ := hr1.sl.rd
      rw [tab_len, ← Hn.out] at hm
      subst hm
      have Hrv := hid hrv
      have HB1 := hid hb1
      clear hr1 hrv hb1
      go_wp2_with fail
      go_loopw [7, 8] (fun v i wr => ∃ c : Nat, c + q ≤ n + 1 ∧ i = .int .i64 c ∧ wr.ownsRow w1.heap.size 3 1 v c ((tab c (wnI bs q)).map (Value.int .i64)) ∧ Below w1.heap.size w1 wr)
        (fun _ i _ => n + 1 - (intOf i).toNat)
      case atStart => exact ⟨0, by omega, rfl, World.ownsRow_nil _ _ _ _, Below.refl _ _⟩
      case round =>
        obtain ⟨c, hc, rfl, hown, hb⟩ := hrel
        have hsz : w1.heap.size ≤ wr.heap.size := hb.size
        by_cases hlk : c + q ≤ n
        · have hky1 : (tab (bs.length + 1) (onS bs))[c + q]? = some (onS bs (c + q)) := tab_get _ _ _ (by rw [← Hn.out]; omega)
          have hky2 : (tab (bs.length + 1) (onS bs))[c]? = some (onS bs c) := tab_get _ _ _ (by rw [← Hn.out]; omega)
          obtain ⟨b1, o1, hix1, hbb1, hce1⟩ := Hrv.out.at (P := Try.prog) (T := 24) (n + 1) cv uslice sone hky1 (by omega)
          obtain ⟨b2, o2, hix2, hbb2, hce2⟩ := Hrv.out.at (P := Try.prog) (T := 24) (n + 1) cv uslice sone hky2 (by omega)
          rw [show ((c + q : Nat) : Int) = (c : Int) + (q : Int) from by omega] at hix1
          have hi1 := onS_in HBP.out (c + q) (by rw [← Hn.out]; exact hlk)
          have hi2 := onS_in HBP.out c (by rw [← Hn.out]; omega)
          have hst := tab_step c (wnI bs q)
          rw [wn_on HBP.out (by rw [← Hn.out]; exact hlk)] at hst
          obtain ⟨p1, p2⟩ := hi1
          obtain ⟨p3, p4⟩ := hi2
          generalize onS bs (c + q) = x at *
          generalize onS bs c = y at *
          generalize tab c (wnI bs q) = ys at *
          have Hob := hid (ownsRow_base hown)
          have Hown := hid hown
          have Hst := hid hst
          have HSS := hid (And.intro hce1 hce2)
          have hlt : (c : Int) + (q : Int) ≤ (n : Int) := by omega
          clear hky1 hky2 hown hst hce1 hce2
          have e1 : IntKind.i64.wrap ((c : Int) + (q : Int)) = (c : Int) + (q : Int) := IntWalk.i64_in _ (by omega)
          have e2 : IntKind.i64.wrap (x - y) = x - y := IntWalk.i64_in _ (by omega)
          have e3 : IntKind.i64.wrap (2 * (x - y)) = 2 * (x - y) := IntWalk.i64_in _ (by omega)
          have e4 : IntKind.i64.wrap (2 * (x - y) - (q : Int)) = 2 * (x - y) - (q : Int) := IntWalk.i64_in _ (by omega)
          have hS : wr.cell? ⟨b1, o1, none⟩ = some (.int .i64 x) ∧ wr.cell? ⟨b2, o2, none⟩ = some (.int .i64 y) := And.intro (bel_cell hb hbb1 HSS.out.1) (bel_cell hb hbb2 HSS.out.2)
          go_wp2_with fail
          go_region_held3 (fun W => W.cell? ⟨b1, o1, none⟩ = some (.int .i64 x) ∧ W.cell? ⟨b2, o2, none⟩ = some (.int .i64 y)) (first | exact hS | assumption | go_keep) (first | (refine step_append_own rfl _ _ 24 rfl w1.heap.size 3 i0 (.int .i64 0) 1 8 uslice hi0 hz0 hz1 hz2 rfl (by decide) _ _ _ rfl ((ownsRow_drew Hown.out).alloc _) ⟨wr.heap.size, 0, none⟩ 1 1 [.int .i64 (2 * (x - y) - q)] rfl rfl (cell_one_new _ _ _) (by intro u hu; simp at hu; subst hu; rfl) (by unfold maxLen; omega) (by omega) (by simp; omega) ?_; intro v' w3 hown3 hgrow _; have hb3 : Below w1.heap.size w1 w3 := ((hb.drew).alloc hsz _).grown hgrow (by simp; omega) (fun j hj => Hob.out j hj); have Hown3 := hid hown3; clear hown3 hgrow; have hS := And.intro (bel_cell hb3 hbb1 HSS.out.1) (bel_cell hb3 hbb2 HSS.out.2)))
          all_goals go_wp2
          all_goals go_roundw
          case rel => exact ⟨c + 1, by omega, by go_num, by rw [Hst.out, List.map_append]; exact Hown3.out, hb3⟩
          case measure => simp [intOf]; omega
        · have hge : (n : Int) < (c : Int) + (q : Int) := by omega
          have hkn : c = bs.length + 1 - q := by rw [← Hn.out]; omega
          have Hk := hid hkn
          have Hown := hid hown
          clear hkn hlk hown
          go_wp2
          go_ret2
          have ho := Hown.out
          rw [Hk.out] at ho
          exact gives_of HZ.out HR.out ⟨_, rfl, (Res.owns (by rw [wnL, tab_len]; exact ho)).mono HB1.out.size, bel_step HB1.out hb⟩

end Go.Proofs.Ytbhlailnefappaa
