
import Derived.Test.YtbhlailnefappaaQk
namespace Go.Proofs.Ytbhlailnefappaa
open Go.RowKit BitX Go.MemX Go.ChV
set_option linter.unusedVariables false
/-- the lengths of the runs among the first bits -/
def rnL (bs : List Int) : Nat → List Int
  | 0 => []
  | i + 1 => if 0 < i ∧ at0 bs (i - 1) = at0 bs i then (rnL bs i).dropLast ++ [(rnL bs i).getLastD 0 + 1] else rnL bs i ++ [1]
theorem rn_new {bs : List Int} {i : Nat} (h : ¬ (0 < i ∧ at0 bs (i - 1) = at0 bs i)) : rnL bs (i + 1) = rnL bs i ++ [1] := by
  simp only [rnL]; rw [if_neg h]
theorem rn_same {bs : List Int} {i : Nat} {ini : List Int} {y : Int} (h : 0 < i ∧ at0 bs (i - 1) = at0 bs i) (hr : rnL bs i = ini ++ [y]) : rnL bs (i + 1) = ini ++ [y + 1] := by
  simp only [rnL]; rw [if_pos h, hr]; simp
theorem rn_last (bs : List Int) (i : Nat) (hi : 1 ≤ i) : ∃ (ini : List Int) (y : Int), rnL bs i = ini ++ [y] ∧ 1 ≤ y ∧ y ≤ i ∧ ini.length + 1 ≤ i := by
  induction i with
  | zero => omega
  | succ i ih =>
    by_cases h : 0 < i ∧ at0 bs (i - 1) = at0 bs i
    · obtain ⟨ini, y, hr, h1, h2, h3⟩ := ih (by omega)
      exact ⟨ini, y + 1, rn_same h hr, by omega, by omega, by omega⟩
    · refine ⟨rnL bs i, 1, rn_new h, by omega, by omega, ?_⟩
      by_cases h0 : i = 0
      · subst h0; simp [rnL]
      · obtain ⟨ini, y, hr, _, _, h3⟩ := ih (by omega)
        rw [hr]; simp; omega
theorem rn_len (bs : List Int) (i : Nat) : (rnL bs i).length ≤ i := by
  by_cases h0 : i = 0
  · subst h0; simp [rnL]
  · obtain ⟨ini, y, hr, _, _, h3⟩ := rn_last bs i (by omega)
    rw [hr]; simp; omega
def rrL (bs : List Int) : List Int := onB (bitB bs) (rnL bs bs.length) []
theorem rrL_len (bs : List Int) (h : bs.length ≤ 1048576) : (rrL bs).length ≤ 2000000 := by
  unfold rrL onB; split
  · have := rn_len bs bs.length; omega
  · simp
theorem own_form {w : World} {B n : Nat} {E : TypeId} {v : Value} {xs : List Value} (h : w.ownsRow B E 1 v n xs) (hn : 1 ≤ n) : ∃ g cap, v = .slice (some ⟨g, 0, none⟩) n cap ∧ B ≤ g := by
  obtain ⟨_, ⟨_, h0⟩ | ⟨g, cap, cur, hv, hg, _⟩⟩ := h
  · omega
  · exact ⟨g, cap, hv, hg⟩
theorem idx_own {g n cap k : Nat} {z : Int} (hk : k < n) (hz : z = (k : Int)) : ∀ W : World, (Instr.indexAt 24 (.slice (some ⟨g, 0, none⟩) n cap) (.int .i64 z)).run Try.prog W = .ok (.pointer (some ⟨g, k, none⟩)) W := fun W => by
  rw [hz, run_indexAt_slice _ _ _ _ _ _ _ uslice, if_pos (by omega), sone]
  simp [Addr.add]
  try omega
theorem set_last (ini : List Int) (y z : Int) : ((ini ++ [y]).map (Value.int .i64)).set ini.length (.int .i64 z) = (ini ++ [z]).map (Value.int .i64) := by
  simp
theorem get_last (ini : List Int) (y : Int) : ((ini ++ [y]).map (Value.int .i64))[ini.length]? = some (.int .i64 y) := by simp


set_option maxHeartbeats 4000000 in
theorem spec_RunsOf_is (v : Value) (bs : List Int) (w : World) (hs : Sl w v bs) :
    Calls Try.prog 40 #[v] w (Gives w (rrL bs) (bitB bs)) := by
  cases hq : bitB bs
  · have HR := hid (show rrL bs = [] from by unfold rrL; rw [hq]; rfl)
    have HQ := hid hq
    have HS := hid hs
    clear hq hs
    go_enter Try.func40, Try.ntmps40
    go_wp2_with fail
    refine (dmBits_q v bs false _ HS.out HQ.out).mono ?_
    rintro e w' ⟨rfl, rfl⟩
    go_wp2_with fail
    go_ret2
    exact gives_of rfl HR.out ⟨_, rfl, .inl ⟨rfl, rfl⟩, Below.refl _ _⟩
  · have hb := bitB_t hq
    have HR := hid (show rrL bs = rnL bs bs.length from by unfold rrL; rw [hq]; rfl)
    obtain ⟨aa, n, cap, rfl, hn, hrd⟩ := id hs.rd
    have hl' : n ≤ 200 := by rw [hn]; exact hb.1
    have Hn := hid hn
    have Hrd := hid hrd
    have HS := hid hs
    have HQ := hid hq
    obtain ⟨i0, hi0, hz0, hz1, hz2⟩ := info_parts iint
    clear hq hs hn hrd hb
    go_enter Try.func40, Try.ntmps40
    go_wp2_with fail
    refine (dmBits_q _ bs true _ HS.out HQ.out).mono ?_
    rintro e w' ⟨rfl, rfl⟩
    go_wp2_with fail
    go_loopw [4, 12] (fun v i wr => ∃ c : Nat, c ≤ n ∧ i = .int .i64 c ∧ wr.ownsRow w.heap.size 3 1 v (rnL bs c).length ((rnL bs c).map (Value.int .i64)) ∧ Below w.heap.size w wr)
      (fun _ i _ => n - (intOf i).toNat)
    case atStart => exact ⟨0, by omega, rfl, World.ownsRow_nil _ _ _ _, Below.refl _ _⟩
    case round =>
      obtain ⟨c, hc, rfl, hown, hb⟩ := hrel
      have hsz : w.heap.size ≤ wr.heap.size := hb.size
      by_cases hlk : c < n
      · obtain ⟨x, hkx⟩ := get_lt bs c (by rw [← Hn.out]; exact hlk)
        obtain ⟨bb, oo, hix, hbb, hce⟩ := (Hrd.out.kept hb).at (P := Try.prog) (T := 24) n cap uslice sone hkx hlk
        by_cases hc0 : c = 0
        · have hnx := rn_new (bs := bs) (i := c) (fun h => by omega)
          have hc1 : (c : Int) ≤ 0 := by omega
          have hqz : ((c : Int) == 0) = true := by rw [beq_iff_eq]; omega
          clear hc0 hkx
          generalize hys : rnL bs c = ys at hnx hown
          have hyl : ys.length ≤ 200 := by rw [← hys]; have := rn_len bs c; omega
          have Hob := hid (ownsRow_base hown)
          have Hown := hid hown
          have Hnx := hid hnx
          generalize hln : ys.length = ln at *
          have Hln := hid hln
          clear hnx hown hys hln
          go_wp2_with (at_builtin; refine wpList_append_own _ rfl _ _ 24 rfl w.heap.size 3 i0 (.int .i64 0) 1 8 uslice hi0 hz0 hz1 hz2 rfl (by decide) _ _ _ rfl (Hown.out.alloc _) ⟨wr.heap.size, 0, none⟩ 1 1 [.int .i64 (1)] rfl rfl ?c1 ?c2 ?c3 ?c4 ?c5 ?_)
          case c1 => exact cell_one_new _ _ _
          case c2 => intro u hu; simp at hu; subst hu; rfl
          case c3 => unfold maxLen; omega
          case c4 => omega
          case c5 => simp; omega
          intro v' w3 hown3 hgrow _
          have hb3 : Below w.heap.size w w3 := (hb.alloc hsz _).grown hgrow (by simp; omega) (fun j hj => Hob.out j hj)
          have Hown3 := hid hown3
          clear hown3 hgrow
          go_wp2
          go_roundw
          case rel => exact ⟨c + 1, by omega, by go_num, by rw [Hnx.out, List.map_append, List.length_append, Hln.out]; exact Hown3.out, hb3⟩
          case measure => simp [intOf]; omega
        · obtain ⟨p2, hkp⟩ := get_lt bs (c - 1) (by rw [← Hn.out]; omega)
          obtain ⟨bp, op, hixp, hbp, hcp⟩ := (Hrd.out.kept hb).at (P := Try.prog) (T := 24) n cap uslice sone hkp (by omega)
          rw [show ((c - 1 : Nat) : Int) = (c : Int) - 1 from by omega] at hixp
          have hc1 : 0 < (c : Int) := by omega
          have hqz : ((c : Int) == 0) = false := by rw [beq_eq_false_iff_ne]; omega
          by_cases hsame : p2 = x
          · obtain ⟨ini, y, hr, y1, y2, hil⟩ := rn_last bs c (by omega)
            have hnx := rn_same (bs := bs) (i := c) ⟨by omega, by rw [at0_of hkp, at0_of hkx]; exact hsame⟩ hr
            rw [hr] at hown
            obtain ⟨m, hm⟩ : ∃ m, m = (ini ++ [y]).length := ⟨_, rfl⟩
            rw [← hm] at hown
            obtain ⟨g, cv, rfl, hBg⟩ := own_form hown (by rw [hm]; simp)
            have hm2 : m = ini.length + 1 := by rw [hm]; simp
            obtain ⟨p, hp⟩ : ∃ p, p = ini.length := ⟨_, rfl⟩
            have hce2 : wr.cell? ⟨g, p, none⟩ = some (.int .i64 y) := by rw [hown.cellAt p (by omega), hp]; exact get_last ini y
            have hfr2 := hown.frozenAt p
            have hixl := idx_own (g := g) (n := m) (cap := cv) (k := p) (z := (m : Int) - 1) (by omega) (by omega)
            have hst2 := (hown.stored p (.int .i64 (y + 1))).1
            rw [show ((ini ++ [y]).map (Value.int .i64)).set p (.int .i64 (y + 1)) = (ini ++ [y + 1]).map (Value.int .i64) from by rw [hp]; exact set_last _ _ _] at hst2
            have hm3 : (ini ++ [y + 1]).length = m := by rw [hm]; simp
            have hm4 : m ≤ 200 := by omega
            have hm5 : 1 ≤ m := by omega
            rw [← hm3] at hst2
            have Hst2 := hid hst2
            have Hnx := hid hnx
            have Hm3 := hid hm3
            have hsm2 : p2 = x := hsame
            clear hst2 hnx hm3 hm hm2 hp hr hown hil
            subst hsm2
            have hqe : (p2 == p2) = true := beq_self_eq_true p2
            have hqn : (p2 != p2) = false := by simp
            clear hkx hkp hsame hc0
            go_wp2
            go_roundw
            case rel => exact ⟨c + 1, by omega, by go_num, by rw [Hnx.out]; have h := Hst2.out; rw [Hm3.out] at h; rw [Hm3.out]; exact h, hb.setCell (p := ⟨g, p, none⟩) (by show w.heap.size ≤ g; omega) _⟩
            case measure => simp [intOf]; omega
          · have hnx := rn_new (bs := bs) (i := c) (fun h => hsame (by have h2 := h.2; rw [at0_of hkp, at0_of hkx] at h2; exact h2))
            have hqe : (p2 == x) = false := by rw [beq_eq_false_iff_ne]; exact hsame
            have hqn : (x != p2) = true := bne_iff_ne.2 (Ne.symm hsame)
            clear hkx hkp hsame hc0
            generalize hys : rnL bs c = ys at hnx hown
            have hyl : ys.length ≤ 200 := by rw [← hys]; have := rn_len bs c; omega
            have Hob := hid (ownsRow_base hown)
            have Hown := hid hown
            have Hnx := hid hnx
            generalize hln : ys.length = ln at *
            have Hln := hid hln
            clear hnx hown hys hln
            go_wp2_with (at_builtin; refine wpList_append_own _ rfl _ _ 24 rfl w.heap.size 3 i0 (.int .i64 0) 1 8 uslice hi0 hz0 hz1 hz2 rfl (by decide) _ _ _ rfl (Hown.out.alloc _) ⟨wr.heap.size, 0, none⟩ 1 1 [.int .i64 (1)] rfl rfl ?c1 ?c2 ?c3 ?c4 ?c5 ?_)
            case c1 => exact cell_one_new _ _ _
            case c2 => intro u hu; simp at hu; subst hu; rfl
            case c3 => unfold maxLen; omega
            case c4 => omega
            case c5 => simp; omega
            intro v' w3 hown3 hgrow _
            have hb3 : Below w.heap.size w w3 := (hb.alloc hsz _).grown hgrow (by simp; omega) (fun j hj => Hob.out j hj)
            have Hown3 := hid hown3
            clear hown3 hgrow
            go_wp2
            go_roundw
            case rel => exact ⟨c + 1, by omega, by go_num, by rw [Hnx.out, List.map_append, List.length_append, Hln.out]; exact Hown3.out, hb3⟩
            case measure => simp [intOf]; omega
      · have hge : (n : Int) ≤ (c : Int) := by omega
        have hkn : c = bs.length := by rw [← Hn.out]; omega
        have Hk := hid hkn
        have Hown := hid hown
        clear hkn hlk hown
        go_wp2
        go_ret2
        have ho := Hown.out
        rw [Hk.out] at ho
        exact gives_of rfl HR.out ⟨_, rfl, Res.owns ho, hb⟩


set_option maxHeartbeats 4000000 in
theorem impl_RunsOf_is (v : Value) (bs : List Int) (w : World) (hs : Sl w v bs) :
    Calls Try.prog 17 #[v] w (Gives w (rrL bs) (bitB bs)) := by
  cases hq : bitB bs
  · have HR := hid (show rrL bs = [] from by unfold rrL; rw [hq]; rfl)
    have HQ := hid hq
    have HS := hid hs
    clear hq hs
    go_enter Try.func17, Try.ntmps17
    go_wp2_with fail
    refine (areBits_q v bs false _ HS.out HQ.out).mono ?_
    rintro e w' ⟨rfl, rfl⟩
    go_wp2_with fail
    go_ret2
    exact gives_of rfl HR.out ⟨_, rfl, .inl ⟨rfl, rfl⟩, Below.refl _ _⟩
  · have hb := bitB_t hq
    have HR := hid (show rrL bs = rnL bs bs.length from by unfold rrL; rw [hq]; rfl)
    obtain ⟨aa, n, cap, rfl, hn, hrd⟩ := id hs.rd
    have hl' : n ≤ 200 := by rw [hn]; exact hb.1
    have Hn := hid hn
    have Hrd := hid hrd
    have HS := hid hs
    have HQ := hid hq
    obtain ⟨i0, hi0, hz0, hz1, hz2⟩ := info_parts iint
    clear hq hs hn hrd hb
    go_enter Try.func17, Try.ntmps17
    go_wp2_with fail
    refine (areBits_q _ bs true _ HS.out HQ.out).mono ?_
    rintro e w' ⟨rfl, rfl⟩
    go_wp2_with fail
    go_loopw [4, 12] (fun v i wr => ∃ c : Nat, c ≤ n ∧ i = .int .i64 c ∧ wr.ownsRow w.heap.size 3 1 v (rnL bs c).length ((rnL bs c).map (Value.int .i64)) ∧ Below w.heap.size w wr)
      (fun _ i _ => n - (intOf i).toNat)
    case atStart => exact ⟨0, by omega, rfl, World.ownsRow_nil _ _ _ _, Below.refl _ _⟩
    case round =>
      obtain ⟨c, hc, rfl, hown, hb⟩ := hrel
      have hsz : w.heap.size ≤ wr.heap.size := hb.size
      by_cases hlk : c < n
      · obtain ⟨x, hkx⟩ := get_lt bs c (by rw [← Hn.out]; exact hlk)
        obtain ⟨bb, oo, hix, hbb, hce⟩ := (Hrd.out.kept hb).at (P := Try.prog) (T := 24) n cap uslice sone hkx hlk
        by_cases hc0 : c = 0
        · have hnx := rn_new (bs := bs) (i := c) (fun h => by omega)
          have hc1 : (c : Int) ≤ 0 := by omega
          have hqz : ((c : Int) == 0) = true := by rw [beq_iff_eq]; omega
          clear hc0 hkx
          generalize hys : rnL bs c = ys at hnx hown
          have hyl : ys.length ≤ 200 := by rw [← hys]; have := rn_len bs c; omega
          have Hob := hid (ownsRow_base hown)
          have Hown := hid hown
          have Hnx := hid hnx
          generalize hln : ys.length = ln at *
          have Hln := hid hln
          clear hnx hown hys hln
          go_wp2_with (at_builtin; refine wpList_append_own _ rfl _ _ 24 rfl w.heap.size 3 i0 (.int .i64 0) 1 8 uslice hi0 hz0 hz1 hz2 rfl (by decide) _ _ _ rfl (Hown.out.alloc _) ⟨wr.heap.size, 0, none⟩ 1 1 [.int .i64 (0)] rfl rfl ?c1 ?c2 ?c3 ?c4 ?c5 ?_)
          case c1 => exact cell_one_new _ _ _
          case c2 => intro u hu; simp at hu; subst hu; rfl
          case c3 => unfold maxLen; omega
          case c4 => omega
          case c5 => simp; omega
          intro v' w3 hown3 hgrow _
          have hb3 : Below w.heap.size w w3 := (hb.alloc hsz _).grown hgrow (by simp; omega) (fun j hj => Hob.out j hj)
          obtain ⟨g, cv, rfl, hBg⟩ := own_form hown3 (by omega)
          have hce2 : w3.cell? ⟨g, ln, none⟩ = some (.int .i64 0) := by rw [hown3.cellAt ln (by omega), ← Hln.out]; simp
          have hfr2 := hown3.frozenAt ln
          have hixl := idx_own (g := g) (n := ln + 1) (cap := cv) (k := ln) (z := (ln : Int)) (by omega) rfl
          have hst2 := (hown3.stored ln (.int .i64 1)).1
          have Hst2 := hid hst2
          clear hown3 hgrow hst2
          go_wp2
          go_roundw
          case rel => exact ⟨c + 1, by omega, by go_num, by rw [Hnx.out, List.length_append, Hln.out]; have h := Hst2.out; rw [← Hln.out] at h ⊢; rw [show (ys.map (Value.int .i64) ++ [Value.int .i64 0]) = (ys ++ [0]).map (Value.int .i64) from by simp, set_last] at h; exact h, hb3.setCell (p := ⟨g, ln, none⟩) (by show w.heap.size ≤ g; omega) _⟩
          case measure => simp [intOf]; omega
        · obtain ⟨p2, hkp⟩ := get_lt bs (c - 1) (by rw [← Hn.out]; omega)
          obtain ⟨bp, op, hixp, hbp, hcp⟩ := (Hrd.out.kept hb).at (P := Try.prog) (T := 24) n cap uslice sone hkp (by omega)
          rw [show ((c - 1 : Nat) : Int) = (c : Int) - 1 from by omega] at hixp
          have hc1 : 0 < (c : Int) := by omega
          have hqz : ((c : Int) == 0) = false := by rw [beq_eq_false_iff_ne]; omega
          by_cases hsame : p2 = x
          · obtain ⟨ini, y, hr, y1, y2, hil⟩ := rn_last bs c (by omega)
            have hnx := rn_same (bs := bs) (i := c) ⟨by omega, by rw [at0_of hkp, at0_of hkx]; exact hsame⟩ hr
            rw [hr] at hown
            obtain ⟨m, hm⟩ : ∃ m, m = (ini ++ [y]).length := ⟨_, rfl⟩
            rw [← hm] at hown
            obtain ⟨g, cv, rfl, hBg⟩ := own_form hown (by rw [hm]; simp)
            have hm2 : m = ini.length + 1 := by rw [hm]; simp
            obtain ⟨p, hp⟩ : ∃ p, p = ini.length := ⟨_, rfl⟩
            have hce2 : wr.cell? ⟨g, p, none⟩ = some (.int .i64 y) := by rw [hown.cellAt p (by omega), hp]; exact get_last ini y
            have hfr2 := hown.frozenAt p
            have hixl := idx_own (g := g) (n := m) (cap := cv) (k := p) (z := (m : Int) - 1) (by omega) (by omega)
            have hst2 := (hown.stored p (.int .i64 (y + 1))).1
            rw [show ((ini ++ [y]).map (Value.int .i64)).set p (.int .i64 (y + 1)) = (ini ++ [y + 1]).map (Value.int .i64) from by rw [hp]; exact set_last _ _ _] at hst2
            have hm3 : (ini ++ [y + 1]).length = m := by rw [hm]; simp
            have hm4 : m ≤ 200 := by omega
            have hm5 : 1 ≤ m := by omega
            rw [← hm3] at hst2
            have Hst2 := hid hst2
            have Hnx := hid hnx
            have Hm3 := hid hm3
            have hsm2 : p2 = x := hsame
            clear hst2 hnx hm3 hm hm2 hp hr hown hil
            subst hsm2
            have hqe : (p2 == p2) = true := beq_self_eq_true p2
            have hqn : (p2 != p2) = false := by simp
            clear hkx hkp hsame hc0
            go_wp2
            go_roundw
            case rel => exact ⟨c + 1, by omega, by go_num, by rw [Hnx.out]; have h := Hst2.out; rw [Hm3.out] at h; rw [Hm3.out]; exact h, hb.setCell (p := ⟨g, p, none⟩) (by show w.heap.size ≤ g; omega) _⟩
            case measure => simp [intOf]; omega
          · have hnx := rn_new (bs := bs) (i := c) (fun h => hsame (by have h2 := h.2; rw [at0_of hkp, at0_of hkx] at h2; exact h2))
            have hqe : (p2 == x) = false := by rw [beq_eq_false_iff_ne]; exact hsame
            have hqn : (x != p2) = true := bne_iff_ne.2 (Ne.symm hsame)
            clear hkx hkp hsame hc0
            generalize hys : rnL bs c = ys at hnx hown
            have hyl : ys.length ≤ 200 := by rw [← hys]; have := rn_len bs c; omega
            have Hob := hid (ownsRow_base hown)
            have Hown := hid hown
            have Hnx := hid hnx
            generalize hln : ys.length = ln at *
            have Hln := hid hln
            clear hnx hown hys hln
            go_wp2_with (at_builtin; refine wpList_append_own _ rfl _ _ 24 rfl w.heap.size 3 i0 (.int .i64 0) 1 8 uslice hi0 hz0 hz1 hz2 rfl (by decide) _ _ _ rfl (Hown.out.alloc _) ⟨wr.heap.size, 0, none⟩ 1 1 [.int .i64 (0)] rfl rfl ?c1 ?c2 ?c3 ?c4 ?c5 ?_)
            case c1 => exact cell_one_new _ _ _
            case c2 => intro u hu; simp at hu; subst hu; rfl
            case c3 => unfold maxLen; omega
            case c4 => omega
            case c5 => simp; omega
            intro v' w3 hown3 hgrow _
            have hb3 : Below w.heap.size w w3 := (hb.alloc hsz _).grown hgrow (by simp; omega) (fun j hj => Hob.out j hj)
            obtain ⟨g, cv, rfl, hBg⟩ := own_form hown3 (by omega)
            have hce2 : w3.cell? ⟨g, ln, none⟩ = some (.int .i64 0) := by rw [hown3.cellAt ln (by omega), ← Hln.out]; simp
            have hfr2 := hown3.frozenAt ln
            have hixl := idx_own (g := g) (n := ln + 1) (cap := cv) (k := ln) (z := (ln : Int)) (by omega) rfl
            have hst2 := (hown3.stored ln (.int .i64 1)).1
            have Hst2 := hid hst2
            clear hown3 hgrow hst2
            go_wp2
            go_roundw
            case rel => exact ⟨c + 1, by omega, by go_num, by rw [Hnx.out, List.length_append, Hln.out]; have h := Hst2.out; rw [← Hln.out] at h ⊢; rw [show (ys.map (Value.int .i64) ++ [Value.int .i64 0]) = (ys ++ [0]).map (Value.int .i64) from by simp, set_last] at h; exact h, hb3.setCell (p := ⟨g, ln, none⟩) (by show w.heap.size ≤ g; omega) _⟩
            case measure => simp [intOf]; omega
      · have hge : (n : Int) ≤ (c : Int) := by omega
        have hkn : c = bs.length := by rw [← Hn.out]; omega
        have Hk := hid hkn
        have Hown := hid hown
        clear hkn hlk hown
        go_wp2
        go_ret2
        have ho := Hown.out
        rw [Hk.out] at ho
        exact gives_of rfl HR.out ⟨_, rfl, Res.owns ho, hb⟩


end Go.Proofs.Ytbhlailnefappaa
