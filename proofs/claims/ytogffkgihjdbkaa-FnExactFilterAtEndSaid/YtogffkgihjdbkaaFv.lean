
import Derived.Test.YtogffkgihjdbkaaFu
import Derived.Deep.RegionHeld3
import Derived.Deep.QuietTactic
import Derived.BigQuiet
namespace Go.Proofs.Ytogffkgihjdbkaa
open Go.RowKit BitX Go.MemX Go.ShX
set_option linter.unusedVariables false


theorem cells4 {w W : World} {p0 p1 p2 p3 : Addr} {a0 a1 a2 a3 : Value} (hb : Below w.heap.size w W) (h0 : w.cell? p0 = some a0) (h1 : w.cell? p1 = some a1) (h2 : w.cell? p2 = some a2) (h3 : w.cell? p3 = some a3) :
    W.cell? p0 = some a0 ∧ W.cell? p1 = some a1 ∧ W.cell? p2 = some a2 ∧ W.cell? p3 = some a3 :=
  ⟨by rw [hb.cell (by exact World.block_lt_of_cell? _ _ h0)]; exact h0, by rw [hb.cell (by exact World.block_lt_of_cell? _ _ h1)]; exact h1, by rw [hb.cell (by exact World.block_lt_of_cell? _ _ h2)]; exact h2, by rw [hb.cell (by exact World.block_lt_of_cell? _ _ h3)]; exact h3⟩


set_option maxHeartbeats 4000000 in
theorem spec_FilterInWord_in (u v : Value) (h s : List Int) (b k mode : Int) (wd : Bool) (w : World) (hu : Sl w u h) (hv : Sl w v s) (hl : h.length ≤ 2000000) (hls : s.length ≤ 2000000) (hq : fiB b h s k mode = true) :
    Calls Try.prog 15 #[.agg #[.int .i64 b, .bool wd], u, v, .int .i64 k, .int .i64 mode] w (Gives w (fwY b wd h s k mode) (fiB b h s k mode)) := by
  obtain ⟨⟨b1, b2⟩, ⟨hw, hsg⟩, ⟨k1, k2⟩, m1, m2⟩ := fi_parts hq
  obtain ⟨n, rfl⟩ : ∃ n : Nat, b = n := ⟨b.toNat, by omega⟩
  obtain ⟨k, rfl⟩ : ∃ c : Nat, k = c := ⟨k.toNat, by omega⟩
  obtain ⟨a, m, cap, rfl, hn, hrd⟩ := id hu.rd
  obtain ⟨a2, l, cap2, rfl, hn2, hrd2⟩ := id hv.rd
  have HU := hid hu
  have HV := hid hv
  have HQ := hid hq
  have HW := hid hw
  have HJ := hid (show InP (-100000) 100000 s from hsg.2)
  have hm9 : m ≤ 9 := by rw [hn]; exact hw.1.2
  have hl64 : l ≤ 64 := by rw [hn2]; exact hsg.1
  have hk20 : k ≤ 20 := by omega
  have hmode : mode = 0 ∨ mode = 1 ∨ mode = 2 := by omega
  have Hmode := hid hmode
  have n1 : 2 ≤ n := by omega
  have n2 : n ≤ 16 := by omega
  have Hn := hid hn
  have Hn2 := hid hn2
  have Hrd := hid hrd
  have Hrd2 := hid hrd2
  obtain ⟨i0, hi0, hz0, hz1, hz2⟩ := info_parts iint
  clear hu hv hq hw hsg hn hn2 hrd hrd2 hmode b1 b2 k1 k2
  go_enter Try.func15, Try.ntmps15
  go_wp2_with fail
  refine (weInWord_is _ _ h s _ _ _ _ _ (HU.out.kept (bel_alloc _ _)) (HV.out.kept (bel_alloc _ _)) hl hls).mono ?_
  rintro e w1 ⟨rfl, hb0⟩
  rw [HQ.out]
  obtain ⟨ca1, cb1⟩ := box2_cells hb0
  have B1 := bel_step (bel_alloc _ _) hb0
  have hgz : w.heap.size < w1.heap.size := by have := hb0.size; simp at this; omega
  clear hb0
  go_wp2_with fail
  go_loopw [12, 25] (fun v i wr => ∃ c : Nat, c ≤ l ∧ i = .int .i64 c ∧ wr.ownsRow w1.heap.size 3 1 v c ((tab c (wordG n wd h s k mode)).map (Value.int .i64)) ∧ Below w1.heap.size w1 wr)
    (fun _ i _ => l - (intOf i).toNat)
  case atStart => exact ⟨0, by omega, rfl, World.ownsRow_nil _ _ _ _, Below.refl _ _⟩
  case round =>
    obtain ⟨c, hc, rfl, hown, hb⟩ := hrel
    have hsz : w1.heap.size ≤ wr.heap.size := hb.size
    by_cases hlk : c < l
    · have hst := tab_step c (wordG n wd h s k mode)
      generalize hys : tab c (wordG n wd h s k mode) = ys at hst hown
      have Hob := hid (ownsRow_base hown)
      have Hst := hid hst
      have Hown := hid hown
      clear hst hown hys
      obtain ⟨M, hM⟩ : ∃ M, min m (c + 1) = M := ⟨_, rfl⟩
      have hM1 : M ≤ m := by omega
      have hM2 : M ≤ c + 1 := by omega
      have Hval : Hid (wordG n wd h s k mode c = foldW n wd k mode (fun i => at0 h i * at0 s (c - i)) M) := hid (by unfold wordG; rw [← hM, Hn.out])
      have HM := hid hM
      clear hM
      go_wp2_with fail
      obtain ⟨wo, hwo⟩ : ∃ wo : World, wo = wr := ⟨_, rfl⟩
      subst hwo
      go_loopw [14, 15] (fun s0 i wr => ∃ j : Nat, j ≤ M ∧ i = .int .i64 j ∧ s0 = .int .i64 (foldW n wd k mode (fun i => at0 h i * at0 s (c - i)) j) ∧ Below wo.heap.size wo wr)
        (fun _ i _ => M - (intOf i).toNat)
      case atStart => exact ⟨0, by omega, rfl, rfl, Below.refl _ _⟩
      case round =>
        obtain ⟨j, hj, rfl, rfl, hbi⟩ := hrel
        have hbw : Below w1.heap.size w1 wr := hb.trans (hbi.mono hsz)
        by_cases hjM : j < M
        · have hjm : j < m := by omega
          have hjc : j ≤ c := by omega
          have hcl : c - j < l := by omega
          obtain ⟨x, hkx⟩ := get_lt s (c - j) (by rw [← Hn2.out]; exact hcl)
          obtain ⟨y, hky⟩ := get_lt h j (by rw [← Hn.out]; exact hjm)
          have hbW := bel_step B1 hbw
          obtain ⟨bb, oo, hix, hbb, hce⟩ := (Hrd2.out.kept hbW).at (P := Try.prog) (T := 22) l cap2 uslice sone hkx hcl
          obtain ⟨b2, o2, hix2, hbb2, hce2⟩ := (Hrd.out.kept hbW).at (P := Try.prog) (T := 22) m cap uslice sone hky hjm
          obtain ⟨x1, x2⟩ := HJ.out.at hkx
          obtain ⟨y1, y2⟩ := HW.out.2.at hky
          obtain ⟨cA, cB⟩ := boxed ca1 cb1 hgz hbw
          have hcast : ((c - j : Nat) : Int) = (c : Int) - j := by omega
          rw [hcast] at hix
          have hm := mul_in y1 y2 x1 x2 (by omega)
          have p1 : -100000000 ≤ y * x := by omega
          have p2 : y * x ≤ 100000000 := by omega
          have hax := at0_of hkx
          have hay := at0_of hky
          have hst := foldW_succ n wd k mode (fun i => at0 h i * at0 s (c - i)) j
          rw [hax, hay] at hst
          obtain ⟨z1, z2⟩ := foldW_in n wd k mode (fun i => at0 h i * at0 s (c - i)) j (by omega) n2
          obtain ⟨s1, s2⟩ := shift_s2 (y * x) k mode (by omega) (by omega) hk20
          obtain ⟨f1, f2⟩ := fitI_s2 n wd (shiftI (y * x) k mode) (by omega) n2
          generalize hz : foldW n wd k mode (fun i => at0 h i * at0 s (c - i)) j = z at *
          have Hstep := hid hst
          clear hst hm hz hkx hky hcast hax hay
          have e1 : IntKind.i64.wrap (y * x) = y * x := IntWalk.i64_in _ (by omega)
          have e3 : IntKind.i64.wrap ((c : Int) - j) = (c : Int) - j := IntWalk.i64_in _ (by omega)
          have e4 : IntKind.i64.wrap (z + fitI n wd (shiftI (y * x) k mode)) = z + fitI n wd (shiftI (y * x) k mode) := IntWalk.i64_in _ (by omega)
          go_wp2_with fail
          go_region_held3 (fun W => W.cell? ⟨w.heap.size, 0, none⟩ = some (.int .i64 (n : Int)) ∧ W.cell? ⟨w.heap.size, 1, none⟩ = some (.bool wd) ∧ W.cell? ⟨bb, oo, none⟩ = some (.int .i64 x) ∧ W.cell? ⟨b2, o2, none⟩ = some (.int .i64 y)) (first | exact hS | assumption | go_keep) (first | (go_at_call 32; refine (wdShift_any (y * x) k mode _ hk20 (by omega) (by omega) Hmode.out).mono ?_; rintro e w' ⟨rfl, rfl⟩) | (go_at_call 31; refine (wdFit_any n wd _ _ (by omega) n2).mono ?_; rintro e w2 ⟨rfl, hb2⟩; (first | have hB := hB.trans (hb2.mono hB.size) | have hB := (Below.refl _ wr).drew.trans (hb2.mono (Nat.le_refl _))); have hS := cells4 hB cA cB hce hce2))
          all_goals clear e1 e3 e4 s1 s2 f1 f2
          all_goals go_wp2
          all_goals go_roundw
          case rel => exact ⟨j + 1, by omega, by go_num, by rw [Hstep.out], hbi.trans (hB.mono hbi.size)⟩
          case measure => simp [intOf]; omega
        · have hjM2 : j = M := by omega
          subst hjM2
          by_cases hjm : j < m
          · have hjc : ¬ (j ≤ c) := by have := HM.out; omega
            have q1 : (c : Int) < (j : Int) := by omega
            go_wp2_with (at_builtin; refine wpList_append_own _ rfl _ _ 22 rfl w1.heap.size 3 i0 (.int .i64 0) 1 8 uslice hi0 hz0 hz1 hz2 rfl (by decide) _ _ _ rfl ((ownsRow_below Hown.out hbi).alloc _) ⟨wr.heap.size, 0, none⟩ 1 1 [.int .i64 (foldW n wd k mode (fun i => at0 h i * at0 s (c - i)) j)] rfl rfl ?c1 ?c2 ?c3 ?c4 ?c5 ?_)
            case c1 => exact cell_one_new _ _ _
            case c2 => intro u hu; simp at hu; subst hu; rfl
            case c3 => unfold maxLen; omega
            case c4 => omega
            case c5 => have := hbi.size; simp; omega
            intro v' w3 hown3 hgrow _
            have hb3 : Below w1.heap.size w1 w3 := (hbw.alloc (Nat.le_trans hsz hbi.size) _).grown hgrow (by simp; have := hbi.size; omega) (fun j hj => Hob.out j hj)
            have Hown3 := hid hown3
            clear hown3 hgrow
            go_wp2
            go_roundw
            case rel => exact ⟨c + 1, by omega, by go_num, by rw [Hst.out, List.map_append, Hval.out]; exact Hown3.out, hb3⟩
            case measure => simp [intOf]; omega
          · have q1 : (m : Int) ≤ (j : Int) := by omega
            go_wp2_with (at_builtin; refine wpList_append_own _ rfl _ _ 22 rfl w1.heap.size 3 i0 (.int .i64 0) 1 8 uslice hi0 hz0 hz1 hz2 rfl (by decide) _ _ _ rfl ((ownsRow_below Hown.out hbi).alloc _) ⟨wr.heap.size, 0, none⟩ 1 1 [.int .i64 (foldW n wd k mode (fun i => at0 h i * at0 s (c - i)) j)] rfl rfl ?c1 ?c2 ?c3 ?c4 ?c5 ?_)
            case c1 => exact cell_one_new _ _ _
            case c2 => intro u hu; simp at hu; subst hu; rfl
            case c3 => unfold maxLen; omega
            case c4 => omega
            case c5 => have := hbi.size; simp; omega
            intro v' w3 hown3 hgrow _
            have hb3 : Below w1.heap.size w1 w3 := (hbw.alloc (Nat.le_trans hsz hbi.size) _).grown hgrow (by simp; have := hbi.size; omega) (fun j hj => Hob.out j hj)
            have Hown3 := hid hown3
            clear hown3 hgrow
            go_wp2
            go_roundw
            case rel => exact ⟨c + 1, by omega, by go_num, by rw [Hst.out, List.map_append, Hval.out]; exact Hown3.out, hb3⟩
            case measure => simp [intOf]; omega
    · have hge : (l : Int) ≤ (c : Int) := by omega
      have hkn : c = s.length := by rw [← Hn2.out]; omega
      have Hk := hid hkn
      have Hown := hid hown
      clear hkn hlk hown
      go_wp2
      go_ret2
      have ho := Hown.out
      rw [Hk.out] at ho
      exact gives_of HQ.out (show fwY n wd h s k mode = tab s.length (wordG n wd h s k mode) from by unfold fwY; rw [HQ.out]; rfl) ⟨_, rfl, (Res.owns (by rw [tab_len]; exact ho)).mono B1.size, bel_step B1 hb⟩

end Go.Proofs.Ytogffkgihjdbkaa
