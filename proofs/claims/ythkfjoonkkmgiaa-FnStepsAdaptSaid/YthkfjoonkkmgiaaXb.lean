
import Derived.Test.YthkfjoonkkmgiaaXa
import Derived.Test.YthkfjoonkkmgiaaQv
namespace Go.Proofs.Ythkfjoonkkmgiaa
open Go.RowKit BitX Go.MemX Go.Ch6 Go.Ch9 Go.ChV
set_option linter.unusedVariables false


set_option maxHeartbeats 4000000 in
theorem tnCode_any (v : Value) (s : List Int) (f : Int) (w : World) (hs : Sl w v s) (hs64 : s.length ≤ 64) (f1 : 1 ≤ f) (f2 : f ≤ 4096) :
    Calls Try.prog 32 #[v, .int .i64 f] w (Gives2 w (tab s.length (skB adI (cdB s) f)) (tab s.length (fun k => skV adI (cdB s) f (k + 1)))) := by
  obtain ⟨aa, n, cap, rfl, hn, hrd⟩ := id hs.rd
  have hl' : n ≤ 64 := by rw [hn]; exact hs64
  have hB0 : ∀ k v, k < s.length → (cdB s) k v = 1 ∨ (cdB s) k v = -1 := cdB_in s s.length
  have HBB := hid hB0
  have Hn := hid hn
  have Hrd := hid hrd
  obtain ⟨i0, hi0, hz0, hz1, hz2⟩ := info_parts iint
  clear hs hn hrd hB0 hs64
  go_enter Try.func32, Try.ntmps32
  go_wp2_with fail
  go_loopw [7, 8, 16] (fun v u i wr => ∃ c : Nat, c ≤ n ∧ i = .int .i64 c ∧ wr.ownsRow (w.heap.size + 1) 3 1 v c ((tab c (skB adI (cdB s) f)).map (Value.int .i64)) ∧ wr.ownsRow (w.heap.size + 1) 3 1 u c ((tab c (fun k => skV adI (cdB s) f (k + 1))).map (Value.int .i64)) ∧ Apart v u ∧ Box9 w.heap.size (skV adI (cdB s) f c) (skT adI (cdB s) f c) (skU adI (cdB s) f c) wr ∧ Below w.heap.size w wr)
    (fun _ _ i _ => n - (intOf i).toNat)
  case atStart => exact ⟨0, by omega, rfl, World.ownsRow_nil _ _ _ _, World.ownsRow_nil _ _ _ _, Apart.nil _, Box9.new w, by first | exact bel_alloc _ _ | exact (bel_alloc _ _).setCell (by exact Nat.le_refl _) _⟩
  case round =>
    obtain ⟨c, hc, rfl, hown1, hown2, hap, hbox, hb⟩ := hrel
    have hsz : w.heap.size + 1 ≤ wr.heap.size := hbox.lt
    by_cases hlk : c < n
    · obtain ⟨x, hkx⟩ := get_lt s c (by rw [← Hn.out]; exact hlk)
      obtain ⟨bb, oo, hix, hbb, hce⟩ := (Hrd.out.kept hb).at (P := Try.prog) (T := 24) n cap uslice sone hkx hlk
      have hcl : c < s.length := by rw [← Hn.out]; exact hlk
      have hs200 : s.length ≤ 200 := by rw [← Hn.out]; omega
      have hst1 := tab_step c (skB adI (cdB s) f)
      have hst2 := tab_step c (fun k => skV adI (cdB s) f (k + 1))
      have hbx : skB adI (cdB s) f c = bI x (skV adI (cdB s) f c) := (skB_eq adI (cdB s) f c).trans (cdB_at hkx _)
      have hbt := skB_in (nx := adI) (f := f) HBB.out c hcl
      have hnx := sk_next (f := f) HBB.out hcl
      have hnv := (skV_succ adI (cdB s) f c).trans (by rw [Int.mul_comm])
      obtain ⟨t1, t2⟩ := skT_in (B := (cdB s)) ad_keeps f1 f2 c
      obtain ⟨m1, m2⟩ := skT_in (B := (cdB s)) ad_keeps f1 f2 (c + 1)
      obtain ⟨z1, z2⟩ := skV_in' ad_keeps f1 f2 HBB.out c (by omega) (by omega)
      try dsimp only at hst1
      try dsimp only at hst2
      generalize hntt : skT adI (cdB s) f (c + 1) = nt at *
      generalize skT adI (cdB s) f c = t at *
      generalize hnvv : skV adI (cdB s) f (c + 1) = nz at *
      generalize skV adI (cdB s) f c = z at *
      generalize skU adI (cdB s) f c = u at *
      generalize hbtt : skB adI (cdB s) f c = bt at *
      generalize tab c (skB adI (cdB s) f) = ys at hst1 hown1
      generalize tab c (fun k => skV adI (cdB s) f (k + 1)) = zs at hst2 hown2
      have Hbx := hid hbx.symm
      have Hnx := hid hnx
      have Hnv := hid hnv
      have Hst1 := hid hst1
      have Hst2 := hid hst2
      have Hob1 := hid (ownsRow_base hown1)
      have Hob2 := hid (ownsRow_base hown2)
      have Hown1 := hid hown1
      have Hown2 := hid hown2
      have Hap := hid hap
      have Hbox := hid hbox
      have Hbtt := hid hbtt
      have Hnvv := hid hnvv
      have Hntt := hid hntt
      obtain ⟨c0, _, _⟩ := hbox.cells
      have Hbt := hid hbt
      clear hkx hst1 hst2 hown1 hown2 hap hnx hnv hbx hbtt hnvv hntt hbt hbox
      go_wp2_with fail
      refine (tnBit_any x z _).mono ?_
      rintro e w' ⟨rfl, rfl⟩
      rw [Hbx.out]
      go_wp2_with fail
      refine (take_any w.heap.size z t u bt nt nz _ Hbox.out (by omega) (by omega) t1 t2 Hbt.out Hnx.out Hnv.out).mono ?_
      rintro e w2 ⟨rfl, hbox2, ho⟩
      obtain ⟨d0, d1, d2⟩ := hbox2.cells
      have hb2 : Below w.heap.size w w2 := hb.trans ho.1
      have hsz2 : w.heap.size + 1 ≤ w2.heap.size := hbox2.lt
      have k1 := ownsRow_same9 Hown1.out fun j hj => ho.2.2 j (by omega)
      have k2 := ownsRow_same9 Hown2.out fun j hj => ho.2.2 j (by omega)
      have K1 := hid k1
      have K2 := hid k2
      have Hbox2 := hid hbox2
      clear k1 k2 ho hbox2 hb hsz c0
      go_wp2_with (at_builtin; refine wpList_append_own2 _ rfl _ _ 24 rfl (w.heap.size + 1) 3 i0 (.int .i64 0) 1 8 uslice hi0 hz0 hz1 hz2 rfl (by decide) _ _ _ rfl (K1.out.alloc _) ⟨w2.heap.size, 0, none⟩ 1 1 [.int .i64 (bt)] rfl rfl ?c1 ?c2 ?c3 ?c4 ?c5 ?_)
      case c1 => exact cell_one_new _ _ _
      case c2 => intro u hu; simp at hu; subst hu; rfl
      case c3 => unfold maxLen; omega
      case c4 => omega
      case c5 => simp; omega
      intro v' w3 hown3 hgrow hnew
      have hb3 : Below w.heap.size w w3 := (hb2.alloc (by omega) _).grown hgrow (by simp; omega) (fun j hj => by have := Hob1.out j hj; omega)
      have hbox3 := Hbox2.out.same ((hgrow.block w.heap.size (by simp; omega) (fun e => by have := Hob1.out _ e.symm; omega)).trans (Below.heap_alloc _ _ _ (by omega)))
      obtain ⟨e0, e1, e2⟩ := hbox3.cells
      have hsz3 : w.heap.size + 1 ≤ w3.heap.size := hbox3.lt
      have hu3 := owns_other (K2.out.alloc _) hgrow Hap.out
      have hap3 := Apart.grown Hap.out hnew (fun j hj => by have := (K2.out.lt j hj).2; omega)
      have Hown3 := hid hown3
      have Hu3 := hid hu3
      have Hap3 := hid hap3
      have Hbox3 := hid hbox3
      clear hown3 hgrow hnew hu3 hap3 hbox3 d0 d1 d2
      go_wp2_with (at_builtin; refine wpList_append_own2 _ rfl _ _ 24 rfl (w.heap.size + 1) 3 i0 (.int .i64 0) 1 8 uslice hi0 hz0 hz1 hz2 rfl (by decide) _ _ _ rfl (Hu3.out.alloc _) ⟨w3.heap.size, 0, none⟩ 1 1 [.int .i64 (nz)] rfl rfl ?c1 ?c2 ?c3 ?c4 ?c5 ?_)
      case c1 => exact cell_one_new _ _ _
      case c2 => intro u hu; simp at hu; subst hu; rfl
      case c3 => unfold maxLen; omega
      case c4 => omega
      case c5 => simp; omega
      intro u' w4 hown4 hgrow hnew
      have hb4 : Below w.heap.size w w4 := (hb3.alloc (by omega) _).grown hgrow (by simp; omega) (fun j hj => by have := Hob2.out j hj; omega)
      have hbox4 := Hbox3.out.same ((hgrow.block w.heap.size (by simp; omega) (fun e => by have := Hob2.out _ e.symm; omega)).trans (Below.heap_alloc _ _ _ (by omega)))
      have hv4 := owns_other (Hown3.out.alloc _) hgrow Hap3.out.symm
      have hap4 := (Apart.grown Hap3.out.symm hnew (fun j hj => by have := (Hown3.out.lt j hj).2; omega)).symm
      have Hown4 := hid hown4
      have Hv4 := hid hv4
      have Hap4 := hid hap4
      have Hbox4 := hid hbox4
      clear hown4 hgrow hnew hv4 hap4 hbox4 e0 e1 e2
      go_wp2
      go_roundw
      case rel => exact ⟨c + 1, by omega, by go_num, by rw [Hst1.out, List.map_append]; exact Hv4.out, by rw [Hst2.out, List.map_append]; exact Hown4.out, Hap4.out, by rw [skU_succ, Hnvv.out, Hntt.out, Hbtt.out]; exact Hbox4.out, hb4⟩
      case measure => simp [intOf]; omega
    · have hge : (n : Int) ≤ (c : Int) := by omega
      have hkn : c = s.length := by rw [← Hn.out]; omega
      have Hk := hid hkn
      have Hown1 := hid (hown1)
      have Hown2 := hid (hown2)
      clear hkn hlk hown1 hown2 hap hbox
      go_wp2
      go_ret2
      have ho1 := Hown1.out
      have ho2 := Hown2.out
      rw [Hk.out] at ho1 ho2
      exact ⟨_, _, rfl, (Res.owns (by rw [tab_len]; exact ho1)).mono (by omega), (Res.owns (by rw [tab_len]; exact ho2)).mono (by omega), hb⟩


set_option maxHeartbeats 4000000 in
theorem tnDecode_any (v : Value) (s : List Int) (f : Int) (w : World) (hs : Sl w v s) (hbit : BitP s) (f1 : 1 ≤ f) (f2 : f ≤ 4096) :
    Calls Try.prog 45 #[v, .int .i64 f] w (Gives2 w (tab s.length (fun k => skT adI (tlB s) f (k + 1))) (tab s.length (fun k => skV adI (tlB s) f (k + 1)))) := by
  obtain ⟨aa, n, cap, rfl, hn, hrd⟩ := id hs.rd
  have hl' : n ≤ 200 := by rw [hn]; exact hbit.1
  have hB0 : ∀ k v, k < s.length → (tlB s) k v = 1 ∨ (tlB s) k v = -1 := fun k v hk => by have := hbit.at hk; exact this
  have HBB := hid hB0
  have Hn := hid hn
  have Hrd := hid hrd
  obtain ⟨i0, hi0, hz0, hz1, hz2⟩ := info_parts iint
  clear hs hn hrd hB0 hbit
  go_enter Try.func45, Try.ntmps45
  go_wp2_with fail
  go_loopw [7, 8, 15] (fun v u i wr => ∃ c : Nat, c ≤ n ∧ i = .int .i64 c ∧ wr.ownsRow (w.heap.size + 1) 3 1 v c ((tab c (fun k => skT adI (tlB s) f (k + 1))).map (Value.int .i64)) ∧ wr.ownsRow (w.heap.size + 1) 3 1 u c ((tab c (fun k => skV adI (tlB s) f (k + 1))).map (Value.int .i64)) ∧ Apart v u ∧ Box9 w.heap.size (skV adI (tlB s) f c) (skT adI (tlB s) f c) (skU adI (tlB s) f c) wr ∧ Below w.heap.size w wr)
    (fun _ _ i _ => n - (intOf i).toNat)
  case atStart => exact ⟨0, by omega, rfl, World.ownsRow_nil _ _ _ _, World.ownsRow_nil _ _ _ _, Apart.nil _, Box9.new w, by first | exact bel_alloc _ _ | exact (bel_alloc _ _).setCell (by exact Nat.le_refl _) _⟩
  case round =>
    obtain ⟨c, hc, rfl, hown1, hown2, hap, hbox, hb⟩ := hrel
    have hsz : w.heap.size + 1 ≤ wr.heap.size := hbox.lt
    by_cases hlk : c < n
    · obtain ⟨x, hkx⟩ := get_lt s c (by rw [← Hn.out]; exact hlk)
      obtain ⟨bb, oo, hix, hbb, hce⟩ := (Hrd.out.kept hb).at (P := Try.prog) (T := 24) n cap uslice sone hkx hlk
      have hcl : c < s.length := by rw [← Hn.out]; exact hlk
      have hs200 : s.length ≤ 200 := by rw [← Hn.out]; omega
      have hst1 := tab_step c (fun k => skT adI (tlB s) f (k + 1))
      have hst2 := tab_step c (fun k => skV adI (tlB s) f (k + 1))
      have hbx : skB adI (tlB s) f c = x := (skB_eq adI (tlB s) f c).trans (tlB_at hkx _)
      have hbt := skB_in (nx := adI) (f := f) HBB.out c hcl
      have hnx := sk_next (f := f) HBB.out hcl
      have hnv := (skV_succ adI (tlB s) f c).trans (by rw [Int.mul_comm])
      obtain ⟨t1, t2⟩ := skT_in (B := (tlB s)) ad_keeps f1 f2 c
      obtain ⟨m1, m2⟩ := skT_in (B := (tlB s)) ad_keeps f1 f2 (c + 1)
      obtain ⟨z1, z2⟩ := skV_in' ad_keeps f1 f2 HBB.out c (by omega) (by omega)
      try dsimp only at hst1
      try dsimp only at hst2
      generalize hntt : skT adI (tlB s) f (c + 1) = nt at *
      generalize skT adI (tlB s) f c = t at *
      generalize hnvv : skV adI (tlB s) f (c + 1) = nz at *
      generalize skV adI (tlB s) f c = z at *
      generalize skU adI (tlB s) f c = u at *
      generalize hbtt : skB adI (tlB s) f c = bt at *
      generalize tab c (fun k => skT adI (tlB s) f (k + 1)) = ys at hst1 hown1
      generalize tab c (fun k => skV adI (tlB s) f (k + 1)) = zs at hst2 hown2
      have Hbx := hid hbx.symm
      have Hnx := hid hnx
      have Hnv := hid hnv
      have Hst1 := hid hst1
      have Hst2 := hid hst2
      have Hob1 := hid (ownsRow_base hown1)
      have Hob2 := hid (ownsRow_base hown2)
      have Hown1 := hid hown1
      have Hown2 := hid hown2
      have Hap := hid hap
      have Hbox := hid hbox
      have Hbtt := hid hbtt
      have Hnvv := hid hnvv
      have Hntt := hid hntt
      obtain ⟨c0, _, _⟩ := hbox.cells
      have Hbt := hid hbt
      clear hkx hst1 hst2 hown1 hown2 hap hnx hnv hbx hbtt hnvv hntt hbt hbox
      have hxb : bt = x := Hbx.out.symm
      subst hxb
      go_wp2_with fail
      refine (take_any w.heap.size z t u bt nt nz _ Hbox.out (by omega) (by omega) t1 t2 Hbt.out Hnx.out Hnv.out).mono ?_
      rintro e w2 ⟨rfl, hbox2, ho⟩
      obtain ⟨d0, d1, d2⟩ := hbox2.cells
      have hb2 : Below w.heap.size w w2 := hb.trans ho.1
      have hsz2 : w.heap.size + 1 ≤ w2.heap.size := hbox2.lt
      have k1 := ownsRow_same9 Hown1.out fun j hj => ho.2.2 j (by omega)
      have k2 := ownsRow_same9 Hown2.out fun j hj => ho.2.2 j (by omega)
      have K1 := hid k1
      have K2 := hid k2
      have Hbox2 := hid hbox2
      clear k1 k2 ho hbox2 hb hsz c0
      go_wp2_with (at_builtin; refine wpList_append_own2 _ rfl _ _ 24 rfl (w.heap.size + 1) 3 i0 (.int .i64 0) 1 8 uslice hi0 hz0 hz1 hz2 rfl (by decide) _ _ _ rfl (K1.out.alloc _) ⟨w2.heap.size, 0, none⟩ 1 1 [.int .i64 (nt)] rfl rfl ?c1 ?c2 ?c3 ?c4 ?c5 ?_)
      case c1 => exact cell_one_new _ _ _
      case c2 => intro u hu; simp at hu; subst hu; rfl
      case c3 => unfold maxLen; omega
      case c4 => omega
      case c5 => simp; omega
      intro v' w3 hown3 hgrow hnew
      have hb3 : Below w.heap.size w w3 := (hb2.alloc (by omega) _).grown hgrow (by simp; omega) (fun j hj => by have := Hob1.out j hj; omega)
      have hbox3 := Hbox2.out.same ((hgrow.block w.heap.size (by simp; omega) (fun e => by have := Hob1.out _ e.symm; omega)).trans (Below.heap_alloc _ _ _ (by omega)))
      obtain ⟨e0, e1, e2⟩ := hbox3.cells
      have hsz3 : w.heap.size + 1 ≤ w3.heap.size := hbox3.lt
      have hu3 := owns_other (K2.out.alloc _) hgrow Hap.out
      have hap3 := Apart.grown Hap.out hnew (fun j hj => by have := (K2.out.lt j hj).2; omega)
      have Hown3 := hid hown3
      have Hu3 := hid hu3
      have Hap3 := hid hap3
      have Hbox3 := hid hbox3
      clear hown3 hgrow hnew hu3 hap3 hbox3 d0 d1 d2
      go_wp2_with (at_builtin; refine wpList_append_own2 _ rfl _ _ 24 rfl (w.heap.size + 1) 3 i0 (.int .i64 0) 1 8 uslice hi0 hz0 hz1 hz2 rfl (by decide) _ _ _ rfl (Hu3.out.alloc _) ⟨w3.heap.size, 0, none⟩ 1 1 [.int .i64 (nz)] rfl rfl ?c1 ?c2 ?c3 ?c4 ?c5 ?_)
      case c1 => exact cell_one_new _ _ _
      case c2 => intro u hu; simp at hu; subst hu; rfl
      case c3 => unfold maxLen; omega
      case c4 => omega
      case c5 => simp; omega
      intro u' w4 hown4 hgrow hnew
      have hb4 : Below w.heap.size w w4 := (hb3.alloc (by omega) _).grown hgrow (by simp; omega) (fun j hj => by have := Hob2.out j hj; omega)
      have hbox4 := Hbox3.out.same ((hgrow.block w.heap.size (by simp; omega) (fun e => by have := Hob2.out _ e.symm; omega)).trans (Below.heap_alloc _ _ _ (by omega)))
      have hv4 := owns_other (Hown3.out.alloc _) hgrow Hap3.out.symm
      have hap4 := (Apart.grown Hap3.out.symm hnew (fun j hj => by have := (Hown3.out.lt j hj).2; omega)).symm
      have Hown4 := hid hown4
      have Hv4 := hid hv4
      have Hap4 := hid hap4
      have Hbox4 := hid hbox4
      clear hown4 hgrow hnew hv4 hap4 hbox4 e0 e1 e2
      go_wp2
      go_roundw
      case rel => exact ⟨c + 1, by omega, by go_num, by rw [Hst1.out, List.map_append]; exact Hv4.out, by rw [Hst2.out, List.map_append]; exact Hown4.out, Hap4.out, by rw [skU_succ, Hnvv.out, Hntt.out, Hbtt.out]; exact Hbox4.out, hb4⟩
      case measure => simp [intOf]; omega
    · have hge : (n : Int) ≤ (c : Int) := by omega
      have hkn : c = s.length := by rw [← Hn.out]; omega
      have Hk := hid hkn
      have Hown1 := hid (hown1)
      have Hown2 := hid (hown2)
      clear hkn hlk hown1 hown2 hap hbox
      go_wp2
      go_ret2
      have ho1 := Hown1.out
      have ho2 := Hown2.out
      rw [Hk.out] at ho1 ho2
      exact ⟨_, _, rfl, (Res.owns (by rw [tab_len]; exact ho1)).mono (by omega), (Res.owns (by rw [tab_len]; exact ho2)).mono (by omega), hb⟩

end Go.Proofs.Ythkfjoonkkmgiaa
