
import Derived.Test.YtbbfigbfkhlddaaPw
namespace Go.Proofs.Ytbbfigbfkhlddaa
open Go.RowKit BitX Go.MemX Go.ShX
open Go.Maps (Keyed IsMap)
set_option linter.unusedVariables false


/-- the cells of the first pairs of a way -/
def wps (ow : Nat → Int × Int) (n : Nat) : List Value := (List.range n).flatMap fun i => [.int .i64 (ow i).1, .int .i64 (ow i).2]
theorem wps_succ (ow : Nat → Int × Int) (n : Nat) : wps ow (n + 1) = wps ow n ++ [.int .i64 (ow n).1, .int .i64 (ow n).2] := by
  unfold wps; rw [List.range_succ, List.flatMap_append]; simp
def lenV : Value → Nat
  | .slice _ n _ => n
  | _ => 0
theorem own_ne {w : World} {B : Nat} {e : TypeId} {size : Nat} {v : Value} {n : Nat} {xs : List Value} (h : w.ownsRow B e size v n xs) {j : Nat} (hj : j < B) : v.ownBlock ≠ some j := fun e => by
  have := (h.lt j e).1
  omega
theorem form_own {w : World} {base : Nat} {e : TypeId} {size : Nat} {v : Value} {n : Nat} {xs : List Value} (h : w.ownsRow base e size v n xs) : ∃ a cap, v = .slice a n cap := by
  obtain ⟨_, h | ⟨g, cap, cur, hv, r⟩⟩ := h
  · exact ⟨none, 0, by rw [h.1, h.2]⟩
  · exact ⟨_, _, hv⟩
theorem own_mono {w : World} {base B : Nat} {e : TypeId} {size : Nat} {v : Value} {n : Nat} {xs : List Value} (h : w.ownsRow base e size v n xs) (hB : B ≤ base) : w.ownsRow B e size v n xs := by
  obtain ⟨h1, h2 | ⟨g, cap, cur, hv, hb, r⟩⟩ := h
  · exact ⟨h1, .inl h2⟩
  · exact ⟨h1, .inr ⟨g, cap, cur, hv, Nat.le_trans hB hb, r⟩⟩
theorem ret_vib {v : Value} {i j : Int} {b c : Bool} (h1 : i = j) (h2 : b = c) : Ending.returned (.tuple #[v, .int .i64 i, .bool b]) = .returned (.tuple #[v, .int .i64 j, .bool c]) := by rw [h1, h2]
theorem heap_alloc_P (w : World) (o : Obj) {g : Nat} (hg : g < w.heap.size) : (w.alloc o).heap[g]? = w.heap[g]? := by
  show (w.heap.push o)[g]? = _
  rw [Array.getElem?_push, if_neg (by omega)]
theorem cell2_new (w : World) (a b : Value) (T : TypeId) : ∀ j u, [a, b][j]? = some u → (w.alloc (.cells #[a, b] T)).cell? ((⟨w.heap.size, 0, none⟩ : Addr).add j) = some u := by
  intro j u hj
  rw [Go.WideShapes.add_plain, Nat.zero_add, World.cell?_alloc_at _ _ _ _ rfl]
  match j, hj with
  | 0, hj => simpa using hj
  | 1, hj => simpa using hj
  | j + 2, hj => simp at hj
theorem plain2 (y z : Int) : ∀ u, u ∈ [Value.int .i64 y, .int .i64 z] → u.oneCell' = true := by
  intro u hu; simp at hu; rcases hu with rfl | rfl <;> rfl

set_option maxHeartbeats 2000000 in
theorem pairWay_any (F : Int → Int → Int) (p : Int × Int) (g : Nat) (lb : Array Value) (eg : ∀ (args : Array Value) (w : World), (callFunc g args).run Try.prog w = .ok (.enter g args) w) (w : World) (hin : InPr (orb2 (nxP F) p)) (hf : NextSAt Try.prog g lb F w) :
    Calls Try.prog 17 #[.agg #[.int .i64 p.1, .int .i64 p.2], .func (.func g) #[] lb] w fun e w' => ∃ v, e = .returned (.tuple #[v, .int .i64 (((perR (orb2 (nxP F) p)).1 : Nat) : Int), .bool (decide ((perR (orb2 (nxP F) p)).2 ≠ 0))]) ∧ w'.ownsRow w.heap.size 48 2 v ((perR (orb2 (nxP F) p)).1 + (perR (orb2 (nxP F) p)).2) (wps (orb2 (nxP F) p) ((perR (orb2 (nxP F) p)).1 + (perR (orb2 (nxP F) p)).2)) ∧ Below w.heap.size w w' := by
  have hmm := @run_makeMap Try.prog
  have Hf := hid hf
  have Hin := hid hin
  have ho1 : ∀ c, orb2 (nxP F) p (c + 1) = (F (orb2 (nxP F) p c).1 (orb2 (nxP F) p c).2, (orb2 (nxP F) p c).1) := fun c => rfl
  have Ho1 := hid ho1
  have Ho0 := hid (show orb2 (nxP F) p 0 = p from rfl)
  obtain ⟨i0, hi0, hz0, hz1, hz2⟩ := info_parts iPair
  have hzc : (Value.agg #[.int .i64 0, .int .i64 0]).cells.size = 2 := rfl
  generalize orb2 (nxP F) p = ow at *
  clear hf hin ho1
  go_enter Try.func17, Try.ntmps17
  go_wp2_with fail
  have zs : (w.alloc (.cells #[.int .i64 p.1, .int .i64 p.2] 48)).heap.size = w.heap.size + 1 := by simp
  go_loopw [7] (fun v7 wr => ∃ (c : Nat) (vv : Value), c ≤ 20001 ∧ vv = v7 ∧ wr.ownsRow (w.heap.size + 2) 48 2 vv c (wps ow c) ∧ wr.ownsMap Try.prog 48 (plainElem Try.prog 3) (w.heap.size + 1) c (dmP ow c) ∧ PB 48 w.heap.size (ow c) wr ∧ Hid (∀ i j, i < j → j < c → ow i ≠ ow j) ∧ Below w.heap.size w wr)
    (fun v7 _ => 20002 - lenV v7)
  case atStart =>
    refine ⟨0, _, by omega, rfl, World.ownsRow_nil _ _ _ _, ?_, ?_, hid fun i j _ hj => by omega, ?_⟩
    · have hmk := World.ownsMap_made (w.alloc (.cells #[.int .i64 p.1, .int .i64 p.2] 48)) Try.prog 48 (plainElem (H := Unit) Try.prog 3)
      rw [zs] at hmk
      exact hmk
    · rw [Ho0.out]
      exact (PB.made w 48 p.1 p.2).kept (bel_alloc _ _) (by simp)
    · exact bel_step (bel_alloc _ _) (bel_alloc _ _)
  case round =>
    obtain ⟨c, vv, hc, rfl, hown, hmap, hpb, HA, hb⟩ := hrel
    obtain ⟨sa, scap, rfl⟩ := form_own hown
    have hsz : w.heap.size + 1 < wr.heap.size := hmap.lt
    by_cases h2 : c ≤ 20000
    · obtain ⟨⟨y, z⟩, hyz⟩ : ∃ q : Int × Int, ow c = q := ⟨_, rfl⟩
      have hin := Hin.out c
      rw [hyz] at hin
      obtain ⟨⟨y1, y2⟩, z1, z2⟩ := hin
      have hkey := kl2_at (p := (y, z)) ⟨y1, y2⟩ ⟨z1, z2⟩
      simp only at y1 y2 z1 z2 hkey
      rw [hyz] at hpb
      have k0 := hpb.c0
      have k1 := hpb.c1
      simp only at k0 k1
      have HK := hid hkey
      by_cases hx : ∃ i, i < c ∧ ow i = ow c
      · obtain ⟨j, hj, he⟩ := hx
        have hd := dmP_yes Hin.out hj he HA.out (.lit (.int .i64 0))
        rw [hyz] at hd
        have Hd := hid hd
        have HR := hid (show perR ow = (j, c - j) from perR_yes ⟨by omega, by rw [show j + (c - j) = c from by omega]; exact he.symm, fun a b hab hlt => HA.out a b hab (by omega)⟩ (by omega))
        have Hown := hid (own_mono hown (show w.heap.size ≤ w.heap.size + 2 from by omega))
        clear hkey hyz hd he hown HA
        go_wp2_with (at_lookup; go_loud (refine wpList_lookup_own_ok_int _ rfl _ _ 58 rfl 48 3 .i64 lawP umapN uintN (zeroI _) (w.heap.size + 1) c (dmP ow c) rfl hmap _ _ rfl HK.out ?_; intro x hat hwc; have hxj : Hid (x = (j : Int)) := hid (by have := hat.symm.trans Hd.out.2; simpa using this); clear hat hwc; rw [Hd.out.1]))
        go_ret3
        have e1 : x = (((perR ow).1 : Nat) : Int) := by rw [HR.out]; exact hxj.out
        have e2 : true = decide ((perR ow).2 ≠ 0) := by rw [HR.out]; exact (decide_eq_true (by show c - j ≠ 0; omega)).symm
        have hr1 : wr.ownsRow w.heap.size 48 2 (.slice sa c scap) ((perR ow).1 + (perR ow).2) (wps ow ((perR ow).1 + (perR ow).2)) := by
          rw [HR.out]
          show wr.ownsRow w.heap.size 48 2 _ (j + (c - j)) (wps ow (j + (c - j)))
          rw [show j + (c - j) = c from by omega]; exact Hown.out
        exact ⟨.slice sa c scap, ret_vib e1 e2, hr1, hb⟩
      · have hap : ∀ j, j < c → ow j ≠ ow c := fun j hj he => hx ⟨j, hj, he⟩
        have hd := dmP_no Hin.out (i := c) hap
        rw [hyz] at hd
        have Hd := hid hd
        have HA2 := hid (show ∀ i j, i < j → j < c + 1 → ow i ≠ ow j from fun i j hij hj => by
          by_cases e : j = c
          · subst e; exact hap i hij
          · exact HA.out i j hij (by omega))
        have Hst := hid (show dmP ow (c + 1) = (dmP ow c).put (kl2 (y, z)) (.lit (.int .i64 (c : Int))) from by rw [← hyz]; rfl)
        have Hws := hid (show wps ow (c + 1) = wps ow c ++ [.int .i64 y, .int .i64 z] from by rw [wps_succ, hyz])
        have Hnx := hid (show ow (c + 1) = (F y z, y) from by rw [Ho1.out, hyz])
        have Hown := hid hown
        have Hmap := hid hmap
        have Hpb := hid hpb
        clear hkey hyz hd hown HA hap hx hmap hpb
        go_wp2_with (first
          | (at_lookup; refine wpList_lookup_own_ok_int _ rfl _ _ 58 rfl 48 3 .i64 lawP umapN uintN (zeroI _) (w.heap.size + 1) c (dmP ow c) rfl Hmap.out _ _ rfl HK.out ?_; intro x hat hwc; clear hat hwc; rw [Hd.out])
          | (at_mapUpdate; go_loud (refine wpList_mapUpdate_own _ rfl _ _ _ 58 rfl 48 3 lawP umapN _ (w.heap.size + 1) c _ rfl Hmap.out (by unfold maxLen; omega) _ _ _ rfl rfl HK.out _ [] (plainElem_int uintN (WalkArith.wf_i64 (n := (c : Int)) (by omega))) ?_; intro w1 hmap1 hg1; have hp1 := Hpb.out.same (hg1.block _ (by omega) (by simp)); have k01 := hp1.c0; have k11 := hp1.c1; simp only at k01 k11; have Hown1 := hid (Hown.out.kept hg1 (.inr (own_ne Hown.out (by omega)))); have Hp1 := hid hp1; have Hmap1 := hid hmap1; have Hb1 := hid (hb.grown hg1 hb.size (fun j hj => by cases hj; omega)); have Hs1 := hid hg1.size; clear hmap1 hg1 hp1))
          | (at_builtin; go_loud (refine wpList_append_own _ rfl _ _ 44 rfl (w.heap.size + 2) 48 i0 (.agg #[.int .i64 0, .int .i64 0]) 2 16 uslP hi0 hz0 hz1 hz2 hzc (by decide) _ _ _ rfl (Hown1.out.alloc _) ⟨w1.heap.size, 0, none⟩ 1 1 [.int .i64 y, .int .i64 z] rfl rfl (cell2_new _ _ _ _) (plain2 y z) (by unfold maxLen; omega) (by have := Hs1.out; omega) (by have := Hs1.out; simp; omega) ?_); intro v' w3 hown3 hg3 hl3; have Hown3 := hid hown3; have Hp3 := hid (((Hp1.out.same (heap_alloc_P _ _ Hp1.out.lt)).same (hg3.block _ (by simp; have := Hs1.out; omega) (fun e => own_ne Hown1.out (by omega) e.symm)))); have Hmap3 := hid ((Hmap1.out.alloc _).kept hg3 (fun e => own_ne Hown1.out (by omega) e.symm)); have Hb3 := hid ((Hb1.out.alloc (by have := Hs1.out; omega) _).grown hg3 (by simp; have := Hs1.out; omega) (fun j hj => by have := (Hown1.out.lt j hj).1; omega)); have k03 := Hp3.out.c0; have k13 := Hp3.out.c1; simp only at k03 k13; clear hown3 hg3 hl3 k01 k11)
          | (go_at_fn g; refine ((Hf.out.later Hb3.out) _ y z (Below.refl _ _) y1 y2 z1 z2).mono ?_; rintro e w4 ⟨rfl, hb4⟩; have Hp4 := hid (Hp3.out.kept hb4 Hp3.out.lt); have Hmap4 := hid (ownsMap_same Hmap3.out (hb4.block _ Hmap3.out.lt)); have Hown4 := hid (ownsRow_sameP Hown3.out hb4.size (fun j _ hj => hb4.block j hj)); have Hb4 := hid (bel_step Hb3.out hb4); have f04 := Hp4.out.free 0; have f14 := Hp4.out.free 1; have k04 := Hp4.out.c0; have k14 := Hp4.out.c1; simp only at k04 k14; clear hb4))
        obtain ⟨sa2, scap2, rfl⟩ := form_own Hown4.out
        have hss : ∀ (a b : Value) (j : Nat), j ≠ w.heap.size → ((w4.setCell ⟨w.heap.size, 0, none⟩ a).setCell ⟨w.heap.size, 1, none⟩ b).heap[j]? = w4.heap[j]? := fun a b j hj => by
          rw [heap_setCell_other _ _ _ _ (by exact hj), heap_setCell_other _ _ _ _ (by exact hj)]
        refine ⟨⟨c + 1, _, by omega, rfl, ?_, ?_, ?_, HA2, ?_⟩, by simp only [lenV]; omega⟩
        · rw [Hws.out]
          exact ownsRow_sameP Hown4.out (by simp) (fun j hj _ => hss _ _ j (by omega))
        · rw [Hst.out]
          exact ownsMap_same Hmap4.out (hss _ _ _ (by omega))
        · rw [Hnx.out]
          exact Hp4.out.store _ _
        · exact (Hb4.out.setCell (by exact Nat.le_refl _) _).setCell (by exact Nat.le_refl _) _
    · have hge : (20000 : Int) < (c : Int) := by omega
      have HR := hid (show perR ow = (0, 0) from perR_apart fun i j hij hj => HA.out i j hij (by omega))
      clear HA h2 hown hmap hpb
      go_wp2
      go_ret3
      have e1 : (0 : Int) = (((perR ow).1 : Nat) : Int) := by rw [HR.out]; rfl
      have e2 : false = decide ((perR ow).2 ≠ 0) := by rw [HR.out]; rfl
      exact ⟨.slice none 0 0, ret_vib e1 e2, by rw [HR.out]; exact World.ownsRow_nil _ _ _ _, hb⟩

end Go.Proofs.Ytbbfigbfkhlddaa
