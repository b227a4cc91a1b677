
import Derived.Test.YtbhlailnefappaaQq
import Derived.Test.YtbhlailnefappaaQx
import Derived.Test.YtbhlailnefappaaEu
import Derived.Deep.QuietTactic
import Derived.BigQuiet
namespace Go.Proofs.Ytbhlailnefappaa
open Go.RowKit BitX Go.MemX Go.Conc Go.ChV
set_option linter.unusedVariables false

/-- the two bit modulator's own memory, with what the states' list holds -/
def InvU (A : Nat) (m : Int) (s : List Int) (i : Nat) (w : World) : Prop :=
  w.cell? ⟨A, 0, none⟩ = some (.int .i64 m) ∧ (w.cell? ⟨A + 2, 0, none⟩ = some (.int .i64 (twA m s i)) ∧ w.frozen? ⟨A + 2, 0, none⟩ = false) ∧ (w.cell? ⟨A + 3, 0, none⟩ = some (.int .i64 (twB m s i)) ∧ w.frozen? ⟨A + 3, 0, none⟩ = false) ∧ w.frozen? ⟨A + 1, 0, none⟩ = false ∧
  ∃ v vs, w.cell? ⟨A + 1, 0, none⟩ = some v ∧ w.ownsRow (A + 7) 24 1 v i vs ∧ PSr (A + 7) w vs (prL m s) ∧ Off vs v ∧ vs.length = i
theorem InvU.keep {A : Nat} {m : Int} {s : List Int} {i : Nat} {w w' : World} (h : InvU A m s i w) (hb : ∀ b, ¬ (A + 4 ≤ b ∧ b < A + 4 + 3) → w'.heap[b]? = w.heap[b]?) : InvU A m s i w' := by
  obtain ⟨h1, ⟨h2, h3⟩, ⟨g2, g3⟩, h4, v, vs, h5, h6, h7, h8, h9⟩ := h
  have c : ∀ b, b < A + 4 → w'.cell? ⟨b, 0, none⟩ = w.cell? ⟨b, 0, none⟩ := fun b hbb => World.cell?_of_block (hb b (by omega))
  have f : ∀ b, b < A + 4 → w'.frozen? ⟨b, 0, none⟩ = w.frozen? ⟨b, 0, none⟩ := fun b hbb => World.frozen?_of_block (hb b (by omega))
  exact ⟨(c _ (by omega)).trans h1, ⟨(c _ (by omega)).trans h2, (f _ (by omega)).trans h3⟩, ⟨(c _ (by omega)).trans g2, (f _ (by omega)).trans g3⟩, (f _ (by omega)).trans h4, v, vs, (c _ (by omega)).trans h5, ownsRow_same h6 fun j hj => hb j (by omega), h7.same fun x hx g hg => hb g (by have := (h7.lt x hx g hg).1; omega), h8, h9⟩

set_option maxHeartbeats 400000 in
theorem levelU (A : Nat) (m : Int) (s : List Int) (i : Nat) (x : Int) (w : World) (hI : InvU A m s i w) :
    Calls Try.prog 84 (#[.int .i64 x] ++ #[.pointer (some ⟨A + 3, 0, none⟩)]) w fun e w' => e = .returned (.int .i64 (twB m s i)) ∧ w = w' := by
  obtain ⟨h1, ⟨h2, h3⟩, ⟨g2, g3⟩, h4, v, vs, h5, h6, h7, h8, h9⟩ := hI
  generalize twB m s i = z at *
  clear h6 h7 h8 h9
  show Calls Try.prog 84 #[.int .i64 x, .pointer (some ⟨A + 3, 0, none⟩)] w _
  go_enter Try.func84, Try.ntmps84
  go_wp2
  go_ret
  exact ⟨rfl, rfl⟩




set_option maxHeartbeats 4000000 in
theorem settleU (A : Nat) (m : Int) (s : List Int) (i : Nat) (x : Int) (w : World) (hI : InvU A m s i w) (hx : s[i]? = some x) (hsz : A + 4 + 3 ≤ w.heap.size) (hi64 : i ≤ 64) (m1 : 1 ≤ m) (m2 : m ≤ 1000) (hs : InP (-m) m s) :
    Calls Try.prog 85 (#[.int .i64 x, .int .i64 (biI (twB m s i))] ++ #[.pointer (some ⟨A + 2, 0, none⟩), .pointer (some ⟨A, 0, none⟩), .pointer (some ⟨A + 3, 0, none⟩), .pointer (some ⟨A + 1, 0, none⟩)]) w fun e w' => e = .returned (.tuple #[]) ∧ InvU A m s (i + 1) w' ∧ (∀ b, A + 4 ≤ b → b < A + 4 + 3 → w'.heap[b]? = w.heap[b]?) ∧ Below A w w' := by
  obtain ⟨h1, ⟨h2, h3⟩, ⟨g2, g3⟩, h4, v, vs, h5, h6, h7, h8, h9⟩ := hI
  obtain ⟨⟨a1, a2⟩, b1, b2⟩ := tw_in (s := s) m1 m2 (at0_inp hs (by omega)) i hi64
  obtain ⟨x1, x2⟩ := hs.at hx
  have hax := at0_of hx
  obtain ⟨i1, hi1, hy0, hy1, hy2⟩ := info_parts2
  clear hx hs
  show Calls Try.prog 85 #[.int .i64 x, .int .i64 (biI (twB m s i)), .pointer (some ⟨A + 2, 0, none⟩), .pointer (some ⟨A, 0, none⟩), .pointer (some ⟨A + 3, 0, none⟩), .pointer (some ⟨A + 1, 0, none⟩)] w _
  by_cases h0 : 0 ≤ twB m s i
  · have hbt : twO m s i = 1 := biI_t h0
    rw [show biI (twB m s i) = 1 from hbt]
    have hsa : twA m s (i + 1) = twA m s i + (x - m) := by rw [twA_succ, hbt, hax]; omega
    have hsb : twB m s (i + 1) = twB m s i + (twA m s i + (x - m) - m) := by rw [twB_succ, hsa, hbt]; omega
    generalize twA m s i = a at *
    generalize twB m s i = b at *
    have Hsa := hid hsa
    have Hsb := hid hsb
    have Hown := hid h6
    have Hob := hid (ownsRow_base h6)
    have Hps := hid h7
    have Hoff := hid h8
    have Hlen := hid h9
    have hbase : A + 7 ≤ w.heap.size := hsz
    clear hsa hsb h6 h7 h8 h9 hax hbt
    go_enter Try.func85, Try.ntmps85
    go_wp2_with (at_builtin; refine wpList_append_own2 _ rfl _ _ 36 rfl (A + 7) 24 i1 (.slice none 0 0) 1 24 uslice2 hi1 hy0 hy1 hy2 rfl (by decide) _ _ _ rfl (((ownsRow_same Hown.out (w' := ((w.setCell ⟨A + 2, 0, none⟩ (.int .i64 (a + (x - m)))).setCell ⟨A + 3, 0, none⟩ (.int .i64 (b + (a + (x - m) - m))))) fun j hj => (Below.heap_setCell _ _ _ _ (by show j ≠ A + 3; omega)).trans (Below.heap_setCell _ _ _ _ (by show j ≠ A + 2; omega))).alloc _).alloc _) ⟨w.heap.size + 1, 0, none⟩ 1 1 [.slice (some ⟨w.heap.size, 0, none⟩) 2 2] rfl rfl ?c1 ?c2 ?c3 ?c4 ?c5 ?_)
    (try case c1 => first | exact c1_set2 | rfl)
    (try case c2 => first | rfl | (intro u hu; simp at hu; subst hu; rfl))
    case c3 => unfold maxLen; omega
    case c4 => omega
    (try case c5 => first | omega | (simp; omega))
    intro v' w3 hown3 hgrow hnew
    have hbp : Blk 3 (((w.setCell ⟨A + 2, 0, none⟩ (.int .i64 (a + (x - m)))).setCell ⟨A + 3, 0, none⟩ (.int .i64 (b + (a + (x - m) - m)))).alloc (.cells #[.int .i64 (a + (x - m)), .int .i64 (b + (a + (x - m) - m))] 3)) w.heap.size [a + (x - m), b + (a + (x - m) - m)] := by have h := blk_pair ((w.setCell ⟨A + 2, 0, none⟩ (.int .i64 (a + (x - m)))).setCell ⟨A + 3, 0, none⟩ (.int .i64 (b + (a + (x - m) - m)))) (a + (x - m)) (b + (a + (x - m) - m)) 3; rwa [World.size_setCell, World.size_setCell] at h
    have hps2 : PSr (A + 7) ((w.setCell ⟨A + 2, 0, none⟩ (.int .i64 (a + (x - m)))).setCell ⟨A + 3, 0, none⟩ (.int .i64 (b + (a + (x - m) - m)))) vs (prL m s) := PSr.same Hps.out fun x hx g hg => (Below.heap_setCell _ _ _ _ (by show g ≠ A + 3; have := (Hps.out.lt x hx g hg).1; omega)).trans (Below.heap_setCell _ _ _ _ (by show g ≠ A + 2; have := (Hps.out.lt x hx g hg).1; omega))
    have hps3 := PSr.grown (((hps2.alloc _).push (g := w.heap.size) hbase (by rw [Hlen.out]; unfold prL; rw [Hsa.out, Hsb.out]; exact hbp) (fun x hx e => by have := (Hps.out.lt x hx _ e).2; omega)).alloc _) hgrow (Off.push Hoff.out (fun e => by have := (Hown.out.lt _ e).2; omega))
    have hoff3 := Off.grown (Off.push Hoff.out (g := w.heap.size) (fun e => by have := (Hown.out.lt _ e).2; omega)) hnew (fun x hx g hg => by
      rcases List.mem_append.1 hx with hx | hx
      · have := (Hps.out.lt x hx g hg).2; simp; omega
      · simp at hx; subst hx; cases hg; simp; omega)
    have Hps3 := hid hps3
    clear hbp hps2 hps3 hnew
    obtain ⟨av, cv, rfl⟩ := ownsRow_form hown3
    have Hoff3 := hid hoff3
    clear hoff3
    have hk : ∀ j, j < A + 7 → w3.heap[j]? = ((w.setCell ⟨A + 2, 0, none⟩ (.int .i64 (a + (x - m)))).setCell ⟨A + 3, 0, none⟩ (.int .i64 (b + (a + (x - m) - m)))).heap[j]? := fun j hj => (hgrow.block j (by simp; omega) (fun e => by have := Hob.out j e.symm; omega)).trans ((Below.heap_alloc _ _ _ (by simp; omega)).trans (Below.heap_alloc _ _ _ (by simp; omega)))
    have hk2 : ∀ j, j < A + 7 → j ≠ A + 2 → j ≠ A + 3 → w3.heap[j]? = w.heap[j]? := fun j hj hn1 hn2 => (hk j hj).trans ((Below.heap_setCell _ _ _ _ (by exact hn2)).trans (Below.heap_setCell _ _ _ _ (by exact hn1)))
    have hcB : w3.cell? ⟨A + 1, 0, none⟩ = some v := (World.cell?_of_block (hk2 (A + 1) (by omega) (by omega) (by omega))).trans h5
    have hfB : w3.frozen? ⟨A + 1, 0, none⟩ = false := (World.frozen?_of_block (hk2 (A + 1) (by omega) (by omega) (by omega))).trans h4
    have hcA : w3.cell? ⟨A, 0, none⟩ = some (.int .i64 m) := (World.cell?_of_block (hk2 A (by omega) (by omega) (by omega))).trans h1
    have hcC : w3.cell? ⟨A + 2, 0, none⟩ = some (.int .i64 (a + (x - m))) := (World.cell?_of_block (hk (A + 2) (by omega))).trans ((World.cell?_setCell_other _ _ _ _ (by simp)).trans (World.cell?_setCell_same' w _ _ (by rw [h2]; rfl)))
    have hfC : w3.frozen? ⟨A + 2, 0, none⟩ = false := (World.frozen?_of_block (hk (A + 2) (by omega))).trans (by rw [World.frozen?_setCell, World.frozen?_setCell]; exact h3)
    have hcD : w3.cell? ⟨A + 3, 0, none⟩ = some (.int .i64 (b + (a + (x - m) - m))) := (World.cell?_of_block (hk (A + 3) (by omega))).trans (World.cell?_setCell_same' _ _ _ (by rw [World.cell?_setCell_other _ _ _ _ (by simp), g2]; rfl))
    have hfD : w3.frozen? ⟨A + 3, 0, none⟩ = false := (World.frozen?_of_block (hk (A + 3) (by omega))).trans (by rw [World.frozen?_setCell, World.frozen?_setCell]; exact g3)
    have hb3 : Below A w w3 := (((((Below.refl A w).setCell (p := ⟨A + 2, 0, none⟩) (by show A ≤ A + 2; omega) _).setCell (p := ⟨A + 3, 0, none⟩) (by show A ≤ A + 3; omega) _).alloc (by simp; omega) _).alloc (by simp; omega) _).grown hgrow (by simp; omega) (fun j hj => by have := Hob.out j hj; omega)
    have Hk2 := hid hk2
    have Hown3 := hid hown3
    have HcA := hid hcA
    have HcC := hid hcC
    have HfC := hid hfC
    have HcD := hid hcD
    have HfD := hid hfD
    have HcB := hid hcB
    clear hk hk2 hown3 hgrow h1 h2 h3 g2 g3 h4 h5 hcA hcC hfC hcD hfD
    go_wp2
    show _ ∧ ∃ v, _ ∧ _
    refine ⟨rfl, .tuple #[], (by first | rfl | kernel_rfl), rfl, ⟨?_, ⟨?_, ?_⟩, ⟨?_, ?_⟩, ?_, .slice av (i + 1) cv, _, ?_, ownsRow_same Hown3.out fun j hj => Below.heap_setCell _ _ _ _ (by show j ≠ A + 1; omega), PSr.same Hps3.out (fun x hx g hg => Below.heap_setCell _ _ _ _ (by show g ≠ A + 1; have := (Hps3.out.lt x hx g hg).1; omega)), Hoff3.out, by rw [List.length_append, Hlen.out]; rfl⟩, ?_, ?_⟩
    · rw [World.cell?_setCell_other _ _ _ _ (by simp)]; exact HcA.out
    · rw [World.cell?_setCell_other _ _ _ _ (by simp)]; rw [Hsa.out]; exact HcC.out
    · rw [World.frozen?_setCell]; exact HfC.out
    · rw [World.cell?_setCell_other _ _ _ _ (by simp)]; rw [Hsb.out]; exact HcD.out
    · rw [World.frozen?_setCell]; exact HfD.out
    · rw [World.frozen?_setCell]; exact hfB
    · exact World.cell?_setCell_same' w3 _ _ (by rw [HcB.out]; rfl)
    · intro j hb1 hb2
      exact (Below.heap_setCell _ _ _ _ (by show j ≠ A + 1; omega)).trans (Hk2.out j (by omega) (by omega) (by omega))
    · exact hb3.setCell (p := ⟨A + 1, 0, none⟩) (by show A ≤ A + 1; omega) _
  · have hbt : twO m s i = -1 := biI_f (by omega)
    rw [show biI (twB m s i) = -1 from hbt]
    have hsa : twA m s (i + 1) = twA m s i + (x + m) := by rw [twA_succ, hbt, hax]; omega
    have hsb : twB m s (i + 1) = twB m s i + (twA m s i + (x + m) + m) := by rw [twB_succ, hsa, hbt]; omega
    generalize twA m s i = a at *
    generalize twB m s i = b at *
    have e0 : x - -m = x + m := by omega
    have e1 : a + (x + m) - -m = a + (x + m) + m := by omega
    have Hsa := hid hsa
    have Hsb := hid hsb
    have Hown := hid h6
    have Hob := hid (ownsRow_base h6)
    have Hps := hid h7
    have Hoff := hid h8
    have Hlen := hid h9
    have hbase : A + 7 ≤ w.heap.size := hsz
    clear hsa hsb h6 h7 h8 h9 hax hbt
    go_enter Try.func85, Try.ntmps85
    go_wp2_with (at_builtin; refine wpList_append_own2 _ rfl _ _ 36 rfl (A + 7) 24 i1 (.slice none 0 0) 1 24 uslice2 hi1 hy0 hy1 hy2 rfl (by decide) _ _ _ rfl (((ownsRow_same Hown.out (w' := ((w.setCell ⟨A + 2, 0, none⟩ (.int .i64 (a + (x + m)))).setCell ⟨A + 3, 0, none⟩ (.int .i64 (b + (a + (x + m) + m))))) fun j hj => (Below.heap_setCell _ _ _ _ (by show j ≠ A + 3; omega)).trans (Below.heap_setCell _ _ _ _ (by show j ≠ A + 2; omega))).alloc _).alloc _) ⟨w.heap.size + 1, 0, none⟩ 1 1 [.slice (some ⟨w.heap.size, 0, none⟩) 2 2] rfl rfl ?c1 ?c2 ?c3 ?c4 ?c5 ?_)
    (try case c1 => first | exact c1_set2 | rfl)
    (try case c2 => first | rfl | (intro u hu; simp at hu; subst hu; rfl))
    case c3 => unfold maxLen; omega
    case c4 => omega
    (try case c5 => first | omega | (simp; omega))
    intro v' w3 hown3 hgrow hnew
    have hbp : Blk 3 (((w.setCell ⟨A + 2, 0, none⟩ (.int .i64 (a + (x + m)))).setCell ⟨A + 3, 0, none⟩ (.int .i64 (b + (a + (x + m) + m)))).alloc (.cells #[.int .i64 (a + (x + m)), .int .i64 (b + (a + (x + m) + m))] 3)) w.heap.size [a + (x + m), b + (a + (x + m) + m)] := by have h := blk_pair ((w.setCell ⟨A + 2, 0, none⟩ (.int .i64 (a + (x + m)))).setCell ⟨A + 3, 0, none⟩ (.int .i64 (b + (a + (x + m) + m)))) (a + (x + m)) (b + (a + (x + m) + m)) 3; rwa [World.size_setCell, World.size_setCell] at h
    have hps2 : PSr (A + 7) ((w.setCell ⟨A + 2, 0, none⟩ (.int .i64 (a + (x + m)))).setCell ⟨A + 3, 0, none⟩ (.int .i64 (b + (a + (x + m) + m)))) vs (prL m s) := PSr.same Hps.out fun x hx g hg => (Below.heap_setCell _ _ _ _ (by show g ≠ A + 3; have := (Hps.out.lt x hx g hg).1; omega)).trans (Below.heap_setCell _ _ _ _ (by show g ≠ A + 2; have := (Hps.out.lt x hx g hg).1; omega))
    have hps3 := PSr.grown (((hps2.alloc _).push (g := w.heap.size) hbase (by rw [Hlen.out]; unfold prL; rw [Hsa.out, Hsb.out]; exact hbp) (fun x hx e => by have := (Hps.out.lt x hx _ e).2; omega)).alloc _) hgrow (Off.push Hoff.out (fun e => by have := (Hown.out.lt _ e).2; omega))
    have hoff3 := Off.grown (Off.push Hoff.out (g := w.heap.size) (fun e => by have := (Hown.out.lt _ e).2; omega)) hnew (fun x hx g hg => by
      rcases List.mem_append.1 hx with hx | hx
      · have := (Hps.out.lt x hx g hg).2; simp; omega
      · simp at hx; subst hx; cases hg; simp; omega)
    have Hps3 := hid hps3
    clear hbp hps2 hps3 hnew
    obtain ⟨av, cv, rfl⟩ := ownsRow_form hown3
    have Hoff3 := hid hoff3
    clear hoff3
    have hk : ∀ j, j < A + 7 → w3.heap[j]? = ((w.setCell ⟨A + 2, 0, none⟩ (.int .i64 (a + (x + m)))).setCell ⟨A + 3, 0, none⟩ (.int .i64 (b + (a + (x + m) + m)))).heap[j]? := fun j hj => (hgrow.block j (by simp; omega) (fun e => by have := Hob.out j e.symm; omega)).trans ((Below.heap_alloc _ _ _ (by simp; omega)).trans (Below.heap_alloc _ _ _ (by simp; omega)))
    have hk2 : ∀ j, j < A + 7 → j ≠ A + 2 → j ≠ A + 3 → w3.heap[j]? = w.heap[j]? := fun j hj hn1 hn2 => (hk j hj).trans ((Below.heap_setCell _ _ _ _ (by exact hn2)).trans (Below.heap_setCell _ _ _ _ (by exact hn1)))
    have hcB : w3.cell? ⟨A + 1, 0, none⟩ = some v := (World.cell?_of_block (hk2 (A + 1) (by omega) (by omega) (by omega))).trans h5
    have hfB : w3.frozen? ⟨A + 1, 0, none⟩ = false := (World.frozen?_of_block (hk2 (A + 1) (by omega) (by omega) (by omega))).trans h4
    have hcA : w3.cell? ⟨A, 0, none⟩ = some (.int .i64 m) := (World.cell?_of_block (hk2 A (by omega) (by omega) (by omega))).trans h1
    have hcC : w3.cell? ⟨A + 2, 0, none⟩ = some (.int .i64 (a + (x + m))) := (World.cell?_of_block (hk (A + 2) (by omega))).trans ((World.cell?_setCell_other _ _ _ _ (by simp)).trans (World.cell?_setCell_same' w _ _ (by rw [h2]; rfl)))
    have hfC : w3.frozen? ⟨A + 2, 0, none⟩ = false := (World.frozen?_of_block (hk (A + 2) (by omega))).trans (by rw [World.frozen?_setCell, World.frozen?_setCell]; exact h3)
    have hcD : w3.cell? ⟨A + 3, 0, none⟩ = some (.int .i64 (b + (a + (x + m) + m))) := (World.cell?_of_block (hk (A + 3) (by omega))).trans (World.cell?_setCell_same' _ _ _ (by rw [World.cell?_setCell_other _ _ _ _ (by simp), g2]; rfl))
    have hfD : w3.frozen? ⟨A + 3, 0, none⟩ = false := (World.frozen?_of_block (hk (A + 3) (by omega))).trans (by rw [World.frozen?_setCell, World.frozen?_setCell]; exact g3)
    have hb3 : Below A w w3 := (((((Below.refl A w).setCell (p := ⟨A + 2, 0, none⟩) (by show A ≤ A + 2; omega) _).setCell (p := ⟨A + 3, 0, none⟩) (by show A ≤ A + 3; omega) _).alloc (by simp; omega) _).alloc (by simp; omega) _).grown hgrow (by simp; omega) (fun j hj => by have := Hob.out j hj; omega)
    have Hk2 := hid hk2
    have Hown3 := hid hown3
    have HcA := hid hcA
    have HcC := hid hcC
    have HfC := hid hfC
    have HcD := hid hcD
    have HfD := hid hfD
    have HcB := hid hcB
    clear hk hk2 hown3 hgrow h1 h2 h3 g2 g3 h4 h5 hcA hcC hfC hcD hfD
    go_wp2
    show _ ∧ ∃ v, _ ∧ _
    refine ⟨rfl, .tuple #[], (by first | rfl | kernel_rfl), rfl, ⟨?_, ⟨?_, ?_⟩, ⟨?_, ?_⟩, ?_, .slice av (i + 1) cv, _, ?_, ownsRow_same Hown3.out fun j hj => Below.heap_setCell _ _ _ _ (by show j ≠ A + 1; omega), PSr.same Hps3.out (fun x hx g hg => Below.heap_setCell _ _ _ _ (by show g ≠ A + 1; have := (Hps3.out.lt x hx g hg).1; omega)), Hoff3.out, by rw [List.length_append, Hlen.out]; rfl⟩, ?_, ?_⟩
    · rw [World.cell?_setCell_other _ _ _ _ (by simp)]; exact HcA.out
    · rw [World.cell?_setCell_other _ _ _ _ (by simp)]; rw [Hsa.out]; exact HcC.out
    · rw [World.frozen?_setCell]; exact HfC.out
    · rw [World.cell?_setCell_other _ _ _ _ (by simp)]; rw [Hsb.out]; exact HcD.out
    · rw [World.frozen?_setCell]; exact HfD.out
    · rw [World.frozen?_setCell]; exact hfB
    · exact World.cell?_setCell_same' w3 _ _ (by rw [HcB.out]; rfl)
    · intro j hb1 hb2
      exact (Below.heap_setCell _ _ _ _ (by show j ≠ A + 1; omega)).trans (Hk2.out j (by omega) (by omega) (by omega))
    · exact hb3.setCell (p := ⟨A + 1, 0, none⟩) (by show A ≤ A + 1; omega) _


theorem ssi_mono {B C : Nat} {w : World} {v : Value} {vs : List Value} {xss : List (List Int)} (h : C ≤ B) (hs : SSi B w v vs xss) : SSi C w v vs xss :=
  ⟨hs.len, fun i u xs hi hx => (hs.each i u xs hi hx).mono h, hs.apart, by
    rcases hs.row with h0 | ⟨g, cap, h1, h2, h3, h4⟩
    · exact .inl h0
    · exact .inr ⟨g, cap, h1, Nat.le_trans h h2, h3, h4⟩⟩

theorem modU (wb : World) (m : Int) (s : List Int) (hl : s.length ≤ 64) (m1 : 1 ≤ m) (m2 : m ≤ 1000) (hs : InP (-m) m s) :
    Mod Try.prog wb (wb.heap.size + 4) 84 85 #[.pointer (some ⟨wb.heap.size + 3, 0, none⟩)] #[.pointer (some ⟨wb.heap.size + 2, 0, none⟩), .pointer (some ⟨wb.heap.size, 0, none⟩), .pointer (some ⟨wb.heap.size + 3, 0, none⟩), .pointer (some ⟨wb.heap.size + 1, 0, none⟩)] s (twB m s) (InvU wb.heap.size m s) where
  keep := fun i w w' h hb => h.keep hb
  level := fun i x w h hx => levelU wb.heap.size m s i x w h
  settle := fun i x w h hx hz => settleU wb.heap.size m s i x w h hx hz (by have := (List.getElem?_eq_some_iff.1 hx).1; omega) m1 m2 hs
theorem startU (A : Nat) (w0 : World) (m : Int) (s : List Int) (hz : w0.heap.size = A + 4) (c0 : w0.cell? ⟨A, 0, none⟩ = some (.int .i64 m)) (c1 : w0.cell? ⟨A + 1, 0, none⟩ = some (.slice none 0 0)) (f1 : w0.frozen? ⟨A + 1, 0, none⟩ = false) (c2 : w0.cell? ⟨A + 2, 0, none⟩ = some (.int .i64 0)) (f2 : w0.frozen? ⟨A + 2, 0, none⟩ = false) (c3 : w0.cell? ⟨A + 3, 0, none⟩ = some (.int .i64 0)) (f3 : w0.frozen? ⟨A + 3, 0, none⟩ = false) (w1 : World) (h : ∀ b, b < w0.heap.size → w1.heap[b]? = w0.heap[b]?) : InvU A m s 0 w1 := by
  have c : ∀ b, b < A + 4 → w1.cell? ⟨b, 0, none⟩ = w0.cell? ⟨b, 0, none⟩ := fun b hb => World.cell?_of_block (h b (by omega))
  have f : ∀ b, b < A + 4 → w1.frozen? ⟨b, 0, none⟩ = w0.frozen? ⟨b, 0, none⟩ := fun b hb => World.frozen?_of_block (h b (by omega))
  exact ⟨(c _ (by omega)).trans c0, ⟨(c _ (by omega)).trans c2, (f _ (by omega)).trans f2⟩, ⟨(c _ (by omega)).trans c3, (f _ (by omega)).trans f3⟩, (f _ (by omega)).trans f1, _, [], (c _ (by omega)).trans c1, World.ownsRow_nil _ _ _ _, PSr.nil _ _ _, Off.nil _, rfl⟩
set_option maxHeartbeats 1000000 in
theorem runTwoBit_ss (m : Int) (v : Value) (s : List Int) (w : World) (hs : Sl w v s) (hl : s.length ≤ 64) (hi : InP (-m) m s) (m1 : 1 ≤ m) (m2 : m ≤ 1000) :
    Calls Try.prog 54 #[.int .i64 m, v] w (GivesXS w (tsL m s)) := by
  have HS := hid hs
  have HI := hid hi
  have hmk := mkFunc
  clear hs hi
  go_enter Try.func54, Try.ntmps54
  go_wp2_with fail
  have hb0 : Below w.heap.size w ((((w.alloc (.cells #[.int .i64 m] 3)).alloc (.cells #[.slice none 0 0] 36)).alloc (.cells #[.int .i64 0] 3)).alloc (.cells #[.int .i64 0] 3)) := bel_step (bel_step (bel_step (bel_alloc _ _) (bel_alloc _ _)) (bel_alloc _ _)) (bel_alloc _ _)
  obtain ⟨hz0, e0, e1, e2, e3⟩ := four w (.cells #[.int .i64 m] 3) (.cells #[.slice none 0 0] 36) (.cells #[.int .i64 0] 3) (.cells #[.int .i64 0] 3)
  generalize ((((w.alloc (.cells #[.int .i64 m] 3)).alloc (.cells #[.slice none 0 0] 36)).alloc (.cells #[.int .i64 0] 3)).alloc (.cells #[.int .i64 0] 3)) = w0 at hb0 hz0 e0 e1 e2 e3 ⊢
  have hst := startU w.heap.size w0 m s hz0 (cell_of_row _ _ 0 _ _ _ e0) (cell_of_row _ _ 0 _ _ _ e1) (frozen_of_row _ _ 0 _ _ e1) (cell_of_row _ _ 0 _ _ _ e2) (frozen_of_row _ _ 0 _ _ e2) (cell_of_row _ _ 0 _ _ _ e3) (frozen_of_row _ _ 0 _ _ e3)
  have hmod := modU w m s hl m1 m2 HI.out
  rw [← hz0] at hmod
  refine (modulate_any 84 85 _ _ enterL2 enterS2 w w0 v s HS.out hb0 (by omega) (twB m s) (InvU w.heap.size m s) hmod hst).mono ?_
  rintro e w1 ⟨rfl, hblk, ⟨_, _, _, _, u, vs, hu, hown, hps, hoff, hlen⟩, hb⟩
  have Hss := hid (ssi_mono (show w.heap.size ≤ w.heap.size + 7 by omega) (PSr.ss hps hoff hown rfl))
  have HB := hid hb
  clear hb hblk hown hps hoff hlen hst hmod e0 e1 e2 e3 hb0 hz0
  go_wp2_with fail
  go_quiet (fail)
  go_wp2
  go_ret2
  exact ⟨_, _, _, rfl, Hss.out.kept (bel_drewN w1 _), below_drewN HB.out _⟩



end Go.Proofs.Ytbhlailnefappaa
