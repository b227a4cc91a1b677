
import Derived.Test.YtbhlailnefappaaQy
namespace Go.Proofs.Ytbhlailnefappaa
open Go.RowKit BitX Go.MemX Go.Conc Go.ChV
set_option linter.unusedVariables false
theorem c1_set2 {w : World} {p q : Addr} {v0 v1 x : Value} {ob : Obj} {t : TypeId} : ∀ j u, [x][j]? = some u → ((((w.setCell p v0).setCell q v1).alloc ob).alloc (.cells #[x] t)).cell? ((⟨w.heap.size + 1, 0, none⟩ : Addr).add j) = some u := by
  have h := c1_alloc (w := (w.setCell p v0).setCell q v1) (ob := ob) (x := x) (t := t)
  rw [World.size_setCell, World.size_setCell] at h
  exact h
/-- the two bit modulator's own memory: the scale's box at A, the states' cell at A + 1, a at A + 2, b at A + 3 -/
def InvT (A : Nat) (m : Int) (s : List Int) (i : Nat) (w : World) : Prop :=
  w.cell? ⟨A, 0, none⟩ = some (.int .i64 m) ∧ (w.cell? ⟨A + 2, 0, none⟩ = some (.int .i64 (twA m s i)) ∧ w.frozen? ⟨A + 2, 0, none⟩ = false) ∧ (w.cell? ⟨A + 3, 0, none⟩ = some (.int .i64 (twB m s i)) ∧ w.frozen? ⟨A + 3, 0, none⟩ = false) ∧ w.frozen? ⟨A + 1, 0, none⟩ = false ∧
  ∃ v vs, w.cell? ⟨A + 1, 0, none⟩ = some v ∧ w.ownsRow (A + 7) 24 1 v i vs
theorem InvT.keep {A : Nat} {m : Int} {s : List Int} {i : Nat} {w w' : World} (h : InvT A m s i w) (hb : ∀ b, ¬ (A + 4 ≤ b ∧ b < A + 4 + 3) → w'.heap[b]? = w.heap[b]?) : InvT A m s i w' := by
  obtain ⟨h1, ⟨h2, h3⟩, ⟨g2, g3⟩, h4, v, vs, h5, h6⟩ := h
  have c : ∀ b, b < A + 4 → w'.cell? ⟨b, 0, none⟩ = w.cell? ⟨b, 0, none⟩ := fun b hbb => World.cell?_of_block (hb b (by omega))
  have f : ∀ b, b < A + 4 → w'.frozen? ⟨b, 0, none⟩ = w.frozen? ⟨b, 0, none⟩ := fun b hbb => World.frozen?_of_block (hb b (by omega))
  exact ⟨(c _ (by omega)).trans h1, ⟨(c _ (by omega)).trans h2, (f _ (by omega)).trans h3⟩, ⟨(c _ (by omega)).trans g2, (f _ (by omega)).trans g3⟩, (f _ (by omega)).trans h4, v, vs, (c _ (by omega)).trans h5, ownsRow_same h6 fun j hj => hb j (by omega)⟩


set_option maxHeartbeats 400000 in
theorem levelT (A : Nat) (m : Int) (s : List Int) (i : Nat) (x : Int) (w : World) (hI : InvT A m s i w) :
    Calls Try.prog 84 (#[.int .i64 x] ++ #[.pointer (some ⟨A + 3, 0, none⟩)]) w fun e w' => e = .returned (.int .i64 (twB m s i)) ∧ w = w' := by
  obtain ⟨h1, ⟨h2, h3⟩, ⟨g2, g3⟩, h4, v, vs, h5, h6⟩ := hI
  generalize twB m s i = z at *
  clear h6
  show Calls Try.prog 84 #[.int .i64 x, .pointer (some ⟨A + 3, 0, none⟩)] w _
  go_enter Try.func84, Try.ntmps84
  go_wp2
  go_ret
  exact ⟨rfl, rfl⟩


set_option maxHeartbeats 4000000 in
theorem settleT (A : Nat) (m : Int) (s : List Int) (i : Nat) (x : Int) (w : World) (hI : InvT A m s i w) (hx : s[i]? = some x) (hsz : A + 4 + 3 ≤ w.heap.size) (hi64 : i ≤ 64) (m1 : 1 ≤ m) (m2 : m ≤ 1000) (hs : InP (-m) m s) :
    Calls Try.prog 85 (#[.int .i64 x, .int .i64 (biI (twB m s i))] ++ #[.pointer (some ⟨A + 2, 0, none⟩), .pointer (some ⟨A, 0, none⟩), .pointer (some ⟨A + 3, 0, none⟩), .pointer (some ⟨A + 1, 0, none⟩)]) w fun e w' => e = .returned (.tuple #[]) ∧ InvT A m s (i + 1) w' ∧ (∀ b, A + 4 ≤ b → b < A + 4 + 3 → w'.heap[b]? = w.heap[b]?) ∧ Below A w w' := by
  obtain ⟨h1, ⟨h2, h3⟩, ⟨g2, g3⟩, h4, v, vs, h5, h6⟩ := hI
  obtain ⟨⟨a1, a2⟩, b1, b2⟩ := tw_in (s := s) m1 m2 (at0_inp hs (by omega)) i hi64
  obtain ⟨x1, x2⟩ := hs.at hx
  have hax := at0_of hx
  obtain ⟨i1, hi1, hy0, hy1, hy2⟩ := info_parts2
  clear hx hs
  show Calls Try.prog 85 #[.int .i64 x, .int .i64 (biI (twB m s i)), .pointer (some ⟨A + 2, 0, none⟩), .pointer (some ⟨A, 0, none⟩), .pointer (some ⟨A + 3, 0, none⟩), .pointer (some ⟨A + 1, 0, none⟩)] w _
  by_cases h0 : 0 ≤ twB m s i
  · have hbt : twO m s i = 1 := biI_t h0
    rw [show biI (twB m s i) = 1 from hbt]
    have hsa : twA m s (i + 1) = twA m s i + (x - m) := by rw [twA_succ, hbt, hax]; omega
    have hsb : twB m s (i + 1) = twB m s i + (twA m s i + (x - m) - m) := by rw [twB_succ, hsa, hbt]; omega
    generalize twA m s i = a at *
    generalize twB m s i = b at *
    have Hsa := hid hsa
    have Hsb := hid hsb
    have Hown := hid h6
    have Hob := hid (ownsRow_base h6)
    have hbase : A + 7 ≤ w.heap.size := hsz
    clear hsa hsb h6 hax hbt
    go_enter Try.func85, Try.ntmps85
    go_wp2_with (at_builtin; refine wpList_append_own _ rfl _ _ 36 rfl (A + 7) 24 i1 (.slice none 0 0) 1 24 uslice2 hi1 hy0 hy1 hy2 rfl (by decide) _ _ _ rfl (((ownsRow_same Hown.out (w' := ((w.setCell ⟨A + 2, 0, none⟩ (.int .i64 (a + (x - m)))).setCell ⟨A + 3, 0, none⟩ (.int .i64 (b + (a + (x - m) - m))))) fun j hj => (Below.heap_setCell _ _ _ _ (by show j ≠ A + 3; omega)).trans (Below.heap_setCell _ _ _ _ (by show j ≠ A + 2; omega))).alloc _).alloc _) ⟨w.heap.size + 1, 0, none⟩ 1 1 [.slice (some ⟨w.heap.size, 0, none⟩) 2 2] rfl rfl ?c1 ?c2 ?c3 ?c4 ?c5 ?_)
    (try case c1 => first | exact c1_set2 | rfl)
    (try case c2 => first | rfl | (intro u hu; simp at hu; subst hu; rfl))
    case c3 => unfold maxLen; omega
    case c4 => omega
    (try case c5 => first | omega | (simp; omega))
    intro v' w3 hown3 hgrow _
    obtain ⟨av, cv, rfl⟩ := ownsRow_form hown3
    have hk : ∀ j, j < A + 7 → w3.heap[j]? = ((w.setCell ⟨A + 2, 0, none⟩ (.int .i64 (a + (x - m)))).setCell ⟨A + 3, 0, none⟩ (.int .i64 (b + (a + (x - m) - m)))).heap[j]? := fun j hj => (hgrow.block j (by simp; omega) (fun e => by have := Hob.out j e.symm; omega)).trans ((Below.heap_alloc _ _ _ (by simp; omega)).trans (Below.heap_alloc _ _ _ (by simp; omega)))
    have hk2 : ∀ j, j < A + 7 → j ≠ A + 2 → j ≠ A + 3 → w3.heap[j]? = w.heap[j]? := fun j hj hn1 hn2 => (hk j hj).trans ((Below.heap_setCell _ _ _ _ (by exact hn2)).trans (Below.heap_setCell _ _ _ _ (by exact hn1)))
    have hcB : w3.cell? ⟨A + 1, 0, none⟩ = some v := (World.cell?_of_block (hk2 (A + 1) (by omega) (by omega) (by omega))).trans h5
    have hfB : w3.frozen? ⟨A + 1, 0, none⟩ = false := (World.frozen?_of_block (hk2 (A + 1) (by omega) (by omega) (by omega))).trans h4
    have hcA : w3.cell? ⟨A, 0, none⟩ = some (.int .i64 m) := (World.cell?_of_block (hk2 A (by omega) (by omega) (by omega))).trans h1
    have hcC : w3.cell? ⟨A + 2, 0, none⟩ = some (.int .i64 (a + (x - m))) := (World.cell?_of_block (hk (A + 2) (by omega))).trans ((World.cell?_setCell_other _ _ _ _ (by simp)).trans (World.cell?_setCell_same' w _ _ (by rw [h2]; rfl)))
    have hfC : w3.frozen? ⟨A + 2, 0, none⟩ = false := (World.frozen?_of_block (hk (A + 2) (by omega))).trans (by rw [World.frozen?_setCell, World.frozen?_setCell]; exact h3)
    have hcD : w3.cell? ⟨A + 3, 0, none⟩ = some (.int .i64 (b + (a + (x - m) - m))) := (World.cell?_of_block (hk (A + 3) (by omega))).trans (World.cell?_setCell_same' _ _ _ (by rw [World.cell?_setCell_other _ _ _ _ (by simp), g2]; rfl))
    have hfD : w3.frozen? ⟨A + 3, 0, none⟩ = false := (World.frozen?_of_block (hk (A + 3) (by omega))).trans (by rw [World.frozen?_setCell, World.frozen?_setCell]; exact g3)
    have hb3 : Below A w w3 := (((((Below.refl A w).setCell (p := ⟨A + 2, 0, none⟩) (by show A ≤ A + 2; omega) _).setCell (p := ⟨A + 3, 0, none⟩) (by show A ≤ A + 3; omega) _).alloc (by simp; omega) _).alloc (by simp; omega) _).grown hgrow (by simp; omega) (fun j hj => by have := Hob.out j hj; omega)
    have Hk2 := hid hk2
    have Hown3 := hid hown3
    have HcA := hid hcA
    have HcC := hid hcC
    have HfC := hid hfC
    have HcD := hid hcD
    have HfD := hid hfD
    have HcB := hid hcB
    clear hk hk2 hown3 hgrow h1 h2 h3 g2 g3 h4 h5 hcA hcC hfC hcD hfD
    go_wp2
    show _ ∧ ∃ v, _ ∧ _
    refine ⟨rfl, .tuple #[], (by first | rfl | kernel_rfl), rfl, ⟨?_, ⟨?_, ?_⟩, ⟨?_, ?_⟩, ?_, .slice av (i + 1) cv, _, ?_, ownsRow_same Hown3.out fun j hj => Below.heap_setCell _ _ _ _ (by show j ≠ A + 1; omega)⟩, ?_, ?_⟩
    · rw [World.cell?_setCell_other _ _ _ _ (by simp)]; exact HcA.out
    · rw [World.cell?_setCell_other _ _ _ _ (by simp)]; rw [Hsa.out]; exact HcC.out
    · rw [World.frozen?_setCell]; exact HfC.out
    · rw [World.cell?_setCell_other _ _ _ _ (by simp)]; rw [Hsb.out]; exact HcD.out
    · rw [World.frozen?_setCell]; exact HfD.out
    · rw [World.frozen?_setCell]; exact hfB
    · exact World.cell?_setCell_same' w3 _ _ (by rw [HcB.out]; rfl)
    · intro j hb1 hb2
      exact (Below.heap_setCell _ _ _ _ (by show j ≠ A + 1; omega)).trans (Hk2.out j (by omega) (by omega) (by omega))
    · exact hb3.setCell (p := ⟨A + 1, 0, none⟩) (by show A ≤ A + 1; omega) _
  · have hbt : twO m s i = -1 := biI_f (by omega)
    rw [show biI (twB m s i) = -1 from hbt]
    have hsa : twA m s (i + 1) = twA m s i + (x + m) := by rw [twA_succ, hbt, hax]; omega
    have hsb : twB m s (i + 1) = twB m s i + (twA m s i + (x + m) + m) := by rw [twB_succ, hsa, hbt]; omega
    generalize twA m s i = a at *
    generalize twB m s i = b at *
    have e0 : x - -m = x + m := by omega
    have e1 : a + (x + m) - -m = a + (x + m) + m := by omega
    have Hsa := hid hsa
    have Hsb := hid hsb
    have Hown := hid h6
    have Hob := hid (ownsRow_base h6)
    have hbase : A + 7 ≤ w.heap.size := hsz
    clear hsa hsb h6 hax hbt
    go_enter Try.func85, Try.ntmps85
    go_wp2_with (at_builtin; refine wpList_append_own _ rfl _ _ 36 rfl (A + 7) 24 i1 (.slice none 0 0) 1 24 uslice2 hi1 hy0 hy1 hy2 rfl (by decide) _ _ _ rfl (((ownsRow_same Hown.out (w' := ((w.setCell ⟨A + 2, 0, none⟩ (.int .i64 (a + (x + m)))).setCell ⟨A + 3, 0, none⟩ (.int .i64 (b + (a + (x + m) + m))))) fun j hj => (Below.heap_setCell _ _ _ _ (by show j ≠ A + 3; omega)).trans (Below.heap_setCell _ _ _ _ (by show j ≠ A + 2; omega))).alloc _).alloc _) ⟨w.heap.size + 1, 0, none⟩ 1 1 [.slice (some ⟨w.heap.size, 0, none⟩) 2 2] rfl rfl ?c1 ?c2 ?c3 ?c4 ?c5 ?_)
    (try case c1 => first | exact c1_set2 | rfl)
    (try case c2 => first | rfl | (intro u hu; simp at hu; subst hu; rfl))
    case c3 => unfold maxLen; omega
    case c4 => omega
    (try case c5 => first | omega | (simp; omega))
    intro v' w3 hown3 hgrow _
    obtain ⟨av, cv, rfl⟩ := ownsRow_form hown3
    have hk : ∀ j, j < A + 7 → w3.heap[j]? = ((w.setCell ⟨A + 2, 0, none⟩ (.int .i64 (a + (x + m)))).setCell ⟨A + 3, 0, none⟩ (.int .i64 (b + (a + (x + m) + m)))).heap[j]? := fun j hj => (hgrow.block j (by simp; omega) (fun e => by have := Hob.out j e.symm; omega)).trans ((Below.heap_alloc _ _ _ (by simp; omega)).trans (Below.heap_alloc _ _ _ (by simp; omega)))
    have hk2 : ∀ j, j < A + 7 → j ≠ A + 2 → j ≠ A + 3 → w3.heap[j]? = w.heap[j]? := fun j hj hn1 hn2 => (hk j hj).trans ((Below.heap_setCell _ _ _ _ (by exact hn2)).trans (Below.heap_setCell _ _ _ _ (by exact hn1)))
    have hcB : w3.cell? ⟨A + 1, 0, none⟩ = some v := (World.cell?_of_block (hk2 (A + 1) (by omega) (by omega) (by omega))).trans h5
    have hfB : w3.frozen? ⟨A + 1, 0, none⟩ = false := (World.frozen?_of_block (hk2 (A + 1) (by omega) (by omega) (by omega))).trans h4
    have hcA : w3.cell? ⟨A, 0, none⟩ = some (.int .i64 m) := (World.cell?_of_block (hk2 A (by omega) (by omega) (by omega))).trans h1
    have hcC : w3.cell? ⟨A + 2, 0, none⟩ = some (.int .i64 (a + (x + m))) := (World.cell?_of_block (hk (A + 2) (by omega))).trans ((World.cell?_setCell_other _ _ _ _ (by simp)).trans (World.cell?_setCell_same' w _ _ (by rw [h2]; rfl)))
    have hfC : w3.frozen? ⟨A + 2, 0, none⟩ = false := (World.frozen?_of_block (hk (A + 2) (by omega))).trans (by rw [World.frozen?_setCell, World.frozen?_setCell]; exact h3)
    have hcD : w3.cell? ⟨A + 3, 0, none⟩ = some (.int .i64 (b + (a + (x + m) + m))) := (World.cell?_of_block (hk (A + 3) (by omega))).trans (World.cell?_setCell_same' _ _ _ (by rw [World.cell?_setCell_other _ _ _ _ (by simp), g2]; rfl))
    have hfD : w3.frozen? ⟨A + 3, 0, none⟩ = false := (World.frozen?_of_block (hk (A + 3) (by omega))).trans (by rw [World.frozen?_setCell, World.frozen?_setCell]; exact g3)
    have hb3 : Below A w w3 := (((((Below.refl A w).setCell (p := ⟨A + 2, 0, none⟩) (by show A ≤ A + 2; omega) _).setCell (p := ⟨A + 3, 0, none⟩) (by show A ≤ A + 3; omega) _).alloc (by simp; omega) _).alloc (by simp; omega) _).grown hgrow (by simp; omega) (fun j hj => by have := Hob.out j hj; omega)
    have Hk2 := hid hk2
    have Hown3 := hid hown3
    have HcA := hid hcA
    have HcC := hid hcC
    have HfC := hid hfC
    have HcD := hid hcD
    have HfD := hid hfD
    have HcB := hid hcB
    clear hk hk2 hown3 hgrow h1 h2 h3 g2 g3 h4 h5 hcA hcC hfC hcD hfD
    go_wp2
    show _ ∧ ∃ v, _ ∧ _
    refine ⟨rfl, .tuple #[], (by first | rfl | kernel_rfl), rfl, ⟨?_, ⟨?_, ?_⟩, ⟨?_, ?_⟩, ?_, .slice av (i + 1) cv, _, ?_, ownsRow_same Hown3.out fun j hj => Below.heap_setCell _ _ _ _ (by show j ≠ A + 1; omega)⟩, ?_, ?_⟩
    · rw [World.cell?_setCell_other _ _ _ _ (by simp)]; exact HcA.out
    · rw [World.cell?_setCell_other _ _ _ _ (by simp)]; rw [Hsa.out]; exact HcC.out
    · rw [World.frozen?_setCell]; exact HfC.out
    · rw [World.cell?_setCell_other _ _ _ _ (by simp)]; rw [Hsb.out]; exact HcD.out
    · rw [World.frozen?_setCell]; exact HfD.out
    · rw [World.frozen?_setCell]; exact hfB
    · exact World.cell?_setCell_same' w3 _ _ (by rw [HcB.out]; rfl)
    · intro j hb1 hb2
      exact (Below.heap_setCell _ _ _ _ (by show j ≠ A + 1; omega)).trans (Hk2.out j (by omega) (by omega) (by omega))
    · exact hb3.setCell (p := ⟨A + 1, 0, none⟩) (by show A ≤ A + 1; omega) _

end Go.Proofs.Ytbhlailnefappaa
