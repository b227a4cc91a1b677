
import Derived.Test.YtbhlailnefappaaQu
import Derived.Test.YtbhlailnefappaaQv
import Derived.Deep.QuietTactic
import Derived.BigQuiet
namespace Go.Proofs.Ytbhlailnefappaa
open Go.RowKit BitX Go.MemX Go.Conc Go.ChV
set_option linter.unusedVariables false
theorem ownsRow_same {w w' : World} {base : Nat} {e : TypeId} {size : Nat} {v : Value} {n : Nat} {xs : List Value} (h : w.ownsRow base e size v n xs) (hb : ∀ j, base ≤ j → w'.heap[j]? = w.heap[j]?) : w'.ownsRow base e size v n xs := by
  obtain ⟨h1, h2⟩ := h
  refine ⟨h1, ?_⟩
  rcases h2 with h2 | ⟨g, cap, cur, hv, hg, hh, r⟩
  · exact .inl h2
  · exact .inr ⟨g, cap, cur, hv, hg, by rw [hb g hg]; exact hh, r⟩
theorem ownsRow_form {w : World} {base : Nat} {e : TypeId} {size : Nat} {v : Value} {n : Nat} {xs : List Value} (h : w.ownsRow base e size v n xs) : ∃ a cap, v = .slice a n cap := by
  obtain ⟨_, ⟨rfl, rfl⟩ | ⟨g, cap, cur, hv, _⟩⟩ := h
  · exact ⟨none, 0, rfl⟩
  · exact ⟨_, cap, hv⟩
theorem c1_set {w : World} {p : Addr} {v0 x : Value} {t : TypeId} : ∀ j u, [x][j]? = some u → ((w.setCell p v0).alloc (.cells #[x] t)).cell? ((⟨w.heap.size, 0, none⟩ : Addr).add j) = some u := by
  have h := cell_one_new (w.setCell p v0) x t
  rw [World.size_setCell] at h
  exact h
def LvI (m : Int) (s : List Int) (i : Nat) : Int := moS m s i + at0 s i
theorem LvI_mo (m : Int) (s : List Int) : (fun i => biI (LvI m s i)) = Go.ChV.moB m s := rfl
/-- the one bit modulator's own memory: the scale's box at A, the states' cell at A + 1, the state's cell at A + 2 -/
def InvO (A : Nat) (m : Int) (s : List Int) (i : Nat) (w : World) : Prop :=
  w.cell? ⟨A, 0, none⟩ = some (.int .i64 m) ∧ (w.cell? ⟨A + 2, 0, none⟩ = some (.int .i64 (moS m s i)) ∧ w.frozen? ⟨A + 2, 0, none⟩ = false) ∧ w.frozen? ⟨A + 1, 0, none⟩ = false ∧
  ∃ v, w.cell? ⟨A + 1, 0, none⟩ = some v ∧ w.ownsRow (A + 6) 3 1 v i ((tab i fun j => moS m s (j + 1)).map (Value.int .i64))
theorem InvO.keep {A : Nat} {m : Int} {s : List Int} {i : Nat} {w w' : World} (h : InvO A m s i w) (hb : ∀ b, ¬ (A + 3 ≤ b ∧ b < A + 3 + 3) → w'.heap[b]? = w.heap[b]?) : InvO A m s i w' := by
  obtain ⟨h1, ⟨h2, h3⟩, h4, v, h5, h6⟩ := h
  have c : ∀ b, b < A + 3 → w'.cell? ⟨b, 0, none⟩ = w.cell? ⟨b, 0, none⟩ := fun b hbb => World.cell?_of_block (hb b (by omega))
  have f : ∀ b, b < A + 3 → w'.frozen? ⟨b, 0, none⟩ = w.frozen? ⟨b, 0, none⟩ := fun b hbb => World.frozen?_of_block (hb b (by omega))
  exact ⟨(c _ (by omega)).trans h1, ⟨(c _ (by omega)).trans h2, (f _ (by omega)).trans h3⟩, (f _ (by omega)).trans h4, v, (c _ (by omega)).trans h5, ownsRow_same h6 fun j hj => hb j (by omega)⟩


set_option maxHeartbeats 400000 in
theorem levelO (A : Nat) (m : Int) (s : List Int) (i : Nat) (x : Int) (w : World) (hI : InvO A m s i w) (hx : s[i]? = some x) (m1 : 1 ≤ m) (m2 : m ≤ 1000) (hs : InP (-m) m s) :
    Calls Try.prog 78 (#[.int .i64 x] ++ #[.pointer (some ⟨A + 2, 0, none⟩)]) w fun e w' => e = .returned (.int .i64 (LvI m s i)) ∧ w = w' := by
  obtain ⟨h1, ⟨h2, h3⟩, h4, v, h5, h6⟩ := hI
  have hL : LvI m s i = moS m s i + x := by unfold LvI; rw [at0_of hx]
  obtain ⟨s1, s2⟩ := moS_in (s := s) m1 (at0_inp hs (by omega)) i
  obtain ⟨x1, x2⟩ := hs.at hx
  have HL := hid hL
  generalize moS m s i = z at *
  clear hL hx h6 hs
  show Calls Try.prog 78 #[.int .i64 x, .pointer (some ⟨A + 2, 0, none⟩)] w _
  go_enter Try.func78, Try.ntmps78
  go_wp2
  go_ret
  exact ⟨ret_i HL.out.symm, rfl⟩


set_option maxHeartbeats 2000000 in
theorem settleO (A : Nat) (m : Int) (s : List Int) (i : Nat) (x : Int) (w : World) (hI : InvO A m s i w) (hx : s[i]? = some x) (hsz : A + 3 + 3 ≤ w.heap.size) (hi1000 : i ≤ 1000) (m1 : 1 ≤ m) (m2 : m ≤ 1000) (hs : InP (-m) m s) :
    Calls Try.prog 79 (#[.int .i64 x, .int .i64 (biI (LvI m s i))] ++ #[.pointer (some ⟨A + 2, 0, none⟩), .pointer (some ⟨A, 0, none⟩), .pointer (some ⟨A + 1, 0, none⟩)]) w fun e w' => e = .returned (.tuple #[]) ∧ InvO A m s (i + 1) w' ∧ (∀ b, A + 3 ≤ b → b < A + 3 + 3 → w'.heap[b]? = w.heap[b]?) ∧ Below A w w' := by
  obtain ⟨h1, ⟨h2, h3⟩, h4, v, h5, h6⟩ := hI
  obtain ⟨s1, s2⟩ := moS_in (s := s) m1 (at0_inp hs (by omega)) i
  obtain ⟨x1, x2⟩ := hs.at hx
  have hax := at0_of hx
  obtain ⟨i0, hi0, hz0, hz1, hz2⟩ := info_parts iint
  clear hx hs
  show Calls Try.prog 79 #[.int .i64 x, .int .i64 (biI (LvI m s i)), .pointer (some ⟨A + 2, 0, none⟩), .pointer (some ⟨A, 0, none⟩), .pointer (some ⟨A + 1, 0, none⟩)] w _
  by_cases h0 : 0 ≤ moS m s i + x
  · have hbt : biI (LvI m s i) = 1 := biI_t (by unfold LvI; rw [hax]; exact h0)
    rw [hbt]
    have hsn : moS m s (i + 1) = moS m s i + (x - m) := by have := moS_t (m := m) (s := s) (i := i) (by rw [hax]; exact h0); rw [hax] at this; omega
    clear hax hbt
    have Hsn := hid hsn
    have hst : tab (i + 1) (fun j => moS m s (j + 1)) = tab i (fun j => moS m s (j + 1)) ++ [moS m s (i + 1)] := tab_step i (fun j => moS m s (j + 1))
    rw [hsn] at hst
    generalize hz : moS m s i = z at *
    generalize tab i (fun j => moS m s (j + 1)) = ys at hst h6
    have Hst := hid hst
    have Hown := hid h6
    have Hob := hid (ownsRow_base h6)
    have Hsz := hid hsz
    clear hst h6 hz hsn
    have hne1 : A + 1 ≠ A + 2 := by omega
    have hbase : A + 6 ≤ w.heap.size := hsz
    go_enter Try.func79, Try.ntmps79
    go_wp2_with (at_builtin; refine wpList_append_own _ rfl _ _ 24 rfl (A + 6) 3 i0 (.int .i64 0) 1 8 uslice hi0 hz0 hz1 hz2 rfl (by decide) _ _ _ rfl ((ownsRow_same Hown.out (w' := w.setCell ⟨A + 2, 0, none⟩ (.int .i64 (z + (x - m)))) fun j hj => Below.heap_setCell _ _ _ _ (by show j ≠ A + 2; omega)).alloc _) ⟨w.heap.size, 0, none⟩ 1 1 [.int .i64 (z + (x - m))] rfl rfl ?c1 ?c2 ?c3 ?c4 ?c5 ?_)
    (try case c1 => first | exact c1_set | rfl)
    (try case c2 => first | rfl | (intro u hu; simp at hu; subst hu; rfl))
    case c3 => unfold maxLen; omega
    case c4 => omega
    (try case c5 => first | omega | (simp; omega))
    intro v' w3 hown3 hgrow _
    obtain ⟨av, cv, rfl⟩ := ownsRow_form hown3
    have hk : ∀ b, b < A + 6 → w3.heap[b]? = (w.setCell ⟨A + 2, 0, none⟩ (.int .i64 (z + (x - m)))).heap[b]? := fun b hb => (hgrow.block b (by simp; omega) (fun e => by have := Hob.out b e.symm; omega)).trans (Below.heap_alloc _ _ _ (by simp; omega))
    have hk2 : ∀ b, b < A + 6 → b ≠ A + 2 → w3.heap[b]? = w.heap[b]? := fun b hb hne => (hk b hb).trans (Below.heap_setCell _ _ _ _ (by exact hne))
    have hcB : w3.cell? ⟨A + 1, 0, none⟩ = some v := (World.cell?_of_block (hk2 (A + 1) (by omega) (by omega))).trans h5
    have hfB : w3.frozen? ⟨A + 1, 0, none⟩ = false := (World.frozen?_of_block (hk2 (A + 1) (by omega) (by omega))).trans h4
    have hcA : w3.cell? ⟨A, 0, none⟩ = some (.int .i64 m) := (World.cell?_of_block (hk2 A (by omega) (by omega))).trans h1
    have hcC : w3.cell? ⟨A + 2, 0, none⟩ = some (.int .i64 (z + (x - m))) := (World.cell?_of_block (hk (A + 2) (by omega))).trans (World.cell?_setCell_same' w _ _ (by rw [h2]; rfl))
    have hfC : w3.frozen? ⟨A + 2, 0, none⟩ = false := (World.frozen?_of_block (hk (A + 2) (by omega))).trans (by rw [World.frozen?_setCell]; exact h3)
    have hb3 : Below A w w3 := (((Below.refl A w).setCell (p := ⟨A + 2, 0, none⟩) (by show A ≤ A + 2; omega) _).alloc (by simp; omega) _).grown hgrow (by simp; omega) (fun j hj => by have := Hob.out j hj; omega)
    have Hk2 := hid hk2
    have Hown3 := hid hown3
    have HcA := hid hcA
    have HcC := hid hcC
    have HfC := hid hfC
    have HcB := hid hcB
    clear hk hk2 hown3 hgrow h1 h2 h3 h4 h5 hcA hcC hfC
    go_wp2
    show _ ∧ ∃ v, _ ∧ _
    refine ⟨rfl, .tuple #[], (by first | rfl | kernel_rfl), rfl, ⟨?_, ⟨?_, ?_⟩, ?_, .slice av (i + 1) cv, ?_, ?_⟩, ?_, ?_⟩
    · rw [World.cell?_setCell_other _ _ _ _ (by simp)]; exact HcA.out
    · rw [World.cell?_setCell_other _ _ _ _ (by simp)]; rw [Hsn.out]; exact HcC.out
    · rw [World.frozen?_setCell]; exact HfC.out
    · rw [World.frozen?_setCell]; exact hfB
    · exact World.cell?_setCell_same' w3 _ _ (by rw [HcB.out]; rfl)
    · rw [Hst.out, List.map_append]; exact ownsRow_same Hown3.out fun j hj => Below.heap_setCell _ _ _ _ (by show j ≠ A + 1; omega)
    · intro b hb1 hb2
      exact (Below.heap_setCell _ _ _ _ (by show b ≠ A + 1; omega)).trans (Hk2.out b (by omega) (by omega))
    · exact hb3.setCell (p := ⟨A + 1, 0, none⟩) (by show A ≤ A + 1; omega) _
  · have hbt : biI (LvI m s i) = -1 := biI_f (by unfold LvI; rw [hax]; omega)
    rw [hbt]
    have hsn : moS m s (i + 1) = moS m s i + (x + m) := by have := moS_f (m := m) (s := s) (i := i) (by rw [hax]; omega); rw [hax] at this; omega
    have e0 : x - -m = x + m := by omega
    clear hax hbt
    have Hsn := hid hsn
    have hst : tab (i + 1) (fun j => moS m s (j + 1)) = tab i (fun j => moS m s (j + 1)) ++ [moS m s (i + 1)] := tab_step i (fun j => moS m s (j + 1))
    rw [hsn] at hst
    generalize hz : moS m s i = z at *
    generalize tab i (fun j => moS m s (j + 1)) = ys at hst h6
    have Hst := hid hst
    have Hown := hid h6
    have Hob := hid (ownsRow_base h6)
    have Hsz := hid hsz
    clear hst h6 hz hsn
    have hne1 : A + 1 ≠ A + 2 := by omega
    have hbase : A + 6 ≤ w.heap.size := hsz
    go_enter Try.func79, Try.ntmps79
    go_wp2_with (at_builtin; refine wpList_append_own _ rfl _ _ 24 rfl (A + 6) 3 i0 (.int .i64 0) 1 8 uslice hi0 hz0 hz1 hz2 rfl (by decide) _ _ _ rfl ((ownsRow_same Hown.out (w' := w.setCell ⟨A + 2, 0, none⟩ (.int .i64 (z + (x + m)))) fun j hj => Below.heap_setCell _ _ _ _ (by show j ≠ A + 2; omega)).alloc _) ⟨w.heap.size, 0, none⟩ 1 1 [.int .i64 (z + (x + m))] rfl rfl ?c1 ?c2 ?c3 ?c4 ?c5 ?_)
    (try case c1 => first | exact c1_set | rfl)
    (try case c2 => first | rfl | (intro u hu; simp at hu; subst hu; rfl))
    case c3 => unfold maxLen; omega
    case c4 => omega
    (try case c5 => first | omega | (simp; omega))
    intro v' w3 hown3 hgrow _
    obtain ⟨av, cv, rfl⟩ := ownsRow_form hown3
    have hk : ∀ b, b < A + 6 → w3.heap[b]? = (w.setCell ⟨A + 2, 0, none⟩ (.int .i64 (z + (x + m)))).heap[b]? := fun b hb => (hgrow.block b (by simp; omega) (fun e => by have := Hob.out b e.symm; omega)).trans (Below.heap_alloc _ _ _ (by simp; omega))
    have hk2 : ∀ b, b < A + 6 → b ≠ A + 2 → w3.heap[b]? = w.heap[b]? := fun b hb hne => (hk b hb).trans (Below.heap_setCell _ _ _ _ (by exact hne))
    have hcB : w3.cell? ⟨A + 1, 0, none⟩ = some v := (World.cell?_of_block (hk2 (A + 1) (by omega) (by omega))).trans h5
    have hfB : w3.frozen? ⟨A + 1, 0, none⟩ = false := (World.frozen?_of_block (hk2 (A + 1) (by omega) (by omega))).trans h4
    have hcA : w3.cell? ⟨A, 0, none⟩ = some (.int .i64 m) := (World.cell?_of_block (hk2 A (by omega) (by omega))).trans h1
    have hcC : w3.cell? ⟨A + 2, 0, none⟩ = some (.int .i64 (z + (x + m))) := (World.cell?_of_block (hk (A + 2) (by omega))).trans (World.cell?_setCell_same' w _ _ (by rw [h2]; rfl))
    have hfC : w3.frozen? ⟨A + 2, 0, none⟩ = false := (World.frozen?_of_block (hk (A + 2) (by omega))).trans (by rw [World.frozen?_setCell]; exact h3)
    have hb3 : Below A w w3 := (((Below.refl A w).setCell (p := ⟨A + 2, 0, none⟩) (by show A ≤ A + 2; omega) _).alloc (by simp; omega) _).grown hgrow (by simp; omega) (fun j hj => by have := Hob.out j hj; omega)
    have Hk2 := hid hk2
    have Hown3 := hid hown3
    have HcA := hid hcA
    have HcC := hid hcC
    have HfC := hid hfC
    have HcB := hid hcB
    clear hk hk2 hown3 hgrow h1 h2 h3 h4 h5 hcA hcC hfC
    go_wp2
    show _ ∧ ∃ v, _ ∧ _
    refine ⟨rfl, .tuple #[], (by first | rfl | kernel_rfl), rfl, ⟨?_, ⟨?_, ?_⟩, ?_, .slice av (i + 1) cv, ?_, ?_⟩, ?_, ?_⟩
    · rw [World.cell?_setCell_other _ _ _ _ (by simp)]; exact HcA.out
    · rw [World.cell?_setCell_other _ _ _ _ (by simp)]; rw [Hsn.out]; exact HcC.out
    · rw [World.frozen?_setCell]; exact HfC.out
    · rw [World.frozen?_setCell]; exact hfB
    · exact World.cell?_setCell_same' w3 _ _ (by rw [HcB.out]; rfl)
    · rw [Hst.out, List.map_append]; exact ownsRow_same Hown3.out fun j hj => Below.heap_setCell _ _ _ _ (by show j ≠ A + 1; omega)
    · intro b hb1 hb2
      exact (Below.heap_setCell _ _ _ _ (by show b ≠ A + 1; omega)).trans (Hk2.out b (by omega) (by omega))
    · exact hb3.setCell (p := ⟨A + 1, 0, none⟩) (by show A ≤ A + 1; omega) _


theorem mkFunc : ∀ (fn : Fn) (first cap : Array Value) (w : World), (Instr.makeFunc fn first cap).run Try.prog w = .ok (.func fn first cap) w := fun _ _ _ _ => rfl
theorem enterL : ∀ (args : Array Value) (w : World), (callFunc 78 args).run Try.prog w = .ok (.enter 78 args) w := enters_of Try.func78 (by kernel_rfl) rfl
theorem enterS : ∀ (args : Array Value) (w : World), (callFunc 79 args).run Try.prog w = .ok (.enter 79 args) w := enters_of Try.func79 (by kernel_rfl) rfl
theorem modO (wb : World) (m : Int) (s : List Int) (hl : s.length ≤ 1000) (m1 : 1 ≤ m) (m2 : m ≤ 1000) (hs : InP (-m) m s) :
    Mod Try.prog wb (wb.heap.size + 3) 78 79 #[.pointer (some ⟨wb.heap.size + 2, 0, none⟩)] #[.pointer (some ⟨wb.heap.size + 2, 0, none⟩), .pointer (some ⟨wb.heap.size, 0, none⟩), .pointer (some ⟨wb.heap.size + 1, 0, none⟩)] s (LvI m s) (InvO wb.heap.size m s) where
  keep := fun i w w' h hb => h.keep hb
  level := fun i x w h hx => levelO wb.heap.size m s i x w h hx m1 m2 hs
  settle := fun i x w h hx hz => settleO wb.heap.size m s i x w h hx hz (by have := (List.getElem?_eq_some_iff.1 hx).1; omega) m1 m2 hs
theorem startO (A : Nat) (w0 : World) (m : Int) (s : List Int) (hz : w0.heap.size = A + 3) (c0 : w0.cell? ⟨A, 0, none⟩ = some (.int .i64 m)) (c1 : w0.cell? ⟨A + 1, 0, none⟩ = some (.slice none 0 0)) (f1 : w0.frozen? ⟨A + 1, 0, none⟩ = false) (c2 : w0.cell? ⟨A + 2, 0, none⟩ = some (.int .i64 0)) (f2 : w0.frozen? ⟨A + 2, 0, none⟩ = false) (w1 : World) (h : ∀ b, b < w0.heap.size → w1.heap[b]? = w0.heap[b]?) : InvO A m s 0 w1 := by
  have c : ∀ b, b < A + 3 → w1.cell? ⟨b, 0, none⟩ = w0.cell? ⟨b, 0, none⟩ := fun b hb => World.cell?_of_block (h b (by omega))
  have f : ∀ b, b < A + 3 → w1.frozen? ⟨b, 0, none⟩ = w0.frozen? ⟨b, 0, none⟩ := fun b hb => World.frozen?_of_block (h b (by omega))
  exact ⟨(c _ (by omega)).trans c0, ⟨(c _ (by omega)).trans c2, (f _ (by omega)).trans f2⟩, (f _ (by omega)).trans f1, _, (c _ (by omega)).trans c1, World.ownsRow_nil _ _ _ _⟩
set_option maxHeartbeats 1000000 in
theorem runOneBit_w (m : Int) (v : Value) (s : List Int) (w : World) (hs : Sl w v s) (hl : s.length ≤ 200) (hi : InP (-m) m s) (m1 : 1 ≤ m) (m2 : m ≤ 1000) :
    Calls Try.prog 45 #[.int .i64 m, v] w (Gives2 w (moBL m s) (moSL m s)) := by
  have HS := hid hs
  have HI := hid hi
  have hmk := mkFunc
  clear hs hi
  go_enter Try.func45, Try.ntmps45
  go_wp2_with fail
  have hb0 : Below w.heap.size w (((w.alloc (.cells #[.int .i64 m] 3)).alloc (.cells #[.slice none 0 0] 24)).alloc (.cells #[.int .i64 0] 3)) := bel_step (bel_step (bel_alloc _ _) (bel_alloc _ _)) (bel_alloc _ _)
  have hz0 : (((w.alloc (.cells #[.int .i64 m] 3)).alloc (.cells #[.slice none 0 0] 24)).alloc (.cells #[.int .i64 0] 3)).heap.size = w.heap.size + 3 := by simp
  have e0 : (((w.alloc (.cells #[.int .i64 m] 3)).alloc (.cells #[.slice none 0 0] 24)).alloc (.cells #[.int .i64 0] 3)).heap[w.heap.size]? = some (.cells #[.int .i64 m] 3 (0, 0)) := by
    rw [Below.heap_alloc _ _ _ (by simp; omega), Below.heap_alloc _ _ _ (by simp)]; exact heap_alloc_new _ _
  have e1 : (((w.alloc (.cells #[.int .i64 m] 3)).alloc (.cells #[.slice none 0 0] 24)).alloc (.cells #[.int .i64 0] 3)).heap[w.heap.size + 1]? = some (.cells #[.slice none 0 0] 24 (0, 0)) := by
    rw [Below.heap_alloc _ _ _ (by simp)]
    have := heap_alloc_new (w.alloc (.cells #[.int .i64 m] 3)) (.cells #[.slice none 0 0] 24)
    rwa [World.size_alloc] at this
  have e2 : (((w.alloc (.cells #[.int .i64 m] 3)).alloc (.cells #[.slice none 0 0] 24)).alloc (.cells #[.int .i64 0] 3)).heap[w.heap.size + 2]? = some (.cells #[.int .i64 0] 3 (0, 0)) := by
    have := heap_alloc_new ((w.alloc (.cells #[.int .i64 m] 3)).alloc (.cells #[.slice none 0 0] 24)) (.cells #[.int .i64 0] 3)
    rwa [World.size_alloc, World.size_alloc] at this
  generalize (((w.alloc (.cells #[.int .i64 m] 3)).alloc (.cells #[.slice none 0 0] 24)).alloc (.cells #[.int .i64 0] 3)) = w0 at hb0 hz0 e0 e1 e2 ⊢
  have hst := startO w.heap.size w0 m s hz0 (cell_of_row _ _ 0 _ _ _ e0) (cell_of_row _ _ 0 _ _ _ e1) (frozen_of_row _ _ 0 _ _ e1) (cell_of_row _ _ 0 _ _ _ e2) (frozen_of_row _ _ 0 _ _ e2)
  have hmod := modO w m s (by omega) m1 m2 HI.out
  rw [← hz0] at hmod
  refine (modulate_any 78 79 _ _ enterL enterS w w0 v s HS.out hb0 hl (LvI m s) (InvO w.heap.size m s) hmod hst).mono ?_
  rintro e w1 ⟨rfl, hblk, ⟨_, _, _, u, hu, hown⟩, hb⟩
  have hr1 := hblk.res (show w.heap.size ≤ w0.heap.size + 2 by omega)
  rw [tab_len] at hr1
  have hr2 : Res 3 w.heap.size w1 u (moSL m s) := (Res.owns (by unfold moSL; rw [tab_len]; exact hown)).mono (by omega)
  have Hr1 := hid hr1
  have Hr2 := hid hr2
  have HB := hid hb
  clear hr1 hr2 hb hblk hown hst hmod e0 e1 e2 hb0 hz0
  go_wp2_with fail
  go_quiet (fail)
  go_wp2
  go_ret2
  exact ⟨_, _, rfl, Hr1.out.kept (bel_drewN w1 _), Hr2.out.kept (bel_drewN w1 _), below_drewN HB.out _⟩


theorem runOneBit_any (m : Int) (v : Value) (s : List Int) (w : World) (hs : Sl w v s) (hl : s.length ≤ 64) (hi : InP (-m) m s) (m1 : 1 ≤ m) (m2 : m ≤ 1000) :
    Calls Try.prog 45 #[.int .i64 m, v] w (Gives2 w (moBL m s) (moSL m s)) := runOneBit_w m v s w hs (by omega) hi m1 m2


def obR (m : Int) (s : List Int) : List Int := onB (sdB m s) (moBL m s) []
theorem obR_len (m : Int) (s : List Int) (h : s.length ≤ 1048576) : (obR m s).length ≤ 2000000 := by
  unfold obR onB; split
  · rw [moBL, tab_len]; omega
  · simp


set_option maxHeartbeats 1000000 in
theorem spec_OneBits_is (m : Int) (v : Value) (s : List Int) (w : World) (hs : Sl w v s) :
    Calls Try.prog 8 #[.int .i64 m, v] w (Gives w (obR m s) (sdB m s)) := by
  cases hq : sdB m s
  · have HS := hid hs
    have HR := hid (show obR m s = [] from by unfold obR; rw [hq]; rfl)
    have HQ := hid hq
    clear hq hs
    go_enter Try.func8, Try.ntmps8
    go_wp2_with fail
    refine (spec_dmScaled_q m v s false _ HS.out HQ.out).mono ?_
    rintro e w' ⟨rfl, rfl⟩
    go_wp2_with fail
    go_ret2
    exact gives_of rfl HR.out ⟨_, rfl, .inl ⟨rfl, rfl⟩, Below.refl _ _⟩
  · obtain ⟨⟨m1, m2⟩, hsg, hin⟩ := sdB_t hq
    have HS := hid hs
    have HR := hid (show obR m s = moBL m s from by unfold obR; rw [hq]; rfl)
    have HQ := hid hq
    have HG := hid hsg
    have HI := hid hin
    clear hq hs hsg hin
    go_enter Try.func8, Try.ntmps8
    go_wp2_with fail
    refine (spec_dmScaled_q m v s true _ HS.out HQ.out).mono ?_
    rintro e w' ⟨rfl, rfl⟩
    go_wp2_with fail
    refine (dmOne_any m v s _ HS.out (by have := HG.out.1; omega) HI.out m1 m2).mono ?_
    rintro e w1 ⟨u1, u2, rfl, hr1, hr2, hb⟩
    go_wp2_with fail
    go_ret2
    exact gives_of rfl HR.out ⟨_, rfl, hr1, hb⟩


set_option maxHeartbeats 1000000 in
theorem impl_OneBits_is (m : Int) (v : Value) (s : List Int) (w : World) (hs : Sl w v s) :
    Calls Try.prog 7 #[.int .i64 m, v] w (Gives w (obR m s) (sdB m s)) := by
  cases hq : sdB m s
  · have HS := hid hs
    have HR := hid (show obR m s = [] from by unfold obR; rw [hq]; rfl)
    have HQ := hid hq
    clear hq hs
    go_enter Try.func7, Try.ntmps7
    go_wp2_with fail
    refine (impl_IsScaled_q m v s false _ HS.out HQ.out).mono ?_
    rintro e w' ⟨rfl, rfl⟩
    go_wp2_with fail
    go_ret2
    exact gives_of rfl HR.out ⟨_, rfl, .inl ⟨rfl, rfl⟩, Below.refl _ _⟩
  · obtain ⟨⟨m1, m2⟩, hsg, hin⟩ := sdB_t hq
    have HS := hid hs
    have HR := hid (show obR m s = moBL m s from by unfold obR; rw [hq]; rfl)
    have HQ := hid hq
    have HG := hid hsg
    have HI := hid hin
    clear hq hs hsg hin
    go_enter Try.func7, Try.ntmps7
    go_wp2_with fail
    refine (impl_IsScaled_q m v s true _ HS.out HQ.out).mono ?_
    rintro e w' ⟨rfl, rfl⟩
    go_wp2_with fail
    refine (runOneBit_any m v s _ HS.out HG.out.1 HI.out m1 m2).mono ?_
    rintro e w1 ⟨u1, u2, rfl, hr1, hr2, hb⟩
    go_wp2_with fail
    go_ret2
    exact gives_of rfl HR.out ⟨_, rfl, hr1, hb⟩


def osR (m : Int) (s : List Int) : List Int := onB (sdB m s) (moSL m s) []
theorem osR_len (m : Int) (s : List Int) (h : s.length ≤ 1048576) : (osR m s).length ≤ 2000000 := by
  unfold osR onB; split
  · rw [moSL, tab_len]; omega
  · simp


set_option maxHeartbeats 1000000 in
theorem spec_StatesOfBits_is (m : Int) (v : Value) (s : List Int) (w : World) (hs : Sl w v s) :
    Calls Try.prog 10 #[.int .i64 m, v] w (Gives w (osR m s) (sdB m s)) := by
  cases hq : sdB m s
  · have HS := hid hs
    have HR := hid (show osR m s = [] from by unfold osR; rw [hq]; rfl)
    have HQ := hid hq
    clear hq hs
    go_enter Try.func10, Try.ntmps10
    go_wp2_with fail
    refine (spec_dmScaled_q m v s false _ HS.out HQ.out).mono ?_
    rintro e w' ⟨rfl, rfl⟩
    go_wp2_with fail
    go_ret2
    exact gives_of rfl HR.out ⟨_, rfl, .inl ⟨rfl, rfl⟩, Below.refl _ _⟩
  · obtain ⟨⟨m1, m2⟩, hsg, hin⟩ := sdB_t hq
    have HS := hid hs
    have HR := hid (show osR m s = moSL m s from by unfold osR; rw [hq]; rfl)
    have HQ := hid hq
    have HG := hid hsg
    have HI := hid hin
    clear hq hs hsg hin
    go_enter Try.func10, Try.ntmps10
    go_wp2_with fail
    refine (spec_dmScaled_q m v s true _ HS.out HQ.out).mono ?_
    rintro e w' ⟨rfl, rfl⟩
    go_wp2_with fail
    refine (dmOne_any m v s _ HS.out (by have := HG.out.1; omega) HI.out m1 m2).mono ?_
    rintro e w1 ⟨u1, u2, rfl, hr1, hr2, hb⟩
    go_wp2_with fail
    go_ret2
    exact gives_of rfl HR.out ⟨_, rfl, hr2, hb⟩


set_option maxHeartbeats 1000000 in
theorem impl_StatesOfBits_is (m : Int) (v : Value) (s : List Int) (w : World) (hs : Sl w v s) :
    Calls Try.prog 9 #[.int .i64 m, v] w (Gives w (osR m s) (sdB m s)) := by
  cases hq : sdB m s
  · have HS := hid hs
    have HR := hid (show osR m s = [] from by unfold osR; rw [hq]; rfl)
    have HQ := hid hq
    clear hq hs
    go_enter Try.func9, Try.ntmps9
    go_wp2_with fail
    refine (impl_IsScaled_q m v s false _ HS.out HQ.out).mono ?_
    rintro e w' ⟨rfl, rfl⟩
    go_wp2_with fail
    go_ret2
    exact gives_of rfl HR.out ⟨_, rfl, .inl ⟨rfl, rfl⟩, Below.refl _ _⟩
  · obtain ⟨⟨m1, m2⟩, hsg, hin⟩ := sdB_t hq
    have HS := hid hs
    have HR := hid (show osR m s = moSL m s from by unfold osR; rw [hq]; rfl)
    have HQ := hid hq
    have HG := hid hsg
    have HI := hid hin
    clear hq hs hsg hin
    go_enter Try.func9, Try.ntmps9
    go_wp2_with fail
    refine (impl_IsScaled_q m v s true _ HS.out HQ.out).mono ?_
    rintro e w' ⟨rfl, rfl⟩
    go_wp2_with fail
    refine (runOneBit_any m v s _ HS.out HG.out.1 HI.out m1 m2).mono ?_
    rintro e w1 ⟨u1, u2, rfl, hr1, hr2, hb⟩
    go_wp2_with fail
    go_ret2
    exact gives_of rfl HR.out ⟨_, rfl, hr2, hb⟩


end Go.Proofs.Ytbhlailnefappaa
