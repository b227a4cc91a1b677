
import Derived.Test.YtbbfigbfkhlddaaPr
import Derived.Maps.OwnSet
import Derived.Maps.OwnOps
import Derived.WideKeyPair
import Derived.DeepKeys4
namespace Go.Proofs.Ytbbfigbfkhlddaa
open Go.RowKit BitX Go.MemX Go.ShX
open Go.Maps (Keyed IsMap)
set_option linter.unusedVariables false


/-- block g is a pair -/
def PB (T : TypeId) (g : Nat) (p : Int × Int) (w : World) : Prop := w.heap[g]? = some (.cells #[.int .i64 p.1, .int .i64 p.2] T (0, 0))
section
variable {T : TypeId} {g : Nat} {p q : Int × Int} {w w' : World}
theorem PB.lt (h : PB T g p w) : g < w.heap.size := (Array.getElem?_eq_some_iff.1 h).1
theorem PB.c0 (h : PB T g p w) : w.cell? ⟨g, 0, none⟩ = some (.int .i64 p.1) := by rw [cell_of_row w g _ _ _ _ h]; rfl
theorem PB.c1 (h : PB T g p w) : w.cell? ⟨g, 1, none⟩ = some (.int .i64 p.2) := by rw [cell_of_row w g _ _ _ _ h]; rfl
theorem PB.free (h : PB T g p w) (i : Nat) : w.frozen? ⟨g, i, none⟩ = false := frozen_of_row w g i _ _ h
theorem PB.same (h : PB T g p w) (hb : w'.heap[g]? = w.heap[g]?) : PB T g p w' := hb.trans h
theorem PB.kept (h : PB T g p w) {n : Nat} (hb : Below n w w') (hg : g < n) : PB T g p w' := h.same (hb.block g hg)
theorem PB.store (h : PB T g p w) (y z : Int) : PB T g (y, z) ((w.setCell ⟨g, 0, none⟩ (.int .i64 y)).setCell ⟨g, 1, none⟩ (.int .i64 z)) := by
  have e1 := heap_setCell_same _ _ 0 _ _ (Value.int .i64 y) h
  have e2 := heap_setCell_same _ _ 1 _ _ (Value.int .i64 z) e1
  exact e2
theorem PB.made (w : World) (T : TypeId) (y z : Int) : PB T w.heap.size (y, z) (w.alloc (.cells #[.int .i64 y, .int .i64 z] T)) := by
  show (w.heap.push _)[w.heap.size]? = _
  simp
end
theorem ownsMap_same {H : Type} {P : Program} {k : TypeId} {R : Value → Option (DataW H × List MemPlace)} {w w' : World} {b n : Nat} {D : DataW H} (h : w.ownsMap P k R b n D) (hb : w'.heap[b]? = w.heap[b]?) : w'.ownsMap P k R b n D := by
  obtain ⟨es, clock, h1, r⟩ := h
  exact ⟨es, clock, hb.trans h1, r⟩
theorem ownsRow_sameP {w w' : World} {base : Nat} {e : TypeId} {size : Nat} {v : Value} {n : Nat} {xs : List Value} (h : w.ownsRow base e size v n xs) (hs : w.heap.size ≤ w'.heap.size) (hb : ∀ j, base ≤ j → j < w.heap.size → w'.heap[j]? = w.heap[j]?) : w'.ownsRow base e size v n xs := by
  obtain ⟨h1, h2 | ⟨g, cap, cur, hv, hB, hh, r⟩⟩ := h
  · exact ⟨h1, .inl h2⟩
  · exact ⟨h1, .inr ⟨g, cap, cur, hv, hB, (hb g hB (Array.getElem?_eq_some_iff.1 hh).1).trans hh, r⟩⟩
theorem upairN : Try.prog.underlying 48 = some (.array 2 3) := upair
theorem uintN : Try.prog.underlying 3 = some (.int .i64) := by kernel_rfl
theorem umapN : Try.prog.underlying 58 = some (.map 48 3) := by kernel_rfl
theorem uslP : Try.prog.underlying 44 = some (.slice 48) := by kernel_rfl
theorem iPair : (Try.prog.info? 48).map (fun i => (i.zero, i.size, i.bytes)) = some (some (.agg #[.int .i64 0, .int .i64 0]), 2, 16) := by kernel_rfl
theorem laidN : laidOutB Try.prog = true := by kernel_rfl
theorem lawP : Keyed Try.prog 48 := Keyed.of_law (deep_law_laid laidN (m := 2) (by omega) (of_decide_eq_true (by kernel_rfl)) (by kernel_rfl) (by rw [upairN]))
theorem arrP : Go.WideMaps.ArrKey Try.prog 48 3 2 := ⟨upairN, by kernel_rfl, by kernel_rfl, by kernel_rfl⟩
theorem zeroI (w : World) : (zeroValue 3).run Try.prog w = .ok (.int .i64 0) w := by kernel_rfl
theorem typesN : ∃ m, Try.prog.types.size = m + 1 := ⟨Try.prog.types.size - 1, by have h : 0 < Try.prog.types.size := of_decide_eq_true (by kernel_rfl); omega⟩
def kl2 (p : Int × Int) : Lit := .string (keyBytes [.int .i64 p.1, .int .i64 p.2])
theorem kl2_at {p : Int × Int} (h1 : -100000 ≤ p.1 ∧ p.1 ≤ 100000) (h2 : -100000 ≤ p.2 ∧ p.2 ≤ 100000) : keyOf Try.prog 48 (.agg #[.int .i64 p.1, .int .i64 p.2]) = some (kl2 p) :=
  Go.WideMaps.keyOf_pair arrP uintN typesN (WalkArith.wf_i64 (by omega)) (WalkArith.wf_i64 (by omega))
theorem kl2_inj {p q : Int × Int} (h1 : -100000 ≤ p.1 ∧ p.1 ≤ 100000) (h2 : -100000 ≤ p.2 ∧ p.2 ≤ 100000) (h3 : -100000 ≤ q.1 ∧ q.1 ≤ 100000) (h4 : -100000 ≤ q.2 ∧ q.2 ≤ 100000) (h : kl2 p = kl2 q) : p = q := by
  have := lawP.inj (kl2_at h1 h2) (by rw [h]; exact kl2_at h3 h4)
  simp at this
  exact Prod.ext this.1 this.2
/-- the map behind c steps -/
noncomputable def dmP (ow : Nat → Int × Int) : Nat → DataW Unit
  | 0 => .map []
  | c + 1 => (dmP ow c).put (kl2 (ow c)) (.lit (.int .i64 (c : Int)))
theorem dmP_map (ow : Nat → Int × Int) (c : Nat) : IsMap (dmP ow c) := by
  induction c with
  | zero => exact Maps.isMap_empty
  | succ c ih => exact ih.put _ _
def InPr (ow : Nat → Int × Int) : Prop := ∀ i, (-100000 ≤ (ow i).1 ∧ (ow i).1 ≤ 100000) ∧ -100000 ≤ (ow i).2 ∧ (ow i).2 ≤ 100000
theorem InPr.key {ow : Nat → Int × Int} (h : InPr ow) (i : Nat) : WideAt.IsKeyLit (kl2 (ow i)) := trivial
theorem dmP_no {ow : Nat → Int × Int} (h : InPr ow) {c i : Nat} (ha : ∀ j, j < c → ow j ≠ ow i) : Maps.has (dmP ow c) (kl2 (ow i)) = false := by
  induction c with
  | zero => rfl
  | succ c ih =>
    show Maps.has ((dmP ow c).put _ _) _ = false
    rw [Maps.has_put_other (fun e => ha c (by omega) (kl2_inj (h i).1 (h i).2 (h c).1 (h c).2 e).symm)]
    exact ih fun j hj => ha j (by omega)
theorem dmP_yes {ow : Nat → Int × Int} (h : InPr ow) {c i j : Nat} (hj : j < c) (he : ow j = ow i) (ha : ∀ a b, a < b → b < c → ow a ≠ ow b) (z : DataW Unit) : Maps.has (dmP ow c) (kl2 (ow i)) = true ∧ (dmP ow c).atKey (kl2 (ow i)) z = .lit (.int .i64 (j : Int)) := by
  induction c with
  | zero => omega
  | succ c ih =>
    show Maps.has ((dmP ow c).put _ _) _ = true ∧ ((dmP ow c).put _ _).atKey _ z = _
    by_cases e : j = c
    · subst e
      rw [← he]
      exact ⟨Maps.has_put_same (dmP_map ow j) (h.key j) _, Maps.atKey_put_same (dmP_map ow j) (h.key j) _ _⟩
    · have hne : kl2 (ow i) ≠ kl2 (ow c) := fun e' => ha j c (by omega) (by omega) (by rw [he]; exact kl2_inj (h i).1 (h i).2 (h c).1 (h c).2 e')
      rw [Maps.has_put_other hne, Maps.atKey_put_other hne]
      exact ih (by omega) fun a b hab hb => ha a b hab (by omega)

end Go.Proofs.Ytbbfigbfkhlddaa
