
import Derived.Test.YtbbfigbfkhlddaaPw
namespace Go.Proofs.Ytbbfigbfkhlddaa
open Go.RowKit BitX Go.MemX Go.ShX
set_option linter.unusedVariables false


/-- block g is the filter -/
def FB (T : TypeId) (g : Nat) (a d : Int) (k : Nat) (mode : Int) (n : Nat) (wd : Bool) (w : World) : Prop := w.heap[g]? = some (.cells #[.int .i64 a, .int .i64 d, .int .i64 (k : Int), .int .i64 mode, .int .i64 (n : Int), .bool wd] T (0, 0))
section
variable {T : TypeId} {g : Nat} {a d : Int} {k : Nat} {mode : Int} {n : Nat} {wd : Bool} {w w' : World}
theorem FB.lt (h : FB T g a d k mode n wd w) : g < w.heap.size := (Array.getElem?_eq_some_iff.1 h).1
theorem FB.cells (h : FB T g a d k mode n wd w) : (w.cell? ⟨g, 0, none⟩ = some (.int .i64 a) ∧ w.cell? ⟨g, 1, none⟩ = some (.int .i64 d) ∧ w.cell? ⟨g, 2, none⟩ = some (.int .i64 (k : Int)) ∧ w.cell? ⟨g, 3, none⟩ = some (.int .i64 mode) ∧ w.cell? ⟨g, 4, none⟩ = some (.int .i64 (n : Int)) ∧ w.cell? ⟨g, 5, none⟩ = some (.bool wd)) := by
  refine ⟨?_, ?_, ?_, ?_, ?_, ?_⟩ <;> (rw [cell_of_row w g _ _ _ _ h]; rfl)
theorem FB.same (h : FB T g a d k mode n wd w) (hb : w'.heap[g]? = w.heap[g]?) : FB T g a d k mode n wd w' := hb.trans h
theorem FB.kept (h : FB T g a d k mode n wd w) {m : Nat} (hb : Below m w w') (hg : g < m) : FB T g a d k mode n wd w' := h.same (hb.block g hg)
theorem FB.made (w : World) (T : TypeId) (a d : Int) (k : Nat) (mode : Int) (n : Nat) (wd : Bool) : FB T w.heap.size a d k mode n wd (w.alloc (.cells #[.int .i64 a, .int .i64 d, .int .i64 (k : Int), .int .i64 mode, .int .i64 (n : Int), .bool wd] T)) := by
  show (w.heap.push _)[w.heap.size]? = _
  simp
end
set_option maxHeartbeats 2000000 in
theorem sdNext_any (a d : Int) (k : Nat) (mode : Int) (n : Nat) (wd : Bool) (y z x : Int) (w : World) (h : SoOk a d k mode n) (y1 : -100000 ≤ y) (y2 : y ≤ 100000) (z1 : -100000 ≤ z) (z2 : z ≤ 100000) (x1 : -100000 ≤ x) (x2 : x ≤ 100000) :
    Calls Try.prog 24 #[.agg #[.int .i64 a, .int .i64 d, .int .i64 (k : Int), .int .i64 mode, .int .i64 (n : Int), .bool wd], .agg #[.int .i64 y, .int .i64 z], .int .i64 x] w fun e w' => e = .returned (.agg #[.int .i64 (stepS a d k mode n wd x y z), .int .i64 y]) ∧ Below w.heap.size w w' := by
  have H := hid h
  clear h
  obtain ⟨V0, hV0⟩ : ∃ V, V = ((w.alloc (.cells #[.int .i64 a, .int .i64 d, .int .i64 (k : Int), .int .i64 mode, .int .i64 (n : Int), .bool wd] 30)).alloc (.cells #[.int .i64 y, .int .i64 z] 40)).alloc (.cells #[.int .i64 0, .int .i64 0] 40) := ⟨_, rfl⟩
  have HB := hid (show Below w.heap.size w V0 by rw [hV0]; exact bel_step (bel_step (bel_alloc _ _) (bel_alloc _ _)) (bel_alloc _ _))
  have zs : V0.heap.size = w.heap.size + 3 := by rw [hV0]; simp
  have hf : FB 30 w.heap.size a d k mode n wd V0 := by
    rw [hV0]
    exact ((FB.made w 30 a d k mode n wd).kept (bel_alloc _ _) (by simp)).kept (bel_alloc _ _) (by simp; omega)
  have hp : PB 40 (w.heap.size + 1) (y, z) V0 := by
    have hq := (PB.made (w.alloc (.cells #[.int .i64 a, .int .i64 d, .int .i64 (k : Int), .int .i64 mode, .int .i64 (n : Int), .bool wd] 30)) 40 y z).kept (bel_alloc _ (.cells #[.int .i64 0, .int .i64 0] 40)) (by simp)
    rw [show (w.alloc (.cells #[.int .i64 a, .int .i64 d, .int .i64 (k : Int), .int .i64 mode, .int .i64 (n : Int), .bool wd] 30)).heap.size = w.heap.size + 1 from by simp] at hq
    rw [hV0]; exact hq
  have hr : PB 40 (w.heap.size + 2) (0, 0) V0 := by
    have hq := PB.made ((w.alloc (.cells #[.int .i64 a, .int .i64 d, .int .i64 (k : Int), .int .i64 mode, .int .i64 (n : Int), .bool wd] 30)).alloc (.cells #[.int .i64 y, .int .i64 z] 40)) 40 0 0
    rw [show ((w.alloc (.cells #[.int .i64 a, .int .i64 d, .int .i64 (k : Int), .int .i64 mode, .int .i64 (n : Int), .bool wd] 30)).alloc (.cells #[.int .i64 y, .int .i64 z] 40)).heap.size = w.heap.size + 2 from by simp] at hq
    rw [hV0]; exact hq
  have Hf := hid hf
  have Hp := hid hp
  have Hr := hid hr
  have HV := hid hV0
  have Hz := hid zs
  clear hf hp hr zs hV0
  have n1 : w.heap.size ≠ w.heap.size + 1 + 1 := by omega
  have n2 : w.heap.size + 1 ≠ w.heap.size + 1 + 1 := by omega
  have n3 : w.heap.size + 1 + 1 ≠ w.heap.size := by omega
  have n4 : w.heap.size + 1 + 1 ≠ w.heap.size + 1 := by omega
  go_enter Try.func24, Try.ntmps24
  go_wp2_with fail
  rw [← HV.out]
  have hS : (V0.cell? ⟨w.heap.size, 0, none⟩ = some (.int .i64 a) ∧ V0.cell? ⟨w.heap.size, 1, none⟩ = some (.int .i64 d) ∧ V0.cell? ⟨w.heap.size, 2, none⟩ = some (.int .i64 (k : Int)) ∧ V0.cell? ⟨w.heap.size, 3, none⟩ = some (.int .i64 mode) ∧ V0.cell? ⟨w.heap.size, 4, none⟩ = some (.int .i64 (n : Int)) ∧ V0.cell? ⟨w.heap.size, 5, none⟩ = some (.bool wd)) ∧ V0.cell? ⟨w.heap.size + 1, 0, none⟩ = some (.int .i64 y) ∧ V0.cell? ⟨w.heap.size + 1, 1, none⟩ = some (.int .i64 z) := ⟨Hf.out.cells, Hp.out.c0, Hp.out.c1⟩
  go_region_held3 (fun W => (W.cell? ⟨w.heap.size, 0, none⟩ = some (.int .i64 a) ∧ W.cell? ⟨w.heap.size, 1, none⟩ = some (.int .i64 d) ∧ W.cell? ⟨w.heap.size, 2, none⟩ = some (.int .i64 (k : Int)) ∧ W.cell? ⟨w.heap.size, 3, none⟩ = some (.int .i64 mode) ∧ W.cell? ⟨w.heap.size, 4, none⟩ = some (.int .i64 (n : Int)) ∧ W.cell? ⟨w.heap.size, 5, none⟩ = some (.bool wd)) ∧ W.cell? ⟨w.heap.size + 1, 0, none⟩ = some (.int .i64 y) ∧ W.cell? ⟨w.heap.size + 1, 1, none⟩ = some (.int .i64 z)) (first | exact hS | assumption | go_keep) (first | (go_at_call 38; refine (sdStep_any a d k mode n wd y z x _ H.out y1 y2 z1 z2 x1 x2).mono ?_; rintro e w1 ⟨rfl, hb⟩; have hb1 := (Below.refl V0.heap.size V0).drew.trans (hb.mono (Nat.le_refl _)); have hS : (w1.cell? ⟨w.heap.size, 0, none⟩ = some (.int .i64 a) ∧ w1.cell? ⟨w.heap.size, 1, none⟩ = some (.int .i64 d) ∧ w1.cell? ⟨w.heap.size, 2, none⟩ = some (.int .i64 (k : Int)) ∧ w1.cell? ⟨w.heap.size, 3, none⟩ = some (.int .i64 mode) ∧ w1.cell? ⟨w.heap.size, 4, none⟩ = some (.int .i64 (n : Int)) ∧ w1.cell? ⟨w.heap.size, 5, none⟩ = some (.bool wd)) ∧ w1.cell? ⟨w.heap.size + 1, 0, none⟩ = some (.int .i64 y) ∧ w1.cell? ⟨w.heap.size + 1, 1, none⟩ = some (.int .i64 z) := ⟨(Hf.out.kept hb1 Hf.out.lt).cells, (Hp.out.kept hb1 Hp.out.lt).c0, (Hp.out.kept hb1 Hp.out.lt).c1⟩; have f0 := (Hr.out.kept hb1 Hr.out.lt).free 0; have f1 := (Hr.out.kept hb1 Hr.out.lt).free 1; have r0 := (Hr.out.kept hb1 Hr.out.lt).c0; have r1 := (Hr.out.kept hb1 Hr.out.lt).c1))
  go_wp2_with fail
  refine bodyPost_ret (v := .agg #[.int .i64 (stepS a d k mode n wd x y z), .int .i64 y]) (by simp [results, Try.results24, go_sem, r0, r1]) rfl ⟨rfl, ?_⟩
  have hB2 : Below w.heap.size w w1 := HB.out.trans (hb1.mono (by have := Hz.out; omega))
  exact (hB2.setCell (by show w.heap.size ≤ w.heap.size + 1 + 1; omega) _).setCell (by show w.heap.size ≤ w.heap.size + 1 + 1; omega) _

end Go.Proofs.Ytbbfigbfkhlddaa
