
import Derived.Test.YthkfjoonkkmgiaaXd
import Derived.Test.YthkfjoonkkmgiaaQv
import Derived.Test.YthkfjoonkkmgiaaEo
import Derived.Test.YthkfjoonkkmgiaaAb
import Derived.Laws.EntriesVeiled
namespace Go.Proofs.Ythkfjoonkkmgiaa
open Go.RowKit BitX Go.MemX Go.Ch6 Go.Ch9 Go.ChV
set_option linter.unusedVariables false
theorem _root_.Go.MemX.Res.form9 {E : TypeId} {B : Nat} {w : World} {v : Value} {xs : List Int} (h : Res E B w v xs) : ∃ a n cap, v = .slice a n cap := by
  rcases h with ⟨_, rfl⟩ | ⟨g, cap, rfl, _⟩
  · exact ⟨none, 0, 0, rfl⟩
  · exact ⟨_, _, cap, rfl⟩
def Tr9 (g : Nat) (a b c : Value) (w : World) : Prop := w.heap[g]? = some (.cells #[a, b, c] 42 (0, 0))
theorem Tr9.new (a b c : Value) (w : World) : Tr9 w.heap.size a b c (w.alloc (.cells #[a, b, c] 42)) := alloc_last9 _ _
theorem Tr9.cells {g : Nat} {a b c : Value} {w : World} (h : Tr9 g a b c w) : w.cell? ⟨g, 0, none⟩ = some a ∧ w.cell? ⟨g, 1, none⟩ = some b ∧ w.cell? ⟨g, 2, none⟩ = some c :=
  ⟨by rw [cell_of_row w g 0 _ _ _ h]; rfl, by rw [cell_of_row w g 1 _ _ _ h]; rfl, by rw [cell_of_row w g 2 _ _ _ h]; rfl⟩
theorem Tr9.free {g : Nat} {a b c : Value} {w : World} (h : Tr9 g a b c w) (i : Nat) : w.frozen? ⟨g, i, none⟩ = false := frozen_of_row w g i _ _ h
theorem Tr9.kept {g : Nat} {a b c : Value} {w w' : World} (h : Tr9 g a b c w) (hb : Below w.heap.size w w') : Tr9 g a b c w' := by
  have hl : g < w.heap.size := lt_of_block h
  unfold Tr9; rw [hb.block g hl]; exact h
theorem Tr9.set {g : Nat} {a b c x y z : Value} {w : World} (h : Tr9 g a b c w) : Tr9 g x y z (((w.setCell ⟨g, 0, none⟩ x).setCell ⟨g, 1, none⟩ y).setCell ⟨g, 2, none⟩ z) := by
  unfold Tr9; rw [heap_setCell_same _ _ _ _ _ _ (heap_setCell_same _ _ _ _ _ _ (heap_setCell_same _ _ _ _ _ _ h))]; rfl
theorem _root_.Go.MemX.Res.set9 {E : TypeId} {B g : Nat} {w : World} {v x y z : Value} {xs : List Int} (h : Res E B w v xs) (hg : g < B) : Res E B (((w.setCell ⟨g, 0, none⟩ x).setCell ⟨g, 1, none⟩ y).setCell ⟨g, 2, none⟩ z) v xs :=
  h.same fun j hj => by
    have := h.ge hj
    have hne : j ≠ g := by omega
    rw [heap_setCell_other _ _ _ _ hne, heap_setCell_other _ _ _ _ hne, heap_setCell_other _ _ _ _ hne]


set_option maxHeartbeats 2000000 in
theorem coded_any (gn : Nat) (en : ∀ (args : Array Value) (w : World), (callFunc gn args).run Try.prog w = .ok (.enter gn args) w) (nx : Int → Bool → Int) (hk : Keeps nx) (hN : NextIs Try.prog gn nx) (v : Value) (s : List Int) (f : Int) (w : World) (hs : Sl w v s) (hl : s.length ≤ 200) (f1 : 1 ≤ f) (f2 : f ≤ 4096) (hB : ∀ k y, k < s.length → cdB s k y = 1 ∨ cdB s k y = -1) :
    Calls Try.prog 28 #[v, .int .i64 f, .func (.func gn) #[] #[]] w (Gives3 w (tab s.length (skB nx (cdB s) f)) (tab s.length fun k => skT nx (cdB s) f (k + 1)) (tab s.length fun k => skV nx (cdB s) f (k + 1))) := by
  have hmf : ∀ (fn : Fn) (first cap : Array Value) (w : World), (Instr.makeFunc fn first cap).run Try.prog w = .ok (.func fn first cap) w := fun _ _ _ _ => rfl
  obtain ⟨W1, hW1⟩ : ∃ W1, W1 = (w.alloc (.cells #[v] 24)).alloc (.cells #[.slice none 0 0, .slice none 0 0, .slice none 0 0] 42) := ⟨_, rfl⟩
  have hB1 : Below w.heap.size w W1 := by rw [hW1]; exact bel_step (bel_alloc _ _) (bel_alloc _ _)
  have hz1 : W1.heap.size = w.heap.size + 2 := by rw [hW1]; simp
  have hcv : W1.cell? ⟨w.heap.size, 0, none⟩ = some v := by
    rw [hW1, World.cell?_alloc_lt _ _ _ (by simp), World.cell?_alloc_at _ _ _ _ rfl]; rfl
  have htr : Tr9 (w.heap.size + 1) (.slice none 0 0) (.slice none 0 0) (.slice none 0 0) W1 := by
    have h := Tr9.new (.slice none 0 0) (.slice none 0 0) (.slice none 0 0) (w.alloc (.cells #[v] 24))
    rw [show (w.alloc (.cells #[v] 24)).heap.size = w.heap.size + 1 from by simp] at h
    rw [hW1]; exact h
  have hI : BitIs Try.prog 51 #[.pointer (some ⟨w.heap.size, 0, none⟩)] (cdB s) s.length W1 := fun W k y hk hW => by
    exact codC_any w.heap.size k y v s W ((hW.cell (block_lt_of_cell hcv)).trans hcv) ((hs.kept hB1).kept hW) hl hk
  have HC := hid (stepThrough_any gn 51 #[.pointer (some ⟨w.heap.size, 0, none⟩)] en enterCC nx (cdB s) f s.length W1 hl f1 f2 hk hB hN hI)
  obtain ⟨a, n, cap, hv, hn, _⟩ := hs.rd
  subst hv
  rw [← hn] at HC ⊢
  have HB1 := hid hB1
  have Htr := hid htr
  have Hz1 := hid hz1
  clear hs hl hB hI hB1 htr hn
  go_enter Try.func28, Try.ntmps28
  go_wp2_with fail
  rw [← hW1]
  refine HC.out.mono ?_
  rintro e w2 ⟨x, y, z, rfl, R1, R2, R3, hb⟩
  obtain ⟨xa, xn, xc, rfl⟩ := R1.form9
  obtain ⟨ya, yn, yc, rfl⟩ := R2.form9
  obtain ⟨za, zn, zc, rfl⟩ := R3.form9
  have ht := Htr.out.kept hb
  obtain ⟨q0, q1, q2⟩ := ht.cells
  have p0 := ht.free 0
  have p1 := ht.free 1
  have p2 := ht.free 2
  obtain ⟨g0, g1, g2⟩ := (ht.set (x := .slice xa xn xc) (y := .slice ya yn yc) (z := .slice za zn zc)).cells
  have HR := hid (And.intro R1 (And.intro R2 R3))
  have HB2 := hid (bel_step HB1.out hb)
  clear ht R1 R2 R3 hb hcv
  go_wp2
  refine bodyPost_ret (v := .agg #[.slice xa xn xc, .slice ya yn yc, .slice za zn zc]) (by simp [results, Try.results28, go_sem, g0, g1, g2]) rfl ?_
  have hsz : w.heap.size + 1 < W1.heap.size := by rw [Hz1.out]; omega
  exact ⟨_, _, _, rfl, (HR.out.1.set9 hsz).mono (by omega), (HR.out.2.1.set9 hsz).mono (by omega), (HR.out.2.2.set9 hsz).mono (by omega),
    ((HB2.out.setCell (by show w.heap.size ≤ w.heap.size + 1; omega) _).setCell (by show w.heap.size ≤ w.heap.size + 1; omega) _).setCell (by show w.heap.size ≤ w.heap.size + 1; omega) _⟩


set_option maxHeartbeats 2000000 in
theorem decoded_any (gn : Nat) (en : ∀ (args : Array Value) (w : World), (callFunc gn args).run Try.prog w = .ok (.enter gn args) w) (nx : Int → Bool → Int) (hk : Keeps nx) (hN : NextIs Try.prog gn nx) (v : Value) (s : List Int) (f : Int) (w : World) (hs : Sl w v s) (hl : s.length ≤ 200) (f1 : 1 ≤ f) (f2 : f ≤ 4096) (hB : ∀ k y, k < s.length → tlB s k y = 1 ∨ tlB s k y = -1) :
    Calls Try.prog 42 #[v, .int .i64 f, .func (.func gn) #[] #[]] w (Gives3 w (tab s.length (skB nx (tlB s) f)) (tab s.length fun k => skT nx (tlB s) f (k + 1)) (tab s.length fun k => skV nx (tlB s) f (k + 1))) := by
  have hmf : ∀ (fn : Fn) (first cap : Array Value) (w : World), (Instr.makeFunc fn first cap).run Try.prog w = .ok (.func fn first cap) w := fun _ _ _ _ => rfl
  obtain ⟨W1, hW1⟩ : ∃ W1, W1 = (w.alloc (.cells #[v] 24)).alloc (.cells #[.slice none 0 0, .slice none 0 0, .slice none 0 0] 42) := ⟨_, rfl⟩
  have hB1 : Below w.heap.size w W1 := by rw [hW1]; exact bel_step (bel_alloc _ _) (bel_alloc _ _)
  have hz1 : W1.heap.size = w.heap.size + 2 := by rw [hW1]; simp
  have hcv : W1.cell? ⟨w.heap.size, 0, none⟩ = some v := by
    rw [hW1, World.cell?_alloc_lt _ _ _ (by simp), World.cell?_alloc_at _ _ _ _ rfl]; rfl
  have htr : Tr9 (w.heap.size + 1) (.slice none 0 0) (.slice none 0 0) (.slice none 0 0) W1 := by
    have h := Tr9.new (.slice none 0 0) (.slice none 0 0) (.slice none 0 0) (w.alloc (.cells #[v] 24))
    rw [show (w.alloc (.cells #[v] 24)).heap.size = w.heap.size + 1 from by simp] at h
    rw [hW1]; exact h
  have hI : BitIs Try.prog 57 #[.pointer (some ⟨w.heap.size, 0, none⟩)] (tlB s) s.length W1 := fun W k y hk hW => by
    exact decC_any w.heap.size k y v s W ((hW.cell (block_lt_of_cell hcv)).trans hcv) ((hs.kept hB1).kept hW) hl hk
  have HC := hid (stepThrough_any gn 57 #[.pointer (some ⟨w.heap.size, 0, none⟩)] en enterDC nx (tlB s) f s.length W1 hl f1 f2 hk hB hN hI)
  obtain ⟨a, n, cap, hv, hn, _⟩ := hs.rd
  subst hv
  rw [← hn] at HC ⊢
  have HB1 := hid hB1
  have Htr := hid htr
  have Hz1 := hid hz1
  clear hs hl hB hI hB1 htr hn
  go_enter Try.func42, Try.ntmps42
  go_wp2_with fail
  rw [← hW1]
  refine HC.out.mono ?_
  rintro e w2 ⟨x, y, z, rfl, R1, R2, R3, hb⟩
  obtain ⟨xa, xn, xc, rfl⟩ := R1.form9
  obtain ⟨ya, yn, yc, rfl⟩ := R2.form9
  obtain ⟨za, zn, zc, rfl⟩ := R3.form9
  have ht := Htr.out.kept hb
  obtain ⟨q0, q1, q2⟩ := ht.cells
  have p0 := ht.free 0
  have p1 := ht.free 1
  have p2 := ht.free 2
  obtain ⟨g0, g1, g2⟩ := (ht.set (x := .slice xa xn xc) (y := .slice ya yn yc) (z := .slice za zn zc)).cells
  have HR := hid (And.intro R1 (And.intro R2 R3))
  have HB2 := hid (bel_step HB1.out hb)
  clear ht R1 R2 R3 hb hcv
  go_wp2
  refine bodyPost_ret (v := .agg #[.slice xa xn xc, .slice ya yn yc, .slice za zn zc]) (by simp [results, Try.results42, go_sem, g0, g1, g2]) rfl ?_
  have hsz : w.heap.size + 1 < W1.heap.size := by rw [Hz1.out]; omega
  exact ⟨_, _, _, rfl, (HR.out.1.set9 hsz).mono (by omega), (HR.out.2.1.set9 hsz).mono (by omega), (HR.out.2.2.set9 hsz).mono (by omega),
    ((HB2.out.setCell (by show w.heap.size ≤ w.heap.size + 1; omega) _).setCell (by show w.heap.size ≤ w.heap.size + 1; omega) _).setCell (by show w.heap.size ≤ w.heap.size + 1; omega) _⟩

end Go.Proofs.Ythkfjoonkkmgiaa
