
import Derived.Test.YtbbfigbfkhlddaaPn
import Derived.Deep.RegionHeld3
import Derived.Deep.CutRange
import Derived.Deep.Cut
namespace Go.Proofs.Ytbbfigbfkhlddaa
open Go.RowKit BitX Go.MemX Go.ShX
set_option linter.unusedVariables false


/-- the blocks gs are new pairs of noughts -/
def InvQ (T : TypeId) (V W : World) (gs : List Nat) : Prop := Below V.heap.size V W ∧ (∀ g, g ∈ gs → V.heap.size ≤ g ∧ PB T g (0, 0) W) ∧ gs.Nodup
section
variable {T : TypeId} {V W W' : World} {gs : List Nat}
theorem InvQ.start (T : TypeId) (V : World) : InvQ T V V [] := ⟨Below.refl _ _, fun g hg => absurd hg (List.not_mem_nil), List.nodup_nil⟩
theorem InvQ.drew (h : InvQ T V W gs) : InvQ T V W.drew gs := ⟨h.1.drew, h.2.1, h.2.2⟩
theorem InvQ.step (h : InvQ T V W gs) (hb : Below W.heap.size W W') : InvQ T V W' gs := ⟨bel_step h.1 hb, fun g hg => ⟨(h.2.1 g hg).1, (h.2.1 g hg).2.kept hb (h.2.1 g hg).2.lt⟩, h.2.2⟩
theorem InvQ.grow (h : InvQ T V W gs) : InvQ T V (W.alloc (.cells #[.int .i64 0, .int .i64 0] T)) (W.heap.size :: gs) := by
  refine ⟨bel_step h.1 (bel_alloc _ _), fun g hg => ?_, ?_⟩
  · rcases List.mem_cons.1 hg with rfl | hg
    · exact ⟨h.1.size, PB.made W T 0 0⟩
    · exact ⟨(h.2.1 g hg).1, (h.2.1 g hg).2.kept (bel_alloc _ _) (h.2.1 g hg).2.lt⟩
  · refine List.nodup_cons.2 ⟨fun hm => ?_, h.2.2⟩
    have := (h.2.1 _ hm).2.lt
    omega
theorem InvQ.grow2 (h : InvQ T V W gs) : InvQ T V ((W.alloc (.cells #[.int .i64 0, .int .i64 0] T)).alloc (.cells #[.int .i64 0, .int .i64 0] T)) ((W.heap.size + 1) :: W.heap.size :: gs) := by
  have := h.grow.grow
  rwa [show (W.alloc (.cells #[.int .i64 0, .int .i64 0] T)).heap.size = W.heap.size + 1 from by simp] at this
theorem InvQ.f1 {g : Nat} (h : InvQ T V W (g :: gs)) : W.cell? ⟨g, 0, none⟩ = some (.int .i64 0) ∧ W.cell? ⟨g, 1, none⟩ = some (.int .i64 0) ∧ W.frozen? ⟨g, 0, none⟩ = false ∧ W.frozen? ⟨g, 1, none⟩ = false := by
  have := (h.2.1 g (by simp)).2
  exact ⟨this.c0, this.c1, this.free 0, this.free 1⟩
theorem InvQ.f2 {g1 g2 : Nat} (h : InvQ T V W (g1 :: g2 :: gs)) : (W.cell? ⟨g2, 0, none⟩ = some (.int .i64 0) ∧ W.cell? ⟨g2, 1, none⟩ = some (.int .i64 0) ∧ W.frozen? ⟨g2, 0, none⟩ = false ∧ W.frozen? ⟨g2, 1, none⟩ = false) ∧ g1 ≠ g2 ∧ g2 ≠ g1 := by
  have := (h.2.1 g2 (by simp)).2
  have hn : g1 ≠ g2 := fun e => by
    have := h.2.2
    rw [List.nodup_cons] at this
    exact this.1 (by simp [e])
  exact ⟨⟨this.c0, this.c1, this.free 0, this.free 1⟩, hn, hn.symm⟩
theorem set_other {w : World} {a b : Nat} {p : Int × Int} (u v : Value) (h : PB T b p w) (hn : b ≠ a) : PB T b p ((w.setCell ⟨a, 0, none⟩ u).setCell ⟨a, 1, none⟩ v) :=
  h.same (by rw [heap_setCell_other _ _ _ _ (by exact hn), heap_setCell_other _ _ _ _ (by exact hn)])
theorem InvQ.f3 {g1 g2 : Nat} (h : InvQ T V W (g1 :: g2 :: gs)) (u v : Value) : (((W.setCell ⟨g1, 0, none⟩ u).setCell ⟨g1, 1, none⟩ v).cell? ⟨g2, 0, none⟩ = some (.int .i64 0) ∧ ((W.setCell ⟨g1, 0, none⟩ u).setCell ⟨g1, 1, none⟩ v).cell? ⟨g2, 1, none⟩ = some (.int .i64 0) ∧ ((W.setCell ⟨g1, 0, none⟩ u).setCell ⟨g1, 1, none⟩ v).frozen? ⟨g2, 0, none⟩ = false ∧ ((W.setCell ⟨g1, 0, none⟩ u).setCell ⟨g1, 1, none⟩ v).frozen? ⟨g2, 1, none⟩ = false) ∧ ((W.setCell ⟨g2, 0, none⟩ u).setCell ⟨g2, 1, none⟩ v).cell? ⟨g1, 0, none⟩ = some (.int .i64 0) ∧ ((W.setCell ⟨g2, 0, none⟩ u).setCell ⟨g2, 1, none⟩ v).cell? ⟨g1, 1, none⟩ = some (.int .i64 0) ∧ ((W.setCell ⟨g2, 0, none⟩ u).setCell ⟨g2, 1, none⟩ v).frozen? ⟨g1, 0, none⟩ = false ∧ ((W.setCell ⟨g2, 0, none⟩ u).setCell ⟨g2, 1, none⟩ v).frozen? ⟨g1, 1, none⟩ = false := by
  obtain ⟨_, hn1, hn2⟩ := h.f2
  have h1 := set_other u v (h.2.1 g2 (by simp)).2 hn2
  have h2 := set_other u v (h.2.1 g1 (by simp)).2 hn1
  exact ⟨⟨h1.c0, h1.c1, h1.free 0, h1.free 1⟩, h2.c0, h2.c1, h2.free 0, h2.free 1⟩
theorem InvQ.f4 {g : Nat} (h : InvQ T V W (g :: gs)) (o : Obj) : (W.alloc o).cell? ⟨g, 0, none⟩ = some (.int .i64 0) ∧ (W.alloc o).cell? ⟨g, 1, none⟩ = some (.int .i64 0) ∧ (W.alloc o).frozen? ⟨g, 0, none⟩ = false ∧ (W.alloc o).frozen? ⟨g, 1, none⟩ = false := by
  have := (h.2.1 g (by simp)).2.kept (bel_alloc W o) (h.2.1 g (by simp)).2.lt
  exact ⟨this.c0, this.c1, this.free 0, this.free 1⟩
theorem InvQ.ge (h : InvQ T V W gs) {g : Nat} (hg : g ∈ gs) : V.heap.size ≤ g := (h.2.1 g hg).1
end
theorem geQ {T : TypeId} {V W : World} {gs : List Nat} {m g : Nat} (hz : V.heap.size = m + 3) (h : InvQ T V W gs) (hg : g ∈ gs) : m + 2 ≤ g := by
  have := h.ge hg
  omega
/-- what the region loads -/
theorem sS {T T2 : TypeId} {g : Nat} {a d : Int} {k : Nat} {mode : Int} {n : Nat} {wd : Bool} {y z : Int} {V W : World} {gs : List Nat} (hf : FB T g a d k mode n wd V) (hp : PB T2 (g + 1) (y, z) V) (h : InvQ T2 V W gs) :
    (W.cell? ⟨g, 0, none⟩ = some (.int .i64 a) ∧ W.cell? ⟨g, 1, none⟩ = some (.int .i64 d) ∧ W.cell? ⟨g, 2, none⟩ = some (.int .i64 (k : Int)) ∧ W.cell? ⟨g, 3, none⟩ = some (.int .i64 mode) ∧ W.cell? ⟨g, 4, none⟩ = some (.int .i64 (n : Int)) ∧ W.cell? ⟨g, 5, none⟩ = some (.bool wd)) ∧ W.cell? ⟨g + 1, 0, none⟩ = some (.int .i64 y) ∧ W.cell? ⟨g + 1, 1, none⟩ = some (.int .i64 z) :=
  ⟨(hf.kept h.1 hf.lt).cells, (hp.kept h.1 hp.lt).c0, (hp.kept h.1 hp.lt).c1⟩
theorem sB {T T2 : TypeId} {g : Nat} {a d : Int} {k : Nat} {mode : Int} {n : Nat} {wd : Bool} {y z : Int} {V W : World} (hf : FB T g a d k mode n wd V) (hp : PB T2 (g + 1) (y, z) V) (h : Below V.heap.size V W) :
    (W.cell? ⟨g, 0, none⟩ = some (.int .i64 a) ∧ W.cell? ⟨g, 1, none⟩ = some (.int .i64 d) ∧ W.cell? ⟨g, 2, none⟩ = some (.int .i64 (k : Int)) ∧ W.cell? ⟨g, 3, none⟩ = some (.int .i64 mode) ∧ W.cell? ⟨g, 4, none⟩ = some (.int .i64 (n : Int)) ∧ W.cell? ⟨g, 5, none⟩ = some (.bool wd)) ∧ W.cell? ⟨g + 1, 0, none⟩ = some (.int .i64 y) ∧ W.cell? ⟨g + 1, 1, none⟩ = some (.int .i64 z) :=
  ⟨(hf.kept h hf.lt).cells, (hp.kept h hp.lt).c0, (hp.kept h hp.lt).c1⟩
theorem InvQ.bel {T : TypeId} {V W : World} {gs : List Nat} (h : InvQ T V W gs) : Below V.heap.size V W := h.1
theorem InvQ.g1 {T : TypeId} {V W : World} {gs : List Nat} {m g : Nat} (h : InvQ T V W (g :: gs)) (hz : V.heap.size = m + 3) : m + 2 ≤ g := geQ hz h (by simp)
theorem InvQ.g2 {T : TypeId} {V W : World} {gs : List Nat} {m g' g : Nat} (h : InvQ T V W (g' :: g :: gs)) (hz : V.heap.size = m + 3) : m + 2 ≤ g := geQ hz h (by simp)
theorem sSet {g b : Nat} {a d : Int} {k : Nat} {mode : Int} {n : Nat} {wd : Bool} {y z : Int} {W : World} {u v : Value} (h : (W.cell? ⟨g, 0, none⟩ = some (.int .i64 a) ∧ W.cell? ⟨g, 1, none⟩ = some (.int .i64 d) ∧ W.cell? ⟨g, 2, none⟩ = some (.int .i64 (k : Int)) ∧ W.cell? ⟨g, 3, none⟩ = some (.int .i64 mode) ∧ W.cell? ⟨g, 4, none⟩ = some (.int .i64 (n : Int)) ∧ W.cell? ⟨g, 5, none⟩ = some (.bool wd)) ∧ W.cell? ⟨g + 1, 0, none⟩ = some (.int .i64 y) ∧ W.cell? ⟨g + 1, 1, none⟩ = some (.int .i64 z)) (hb : g + 2 ≤ b) :
    (((W.setCell ⟨b, 0, none⟩ u).setCell ⟨b, 1, none⟩ v).cell? ⟨g, 0, none⟩ = some (.int .i64 a) ∧ ((W.setCell ⟨b, 0, none⟩ u).setCell ⟨b, 1, none⟩ v).cell? ⟨g, 1, none⟩ = some (.int .i64 d) ∧ ((W.setCell ⟨b, 0, none⟩ u).setCell ⟨b, 1, none⟩ v).cell? ⟨g, 2, none⟩ = some (.int .i64 (k : Int)) ∧ ((W.setCell ⟨b, 0, none⟩ u).setCell ⟨b, 1, none⟩ v).cell? ⟨g, 3, none⟩ = some (.int .i64 mode) ∧ ((W.setCell ⟨b, 0, none⟩ u).setCell ⟨b, 1, none⟩ v).cell? ⟨g, 4, none⟩ = some (.int .i64 (n : Int)) ∧ ((W.setCell ⟨b, 0, none⟩ u).setCell ⟨b, 1, none⟩ v).cell? ⟨g, 5, none⟩ = some (.bool wd)) ∧ ((W.setCell ⟨b, 0, none⟩ u).setCell ⟨b, 1, none⟩ v).cell? ⟨g + 1, 0, none⟩ = some (.int .i64 y) ∧ ((W.setCell ⟨b, 0, none⟩ u).setCell ⟨b, 1, none⟩ v).cell? ⟨g + 1, 1, none⟩ = some (.int .i64 z) := by
  have key : ∀ j i, j < b → ((W.setCell ⟨b, 0, none⟩ u).setCell ⟨b, 1, none⟩ v).cell? ⟨j, i, none⟩ = W.cell? ⟨j, i, none⟩ := fun j i hj =>
    World.cell?_of_block (by show _ = _; rw [heap_setCell_other _ _ _ _ (by show j ≠ b; omega), heap_setCell_other _ _ _ _ (by show j ≠ b; omega)])
  rw [key _ _ (by omega), key _ _ (by omega), key _ _ (by omega), key _ _ (by omega), key _ _ (by omega), key _ _ (by omega), key _ _ (by omega), key _ _ (by omega)]
  exact h
theorem two9 {w V W : World} {a d : Int} {k : Nat} {mode : Int} {n : Nat} {wd : Bool} {p : Int × Int} {y1 z1 y2 z2 : Int} {gs : List Nat} {ga gb : Nat} (hf : FB 30 w.heap.size a d k mode n wd V) (hp : PB 40 (w.heap.size + 1) p V) (hr : PB 40 (w.heap.size + 2) (0, 0) V) (hB : Below w.heap.size w V) (hz : V.heap.size = w.heap.size + 3) (h : InvQ 40 V W gs) (ha : ga ∈ gs) (hb : gb ∈ gs) (hne : ga ≠ gb) :
    Two9 w ((((W.setCell ⟨ga, 0, none⟩ (.int .i64 y1)).setCell ⟨ga, 1, none⟩ (.int .i64 z1)).setCell ⟨gb, 0, none⟩ (.int .i64 y2)).setCell ⟨gb, 1, none⟩ (.int .i64 z2)) a d k mode n wd p (y1, z1) (y2, z2) ga gb := by
  have e1 := h.ge ha
  have e2 := h.ge hb
  have key : ∀ j, j ≠ ga → j ≠ gb → ((((W.setCell ⟨ga, 0, none⟩ (.int .i64 y1)).setCell ⟨ga, 1, none⟩ (.int .i64 z1)).setCell ⟨gb, 0, none⟩ (.int .i64 y2)).setCell ⟨gb, 1, none⟩ (.int .i64 z2)).heap[j]? = W.heap[j]? := fun j h1 h2 => by
    rw [heap_setCell_other _ _ _ _ (by exact h2), heap_setCell_other _ _ _ _ (by exact h2), heap_setCell_other _ _ _ _ (by exact h1), heap_setCell_other _ _ _ _ (by exact h1)]
  refine ⟨(hf.kept h.1 hf.lt).same (key _ (by omega) (by omega)), (hp.kept h.1 hp.lt).same (key _ (by omega) (by omega)), (hr.kept h.1 hr.lt).same (key _ (by omega) (by omega)), ?_, ?_, hne, by omega, by omega, ?_⟩
  · refine PB.same ((h.2.1 ga ha).2.store y1 z1) ?_
    rw [heap_setCell_other _ _ _ _ (by exact hne), heap_setCell_other _ _ _ _ (by exact hne)]
  · refine PB.store (p := (0, 0)) ?_ y2 z2
    refine (h.2.1 gb hb).2.same ?_
    rw [heap_setCell_other _ _ _ _ (by exact hne.symm), heap_setCell_other _ _ _ _ (by exact hne.symm)]
  · have hBW : Below w.heap.size w W := hB.trans (h.1.mono (by omega))
    exact (((hBW.setCell (by show w.heap.size ≤ ga; omega) _).setCell (by show w.heap.size ≤ ga; omega) _).setCell (by show w.heap.size ≤ gb; omega) _).setCell (by show w.heap.size ≤ gb; omega) _
theorem two9A {w V W : World} {a d : Int} {k : Nat} {mode : Int} {n : Nat} {wd : Bool} {p : Int × Int} {y1 z1 y2 z2 : Int} {gs : List Nat} (hf : FB 30 w.heap.size a d k mode n wd V) (hp : PB 40 (w.heap.size + 1) p V) (hr : PB 40 (w.heap.size + 2) (0, 0) V) (hB : Below w.heap.size w V) (hz : V.heap.size = w.heap.size + 3) (h : InvQ 40 V W gs) :
    Two9 w ((W.alloc (.cells #[.int .i64 y1, .int .i64 z1] 40)).alloc (.cells #[.int .i64 y2, .int .i64 z2] 40)) a d k mode n wd p (y1, z1) (y2, z2) W.heap.size (W.heap.size + 1) ∧ Two9 w ((W.alloc (.cells #[.int .i64 y1, .int .i64 z1] 40)).alloc (.cells #[.int .i64 y2, .int .i64 z2] 40)) a d k mode n wd p (y2, z2) (y1, z1) (W.heap.size + 1) W.heap.size := by
  have e1 := h.1.size
  have hb := bel_step h.1 (bel_step (bel_alloc W (.cells #[.int .i64 y1, .int .i64 z1] 40)) (bel_alloc _ (.cells #[.int .i64 y2, .int .i64 z2] 40)))
  have hBW := hB.trans (hb.mono (by omega))
  have q1 : PB 40 W.heap.size (y1, z1) ((W.alloc (.cells #[.int .i64 y1, .int .i64 z1] 40)).alloc (.cells #[.int .i64 y2, .int .i64 z2] 40)) := (PB.made W 40 y1 z1).kept (bel_alloc _ _) (by simp)
  have q2 : PB 40 (W.heap.size + 1) (y2, z2) ((W.alloc (.cells #[.int .i64 y1, .int .i64 z1] 40)).alloc (.cells #[.int .i64 y2, .int .i64 z2] 40)) := by
    have := PB.made (W.alloc (.cells #[.int .i64 y1, .int .i64 z1] 40)) 40 y2 z2
    rwa [show (W.alloc (.cells #[.int .i64 y1, .int .i64 z1] 40)).heap.size = W.heap.size + 1 from by simp] at this
  exact ⟨⟨hf.kept hb hf.lt, hp.kept hb hp.lt, hr.kept hb hr.lt, q1, q2, by omega, by omega, by omega, hBW⟩, hf.kept hb hf.lt, hp.kept hb hp.lt, hr.kept hb hr.lt, q2, q1, by omega, by omega, by omega, hBW⟩
theorem two9D {w V W : World} {a d : Int} {k : Nat} {mode : Int} {n : Nat} {wd : Bool} {p : Int × Int} {y1 z1 y2 z2 : Int} {gs : List Nat} {gb : Nat} (hf : FB 30 w.heap.size a d k mode n wd V) (hp : PB 40 (w.heap.size + 1) p V) (hr : PB 40 (w.heap.size + 2) (0, 0) V) (hB : Below w.heap.size w V) (hz : V.heap.size = w.heap.size + 3) (h : InvQ 40 V W gs) (hm : gb ∈ gs) :
    Two9 w (((W.alloc (.cells #[.int .i64 y1, .int .i64 z1] 40)).setCell ⟨gb, 0, none⟩ (.int .i64 y2)).setCell ⟨gb, 1, none⟩ (.int .i64 z2)) a d k mode n wd p (y1, z1) (y2, z2) W.heap.size gb := by
  have e1 := h.1.size
  have e2 := h.ge hm
  have e3 := (h.2.1 gb hm).2.lt
  have hb := bel_step h.1 (bel_alloc W (.cells #[.int .i64 y1, .int .i64 z1] 40))
  have key : ∀ j, j ≠ gb → (((W.alloc (.cells #[.int .i64 y1, .int .i64 z1] 40)).setCell ⟨gb, 0, none⟩ (.int .i64 y2)).setCell ⟨gb, 1, none⟩ (.int .i64 z2)).heap[j]? = (W.alloc (.cells #[.int .i64 y1, .int .i64 z1] 40)).heap[j]? := fun j h1 => by
    rw [heap_setCell_other _ _ _ _ (by exact h1), heap_setCell_other _ _ _ _ (by exact h1)]
  refine ⟨(hf.kept hb hf.lt).same (key _ (by omega)), (hp.kept hb hp.lt).same (key _ (by omega)), (hr.kept hb hr.lt).same (key _ (by omega)), (PB.made W 40 y1 z1).same (key _ (by omega)), PB.store (p := (0, 0)) ((h.2.1 gb hm).2.kept (bel_alloc _ _) e3) y2 z2, by omega, by omega, by omega, ?_⟩
  have hBW := hB.trans (hb.mono (by omega))
  exact (hBW.setCell (by show w.heap.size ≤ gb; omega) _).setCell (by show w.heap.size ≤ gb; omega) _


set_option maxHeartbeats 40000000 in
theorem sdMeet_any (a d : Int) (k : Nat) (mode : Int) (n : Nat) (wd : Bool) (y z x : Int) (w : World) (h : SoOk a d k mode n) (y1 : -100000 ≤ y) (y2 : y ≤ 100000) (z1 : -100000 ≤ z) (z2 : z ≤ 100000) (x1 : -100000 ≤ x) (x2 : x ≤ 100000) :
    Calls Try.prog 14 #[.agg #[.int .i64 a, .int .i64 d, .int .i64 (k : Int), .int .i64 mode, .int .i64 (n : Int), .bool wd], .agg #[.int .i64 y, .int .i64 z], .int .i64 x] w fun e w' => e = .returned (mtV (orb2 (nxP (stepS a d k mode n wd x)) (y, z))) ∧ Below w.heap.size w w' := by
  have H := hid h
  have Hin := hid (nx_in (x := x) (wd := wd) h y1 y2 z1 z2)
  clear h
  obtain ⟨V0, hV0⟩ : ∃ V, V = ((w.alloc (.cells #[.int .i64 a, .int .i64 d, .int .i64 (k : Int), .int .i64 mode, .int .i64 (n : Int), .bool wd] 30)).alloc (.cells #[.int .i64 y, .int .i64 z] 40)).alloc (.cells #[.int .i64 0, .int .i64 0] 40) := ⟨_, rfl⟩
  have HB := hid (show Below w.heap.size w V0 by rw [hV0]; exact bel_step (bel_step (bel_alloc _ _) (bel_alloc _ _)) (bel_alloc _ _))
  have zs : V0.heap.size = w.heap.size + 3 := by rw [hV0]; simp
  have hf : FB 30 w.heap.size a d k mode n wd V0 := by
    rw [hV0]
    exact ((FB.made w 30 a d k mode n wd).kept (bel_alloc _ _) (by simp)).kept (bel_alloc _ _) (by simp; omega)
  have hp : PB 40 (w.heap.size + 1) (y, z) V0 := by
    have hq := (PB.made (w.alloc (.cells #[.int .i64 a, .int .i64 d, .int .i64 (k : Int), .int .i64 mode, .int .i64 (n : Int), .bool wd] 30)) 40 y z).kept (bel_alloc _ (.cells #[.int .i64 0, .int .i64 0] 40)) (by simp)
    rw [show (w.alloc (.cells #[.int .i64 a, .int .i64 d, .int .i64 (k : Int), .int .i64 mode, .int .i64 (n : Int), .bool wd] 30)).heap.size = w.heap.size + 1 from by simp] at hq
    rw [hV0]; exact hq
  have hr : PB 40 (w.heap.size + 2) (0, 0) V0 := by
    have hq := PB.made ((w.alloc (.cells #[.int .i64 a, .int .i64 d, .int .i64 (k : Int), .int .i64 mode, .int .i64 (n : Int), .bool wd] 30)).alloc (.cells #[.int .i64 y, .int .i64 z] 40)) 40 0 0
    rw [show ((w.alloc (.cells #[.int .i64 a, .int .i64 d, .int .i64 (k : Int), .int .i64 mode, .int .i64 (n : Int), .bool wd] 30)).alloc (.cells #[.int .i64 y, .int .i64 z] 40)).heap.size = w.heap.size + 2 from by simp] at hq
    rw [hV0]; exact hq
  have Hf := hid hf
  have Hp := hid hp
  have Hr := hid hr
  have HV := hid hV0
  have Hz := hid zs
  clear hf hp hr zs hV0
  have n1 : w.heap.size ≠ w.heap.size + 1 + 1 := by omega
  have n2 : w.heap.size + 1 ≠ w.heap.size + 1 + 1 := by omega
  have n3 : w.heap.size + 1 + 1 ≠ w.heap.size := by omega
  have n4 : w.heap.size + 1 + 1 ≠ w.heap.size + 1 := by omega
  have Ho1 := hid (show ∀ c, orb2 (nxP (stepS a d k mode n wd x)) (y, z) (c + 1) = (stepS a d k mode n wd x (orb2 (nxP (stepS a d k mode n wd x)) (y, z) c).1 (orb2 (nxP (stepS a d k mode n wd x)) (y, z) c).2, (orb2 (nxP (stepS a d k mode n wd x)) (y, z) c).1) from fun c => rfl)
  go_enter Try.func14, Try.ntmps14
  show Code.wp Try.prog (cRest 0 (bodyOf Try.f14)) (qM w (orb2 (nxP (stepS a d k mode n wd x)) (y, z))) _ w
  rw [show cRest 0 (bodyOf Try.f14) = .seq (cHead 0 (bodyOf Try.f14)) (.seq (cHead 1 (bodyOf Try.f14)) (cRest 2 (bodyOf Try.f14))) from by kernel_rfl]
  generalize hR : cRest 2 (bodyOf Try.f14) = R
  have HR := hid hR
  clear hR
  simp only [bodyOf, Try.f14, Option.getD_some, cHead]
  go_wp2_with fail
  rw [← HV.out]
  have hS : (V0.cell? ⟨w.heap.size, 0, none⟩ = some (.int .i64 a) ∧ V0.cell? ⟨w.heap.size, 1, none⟩ = some (.int .i64 d) ∧ V0.cell? ⟨w.heap.size, 2, none⟩ = some (.int .i64 (k : Int)) ∧ V0.cell? ⟨w.heap.size, 3, none⟩ = some (.int .i64 mode) ∧ V0.cell? ⟨w.heap.size, 4, none⟩ = some (.int .i64 (n : Int)) ∧ V0.cell? ⟨w.heap.size, 5, none⟩ = some (.bool wd)) ∧ V0.cell? ⟨w.heap.size + 1, 0, none⟩ = some (.int .i64 y) ∧ V0.cell? ⟨w.heap.size + 1, 1, none⟩ = some (.int .i64 z) := ⟨Hf.out.cells, Hp.out.c0, Hp.out.c1⟩
  obtain ⟨s1, hs1⟩ : ∃ s, s = stepS a d k mode n wd x y z := ⟨_, rfl⟩
  obtain ⟨t1, t2⟩ := stepS_in (x := x) (y := y) (z := z) (wd := wd) H.out
  rw [← hs1] at t1 t2
  have Hs1 := hid hs1
  clear hs1
  go_cut [9, 10] from 14 to 24 (fun v9 v10 wc => ∃ ga gb, v9 = .pointer (some ⟨ga, 0, none⟩) ∧ v10 = .pointer (some ⟨gb, 0, none⟩) ∧ Two9 w wc a d k mode n wd (y, z) (s1, y) (stepS a d k mode n wd x s1 y, s1) ga gb)
  case first =>
    have M0 : True := trivial
    have M1 : True := trivial
    have hI := InvQ.start 40 V0
    go_region_held3 (fun W => (W.cell? ⟨w.heap.size, 0, none⟩ = some (.int .i64 a) ∧ W.cell? ⟨w.heap.size, 1, none⟩ = some (.int .i64 d) ∧ W.cell? ⟨w.heap.size, 2, none⟩ = some (.int .i64 (k : Int)) ∧ W.cell? ⟨w.heap.size, 3, none⟩ = some (.int .i64 mode) ∧ W.cell? ⟨w.heap.size, 4, none⟩ = some (.int .i64 (n : Int)) ∧ W.cell? ⟨w.heap.size, 5, none⟩ = some (.bool wd)) ∧ W.cell? ⟨w.heap.size + 1, 0, none⟩ = some (.int .i64 y) ∧ W.cell? ⟨w.heap.size + 1, 1, none⟩ = some (.int .i64 z)) (first | with_reducible exact sB Hf.out Hp.out hI.bel | with_reducible exact sB Hf.out Hp.out hI.bel.drew | with_reducible exact sB Hf.out Hp.out (bel_step hI.bel (bel_alloc _ _)) | with_reducible exact sB Hf.out Hp.out (bel_step hI.bel (bel_alloc _ _)).drew | with_reducible exact sB Hf.out Hp.out (bel_step (bel_step hI.bel (bel_alloc _ _)) (bel_alloc _ _)) | with_reducible exact sB Hf.out Hp.out (bel_step (bel_step hI.bel (bel_alloc _ _)) (bel_alloc _ _)).drew | with_reducible exact sSet (sB Hf.out Hp.out hI.bel) (by assumption) | with_reducible exact sSet (sB Hf.out Hp.out hI.bel.drew) (by assumption) | with_reducible exact sSet (sB Hf.out Hp.out (bel_step hI.bel (bel_alloc _ _))) (by assumption) | with_reducible exact sSet (sB Hf.out Hp.out (bel_step hI.bel (bel_alloc _ _)).drew) (by assumption) | with_reducible exact sSet (sB Hf.out Hp.out (bel_step (bel_step hI.bel (bel_alloc _ _)) (bel_alloc _ _))) (by assumption) | with_reducible exact sSet (sB Hf.out Hp.out (bel_step (bel_step hI.bel (bel_alloc _ _)) (bel_alloc _ _)).drew) (by assumption) | with_reducible exact sSet (sSet (sB Hf.out Hp.out hI.bel) (by assumption)) (by assumption) | with_reducible exact sSet (sSet (sB Hf.out Hp.out hI.bel.drew) (by assumption)) (by assumption) | with_reducible exact sSet (sSet (sB Hf.out Hp.out (bel_step hI.bel (bel_alloc _ _))) (by assumption)) (by assumption) | with_reducible exact sSet (sSet (sB Hf.out Hp.out (bel_step hI.bel (bel_alloc _ _)).drew) (by assumption)) (by assumption) | with_reducible exact sSet (sSet (sB Hf.out Hp.out (bel_step (bel_step hI.bel (bel_alloc _ _)) (bel_alloc _ _))) (by assumption)) (by assumption) | with_reducible exact sSet (sSet (sB Hf.out Hp.out (bel_step (bel_step hI.bel (bel_alloc _ _)) (bel_alloc _ _)).drew) (by assumption)) (by assumption) | assumption | go_keep) (first | (go_at_call 24; refine (sdNext_any a d k mode n wd _ _ x _ H.out (by assumption) (by assumption) (by assumption) (by assumption) x1 x2).mono ?_; (try rw [← Hs1.out]); rintro e w1 ⟨rfl, hb⟩; (first | have hI := hI.step hb | have hI := hI.drew.step hb | have hI := hI.grow.step hb | have hI := hI.grow.drew.step hb | have hI := hI.grow2.step hb | have hI := hI.grow2.drew.step hb); have hS := sS Hf.out Hp.out hI; clear hb; (first | clear M0 | clear M1 | (first | (have ge1 := hI.g1 Hz.out; have ge2 := hI.g2 Hz.out; obtain ⟨fa0, fa1, fa2, fa3⟩ := hI.f1; obtain ⟨⟨fb0, fb1, fb2, fb3⟩, fb4, fb5⟩ := hI.f2; obtain ⟨⟨fd0, fd1, fd2, fd3⟩, fe0, fe1, fe2, fe3⟩ := hI.f3 (.int .i64 s1) (.int .i64 y)) | (have ge1 := hI.g1 Hz.out; have ge2 := hI.grow.g1 Hz.out; obtain ⟨fa0, fa1, fa2, fa3⟩ := hI.f1; obtain ⟨fc0, fc1, fc2, fc3⟩ := hI.grow.f1; obtain ⟨⟨fb0, fb1, fb2, fb3⟩, fb4, fb5⟩ := hI.grow.f2; obtain ⟨⟨fd0, fd1, fd2, fd3⟩, fe0, fe1, fe2, fe3⟩ := hI.grow.f3 (.int .i64 s1) (.int .i64 y); obtain ⟨fg0, fg1, fg2, fg3⟩ := hI.f4 (.cells #[.int .i64 s1, .int .i64 y] 40)) | (have ge1 := hI.grow2.g1 Hz.out; have ge2 := hI.grow2.g2 Hz.out; obtain ⟨fc0, fc1, fc2, fc3⟩ := hI.grow2.f1; obtain ⟨⟨fb0, fb1, fb2, fb3⟩, fb4, fb5⟩ := hI.grow2.f2; obtain ⟨⟨fd0, fd1, fd2, fd3⟩, fe0, fe1, fe2, fe3⟩ := hI.grow2.f3 (.int .i64 s1) (.int .i64 y); obtain ⟨fg0, fg1, fg2, fg3⟩ := hI.grow.f4 (.cells #[.int .i64 s1, .int .i64 y] 40))))))
    all_goals go_wp2_with fail
    all_goals go_meet
    all_goals refine ⟨_, _, rfl, rfl, ?_⟩
    all_goals first
      | with_reducible exact two9 Hf.out Hp.out Hr.out HB.out Hz.out hI (by simp) (by simp) hI.f2.2.1
      | with_reducible exact two9 Hf.out Hp.out Hr.out HB.out Hz.out hI (by simp) (by simp) hI.f2.2.2
      | with_reducible exact two9 Hf.out Hp.out Hr.out HB.out Hz.out hI.grow (by simp) (by simp) hI.grow.f2.2.2
      | with_reducible exact (two9A Hf.out Hp.out Hr.out HB.out Hz.out hI).1
      | with_reducible exact (two9A Hf.out Hp.out Hr.out HB.out Hz.out hI).2
      | with_reducible exact two9D Hf.out Hp.out Hr.out HB.out Hz.out hI (by simp)
      | (trace "LEFT"; trace_state; sorry)
  case rest =>
    obtain ⟨ga, gb, rfl, rfl, h9⟩ := hcut
    have e1 : orb2 (nxP (stepS a d k mode n wd x)) (y, z) 1 = (s1, y) := by rw [Hs1.out]; rfl
    have e2 : orb2 (nxP (stepS a d k mode n wd x)) (y, z) 2 = (stepS a d k mode n wd x s1 y, s1) := by rw [Hs1.out]; rfl
    have H9 := hid (show Two9 w wc a d k mode n wd (y, z) (orb2 (nxP (stepS a d k mode n wd x)) (y, z) 1) (orb2 (nxP (stepS a d k mode n wd x)) (y, z) 2) ga gb from by rw [e1, e2]; exact h9)
    clear e1 e2 h9 n1 n2 n3 n4
    go_wp2_with fail
    rw [← HR.out]
    exact meet2 a d k mode n wd y z x w wc ga gb H x1 x2 _ (hid rfl) Hin H9 _ _ _ _ _ _ _ _ _ _ _ _ _ _ _ _ _ _ _ _ _ _ _ _ _ _ _ _ _ _ _ _ _ _ _ _ _ _ _ _ _ _ _ _ _ _ _ _ _ _ _ _ _ _ _ _ _ _ _ _ _ _ _ _ _ _ _ _ _ _ _ _ _ _

end Go.Proofs.Ytbbfigbfkhlddaa
