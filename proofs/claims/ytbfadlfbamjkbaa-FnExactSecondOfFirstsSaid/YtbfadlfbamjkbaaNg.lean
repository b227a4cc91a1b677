
import Derived.Test.YtbfadlfbamjkbaaNf
import Derived.Deep.Cut
namespace Go.Proofs.Ytbfadlfbamjkbaa
open Go.RowKit BitX Go.MemX Go.ShX
set_option linter.unusedVariables false

theorem belAl {V w w2 : World} {o : Obj} (h : Below V.heap.size V w) (k : Below (w.alloc o).heap.size (w.alloc o) w2) : Below V.heap.size V w2 :=
  (h.alloc h.size o).trans (k.mono (Nat.le_trans h.size (by simp)))
theorem size_lt_alloc (w : World) (o : Obj) : w.heap.size < (w.alloc o).heap.size := by simp

set_option maxHeartbeats 1000000 in
theorem eqWord_same (b : Int) (wr : Bool) (w : World) :
    Calls Try.prog 13 #[.agg #[.int .i64 b, .bool wr], .agg #[.int .i64 b, .bool wr]] w fun e w' => e = .returned (.bool true) ∧ Below w.heap.size w w' := by
  cases wr
  all_goals go_enter Try.func13, Try.ntmps13
  all_goals go_wp2
  all_goals go_ret
  all_goals exact ⟨rfl, bel_step (bel_alloc _ _) (bel_alloc _ _)⟩

set_option maxHeartbeats 1000000 in
theorem eqSecond_same (A D K M N : Int) (W : Bool) (w : World) :
    Calls Try.prog 7 #[.agg #[.int .i64 A, .int .i64 D, .int .i64 K, .int .i64 M, .int .i64 N, .bool W], .agg #[.int .i64 A, .int .i64 D, .int .i64 K, .int .i64 M, .int .i64 N, .bool W]] w fun e w' => e = .returned (.bool true) ∧ Below w.heap.size w w' := by
  go_enter Try.func7, Try.ntmps7
  go_wp2_with fail
  refine (eqWord_same _ _ _).mono ?_
  rintro e w1 ⟨rfl, hb⟩
  go_wp2_with fail
  go_ret
  exact ⟨rfl, bel_step (bel_alloc _ _) (bel_step (bel_alloc _ _) hb)⟩
theorem _root_.Go.RowKit.Below.cells10 {w W : World} {g h : Nat} {a0 a1 a2 a3 a4 e0 e1 e2 e3 e4 : Value} (hb : Below w.heap.size w W) (hh : (w.cell? ⟨g, 0, none⟩ = some a0 ∧ w.cell? ⟨g, 1, none⟩ = some a1 ∧ w.cell? ⟨g, 2, none⟩ = some a2 ∧ w.cell? ⟨g, 3, none⟩ = some a3 ∧ w.cell? ⟨g, 4, none⟩ = some a4) ∧ w.cell? ⟨h, 0, none⟩ = some e0 ∧ w.cell? ⟨h, 1, none⟩ = some e1 ∧ w.cell? ⟨h, 2, none⟩ = some e2 ∧ w.cell? ⟨h, 3, none⟩ = some e3 ∧ w.cell? ⟨h, 4, none⟩ = some e4) :
    (W.cell? ⟨g, 0, none⟩ = some a0 ∧ W.cell? ⟨g, 1, none⟩ = some a1 ∧ W.cell? ⟨g, 2, none⟩ = some a2 ∧ W.cell? ⟨g, 3, none⟩ = some a3 ∧ W.cell? ⟨g, 4, none⟩ = some a4) ∧ W.cell? ⟨h, 0, none⟩ = some e0 ∧ W.cell? ⟨h, 1, none⟩ = some e1 ∧ W.cell? ⟨h, 2, none⟩ = some e2 ∧ W.cell? ⟨h, 3, none⟩ = some e3 ∧ W.cell? ⟨h, 4, none⟩ = some e4 := by
  obtain ⟨⟨h0, h1, h2, h3, h4⟩, h5, h6, h7, h8, h9⟩ := hh
  exact ⟨⟨kc hb h0, kc hb h1, kc hb h2, kc hb h3, kc hb h4⟩, kc hb h5, kc hb h6, kc hb h7, kc hb h8, kc hb h9⟩


def Own6 (w : World) (g : Nat) (u0 u1 u2 u3 u4 u5 : Value) : Prop := (w.cell? ⟨g, 0, none⟩ = some (u0) ∧ w.cell? ⟨g, 1, none⟩ = some (u1) ∧ w.cell? ⟨g, 2, none⟩ = some (u2) ∧ w.cell? ⟨g, 3, none⟩ = some (u3) ∧ w.cell? ⟨g, 4, none⟩ = some (u4) ∧ w.cell? ⟨g, 5, none⟩ = some (u5)) ∧ w.frozen? ⟨g, 0, none⟩ = false ∧ w.frozen? ⟨g, 1, none⟩ = false ∧ w.frozen? ⟨g, 2, none⟩ = false ∧ w.frozen? ⟨g, 3, none⟩ = false ∧ w.frozen? ⟨g, 4, none⟩ = false ∧ w.frozen? ⟨g, 5, none⟩ = false
theorem own6_new {w w' : World} {u0 u1 u2 u3 u4 u5 : Value} {t : TypeId} (hb : Below (w.alloc (.cells #[u0, u1, u2, u3, u4, u5] t)).heap.size (w.alloc (.cells #[u0, u1, u2, u3, u4, u5] t)) w') : Own6 w' w.heap.size u0 u1 u2 u3 u4 u5 := box6_own hb
theorem own6_step {w w' : World} {g : Nat} {u0 u1 u2 u3 u4 u5 : Value} (hb : Below w.heap.size w w') (h : Own6 w g u0 u1 u2 u3 u4 u5) : Own6 w' g u0 u1 u2 u3 u4 u5 := by
  obtain ⟨⟨h0, h1, h2, h3, h4, h5⟩, f0, f1, f2, f3, f4, f5⟩ := h
  have hg := block_lt_of_cell h0
  exact ⟨⟨kc hb h0, kc hb h1, kc hb h2, kc hb h3, kc hb h4, kc hb h5⟩, kfr hb hg f0, kfr hb hg f1, kfr hb hg f2, kfr hb hg f3, kfr hb hg f4, kfr hb hg f5⟩
theorem own6_set {w : World} {g : Nat} {u0 u1 u2 u3 u4 u5 v0 v1 v2 v3 v4 v5 : Value} (h : Own6 w g u0 u1 u2 u3 u4 u5) : ((((((w.setCell ⟨g, 0, none⟩ (v0)).setCell ⟨g, 1, none⟩ (v1)).setCell ⟨g, 2, none⟩ (v2)).setCell ⟨g, 3, none⟩ (v3)).setCell ⟨g, 4, none⟩ (v4)).setCell ⟨g, 5, none⟩ (v5)).cell? ⟨g, 0, none⟩ = some (v0) ∧ ((((((w.setCell ⟨g, 0, none⟩ (v0)).setCell ⟨g, 1, none⟩ (v1)).setCell ⟨g, 2, none⟩ (v2)).setCell ⟨g, 3, none⟩ (v3)).setCell ⟨g, 4, none⟩ (v4)).setCell ⟨g, 5, none⟩ (v5)).cell? ⟨g, 1, none⟩ = some (v1) ∧ ((((((w.setCell ⟨g, 0, none⟩ (v0)).setCell ⟨g, 1, none⟩ (v1)).setCell ⟨g, 2, none⟩ (v2)).setCell ⟨g, 3, none⟩ (v3)).setCell ⟨g, 4, none⟩ (v4)).setCell ⟨g, 5, none⟩ (v5)).cell? ⟨g, 2, none⟩ = some (v2) ∧ ((((((w.setCell ⟨g, 0, none⟩ (v0)).setCell ⟨g, 1, none⟩ (v1)).setCell ⟨g, 2, none⟩ (v2)).setCell ⟨g, 3, none⟩ (v3)).setCell ⟨g, 4, none⟩ (v4)).setCell ⟨g, 5, none⟩ (v5)).cell? ⟨g, 3, none⟩ = some (v3) ∧ ((((((w.setCell ⟨g, 0, none⟩ (v0)).setCell ⟨g, 1, none⟩ (v1)).setCell ⟨g, 2, none⟩ (v2)).setCell ⟨g, 3, none⟩ (v3)).setCell ⟨g, 4, none⟩ (v4)).setCell ⟨g, 5, none⟩ (v5)).cell? ⟨g, 4, none⟩ = some (v4) ∧ ((((((w.setCell ⟨g, 0, none⟩ (v0)).setCell ⟨g, 1, none⟩ (v1)).setCell ⟨g, 2, none⟩ (v2)).setCell ⟨g, 3, none⟩ (v3)).setCell ⟨g, 4, none⟩ (v4)).setCell ⟨g, 5, none⟩ (v5)).cell? ⟨g, 5, none⟩ = some (v5) := by
  obtain ⟨⟨h0, h1, h2, h3, h4, h5⟩, _⟩ := h
  refine ⟨?_, ?_, ?_, ?_, ?_, ?_⟩
  all_goals simp [go_sem, h0, h1, h2, h3, h4, h5]
theorem bel_set6 {V w : World} {g : Nat} {v0 v1 v2 v3 v4 v5 : Value} (h : Below V.heap.size V w) (hg : V.heap.size ≤ g) : Below V.heap.size V ((((((w.setCell ⟨g, 0, none⟩ (v0)).setCell ⟨g, 1, none⟩ (v1)).setCell ⟨g, 2, none⟩ (v2)).setCell ⟨g, 3, none⟩ (v3)).setCell ⟨g, 4, none⟩ (v4)).setCell ⟨g, 5, none⟩ (v5)) :=
  (((((h.setCell (by exact hg) _).setCell (by exact hg) _).setCell (by exact hg) _).setCell (by exact hg) _).setCell (by exact hg) _).setCell (by exact hg) _


theorem newNe {V w1 : World} {n : Nat} (h : V.heap.size ≤ w1.heap.size) (hz : n + 1 + 1 ≤ V.heap.size) : w1.heap.size ≠ n ∧ w1.heap.size ≠ n + 1 := ⟨by omega, by omega⟩


theorem own6_fresh {w : World} {u0 u1 u2 u3 u4 u5 : Value} {t : TypeId} : (w.alloc (.cells #[u0, u1, u2, u3, u4, u5] t)).cell? ⟨w.heap.size, 0, none⟩ = some u0 ∧ (w.alloc (.cells #[u0, u1, u2, u3, u4, u5] t)).cell? ⟨w.heap.size, 1, none⟩ = some u1 ∧ (w.alloc (.cells #[u0, u1, u2, u3, u4, u5] t)).cell? ⟨w.heap.size, 2, none⟩ = some u2 ∧ (w.alloc (.cells #[u0, u1, u2, u3, u4, u5] t)).cell? ⟨w.heap.size, 3, none⟩ = some u3 ∧ (w.alloc (.cells #[u0, u1, u2, u3, u4, u5] t)).cell? ⟨w.heap.size, 4, none⟩ = some u4 ∧ (w.alloc (.cells #[u0, u1, u2, u3, u4, u5] t)).cell? ⟨w.heap.size, 5, none⟩ = some u5 := (own6_new (Below.refl _ _)).1
/-- behind the boxes nothing has changed, and the result's block, if it is there, is the call's own -/
def InvR (V W : World) (o : Option Nat) : Prop := Below V.heap.size V W ∧ match o with
  | none => True
  | some g => V.heap.size ≤ g ∧ Own6 W g (.int .i64 0) (.int .i64 0) (.int .i64 0) (.int .i64 0) (.int .i64 0) (.bool false)
theorem InvR.step {V W W' : World} {o : Option Nat} (h : InvR V W o) (hb : Below W.heap.size W W') : InvR V W' o := by
  refine ⟨h.1.trans (hb.mono h.1.size), ?_⟩
  cases o with
  | none => trivial
  | some g => 
    exact ⟨h.2.1, own6_step hb h.2.2⟩
theorem InvR.stepA {V W W' : World} {t : TypeId} (h : InvR V W none) (hb : Below (W.alloc (.cells #[.int .i64 0, .int .i64 0, .int .i64 0, .int .i64 0, .int .i64 0, .bool false] t)).heap.size (W.alloc (.cells #[.int .i64 0, .int .i64 0, .int .i64 0, .int .i64 0, .int .i64 0, .bool false] t)) W') : InvR V W' (some W.heap.size) :=
  ⟨belAl h.1 hb, h.1.size, own6_new hb⟩
theorem InvR.stepD {V W' : World} {t : TypeId} (hb : Below ((V.alloc (.cells #[.int .i64 0, .int .i64 0, .int .i64 0, .int .i64 0, .int .i64 0, .bool false] t)).drew).heap.size ((V.alloc (.cells #[.int .i64 0, .int .i64 0, .int .i64 0, .int .i64 0, .int .i64 0, .bool false] t)).drew) W') : InvR V W' (some V.heap.size) :=
  InvR.stepA (W := V) ⟨Below.refl _ _, trivial⟩ (bel_undrew hb)
theorem InvR.bel {V W : World} {o : Option Nat} (h : InvR V W o) : Below V.heap.size V W := h.1
theorem InvR.ge {V W : World} {g : Nat} (h : InvR V W (some g)) : V.heap.size ≤ g := h.2.1
theorem InvR.own {V W : World} {g : Nat} (h : InvR V W (some g)) : Own6 W g (.int .i64 0) (.int .i64 0) (.int .i64 0) (.int .i64 0) (.int .i64 0) (.bool false) := h.2.2

set_option maxHeartbeats 4000000 in
theorem gen_FnExactSecondOfFirsts (a k mode b : Int) (wr : Bool) (a2 k2 mode2 b2 : Int) (wr2 : Bool) (A D K M N : Int) (W ok : Bool) (w : World)
    (hspec : ∀ (w : World), Calls Try.prog 4 #[.agg #[.int .i64 a, .int .i64 k, .int .i64 mode, .int .i64 b, .bool wr], .agg #[.int .i64 a2, .int .i64 k2, .int .i64 mode2, .int .i64 b2, .bool wr2]] w fun e w' => e = .returned (.tuple #[.agg #[.int .i64 A, .int .i64 D, .int .i64 K, .int .i64 M, .int .i64 N, .bool W], .bool ok]) ∧ Below w.heap.size w w')
    (himpl : ∀ (w : World), Calls Try.prog 6 #[.agg #[.int .i64 a, .int .i64 k, .int .i64 mode, .int .i64 b, .bool wr], .agg #[.int .i64 a2, .int .i64 k2, .int .i64 mode2, .int .i64 b2, .bool wr2]] w fun e w' => e = .returned (.tuple #[.agg #[.int .i64 A, .int .i64 D, .int .i64 K, .int .i64 M, .int .i64 N, .bool W], .bool ok]) ∧ Below w.heap.size w w') :
    Calls Try.prog 3 #[.agg #[.int .i64 a, .int .i64 k, .int .i64 mode, .int .i64 b, .bool wr], .agg #[.int .i64 a2, .int .i64 k2, .int .i64 mode2, .int .i64 b2, .bool wr2]] w fun e w' => e = .returned (.bool true) ∧ Below w.heap.size w w' := by
  have HSP := hid hspec
  have HIM := hid himpl
  clear hspec himpl
  go_enter Try.func3, Try.ntmps3
  go_upto_region 1 with fail
  have HB0 := hid (bel_step (bel_alloc w (.cells #[.int .i64 a, .int .i64 k, .int .i64 mode, .int .i64 b, .bool wr] 25)) (bel_alloc _ (.cells #[.int .i64 a2, .int .i64 k2, .int .i64 mode2, .int .i64 b2, .bool wr2] 25)))
  have z0 : ((w.alloc (.cells #[.int .i64 a, .int .i64 k, .int .i64 mode, .int .i64 b, .bool wr] 25)).alloc (.cells #[.int .i64 a2, .int .i64 k2, .int .i64 mode2, .int .i64 b2, .bool wr2] 25)).heap.size = w.heap.size + 1 + 1 := by simp
  have hS : (((w.alloc (.cells #[.int .i64 a, .int .i64 k, .int .i64 mode, .int .i64 b, .bool wr] 25)).alloc (.cells #[.int .i64 a2, .int .i64 k2, .int .i64 mode2, .int .i64 b2, .bool wr2] 25)).cell? ⟨w.heap.size, 0, none⟩ = some (.int .i64 a) ∧ ((w.alloc (.cells #[.int .i64 a, .int .i64 k, .int .i64 mode, .int .i64 b, .bool wr] 25)).alloc (.cells #[.int .i64 a2, .int .i64 k2, .int .i64 mode2, .int .i64 b2, .bool wr2] 25)).cell? ⟨w.heap.size, 1, none⟩ = some (.int .i64 k) ∧ ((w.alloc (.cells #[.int .i64 a, .int .i64 k, .int .i64 mode, .int .i64 b, .bool wr] 25)).alloc (.cells #[.int .i64 a2, .int .i64 k2, .int .i64 mode2, .int .i64 b2, .bool wr2] 25)).cell? ⟨w.heap.size, 2, none⟩ = some (.int .i64 mode) ∧ ((w.alloc (.cells #[.int .i64 a, .int .i64 k, .int .i64 mode, .int .i64 b, .bool wr] 25)).alloc (.cells #[.int .i64 a2, .int .i64 k2, .int .i64 mode2, .int .i64 b2, .bool wr2] 25)).cell? ⟨w.heap.size, 3, none⟩ = some (.int .i64 b) ∧ ((w.alloc (.cells #[.int .i64 a, .int .i64 k, .int .i64 mode, .int .i64 b, .bool wr] 25)).alloc (.cells #[.int .i64 a2, .int .i64 k2, .int .i64 mode2, .int .i64 b2, .bool wr2] 25)).cell? ⟨w.heap.size, 4, none⟩ = some (.bool wr)) ∧ ((w.alloc (.cells #[.int .i64 a, .int .i64 k, .int .i64 mode, .int .i64 b, .bool wr] 25)).alloc (.cells #[.int .i64 a2, .int .i64 k2, .int .i64 mode2, .int .i64 b2, .bool wr2] 25)).cell? ⟨w.heap.size + 1, 0, none⟩ = some (.int .i64 a2) ∧ ((w.alloc (.cells #[.int .i64 a, .int .i64 k, .int .i64 mode, .int .i64 b, .bool wr] 25)).alloc (.cells #[.int .i64 a2, .int .i64 k2, .int .i64 mode2, .int .i64 b2, .bool wr2] 25)).cell? ⟨w.heap.size + 1, 1, none⟩ = some (.int .i64 k2) ∧ ((w.alloc (.cells #[.int .i64 a, .int .i64 k, .int .i64 mode, .int .i64 b, .bool wr] 25)).alloc (.cells #[.int .i64 a2, .int .i64 k2, .int .i64 mode2, .int .i64 b2, .bool wr2] 25)).cell? ⟨w.heap.size + 1, 2, none⟩ = some (.int .i64 mode2) ∧ ((w.alloc (.cells #[.int .i64 a, .int .i64 k, .int .i64 mode, .int .i64 b, .bool wr] 25)).alloc (.cells #[.int .i64 a2, .int .i64 k2, .int .i64 mode2, .int .i64 b2, .bool wr2] 25)).cell? ⟨w.heap.size + 1, 3, none⟩ = some (.int .i64 b2) ∧ ((w.alloc (.cells #[.int .i64 a, .int .i64 k, .int .i64 mode, .int .i64 b, .bool wr] 25)).alloc (.cells #[.int .i64 a2, .int .i64 k2, .int .i64 mode2, .int .i64 b2, .bool wr2] 25)).cell? ⟨w.heap.size + 1, 4, none⟩ = some (.bool wr2) := by
    obtain ⟨d0, d1, d2, d3, d4⟩ := box5_cells (Below.refl ((w.alloc (.cells #[.int .i64 a, .int .i64 k, .int .i64 mode, .int .i64 b, .bool wr] 25)).alloc (.cells #[.int .i64 a2, .int .i64 k2, .int .i64 mode2, .int .i64 b2, .bool wr2] 25)).heap.size ((w.alloc (.cells #[.int .i64 a, .int .i64 k, .int .i64 mode, .int .i64 b, .bool wr] 25)).alloc (.cells #[.int .i64 a2, .int .i64 k2, .int .i64 mode2, .int .i64 b2, .bool wr2] 25)))
    obtain ⟨c0, c1, c2, c3, c4⟩ := box5_cells (bel_step (bel_alloc (w.alloc (.cells #[.int .i64 a, .int .i64 k, .int .i64 mode, .int .i64 b, .bool wr] 25)) (.cells #[.int .i64 a2, .int .i64 k2, .int .i64 mode2, .int .i64 b2, .bool wr2] 25)) (Below.refl ((w.alloc (.cells #[.int .i64 a, .int .i64 k, .int .i64 mode, .int .i64 b, .bool wr] 25)).alloc (.cells #[.int .i64 a2, .int .i64 k2, .int .i64 mode2, .int .i64 b2, .bool wr2] 25)).heap.size ((w.alloc (.cells #[.int .i64 a, .int .i64 k, .int .i64 mode, .int .i64 b, .bool wr] 25)).alloc (.cells #[.int .i64 a2, .int .i64 k2, .int .i64 mode2, .int .i64 b2, .bool wr2] 25))))
    simp only [World.size_alloc] at c0 c1 c2 c3 c4 d0 d1 d2 d3 d4
    exact ⟨⟨c0, c1, c2, c3, c4⟩, d0, d1, d2, d3, d4⟩
  generalize (w.alloc (.cells #[.int .i64 a, .int .i64 k, .int .i64 mode, .int .i64 b, .bool wr] 25)).alloc (.cells #[.int .i64 a2, .int .i64 k2, .int .i64 mode2, .int .i64 b2, .bool wr2] 25) = V0 at *
  have HC := hid hS
  have HZ := hid (Nat.le_of_eq z0.symm)
  clear z0
  obtain ⟨nn1, nn2⟩ := newNe (Nat.le_refl V0.heap.size) HZ.out
  go_cut [5, 6] from 9 (fun s q wc => ∃ g, s = .pointer (some ⟨g, 0, none⟩) ∧ q = .bool ok ∧ (wc.cell? ⟨g, 0, none⟩ = some (.int .i64 A) ∧ wc.cell? ⟨g, 1, none⟩ = some (.int .i64 D) ∧ wc.cell? ⟨g, 2, none⟩ = some (.int .i64 K) ∧ wc.cell? ⟨g, 3, none⟩ = some (.int .i64 M) ∧ wc.cell? ⟨g, 4, none⟩ = some (.int .i64 N) ∧ wc.cell? ⟨g, 5, none⟩ = some (.bool W)) ∧ ((wc.cell? ⟨w.heap.size, 0, none⟩ = some (.int .i64 a) ∧ wc.cell? ⟨w.heap.size, 1, none⟩ = some (.int .i64 k) ∧ wc.cell? ⟨w.heap.size, 2, none⟩ = some (.int .i64 mode) ∧ wc.cell? ⟨w.heap.size, 3, none⟩ = some (.int .i64 b) ∧ wc.cell? ⟨w.heap.size, 4, none⟩ = some (.bool wr)) ∧ wc.cell? ⟨w.heap.size + 1, 0, none⟩ = some (.int .i64 a2) ∧ wc.cell? ⟨w.heap.size + 1, 1, none⟩ = some (.int .i64 k2) ∧ wc.cell? ⟨w.heap.size + 1, 2, none⟩ = some (.int .i64 mode2) ∧ wc.cell? ⟨w.heap.size + 1, 3, none⟩ = some (.int .i64 b2) ∧ wc.cell? ⟨w.heap.size + 1, 4, none⟩ = some (.bool wr2)) ∧ Below V0.heap.size V0 wc)
  case first =>
    have hI : InvR V0 V0.drew none := ⟨(Below.refl V0.heap.size V0).drew, trivial⟩
    clear nn1 nn2
    go_region_held3 (fun X => (X.cell? ⟨w.heap.size, 0, none⟩ = some (.int .i64 a) ∧ X.cell? ⟨w.heap.size, 1, none⟩ = some (.int .i64 k) ∧ X.cell? ⟨w.heap.size, 2, none⟩ = some (.int .i64 mode) ∧ X.cell? ⟨w.heap.size, 3, none⟩ = some (.int .i64 b) ∧ X.cell? ⟨w.heap.size, 4, none⟩ = some (.bool wr)) ∧ X.cell? ⟨w.heap.size + 1, 0, none⟩ = some (.int .i64 a2) ∧ X.cell? ⟨w.heap.size + 1, 1, none⟩ = some (.int .i64 k2) ∧ X.cell? ⟨w.heap.size + 1, 2, none⟩ = some (.int .i64 mode2) ∧ X.cell? ⟨w.heap.size + 1, 3, none⟩ = some (.int .i64 b2) ∧ X.cell? ⟨w.heap.size + 1, 4, none⟩ = some (.bool wr2)) (first | (with_reducible exact hI.bel.cells10 HC.out) | (with_reducible exact (hI.bel.alloc hI.bel.size _).cells10 HC.out) | (with_reducible exact (((Below.refl V0.heap.size V0).alloc (Nat.le_refl _) _).drew).cells10 HC.out) | (with_reducible exact (bel_set6 hI.bel hI.ge).cells10 HC.out) | (with_reducible exact (bel_set6 (hI.bel.alloc hI.bel.size _) hI.bel.size).cells10 HC.out) | exact hS) (first | (go_at_call 5; refine (toFirst_any _ _ _ _ _ _).mono ?_; rintro e w1 ⟨rfl, hb⟩; have hI := InvR.stepD hb; have hS := hI.1.cells10 HC.out; clear hb) | (go_at_call 5; refine (toFirst_any _ _ _ _ _ _).mono ?_; rintro e w1 ⟨rfl, hb⟩; have hI := hI.step hb; have hS := hI.1.cells10 HC.out; clear hb) | (go_at_call 5; refine (toFirst_any _ _ _ _ _ _).mono ?_; rintro e w1 ⟨rfl, hb⟩; have hI := hI.stepA hb; have hS := hI.1.cells10 HC.out; clear hb) | (go_at_call 4; refine (HSP.out _).mono ?_; rintro e w1 ⟨rfl, hb⟩; have hI := hI.step hb; have hS := hI.1.cells10 HC.out; clear hb; obtain ⟨⟨p0, p1, p2, p3, p4, p5⟩, q0, q1, q2, q3, q4, q5⟩ := hI.own) | (go_at_call 4; refine (HSP.out _).mono ?_; rintro e w1 ⟨rfl, hb⟩; have hI := hI.stepA hb; have hS := hI.1.cells10 HC.out; clear hb; obtain ⟨⟨p0, p1, p2, p3, p4, p5⟩, q0, q1, q2, q3, q4, q5⟩ := hI.own) | (go_at_call 4; refine (HSP.out _).mono ?_; rintro e w1 ⟨rfl, hb⟩; have hI := hI.step hb; have hS := hI.1.cells10 HC.out; clear hb; obtain ⟨⟨p0, p1, p2, p3, p4, p5⟩, q0, q1, q2, q3, q4, q5⟩ := own6_new (Below.refl (w1.alloc (.cells #[.int .i64 0, .int .i64 0, .int .i64 0, .int .i64 0, .int .i64 0, .bool false] 28)).heap.size (w1.alloc (.cells #[.int .i64 0, .int .i64 0, .int .i64 0, .int .i64 0, .int .i64 0, .bool false] 28)))))
    all_goals go_wp2_with fail
    all_goals go_meet
    all_goals (refine ⟨_, rfl, rfl, ?_, ?_, ?_⟩)
    all_goals first
      | with_reducible exact own6_set hI.own
      | with_reducible exact own6_fresh
      | with_reducible exact (bel_set6 hI.bel hI.ge).cells10 HC.out
      | with_reducible exact bel_set6 hI.bel hI.ge
      | with_reducible exact (hI.bel.alloc hI.bel.size _).cells10 HC.out
      | with_reducible exact hI.bel.alloc hI.bel.size _
  case rest =>
    obtain ⟨g, rfl, rfl, hE, hS2, hB1⟩ := hcut
    obtain ⟨wv, hwv⟩ : ∃ wv : World, wv = wc := ⟨_, rfl⟩
    subst hwv
    have HC2 := hid hS2
    have HE := hid hE
    have HB1 := hid hB1
    have hlt := block_lt_of_cell hE.1
    have Hlt := hid hlt
    clear hS hE hB1 hlt nn1 nn2
    have hS := HC2.out
    clear hS2
    go_upto_region 2 with fail
    go_cut [7, 8] from 17 (fun s q wc => ∃ g, s = .pointer (some ⟨g, 0, none⟩) ∧ q = .bool ok ∧ (wc.cell? ⟨g, 0, none⟩ = some (.int .i64 A) ∧ wc.cell? ⟨g, 1, none⟩ = some (.int .i64 D) ∧ wc.cell? ⟨g, 2, none⟩ = some (.int .i64 K) ∧ wc.cell? ⟨g, 3, none⟩ = some (.int .i64 M) ∧ wc.cell? ⟨g, 4, none⟩ = some (.int .i64 N) ∧ wc.cell? ⟨g, 5, none⟩ = some (.bool W)) ∧ ((wc.cell? ⟨w.heap.size, 0, none⟩ = some (.int .i64 a) ∧ wc.cell? ⟨w.heap.size, 1, none⟩ = some (.int .i64 k) ∧ wc.cell? ⟨w.heap.size, 2, none⟩ = some (.int .i64 mode) ∧ wc.cell? ⟨w.heap.size, 3, none⟩ = some (.int .i64 b) ∧ wc.cell? ⟨w.heap.size, 4, none⟩ = some (.bool wr)) ∧ wc.cell? ⟨w.heap.size + 1, 0, none⟩ = some (.int .i64 a2) ∧ wc.cell? ⟨w.heap.size + 1, 1, none⟩ = some (.int .i64 k2) ∧ wc.cell? ⟨w.heap.size + 1, 2, none⟩ = some (.int .i64 mode2) ∧ wc.cell? ⟨w.heap.size + 1, 3, none⟩ = some (.int .i64 b2) ∧ wc.cell? ⟨w.heap.size + 1, 4, none⟩ = some (.bool wr2)) ∧ Below wv.heap.size wv wc)
    case first =>
      have hI : InvR wv wv.drew none := ⟨(Below.refl wv.heap.size wv).drew, trivial⟩
      go_region_held3 (fun X => (X.cell? ⟨w.heap.size, 0, none⟩ = some (.int .i64 a) ∧ X.cell? ⟨w.heap.size, 1, none⟩ = some (.int .i64 k) ∧ X.cell? ⟨w.heap.size, 2, none⟩ = some (.int .i64 mode) ∧ X.cell? ⟨w.heap.size, 3, none⟩ = some (.int .i64 b) ∧ X.cell? ⟨w.heap.size, 4, none⟩ = some (.bool wr)) ∧ X.cell? ⟨w.heap.size + 1, 0, none⟩ = some (.int .i64 a2) ∧ X.cell? ⟨w.heap.size + 1, 1, none⟩ = some (.int .i64 k2) ∧ X.cell? ⟨w.heap.size + 1, 2, none⟩ = some (.int .i64 mode2) ∧ X.cell? ⟨w.heap.size + 1, 3, none⟩ = some (.int .i64 b2) ∧ X.cell? ⟨w.heap.size + 1, 4, none⟩ = some (.bool wr2)) (first | (with_reducible exact hI.bel.cells10 HC2.out) | (with_reducible exact (hI.bel.alloc hI.bel.size _).cells10 HC2.out) | (with_reducible exact (((Below.refl wv.heap.size wv).alloc (Nat.le_refl _) _).drew).cells10 HC2.out) | (with_reducible exact (bel_set6 hI.bel hI.ge).cells10 HC2.out) | (with_reducible exact (bel_set6 (hI.bel.alloc hI.bel.size _) hI.bel.size).cells10 HC2.out) | exact hS) (first | (go_at_call 5; refine (toFirst_any _ _ _ _ _ _).mono ?_; rintro e w1 ⟨rfl, hb⟩; have hI := InvR.stepD hb; have hS := hI.1.cells10 HC2.out; clear hb) | (go_at_call 5; refine (toFirst_any _ _ _ _ _ _).mono ?_; rintro e w1 ⟨rfl, hb⟩; have hI := hI.step hb; have hS := hI.1.cells10 HC2.out; clear hb) | (go_at_call 5; refine (toFirst_any _ _ _ _ _ _).mono ?_; rintro e w1 ⟨rfl, hb⟩; have hI := hI.stepA hb; have hS := hI.1.cells10 HC2.out; clear hb) | (go_at_call 6; refine (HIM.out _).mono ?_; rintro e w1 ⟨rfl, hb⟩; have hI := hI.step hb; have hS := hI.1.cells10 HC2.out; clear hb; obtain ⟨⟨p0, p1, p2, p3, p4, p5⟩, q0, q1, q2, q3, q4, q5⟩ := hI.own) | (go_at_call 6; refine (HIM.out _).mono ?_; rintro e w1 ⟨rfl, hb⟩; have hI := hI.stepA hb; have hS := hI.1.cells10 HC2.out; clear hb; obtain ⟨⟨p0, p1, p2, p3, p4, p5⟩, q0, q1, q2, q3, q4, q5⟩ := hI.own) | (go_at_call 6; refine (HIM.out _).mono ?_; rintro e w1 ⟨rfl, hb⟩; have hI := hI.step hb; have hS := hI.1.cells10 HC2.out; clear hb; obtain ⟨⟨p0, p1, p2, p3, p4, p5⟩, q0, q1, q2, q3, q4, q5⟩ := own6_new (Below.refl (w1.alloc (.cells #[.int .i64 0, .int .i64 0, .int .i64 0, .int .i64 0, .int .i64 0, .bool false] 28)).heap.size (w1.alloc (.cells #[.int .i64 0, .int .i64 0, .int .i64 0, .int .i64 0, .int .i64 0, .bool false] 28)))))
      all_goals go_wp2_with fail
      all_goals go_meet
      all_goals (refine ⟨_, rfl, rfl, ?_, ?_, ?_⟩)
      all_goals first
        | with_reducible exact own6_set hI.own
        | with_reducible exact own6_fresh
        | with_reducible exact (bel_set6 hI.bel hI.ge).cells10 HC2.out
        | with_reducible exact bel_set6 hI.bel hI.ge
        | with_reducible exact (hI.bel.alloc hI.bel.size _).cells10 HC2.out
        | with_reducible exact hI.bel.alloc hI.bel.size _
    case rest =>
      obtain ⟨g2, rfl, rfl, hE2, _, hB2⟩ := hcut
      obtain ⟨x0, x1, x2, x3, x4, x5⟩ := hE2
      obtain ⟨y0, y1, y2, y3, y4, y5⟩ := HE.out
      have z0 := kc hB2 y0
      have z1 := kc hB2 y1
      have z2 := kc hB2 y2
      have z3 := kc hB2 y3
      have z4 := kc hB2 y4
      have z5 := kc hB2 y5
      have HBF := hid (bel_step (bel_step HB0.out HB1.out) hB2)
      clear hS y0 y1 y2 y3 y4 y5 hB2
      go_wp2_with fail
      refine (eqSecond_same A D K M N W _).mono ?_
      rintro e w9 ⟨rfl, hb9⟩
      have HBG := hid (bel_step HBF.out hb9)
      go_wp2_with fail
      go_ret
      exact ⟨rfl, HBG.out⟩

end Go.Proofs.Ytbfadlfbamjkbaa
