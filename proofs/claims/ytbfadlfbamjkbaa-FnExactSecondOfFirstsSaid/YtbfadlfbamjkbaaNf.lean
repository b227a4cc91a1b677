
import Derived.Test.YtbfadlfbamjkbaaNd
namespace Go.Proofs.Ytbfadlfbamjkbaa
open Go.RowKit BitX Go.MemX Go.ShX
set_option linter.unusedVariables false


theorem sfW {x : Int} (h1 : -100000000 ≤ x) (h2 : x ≤ 100000000) : IntKind.i64.wrap x = x ∧ wrap64 x = x := ⟨IntWalk.i64_in _ (by omega), IntWalk.wrap64_in _ (by omega)⟩
theorem sfM {x y : Int} (h1 : -1024 ≤ x) (h2 : x ≤ 1024) (h3 : -1024 ≤ y) (h4 : y ≤ 1024) : -2000000 ≤ x * y ∧ x * y ≤ 2000000 := by
  have := mul_in h1 h2 h3 h4 (by omega); omega
theorem sfP {P : Nat} (h : P ≤ 1024) : -1024 ≤ (P : Int) ∧ (P : Int) ≤ 1024 := by omega
theorem sfS {x y : Int} (h1 : -2000000 ≤ x ∧ x ≤ 2000000) (h2 : -2000000 ≤ y ∧ y ≤ 2000000) : -100000000 ≤ x + y ∧ x + y ≤ 100000000 := by omega
theorem sfG {x : Int} (h1 : -2000000 ≤ x ∧ x ≤ 2000000) : -100000000 ≤ x ∧ x ≤ 100000000 := by omega
theorem sfN {x : Int} (h1 : -1024 ≤ x) (h2 : x ≤ 1024) : (-1024 ≤ -x ∧ -x ≤ 1024) ∧ (-100000000 ≤ -x ∧ -x ≤ 100000000) := by omega
theorem sfK {k k2 : Nat} (h1 : k ≤ 10) (h2 : k2 ≤ 10) : -100000000 ≤ (k : Int) + (k2 : Int) ∧ (k : Int) + (k2 : Int) ≤ 100000000 := by omega
theorem minle {k : Nat} (h : k ≤ 10) : min k 64 = k := Nat.min_eq_left (by omega)
def sfA (a k a2 k2 : Int) : Int := a * 2 ^ k2.toNat + a2 * 2 ^ k.toNat
def sfB (a k mode b a2 k2 mode2 b2 : Int) : Bool := foB a k mode b && (foB a2 k2 mode2 b2 && soB (sfA a k a2 k2) (-a * a2) (k + k2) mode b)
def sfV (a k mode b : Int) (wr : Bool) (a2 k2 mode2 b2 : Int) : Value := onB (sfB a k mode b a2 k2 mode2 b2) (.agg #[.int .i64 (sfA a k a2 k2), .int .i64 (-a * a2), .int .i64 (k + k2), .int .i64 mode, .int .i64 b, .bool wr]) (.agg #[.int .i64 0, .int .i64 0, .int .i64 0, .int .i64 0, .int .i64 0, .bool false])
theorem ret_vb {s t : Value} {b c : Bool} (h1 : s = t) (h2 : b = c) : Ending.returned (.tuple #[s, .bool b]) = .returned (.tuple #[t, .bool c]) := by rw [h1, h2]


set_option maxHeartbeats 4000000 in
theorem spec_SecondOfFirsts_is (a k mode b : Int) (wr : Bool) (a2 k2 mode2 b2 : Int) (wr2 : Bool) (w : World) :
    Calls Try.prog 4 #[.agg #[.int .i64 a, .int .i64 k, .int .i64 mode, .int .i64 b, .bool wr], .agg #[.int .i64 a2, .int .i64 k2, .int .i64 mode2, .int .i64 b2, .bool wr2]] w fun e w' => e = .returned (.tuple #[sfV a k mode b wr a2 k2 mode2 b2, .bool (sfB a k mode b a2 k2 mode2 b2)]) ∧ Below w.heap.size w w' := by
  cases g1 : foB a k mode b
  · have hq : sfB a k mode b a2 k2 mode2 b2 = false := by unfold sfB; rw [g1]; rfl
    have G1 := hid g1
    have HZ := hid (show (.agg #[.int .i64 0, .int .i64 0, .int .i64 0, .int .i64 0, .int .i64 0, .bool false] : Value) = sfV a k mode b wr a2 k2 mode2 b2 from by unfold sfV; rw [hq]; rfl)
    have HQ := hid hq.symm
    clear hq
    clear g1
    go_enter Try.func4, Try.ntmps4
    go_wp2_with fail
    refine (foGood_q _ _ _ _ _ false _ G1.out).mono ?_
    rintro e w1 ⟨rfl, hb⟩
    obtain ⟨⟨p0, p1, p2, p3, p4, p5⟩, q0, q1, q2, q3, q4, q5⟩ := box6_own hb
    obtain ⟨d0, d1, d2, d3, d4⟩ := box5_cells (bel_step (bel_alloc _ _) hb)
    obtain ⟨c0, c1, c2, c3, c4⟩ := box5_cells (bel_step (bel_alloc _ _) (bel_step (bel_alloc _ _) hb))
    simp only [World.size_alloc] at p0 p1 p2 p3 p4 p5 q0 q1 q2 q3 q4 q5 c0 c1 c2 c3 c4 d0 d1 d2 d3 d4
    go_wp2_with fail
    have hb3 := bel_step (bel_alloc _ _) (bel_step (bel_alloc _ _) (bel_step (bel_alloc _ _) hb))
    refine bodyPost_ret (v := .tuple #[.agg #[.int .i64 0, .int .i64 0, .int .i64 0, .int .i64 0, .int .i64 0, .bool false], .bool false]) (by simp [results, Try.results4, go_sem, p0, p1, p2, p3, p4, p5]) rfl ⟨ret_vb HZ.out HQ.out, ?_⟩
    exact ((((((hb3.setCell (by exact Nat.le_add_right _ 2) _).setCell (by exact Nat.le_add_right _ 2) _).setCell (by exact Nat.le_add_right _ 2) _).setCell (by exact Nat.le_add_right _ 2) _).setCell (by exact Nat.le_add_right _ 2) _).setCell (by exact Nat.le_add_right _ 2) _)
  · cases g2 : foB a2 k2 mode2 b2
    · have hq : sfB a k mode b a2 k2 mode2 b2 = false := by unfold sfB; rw [g1, g2]; rfl
      have G1 := hid g1
      have G2 := hid g2
      have HZ := hid (show (.agg #[.int .i64 0, .int .i64 0, .int .i64 0, .int .i64 0, .int .i64 0, .bool false] : Value) = sfV a k mode b wr a2 k2 mode2 b2 from by unfold sfV; rw [hq]; rfl)
      have HQ := hid hq.symm
      clear hq
      clear g1 g2
      go_enter Try.func4, Try.ntmps4
      go_wp2_with fail
      refine (foGood_q _ _ _ _ _ true _ G1.out).mono ?_
      rintro e w1 ⟨rfl, hb⟩
      obtain ⟨⟨p0, p1, p2, p3, p4, p5⟩, q0, q1, q2, q3, q4, q5⟩ := box6_own hb
      obtain ⟨d0, d1, d2, d3, d4⟩ := box5_cells (bel_step (bel_alloc _ _) hb)
      obtain ⟨c0, c1, c2, c3, c4⟩ := box5_cells (bel_step (bel_alloc _ _) (bel_step (bel_alloc _ _) hb))
      simp only [World.size_alloc] at p0 p1 p2 p3 p4 p5 q0 q1 q2 q3 q4 q5 c0 c1 c2 c3 c4 d0 d1 d2 d3 d4
      go_wp2_with fail
      refine (foGood_q _ _ _ _ _ false _ G2.out).mono ?_
      rintro e w2 ⟨rfl, hb2⟩
      have hB := bel_step hb hb2
      clear p0 p1 p2 p3 p4 p5 q0 q1 q2 q3 q4 q5 c0 c1 c2 c3 c4 d0 d1 d2 d3 d4
      obtain ⟨⟨p0, p1, p2, p3, p4, p5⟩, q0, q1, q2, q3, q4, q5⟩ := box6_own hB
      obtain ⟨d0, d1, d2, d3, d4⟩ := box5_cells (bel_step (bel_alloc _ _) hB)
      obtain ⟨c0, c1, c2, c3, c4⟩ := box5_cells (bel_step (bel_alloc _ _) (bel_step (bel_alloc _ _) hB))
      simp only [World.size_alloc] at p0 p1 p2 p3 p4 p5 q0 q1 q2 q3 q4 q5 c0 c1 c2 c3 c4 d0 d1 d2 d3 d4
      go_wp2_with fail
      have hb3 := bel_step (bel_alloc _ _) (bel_step (bel_alloc _ _) (bel_step (bel_alloc _ _) hB))
      refine bodyPost_ret (v := .tuple #[.agg #[.int .i64 0, .int .i64 0, .int .i64 0, .int .i64 0, .int .i64 0, .bool false], .bool false]) (by simp [results, Try.results4, go_sem, p0, p1, p2, p3, p4, p5]) rfl ⟨ret_vb HZ.out HQ.out, ?_⟩
      exact ((((((hb3.setCell (by exact Nat.le_add_right _ 2) _).setCell (by exact Nat.le_add_right _ 2) _).setCell (by exact Nat.le_add_right _ 2) _).setCell (by exact Nat.le_add_right _ 2) _).setCell (by exact Nat.le_add_right _ 2) _).setCell (by exact Nat.le_add_right _ 2) _)
    · obtain ⟨k, n, rfl, rfl, ho⟩ := foB_n g1
      obtain ⟨k2, n2, rfl, rfl, ho2⟩ := foB_n g2
      have G1 := hid g1
      have G2 := hid g2
      obtain ⟨⟨a1, a1'⟩, k1, _⟩ := ho
      obtain ⟨⟨a3, a4⟩, k3, _⟩ := ho2
      obtain ⟨P, hP0, hP, pp1, pp2⟩ := pow_nat k k1
      obtain ⟨R, hR0, hR, r1, r2⟩ := pow_nat k2 k3
      have m1 := sfM a1 a1' (sfP r2).1 (sfP r2).2
      have m2 := sfM a3 a4 (sfP pp2).1 (sfP pp2).2
      have m3 := sfM (sfN a1 a1').1.1 (sfN a1 a1').1.2 a3 a4
      obtain ⟨x1, hx1⟩ : ∃ x1, x1 = a * (R : Int) := ⟨_, rfl⟩
      obtain ⟨x2, hx2⟩ : ∃ x2, x2 = a2 * (P : Int) := ⟨_, rfl⟩
      rw [← hx1] at m1
      rw [← hx2] at m2
      have e1 : IntKind.i64.wrap (a * (2 : Int) ^ k2) = x1 := by rw [hR, ← hx1]; exact (sfW (sfG m1).1 (sfG m1).2).1
      have e1' : wrap64 (a * (2 : Int) ^ k2) = x1 := by rw [hR, ← hx1]; exact (sfW (sfG m1).1 (sfG m1).2).2
      have e1'' : wrap64 (a * (2 : Int) ^ min k2 64) = x1 := by rw [minle k3]; exact e1'
      have e2 : IntKind.i64.wrap (a2 * (2 : Int) ^ k) = x2 := by rw [hP, ← hx2]; exact (sfW (sfG m2).1 (sfG m2).2).1
      have e2' : wrap64 (a2 * (2 : Int) ^ k) = x2 := by rw [hP, ← hx2]; exact (sfW (sfG m2).1 (sfG m2).2).2
      have e2'' : wrap64 (a2 * (2 : Int) ^ min k 64) = x2 := by rw [minle k1]; exact e2'
      have hA : sfA a k a2 k2 = x1 + x2 := by unfold sfA; rw [Int.toNat_natCast, Int.toNat_natCast, hP, hR, hx1, hx2]
      have m4 := sfS m1 m2
      obtain ⟨A, hA1⟩ : ∃ A, A = x1 + x2 := ⟨_, rfl⟩
      have e3 : IntKind.i64.wrap (x1 + x2) = A := by rw [hA1]; exact (sfW m4.1 m4.2).1
      have e3' : wrap64 (x1 + x2) = A := by rw [hA1]; exact (sfW m4.1 m4.2).2
      rw [← hA1] at hA
      have e4 : IntKind.i64.wrap (-a) = -a := (sfW (sfN a1 a1').2.1 (sfN a1 a1').2.2).1
      have e4' : wrap64 (-a) = -a := (sfW (sfN a1 a1').2.1 (sfN a1 a1').2.2).2
      obtain ⟨D, hD⟩ : ∃ D, D = -a * a2 := ⟨_, rfl⟩
      rw [← hD] at m3
      have e5 : IntKind.i64.wrap (-a * a2) = D := by rw [← hD]; exact (sfW (sfG m3).1 (sfG m3).2).1
      have e5' : wrap64 (-a * a2) = D := by rw [← hD]; exact (sfW (sfG m3).1 (sfG m3).2).2
      obtain ⟨K, hK⟩ : ∃ K, K = (k : Int) + (k2 : Int) := ⟨_, rfl⟩
      have m5 := sfK k1 k3
      have e6 : IntKind.i64.wrap ((k : Int) + (k2 : Int)) = K := by rw [hK]; exact (sfW m5.1 m5.2).1
      have e6' : wrap64 ((k : Int) + (k2 : Int)) = K := by rw [hK]; exact (sfW m5.1 m5.2).2
      have hk0 : 0 ≤ (k : Int) := Int.natCast_nonneg k
      have hk1 : 0 ≤ (k2 : Int) := Int.natCast_nonneg k2
      have hq0 : sfB a k mode n a2 k2 mode2 n2 = soB A D K mode n := by unfold sfB; rw [g1, g2, hA, ← hD, ← hK]; rfl
      have hv0 : ∀ q, sfB a k mode n a2 k2 mode2 n2 = q → sfV a k mode n wr a2 k2 mode2 n2 = onB q (.agg #[.int .i64 A, .int .i64 D, .int .i64 K, .int .i64 mode, .int .i64 (n : Int), .bool wr]) (.agg #[.int .i64 0, .int .i64 0, .int .i64 0, .int .i64 0, .int .i64 0, .bool false]) := fun q h => by unfold sfV; rw [h, hA, ← hD, ← hK]
      clear hA hA1 hD hK hx1 hx2 hP hR hP0 hR0 g1 g2 m1 m2 m3 m4 m5
      cases g3 : soB A D K mode n
      · have HQ := hid (show false = sfB a k mode n a2 k2 mode2 n2 from by rw [hq0, g3])
        have HZ := hid (hv0 false HQ.out.symm).symm
        have G3 := hid g3
        clear hv0 hq0 g3
        go_enter Try.func4, Try.ntmps4
        go_wp2_with fail
        refine (foGood_q _ _ _ _ _ true _ G1.out).mono ?_
        rintro e w1 ⟨rfl, hb⟩
        obtain ⟨⟨p0, p1, p2, p3, p4, p5⟩, q0, q1, q2, q3, q4, q5⟩ := box6_own hb
        obtain ⟨d0, d1, d2, d3, d4⟩ := box5_cells (bel_step (bel_alloc _ _) hb)
        obtain ⟨c0, c1, c2, c3, c4⟩ := box5_cells (bel_step (bel_alloc _ _) (bel_step (bel_alloc _ _) hb))
        simp only [World.size_alloc] at p0 p1 p2 p3 p4 p5 q0 q1 q2 q3 q4 q5 c0 c1 c2 c3 c4 d0 d1 d2 d3 d4
        go_wp2_with fail
        refine (foGood_q _ _ _ _ _ true _ G2.out).mono ?_
        rintro e w2 ⟨rfl, hb2⟩
        have hB := bel_step hb hb2
        clear p0 p1 p2 p3 p4 p5 q0 q1 q2 q3 q4 q5 c0 c1 c2 c3 c4 d0 d1 d2 d3 d4
        obtain ⟨⟨p0, p1, p2, p3, p4, p5⟩, q0, q1, q2, q3, q4, q5⟩ := box6_own hB
        obtain ⟨d0, d1, d2, d3, d4⟩ := box5_cells (bel_step (bel_alloc _ _) hB)
        obtain ⟨c0, c1, c2, c3, c4⟩ := box5_cells (bel_step (bel_alloc _ _) (bel_step (bel_alloc _ _) hB))
        simp only [World.size_alloc] at p0 p1 p2 p3 p4 p5 q0 q1 q2 q3 q4 q5 c0 c1 c2 c3 c4 d0 d1 d2 d3 d4
        have hsz : w.heap.size + 3 ≤ w2.heap.size := by have := hB.size; simp at this; omega
        have nn1 : w2.heap.size ≠ w.heap.size := by omega
        have nn2 : w2.heap.size ≠ w.heap.size + 1 := by omega
        have nn3 : w2.heap.size ≠ w.heap.size + 1 + 1 := by omega
        have hS := And.intro c0 (And.intro c1 (And.intro c2 (And.intro c3 (And.intro c4 (And.intro d0 d1)))))
        go_wp2_with fail
        go_region_held3 (fun W => W.cell? ⟨w.heap.size, 0, none⟩ = some (.int .i64 a) ∧ W.cell? ⟨w.heap.size, 1, none⟩ = some (.int .i64 (k : Int)) ∧ W.cell? ⟨w.heap.size, 2, none⟩ = some (.int .i64 mode) ∧ W.cell? ⟨w.heap.size, 3, none⟩ = some (.int .i64 (n : Int)) ∧ W.cell? ⟨w.heap.size, 4, none⟩ = some (.bool wr) ∧ W.cell? ⟨w.heap.size + 1, 0, none⟩ = some (.int .i64 a2) ∧ W.cell? ⟨w.heap.size + 1, 1, none⟩ = some (.int .i64 (k2 : Int))) (first | exact hS | assumption | go_keep) (first | fail)
        obtain ⟨t0, t1, t2, t3, t4, t5⟩ := box6_cells (Below.refl (w2.alloc (.cells #[.int .i64 A, .int .i64 D, .int .i64 K, .int .i64 mode, .int .i64 (n : Int), .bool wr] 28)).heap.size (w2.alloc (.cells #[.int .i64 A, .int .i64 D, .int .i64 K, .int .i64 mode, .int .i64 (n : Int), .bool wr] 28))).drew
        have hB3 := bel_step hB (bel_alloc w2 (.cells #[.int .i64 A, .int .i64 D, .int .i64 K, .int .i64 mode, .int .i64 (n : Int), .bool wr] 28)).drew
        clear p0 p1 p2 p3 p4 p5 q0 q1 q2 q3 q4 q5 c0 c1 c2 c3 c4 d0 d1 d2 d3 d4
        generalize (w2.alloc (.cells #[.int .i64 A, .int .i64 D, .int .i64 K, .int .i64 mode, .int .i64 (n : Int), .bool wr] 28)).drew = w3 at *
        clear hS
        go_wp2_with fail
        refine (sdGood_q _ _ _ _ _ _ false _ G3.out).mono ?_
        rintro e w4 ⟨rfl, hb4⟩
        have hB4 := bel_step hB3 hb4
        obtain ⟨t0, t1, t2, t3, t4, t5⟩ := hb4.cells6q ⟨t0, t1, t2, t3, t4, t5⟩
        obtain ⟨⟨p0, p1, p2, p3, p4, p5⟩, q0, q1, q2, q3, q4, q5⟩ := box6_own hB4
        obtain ⟨d0, d1, d2, d3, d4⟩ := box5_cells (bel_step (bel_alloc _ _) hB4)
        obtain ⟨c0, c1, c2, c3, c4⟩ := box5_cells (bel_step (bel_alloc _ _) (bel_step (bel_alloc _ _) hB4))
        simp only [World.size_alloc] at p0 p1 p2 p3 p4 p5 q0 q1 q2 q3 q4 q5 c0 c1 c2 c3 c4 d0 d1 d2 d3 d4
        go_wp2_with fail
        have hb5 := bel_step (bel_alloc _ _) (bel_step (bel_alloc _ _) (bel_step (bel_alloc _ _) hB4))
        refine bodyPost_ret (v := .tuple #[.agg #[.int .i64 0, .int .i64 0, .int .i64 0, .int .i64 0, .int .i64 0, .bool false], .bool false]) (by simp [results, Try.results4, go_sem, p0, p1, p2, p3, p4, p5]) rfl ⟨ret_vb HZ.out HQ.out, ?_⟩
        exact ((((((hb5.setCell (by exact Nat.le_add_right _ 2) _).setCell (by exact Nat.le_add_right _ 2) _).setCell (by exact Nat.le_add_right _ 2) _).setCell (by exact Nat.le_add_right _ 2) _).setCell (by exact Nat.le_add_right _ 2) _).setCell (by exact Nat.le_add_right _ 2) _)
      · have HQ := hid (show true = sfB a k mode n a2 k2 mode2 n2 from by rw [hq0, g3])
        have HZ := hid (hv0 true HQ.out.symm).symm
        have G3 := hid g3
        clear hv0 hq0 g3
        go_enter Try.func4, Try.ntmps4
        go_wp2_with fail
        refine (foGood_q _ _ _ _ _ true _ G1.out).mono ?_
        rintro e w1 ⟨rfl, hb⟩
        obtain ⟨⟨p0, p1, p2, p3, p4, p5⟩, q0, q1, q2, q3, q4, q5⟩ := box6_own hb
        obtain ⟨d0, d1, d2, d3, d4⟩ := box5_cells (bel_step (bel_alloc _ _) hb)
        obtain ⟨c0, c1, c2, c3, c4⟩ := box5_cells (bel_step (bel_alloc _ _) (bel_step (bel_alloc _ _) hb))
        simp only [World.size_alloc] at p0 p1 p2 p3 p4 p5 q0 q1 q2 q3 q4 q5 c0 c1 c2 c3 c4 d0 d1 d2 d3 d4
        go_wp2_with fail
        refine (foGood_q _ _ _ _ _ true _ G2.out).mono ?_
        rintro e w2 ⟨rfl, hb2⟩
        have hB := bel_step hb hb2
        clear p0 p1 p2 p3 p4 p5 q0 q1 q2 q3 q4 q5 c0 c1 c2 c3 c4 d0 d1 d2 d3 d4
        obtain ⟨⟨p0, p1, p2, p3, p4, p5⟩, q0, q1, q2, q3, q4, q5⟩ := box6_own hB
        obtain ⟨d0, d1, d2, d3, d4⟩ := box5_cells (bel_step (bel_alloc _ _) hB)
        obtain ⟨c0, c1, c2, c3, c4⟩ := box5_cells (bel_step (bel_alloc _ _) (bel_step (bel_alloc _ _) hB))
        simp only [World.size_alloc] at p0 p1 p2 p3 p4 p5 q0 q1 q2 q3 q4 q5 c0 c1 c2 c3 c4 d0 d1 d2 d3 d4
        have hsz : w.heap.size + 3 ≤ w2.heap.size := by have := hB.size; simp at this; omega
        have nn1 : w2.heap.size ≠ w.heap.size := by omega
        have nn2 : w2.heap.size ≠ w.heap.size + 1 := by omega
        have nn3 : w2.heap.size ≠ w.heap.size + 1 + 1 := by omega
        have hS := And.intro c0 (And.intro c1 (And.intro c2 (And.intro c3 (And.intro c4 (And.intro d0 d1)))))
        go_wp2_with fail
        go_region_held3 (fun W => W.cell? ⟨w.heap.size, 0, none⟩ = some (.int .i64 a) ∧ W.cell? ⟨w.heap.size, 1, none⟩ = some (.int .i64 (k : Int)) ∧ W.cell? ⟨w.heap.size, 2, none⟩ = some (.int .i64 mode) ∧ W.cell? ⟨w.heap.size, 3, none⟩ = some (.int .i64 (n : Int)) ∧ W.cell? ⟨w.heap.size, 4, none⟩ = some (.bool wr) ∧ W.cell? ⟨w.heap.size + 1, 0, none⟩ = some (.int .i64 a2) ∧ W.cell? ⟨w.heap.size + 1, 1, none⟩ = some (.int .i64 (k2 : Int))) (first | exact hS | assumption | go_keep) (first | fail)
        obtain ⟨t0, t1, t2, t3, t4, t5⟩ := box6_cells (Below.refl (w2.alloc (.cells #[.int .i64 A, .int .i64 D, .int .i64 K, .int .i64 mode, .int .i64 (n : Int), .bool wr] 28)).heap.size (w2.alloc (.cells #[.int .i64 A, .int .i64 D, .int .i64 K, .int .i64 mode, .int .i64 (n : Int), .bool wr] 28))).drew
        have hB3 := bel_step hB (bel_alloc w2 (.cells #[.int .i64 A, .int .i64 D, .int .i64 K, .int .i64 mode, .int .i64 (n : Int), .bool wr] 28)).drew
        clear p0 p1 p2 p3 p4 p5 q0 q1 q2 q3 q4 q5 c0 c1 c2 c3 c4 d0 d1 d2 d3 d4
        generalize (w2.alloc (.cells #[.int .i64 A, .int .i64 D, .int .i64 K, .int .i64 mode, .int .i64 (n : Int), .bool wr] 28)).drew = w3 at *
        clear hS
        go_wp2_with fail
        refine (sdGood_q _ _ _ _ _ _ true _ G3.out).mono ?_
        rintro e w4 ⟨rfl, hb4⟩
        have hB4 := bel_step hB3 hb4
        obtain ⟨t0, t1, t2, t3, t4, t5⟩ := hb4.cells6q ⟨t0, t1, t2, t3, t4, t5⟩
        obtain ⟨⟨p0, p1, p2, p3, p4, p5⟩, q0, q1, q2, q3, q4, q5⟩ := box6_own hB4
        obtain ⟨d0, d1, d2, d3, d4⟩ := box5_cells (bel_step (bel_alloc _ _) hB4)
        obtain ⟨c0, c1, c2, c3, c4⟩ := box5_cells (bel_step (bel_alloc _ _) (bel_step (bel_alloc _ _) hB4))
        simp only [World.size_alloc] at p0 p1 p2 p3 p4 p5 q0 q1 q2 q3 q4 q5 c0 c1 c2 c3 c4 d0 d1 d2 d3 d4
        go_wp2_with fail
        have hb3 := bel_step (bel_alloc _ _) (bel_step (bel_alloc _ _) (bel_step (bel_alloc _ _) hB4))
        refine bodyPost_ret (v := .tuple #[.agg #[.int .i64 A, .int .i64 D, .int .i64 K, .int .i64 mode, .int .i64 (n : Int), .bool wr], .bool true]) (by simp [results, Try.results4, go_sem, p0, p1, p2, p3, p4, p5]) rfl ⟨ret_vb HZ.out HQ.out, ?_⟩
        exact ((((((hb3.setCell (by exact Nat.le_add_right _ 2) _).setCell (by exact Nat.le_add_right _ 2) _).setCell (by exact Nat.le_add_right _ 2) _).setCell (by exact Nat.le_add_right _ 2) _).setCell (by exact Nat.le_add_right _ 2) _).setCell (by exact Nat.le_add_right _ 2) _)


set_option maxHeartbeats 4000000 in
theorem impl_SecondOfFirsts_is (a k mode b : Int) (wr : Bool) (a2 k2 mode2 b2 : Int) (wr2 : Bool) (w : World) :
    Calls Try.prog 6 #[.agg #[.int .i64 a, .int .i64 k, .int .i64 mode, .int .i64 b, .bool wr], .agg #[.int .i64 a2, .int .i64 k2, .int .i64 mode2, .int .i64 b2, .bool wr2]] w fun e w' => e = .returned (.tuple #[sfV a k mode b wr a2 k2 mode2 b2, .bool (sfB a k mode b a2 k2 mode2 b2)]) ∧ Below w.heap.size w w' := by
  cases g1 : foB a k mode b
  · have hq : sfB a k mode b a2 k2 mode2 b2 = false := by unfold sfB; rw [g1]; rfl
    have G1 := hid g1
    have HZ := hid (show (.agg #[.int .i64 0, .int .i64 0, .int .i64 0, .int .i64 0, .int .i64 0, .bool false] : Value) = sfV a k mode b wr a2 k2 mode2 b2 from by unfold sfV; rw [hq]; rfl)
    have HQ := hid hq.symm
    clear hq
    clear g1
    go_enter Try.func6, Try.ntmps6
    go_wp2_with fail
    refine (IsFirst_q _ _ _ _ _ false _ G1.out).mono ?_
    rintro e w1 ⟨rfl, hb⟩
    obtain ⟨⟨p0, p1, p2, p3, p4, p5⟩, q0, q1, q2, q3, q4, q5⟩ := box6_own hb
    obtain ⟨d0, d1, d2, d3, d4⟩ := box5_cells (bel_step (bel_alloc _ _) hb)
    obtain ⟨c0, c1, c2, c3, c4⟩ := box5_cells (bel_step (bel_alloc _ _) (bel_step (bel_alloc _ _) hb))
    simp only [World.size_alloc] at p0 p1 p2 p3 p4 p5 q0 q1 q2 q3 q4 q5 c0 c1 c2 c3 c4 d0 d1 d2 d3 d4
    go_wp2_with fail
    have hb3 := bel_step (bel_alloc _ _) (bel_step (bel_alloc _ _) (bel_step (bel_alloc _ _) hb))
    refine bodyPost_ret (v := .tuple #[.agg #[.int .i64 0, .int .i64 0, .int .i64 0, .int .i64 0, .int .i64 0, .bool false], .bool false]) (by simp [results, Try.results6, go_sem, p0, p1, p2, p3, p4, p5]) rfl ⟨ret_vb HZ.out HQ.out, ?_⟩
    exact ((((((hb3.setCell (by exact Nat.le_add_right _ 2) _).setCell (by exact Nat.le_add_right _ 2) _).setCell (by exact Nat.le_add_right _ 2) _).setCell (by exact Nat.le_add_right _ 2) _).setCell (by exact Nat.le_add_right _ 2) _).setCell (by exact Nat.le_add_right _ 2) _)
  · cases g2 : foB a2 k2 mode2 b2
    · have hq : sfB a k mode b a2 k2 mode2 b2 = false := by unfold sfB; rw [g1, g2]; rfl
      have G1 := hid g1
      have G2 := hid g2
      have HZ := hid (show (.agg #[.int .i64 0, .int .i64 0, .int .i64 0, .int .i64 0, .int .i64 0, .bool false] : Value) = sfV a k mode b wr a2 k2 mode2 b2 from by unfold sfV; rw [hq]; rfl)
      have HQ := hid hq.symm
      clear hq
      clear g1 g2
      go_enter Try.func6, Try.ntmps6
      go_wp2_with fail
      refine (IsFirst_q _ _ _ _ _ true _ G1.out).mono ?_
      rintro e w1 ⟨rfl, hb⟩
      obtain ⟨⟨p0, p1, p2, p3, p4, p5⟩, q0, q1, q2, q3, q4, q5⟩ := box6_own hb
      obtain ⟨d0, d1, d2, d3, d4⟩ := box5_cells (bel_step (bel_alloc _ _) hb)
      obtain ⟨c0, c1, c2, c3, c4⟩ := box5_cells (bel_step (bel_alloc _ _) (bel_step (bel_alloc _ _) hb))
      simp only [World.size_alloc] at p0 p1 p2 p3 p4 p5 q0 q1 q2 q3 q4 q5 c0 c1 c2 c3 c4 d0 d1 d2 d3 d4
      go_wp2_with fail
      refine (IsFirst_q _ _ _ _ _ false _ G2.out).mono ?_
      rintro e w2 ⟨rfl, hb2⟩
      have hB := bel_step hb hb2
      clear p0 p1 p2 p3 p4 p5 q0 q1 q2 q3 q4 q5 c0 c1 c2 c3 c4 d0 d1 d2 d3 d4
      obtain ⟨⟨p0, p1, p2, p3, p4, p5⟩, q0, q1, q2, q3, q4, q5⟩ := box6_own hB
      obtain ⟨d0, d1, d2, d3, d4⟩ := box5_cells (bel_step (bel_alloc _ _) hB)
      obtain ⟨c0, c1, c2, c3, c4⟩ := box5_cells (bel_step (bel_alloc _ _) (bel_step (bel_alloc _ _) hB))
      simp only [World.size_alloc] at p0 p1 p2 p3 p4 p5 q0 q1 q2 q3 q4 q5 c0 c1 c2 c3 c4 d0 d1 d2 d3 d4
      go_wp2_with fail
      have hb3 := bel_step (bel_alloc _ _) (bel_step (bel_alloc _ _) (bel_step (bel_alloc _ _) hB))
      refine bodyPost_ret (v := .tuple #[.agg #[.int .i64 0, .int .i64 0, .int .i64 0, .int .i64 0, .int .i64 0, .bool false], .bool false]) (by simp [results, Try.results6, go_sem, p0, p1, p2, p3, p4, p5]) rfl ⟨ret_vb HZ.out HQ.out, ?_⟩
      exact ((((((hb3.setCell (by exact Nat.le_add_right _ 2) _).setCell (by exact Nat.le_add_right _ 2) _).setCell (by exact Nat.le_add_right _ 2) _).setCell (by exact Nat.le_add_right _ 2) _).setCell (by exact Nat.le_add_right _ 2) _).setCell (by exact Nat.le_add_right _ 2) _)
    · obtain ⟨k, n, rfl, rfl, ho⟩ := foB_n g1
      obtain ⟨k2, n2, rfl, rfl, ho2⟩ := foB_n g2
      have G1 := hid g1
      have G2 := hid g2
      obtain ⟨⟨a1, a1'⟩, k1, _⟩ := ho
      obtain ⟨⟨a3, a4⟩, k3, _⟩ := ho2
      obtain ⟨P, hP0, hP, pp1, pp2⟩ := pow_nat k k1
      obtain ⟨R, hR0, hR, r1, r2⟩ := pow_nat k2 k3
      have m1 := sfM a1 a1' (sfP r2).1 (sfP r2).2
      have m2 := sfM a3 a4 (sfP pp2).1 (sfP pp2).2
      have m3 := sfM (sfN a1 a1').1.1 (sfN a1 a1').1.2 a3 a4
      obtain ⟨x1, hx1⟩ : ∃ x1, x1 = a * (R : Int) := ⟨_, rfl⟩
      obtain ⟨x2, hx2⟩ : ∃ x2, x2 = a2 * (P : Int) := ⟨_, rfl⟩
      rw [← hx1] at m1
      rw [← hx2] at m2
      have e1 : IntKind.i64.wrap (a * (2 : Int) ^ k2) = x1 := by rw [hR, ← hx1]; exact (sfW (sfG m1).1 (sfG m1).2).1
      have e1' : wrap64 (a * (2 : Int) ^ k2) = x1 := by rw [hR, ← hx1]; exact (sfW (sfG m1).1 (sfG m1).2).2
      have e1'' : wrap64 (a * (2 : Int) ^ min k2 64) = x1 := by rw [minle k3]; exact e1'
      have e2 : IntKind.i64.wrap (a2 * (2 : Int) ^ k) = x2 := by rw [hP, ← hx2]; exact (sfW (sfG m2).1 (sfG m2).2).1
      have e2' : wrap64 (a2 * (2 : Int) ^ k) = x2 := by rw [hP, ← hx2]; exact (sfW (sfG m2).1 (sfG m2).2).2
      have e2'' : wrap64 (a2 * (2 : Int) ^ min k 64) = x2 := by rw [minle k1]; exact e2'
      have hA : sfA a k a2 k2 = x1 + x2 := by unfold sfA; rw [Int.toNat_natCast, Int.toNat_natCast, hP, hR, hx1, hx2]
      have m4 := sfS m1 m2
      obtain ⟨A, hA1⟩ : ∃ A, A = x1 + x2 := ⟨_, rfl⟩
      have e3 : IntKind.i64.wrap (x1 + x2) = A := by rw [hA1]; exact (sfW m4.1 m4.2).1
      have e3' : wrap64 (x1 + x2) = A := by rw [hA1]; exact (sfW m4.1 m4.2).2
      rw [← hA1] at hA
      have e4 : IntKind.i64.wrap (-a) = -a := (sfW (sfN a1 a1').2.1 (sfN a1 a1').2.2).1
      have e4' : wrap64 (-a) = -a := (sfW (sfN a1 a1').2.1 (sfN a1 a1').2.2).2
      obtain ⟨D, hD⟩ : ∃ D, D = -a * a2 := ⟨_, rfl⟩
      rw [← hD] at m3
      have e5 : IntKind.i64.wrap (-a * a2) = D := by rw [← hD]; exact (sfW (sfG m3).1 (sfG m3).2).1
      have e5' : wrap64 (-a * a2) = D := by rw [← hD]; exact (sfW (sfG m3).1 (sfG m3).2).2
      obtain ⟨K, hK⟩ : ∃ K, K = (k : Int) + (k2 : Int) := ⟨_, rfl⟩
      have m5 := sfK k1 k3
      have e6 : IntKind.i64.wrap ((k : Int) + (k2 : Int)) = K := by rw [hK]; exact (sfW m5.1 m5.2).1
      have e6' : wrap64 ((k : Int) + (k2 : Int)) = K := by rw [hK]; exact (sfW m5.1 m5.2).2
      have hk0 : 0 ≤ (k : Int) := Int.natCast_nonneg k
      have hk1 : 0 ≤ (k2 : Int) := Int.natCast_nonneg k2
      have hq0 : sfB a k mode n a2 k2 mode2 n2 = soB A D K mode n := by unfold sfB; rw [g1, g2, hA, ← hD, ← hK]; rfl
      have hv0 : ∀ q, sfB a k mode n a2 k2 mode2 n2 = q → sfV a k mode n wr a2 k2 mode2 n2 = onB q (.agg #[.int .i64 A, .int .i64 D, .int .i64 K, .int .i64 mode, .int .i64 (n : Int), .bool wr]) (.agg #[.int .i64 0, .int .i64 0, .int .i64 0, .int .i64 0, .int .i64 0, .bool false]) := fun q h => by unfold sfV; rw [h, hA, ← hD, ← hK]
      clear hA hA1 hD hK hx1 hx2 hP hR hP0 hR0 g1 g2 m1 m2 m3 m4 m5
      cases g3 : soB A D K mode n
      · have HQ := hid (show false = sfB a k mode n a2 k2 mode2 n2 from by rw [hq0, g3])
        have HZ := hid (hv0 false HQ.out.symm).symm
        have G3 := hid g3
        clear hv0 hq0 g3
        go_enter Try.func6, Try.ntmps6
        go_wp2_with fail
        refine (IsFirst_q _ _ _ _ _ true _ G1.out).mono ?_
        rintro e w1 ⟨rfl, hb⟩
        obtain ⟨⟨p0, p1, p2, p3, p4, p5⟩, q0, q1, q2, q3, q4, q5⟩ := box6_own hb
        obtain ⟨d0, d1, d2, d3, d4⟩ := box5_cells (bel_step (bel_alloc _ _) hb)
        obtain ⟨c0, c1, c2, c3, c4⟩ := box5_cells (bel_step (bel_alloc _ _) (bel_step (bel_alloc _ _) hb))
        simp only [World.size_alloc] at p0 p1 p2 p3 p4 p5 q0 q1 q2 q3 q4 q5 c0 c1 c2 c3 c4 d0 d1 d2 d3 d4
        go_wp2_with fail
        refine (IsFirst_q _ _ _ _ _ true _ G2.out).mono ?_
        rintro e w2 ⟨rfl, hb2⟩
        have hB := bel_step hb hb2
        clear p0 p1 p2 p3 p4 p5 q0 q1 q2 q3 q4 q5 c0 c1 c2 c3 c4 d0 d1 d2 d3 d4
        obtain ⟨⟨p0, p1, p2, p3, p4, p5⟩, q0, q1, q2, q3, q4, q5⟩ := box6_own hB
        obtain ⟨d0, d1, d2, d3, d4⟩ := box5_cells (bel_step (bel_alloc _ _) hB)
        obtain ⟨c0, c1, c2, c3, c4⟩ := box5_cells (bel_step (bel_alloc _ _) (bel_step (bel_alloc _ _) hB))
        simp only [World.size_alloc] at p0 p1 p2 p3 p4 p5 q0 q1 q2 q3 q4 q5 c0 c1 c2 c3 c4 d0 d1 d2 d3 d4
        have hsz : w.heap.size + 3 ≤ w2.heap.size := by have := hB.size; simp at this; omega
        have nn1 : w2.heap.size ≠ w.heap.size := by omega
        have nn2 : w2.heap.size ≠ w.heap.size + 1 := by omega
        have nn3 : w2.heap.size ≠ w.heap.size + 1 + 1 := by omega
        have hS := And.intro c0 (And.intro c1 (And.intro c2 (And.intro c3 (And.intro c4 (And.intro d0 d1)))))
        go_wp2_with fail
        go_region_held3 (fun W => W.cell? ⟨w.heap.size, 0, none⟩ = some (.int .i64 a) ∧ W.cell? ⟨w.heap.size, 1, none⟩ = some (.int .i64 (k : Int)) ∧ W.cell? ⟨w.heap.size, 2, none⟩ = some (.int .i64 mode) ∧ W.cell? ⟨w.heap.size, 3, none⟩ = some (.int .i64 (n : Int)) ∧ W.cell? ⟨w.heap.size, 4, none⟩ = some (.bool wr) ∧ W.cell? ⟨w.heap.size + 1, 0, none⟩ = some (.int .i64 a2) ∧ W.cell? ⟨w.heap.size + 1, 1, none⟩ = some (.int .i64 (k2 : Int))) (first | exact hS | assumption | go_keep) (first | fail)
        obtain ⟨t0, t1, t2, t3, t4, t5⟩ := box6_cells (Below.refl (w2.alloc (.cells #[.int .i64 A, .int .i64 D, .int .i64 K, .int .i64 mode, .int .i64 (n : Int), .bool wr] 28)).heap.size (w2.alloc (.cells #[.int .i64 A, .int .i64 D, .int .i64 K, .int .i64 mode, .int .i64 (n : Int), .bool wr] 28))).drew
        have hB3 := bel_step hB (bel_alloc w2 (.cells #[.int .i64 A, .int .i64 D, .int .i64 K, .int .i64 mode, .int .i64 (n : Int), .bool wr] 28)).drew
        clear p0 p1 p2 p3 p4 p5 q0 q1 q2 q3 q4 q5 c0 c1 c2 c3 c4 d0 d1 d2 d3 d4
        generalize (w2.alloc (.cells #[.int .i64 A, .int .i64 D, .int .i64 K, .int .i64 mode, .int .i64 (n : Int), .bool wr] 28)).drew = w3 at *
        clear hS
        go_wp2_with fail
        refine (IsSecond_q _ _ _ _ _ _ false _ G3.out).mono ?_
        rintro e w4 ⟨rfl, hb4⟩
        have hB4 := bel_step hB3 hb4
        obtain ⟨t0, t1, t2, t3, t4, t5⟩ := hb4.cells6q ⟨t0, t1, t2, t3, t4, t5⟩
        obtain ⟨⟨p0, p1, p2, p3, p4, p5⟩, q0, q1, q2, q3, q4, q5⟩ := box6_own hB4
        obtain ⟨d0, d1, d2, d3, d4⟩ := box5_cells (bel_step (bel_alloc _ _) hB4)
        obtain ⟨c0, c1, c2, c3, c4⟩ := box5_cells (bel_step (bel_alloc _ _) (bel_step (bel_alloc _ _) hB4))
        simp only [World.size_alloc] at p0 p1 p2 p3 p4 p5 q0 q1 q2 q3 q4 q5 c0 c1 c2 c3 c4 d0 d1 d2 d3 d4
        go_wp2_with fail
        have hb5 := bel_step (bel_alloc _ _) (bel_step (bel_alloc _ _) (bel_step (bel_alloc _ _) hB4))
        refine bodyPost_ret (v := .tuple #[.agg #[.int .i64 0, .int .i64 0, .int .i64 0, .int .i64 0, .int .i64 0, .bool false], .bool false]) (by simp [results, Try.results6, go_sem, p0, p1, p2, p3, p4, p5]) rfl ⟨ret_vb HZ.out HQ.out, ?_⟩
        exact ((((((hb5.setCell (by exact Nat.le_add_right _ 2) _).setCell (by exact Nat.le_add_right _ 2) _).setCell (by exact Nat.le_add_right _ 2) _).setCell (by exact Nat.le_add_right _ 2) _).setCell (by exact Nat.le_add_right _ 2) _).setCell (by exact Nat.le_add_right _ 2) _)
      · have HQ := hid (show true = sfB a k mode n a2 k2 mode2 n2 from by rw [hq0, g3])
        have HZ := hid (hv0 true HQ.out.symm).symm
        have G3 := hid g3
        clear hv0 hq0 g3
        go_enter Try.func6, Try.ntmps6
        go_wp2_with fail
        refine (IsFirst_q _ _ _ _ _ true _ G1.out).mono ?_
        rintro e w1 ⟨rfl, hb⟩
        obtain ⟨⟨p0, p1, p2, p3, p4, p5⟩, q0, q1, q2, q3, q4, q5⟩ := box6_own hb
        obtain ⟨d0, d1, d2, d3, d4⟩ := box5_cells (bel_step (bel_alloc _ _) hb)
        obtain ⟨c0, c1, c2, c3, c4⟩ := box5_cells (bel_step (bel_alloc _ _) (bel_step (bel_alloc _ _) hb))
        simp only [World.size_alloc] at p0 p1 p2 p3 p4 p5 q0 q1 q2 q3 q4 q5 c0 c1 c2 c3 c4 d0 d1 d2 d3 d4
        go_wp2_with fail
        refine (IsFirst_q _ _ _ _ _ true _ G2.out).mono ?_
        rintro e w2 ⟨rfl, hb2⟩
        have hB := bel_step hb hb2
        clear p0 p1 p2 p3 p4 p5 q0 q1 q2 q3 q4 q5 c0 c1 c2 c3 c4 d0 d1 d2 d3 d4
        obtain ⟨⟨p0, p1, p2, p3, p4, p5⟩, q0, q1, q2, q3, q4, q5⟩ := box6_own hB
        obtain ⟨d0, d1, d2, d3, d4⟩ := box5_cells (bel_step (bel_alloc _ _) hB)
        obtain ⟨c0, c1, c2, c3, c4⟩ := box5_cells (bel_step (bel_alloc _ _) (bel_step (bel_alloc _ _) hB))
        simp only [World.size_alloc] at p0 p1 p2 p3 p4 p5 q0 q1 q2 q3 q4 q5 c0 c1 c2 c3 c4 d0 d1 d2 d3 d4
        have hsz : w.heap.size + 3 ≤ w2.heap.size := by have := hB.size; simp at this; omega
        have nn1 : w2.heap.size ≠ w.heap.size := by omega
        have nn2 : w2.heap.size ≠ w.heap.size + 1 := by omega
        have nn3 : w2.heap.size ≠ w.heap.size + 1 + 1 := by omega
        have hS := And.intro c0 (And.intro c1 (And.intro c2 (And.intro c3 (And.intro c4 (And.intro d0 d1)))))
        go_wp2_with fail
        go_region_held3 (fun W => W.cell? ⟨w.heap.size, 0, none⟩ = some (.int .i64 a) ∧ W.cell? ⟨w.heap.size, 1, none⟩ = some (.int .i64 (k : Int)) ∧ W.cell? ⟨w.heap.size, 2, none⟩ = some (.int .i64 mode) ∧ W.cell? ⟨w.heap.size, 3, none⟩ = some (.int .i64 (n : Int)) ∧ W.cell? ⟨w.heap.size, 4, none⟩ = some (.bool wr) ∧ W.cell? ⟨w.heap.size + 1, 0, none⟩ = some (.int .i64 a2) ∧ W.cell? ⟨w.heap.size + 1, 1, none⟩ = some (.int .i64 (k2 : Int))) (first | exact hS | assumption | go_keep) (first | fail)
        obtain ⟨t0, t1, t2, t3, t4, t5⟩ := box6_cells (Below.refl (w2.alloc (.cells #[.int .i64 A, .int .i64 D, .int .i64 K, .int .i64 mode, .int .i64 (n : Int), .bool wr] 28)).heap.size (w2.alloc (.cells #[.int .i64 A, .int .i64 D, .int .i64 K, .int .i64 mode, .int .i64 (n : Int), .bool wr] 28))).drew
        have hB3 := bel_step hB (bel_alloc w2 (.cells #[.int .i64 A, .int .i64 D, .int .i64 K, .int .i64 mode, .int .i64 (n : Int), .bool wr] 28)).drew
        clear p0 p1 p2 p3 p4 p5 q0 q1 q2 q3 q4 q5 c0 c1 c2 c3 c4 d0 d1 d2 d3 d4
        generalize (w2.alloc (.cells #[.int .i64 A, .int .i64 D, .int .i64 K, .int .i64 mode, .int .i64 (n : Int), .bool wr] 28)).drew = w3 at *
        clear hS
        go_wp2_with fail
        refine (IsSecond_q _ _ _ _ _ _ true _ G3.out).mono ?_
        rintro e w4 ⟨rfl, hb4⟩
        have hB4 := bel_step hB3 hb4
        obtain ⟨t0, t1, t2, t3, t4, t5⟩ := hb4.cells6q ⟨t0, t1, t2, t3, t4, t5⟩
        obtain ⟨⟨p0, p1, p2, p3, p4, p5⟩, q0, q1, q2, q3, q4, q5⟩ := box6_own hB4
        obtain ⟨d0, d1, d2, d3, d4⟩ := box5_cells (bel_step (bel_alloc _ _) hB4)
        obtain ⟨c0, c1, c2, c3, c4⟩ := box5_cells (bel_step (bel_alloc _ _) (bel_step (bel_alloc _ _) hB4))
        simp only [World.size_alloc] at p0 p1 p2 p3 p4 p5 q0 q1 q2 q3 q4 q5 c0 c1 c2 c3 c4 d0 d1 d2 d3 d4
        go_wp2_with fail
        have hb3 := bel_step (bel_alloc _ _) (bel_step (bel_alloc _ _) (bel_step (bel_alloc _ _) hB4))
        refine bodyPost_ret (v := .tuple #[.agg #[.int .i64 A, .int .i64 D, .int .i64 K, .int .i64 mode, .int .i64 (n : Int), .bool wr], .bool true]) (by simp [results, Try.results6, go_sem, p0, p1, p2, p3, p4, p5]) rfl ⟨ret_vb HZ.out HQ.out, ?_⟩
        exact ((((((hb3.setCell (by exact Nat.le_add_right _ 2) _).setCell (by exact Nat.le_add_right _ 2) _).setCell (by exact Nat.le_add_right _ 2) _).setCell (by exact Nat.le_add_right _ 2) _).setCell (by exact Nat.le_add_right _ 2) _).setCell (by exact Nat.le_add_right _ 2) _)

end Go.Proofs.Ytbfadlfbamjkbaa
