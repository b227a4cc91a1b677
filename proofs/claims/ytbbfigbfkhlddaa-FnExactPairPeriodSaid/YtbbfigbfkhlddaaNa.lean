
import Derived.Test.YtbbfigbfkhlddaaOa
namespace Go.Proofs.Ytbbfigbfkhlddaa
open Go.RowKit BitX Go.MemX
set_option linter.unusedVariables false


/-- a filter of the second order -/
def soB (a d k mode b : Int) : Bool := foB a k mode b && aB d
theorem soB_f {a d k mode b : Int} (h : soB a d k mode b = true) : foB a k mode b = true := by unfold soB at h; rw [Bool.and_eq_true] at h; exact h.1
theorem soB_d {a d k mode b : Int} (h : soB a d k mode b = true) : -1024 ≤ d ∧ d ≤ 1024 := by unfold soB at h; rw [Bool.and_eq_true] at h; exact of_decide_eq_true h.2
theorem soB_w {a d k mode b : Int} (h : soB a d k mode b = true) : wordB b = true := foB_w (soB_f h)
theorem box6_cells {w w' : World} {u0 u1 u2 u3 u4 u5 : Value} {t : TypeId} (hb : Below (w.alloc (.cells #[u0, u1, u2, u3, u4, u5] t)).heap.size (w.alloc (.cells #[u0, u1, u2, u3, u4, u5] t)) w') :
    w'.cell? ⟨w.heap.size, 0, none⟩ = some u0 ∧ w'.cell? ⟨w.heap.size, 1, none⟩ = some u1 ∧ w'.cell? ⟨w.heap.size, 2, none⟩ = some u2 ∧ w'.cell? ⟨w.heap.size, 3, none⟩ = some u3 ∧ w'.cell? ⟨w.heap.size, 4, none⟩ = some u4 ∧ w'.cell? ⟨w.heap.size, 5, none⟩ = some u5 := by
  refine ⟨?_, ?_, ?_, ?_, ?_, ?_⟩
  all_goals rw [hb.cell (by simp), World.cell?_alloc_at _ _ _ _ rfl]; rfl
theorem box6_own {w w' : World} {u0 u1 u2 u3 u4 u5 : Value} {t : TypeId} (hb : Below (w.alloc (.cells #[u0, u1, u2, u3, u4, u5] t)).heap.size (w.alloc (.cells #[u0, u1, u2, u3, u4, u5] t)) w') :
    (w'.cell? ⟨w.heap.size, 0, none⟩ = some u0 ∧ w'.cell? ⟨w.heap.size, 1, none⟩ = some u1 ∧ w'.cell? ⟨w.heap.size, 2, none⟩ = some u2 ∧ w'.cell? ⟨w.heap.size, 3, none⟩ = some u3 ∧ w'.cell? ⟨w.heap.size, 4, none⟩ = some u4 ∧ w'.cell? ⟨w.heap.size, 5, none⟩ = some u5) ∧
    w'.frozen? ⟨w.heap.size, 0, none⟩ = false ∧ w'.frozen? ⟨w.heap.size, 1, none⟩ = false ∧ w'.frozen? ⟨w.heap.size, 2, none⟩ = false ∧ w'.frozen? ⟨w.heap.size, 3, none⟩ = false ∧ w'.frozen? ⟨w.heap.size, 4, none⟩ = false ∧ w'.frozen? ⟨w.heap.size, 5, none⟩ = false := by
  refine ⟨box6_cells hb, ?_, ?_, ?_, ?_, ?_, ?_⟩
  all_goals (rw [hb.frozen (by simp)]; exact frozen_of_row _ _ _ #[u0, u1, u2, u3, u4, u5] t (by show (w.heap.push _)[w.heap.size]? = _; simp))
theorem box6_own2 {w w' : World} {u0 u1 u2 u3 u4 u5 : Value} {t : TypeId} {o : Obj} (hb : Below ((w.alloc (.cells #[u0, u1, u2, u3, u4, u5] t)).alloc o).heap.size ((w.alloc (.cells #[u0, u1, u2, u3, u4, u5] t)).alloc o) w') :
    (w'.cell? ⟨w.heap.size, 0, none⟩ = some u0 ∧ w'.cell? ⟨w.heap.size, 1, none⟩ = some u1 ∧ w'.cell? ⟨w.heap.size, 2, none⟩ = some u2 ∧ w'.cell? ⟨w.heap.size, 3, none⟩ = some u3 ∧ w'.cell? ⟨w.heap.size, 4, none⟩ = some u4 ∧ w'.cell? ⟨w.heap.size, 5, none⟩ = some u5) ∧
    w'.frozen? ⟨w.heap.size, 0, none⟩ = false ∧ w'.frozen? ⟨w.heap.size, 1, none⟩ = false ∧ w'.frozen? ⟨w.heap.size, 2, none⟩ = false ∧ w'.frozen? ⟨w.heap.size, 3, none⟩ = false ∧ w'.frozen? ⟨w.heap.size, 4, none⟩ = false ∧ w'.frozen? ⟨w.heap.size, 5, none⟩ = false :=
  box6_own (bel_step (bel_alloc _ _) hb)
theorem _root_.Go.RowKit.Below.cells6q {w W : World} {g : Nat} {a0 a1 a2 a3 a4 a5 : Value} (hb : Below w.heap.size w W) (h : w.cell? ⟨g, 0, none⟩ = some a0 ∧ w.cell? ⟨g, 1, none⟩ = some a1 ∧ w.cell? ⟨g, 2, none⟩ = some a2 ∧ w.cell? ⟨g, 3, none⟩ = some a3 ∧ w.cell? ⟨g, 4, none⟩ = some a4 ∧ w.cell? ⟨g, 5, none⟩ = some a5) :
    W.cell? ⟨g, 0, none⟩ = some a0 ∧ W.cell? ⟨g, 1, none⟩ = some a1 ∧ W.cell? ⟨g, 2, none⟩ = some a2 ∧ W.cell? ⟨g, 3, none⟩ = some a3 ∧ W.cell? ⟨g, 4, none⟩ = some a4 ∧ W.cell? ⟨g, 5, none⟩ = some a5 :=
  ⟨by rw [hb.cell (by exact block_lt_of_cell h.1)]; exact h.1, by rw [hb.cell (by exact block_lt_of_cell h.2.1)]; exact h.2.1, by rw [hb.cell (by exact block_lt_of_cell h.2.2.1)]; exact h.2.2.1, by rw [hb.cell (by exact block_lt_of_cell h.2.2.2.1)]; exact h.2.2.2.1, by rw [hb.cell (by exact block_lt_of_cell h.2.2.2.2.1)]; exact h.2.2.2.2.1, by rw [hb.cell (by exact block_lt_of_cell h.2.2.2.2.2)]; exact h.2.2.2.2.2⟩


set_option maxHeartbeats 1000000 in
theorem toSecond_any (a d k mode b : Int) (wr : Bool) (w : World) :
    Calls Try.prog 6 #[.agg #[.int .i64 a, .int .i64 d, .int .i64 k, .int .i64 mode, .int .i64 b, .bool wr]] w fun e w' => e = .returned (.agg #[.int .i64 a, .int .i64 d, .int .i64 k, .int .i64 mode, .int .i64 b, .bool wr]) ∧ Below w.heap.size w w' := by
  go_enter Try.func6, Try.ntmps6
  go_wp2_with fail
  refine (toWord_any _ _ _).mono ?_
  rintro e w1 ⟨rfl, hb⟩
  obtain ⟨⟨p0, p1, p2, p3, p4, p5⟩, q0, q1, q2, q3, q4, q5⟩ := box6_own hb
  obtain ⟨⟨r0, r1, r2, r3, r4, r5⟩, s0, s1, s2, s3, s4, s5⟩ := box6_own2 hb
  simp only [World.size_alloc] at p0 p1 p2 p3 p4 p5 q0 q1 q2 q3 q4 q5 r0 r1 r2 r3 r4 r5 s0 s1 s2 s3 s4 s5
  have hb' := bel_step (bel_alloc _ _) (bel_step (bel_alloc _ _) (bel_step (bel_alloc _ _) hb))
  have hsz : w.heap.size + 3 ≤ w1.heap.size := by have := hb.size; simp at this; omega
  go_wp2_with fail
  refine bodyPost_ret (v := .agg #[.int .i64 a, .int .i64 d, .int .i64 k, .int .i64 mode, .int .i64 b, .bool wr]) (by simp [results, Try.results6, go_sem, r0, r1, r2, r3, r4, r5]) rfl ⟨rfl, ?_⟩
  exact (((((((hb'.setCell (by exact Nat.le_add_right _ 2) _).setCell (by exact Nat.le_add_right _ 2) _).setCell (by exact Nat.le_add_right _ 1) _).setCell (by exact Nat.le_add_right _ 1) _).setCell (by exact Nat.le_add_right _ 1) _).setCell (by exact Nat.le_add_right _ 1) _).setCell (by exact Nat.le_add_right _ 1) _).setCell (by exact Nat.le_add_right _ 1) _


set_option maxHeartbeats 1000000 in
theorem sdGood_is (a d k mode b : Int) (wr : Bool) (w : World) :
    Calls Try.prog 21 #[.agg #[.int .i64 a, .int .i64 d, .int .i64 k, .int .i64 mode, .int .i64 b, .bool wr]] w fun e w' => e = .returned (.bool (soB a d k mode b)) ∧ Below w.heap.size w w' := by
  cases g0 : aB a
  · have G0 := hid g0
    clear g0
    go_enter Try.func21, Try.ntmps21
    go_wp2_with fail
    refine (l1In_is _ _ _ false _ G0.out).mono ?_
    rintro e w' ⟨rfl, rfl⟩
    go_wp2_with fail
    go_ret
    exact ⟨ret_b (by simp [soB, foB, G0.out]), bel_alloc _ _⟩
  · cases g1 : aB d
    · have G0 := hid g0
      clear g0
      have G1 := hid g1
      clear g1
      go_enter Try.func21, Try.ntmps21
      go_wp2_with fail
      refine (l1In_is _ _ _ true _ G0.out).mono ?_
      rintro e w' ⟨rfl, rfl⟩
      go_wp2_with fail
      refine (l1In_is _ _ _ false _ G1.out).mono ?_
      rintro e w' ⟨rfl, rfl⟩
      go_wp2_with fail
      go_ret
      exact ⟨ret_b (by simp [soB, foB, G0.out, G1.out]), bel_alloc _ _⟩
    · cases g2 : kB k
      · have G0 := hid g0
        clear g0
        have G1 := hid g1
        clear g1
        have G2 := hid g2
        clear g2
        go_enter Try.func21, Try.ntmps21
        go_wp2_with fail
        refine (l1In_is _ _ _ true _ G0.out).mono ?_
        rintro e w' ⟨rfl, rfl⟩
        go_wp2_with fail
        refine (l1In_is _ _ _ true _ G1.out).mono ?_
        rintro e w' ⟨rfl, rfl⟩
        go_wp2_with fail
        refine (l1In_is _ _ _ false _ G2.out).mono ?_
        rintro e w' ⟨rfl, rfl⟩
        go_wp2_with fail
        go_ret
        exact ⟨ret_b (by simp [soB, foB, G0.out, G1.out, G2.out]), bel_alloc _ _⟩
      · cases g3 : moB mode
        · have G0 := hid g0
          clear g0
          have G1 := hid g1
          clear g1
          have G2 := hid g2
          clear g2
          have G3 := hid g3
          clear g3
          go_enter Try.func21, Try.ntmps21
          go_wp2_with fail
          refine (l1In_is _ _ _ true _ G0.out).mono ?_
          rintro e w' ⟨rfl, rfl⟩
          go_wp2_with fail
          refine (l1In_is _ _ _ true _ G1.out).mono ?_
          rintro e w' ⟨rfl, rfl⟩
          go_wp2_with fail
          refine (l1In_is _ _ _ true _ G2.out).mono ?_
          rintro e w' ⟨rfl, rfl⟩
          go_wp2_with fail
          refine (wdMode_isq _ _ false _ (by rw [kB_sh G2.out]; exact G3.out)).mono ?_
          rintro e w' ⟨rfl, rfl⟩
          go_wp2_with fail
          go_ret
          exact ⟨ret_b (by simp [soB, foB, G0.out, G1.out, G2.out, G3.out]), bel_alloc _ _⟩
        · cases g4 : wordB b
          · have G0 := hid g0
            clear g0
            have G1 := hid g1
            clear g1
            have G2 := hid g2
            clear g2
            have G3 := hid g3
            clear g3
            have G4 := hid g4
            clear g4
            go_enter Try.func21, Try.ntmps21
            go_wp2_with fail
            refine (l1In_is _ _ _ true _ G0.out).mono ?_
            rintro e w' ⟨rfl, rfl⟩
            go_wp2_with fail
            refine (l1In_is _ _ _ true _ G1.out).mono ?_
            rintro e w' ⟨rfl, rfl⟩
            go_wp2_with fail
            refine (l1In_is _ _ _ true _ G2.out).mono ?_
            rintro e w' ⟨rfl, rfl⟩
            go_wp2_with fail
            refine (wdMode_isq _ _ true _ (by rw [kB_sh G2.out]; exact G3.out)).mono ?_
            rintro e w' ⟨rfl, rfl⟩
            go_wp2_with fail
            refine (wdGood_is _ _ false _ G4.out).mono ?_
            rintro e w1 ⟨rfl, hb⟩
            have B1 := hb
            obtain ⟨c1_0, c1_1, c1_2, c1_3, c1_4, c1_5⟩ := box6_cells B1
            go_wp2_with fail
            go_ret
            exact ⟨ret_b (by simp [soB, foB, G0.out, G1.out, G2.out, G3.out, G4.out]), bel_step (bel_alloc _ _) B1⟩
          · have G0 := hid g0
            clear g0
            have G1 := hid g1
            clear g1
            have G2 := hid g2
            clear g2
            have G3 := hid g3
            clear g3
            have G4 := hid g4
            clear g4
            go_enter Try.func21, Try.ntmps21
            go_wp2_with fail
            refine (l1In_is _ _ _ true _ G0.out).mono ?_
            rintro e w' ⟨rfl, rfl⟩
            go_wp2_with fail
            refine (l1In_is _ _ _ true _ G1.out).mono ?_
            rintro e w' ⟨rfl, rfl⟩
            go_wp2_with fail
            refine (l1In_is _ _ _ true _ G2.out).mono ?_
            rintro e w' ⟨rfl, rfl⟩
            go_wp2_with fail
            refine (wdMode_isq _ _ true _ (by rw [kB_sh G2.out]; exact G3.out)).mono ?_
            rintro e w' ⟨rfl, rfl⟩
            go_wp2_with fail
            refine (wdGood_is _ _ true _ G4.out).mono ?_
            rintro e w1 ⟨rfl, hb⟩
            have B1 := hb
            obtain ⟨c2_0, c2_1, c2_2, c2_3, c2_4, c2_5⟩ := box6_cells B1
            go_wp2_with fail
            go_ret
            exact ⟨ret_b (by simp [soB, foB, G0.out, G1.out, G2.out, G3.out, G4.out]), bel_step (bel_alloc _ _) B1⟩


set_option maxHeartbeats 1000000 in
theorem IsSecond_is (a d k mode b : Int) (wr : Bool) (w : World) :
    Calls Try.prog 25 #[.agg #[.int .i64 a, .int .i64 d, .int .i64 k, .int .i64 mode, .int .i64 b, .bool wr]] w fun e w' => e = .returned (.bool (soB a d k mode b)) ∧ Below w.heap.size w w' := by
  cases g : foB a k mode b
  · have G := hid g
    clear g
    go_enter Try.func25, Try.ntmps25
    go_wp2_with fail
    refine (IsFirst_q _ _ _ _ _ false _ G.out).mono ?_
    rintro e w1 ⟨rfl, hb⟩
    go_wp2_with fail
    go_ret
    exact ⟨ret_b (by simp [soB, G.out]), bel_step (bel_alloc _ _) (bel_step (bel_alloc _ _) hb)⟩
  · have G := hid g
    clear g
    by_cases h1 : d < -1024
    · have HD := hid (show aB d = false from decide_eq_false (by omega))
      go_enter Try.func25, Try.ntmps25
      go_wp2_with fail
      refine (IsFirst_q _ _ _ _ _ true _ G.out).mono ?_
      rintro e w1 ⟨rfl, hb⟩
      obtain ⟨c0, c1, c2, c3, c4, c5⟩ := box6_cells (bel_step (bel_alloc _ _) hb)
      go_wp2_with fail
      go_ret
      exact ⟨ret_b (by simp [soB, G.out, HD.out] <;> omega), bel_step (bel_alloc _ _) (bel_step (bel_alloc _ _) hb)⟩
    · have h1' : -1024 ≤ d := by omega
      clear h1
      by_cases h2 : 1024 < d
      · have HD := hid (show aB d = false from decide_eq_false (by omega))
        go_enter Try.func25, Try.ntmps25
        go_wp2_with fail
        refine (IsFirst_q _ _ _ _ _ true _ G.out).mono ?_
        rintro e w1 ⟨rfl, hb⟩
        obtain ⟨c0, c1, c2, c3, c4, c5⟩ := box6_cells (bel_step (bel_alloc _ _) hb)
        go_wp2_with fail
        go_ret
        exact ⟨ret_b (by simp [soB, G.out, HD.out] <;> omega), bel_step (bel_alloc _ _) (bel_step (bel_alloc _ _) hb)⟩
      · have h2' : d ≤ 1024 := by omega
        have HD := hid (show aB d = true from decide_eq_true (by omega))
        clear h2
        go_enter Try.func25, Try.ntmps25
        go_wp2_with fail
        refine (IsFirst_q _ _ _ _ _ true _ G.out).mono ?_
        rintro e w1 ⟨rfl, hb⟩
        obtain ⟨c0, c1, c2, c3, c4, c5⟩ := box6_cells (bel_step (bel_alloc _ _) hb)
        go_wp2_with fail
        go_ret
        exact ⟨ret_b (by simp [soB, G.out, HD.out] <;> omega), bel_step (bel_alloc _ _) (bel_step (bel_alloc _ _) hb)⟩

theorem sdGood_q (a d k mode b : Int) (wr : Bool) (q : Bool) (w : World) (h : soB a d k mode b = q) :
    Calls Try.prog 21 #[.agg #[.int .i64 a, .int .i64 d, .int .i64 k, .int .i64 mode, .int .i64 b, .bool wr]] w fun e w' => e = .returned (.bool q) ∧ Below w.heap.size w w' := h ▸ sdGood_is a d k mode b wr w
theorem IsSecond_q (a d k mode b : Int) (wr : Bool) (q : Bool) (w : World) (h : soB a d k mode b = q) :
    Calls Try.prog 25 #[.agg #[.int .i64 a, .int .i64 d, .int .i64 k, .int .i64 mode, .int .i64 b, .bool wr]] w fun e w' => e = .returned (.bool q) ∧ Below w.heap.size w w' := h ▸ IsSecond_is a d k mode b wr w
/-- asked for: a filter, a pair, a sample -/
def atB (a d k mode b y z x : Int) : Bool := soB a d k mode b && (inW b y && (inW b z && smB x))
def rtB (a d k mode b y z : Int) (s : List Int) : Bool := soB a d k mode b && (inW b y && (inW b z && sigB s))
def scB (a d k mode b : Int) : Bool := soB a d k mode b && decide (b ≤ 6)


set_option maxHeartbeats 1000000 in
theorem sdAsked_is (a d k mode b : Int) (wr : Bool) (y z x : Int) (w : World) :
    Calls Try.prog 13 #[.agg #[.int .i64 a, .int .i64 d, .int .i64 k, .int .i64 mode, .int .i64 b, .bool wr], .int .i64 y, .int .i64 z, .int .i64 x] w fun e w' => e = .returned (.bool (atB a d k mode b y z x)) ∧ Below w.heap.size w w' := by
  cases g0 : soB a d k mode b
  · have G0 := hid g0
    clear g0
    go_enter Try.func13, Try.ntmps13
    go_wp2_with fail
    refine (sdGood_q _ _ _ _ _ _ false _ G0.out).mono ?_
    rintro e w1 ⟨rfl, hb⟩
    have B1 := hb
    obtain ⟨c1_0, c1_1, c1_2, c1_3, c1_4, c1_5⟩ := box6_cells B1
    go_wp2_with fail
    go_ret
    exact ⟨ret_b (by simp [atB, G0.out]), bel_step (bel_alloc _ _) B1⟩
  · cases g1 : inW b y
    · have G0 := hid g0
      clear g0
      have G1 := hid g1
      clear g1
      go_enter Try.func13, Try.ntmps13
      go_wp2_with fail
      refine (sdGood_q _ _ _ _ _ _ true _ G0.out).mono ?_
      rintro e w1 ⟨rfl, hb⟩
      have B1 := hb
      obtain ⟨c2_0, c2_1, c2_2, c2_3, c2_4, c2_5⟩ := box6_cells B1
      go_wp2_with fail
      refine (wdIn_q _ _ _ false _ (soB_w G0.out) G1.out).mono ?_
      rintro e w2 ⟨rfl, hb⟩
      have B2 := bel_step B1 hb
      obtain ⟨c3_0, c3_1, c3_2, c3_3, c3_4, c3_5⟩ := box6_cells B2
      go_wp2_with fail
      go_ret
      exact ⟨ret_b (by simp [atB, G0.out, G1.out]), bel_step (bel_alloc _ _) B2⟩
    · cases g2 : inW b z
      · have G0 := hid g0
        clear g0
        have G1 := hid g1
        clear g1
        have G2 := hid g2
        clear g2
        go_enter Try.func13, Try.ntmps13
        go_wp2_with fail
        refine (sdGood_q _ _ _ _ _ _ true _ G0.out).mono ?_
        rintro e w1 ⟨rfl, hb⟩
        have B1 := hb
        obtain ⟨c4_0, c4_1, c4_2, c4_3, c4_4, c4_5⟩ := box6_cells B1
        go_wp2_with fail
        refine (wdIn_q _ _ _ true _ (soB_w G0.out) G1.out).mono ?_
        rintro e w2 ⟨rfl, hb⟩
        have B2 := bel_step B1 hb
        obtain ⟨c5_0, c5_1, c5_2, c5_3, c5_4, c5_5⟩ := box6_cells B2
        go_wp2_with fail
        refine (wdIn_q _ _ _ false _ (soB_w G0.out) G2.out).mono ?_
        rintro e w3 ⟨rfl, hb⟩
        have B3 := bel_step B2 hb
        obtain ⟨c6_0, c6_1, c6_2, c6_3, c6_4, c6_5⟩ := box6_cells B3
        go_wp2_with fail
        go_ret
        exact ⟨ret_b (by simp [atB, G0.out, G1.out, G2.out]), bel_step (bel_alloc _ _) B3⟩
      · cases g3 : smB x
        · have G0 := hid g0
          clear g0
          have G1 := hid g1
          clear g1
          have G2 := hid g2
          clear g2
          have G3 := hid g3
          clear g3
          go_enter Try.func13, Try.ntmps13
          go_wp2_with fail
          refine (sdGood_q _ _ _ _ _ _ true _ G0.out).mono ?_
          rintro e w1 ⟨rfl, hb⟩
          have B1 := hb
          obtain ⟨c7_0, c7_1, c7_2, c7_3, c7_4, c7_5⟩ := box6_cells B1
          go_wp2_with fail
          refine (wdIn_q _ _ _ true _ (soB_w G0.out) G1.out).mono ?_
          rintro e w2 ⟨rfl, hb⟩
          have B2 := bel_step B1 hb
          obtain ⟨c8_0, c8_1, c8_2, c8_3, c8_4, c8_5⟩ := box6_cells B2
          go_wp2_with fail
          refine (wdIn_q _ _ _ true _ (soB_w G0.out) G2.out).mono ?_
          rintro e w3 ⟨rfl, hb⟩
          have B3 := bel_step B2 hb
          obtain ⟨c9_0, c9_1, c9_2, c9_3, c9_4, c9_5⟩ := box6_cells B3
          go_wp2_with fail
          refine (l1In_is _ _ _ false _ G3.out).mono ?_
          rintro e w' ⟨rfl, rfl⟩
          go_wp2_with fail
          go_ret
          exact ⟨ret_b (by simp [atB, G0.out, G1.out, G2.out, G3.out]), bel_step (bel_alloc _ _) B3⟩
        · have G0 := hid g0
          clear g0
          have G1 := hid g1
          clear g1
          have G2 := hid g2
          clear g2
          have G3 := hid g3
          clear g3
          go_enter Try.func13, Try.ntmps13
          go_wp2_with fail
          refine (sdGood_q _ _ _ _ _ _ true _ G0.out).mono ?_
          rintro e w1 ⟨rfl, hb⟩
          have B1 := hb
          obtain ⟨c10_0, c10_1, c10_2, c10_3, c10_4, c10_5⟩ := box6_cells B1
          go_wp2_with fail
          refine (wdIn_q _ _ _ true _ (soB_w G0.out) G1.out).mono ?_
          rintro e w2 ⟨rfl, hb⟩
          have B2 := bel_step B1 hb
          obtain ⟨c11_0, c11_1, c11_2, c11_3, c11_4, c11_5⟩ := box6_cells B2
          go_wp2_with fail
          refine (wdIn_q _ _ _ true _ (soB_w G0.out) G2.out).mono ?_
          rintro e w3 ⟨rfl, hb⟩
          have B3 := bel_step B2 hb
          obtain ⟨c12_0, c12_1, c12_2, c12_3, c12_4, c12_5⟩ := box6_cells B3
          go_wp2_with fail
          refine (l1In_is _ _ _ true _ G3.out).mono ?_
          rintro e w' ⟨rfl, rfl⟩
          go_wp2_with fail
          go_ret
          exact ⟨ret_b (by simp [atB, G0.out, G1.out, G2.out, G3.out]), bel_step (bel_alloc _ _) B3⟩


set_option maxHeartbeats 1000000 in
theorem canStepPair_is (a d k mode b : Int) (wr : Bool) (y z x : Int) (y1 : -9223372036854775808 ≤ y) (y2 : y ≤ 9223372036854775807) (z1 : -9223372036854775808 ≤ z) (z2 : z ≤ 9223372036854775807) (w : World) :
    Calls Try.prog 16 #[.agg #[.int .i64 a, .int .i64 d, .int .i64 k, .int .i64 mode, .int .i64 b, .bool wr], .int .i64 y, .int .i64 z, .int .i64 x] w fun e w' => e = .returned (.bool (atB a d k mode b y z x)) ∧ Below w.heap.size w w' := by
  cases g0 : soB a d k mode b
  · have G0 := hid g0
    clear g0
    go_enter Try.func16, Try.ntmps16
    go_wp2_with fail
    refine (IsSecond_q _ _ _ _ _ _ false _ G0.out).mono ?_
    rintro e w1 ⟨rfl, hb⟩
    have B1 := hb
    obtain ⟨c1_0, c1_1, c1_2, c1_3, c1_4, c1_5⟩ := box6_cells B1
    go_wp2_with fail
    go_ret
    exact ⟨ret_b (by simp [atB, G0.out]), bel_step (bel_alloc _ _) B1⟩
  · cases g1 : inW b y
    · have G0 := hid g0
      clear g0
      have G1 := hid g1
      clear g1
      go_enter Try.func16, Try.ntmps16
      go_wp2_with fail
      refine (IsSecond_q _ _ _ _ _ _ true _ G0.out).mono ?_
      rintro e w1 ⟨rfl, hb⟩
      have B1 := hb
      obtain ⟨c2_0, c2_1, c2_2, c2_3, c2_4, c2_5⟩ := box6_cells B1
      go_wp2_with fail
      refine (isIn_q _ _ _ false _ (soB_w G0.out) y1 y2 G1.out).mono ?_
      rintro e w2 ⟨rfl, hb⟩
      have B2 := bel_step B1 hb
      obtain ⟨c3_0, c3_1, c3_2, c3_3, c3_4, c3_5⟩ := box6_cells B2
      go_wp2_with fail
      go_ret
      exact ⟨ret_b (by simp [atB, G0.out, G1.out]), bel_step (bel_alloc _ _) B2⟩
    · cases g2 : inW b z
      · have G0 := hid g0
        clear g0
        have G1 := hid g1
        clear g1
        have G2 := hid g2
        clear g2
        go_enter Try.func16, Try.ntmps16
        go_wp2_with fail
        refine (IsSecond_q _ _ _ _ _ _ true _ G0.out).mono ?_
        rintro e w1 ⟨rfl, hb⟩
        have B1 := hb
        obtain ⟨c4_0, c4_1, c4_2, c4_3, c4_4, c4_5⟩ := box6_cells B1
        go_wp2_with fail
        refine (isIn_q _ _ _ true _ (soB_w G0.out) y1 y2 G1.out).mono ?_
        rintro e w2 ⟨rfl, hb⟩
        have B2 := bel_step B1 hb
        obtain ⟨c5_0, c5_1, c5_2, c5_3, c5_4, c5_5⟩ := box6_cells B2
        go_wp2_with fail
        refine (isIn_q _ _ _ false _ (soB_w G0.out) z1 z2 G2.out).mono ?_
        rintro e w3 ⟨rfl, hb⟩
        have B3 := bel_step B2 hb
        obtain ⟨c6_0, c6_1, c6_2, c6_3, c6_4, c6_5⟩ := box6_cells B3
        go_wp2_with fail
        go_ret
        exact ⟨ret_b (by simp [atB, G0.out, G1.out, G2.out]), bel_step (bel_alloc _ _) B3⟩
      · cases g3 : smB x
        · have G0 := hid g0
          clear g0
          have G1 := hid g1
          clear g1
          have G2 := hid g2
          clear g2
          have G3 := hid g3
          clear g3
          go_enter Try.func16, Try.ntmps16
          go_wp2_with fail
          refine (IsSecond_q _ _ _ _ _ _ true _ G0.out).mono ?_
          rintro e w1 ⟨rfl, hb⟩
          have B1 := hb
          obtain ⟨c7_0, c7_1, c7_2, c7_3, c7_4, c7_5⟩ := box6_cells B1
          go_wp2_with fail
          refine (isIn_q _ _ _ true _ (soB_w G0.out) y1 y2 G1.out).mono ?_
          rintro e w2 ⟨rfl, hb⟩
          have B2 := bel_step B1 hb
          obtain ⟨c8_0, c8_1, c8_2, c8_3, c8_4, c8_5⟩ := box6_cells B2
          go_wp2_with fail
          refine (isIn_q _ _ _ true _ (soB_w G0.out) z1 z2 G2.out).mono ?_
          rintro e w3 ⟨rfl, hb⟩
          have B3 := bel_step B2 hb
          obtain ⟨c9_0, c9_1, c9_2, c9_3, c9_4, c9_5⟩ := box6_cells B3
          go_wp2_with fail
          refine (isSample_q _ false _ G3.out).mono ?_
          rintro e w' ⟨rfl, rfl⟩
          go_wp2_with fail
          go_ret
          exact ⟨ret_b (by simp [atB, G0.out, G1.out, G2.out, G3.out]), bel_step (bel_alloc _ _) B3⟩
        · have G0 := hid g0
          clear g0
          have G1 := hid g1
          clear g1
          have G2 := hid g2
          clear g2
          have G3 := hid g3
          clear g3
          go_enter Try.func16, Try.ntmps16
          go_wp2_with fail
          refine (IsSecond_q _ _ _ _ _ _ true _ G0.out).mono ?_
          rintro e w1 ⟨rfl, hb⟩
          have B1 := hb
          obtain ⟨c10_0, c10_1, c10_2, c10_3, c10_4, c10_5⟩ := box6_cells B1
          go_wp2_with fail
          refine (isIn_q _ _ _ true _ (soB_w G0.out) y1 y2 G1.out).mono ?_
          rintro e w2 ⟨rfl, hb⟩
          have B2 := bel_step B1 hb
          obtain ⟨c11_0, c11_1, c11_2, c11_3, c11_4, c11_5⟩ := box6_cells B2
          go_wp2_with fail
          refine (isIn_q _ _ _ true _ (soB_w G0.out) z1 z2 G2.out).mono ?_
          rintro e w3 ⟨rfl, hb⟩
          have B3 := bel_step B2 hb
          obtain ⟨c12_0, c12_1, c12_2, c12_3, c12_4, c12_5⟩ := box6_cells B3
          go_wp2_with fail
          refine (isSample_q _ true _ G3.out).mono ?_
          rintro e w' ⟨rfl, rfl⟩
          go_wp2_with fail
          go_ret
          exact ⟨ret_b (by simp [atB, G0.out, G1.out, G2.out, G3.out]), bel_step (bel_alloc _ _) B3⟩


theorem sdAsked_q (a d k mode b : Int) (wr : Bool) (y z x : Int) (q : Bool) (w : World) (h : atB a d k mode b y z x = q) :
    Calls Try.prog 13 #[.agg #[.int .i64 a, .int .i64 d, .int .i64 k, .int .i64 mode, .int .i64 b, .bool wr], .int .i64 y, .int .i64 z, .int .i64 x] w fun e w' => e = .returned (.bool q) ∧ Below w.heap.size w w' := h ▸ sdAsked_is a d k mode b wr y z x w
theorem canStepPair_q (a d k mode b : Int) (wr : Bool) (y z x : Int) (q : Bool) (w : World) (y1 : -9223372036854775808 ≤ y) (y2 : y ≤ 9223372036854775807) (z1 : -9223372036854775808 ≤ z) (z2 : z ≤ 9223372036854775807) (h : atB a d k mode b y z x = q) :
    Calls Try.prog 16 #[.agg #[.int .i64 a, .int .i64 d, .int .i64 k, .int .i64 mode, .int .i64 b, .bool wr], .int .i64 y, .int .i64 z, .int .i64 x] w fun e w' => e = .returned (.bool q) ∧ Below w.heap.size w w' := h ▸ canStepPair_is a d k mode b wr y z x y1 y2 z1 z2 w
end Go.Proofs.Ytbbfigbfkhlddaa
