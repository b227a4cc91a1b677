
import Derived.Test.YtbbfigbfkhlddaaNa
import Derived.Test.YtbbfigbfkhlddaaOd
namespace Go.Proofs.Ytbbfigbfkhlddaa
open Go.RowKit BitX Go.MemX Go.ShX
set_option linter.unusedVariables false


def SoOk (a d : Int) (k : Nat) (mode : Int) (n : Nat) : Prop := FoOk a k mode n ∧ -1024 ≤ d ∧ d ≤ 1024
def rawS (a d : Int) (k : Nat) (mode y z x : Int) : Int := shiftI (a * y + d * z) k mode + x
def stepS (a d : Int) (k : Nat) (mode : Int) (n : Nat) (wd : Bool) (x y z : Int) : Int := fitI n wd (rawS a d k mode y z x)
theorem ayz_in {a d y z : Int} (a1 : -1024 ≤ a) (a2 : a ≤ 1024) (d1 : -1024 ≤ d) (d2 : d ≤ 1024) (y1 : -100000 ≤ y) (y2 : y ≤ 100000) (z1 : -100000 ≤ z) (z2 : z ≤ 100000) :
    (-102400000 ≤ a * y ∧ a * y ≤ 102400000) ∧ (-102400000 ≤ d * z ∧ d * z ≤ 102400000) := ⟨ay_in a1 a2 y1 y2, ay_in d1 d2 z1 z2⟩
theorem rawS_in {a d : Int} {k : Nat} {mode y z x : Int} {n : Nat} (h : SoOk a d k mode n) (y1 : -100000 ≤ y) (y2 : y ≤ 100000) (z1 : -100000 ≤ z) (z2 : z ≤ 100000) (x1 : -100000 ≤ x) (x2 : x ≤ 100000) : -300000000 ≤ rawS a d k mode y z x ∧ rawS a d k mode y z x ≤ 300000000 := by
  obtain ⟨⟨⟨a1, a2⟩, k1, _, _⟩, d1, d2⟩ := h
  obtain ⟨m1, m2⟩ := ayz_in a1 a2 d1 d2 y1 y2 z1 z2
  have s := shift_in (a * y + d * z) k mode 204800000 (by omega) (by omega) (by omega)
  unfold rawS; omega
theorem stepS_in {a d : Int} {k : Nat} {mode y z x : Int} {n : Nat} {wd : Bool} (h : SoOk a d k mode n) : -100000 ≤ stepS a d k mode n wd x y z ∧ stepS a d k mode n wd x y z ≤ 100000 := by
  obtain ⟨⟨_, _, _, n1, n2⟩, _⟩ := h
  exact fitI_s2 n wd _ (by omega) n2


set_option maxHeartbeats 1000000 in
theorem sdRaw_any (a d : Int) (k : Nat) (mode : Int) (n : Nat) (wd : Bool) (y z x : Int) (w : World) (h : SoOk a d k mode n) (y1 : -100000 ≤ y) (y2 : y ≤ 100000) (z1 : -100000 ≤ z) (z2 : z ≤ 100000) (x1 : -100000 ≤ x) (x2 : x ≤ 100000) :
    Calls Try.prog 51 #[.agg #[.int .i64 a, .int .i64 d, .int .i64 (k : Int), .int .i64 mode, .int .i64 (n : Int), .bool wd], .int .i64 y, .int .i64 z, .int .i64 x] w fun e w' => e = .returned (.int .i64 (rawS a d k mode y z x)) ∧ Below w.heap.size w w' := by
  obtain ⟨⟨⟨a1, a2⟩, k1, ⟨m1, m2⟩, _⟩, d1, d2⟩ := h
  obtain ⟨⟨p1, p2⟩, p3, p4⟩ := ayz_in a1 a2 d1 d2 y1 y2 z1 z2
  obtain ⟨s1, s2⟩ := shift_in (a * y + d * z) k mode 204800000 (by omega) (by omega) (by omega)
  have hmo : mode = 0 ∨ mode = 1 ∨ mode = 2 := by omega
  have Hmo := hid hmo
  have e1 : IntKind.i64.wrap (a * y) = a * y := IntWalk.i64_in _ (by omega)
  have e2 : IntKind.i64.wrap (d * z) = d * z := IntWalk.i64_in _ (by omega)
  have e3 : IntKind.i64.wrap (a * y + d * z) = a * y + d * z := IntWalk.i64_in _ (by omega)
  clear hmo
  go_enter Try.func51, Try.ntmps51
  go_wp2_with fail
  refine (wdShift_any _ k mode _ (by omega) (by omega) (by omega) Hmo.out).mono ?_
  rintro e w' ⟨rfl, rfl⟩
  go_wp2_with fail
  go_ret
  exact ⟨ret_i rfl, bel_alloc _ _⟩

set_option maxHeartbeats 1000000 in
theorem sdStep_any (a d : Int) (k : Nat) (mode : Int) (n : Nat) (wd : Bool) (y z x : Int) (w : World) (h : SoOk a d k mode n) (y1 : -100000 ≤ y) (y2 : y ≤ 100000) (z1 : -100000 ≤ z) (z2 : z ≤ 100000) (x1 : -100000 ≤ x) (x2 : x ≤ 100000) :
    Calls Try.prog 38 #[.agg #[.int .i64 a, .int .i64 d, .int .i64 (k : Int), .int .i64 mode, .int .i64 (n : Int), .bool wd], .int .i64 y, .int .i64 z, .int .i64 x] w fun e w' => e = .returned (.int .i64 (stepS a d k mode n wd x y z)) ∧ Below w.heap.size w w' := by
  have H := hid h
  have n1 := h.1.2.2.2.1
  have n2 := h.1.2.2.2.2
  have Hs := hid (show fitI n wd (rawS a d k mode y z x) = stepS a d k mode n wd x y z from rfl)
  clear h
  go_enter Try.func38, Try.ntmps38
  go_wp2_with fail
  go_region_with (first | (go_at_call 51; refine (sdRaw_any a d k mode n wd y z x _ H.out y1 y2 z1 z2 x1 x2).mono ?_; rintro e w1 ⟨rfl, hb⟩; have B1 := bel_undrew hb; obtain ⟨c0, c1, c2, c3, c4, c5⟩ := box6_cells B1) | (go_at_call 50; refine (wdFit_any n wd _ _ (by omega) n2).mono ?_; rintro e w2 ⟨rfl, hb⟩; have B2 := bel_step B1 hb))
  all_goals go_wp2
  all_goals go_ret
  all_goals exact ⟨ret_i Hs.out, bel_step (bel_alloc _ _) B2⟩


def RawSAt (P : Program) (g : Nat) (lb : Array Value) (a d : Int) (k : Nat) (mode : Int) (w : World) : Prop :=
  ∀ (W : World) (y z x : Int), Below w.heap.size w W → -100000 ≤ y → y ≤ 100000 → -100000 ≤ z → z ≤ 100000 → -100000 ≤ x → x ≤ 100000 → Calls P g (#[.agg #[.int .i64 y, .int .i64 z], .int .i64 x] ++ lb) W fun e w' => e = .returned (.int .i64 (rawS a d k mode y z x)) ∧ Below W.heap.size W w'
/-- a function value with captured variables that goes from each pair y, z to F y z, y -/
def NextSAt (P : Program) (g : Nat) (lb : Array Value) (F : Int → Int → Int) (w : World) : Prop :=
  ∀ (W : World) (y z : Int), Below w.heap.size w W → -100000 ≤ y → y ≤ 100000 → -100000 ≤ z → z ≤ 100000 → Calls P g (#[.agg #[.int .i64 y, .int .i64 z]] ++ lb) W fun e w' => e = .returned (.agg #[.int .i64 (F y z), .int .i64 y]) ∧ Below W.heap.size W w'
theorem RawSAt.later {P : Program} {g : Nat} {lb : Array Value} {a d : Int} {k : Nat} {mode : Int} {w W : World} (h : RawSAt P g lb a d k mode w) (hb : Below w.heap.size w W) : RawSAt P g lb a d k mode W :=
  fun W' y z x hb' => h W' y z x (hb.trans (hb'.mono hb.size))
theorem NextSAt.later {P : Program} {g : Nat} {lb : Array Value} {F : Int → Int → Int} {w W : World} (h : NextSAt P g lb F w) (hb : Below w.heap.size w W) : NextSAt P g lb F W :=
  fun W' y z hb' => h W' y z (hb.trans (hb'.mono hb.size))
theorem enterU2 : Go.Proofs.Enters Try.prog 43 := enters_of Try.func43 (by kernel_rfl) rfl
theorem enterT2 : Go.Proofs.Enters Try.prog 29 := enters_of Try.func29 (by kernel_rfl) rfl
theorem mkFunc2 : ∀ (fn : Fn) (first cap : Array Value) (w : World), (Instr.makeFunc fn first cap).run Try.prog w = .ok (.func fn first cap) w := fun _ _ _ _ => rfl

set_option maxHeartbeats 1000000 in
theorem rawS_clo (gf gr : Nat) (a d : Int) (k : Nat) (mode : Int) (n : Nat) (wd : Bool) (rf : Nat) (y z x : Int) (w : World) (c0 : w.cell? ⟨gf, 0, none⟩ = some (.int .i64 a)) (c1 : w.cell? ⟨gf, 1, none⟩ = some (.int .i64 d)) (c2 : w.cell? ⟨gf, 2, none⟩ = some (.int .i64 (k : Int))) (cr : w.cell? ⟨gr, 0, none⟩ = some (.func (.func rf) #[] #[]))
    (hsh : ShAt Try.prog rf k mode) (h : SoOk a d k mode n) (y1 : -100000 ≤ y) (y2 : y ≤ 100000) (z1 : -100000 ≤ z) (z2 : z ≤ 100000) (x1 : -100000 ≤ x) (x2 : x ≤ 100000) :
    Calls Try.prog 43 #[.agg #[.int .i64 y, .int .i64 z], .int .i64 x, .pointer (some ⟨gr, 0, none⟩), .pointer (some ⟨gf, 0, none⟩)] w fun e w' => e = .returned (.int .i64 (rawS a d k mode y z x)) ∧ Below w.heap.size w w' := by
  obtain ⟨⟨⟨a1, a2⟩, k1, _, _⟩, d1, d2⟩ := h
  obtain ⟨⟨p1, p2⟩, p3, p4⟩ := ayz_in a1 a2 d1 d2 y1 y2 z1 z2
  obtain ⟨s1, s2⟩ := shift_in (a * y + d * z) k mode 204800000 (by omega) (by omega) (by omega)
  have Hs := hid hsh
  have eg := hsh.1
  have e1 : IntKind.i64.wrap (a * y) = a * y := IntWalk.i64_in _ (by omega)
  have e2 : IntKind.i64.wrap (d * z) = d * z := IntWalk.i64_in _ (by omega)
  have e3 : IntKind.i64.wrap (a * y + d * z) = a * y + d * z := IntWalk.i64_in _ (by omega)
  have B := bel_alloc w (.cells #[.int .i64 y, .int .i64 z] 48)
  rw [← B.cell (by exact block_lt_of_cell c0)] at c0
  rw [← B.cell (by exact block_lt_of_cell c1)] at c1
  rw [← B.cell (by exact block_lt_of_cell c2)] at c2
  rw [← B.cell (by exact block_lt_of_cell cr)] at cr
  clear hsh
  go_enter Try.func43, Try.ntmps43
  go_wp2_with (go_at_fn rf; refine (Hs.out.2 _ _ (by omega) (by omega)).mono ?_; rintro e w' ⟨rfl, rfl⟩)
  go_ret
  exact ⟨ret_i rfl, bel_alloc _ _⟩

set_option maxHeartbeats 1000000 in
theorem unfittedS_any (a d : Int) (k : Nat) (mode : Int) (n : Nat) (wd : Bool) (w : World) (h : SoOk a d k mode n) :
    Calls Try.prog 28 #[.agg #[.int .i64 a, .int .i64 d, .int .i64 (k : Int), .int .i64 mode, .int .i64 (n : Int), .bool wd]] w fun e w' => (∃ lb, e = .returned (.func (.func 43) #[] lb) ∧ RawSAt Try.prog 43 lb a d k mode w') ∧ Below w.heap.size w w' := by
  have H := hid h
  obtain ⟨⟨_, k1, ⟨m1, m2⟩, _⟩, _⟩ := h
  have hmf := mkFunc2
  go_enter Try.func28, Try.ntmps28
  go_wp2_with fail
  refine (rounding_is k mode _ (by omega) m1 m2).mono ?_
  rintro e w' ⟨⟨rf, rfl, hsh⟩, rfl⟩
  have Hsh := hid hsh
  clear hsh
  go_wp2
  go_ret
  have B1 := bel_alloc w (.cells #[.int .i64 a, .int .i64 d, .int .i64 (k : Int), .int .i64 mode, .int .i64 (n : Int), .bool wd] 30)
  have z1 : (w.alloc (.cells #[.int .i64 a, .int .i64 d, .int .i64 (k : Int), .int .i64 mode, .int .i64 (n : Int), .bool wd] 30)).heap.size = w.heap.size + 1 := by simp
  obtain ⟨c0, c1, c2, c3, c4, c5⟩ := box6_cells (Below.refl (w.alloc (.cells #[.int .i64 a, .int .i64 d, .int .i64 (k : Int), .int .i64 mode, .int .i64 (n : Int), .bool wd] 30)).heap.size (w.alloc (.cells #[.int .i64 a, .int .i64 d, .int .i64 (k : Int), .int .i64 mode, .int .i64 (n : Int), .bool wd] 30)))
  generalize w.alloc (.cells #[.int .i64 a, .int .i64 d, .int .i64 (k : Int), .int .i64 mode, .int .i64 (n : Int), .bool wd] 30) = w1 at *
  refine ⟨⟨_, rfl, fun W y z x hb y1 y2 z1' z2 x1 x2 => ?_⟩, bel_step B1 (bel_alloc _ _)⟩
  have B2 := bel_step (bel_alloc _ _) hb
  have q0 := c0
  rw [← B2.cell (by exact block_lt_of_cell c0)] at q0
  have q1 := c1
  rw [← B2.cell (by exact block_lt_of_cell c1)] at q1
  have q2 := c2
  rw [← B2.cell (by exact block_lt_of_cell c2)] at q2
  have q3 := box1_cell hb
  rw [z1] at q3
  exact rawS_clo _ _ a d k mode n wd rf y z x W q0 q1 q2 q3 Hsh.out H.out y1 y2 z1' z2 x1 x2


theorem box2_own {w w' : World} {u v : Value} {t : TypeId} (hb : Below (w.alloc (.cells #[u, v] t)).heap.size (w.alloc (.cells #[u, v] t)) w') :
    (w'.cell? ⟨w.heap.size, 0, none⟩ = some u ∧ w'.cell? ⟨w.heap.size, 1, none⟩ = some v) ∧ w'.frozen? ⟨w.heap.size, 0, none⟩ = false ∧ w'.frozen? ⟨w.heap.size, 1, none⟩ = false := by
  refine ⟨box2_cells hb, ?_, ?_⟩
  all_goals (rw [hb.frozen (by simp)]; exact frozen_of_row _ _ _ #[u, v] t (by show (w.heap.push _)[w.heap.size]? = _; simp))
theorem cells4' {w W : World} {g0 g1 g2 : Nat} {a0 a1 a2 a3 : Value} (hb : Below w.heap.size w W) (h : w.cell? ⟨g0, 4, none⟩ = some a0 ∧ w.cell? ⟨g0, 5, none⟩ = some a1 ∧ w.cell? ⟨g1, 0, none⟩ = some a2 ∧ w.cell? ⟨g2, 0, none⟩ = some a3) :
    W.cell? ⟨g0, 4, none⟩ = some a0 ∧ W.cell? ⟨g0, 5, none⟩ = some a1 ∧ W.cell? ⟨g1, 0, none⟩ = some a2 ∧ W.cell? ⟨g2, 0, none⟩ = some a3 :=
  ⟨by rw [hb.cell (by exact block_lt_of_cell h.1)]; exact h.1, by rw [hb.cell (by exact block_lt_of_cell h.2.1)]; exact h.2.1, by rw [hb.cell (by exact block_lt_of_cell h.2.2.1)]; exact h.2.2.1, by rw [hb.cell (by exact block_lt_of_cell h.2.2.2)]; exact h.2.2.2⟩


theorem kc {w W : World} {g i : Nat} {v : Value} (hb : Below w.heap.size w W) (h : w.cell? ⟨g, i, none⟩ = some v) : W.cell? ⟨g, i, none⟩ = some v := by rw [hb.cell (by exact block_lt_of_cell h)]; exact h
theorem kfr {w W : World} {g i : Nat} (hb : Below w.heap.size w W) (hg : g < w.heap.size) (h : w.frozen? ⟨g, i, none⟩ = false) : W.frozen? ⟨g, i, none⟩ = false := by rw [hb.frozen (by exact hg)]; exact h
theorem cellsS {w W : World} {g0 g1 g2 gp : Nat} {a0 a1 a2 a3 a4 a5 : Value} (hb : Below w.heap.size w W) (h : (w.cell? ⟨g0, 4, none⟩ = some a0 ∧ w.cell? ⟨g0, 5, none⟩ = some a1 ∧ w.cell? ⟨g1, 0, none⟩ = some a2 ∧ w.cell? ⟨g2, 0, none⟩ = some a3) ∧ w.cell? ⟨gp, 0, none⟩ = some a4 ∧ w.cell? ⟨gp, 1, none⟩ = some a5) :
    (W.cell? ⟨g0, 4, none⟩ = some a0 ∧ W.cell? ⟨g0, 5, none⟩ = some a1 ∧ W.cell? ⟨g1, 0, none⟩ = some a2 ∧ W.cell? ⟨g2, 0, none⟩ = some a3) ∧ W.cell? ⟨gp, 0, none⟩ = some a4 ∧ W.cell? ⟨gp, 1, none⟩ = some a5 := by
  obtain ⟨⟨h0, h1, h2, h3⟩, h4, h5⟩ := h
  exact ⟨⟨kc hb h0, kc hb h1, kc hb h2, kc hb h3⟩, kc hb h4, kc hb h5⟩
theorem cellsR {w W : World} {gr : Nat} {a4 a5 : Value} (hg : gr < w.heap.size) (hb : Below w.heap.size w W) (h : (w.cell? ⟨gr, 0, none⟩ = some a4 ∧ w.cell? ⟨gr, 1, none⟩ = some a5) ∧ w.frozen? ⟨gr, 0, none⟩ = false ∧ w.frozen? ⟨gr, 1, none⟩ = false) :
    (W.cell? ⟨gr, 0, none⟩ = some a4 ∧ W.cell? ⟨gr, 1, none⟩ = some a5) ∧ W.frozen? ⟨gr, 0, none⟩ = false ∧ W.frozen? ⟨gr, 1, none⟩ = false := by
  obtain ⟨⟨h4, h5⟩, h6, h7⟩ := h
  exact ⟨⟨kc hb h4, kc hb h5⟩, kfr hb hg h6, kfr hb hg h7⟩

set_option maxHeartbeats 2000000 in
theorem stepS_clo (gf gm gx g : Nat) (lb : Array Value) (eg : ∀ (args : Array Value) (w : World), (callFunc g args).run Try.prog w = .ok (.enter g args) w) (a d : Int) (k : Nat) (mode : Int) (n : Nat) (wd : Bool) (y z x : Int) (w : World)
    (c3 : w.cell? ⟨gf, 4, none⟩ = some (.int .i64 (n : Int))) (c4 : w.cell? ⟨gf, 5, none⟩ = some (.bool wd)) (cm : w.cell? ⟨gm, 0, none⟩ = some (.func (.func g) #[] lb)) (cx : w.cell? ⟨gx, 0, none⟩ = some (.int .i64 x))
    (hr : RawSAt Try.prog g lb a d k mode w) (h : SoOk a d k mode n) (y1 : -100000 ≤ y) (y2 : y ≤ 100000) (z1 : -100000 ≤ z) (z2 : z ≤ 100000) (x1 : -100000 ≤ x) (x2 : x ≤ 100000) :
    Calls Try.prog 29 #[.agg #[.int .i64 y, .int .i64 z], .pointer (some ⟨gf, 0, none⟩), .pointer (some ⟨gm, 0, none⟩), .pointer (some ⟨gx, 0, none⟩)] w fun e w' => e = .returned (.agg #[.int .i64 (stepS a d k mode n wd x y z), .int .i64 y]) ∧ Below w.heap.size w w' := by
  obtain ⟨r1, r2⟩ := rawS_in h y1 y2 z1 z2 x1 x2
  have n1 := h.1.2.2.2.1
  have n2 := h.1.2.2.2.2
  have Hr := hid hr
  have Hs := hid (show fitI n wd (rawS a d k mode y z x) = stepS a d k mode n wd x y z from rfl)
  have HB := hid (bel_step (bel_alloc w (.cells #[.int .i64 y, .int .i64 z] 48)) (bel_alloc _ (.cells #[.int .i64 0, .int .i64 0] 48)))
  have Hb1 := bel_alloc w (.cells #[.int .i64 y, .int .i64 z] 48)
  have Hb2 := bel_alloc (w.alloc (.cells #[.int .i64 y, .int .i64 z] 48)) (.cells #[.int .i64 0, .int .i64 0] 48)
  have z1 : (w.alloc (.cells #[.int .i64 y, .int .i64 z] 48)).heap.size = w.heap.size + 1 := by simp
  obtain ⟨e0, e1⟩ := box2_cells (Below.refl (w.alloc (.cells #[.int .i64 y, .int .i64 z] 48)).heap.size (w.alloc (.cells #[.int .i64 y, .int .i64 z] 48)))
  have hr0 := box2_own (Below.refl ((w.alloc (.cells #[.int .i64 y, .int .i64 z] 48)).alloc (.cells #[.int .i64 0, .int .i64 0] 48)).heap.size ((w.alloc (.cells #[.int .i64 y, .int .i64 z] 48)).alloc (.cells #[.int .i64 0, .int .i64 0] 48)))
  rw [z1] at hr0
  have HRR := hid hr0
  have Hcl : Hid ((fun W => (W.cell? ⟨gf, 4, none⟩ = some (.int .i64 (n : Int)) ∧ W.cell? ⟨gf, 5, none⟩ = some (.bool wd) ∧ W.cell? ⟨gm, 0, none⟩ = some (.func (.func g) #[] lb) ∧ W.cell? ⟨gx, 0, none⟩ = some (.int .i64 x)) ∧ W.cell? ⟨w.heap.size, 0, none⟩ = some (.int .i64 y) ∧ W.cell? ⟨w.heap.size, 1, none⟩ = some (.int .i64 z)) ((w.alloc (.cells #[.int .i64 y, .int .i64 z] 48)).alloc (.cells #[.int .i64 0, .int .i64 0] 48))) := ⟨⟨kc Hb2 (kc Hb1 c3), kc Hb2 (kc Hb1 c4), kc Hb2 (kc Hb1 cm), kc Hb2 (kc Hb1 cx)⟩, kc Hb2 e0, kc Hb2 e1⟩
  clear z1 e0 e1 hr0
  have hgr : w.heap.size + 1 < ((w.alloc (.cells #[.int .i64 y, .int .i64 z] 48)).alloc (.cells #[.int .i64 0, .int .i64 0] 48)).heap.size := by simp
  have HGR := hid hgr
  have n_f : w.heap.size + 1 ≠ gf := by have := block_lt_of_cell c3; simp at this; omega
  have n_m : w.heap.size + 1 ≠ gm := by have := block_lt_of_cell cm; simp at this; omega
  have n_x : w.heap.size + 1 ≠ gx := by have := block_lt_of_cell cx; simp at this; omega
  clear Hb1 Hb2 hgr
  clear hr h c3 c4 cm cx
  go_enter Try.func29, Try.ntmps29
  go_wp2_with fail
  have hS := Hcl.out
  go_region_held3 (fun W => (W.cell? ⟨gf, 4, none⟩ = some (.int .i64 (n : Int)) ∧ W.cell? ⟨gf, 5, none⟩ = some (.bool wd) ∧ W.cell? ⟨gm, 0, none⟩ = some (.func (.func g) #[] lb) ∧ W.cell? ⟨gx, 0, none⟩ = some (.int .i64 x)) ∧ W.cell? ⟨w.heap.size, 0, none⟩ = some (.int .i64 y) ∧ W.cell? ⟨w.heap.size, 1, none⟩ = some (.int .i64 z)) (first | exact hS | assumption | go_keep) (first | (go_at_call 30; refine (fit_any n wd (rawS a d k mode y z x) _ (by omega) n2 (by omega) (by omega)).mono ?_; rintro e w2 ⟨rfl, hb2⟩; have hB2 := hB.trans (hb2.mono hB.size); have hS := cellsS hB2 Hcl.out; obtain ⟨⟨r0, r1⟩, r2, r3⟩ := cellsR HGR.out hB2 HRR.out) | (go_at_fn g; refine ((Hr.out.later HB.out) _ y z x (Below.refl _ _).drew y1 y2 z1 z2 x1 x2).mono ?_; rintro e w1 ⟨rfl, hb⟩; have hB := (Below.refl _ _).drew.trans (hb.mono (Nat.le_refl _)); have hS := cellsS hB Hcl.out))
  rw [Hs.out]
  go_wp2_with fail
  refine bodyPost_ret (v := .agg #[.int .i64 (stepS a d k mode n wd x y z), .int .i64 y]) (by simp [results, Try.results29, go_sem, r0, r1]) rfl ⟨rfl, ?_⟩
  exact ((bel_step HB.out hB2).setCell (by exact Nat.le_add_right _ 1) _).setCell (by exact Nat.le_add_right _ 1) _

set_option maxHeartbeats 1000000 in
theorem pairStepWith_any (a d : Int) (k : Nat) (mode : Int) (n : Nat) (wd : Bool) (x : Int) (w : World) (h : SoOk a d k mode n) (x1 : -100000 ≤ x) (x2 : x ≤ 100000) :
    Calls Try.prog 18 #[.agg #[.int .i64 a, .int .i64 d, .int .i64 (k : Int), .int .i64 mode, .int .i64 (n : Int), .bool wd], .int .i64 x] w fun e w' => (∃ lb, e = .returned (.func (.func 29) #[] lb) ∧ NextSAt Try.prog 29 lb (stepS a d k mode n wd x) w') ∧ Below w.heap.size w w' := by
  have H := hid h
  have hmf := mkFunc2
  clear h
  go_enter Try.func18, Try.ntmps18
  go_wp2_with fail
  refine (unfittedS_any a d k mode n wd _ H.out).mono ?_
  rintro e w3 ⟨⟨lb, rfl, hr⟩, hb⟩
  have Hr := hid hr
  clear hr
  go_wp2
  go_ret
  have z1 : (w.alloc (.cells #[.int .i64 a, .int .i64 d, .int .i64 (k : Int), .int .i64 mode, .int .i64 (n : Int), .bool wd] 30)).heap.size = w.heap.size + 1 := by simp
  obtain ⟨c0, c1, c2, c3, c4, c5⟩ := box6_cells (bel_step (bel_alloc _ _) hb)
  have cx := box1_cell hb
  rw [z1] at cx
  have B3 := bel_step (bel_alloc _ _) (bel_step (bel_alloc _ _) hb)
  clear hb
  refine ⟨⟨_, rfl, fun W y z hb y1 y2 z1' z2 => ?_⟩, bel_step B3 (bel_alloc _ _)⟩
  have B4 := bel_step (bel_alloc _ _) hb
  have cm := box1_cell hb
  rw [← B4.cell (by exact block_lt_of_cell c4)] at c4
  rw [← B4.cell (by exact block_lt_of_cell c5)] at c5
  rw [← B4.cell (by exact block_lt_of_cell cx)] at cx
  exact stepS_clo _ _ _ _ lb enterU2 a d k mode n wd y z x W c4 c5 cm cx (Hr.out.later B4) H.out y1 y2 z1' z2 x1 x2

end Go.Proofs.Ytbbfigbfkhlddaa
