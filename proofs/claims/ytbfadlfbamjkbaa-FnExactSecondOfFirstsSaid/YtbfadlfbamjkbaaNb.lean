
import Derived.Test.YtbfadlfbamjkbaaNa
import Derived.Test.YtbfadlfbamjkbaaOd
namespace Go.Proofs.Ytbfadlfbamjkbaa
open Go.RowKit BitX Go.MemX Go.ShX
set_option linter.unusedVariables false


def SoOk (a d : Int) (k : Nat) (mode : Int) (n : Nat) : Prop := FoOk a k mode n ∧ -1024 ≤ d ∧ d ≤ 1024
def rawS (a d : Int) (k : Nat) (mode y z x : Int) : Int := shiftI (a * y + d * z) k mode + x
def stepS (a d : Int) (k : Nat) (mode : Int) (n : Nat) (wd : Bool) (x y z : Int) : Int := fitI n wd (rawS a d k mode y z x)
theorem ayz_in {a d y z : Int} (a1 : -1024 ≤ a) (a2 : a ≤ 1024) (d1 : -1024 ≤ d) (d2 : d ≤ 1024) (y1 : -100000 ≤ y) (y2 : y ≤ 100000) (z1 : -100000 ≤ z) (z2 : z ≤ 100000) :
    (-102400000 ≤ a * y ∧ a * y ≤ 102400000) ∧ (-102400000 ≤ d * z ∧ d * z ≤ 102400000) := ⟨ay_in a1 a2 y1 y2, ay_in d1 d2 z1 z2⟩
theorem rawS_in {a d : Int} {k : Nat} {mode y z x : Int} {n : Nat} (h : SoOk a d k mode n) (y1 : -100000 ≤ y) (y2 : y ≤ 100000) (z1 : -100000 ≤ z) (z2 : z ≤ 100000) (x1 : -100000 ≤ x) (x2 : x ≤ 100000) : -300000000 ≤ rawS a d k mode y z x ∧ rawS a d k mode y z x ≤ 300000000 := by
  obtain ⟨⟨⟨a1, a2⟩, k1, _, _⟩, d1, d2⟩ := h
  obtain ⟨m1, m2⟩ := ayz_in a1 a2 d1 d2 y1 y2 z1 z2
  have s := shift_in (a * y + d * z) k mode 204800000 (by omega) (by omega) (by omega)
  unfold rawS; omega
theorem stepS_in {a d : Int} {k : Nat} {mode y z x : Int} {n : Nat} {wd : Bool} (h : SoOk a d k mode n) : -100000 ≤ stepS a d k mode n wd x y z ∧ stepS a d k mode n wd x y z ≤ 100000 := by
  obtain ⟨⟨_, _, _, n1, n2⟩, _⟩ := h
  exact fitI_s2 n wd _ (by omega) n2


def RawSAt (P : Program) (g : Nat) (lb : Array Value) (a d : Int) (k : Nat) (mode : Int) (w : World) : Prop :=
  ∀ (W : World) (y z x : Int), Below w.heap.size w W → -100000 ≤ y → y ≤ 100000 → -100000 ≤ z → z ≤ 100000 → -100000 ≤ x → x ≤ 100000 → Calls P g (#[.agg #[.int .i64 y, .int .i64 z], .int .i64 x] ++ lb) W fun e w' => e = .returned (.int .i64 (rawS a d k mode y z x)) ∧ Below W.heap.size W w'
/-- a function value with captured variables that goes from each pair y, z to F y z, y -/
def NextSAt (P : Program) (g : Nat) (lb : Array Value) (F : Int → Int → Int) (w : World) : Prop :=
  ∀ (W : World) (y z : Int), Below w.heap.size w W → -100000 ≤ y → y ≤ 100000 → -100000 ≤ z → z ≤ 100000 → Calls P g (#[.agg #[.int .i64 y, .int .i64 z]] ++ lb) W fun e w' => e = .returned (.agg #[.int .i64 (F y z), .int .i64 y]) ∧ Below W.heap.size W w'
theorem RawSAt.later {P : Program} {g : Nat} {lb : Array Value} {a d : Int} {k : Nat} {mode : Int} {w W : World} (h : RawSAt P g lb a d k mode w) (hb : Below w.heap.size w W) : RawSAt P g lb a d k mode W :=
  fun W' y z x hb' => h W' y z x (hb.trans (hb'.mono hb.size))
theorem NextSAt.later {P : Program} {g : Nat} {lb : Array Value} {F : Int → Int → Int} {w W : World} (h : NextSAt P g lb F w) (hb : Below w.heap.size w W) : NextSAt P g lb F W :=
  fun W' y z hb' => h W' y z (hb.trans (hb'.mono hb.size))
theorem mkFunc2 : ∀ (fn : Fn) (first cap : Array Value) (w : World), (Instr.makeFunc fn first cap).run Try.prog w = .ok (.func fn first cap) w := fun _ _ _ _ => rfl

theorem box2_own {w w' : World} {u v : Value} {t : TypeId} (hb : Below (w.alloc (.cells #[u, v] t)).heap.size (w.alloc (.cells #[u, v] t)) w') :
    (w'.cell? ⟨w.heap.size, 0, none⟩ = some u ∧ w'.cell? ⟨w.heap.size, 1, none⟩ = some v) ∧ w'.frozen? ⟨w.heap.size, 0, none⟩ = false ∧ w'.frozen? ⟨w.heap.size, 1, none⟩ = false := by
  refine ⟨box2_cells hb, ?_, ?_⟩
  all_goals (rw [hb.frozen (by simp)]; exact frozen_of_row _ _ _ #[u, v] t (by show (w.heap.push _)[w.heap.size]? = _; simp))
theorem cells4' {w W : World} {g0 g1 g2 : Nat} {a0 a1 a2 a3 : Value} (hb : Below w.heap.size w W) (h : w.cell? ⟨g0, 4, none⟩ = some a0 ∧ w.cell? ⟨g0, 5, none⟩ = some a1 ∧ w.cell? ⟨g1, 0, none⟩ = some a2 ∧ w.cell? ⟨g2, 0, none⟩ = some a3) :
    W.cell? ⟨g0, 4, none⟩ = some a0 ∧ W.cell? ⟨g0, 5, none⟩ = some a1 ∧ W.cell? ⟨g1, 0, none⟩ = some a2 ∧ W.cell? ⟨g2, 0, none⟩ = some a3 :=
  ⟨by rw [hb.cell (by exact block_lt_of_cell h.1)]; exact h.1, by rw [hb.cell (by exact block_lt_of_cell h.2.1)]; exact h.2.1, by rw [hb.cell (by exact block_lt_of_cell h.2.2.1)]; exact h.2.2.1, by rw [hb.cell (by exact block_lt_of_cell h.2.2.2)]; exact h.2.2.2⟩


theorem kc {w W : World} {g i : Nat} {v : Value} (hb : Below w.heap.size w W) (h : w.cell? ⟨g, i, none⟩ = some v) : W.cell? ⟨g, i, none⟩ = some v := by rw [hb.cell (by exact block_lt_of_cell h)]; exact h
theorem kfr {w W : World} {g i : Nat} (hb : Below w.heap.size w W) (hg : g < w.heap.size) (h : w.frozen? ⟨g, i, none⟩ = false) : W.frozen? ⟨g, i, none⟩ = false := by rw [hb.frozen (by exact hg)]; exact h
theorem cellsS {w W : World} {g0 g1 g2 gp : Nat} {a0 a1 a2 a3 a4 a5 : Value} (hb : Below w.heap.size w W) (h : (w.cell? ⟨g0, 4, none⟩ = some a0 ∧ w.cell? ⟨g0, 5, none⟩ = some a1 ∧ w.cell? ⟨g1, 0, none⟩ = some a2 ∧ w.cell? ⟨g2, 0, none⟩ = some a3) ∧ w.cell? ⟨gp, 0, none⟩ = some a4 ∧ w.cell? ⟨gp, 1, none⟩ = some a5) :
    (W.cell? ⟨g0, 4, none⟩ = some a0 ∧ W.cell? ⟨g0, 5, none⟩ = some a1 ∧ W.cell? ⟨g1, 0, none⟩ = some a2 ∧ W.cell? ⟨g2, 0, none⟩ = some a3) ∧ W.cell? ⟨gp, 0, none⟩ = some a4 ∧ W.cell? ⟨gp, 1, none⟩ = some a5 := by
  obtain ⟨⟨h0, h1, h2, h3⟩, h4, h5⟩ := h
  exact ⟨⟨kc hb h0, kc hb h1, kc hb h2, kc hb h3⟩, kc hb h4, kc hb h5⟩
theorem cellsR {w W : World} {gr : Nat} {a4 a5 : Value} (hg : gr < w.heap.size) (hb : Below w.heap.size w W) (h : (w.cell? ⟨gr, 0, none⟩ = some a4 ∧ w.cell? ⟨gr, 1, none⟩ = some a5) ∧ w.frozen? ⟨gr, 0, none⟩ = false ∧ w.frozen? ⟨gr, 1, none⟩ = false) :
    (W.cell? ⟨gr, 0, none⟩ = some a4 ∧ W.cell? ⟨gr, 1, none⟩ = some a5) ∧ W.frozen? ⟨gr, 0, none⟩ = false ∧ W.frozen? ⟨gr, 1, none⟩ = false := by
  obtain ⟨⟨h4, h5⟩, h6, h7⟩ := h
  exact ⟨⟨kc hb h4, kc hb h5⟩, kfr hb hg h6, kfr hb hg h7⟩

end Go.Proofs.Ytbfadlfbamjkbaa
