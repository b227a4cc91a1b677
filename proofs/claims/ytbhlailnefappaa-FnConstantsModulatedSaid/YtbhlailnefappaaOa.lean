
import Derived.Test.YtbhlailnefappaaWg
import Derived.Test.YtbhlailnefappaaCm
import Derived.Test.YtbhlailnefappaaCc
namespace Go.Proofs.Ytbhlailnefappaa
open Go.RowKit BitX Go.MemX
set_option linter.unusedVariables false


def onB {α : Type} (b : Bool) (x y : α) : α := match b with | true => x | false => y
def wordB (b : Int) : Bool := decide (2 ≤ b ∧ b ≤ 16)
theorem wordB_t {b : Int} (h : wordB b = true) : 2 ≤ b ∧ b ≤ 16 := of_decide_eq_true h
theorem wordB_f {b : Int} (h : wordB b = false) : ¬ (2 ≤ b ∧ b ≤ 16) := of_decide_eq_false h
def shB (k : Int) : Bool := decide (0 ≤ k ∧ k ≤ 20)
def moB (mode : Int) : Bool := decide (0 ≤ mode ∧ mode ≤ 2)
theorem shB_t {k : Int} (h : shB k = true) : 0 ≤ k ∧ k ≤ 20 := of_decide_eq_true h
theorem shB_f {k : Int} (h : shB k = false) : ¬ (0 ≤ k ∧ k ≤ 20) := of_decide_eq_false h
theorem moB_t {k : Int} (h : moB k = true) : 0 ≤ k ∧ k ≤ 2 := of_decide_eq_true h
theorem moB_f {k : Int} (h : moB k = false) : ¬ (0 ≤ k ∧ k ≤ 2) := of_decide_eq_false h
def aB (a : Int) : Bool := decide (-1024 ≤ a ∧ a ≤ 1024)
def kB (k : Int) : Bool := decide (0 ≤ k ∧ k ≤ 10)
/-- a filter of the first order -/
def foB (a k mode b : Int) : Bool := aB a && (kB k && (moB mode && wordB b))
theorem foB_t {a k mode b : Int} (h : foB a k mode b = true) : (-1024 ≤ a ∧ a ≤ 1024) ∧ (0 ≤ k ∧ k ≤ 10) ∧ (0 ≤ mode ∧ mode ≤ 2) ∧ (2 ≤ b ∧ b ≤ 16) := by
  unfold foB aB kB moB wordB at h
  simp only [Bool.and_eq_true, decide_eq_true_eq] at h
  exact h
def inW (b y : Int) : Bool := decide (-(2 : Int) ^ (b.toNat - 1) ≤ y ∧ y ≤ 2 ^ (b.toNat - 1) - 1)
def smB (x : Int) : Bool := decide (-100000 ≤ x ∧ x ≤ 100000)
theorem box5_cells {w w' : World} {u0 u1 u2 u3 u4 : Value} {t : TypeId} (hb : Below (w.alloc (.cells #[u0, u1, u2, u3, u4] t)).heap.size (w.alloc (.cells #[u0, u1, u2, u3, u4] t)) w') :
    w'.cell? ⟨w.heap.size, 0, none⟩ = some u0 ∧ w'.cell? ⟨w.heap.size, 1, none⟩ = some u1 ∧ w'.cell? ⟨w.heap.size, 2, none⟩ = some u2 ∧ w'.cell? ⟨w.heap.size, 3, none⟩ = some u3 ∧ w'.cell? ⟨w.heap.size, 4, none⟩ = some u4 := by
  refine ⟨?_, ?_, ?_, ?_, ?_⟩
  all_goals rw [hb.cell (by simp), World.cell?_alloc_at _ _ _ _ rfl]; rfl
theorem box5_own {w w' : World} {u0 u1 u2 u3 u4 : Value} {t : TypeId} (hb : Below (w.alloc (.cells #[u0, u1, u2, u3, u4] t)).heap.size (w.alloc (.cells #[u0, u1, u2, u3, u4] t)) w') :
    (w'.cell? ⟨w.heap.size, 0, none⟩ = some u0 ∧ w'.cell? ⟨w.heap.size, 1, none⟩ = some u1 ∧ w'.cell? ⟨w.heap.size, 2, none⟩ = some u2 ∧ w'.cell? ⟨w.heap.size, 3, none⟩ = some u3 ∧ w'.cell? ⟨w.heap.size, 4, none⟩ = some u4) ∧
    w'.frozen? ⟨w.heap.size, 0, none⟩ = false ∧ w'.frozen? ⟨w.heap.size, 1, none⟩ = false ∧ w'.frozen? ⟨w.heap.size, 2, none⟩ = false ∧ w'.frozen? ⟨w.heap.size, 3, none⟩ = false ∧ w'.frozen? ⟨w.heap.size, 4, none⟩ = false := by
  refine ⟨box5_cells hb, ?_, ?_, ?_, ?_, ?_⟩
  all_goals (rw [hb.frozen (by simp)]; exact frozen_of_row _ _ _ #[u0, u1, u2, u3, u4] t (by show (w.heap.push _)[w.heap.size]? = _; simp))
theorem box5_own2 {w w' : World} {u0 u1 u2 u3 u4 : Value} {t : TypeId} {o : Obj} (hb : Below ((w.alloc (.cells #[u0, u1, u2, u3, u4] t)).alloc o).heap.size ((w.alloc (.cells #[u0, u1, u2, u3, u4] t)).alloc o) w') :
    (w'.cell? ⟨w.heap.size, 0, none⟩ = some u0 ∧ w'.cell? ⟨w.heap.size, 1, none⟩ = some u1 ∧ w'.cell? ⟨w.heap.size, 2, none⟩ = some u2 ∧ w'.cell? ⟨w.heap.size, 3, none⟩ = some u3 ∧ w'.cell? ⟨w.heap.size, 4, none⟩ = some u4) ∧
    w'.frozen? ⟨w.heap.size, 0, none⟩ = false ∧ w'.frozen? ⟨w.heap.size, 1, none⟩ = false ∧ w'.frozen? ⟨w.heap.size, 2, none⟩ = false ∧ w'.frozen? ⟨w.heap.size, 3, none⟩ = false ∧ w'.frozen? ⟨w.heap.size, 4, none⟩ = false :=
  box5_own (bel_step (bel_alloc _ _) hb)
theorem kB_sh {k : Int} {m : Bool} (h : kB k = true) : (shB k && m) = m := by
  have := of_decide_eq_true h
  have h2 : shB k = true := decide_eq_true (by omega)
  rw [h2]; rfl


theorem isSample_q (x : Int) (q : Bool) (w : World) (h : smB x = q) :
    Calls Try.prog 83 #[.int .i64 x] w fun e w' => e = .returned (.bool q) ∧ w = w' := by
  cases q
  · exact isSample_no x w (of_decide_eq_false h)
  · exact isSample_yes x w (of_decide_eq_true h).1 (of_decide_eq_true h).2
theorem foB_w {a k mode b : Int} (h : foB a k mode b = true) : wordB b = true := by
  have := foB_t h
  exact decide_eq_true (by omega)
def asB (a k mode b y x : Int) : Bool := foB a k mode b && (inW b y && smB x)
def crB (a k mode b y : Int) (s : List Int) : Bool := foB a k mode b && (inW b y && sigB s)
def csB (a k mode b : Int) : Bool := foB a k mode b && decide (b ≤ 10)


end Go.Proofs.Ytbhlailnefappaa
