
import Derived.Test.YtiibkkndjalodaaUp
import Derived.Deep.RegionWith
namespace Go.MemX
open Go Go.RowKit
set_option linter.unusedVariables false
/-- the slice's address reads as these lists -/
def RdS (w : World) (a : Option Addr) (Ls : List (List Int)) : Prop := ∀ i L, Ls[i]? = some L → ∃ b off u, a = some ⟨b, off, none⟩ ∧ b < w.heap.size ∧ w.cell? ⟨b, off + i, none⟩ = some u ∧ Sl w u L
def SlS (w : World) (v : Value) (Ls : List (List Int)) : Prop := ∃ a cap, v = .slice a Ls.length cap ∧ RdS w a Ls
theorem RdS.kept {w w' : World} {a : Option Addr} {Ls : List (List Int)} (h : RdS w a Ls) (hb : Below w.heap.size w w') : RdS w' a Ls := fun i L hi => by
  obtain ⟨b, off, u, ha, hlt, hc, hs⟩ := h i L hi
  exact ⟨b, off, u, ha, Nat.lt_of_lt_of_le hlt hb.size, by rw [hb.cell (by exact hlt)]; exact hc, hs.kept hb⟩
theorem SlS.kept {w w' : World} {v : Value} {Ls : List (List Int)} (h : SlS w v Ls) (hb : Below w.heap.size w w') : SlS w' v Ls := by
  obtain ⟨a, cap, hv, hr⟩ := h
  exact ⟨a, cap, hv, hr.kept hb⟩
theorem RdS.at {P : Program} {T : TypeId} {w : World} {a : Option Addr} {Ls : List (List Int)} (h : RdS w a Ls) (n cap : Nat) (hT : P.underlying T = some (.slice (P.elem T))) (hE : ∀ w : World, (sizeOf (P.elem T)).run P w = .ok 1 w) {k : Nat} {L : List Int} (hk : Ls[k]? = some L) (hn : k < n) :
    ∃ b off u, (∀ w : World, (Instr.indexAt T (.slice a n cap) (.int .i64 (k : Int))).run P w = .ok (.pointer (some ⟨b, off, none⟩)) w) ∧ b < w.heap.size ∧ w.cell? ⟨b, off, none⟩ = some u ∧ Sl w u L := by
  obtain ⟨b, off, u, rfl, hlt, hc, hs⟩ := h k L hk
  refine ⟨b, off + k, u, fun w => ?_, hlt, hc, hs⟩
  rw [run_indexAt_slice _ _ _ _ _ _ _ hT, if_pos (by omega), hE]
  simp [Addr.add]
theorem SSr.sls {E F : TypeId} {B : Nat} {w : World} {v : Value} {vs : List Value} {xss : List (List Int)} (h : SSr E F B w v vs xss) : SlS w v xss := by
  rcases h.row with ⟨rfl, h0⟩ | ⟨g, cap, rfl, hB, hr, _⟩
  · have hx : xss = [] := List.length_eq_zero_iff.1 (by rw [← h.len, h0]; rfl)
    subst hx
    exact ⟨none, 0, rfl, fun i L hi => by simp at hi⟩
  · refine ⟨some ⟨g, 0, none⟩, cap, by rw [h.len], fun i L hi => ?_⟩
    have hil : i < vs.length := by rw [h.len]; exact (List.getElem?_eq_some_iff.1 hi).1
    have hu : vs[i]? = some vs[i] := List.getElem?_eq_getElem hil
    refine ⟨g, 0, vs[i], rfl, hr.lt, by rw [Nat.zero_add]; exact hr.cell hu, (h.each i _ L hu hi).sl⟩
/-- the first i of the lists, empty ones behind -/
def upS (Ls : List (List Int)) (i : Nat) : List (List Int) := Ls.take i ++ List.replicate (Ls.length - i) []
theorem upS_zero (Ls : List (List Int)) : upS Ls 0 = List.replicate Ls.length [] := by simp [upS]
theorem upS_full (Ls : List (List Int)) : upS Ls Ls.length = Ls := by simp [upS]
theorem upS_len (Ls : List (List Int)) (i : Nat) (h : i ≤ Ls.length) : (upS Ls i).length = Ls.length := by simp [upS]; omega
theorem upS_step {Ls : List (List Int)} {i : Nat} {L : List Int} (h : Ls[i]? = some L) : (upS Ls i).set i L = upS Ls (i + 1) := by
  have hi : i < Ls.length := (List.getElem?_eq_some_iff.1 h).1
  unfold upS
  have e : Ls.length - i = (Ls.length - (i + 1)) + 1 := by omega
  rw [List.set_append_right _ _ (by simp; omega), e, List.replicate_succ]
  have e2 : i - (Ls.take i).length = 0 := by simp; omega
  rw [e2, List.set_cons_zero, take_step Ls i L h, List.append_assoc]
  rfl
end Go.MemX
namespace Go.Proofs.Ytiibkkndjalodaa
open Go.RowKit BitX Go.MemX
set_option linter.unusedVariables false
theorem sone9 (w : World) : (sizeOf (Try.prog.elem 22)).run Try.prog w = .ok 1 w := by kernel_rfl
theorem uslice9 : Try.prog.underlying 22 = some (.slice (Try.prog.elem 22)) := by kernel_rfl

end Go.Proofs.Ytiibkkndjalodaa
