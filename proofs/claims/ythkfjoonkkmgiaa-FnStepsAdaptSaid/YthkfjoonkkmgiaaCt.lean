
import Derived.Test.YthkfjoonkkmgiaaWg
import Derived.Lib.AppendZerosOnto
namespace Go.Proofs.Ythkfjoonkkmgiaa
open Go.RowKit BitX Go.MemX
set_option linter.unusedVariables false


/-- what a call leaves that hands back an empty list of its own, with room or not -/
def GivesO (w : World) (xs : List Int) (e : Ending) (w' : World) : Prop := ∃ v, e = .returned v ∧ w'.ownsRow w.heap.size 3 1 v xs.length (xs.map (Value.int .i64)) ∧ Below w.heap.size w w'
theorem news_of {w : World} {b off n cap : Nat} {xs : List Int} (hx : ∀ i x, xs[i]? = some x → w.cell? ⟨b, off + i, none⟩ = some (.int .i64 x)) : ∀ (j : Nat) (u : Value), (xs.map (Value.int .i64))[j]? = some u → w.cell? ((⟨b, off, none⟩ : Addr).add j) = some u := fun j u hu => by
  rw [List.getElem?_map] at hu
  cases hj : xs[j]? with
  | none => rw [hj] at hu; cases hu
  | some x => rw [hj] at hu; cases hu; rw [Addr.add_lit]; exact hx j x hj
theorem one_of (xs : List Int) : ∀ u ∈ xs.map (Value.int .i64), u.oneCell' = true := fun u hu => by
  obtain ⟨x, _, rfl⟩ := List.mem_map.1 hu; rfl
theorem wpList_append_run {P : Program} {w w2 : World} {ops : Array Oper} {rest : List Oper} {o : Oper} {a : Act} {Q : Exit → Act → World → Prop} (hgd : o.guard = none) (s x : Operand) (t t2 : TypeId)
    (ho : o.op = .call { callee := .builtin .append, args := #[s, x], argTypes := #[t, t2] }) (u v r : Value) (hs : a.eval s = u) (hx : a.eval x = v)
    (hrun : ∀ ty, (Builtin.append_ #[t, t2] ty #[u, v]).run P w = .ok r w2) (h : wpList P ops Q rest (a.put o.dst r) w2) : wpList P ops Q (o :: rest) a w := by
  refine wpList_plain hgd fun K hK => ?_
  unfold Oper.wp
  simp [execOp, ho, resolve, invoke, builtin, hs, hx, hrun, Result.andThen]
  exact hK _ _ h
theorem own_cut {w : World} {B : Nat} {E : TypeId} {g n cap : Nat} {xs : List Value} (h : w.ownsRow B E 1 (.slice (some ⟨g, 0, none⟩) n cap) n xs) : w.ownsRow B E 1 (.slice (some ⟨g, 0, none⟩) 0 cap) 0 [] := by
  obtain ⟨_, h | ⟨g2, cap2, cur, hv, hB, hh, hn, hm, hs, _⟩⟩ := h
  · cases h.1
  · cases hv
    exact ⟨rfl, .inr ⟨g, cap, cur, rfl, hB, hh, by omega, hm, hs, by simp⟩⟩


end Go.Proofs.Ythkfjoonkkmgiaa
