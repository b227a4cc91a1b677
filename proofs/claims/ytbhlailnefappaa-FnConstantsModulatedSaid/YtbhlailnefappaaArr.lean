
import Derived.WalkKit
import Derived.ChangeKeysEq
import Derived.Test.YtbhlailnefappaaBit
namespace Go.ArrX
open Go Go.RowKit BitX
section
variable {P : Program} {T E : TypeId}
theorem eq_loop (d : Nat) (hE : P.underlying E = some .bool) (f g : Nat → Bool) (w : World) : ∀ (L : List Nat), (∀ i ∈ L, i < 64) →
    (do
      let r ← forIn L ((none, ()) : Option Bool × Unit) fun i (_ : Option Bool × Unit) => do
          if !(← Op.equalIn (d + 1) E (← part E (rowOf f) (i * 1)) (← part E (rowOf g) (i * 1))) then
            pure (ForInStep.done (some false, ()))
          else pure (ForInStep.yield (none, ()))
      match r.fst with
        | some b => pure b
        | none => pure true : Sem Bool).run P w = .ok (L.all fun i => f i == g i) w := by
  intro L
  induction L with
  | nil => intro _; simp
  | cons i L ih =>
    intro hL
    have hi : i < 64 := hL i (by simp)
    have ih' := ih fun j hj => hL j (by simp [hj])
    have p1 : ∀ h : Nat → Bool, (part E (rowOf h) i).run P w = .ok (.bool (h i)) w := fun h => by
      simp [part, isAgg, run_underlying hE, rowOf_get h i hi]
    have pe : (Op.equalIn (d + 1) E (.bool (f i)) (.bool (g i))).run P w = .ok (f i == g i) w := by
      simp [Op.equalIn, run_underlying hE]
    simp only [List.forIn_cons, Sem.run_bind, Nat.mul_one, p1, pe, Result.andThen_ok, List.all_cons] at ih' ⊢
    cases f i == g i
    · simp
    · simpa using ih'

theorem all_bits (v u : BitVec 64) : ((List.range' 0 64).all fun i => v.getLsbD i == u.getLsbD i) = decide (v = u) := by
  rw [Bool.eq_iff_iff, decide_eq_true_iff, List.all_eq_true]
  constructor
  · intro h
    apply BitVec.eq_of_getLsbD_eq
    intro i hi
    simpa using h i (by simp; omega)
  · intro h i _
    simp [h]

theorem run_equalIn_row (d : Nat) (hT : P.underlying T = some (.array 64 E)) (hE : P.underlying E = some .bool) (hs : ∀ w : World, (sizeOf E).run P w = .ok 1 w) (v u : BitVec 64) (w : World) :
    (Op.equalIn (d + 2) T (.agg (bitRow v)) (.agg (bitRow u))).run P w = .ok (decide (v = u)) w := by
  have h := eq_loop (P := P) (E := E) d hE v.getLsbD u.getLsbD w (List.range' 0 64) (fun i hi => by simp at hi; omega)
  rw [all_bits] at h
  rw [← h]
  rw [Op.equalIn]
  simp only [Sem.run_bind, run_underlying hT, Result.andThen_ok, hs, Std.Legacy.Range.forIn_eq_forIn_range', show ([:64] : Std.Legacy.Range).size = 64 from rfl]
  congr 1
  funext a w'
  obtain ⟨o, _⟩ := a
  cases o <;> rfl

theorem run_eql_row (hT : P.underlying T = some (.array 64 E)) (hE : P.underlying E = some .bool) (hs : ∀ w : World, (sizeOf E).run P w = .ok 1 w) (v u : BitVec 64) (w : World) :
    (binOp .eql T (.agg (bitRow v)) (.agg (bitRow u))).run P w = .ok (.bool (decide (v = u))) w := by
  have h := run_equalIn_row (P := P) 9998 hT hE hs v u w
  simp only [binOp, Op.equal, Op.maxDepth, Sem.run_bind, h, Result.andThen_ok]
  rfl

theorem run_index_row (hT : P.underlying T = some (.array 64 E)) (hE : P.underlying E = some .bool) (hs : ∀ w : World, (sizeOf E).run P w = .ok 1 w) (f : Nat → Bool) (k : Nat) (hk : k < 64) (w : World) :
    (Instr.index T (.agg (rowOf f)) (.int .i64 (k : Int))).run P w = .ok (.bool (f k)) w := by
  have h2 : 0 ≤ (k : Int) ∧ (k : Int) < (64 : Nat) := by omega
  simp only [Instr.index, asIntOf, Sem.run_bind, Sem.run_pure, Result.andThen_ok, run_underlying hT, h2]
  simp [part, isAgg, run_underlying hE, hs, rowOf_get f k hk]
end
end Go.ArrX
