
import Derived.Test.YtbfadlfbamjkbaaNg
namespace Go.Proofs.Ytbfadlfbamjkbaa
open Go.RowKit BitX Go.MemX Go.ShX
set_option linter.unusedVariables false
theorem sf_yes {a k mode b : Int} {wr : Bool} {a2 k2 mode2 b2 : Int} (hq : sfB a k mode b a2 k2 mode2 b2 = true) : Ending.returned (.tuple #[sfV a k mode b wr a2 k2 mode2 b2, .bool (sfB a k mode b a2 k2 mode2 b2)]) = .returned (.tuple #[.agg #[.int .i64 (sfA a k a2 k2), .int .i64 (-a * a2), .int .i64 (k + k2), .int .i64 mode, .int .i64 b, .bool wr], .bool true]) := by unfold sfV; rw [hq]; rfl
theorem sf_no {a k mode b : Int} {wr : Bool} {a2 k2 mode2 b2 : Int} (hq : sfB a k mode b a2 k2 mode2 b2 = false) : Ending.returned (.tuple #[sfV a k mode b wr a2 k2 mode2 b2, .bool (sfB a k mode b a2 k2 mode2 b2)]) = .returned (.tuple #[.agg #[.int .i64 0, .int .i64 0, .int .i64 0, .int .i64 0, .int .i64 0, .bool false], .bool false]) := by unfold sfV; rw [hq]; rfl
theorem walk_FnExactSecondOfFirsts (w : World) (a k mode b : Int) (wr : Bool) (wa : (Lit.int .i64 a).wf = true) (wk : (Lit.int .i64 k).wf = true) (wm : (Lit.int .i64 mode).wf = true) (wb : (Lit.int .i64 b).wf = true) (a2 k2 mode2 b2 : Int) (wr2 : Bool) (wa2 : (Lit.int .i64 a2).wf = true) (wk2 : (Lit.int .i64 k2).wf = true) (wm2 : (Lit.int .i64 mode2).wf = true) (wb2 : (Lit.int .i64 b2).wf = true) :
    Calls Try.prog 3 #[.agg #[.int .i64 a, .int .i64 k, .int .i64 mode, .int .i64 b, .bool wr], .agg #[.int .i64 a2, .int .i64 k2, .int .i64 mode2, .int .i64 b2, .bool wr2]] w fun e w' => e = .returned (.bool true) ∧ Below w.heap.size w w' := by
  cases hq : sfB a k mode b a2 k2 mode2 b2
  · exact gen_FnExactSecondOfFirsts a k mode b wr a2 k2 mode2 b2 wr2 0 0 0 0 0 false false w (fun w => (spec_SecondOfFirsts_is a k mode b wr a2 k2 mode2 b2 wr2 w).mono fun e w' h => ⟨h.1.trans (sf_no hq), h.2⟩) (fun w => (impl_SecondOfFirsts_is a k mode b wr a2 k2 mode2 b2 wr2 w).mono fun e w' h => ⟨h.1.trans (sf_no hq), h.2⟩)
  · exact gen_FnExactSecondOfFirsts a k mode b wr a2 k2 mode2 b2 wr2 _ _ _ _ _ _ true w (fun w => (spec_SecondOfFirsts_is a k mode b wr a2 k2 mode2 b2 wr2 w).mono fun e w' h => ⟨h.1.trans (sf_yes hq), h.2⟩) (fun w => (impl_SecondOfFirsts_is a k mode b wr a2 k2 mode2 b2 wr2 w).mono fun e w' h => ⟨h.1.trans (sf_yes hq), h.2⟩)
end Go.Proofs.Ytbfadlfbamjkbaa
