
import Derived.Test.YtiibkkndjalodaaOi
import Derived.Test.YtiibkkndjalodaaOi
import Derived.Laws.AppendOwnNone
namespace Go.Proofs.Ytiibkkndjalodaa
open Go.RowKit BitX Go.MemX
set_option linter.unusedVariables false


theorem res_onB {E : TypeId} {B : Nat} {w : World} {v : Value} {ys : List Int} (b : Bool) (h : Res E B w v ys) : Res E B w (onB b v (.slice none 0 0)) (onB b ys []) := by
  cases b
  · exact .inl ⟨rfl, rfl⟩
  · exact h
theorem onB_len {b : Bool} {ys : List Int} {n : Nat} (h : b = true → ys.length ≤ n) : (onB b ys []).length ≤ n := by
  cases b
  · simp [onB]
  · exact h rfl


set_option maxHeartbeats 400000 in
theorem weIf_is (v : Value) (ys : List Int) (b : Bool) (w : World) (hs : Sl w v ys) (h : wgtB ys = b) :
    Calls Try.prog 15 #[v] w fun e w' => e = .returned (.tuple #[onB b v (.slice none 0 0), .bool b]) ∧ w = w' := by
  have H := hid h
  clear h
  have HS := hid hs
  clear hs
  cases b
  · go_enter Try.func15, Try.ntmps15
    go_wp2_with fail
    refine (weGood_is _ ys false _ HS.out H.out).mono ?_
    rintro e w' ⟨rfl, rfl⟩
    go_wp2
    go_ret2
    exact ⟨rfl, rfl⟩
  · go_enter Try.func15, Try.ntmps15
    go_wp2_with fail
    refine (weGood_is _ ys true _ HS.out H.out).mono ?_
    rintro e w' ⟨rfl, rfl⟩
    go_wp2
    go_ret2
    exact ⟨rfl, rfl⟩


set_option maxHeartbeats 400000 in
theorem onlyWeights_is (v : Value) (ys : List Int) (b : Bool) (w : World) (hs : Sl w v ys) (h : wgtB ys = b) :
    Calls Try.prog 20 #[v] w fun e w' => e = .returned (.tuple #[onB b v (.slice none 0 0), .bool b]) ∧ w = w' := by
  have H := hid h
  clear h
  have HS := hid hs
  clear hs
  cases b
  · go_enter Try.func20, Try.ntmps20
    go_wp2_with fail
    refine (impl_IsWeights_is _ ys false _ HS.out H.out).mono ?_
    rintro e w' ⟨rfl, rfl⟩
    go_wp2
    go_ret2
    exact ⟨rfl, rfl⟩
  · go_enter Try.func20, Try.ntmps20
    go_wp2_with fail
    refine (impl_IsWeights_is _ ys true _ HS.out H.out).mono ?_
    rintro e w' ⟨rfl, rfl⟩
    go_wp2
    go_ret2
    exact ⟨rfl, rfl⟩


end Go.Proofs.Ytiibkkndjalodaa
