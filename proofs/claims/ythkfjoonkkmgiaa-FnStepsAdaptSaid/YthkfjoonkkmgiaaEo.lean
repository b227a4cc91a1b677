
import Derived.Test.YthkfjoonkkmgiaaOa
import Derived.Test.YthkfjoonkkmgiaaEb
import Derived.Test.YthkfjoonkkmgiaaCt
import Derived.Laws.AppendOwnNone
namespace Go.Proofs.Ythkfjoonkkmgiaa
open Go.RowKit BitX Go.MemX Go.Ch6
set_option linter.unusedVariables false

theorem Res.form {E : TypeId} {B : Nat} {w : World} {v : Value} {xs : List Int} (h : Res E B w v xs) : (xs = [] ∧ v = .slice none 0 0) ∨ ∃ g L cap, v = .slice (some ⟨g, 0, none⟩) L cap ∧ L = xs.length ∧ L ≤ cap ∧ B ≤ g := by
  rcases h with h | ⟨g, cap, hv, hB, hr⟩
  · exact .inl h
  · exact .inr ⟨g, xs.length, cap, hv, rfl, by obtain ⟨_, _, _, h3, _⟩ := hr; exact h3, hB⟩


set_option maxHeartbeats 400000 in
theorem wdIf_is (v : Value) (ys : List Int) (b : Bool) (w : World) (hs : Sl w v ys) (h : sigB ys = b) :
    Calls Try.prog 35 #[v] w fun e w' => e = .returned (.tuple #[onB b v (.slice none 0 0), .bool b]) ∧ w = w' := by
  have H := hid h
  clear h
  have HS := hid hs
  clear hs
  cases b
  · go_enter Try.func35, Try.ntmps35
    go_wp2_with fail
    refine (wdSignal_is _ ys false _ HS.out H.out).mono ?_
    rintro e w' ⟨rfl, rfl⟩
    go_wp2
    go_ret2
    exact ⟨rfl, rfl⟩
  · go_enter Try.func35, Try.ntmps35
    go_wp2_with fail
    refine (wdSignal_is _ ys true _ HS.out H.out).mono ?_
    rintro e w' ⟨rfl, rfl⟩
    go_wp2
    go_ret2
    exact ⟨rfl, rfl⟩


set_option maxHeartbeats 400000 in
theorem onlySignal_is (v : Value) (ys : List Int) (b : Bool) (w : World) (hs : Sl w v ys) (h : sigB ys = b) :
    Calls Try.prog 33 #[v] w fun e w' => e = .returned (.tuple #[onB b v (.slice none 0 0), .bool b]) ∧ w = w' := by
  have H := hid h
  clear h
  have HS := hid hs
  clear hs
  cases b
  · go_enter Try.func33, Try.ntmps33
    go_wp2_with fail
    refine (impl_IsSignal_is _ ys false _ HS.out H.out).mono ?_
    rintro e w' ⟨rfl, rfl⟩
    go_wp2
    go_ret2
    exact ⟨rfl, rfl⟩
  · go_enter Try.func33, Try.ntmps33
    go_wp2_with fail
    refine (impl_IsSignal_is _ ys true _ HS.out H.out).mono ?_
    rintro e w' ⟨rfl, rfl⟩
    go_wp2
    go_ret2
    exact ⟨rfl, rfl⟩



end Go.Proofs.Ythkfjoonkkmgiaa
