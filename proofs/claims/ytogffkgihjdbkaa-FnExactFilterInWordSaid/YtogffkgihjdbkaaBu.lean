
import Derived.Test.YtogffkgihjdbkaaBts
import Derived.Test.YtogffkgihjdbkaaBti
namespace Go.Proofs.Ytogffkgihjdbkaa
open Go.RowKit BitX Go.MemX
set_option linter.unusedVariables false


def onB {α : Type} (b : Bool) (x y : α) : α := match b with | true => x | false => y
def wordB (b : Int) : Bool := decide (2 ≤ b ∧ b ≤ 16)
theorem wordB_t {b : Int} (h : wordB b = true) : 2 ≤ b ∧ b ≤ 16 := of_decide_eq_true h
theorem wordB_f {b : Int} (h : wordB b = false) : ¬ (2 ≤ b ∧ b ≤ 16) := of_decide_eq_false h
def bnLo (xs : List Int) (b : Int) : Int := loS xs (-(2 : Int) ^ (b.toNat - 1)) ((2 : Int) ^ (b.toNat - 1) - 1) xs.length
def bnHi (xs : List Int) (b : Int) : Int := hiS xs (-(2 : Int) ^ (b.toNat - 1)) ((2 : Int) ^ (b.toNat - 1) - 1) xs.length
def bnR (xs : List Int) (b : Int) : Int := onB (wgtB xs && wordB b) (bitsR (bnLo xs b) (bnHi xs b)) 0
def bnO (xs : List Int) (b : Int) : Bool := onB (wgtB xs && wordB b) (bitsO (bnLo xs b) (bnHi xs b)) false
theorem bn_bad {xs : List Int} {b : Int} (h : (wgtB xs && wordB b) = false) : Ending.returned (.tuple #[.int .i64 0, .bool false]) = .returned (.tuple #[.int .i64 (bnR xs b), .bool (bnO xs b)]) := by
  unfold bnR bnO; rw [h]; rfl
theorem bn_good {xs : List Int} {n : Nat} (h : (wgtB xs && wordB n) = true) : bnR xs n = bitsR (loS xs (-(2 : Int) ^ (n - 1)) ((2 : Int) ^ (n - 1) - 1) xs.length) (hiS xs (-(2 : Int) ^ (n - 1)) ((2 : Int) ^ (n - 1) - 1) xs.length) ∧ bnO xs n = bitsO (loS xs (-(2 : Int) ^ (n - 1)) ((2 : Int) ^ (n - 1) - 1) xs.length) (hiS xs (-(2 : Int) ^ (n - 1)) ((2 : Int) ^ (n - 1) - 1) xs.length) := by
  unfold bnR bnO; rw [h]; exact ⟨rfl, rfl⟩


end Go.Proofs.Ytogffkgihjdbkaa
