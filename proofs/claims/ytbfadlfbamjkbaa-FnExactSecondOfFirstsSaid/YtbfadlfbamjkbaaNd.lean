
import Derived.Test.YtbfadlfbamjkbaaNc
import Derived.Test.YtbfadlfbamjkbaaAb
import Derived.Deep.QuietTactic
import Derived.BigQuiet
namespace Go.Proofs.Ytbfadlfbamjkbaa
open Go.RowKit BitX Go.MemX Go.ShX
set_option linter.unusedVariables false

theorem pow_nat (k : Nat) (h : k ≤ 10) : ∃ P : Nat, P = 2 ^ k ∧ (2 : Int) ^ k = (P : Int) ∧ 1 ≤ P ∧ P ≤ 1024 := by
  have h1 : (2 : Nat) ^ k ≤ 2 ^ 10 := Nat.pow_le_pow_right (by decide) h
  exact ⟨2 ^ k, rfl, by norm_cast, Nat.two_pow_pos _, by omega⟩
theorem ret_bb {b c d e : Bool} (h1 : b = c) (h2 : d = e) : Ending.returned (.tuple #[.bool b, .bool d]) = .returned (.tuple #[.bool c, .bool e]) := by rw [h1, h2]
theorem abs_in {a : Int} (a1 : -1024 ≤ a) (a2 : a ≤ 1024) : 0 ≤ absI a ∧ absI a ≤ 1024 := by unfold absI; omega




def trR (a d k mode b : Int) : Bool := soB a d k mode b && decide (absI d < 2 ^ k.toNat ∧ absI a < 2 ^ k.toNat - d)
def rtV (a d : Int) (k : Nat) : Int := a * a + 4 * d * 2 ^ k
def rtS (a d k mode b : Int) : ByteArray := onB (soB a d k mode b) (if 0 < rtV a d k.toNat then ⟨#[116, 119, 111]⟩ else if rtV a d k.toNat = 0 then ⟨#[111, 110, 101]⟩ else ⟨#[116, 117, 114, 110]⟩) ByteArray.empty
theorem ret_sb {s t : ByteArray} {b c : Bool} (h1 : s = t) (h2 : b = c) : Ending.returned (.tuple #[.string s, .bool b]) = .returned (.tuple #[.string t, .bool c]) := by rw [h1, h2]


end Go.Proofs.Ytbfadlfbamjkbaa
