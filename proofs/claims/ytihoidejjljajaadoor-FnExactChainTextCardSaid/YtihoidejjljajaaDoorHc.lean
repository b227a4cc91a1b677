
import Derived.Test.YtihoidejjljajaaDoorHb
namespace Go.MemX
open Go Go.RowKit
set_option linter.unusedVariables false
/-- the filter marked with the numbers from q on -/
def mFo (q : Int) : Fo := ⟨q, q + 1, q + 1 + 1, q + 1 + 1 + 1, ((q + 1 + 1 + 1 + 1) % 3 == 0)⟩
/-- n filters marked with the numbers from k on -/
def mkF (k n : Nat) : List Fo := (List.range n).map fun i => mFo ((k + 5 * i : Nat) : Int)
theorem mkF_len (k n : Nat) : (mkF k n).length = n := by simp [mkF]
theorem mkF_get (k n i : Nat) (h : i < n) : (mkF k n)[i]? = some (mFo ((k + 5 * i : Nat) : Int)) := by simp [mkF, h]
/-- marked up to i, the old filters behind -/
def mFd (fs : List Fo) (k i : Nat) : List Fo := mkF k i ++ fs.drop i
theorem mFd_zero (fs : List Fo) (k : Nat) : mFd fs k 0 = fs := by simp [mFd, mkF]
theorem mFd_full (fs : List Fo) (k : Nat) : mFd fs k fs.length = mkF k fs.length := by simp [mFd]
theorem mFd_len (fs : List Fo) (k i : Nat) (h : i ≤ fs.length) : (mFd fs k i).length = fs.length := by simp [mFd, mkF_len]; omega
theorem mFd_step (fs : List Fo) (k i : Nat) (h : i < fs.length) : (mFd fs k i).set i (mFo ((k + 5 * i : Nat) : Int)) = mFd fs k (i + 1) := by
  unfold mFd
  rw [List.set_append_right _ _ (by simp [mkF_len]), mkF_len, Nat.sub_self]
  have e : mkF k (i + 1) = mkF k i ++ [mFo ((k + 5 * i : Nat) : Int)] := by simp [mkF, List.range_succ]
  rw [e, List.append_assoc]
  congr 1
  rw [List.drop_eq_getElem_cons h]; rfl
theorem FRes.form {E : TypeId} {B : Nat} {w : World} {v : Value} {fs : List Fo} (h : FRes E B w v fs) (hp : 0 < fs.length) : ∃ g cap, v = .slice (some ⟨g, 0, none⟩) fs.length cap ∧ B ≤ g ∧ FRow E w g cap fs := by
  rcases h with ⟨rfl, _⟩ | h
  · simp at hp
  · exact h
theorem FRow.res {E : TypeId} {B g cap : Nat} {w : World} {fs : List Fo} (h : FRow E w g cap fs) (hB : B ≤ g) : FRes E B w (.slice (some ⟨g, 0, none⟩) fs.length cap) fs := .inr ⟨g, cap, rfl, hB, h⟩
end Go.MemX
namespace Go.Proofs.YtihoidejjljajaaDoor
open Go.RowKit BitX Go.MemX
set_option linter.unusedVariables false


end Go.Proofs.YtihoidejjljajaaDoor
