
import Derived.Test.YtdgoenpkiakilaaNc
import Derived.Test.YtdgoenpkiakilaaOf
namespace Go.Proofs.Ytdgoenpkiakilaa
open Go.RowKit BitX Go.MemX Go.ShX
set_option linter.unusedVariables false


/-- the pair of a run behind so many samples -/
def runS (a d : Int) (k : Nat) (mode : Int) (n : Nat) (wd : Bool) (s : List Int) (y z : Int) : Nat → Int × Int
  | 0 => (y, z)
  | i + 1 => (stepS a d k mode n wd (at0 s i) (runS a d k mode n wd s y z i).1 (runS a d k mode n wd s y z i).2, (runS a d k mode n wd s y z i).1)
def rY (a d : Int) (k : Nat) (mode : Int) (n : Nat) (wd : Bool) (s : List Int) (y z : Int) (i : Nat) : Int := (runS a d k mode n wd s y z i).1
def rZ (a d : Int) (k : Nat) (mode : Int) (n : Nat) (wd : Bool) (s : List Int) (y z : Int) (i : Nat) : Int := (runS a d k mode n wd s y z i).2
theorem rY_zero (a d : Int) (k : Nat) (mode : Int) (n : Nat) (wd : Bool) (s : List Int) (y z : Int) : rY a d k mode n wd s y z 0 = y := rfl
theorem rZ_zero (a d : Int) (k : Nat) (mode : Int) (n : Nat) (wd : Bool) (s : List Int) (y z : Int) : rZ a d k mode n wd s y z 0 = z := rfl
theorem rY_succ (a d : Int) (k : Nat) (mode : Int) (n : Nat) (wd : Bool) (s : List Int) (y z : Int) (i : Nat) : rY a d k mode n wd s y z (i + 1) = stepS a d k mode n wd (at0 s i) (rY a d k mode n wd s y z i) (rZ a d k mode n wd s y z i) := rfl
theorem rZ_succ (a d : Int) (k : Nat) (mode : Int) (n : Nat) (wd : Bool) (s : List Int) (y z : Int) (i : Nat) : rZ a d k mode n wd s y z (i + 1) = rY a d k mode n wd s y z i := rfl
def fitS (a d : Int) (k : Nat) (mode : Int) (n : Nat) (wd : Bool) (s : List Int) (y z : Int) : Nat → Int
  | 0 => 0
  | i + 1 => fitS a d k mode n wd s y z i + neI (fitI n wd (rawS a d k mode (rY a d k mode n wd s y z i) (rZ a d k mode n wd s y z i) (at0 s i))) (rawS a d k mode (rY a d k mode n wd s y z i) (rZ a d k mode n wd s y z i) (at0 s i))
theorem fitS_succ (a d : Int) (k : Nat) (mode : Int) (n : Nat) (wd : Bool) (s : List Int) (y z : Int) (i : Nat) : fitS a d k mode n wd s y z (i + 1) = fitS a d k mode n wd s y z i + neI (fitI n wd (rawS a d k mode (rY a d k mode n wd s y z i) (rZ a d k mode n wd s y z i) (at0 s i))) (rawS a d k mode (rY a d k mode n wd s y z i) (rZ a d k mode n wd s y z i) (at0 s i)) := rfl
theorem fitS_in (a d : Int) (k : Nat) (mode : Int) (n : Nat) (wd : Bool) (s : List Int) (y z : Int) (i : Nat) : 0 ≤ fitS a d k mode n wd s y z i ∧ fitS a d k mode n wd s y z i ≤ i := by
  induction i with
  | zero => simp [fitS]
  | succ i ih => rw [fitS_succ]; unfold neI; split <;> omega
theorem runS_in {a d : Int} {k : Nat} {mode : Int} {n : Nat} {wd : Bool} {s : List Int} {y z : Int} (h : SoOk a d k mode n) (y1 : -100000 ≤ y) (y2 : y ≤ 100000) (z1 : -100000 ≤ z) (z2 : z ≤ 100000) (i : Nat) : (-100000 ≤ rY a d k mode n wd s y z i ∧ rY a d k mode n wd s y z i ≤ 100000) ∧ (-100000 ≤ rZ a d k mode n wd s y z i ∧ rZ a d k mode n wd s y z i ≤ 100000) := by
  induction i with
  | zero => exact ⟨⟨y1, y2⟩, z1, z2⟩
  | succ i ih => exact ⟨stepS_in h, ih.1⟩
def runLS (a d : Int) (k : Nat) (mode : Int) (n : Nat) (wd : Bool) (s : List Int) (y z : Int) : List Int := tab s.length fun i => rY a d k mode n wd s y z (i + 1)
theorem runLS_len (a d : Int) (k : Nat) (mode : Int) (n : Nat) (wd : Bool) (s : List Int) (y z : Int) : (runLS a d k mode n wd s y z).length = s.length := tab_len _ _
theorem rtB_as (a d k mode b y z : Int) (s : List Int) : rtB a d k mode b y z s = (atB a d k mode b y z 0 && sigB s) := by
  have h0 : smB 0 = true := by decide
  simp [rtB, atB, h0, Bool.and_assoc]
theorem rtB_n {a d k mode b y z : Int} {s : List Int} (h : rtB a d k mode b y z s = true) : ∃ kk n : Nat, k = kk ∧ b = n ∧ SoOk a d kk mode n ∧ (inW n y = true ∧ -32768 ≤ y ∧ y ≤ 32767) ∧ (inW n z = true ∧ -32768 ≤ z ∧ z ≤ 32767) ∧ SigP s := by
  rw [rtB_as, Bool.and_eq_true] at h
  obtain ⟨kk, n, rfl, rfl, ho, hy, hz, _⟩ := atB_n h.1
  exact ⟨kk, n, rfl, rfl, ho, hy, hz, of_decide_eq_true h.2⟩
def cpR (a d k mode b : Int) (wd : Bool) (y z : Int) (s : List Int) : Int := onB (rtB a d k mode b y z s) (fitS a d k.toNat mode b.toNat wd s y z s.length) 0
def r2L (a d k mode b : Int) (wd : Bool) (y z : Int) (s : List Int) : List Int := onB (rtB a d k mode b y z s) (runLS a d k.toNat mode b.toNat wd s y z) []
theorem r2L_len (a d k mode b : Int) (wd : Bool) (y z : Int) (s : List Int) (h : s.length ≤ 1048576) : (r2L a d k mode b wd y z s).length ≤ 2000000 := by
  unfold r2L onB; split
  · rw [runLS_len]; omega
  · simp


end Go.Proofs.Ytdgoenpkiakilaa
