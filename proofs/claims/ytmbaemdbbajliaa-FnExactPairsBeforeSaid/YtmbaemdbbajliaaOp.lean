
import Derived.Test.YtmbaemdbbajliaaOg
namespace Go.Proofs.Ytmbaemdbbajliaa
open Go.RowKit BitX Go.MemX Go.ShX
set_option linter.unusedVariables false


def rfL (a k mode b : Int) (wd : Bool) (y : Int) (s : List Int) : List Int := onB (crB a k mode b y s) (runL a k.toNat mode b.toNat wd s y) []
theorem runL_len (a : Int) (k : Nat) (mode : Int) (n : Nat) (wd : Bool) (s : List Int) (y : Int) : (runL a k mode n wd s y).length = s.length := tab_len _ _
theorem rfL_len (a k mode b : Int) (wd : Bool) (y : Int) (s : List Int) (h : s.length ≤ 1048576) : (rfL a k mode b wd y s).length ≤ 2000000 := by
  unfold rfL onB; split
  · rw [runL_len]; omega
  · simp


def imS (n : Nat) (x : Int) : List Int := (List.replicate n 0).set 0 x
theorem imS_len (n : Nat) (x : Int) : (imS n x).length = n := by simp [imS]
theorem imS_in (n : Nat) (x : Int) (h1 : -100000 ≤ x) (h2 : x ≤ 100000) : InP (-100000) 100000 (imS n x) := by
  intro z hz
  unfold imS at hz
  rcases List.mem_or_eq_of_mem_set hz with h | h
  · have := List.eq_of_mem_replicate h; omega
  · omega
def imB (a k mode b x n : Int) : Bool := asB a k mode b 0 x && decide (0 ≤ n ∧ n ≤ 64)
def imL (a k mode b : Int) (wd : Bool) (x n : Int) : List Int := onB (imB a k mode b x n) (runL a k.toNat mode b.toNat wd (imS n.toNat x) 0) []
theorem imL_len (a k mode b : Int) (wd : Bool) (x n : Int) : (imL a k mode b wd x n).length ≤ 2000000 := by
  unfold imL onB; split
  · rename_i h
    unfold imB at h
    rw [Bool.and_eq_true] at h
    have := of_decide_eq_true h.2
    rw [runL_len, imS_len]; omega
  · simp
theorem inW_zero {b : Int} (h : wordB b = true) : inW b 0 = true := by
  obtain ⟨h1, h2⟩ := wordB_t h
  have := pow_small b.toNat (by omega) (by omega)
  exact decide_eq_true (by omega)
theorem asB_zero {a k mode b x : Int} : asB a k mode b 0 x = (foB a k mode b && smB x) := by
  unfold asB
  cases h : foB a k mode b
  · rfl
  · rw [inW_zero (foB_w h)]; rfl


end Go.Proofs.Ytmbaemdbbajliaa
