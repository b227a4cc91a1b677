
import Derived.Test.YtnagpfkchkdiiaaUe
import Derived.Test.YtnagpfkchkdiiaaCx
import Derived.Test.YtnagpfkchkdiiaaOi
import Derived.WalkLawsBesides
namespace Go.Proofs.Ytnagpfkchkdiiaa
open Go.RowKit BitX Go.MemX Go.Ch6 Go.Ch8 FltX
set_option linter.unusedVariables false
theorem rep64 (x : Int) (hx : x.natAbs ≤ 1000000) : RepE Ieee.double (floatOfInt .f64 x) x 0 := by
  have h53 : (2 : Nat) ^ (Ieee.double.fractionBits + 1) = 9007199254740992 := by decide
  exact repE_int okp0 x (by rw [h53]; omega)
theorem back64 {P : Program} (src dst : TypeId) {a : Nat} {n : Int} (ha : Rep Ieee.double a n) (hn : n.natAbs ≤ 1000000000) (hs : (P.underlying src).isSome = true) (hd : P.underlying dst = some (.int .i64)) :
    ∀ w : World, (convert src dst (.float .f64 a)).run P w = .ok (.int .i64 n) w := fun w =>
  run_convert_float_int w src dst .f64 .i64 a n hs hd (by
    have h := rep_toInt Ieee.double ha
    unfold floatToIntVal
    have h2 : (FloatKind.f64.decode a).toInt .zero = some n := h
    rw [h2]
    have : IntKind.i64.min ≤ n ∧ n ≤ IntKind.i64.max := by
      have e1 : IntKind.i64.min = -9223372036854775808 := by decide
      have e2 : IntKind.i64.max = 9223372036854775807 := by decide
      rw [e1, e2]; omega
    simp only [if_pos this])


set_option maxHeartbeats 1000000 in
theorem bandsOf_any (x y : Int) (w : World) (x1 : -100000 ≤ x) (x2 : x ≤ 100000) (y1 : -100000 ≤ y) (y2 : y ≤ 100000) :
    Calls Try.prog 17 #[.int .i64 x, .int .i64 y] w fun e w' => ∃ re im, e = .returned (.complex .f64 re im) ∧ (Rep Ieee.double re (x + y) ∧ Rep Ieee.double im (x - y)) ∧ w = w' := by
  obtain ⟨re, im, hmul, hre, him⟩ := bands_mul (rep64 x (by omega)) (repE_neg (rep64 y (by omega))) (by omega) (by omega)
  have hm := fun w => run_complex_mul (P := Try.prog) w 32 _ _ _ _ _ _ hmul
  have HR := hid (And.intro hre him)
  clear hre him hmul
  unfold oneB at hm
  have hng : ∀ (b : Nat) (w : World), (Op.unary .neg (.float .f64 b)).run Try.prog w = .ok (.float .f64 (Op.negFloat .f64 b)) w := fun _ _ => rfl
  go_enter Try.func17, Try.ntmps17
  go_wp2
  go_ret
  exact ⟨_, _, rfl, HR.out, rfl⟩


/-- what two bands are joined to -/
def jnX (m d : Int) : Int := m + (d + d % 2) / 2
theorem jn_odd (d : Int) : d % 2 = 0 ∨ d % 2 = 1 := by omega
set_option maxHeartbeats 1000000 in
theorem joinedBands_any (m d : Int) (w : World) (x1 : -100000 ≤ m) (x2 : m ≤ 100000) (y1 : -100000 ≤ d) (y2 : d ≤ 100000) :
    Calls Try.prog 24 #[.int .i64 m, .int .i64 d] w fun e w' => e = .returned (.tuple #[.int .i64 (jnX m d), .int .i64 (jnX m d - d)]) ∧ w = w' := by
  obtain ⟨s, hs⟩ : ∃ s, s = 2 * m + d % 2 := ⟨_, rfl⟩
  obtain ⟨X, hX⟩ : ∃ X, X = jnX m d := ⟨_, rfl⟩
  have hx : s + d = 2 * X := by rw [hs, hX]; unfold jnX; omega
  have hy : d - s = 2 * (d - X) := by omega
  obtain ⟨re, im, hmul, hre, him⟩ := joined_mul (rep64 s (by rw [hs]; omega)) (rep64 d (by omega)) (by rw [hs]; omega) (by omega) hx hy
  have hm := fun w => run_complex_mul (P := Try.prog) w 32 _ _ _ _ _ _ hmul
  have b1 := back64 (P := Try.prog) 36 3 hre (by omega) (by kernel_rfl) (by kernel_rfl)
  have b2 := back64 (P := Try.prog) 36 3 him (by omega) (by kernel_rfl) (by kernel_rfl)
  unfold halfB mhalfB at hm
  have hand : ∀ [Inhabited Unit], bits BinOp.and IntKind.i64 d 1 = d % 2 := Go.Ch6.and_mask d 1 (by omega)
  have hsum : ∀ [Inhabited Unit], wrap64 (2 * m + d % 2) = s := by rw [← hs]; exact IntWalk.wrap64_in _ (by omega)
  have hsum2 : ∀ [Inhabited Unit], (2 * m + d % 2) = s := hs.symm
  have hsum3 : ∀ [Inhabited Unit], wrap64 s = s := IntWalk.wrap64_in _ (by omega)
  have hf : -(d - X) = X - d := by omega
  have hf2 : ∀ [Inhabited Unit], wrap64 (-(d - X)) = X - d := by rw [hf]; exact IntWalk.wrap64_in _ (by omega)
  have HE := hid (show wrap64 (-(d - X)) = X - d from by rw [hf]; exact IntWalk.wrap64_in _ (by omega))
  rw [← hX]
  clear hf2
  clear hre him hmul hs hX hx hy hf
  go_enter Try.func24, Try.ntmps24
  go_wp2
  go_ret2
  exact ⟨ret_ii rfl HE.out, rfl⟩

end Go.Proofs.Ytnagpfkchkdiiaa
