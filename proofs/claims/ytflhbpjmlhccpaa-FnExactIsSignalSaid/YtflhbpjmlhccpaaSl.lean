
import Derived.Test.YtflhbpjmlhccpaaSf
import Derived.Test.YtflhbpjmlhccpaaCm
namespace Go.Proofs.Ytflhbpjmlhccpaa
open Go.RowKit BitX Go.MemX Go.ShX

set_option maxHeartbeats 1000000 in
theorem walk_FnExactIsSignal (w : World) (a : Option Addr) (len cap : Nat) (z : List Int) (hr : IsRow .i64 w a len cap z) :
    Calls Try.prog 3 #[.slice a len cap] w fun e w' => e = .returned (.bool true) ∧ Below w.heap.size w w' := by
  obtain ⟨hs0, hlen, _⟩ := hr.sl
  generalize z.take len = xs at hs0 hlen
  have hl : xs.length ≤ 1048576 ∨ 1048576 < len := by omega
  have Hlen := hid hlen
  clear hlen hr
  by_cases hbig : 1048576 < len
  · clear hl hs0
    go_enter Try.func3, Try.ntmps3
    go_wp2
    go_ret
    exact ⟨rfl, Below.refl _ _⟩
  · have hxl : xs.length ≤ 1048576 := by omega
    have hll : len ≤ 1048576 := by omega
    clear hl hbig
    by_cases h : SigP xs
    · have H := hid h
      clear h
      go_enter Try.func3, Try.ntmps3
      go_wp2_with fail
      refine (toIntS_any _ xs _ hs0 (by omega)).mono ?_
      rintro e w1 ⟨g1, hg1, rfl, K1, B1⟩
      go_wp2_with fail
      refine (spec_IsSignal_yes _ xs _ K1.sl H.out).mono ?_
      rintro e w' ⟨rfl, rfl⟩
      have hs1 := hs0.kept B1
      go_wp2_with fail
      refine (toIntS_any _ xs _ hs1 (by omega)).mono ?_
      rintro e w2 ⟨g2, hg2, rfl, K2, B2⟩
      go_wp2_with fail
      refine (impl_IsSignal_yes _ xs _ K2.sl (by omega) H.out).mono ?_
      rintro e w' ⟨rfl, rfl⟩
      have hs2 := hs1.kept B2
      go_wp2_with fail
      refine (toIntS_any _ xs _ hs2 (by omega)).mono ?_
      rintro e w3 ⟨g3, hg3, rfl, K3, B3⟩
      have K2' := K2.kept B3 K2.lt
      go_wp2_with fail
      refine (eqIntS_same _ _ xs _ K2'.sl K3.sl (by omega)).mono ?_
      rintro e w4 ⟨rfl, B4⟩
      go_wp2_with fail
      go_ret
      exact ⟨rfl, bel_step (bel_step (bel_step B1 B2) B3) B4⟩
    · have H := hid h
      clear h
      go_enter Try.func3, Try.ntmps3
      go_wp2_with fail
      refine (toIntS_any _ xs _ hs0 (by omega)).mono ?_
      rintro e w1 ⟨g1, hg1, rfl, K1, B1⟩
      go_wp2_with fail
      refine (spec_IsSignal_no _ xs _ K1.sl H.out).mono ?_
      rintro e w' ⟨rfl, rfl⟩
      have hs1 := hs0.kept B1
      go_wp2_with fail
      refine (toIntS_any _ xs _ hs1 (by omega)).mono ?_
      rintro e w2 ⟨g2, hg2, rfl, K2, B2⟩
      go_wp2_with fail
      refine (impl_IsSignal_no _ xs _ K2.sl H.out).mono ?_
      rintro e w' ⟨rfl, rfl⟩
      have hs2 := hs1.kept B2
      go_wp2_with fail
      refine (toIntS_any _ xs _ hs2 (by omega)).mono ?_
      rintro e w3 ⟨g3, hg3, rfl, K3, B3⟩
      have K2' := K2.kept B3 K2.lt
      go_wp2_with fail
      refine (eqIntS_same _ _ xs _ K2'.sl K3.sl (by omega)).mono ?_
      rintro e w4 ⟨rfl, B4⟩
      go_wp2_with fail
      go_ret
      exact ⟨rfl, bel_step (bel_step (bel_step B1 B2) B3) B4⟩

set_option maxHeartbeats 1000000 in
theorem walk_FnExactSumOfSignal (w : World) (a : Option Addr) (len cap : Nat) (z : List Int) (hr : IsRow .i64 w a len cap z) :
    Calls Try.prog 6 #[.slice a len cap] w fun e w' => e = .returned (.bool true) ∧ Below w.heap.size w w' := by
  obtain ⟨hs0, hlen, _⟩ := hr.sl
  generalize z.take len = xs at hs0 hlen
  have hl : xs.length ≤ 1048576 ∨ 1048576 < len := by omega
  have Hlen := hid hlen
  clear hlen hr
  by_cases hbig : 1048576 < len
  · clear hl hs0
    go_enter Try.func6, Try.ntmps6
    go_wp2
    go_ret
    exact ⟨rfl, Below.refl _ _⟩
  · have hxl : xs.length ≤ 1048576 := by omega
    have hll : len ≤ 1048576 := by omega
    clear hl hbig
    by_cases h : SigP xs
    · have H := hid h
      clear h
      go_enter Try.func6, Try.ntmps6
      go_wp2_with fail
      refine (toIntS_any _ xs _ hs0 (by omega)).mono ?_
      rintro e w1 ⟨g1, hg1, rfl, K1, B1⟩
      go_wp2_with fail
      refine (spec_SumOfSignal_yes _ xs _ K1.sl H.out).mono ?_
      rintro e w' ⟨rfl, rfl⟩
      have hs1 := hs0.kept B1
      go_wp2_with fail
      refine (toIntS_any _ xs _ hs1 (by omega)).mono ?_
      rintro e w2 ⟨g2, hg2, rfl, K2, B2⟩
      go_wp2_with fail
      refine (impl_SumOfSignal_yes _ xs _ K2.sl H.out).mono ?_
      rintro e w' ⟨rfl, rfl⟩
      have hs2 := hs1.kept B2
      go_wp2_with fail
      refine (toIntS_any _ xs _ hs2 (by omega)).mono ?_
      rintro e w3 ⟨g3, hg3, rfl, K3, B3⟩
      have K2' := K2.kept B3 K2.lt
      go_wp2_with fail
      refine (eqIntS_same _ _ xs _ K2'.sl K3.sl (by omega)).mono ?_
      rintro e w4 ⟨rfl, B4⟩
      go_wp2_with fail
      go_ret
      exact ⟨rfl, bel_step (bel_step (bel_step B1 B2) B3) B4⟩
    · have H := hid h
      clear h
      go_enter Try.func6, Try.ntmps6
      go_wp2_with fail
      refine (toIntS_any _ xs _ hs0 (by omega)).mono ?_
      rintro e w1 ⟨g1, hg1, rfl, K1, B1⟩
      go_wp2_with fail
      refine (spec_SumOfSignal_no _ xs _ K1.sl H.out).mono ?_
      rintro e w' ⟨rfl, rfl⟩
      have hs1 := hs0.kept B1
      go_wp2_with fail
      refine (toIntS_any _ xs _ hs1 (by omega)).mono ?_
      rintro e w2 ⟨g2, hg2, rfl, K2, B2⟩
      go_wp2_with fail
      refine (impl_SumOfSignal_no _ xs _ K2.sl H.out).mono ?_
      rintro e w' ⟨rfl, rfl⟩
      have hs2 := hs1.kept B2
      go_wp2_with fail
      refine (toIntS_any _ xs _ hs2 (by omega)).mono ?_
      rintro e w3 ⟨g3, hg3, rfl, K3, B3⟩
      have K2' := K2.kept B3 K2.lt
      go_wp2_with fail
      refine (eqIntS_same _ _ xs _ K2'.sl K3.sl (by omega)).mono ?_
      rintro e w4 ⟨rfl, B4⟩
      go_wp2_with fail
      go_ret
      exact ⟨rfl, bel_step (bel_step (bel_step B1 B2) B3) B4⟩

set_option maxHeartbeats 1000000 in
theorem walk_FnExactEnergyOf (w : World) (a : Option Addr) (len cap : Nat) (z : List Int) (hr : IsRow .i64 w a len cap z) :
    Calls Try.prog 7 #[.slice a len cap] w fun e w' => e = .returned (.bool true) ∧ Below w.heap.size w w' := by
  obtain ⟨hs0, hlen, _⟩ := hr.sl
  generalize z.take len = xs at hs0 hlen
  have hl : xs.length ≤ 1048576 ∨ 1048576 < len := by omega
  have Hlen := hid hlen
  clear hlen hr
  by_cases hbig : 1048576 < len
  · clear hl hs0
    go_enter Try.func7, Try.ntmps7
    go_wp2
    go_ret
    exact ⟨rfl, Below.refl _ _⟩
  · have hxl : xs.length ≤ 1048576 := by omega
    have hll : len ≤ 1048576 := by omega
    clear hl hbig
    by_cases h : SigP xs
    · have H := hid h
      clear h
      go_enter Try.func7, Try.ntmps7
      go_wp2_with fail
      refine (toIntS_any _ xs _ hs0 (by omega)).mono ?_
      rintro e w1 ⟨g1, hg1, rfl, K1, B1⟩
      go_wp2_with fail
      refine (spec_EnergyOf_yes _ xs _ K1.sl H.out.1 H.out.2).mono ?_
      rintro e w' ⟨rfl, rfl⟩
      have hs1 := hs0.kept B1
      go_wp2_with fail
      refine (toIntS_any _ xs _ hs1 (by omega)).mono ?_
      rintro e w2 ⟨g2, hg2, rfl, K2, B2⟩
      go_wp2_with fail
      refine (impl_EnergyOf_yes _ xs _ K2.sl H.out.1 H.out.2).mono ?_
      rintro e w' ⟨rfl, rfl⟩
      have hs2 := hs1.kept B2
      go_wp2_with fail
      refine (toIntS_any _ xs _ hs2 (by omega)).mono ?_
      rintro e w3 ⟨g3, hg3, rfl, K3, B3⟩
      have K2' := K2.kept B3 K2.lt
      go_wp2_with fail
      refine (eqIntS_same _ _ xs _ K2'.sl K3.sl (by omega)).mono ?_
      rintro e w4 ⟨rfl, B4⟩
      go_wp2_with fail
      go_ret
      exact ⟨rfl, bel_step (bel_step (bel_step B1 B2) B3) B4⟩
    · have H := hid h
      clear h
      go_enter Try.func7, Try.ntmps7
      go_wp2_with fail
      refine (toIntS_any _ xs _ hs0 (by omega)).mono ?_
      rintro e w1 ⟨g1, hg1, rfl, K1, B1⟩
      go_wp2_with fail
      refine (spec_EnergyOf_no _ xs _ K1.sl H.out).mono ?_
      rintro e w' ⟨rfl, rfl⟩
      have hs1 := hs0.kept B1
      go_wp2_with fail
      refine (toIntS_any _ xs _ hs1 (by omega)).mono ?_
      rintro e w2 ⟨g2, hg2, rfl, K2, B2⟩
      go_wp2_with fail
      refine (impl_EnergyOf_no _ xs _ K2.sl H.out).mono ?_
      rintro e w' ⟨rfl, rfl⟩
      have hs2 := hs1.kept B2
      go_wp2_with fail
      refine (toIntS_any _ xs _ hs2 (by omega)).mono ?_
      rintro e w3 ⟨g3, hg3, rfl, K3, B3⟩
      have K2' := K2.kept B3 K2.lt
      go_wp2_with fail
      refine (eqIntS_same _ _ xs _ K2'.sl K3.sl (by omega)).mono ?_
      rintro e w4 ⟨rfl, B4⟩
      go_wp2_with fail
      go_ret
      exact ⟨rfl, bel_step (bel_step (bel_step B1 B2) B3) B4⟩

set_option maxHeartbeats 1000000 in
theorem walk_FnExactPeakOf (w : World) (a : Option Addr) (len cap : Nat) (z : List Int) (hr : IsRow .i64 w a len cap z) :
    Calls Try.prog 8 #[.slice a len cap] w fun e w' => e = .returned (.bool true) ∧ Below w.heap.size w w' := by
  obtain ⟨hs0, hlen, _⟩ := hr.sl
  generalize z.take len = xs at hs0 hlen
  have hl : xs.length ≤ 1048576 ∨ 1048576 < len := by omega
  have Hlen := hid hlen
  clear hlen hr
  by_cases hbig : 1048576 < len
  · clear hl hs0
    go_enter Try.func8, Try.ntmps8
    go_wp2
    go_ret
    exact ⟨rfl, Below.refl _ _⟩
  · have hxl : xs.length ≤ 1048576 := by omega
    have hll : len ≤ 1048576 := by omega
    clear hl hbig
    by_cases h : SigP xs
    · have H := hid h
      clear h
      go_enter Try.func8, Try.ntmps8
      go_wp2_with fail
      refine (toIntS_any _ xs _ hs0 (by omega)).mono ?_
      rintro e w1 ⟨g1, hg1, rfl, K1, B1⟩
      go_wp2_with fail
      refine (spec_PeakOf_yes _ xs _ K1.sl H.out).mono ?_
      rintro e w' ⟨rfl, rfl⟩
      have hs1 := hs0.kept B1
      go_wp2_with fail
      refine (toIntS_any _ xs _ hs1 (by omega)).mono ?_
      rintro e w2 ⟨g2, hg2, rfl, K2, B2⟩
      go_wp2_with fail
      refine (impl_PeakOf_yes _ xs _ K2.sl H.out.1 H.out.2).mono ?_
      rintro e w' ⟨rfl, rfl⟩
      have hs2 := hs1.kept B2
      go_wp2_with fail
      refine (toIntS_any _ xs _ hs2 (by omega)).mono ?_
      rintro e w3 ⟨g3, hg3, rfl, K3, B3⟩
      have K2' := K2.kept B3 K2.lt
      go_wp2_with fail
      refine (eqIntS_same _ _ xs _ K2'.sl K3.sl (by omega)).mono ?_
      rintro e w4 ⟨rfl, B4⟩
      go_wp2_with fail
      go_ret
      exact ⟨rfl, bel_step (bel_step (bel_step B1 B2) B3) B4⟩
    · have H := hid h
      clear h
      go_enter Try.func8, Try.ntmps8
      go_wp2_with fail
      refine (toIntS_any _ xs _ hs0 (by omega)).mono ?_
      rintro e w1 ⟨g1, hg1, rfl, K1, B1⟩
      go_wp2_with fail
      refine (spec_PeakOf_no _ xs _ K1.sl H.out).mono ?_
      rintro e w' ⟨rfl, rfl⟩
      have hs1 := hs0.kept B1
      go_wp2_with fail
      refine (toIntS_any _ xs _ hs1 (by omega)).mono ?_
      rintro e w2 ⟨g2, hg2, rfl, K2, B2⟩
      go_wp2_with fail
      refine (impl_PeakOf_no _ xs _ K2.sl H.out).mono ?_
      rintro e w' ⟨rfl, rfl⟩
      have hs2 := hs1.kept B2
      go_wp2_with fail
      refine (toIntS_any _ xs _ hs2 (by omega)).mono ?_
      rintro e w3 ⟨g3, hg3, rfl, K3, B3⟩
      have K2' := K2.kept B3 K2.lt
      go_wp2_with fail
      refine (eqIntS_same _ _ xs _ K2'.sl K3.sl (by omega)).mono ?_
      rintro e w4 ⟨rfl, B4⟩
      go_wp2_with fail
      go_ret
      exact ⟨rfl, bel_step (bel_step (bel_step B1 B2) B3) B4⟩
end Go.Proofs.Ytflhbpjmlhccpaa
