
import Derived.Test.YtflhbpjmlhccpaaCu
namespace Go.Proofs.Ytflhbpjmlhccpaa
open Go.RowKit BitX Go.MemX Go.ShX

set_option maxHeartbeats 1600000 in
theorem walk_FnExactCountUnfit (w : World) (b : Int) (wb : Bool) (_ : (Lit.int .i64 b).wf = true) (a : Option Addr) (len cap : Nat) (z : List Int) (hr : IsRow .i64 w a len cap z) :
    Calls Try.prog 5 #[.agg #[.int .i64 b, .bool wb], .slice a len cap] w fun e w' => e = .returned (.bool true) ∧ Below w.heap.size w w' := by
  obtain ⟨hs0, hlen, _⟩ := hr.sl
  generalize z.take len = xs at hs0 hlen
  have hl : xs.length ≤ 1048576 ∨ 1048576 < len := by omega
  have Hlen := hid hlen
  clear hlen hr
  by_cases hbig : 1048576 < len
  · clear hl hs0
    go_enter Try.func5, Try.ntmps5
    go_wp2
    go_ret
    exact ⟨rfl, bel_alloc _ _⟩
  · have hxl : xs.length ≤ 1048576 := by omega
    have hll : len ≤ 1048576 := by omega
    clear hl hbig
    by_cases hg : 2 ≤ b ∧ b ≤ 16
    · obtain ⟨m, rfl⟩ := Int.eq_ofNat_of_zero_le (show 0 ≤ b by omega)
      have h1 : 2 ≤ m := by omega
      have h2 : m ≤ 16 := by omega
      clear hg
      by_cases h : SigP xs
      · have H := hid h
        clear h
        go_enter Try.func5, Try.ntmps5
        go_wp2_with fail
        refine (toWord_any _ _ _).mono ?_
        rintro e w1 ⟨rfl, B1⟩
        go_wp2_with fail
        refine (toIntS_any _ xs _ (hs0.kept (bel_step (bel_alloc w _) B1)) (by omega)).mono ?_
        rintro e w2 ⟨g1, hg1, rfl, K1, hb⟩
        have B2 := bel_step B1 hb
        go_wp2_with fail
        refine (spec_CountUnfit_yes m _ xs wb _ h1 h2 K1.sl H.out).mono ?_
        rintro e w3 ⟨rfl, hb⟩
        have B3 := bel_step B2 hb
        obtain ⟨c3, d3⟩ := box2_cells B3
        go_wp2_with fail
        refine (toIntS_any _ xs _ (hs0.kept (bel_step (bel_alloc w _) B3)) (by omega)).mono ?_
        rintro e w4 ⟨g2, hg2, rfl, K2, hb⟩
        have B4 := bel_step B3 hb
        obtain ⟨c4, d4⟩ := box2_cells B4
        go_wp2_with fail
        refine (toWord_any _ _ _).mono ?_
        rintro e w5 ⟨rfl, hb⟩
        have B5 := bel_step B4 hb
        have K25 := K2.kept hb K2.lt
        go_wp2_with fail
        refine (impl_CountUnfit_yes m _ xs wb _ h1 h2 K25.sl H.out).mono ?_
        rintro e w6 ⟨rfl, hb⟩
        have B6 := bel_step B5 hb
        have K26 := K25.kept hb K25.lt
        go_wp2_with fail
        refine (toIntS_any _ xs _ (hs0.kept (bel_step (bel_alloc w _) B6)) (by omega)).mono ?_
        rintro e w7 ⟨g3, hg3, rfl, K3, hb⟩
        have B7 := bel_step B6 hb
        have K27 := K26.kept hb K26.lt
        go_wp2_with fail
        refine (eqIntS_same _ _ xs _ K27.sl K3.sl (by omega)).mono ?_
        rintro e w8 ⟨rfl, hb⟩
        go_wp2_with fail
        go_ret
        exact ⟨rfl, bel_step (bel_alloc _ _) (bel_step B7 hb)⟩
      · have H := hid h
        clear h
        go_enter Try.func5, Try.ntmps5
        go_wp2_with fail
        refine (toWord_any _ _ _).mono ?_
        rintro e w1 ⟨rfl, B1⟩
        go_wp2_with fail
        refine (toIntS_any _ xs _ (hs0.kept (bel_step (bel_alloc w _) B1)) (by omega)).mono ?_
        rintro e w2 ⟨g1, hg1, rfl, K1, hb⟩
        have B2 := bel_step B1 hb
        go_wp2_with fail
        refine (spec_CountUnfit_no m _ xs wb _ h1 h2 K1.sl H.out).mono ?_
        rintro e w3 ⟨rfl, hb⟩
        have B3 := bel_step B2 hb
        obtain ⟨c3, d3⟩ := box2_cells B3
        go_wp2_with fail
        refine (toIntS_any _ xs _ (hs0.kept (bel_step (bel_alloc w _) B3)) (by omega)).mono ?_
        rintro e w4 ⟨g2, hg2, rfl, K2, hb⟩
        have B4 := bel_step B3 hb
        obtain ⟨c4, d4⟩ := box2_cells B4
        go_wp2_with fail
        refine (toWord_any _ _ _).mono ?_
        rintro e w5 ⟨rfl, hb⟩
        have B5 := bel_step B4 hb
        have K25 := K2.kept hb K2.lt
        go_wp2_with fail
        refine (impl_CountUnfit_no m _ xs wb _ h1 h2 K25.sl H.out).mono ?_
        rintro e w6 ⟨rfl, hb⟩
        have B6 := bel_step B5 hb
        have K26 := K25.kept hb K25.lt
        go_wp2_with fail
        refine (toIntS_any _ xs _ (hs0.kept (bel_step (bel_alloc w _) B6)) (by omega)).mono ?_
        rintro e w7 ⟨g3, hg3, rfl, K3, hb⟩
        have B7 := bel_step B6 hb
        have K27 := K26.kept hb K26.lt
        go_wp2_with fail
        refine (eqIntS_same _ _ xs _ K27.sl K3.sl (by omega)).mono ?_
        rintro e w8 ⟨rfl, hb⟩
        go_wp2_with fail
        go_ret
        exact ⟨rfl, bel_step (bel_alloc _ _) (bel_step B7 hb)⟩
    · have H := hid hg
      clear hg
      go_enter Try.func5, Try.ntmps5
      go_wp2_with fail
      refine (toWord_any _ _ _).mono ?_
      rintro e w1 ⟨rfl, B1⟩
      go_wp2_with fail
      refine (toIntS_any _ xs _ (hs0.kept (bel_step (bel_alloc w _) B1)) (by omega)).mono ?_
      rintro e w2 ⟨g1, hg1, rfl, K1, hb⟩
      have B2 := bel_step B1 hb
      go_wp2_with fail
      refine (spec_CountUnfit_bad b _ wb _ H.out).mono ?_
      rintro e w3 ⟨rfl, hb⟩
      have B3 := bel_step B2 hb
      obtain ⟨c3, d3⟩ := box2_cells B3
      go_wp2_with fail
      refine (toIntS_any _ xs _ (hs0.kept (bel_step (bel_alloc w _) B3)) (by omega)).mono ?_
      rintro e w4 ⟨g2, hg2, rfl, K2, hb⟩
      have B4 := bel_step B3 hb
      obtain ⟨c4, d4⟩ := box2_cells B4
      go_wp2_with fail
      refine (toWord_any _ _ _).mono ?_
      rintro e w5 ⟨rfl, hb⟩
      have B5 := bel_step B4 hb
      have K25 := K2.kept hb K2.lt
      go_wp2_with fail
      refine (impl_CountUnfit_bad b _ wb _ H.out).mono ?_
      rintro e w6 ⟨rfl, hb⟩
      have B6 := bel_step B5 hb
      have K26 := K25.kept hb K25.lt
      go_wp2_with fail
      refine (toIntS_any _ xs _ (hs0.kept (bel_step (bel_alloc w _) B6)) (by omega)).mono ?_
      rintro e w7 ⟨g3, hg3, rfl, K3, hb⟩
      have B7 := bel_step B6 hb
      have K27 := K26.kept hb K26.lt
      go_wp2_with fail
      refine (eqIntS_same _ _ xs _ K27.sl K3.sl (by omega)).mono ?_
      rintro e w8 ⟨rfl, hb⟩
      go_wp2_with fail
      go_ret
      exact ⟨rfl, bel_step (bel_alloc _ _) (bel_step B7 hb)⟩
end Go.Proofs.Ytflhbpjmlhccpaa
