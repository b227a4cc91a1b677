
import Derived.Test.YtfcfggjallokgaaYa
namespace Go.Proofs.Ytfcfggjallokgaa
open Go.RowKit BitX Go.MemX
set_option linter.unusedVariables false

theorem IsRow.big {w : World} {a : Option Addr} {len cap : Nat} {zs : List Int} (h : IsRow .i64 w a len cap zs) : len ≤ 9223372036854775807 := by
  have e : maxLen = 9223372036854775807 := by decide
  rcases h with ⟨_, rfl, _⟩ | ⟨x, _, hl, hm, _⟩ <;> omega

set_option maxHeartbeats 4000000 in
theorem walk_FnExactIsDesk (w : World) (a : Option Addr) (len cap : Nat) (z : List Int) (b : Int) (wr : Bool) (hr : IsRow .i64 w a len cap z) :
    Calls Try.prog 4 #[.agg #[.slice a len cap, .int .i64 b, .bool wr]] w fun e w' => e = .returned (.bool true) ∧ Below w.heap.size w w' := by
  have hbig := IsRow.big hr
  obtain ⟨hs, hlen, _⟩ := hr.sl
  generalize z.take len = xs at hs hlen
  clear hr
  have SZ := hid (fun W => szDesk_any (.slice a len cap) len b wr a cap W hbig rfl)
  by_cases h : len ≤ 1048576
  · have e : (if len ≤ 1048576 then 1048576 - (len : Int) else -1) = 1048576 - (len : Int) := if_pos h
    rw [e] at SZ
    have h0 : 0 ≤ 1048576 - (len : Int) := by omega
    have hxl : xs.length ≤ 1048576 := by omega
    have HS := hid hs
    clear e hs hlen hbig
    generalize (1048576 : Int) - (len : Int) = left at SZ h0
    generalize Value.slice a len cap = v at SZ HS ⊢
    cases hq : deskB xs b
    all_goals
      have HQ := hid hq
      clear hq
      go_enter Try.func4, Try.ntmps4
      go_wp2_with fail
      refine (SZ.out _).mono ?_
      rintro e w1 ⟨rfl, hb⟩
      have B1 := hb
      obtain ⟨c0, c1, c2⟩ := box3_cells B1
      go_wp2_with fail
      refine (toDesk_any _ xs _ _ _ (HS.out.kept (bel_step (bel_alloc _ _) B1)) (by omega)).mono ?_
      rintro e w2 ⟨u1, n1, k1, rfl, R1, hb⟩
      have B2 := bel_step B1 hb
      obtain ⟨c0, c1, c2⟩ := box3_cells B2
      go_wp2_with fail
      refine (spec_IsDesk_is _ xs _ _ _ R1.sl).mono ?_
      rintro e w3 ⟨rfl, hb⟩
      have B3 := bel_step B2 hb
      obtain ⟨c0, c1, c2⟩ := box3_cells B3
      rw [HQ.out]
      go_wp2_with fail
      refine (toDesk_any _ xs _ _ _ (HS.out.kept (bel_step (bel_alloc _ _) B3)) (by omega)).mono ?_
      rintro e w4 ⟨u4, n4, k4, rfl, R4, hb⟩
      have B4 := bel_step B3 hb
      obtain ⟨c0, c1, c2⟩ := box3_cells B4
      go_wp2_with fail
      refine (impl_IsDesk_is _ xs _ _ _ (R4.sl.kept (bel_alloc _ _))).mono ?_
      rintro e w5 ⟨rfl, hb⟩
      have HX := hid hb
      have B5 := bel_step B4 (bel_step (bel_alloc _ _) hb)
      obtain ⟨c0, c1, c2⟩ := box3_cells B5
      obtain ⟨d0, d1, d2⟩ := box3_cells hb
      have R5 := R4.kept (bel_step (bel_alloc _ _) hb)
      rw [HQ.out]
      clear B1 B2 B3 B4 R1 R4
      go_wp2_with fail
      go_region_with (first | (go_at_call 12; refine (toDesk_any _ xs _ _ _ (HS.out.kept ((bel_step (bel_alloc _ _) B5).drew)) (by omega)).mono ?_; rintro e w6 ⟨u6, n6, k6, rfl, R6, hb⟩; have hb6 := bel_undrew hb; have B6 := bel_step B5 hb6; obtain ⟨c0, c1, c2⟩ := box3_cells B6; obtain ⟨d0, d1, d2⟩ := box3_cells (bel_step HX.out hb6); have R56 := R5.kept hb6) | (go_at_call 7; refine (eqDesk_same _ _ xs _ _ _ R56.sl R6.sl (by omega)).mono ?_; rintro e w7 ⟨rfl, hb⟩; have B7 := bel_step B6 hb))
      all_goals
        go_wp2_with fail
        go_ret
        exact ⟨rfl, bel_step (bel_alloc _ _) B7⟩
  · have e : (if len ≤ 1048576 then 1048576 - (len : Int) else -1) = -1 := if_neg h
    rw [e] at SZ
    clear e hs hlen hbig h
    go_enter Try.func4, Try.ntmps4
    go_wp2_with fail
    refine (SZ.out _).mono ?_
    rintro e w1 ⟨rfl, hb⟩
    go_wp2_with fail
    go_ret
    exact ⟨rfl, bel_step (bel_alloc _ _) hb⟩
end Go.Proofs.Ytfcfggjallokgaa
