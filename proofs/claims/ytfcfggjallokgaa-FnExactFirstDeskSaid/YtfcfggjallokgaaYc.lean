
import Derived.Test.YtfcfggjallokgaaYb
namespace Go.Proofs.Ytfcfggjallokgaa
open Go.RowKit BitX Go.MemX
set_option linter.unusedVariables false

def d3 : List Int := [3, -1, 4]

set_option maxHeartbeats 1000000 in
theorem spec_FirstDesk_is (w : World) : Calls Try.prog 5 #[] w (GivesD w d3 4 true) := by
  go_enter Try.func5, Try.ntmps5
  go_wp2_with fail
  have hblk : Blk 3 ((w.alloc (.cells #[.slice (some ⟨w.heap.size + 1, 0, none⟩) 3 3, .int .i64 4, .bool true] 26)).alloc (.cells #[.int .i64 3, .int .i64 (-1), .int .i64 4] 3)) (w.heap.size + 1) d3 := by
    have := heap_alloc_new (w.alloc (.cells #[.slice (some ⟨w.heap.size + 1, 0, none⟩) 3 3, .int .i64 4, .bool true] 26)) (.cells #[.int .i64 3, .int .i64 (-1), .int .i64 4] 3)
    simp only [World.size_alloc] at this
    exact this
  have HB := hid hblk
  clear hblk
  refine bodyPost_ret (v := .agg #[.slice (some ⟨w.heap.size + 1, 0, none⟩) 3 3, .int .i64 4, .bool true]) (by simp [results, Try.results5, go_sem]) rfl ⟨_, _, _, rfl, HB.out.res (by omega), bel_step (bel_alloc _ _) (bel_alloc _ _)⟩

set_option maxHeartbeats 1000000 in
theorem impl_FirstDesk_is (w : World) : Calls Try.prog 6 #[] w (GivesD w d3 4 true) := by
  go_enter Try.func6, Try.ntmps6
  go_wp2_with fail
  have hblk : Blk 3 ((w.alloc (.cells #[.slice (some ⟨w.heap.size + 1, 0, none⟩) 3 3, .int .i64 4, .bool true] 26)).alloc (.cells #[.int .i64 3, .int .i64 (-1), .int .i64 4] 3)) (w.heap.size + 1) d3 := by
    have := heap_alloc_new (w.alloc (.cells #[.slice (some ⟨w.heap.size + 1, 0, none⟩) 3 3, .int .i64 4, .bool true] 26)) (.cells #[.int .i64 3, .int .i64 (-1), .int .i64 4] 3)
    simp only [World.size_alloc] at this
    exact this
  have HB := hid hblk
  clear hblk
  refine bodyPost_ret (v := .agg #[.slice (some ⟨w.heap.size + 1, 0, none⟩) 3 3, .int .i64 4, .bool true]) (by simp [results, Try.results6, go_sem]) rfl ⟨_, _, _, rfl, HB.out.res (by omega), bel_step (bel_alloc _ _) (bel_alloc _ _)⟩

set_option maxHeartbeats 1000000 in
theorem markDesk_any (u : Option Addr) (n c : Nat) (xs : List Int) (b : Int) (wr : Bool) (B : Nat) (w : World) (hv : Res 3 B w (.slice u n c) xs) (hl : xs.length ≤ 2000000) :
    Calls Try.prog 8 #[.agg #[.slice u n c, .int .i64 b, .bool wr], .int .i64 1] w fun e w' => e = .returned (.int .i64 ((1 + xs.length : Nat) : Int)) ∧
      OnlyV (.slice u n c) (w.alloc (.cells #[.slice u n c, .int .i64 b, .bool wr] 26)) w' ∧ Res 3 B w' (.slice u n c) (marks 1 xs.length) := by
  have HV := hid hv
  clear hv
  go_enter Try.func8, Try.ntmps8
  go_wp2_with fail
  refine (markIntS_one _ xs B _ (HV.out.kept (bel_alloc _ _)) hl).mono ?_
  rintro e w1 ⟨rfl, ho, hm⟩
  go_wp2_with fail
  go_ret
  exact ⟨rfl, ho, hm⟩

set_option maxHeartbeats 1000000 in
theorem heldDesk_any (u : Option Addr) (n c m : Nat) (b : Int) (wr : Bool) (B : Nat) (w : World) (hv : Res 3 B w (.slice u n c) (marks 1 m)) (hl : m ≤ 2000000) :
    Calls Try.prog 9 #[.agg #[.slice u n c, .int .i64 b, .bool wr], .int .i64 1] w fun e w' => e = .returned (.int .i64 ((1 + m : Nat) : Int)) ∧ Below w.heap.size w w' := by
  have HV := hid hv
  clear hv
  go_enter Try.func9, Try.ntmps9
  go_wp2_with fail
  refine (heldIntS_one _ m B _ (HV.out.kept (bel_alloc _ _)) hl).mono ?_
  rintro e w1 ⟨rfl, rfl⟩
  go_wp2_with fail
  go_ret
  exact ⟨rfl, bel_alloc _ _⟩

theorem Res.app {B : Nat} {w w' : World} {u v : Value} {xs : List Int} (h : Res 3 B w v xs) (o : OnlyV u w w') (hne : ∀ g, v.ownBlock = some g → u.ownBlock ≠ some g) : Res 3 B w' v xs := h.only o hne

set_option maxHeartbeats 4000000 in
theorem walk_FnExactFirstDesk (w : World) :
    Calls Try.prog 3 #[] w fun e w' => e = .returned (.bool true) ∧ Below w.heap.size w w' := by
  go_enter Try.func3, Try.ntmps3
  go_wp2_with fail
  refine (spec_FirstDesk_is _).mono ?_
  rintro e w1 ⟨u1, n1, k1, rfl, R1, B1⟩
  go_wp2_with fail
  refine (impl_FirstDesk_is _).mono ?_
  rintro e w2 ⟨u2, n2, k2, rfl, R2, hb⟩
  have hz1 : w.heap.size ≤ w1.heap.size := B1.size
  have hz2 : w1.heap.size + 1 ≤ w2.heap.size := by have := hb.size; simpa using this
  have D1 : DkB 26 w1.heap.size (.slice u1 n1 k1) 4 true w2 := (DkB.made _ _ _ _ _).kept hb (by simp)
  have B2 := bel_step B1 (bel_step (bel_alloc _ _) hb)
  have Q1 := R1.kept (bel_step (bel_alloc _ _) hb)
  have H1 : ∀ g, Value.ownBlock (.slice u1 n1 k1) = some g → g < w1.heap.size := fun g hg => R1.lt hg
  have H2 : ∀ g, Value.ownBlock (.slice u2 n2 k2) = some g → w1.heap.size + 1 ≤ g ∧ g < w2.heap.size := fun g hg => ⟨by have := R2.ge hg; simpa using this, R2.lt hg⟩
  have G1 := hid H1
  have G2 := hid H2
  clear H1 H2
  obtain ⟨⟨c0, c1, c2⟩, _⟩ := (D1.kept (bel_alloc w2 (.cells #[.slice u2 n2 k2, .int .i64 4, .bool true] 26)) D1.lt).cells
  have D1 := hid D1
  clear hb
  go_wp2_with fail
  refine (eqDesk_same _ _ d3 _ _ _ (R2.sl.kept (bel_alloc _ _)) (Q1.sl.kept (bel_alloc _ _)) (by decide)).mono ?_
  rintro e w3 ⟨rfl, hb⟩
  have B3 := bel_step B2 (bel_step (bel_alloc _ _) hb)
  have D2 : DkB 26 w2.heap.size (.slice u2 n2 k2) 4 true w3 := (DkB.made _ _ _ _ _).kept hb (by simp)
  have D1 := hid (D1.out.kept (bel_step (bel_alloc _ _) hb) D1.out.lt)
  have Q1 := Q1.kept (bel_step (bel_alloc _ _) hb)
  have R2 := R2.kept (bel_step (bel_alloc _ _) hb)
  have hz3 : w2.heap.size + 1 ≤ w3.heap.size := by have := hb.size; simpa using this
  obtain ⟨⟨d0, d1, d2⟩, _⟩ := D2.cells
  clear hb c0 c1 c2
  go_wp2_with fail
  refine (markDesk_any _ _ _ d3 _ _ _ _ R2 (by decide)).mono ?_
  rintro e w4 ⟨rfl, ho, M⟩
  have Q1 := (Q1.kept (bel_alloc _ (.cells #[.slice u2 n2 k2, .int .i64 4, .bool true] 26))).only ho (fun g hg e => by have a1 := G1.out g hg; have a2 := G2.out g e; omega)
  have D1 := hid ((D1.out.kept (bel_alloc _ (.cells #[.slice u2 n2 k2, .int .i64 4, .bool true] 26)) D1.out.lt).same (ho.block _ (fun e => by have a2 := G2.out _ e; omega)))
  have D2 := (D2.kept (bel_alloc _ (.cells #[.slice u2 n2 k2, .int .i64 4, .bool true] 26)) D2.lt).same (ho.block _ (fun e => by have a2 := G2.out _ e; omega))
  have hz4 : w3.heap.size + 1 = w4.heap.size := by have := ho.size; simp at this; omega
  have B4 : Below w.heap.size w w4 := (bel_step B3 (bel_alloc _ _)).trans (ho.below (fun g hg => by have a2 := G2.out _ hg; omega))
  clear d0 d1 d2 ho R2
  obtain ⟨⟨d0, d1, d2⟩, _⟩ := D2.cells
  go_wp2_with fail
  refine (heldDesk_any _ _ _ d3.length _ _ _ _ M (by decide)).mono ?_
  rintro e w5 ⟨rfl, hb⟩
  have B5 := bel_step B4 hb
  have D1 := hid (D1.out.kept hb D1.out.lt)
  have D2 := D2.kept hb D2.lt
  have Q1 := Q1.kept hb
  have M := M.kept hb
  have hz5 : w4.heap.size ≤ w5.heap.size := hb.size
  clear hb d0 d1 d2
  go_wp2_with fail
  refine (impl_FirstDesk_is _).mono ?_
  rintro e w6 ⟨u6, n6, k6, rfl, R6, hb⟩
  have B6 := bel_step B5 hb
  have D1 := D1.out.kept hb D1.out.lt
  have D2 := hid (D2.kept hb D2.lt)
  have Q1 := Q1.kept hb
  have M := M.kept hb
  have hz6 : w5.heap.size ≤ w6.heap.size := hb.size
  clear hb
  obtain ⟨⟨c0, c1, c2⟩, _⟩ := (D1.kept (bel_alloc w6 (.cells #[.slice u6 n6 k6, .int .i64 4, .bool true] 26)) D1.lt).cells
  have D1 := hid D1
  go_wp2_with fail
  refine (eqDesk_same _ _ d3 _ _ _ (R6.sl.kept (bel_alloc _ _)) (Q1.sl.kept (bel_alloc _ _)) (by decide)).mono ?_
  rintro e w7 ⟨rfl, hb⟩
  have B7 := bel_step B6 (bel_step (bel_alloc _ _) hb)
  have D2 := D2.out.kept (bel_step (bel_alloc _ _) hb) D2.out.lt
  have M := M.kept (bel_step (bel_alloc _ _) hb)
  obtain ⟨⟨d0, d1, d2⟩, _⟩ := D2.cells
  clear hb c0 c1 c2
  go_wp2_with fail
  refine (heldDesk_any _ _ _ d3.length _ _ _ _ M (by decide)).mono ?_
  rintro e w8 ⟨rfl, hb⟩
  have B8 := bel_step B7 hb
  go_wp2_with fail
  go_ret
  exact ⟨rfl, B8⟩
end Go.Proofs.Ytfcfggjallokgaa
