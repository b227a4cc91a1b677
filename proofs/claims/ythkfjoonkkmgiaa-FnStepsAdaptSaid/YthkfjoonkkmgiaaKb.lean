
import Derived.Test.YthkfjoonkkmgiaaKa
namespace Go.Proofs.Ythkfjoonkkmgiaa
open Go.RowKit BitX Go.MemX
set_option linter.unusedVariables false


theorem tmod_in {x n : Int} (h0 : 0 ≤ x) (hn : 1 ≤ n) : 0 ≤ x.tmod n ∧ x.tmod n ≤ n - 1 := by
  rw [Int.tmod_eq_emod_of_nonneg h0]
  have a := Int.emod_nonneg x (show n ≠ 0 by omega)
  have b := Int.emod_lt_of_pos x (show 0 < n by omega)
  omega
theorem emod_in {x n : Int} (hn : 1 ≤ n) : 0 ≤ x % n ∧ x % n ≤ n - 1 := by
  have a := Int.emod_nonneg x (show n ≠ 0 by omega)
  have b := Int.emod_lt_of_pos x (show 0 < n by omega)
  omega
theorem w64s {x : Int} (h1 : -4000000000000000000 ≤ x) (h2 : x ≤ 4000000000000000000) : IntKind.i64.wrap x = x ∧ wrap64 x = x := ⟨IntWalk.i64_in _ (by omega), IntWalk.wrap64_in _ (by omega)⟩
def DrawsB (g K : Nat) (w : World) (e : Ending) (w' : World) : Prop := (∃ b, e = .returned (.bool b)) ∧ Cur g K w' ∧ Gets g w w'
set_option maxHeartbeats 2000000 in
theorem pick_any (g K : Nat) (n : Int) (w : World) (hc : Cur g K w) (hK : K ≤ 999999000) (hn : 1 ≤ n) (hn2 : n ≤ 65536) :
    Calls Try.prog 46 #[.pointer (some ⟨g, 0, none⟩), .int .i64 n] w (Draws g (K + 2) 0 (n - 1) w) := by
  have HC := hid hc
  clear hc
  by_cases h1 : n ≤ 1
  · have h1' : n = 1 := by omega
    go_enter Try.func46, Try.ntmps46
    go_wp2
    go_ret
    exact ⟨⟨0, rfl, by omega, by omega⟩, HC.out.mono (by omega), Gets.refl _ _⟩
  · have h1' : 1 < n := by omega
    have hn0 : n ≠ 0 := by omega
    have hnb : (n == 0) = false := beq_eq_false_iff_ne.2 hn0
    clear h1
    by_cases h2 : n ≤ 200
    · go_enter Try.func46, Try.ntmps46
      go_wp2_with fail
      refine (next_any g K _ HC.out (by omega)).mono ?_
      rintro e w1 ⟨⟨r, rfl, r1, r2⟩, hc1, hb1⟩
      have HC1 := hid hc1
      have hm := tmod_in r1 hn
      have hm' := emod_in (x := r) hn
      have e1 : IntKind.i64.wrap (r.tmod n) = r.tmod n := (w64s (by omega) (by omega)).1
      have e2 : wrap64 (r.tmod n) = r.tmod n := (w64s (by omega) (by omega)).2
      clear hc1
      go_wp2
      go_ret
      exact ⟨⟨_, rfl, by first | exact hm.1 | exact hm'.1, by first | exact hm.2 | exact hm'.2⟩, HC1.out.mono (by omega), hb1⟩
    · have h2' : 200 < n := by omega
      clear h2
      go_enter Try.func46, Try.ntmps46
      go_wp2_with fail
      refine (next_any g K _ HC.out (by omega)).mono ?_
      rintro e w1 ⟨⟨r, rfl, r1, r2⟩, hc1, hb1⟩
      have HC1 := hid hc1
      have e3 : IntKind.i64.wrap (r * 256) = r * 256 := (w64s (by omega) (by omega)).1
      clear hc1
      go_wp2_with fail
      refine (next_any g (K + 1) _ HC1.out (by omega)).mono ?_
      rintro e w2 ⟨⟨q, rfl, q1, q2⟩, hc2, hb2⟩
      have HC2 := hid hc2
      obtain ⟨s, hs⟩ : ∃ s, s = r * 256 + q := ⟨_, rfl⟩
      have e4 : IntKind.i64.wrap (r * 256 + q) = s := by rw [hs]; exact (w64s (by omega) (by omega)).1
      have e5 : wrap64 (r * 256 + q) = s := by rw [hs]; exact (w64s (by omega) (by omega)).2
      have hm := tmod_in (show 0 ≤ s by omega) hn
      have hm' := emod_in (x := s) hn
      have e1 : IntKind.i64.wrap (s.tmod n) = s.tmod n := (w64s (by omega) (by omega)).1
      have e2 : wrap64 (s.tmod n) = s.tmod n := (w64s (by omega) (by omega)).2
      clear hc2 hs
      go_wp2
      go_ret
      exact ⟨⟨_, rfl, by first | exact hm.1 | exact hm'.1, by first | exact hm.2 | exact hm'.2⟩, HC2.out.mono (by omega), hb1.trans hb2⟩

set_option maxHeartbeats 1000000 in
theorem one_any (g K : Nat) (n : Int) (w : World) (hc : Cur g K w) (hK : K ≤ 999999000) (hn : 1 ≤ n) (hn2 : n ≤ 65536) :
    Calls Try.prog 47 #[.pointer (some ⟨g, 0, none⟩), .int .i64 n] w (DrawsB g (K + 2) w) := by
  go_enter Try.func47, Try.ntmps47
  go_wp2_with fail
  refine (pick_any g K n _ hc hK hn hn2).mono ?_
  rintro e w1 ⟨⟨r, rfl, r1, r2⟩, hc1, hb1⟩
  have HC1 := hid hc1
  clear hc1
  go_wp2
  go_ret
  exact ⟨⟨_, rfl⟩, HC1.out, hb1⟩

set_option maxHeartbeats 1000000 in
theorem among_any (g K h : Nat) (xs : List Int) (lo hi : Int) (w : World) (hc : Cur g K w) (hK : K ≤ 999999000) (hb : Blk 3 w h xs) (hne : h ≠ g) (h1 : 1 ≤ xs.length) (h2 : xs.length ≤ 1000) (hx : ∀ x ∈ xs, lo ≤ x ∧ x ≤ hi) :
    Calls Try.prog 48 #[.pointer (some ⟨g, 0, none⟩), .slice (some ⟨h, 0, none⟩) xs.length xs.length] w (Draws g (K + 2) lo hi w) := by
  obtain ⟨n, hn⟩ : ∃ n, n = xs.length := ⟨_, rfl⟩
  rw [← hn] at h1 h2 ⊢
  have HX := hid hx
  have HB := hid hb
  have HN := hid hn
  have hlt := hb.lt
  clear hx hb hn
  go_enter Try.func48, Try.ntmps48
  go_wp2_with fail
  refine (pick_any g K (n : Int) _ hc hK (by omega) (by omega)).mono ?_
  rintro e w1 ⟨⟨r, rfl, r1, r2⟩, hc1, hb1⟩
  have HC1 := hid hc1
  have HB1 := hid hb1
  obtain ⟨i, rfl⟩ : ∃ i : Nat, r = i := ⟨r.toNat, by omega⟩
  have hi : i < n := by omega
  obtain ⟨x, hxi⟩ := get_lt xs i (by rw [← HN.out]; exact hi)
  have hcell : w1.cell? ⟨h, i, none⟩ = some (.int .i64 x) := by
    have hh : Blk 3 w1 h xs := by unfold Blk; rw [hb1.2 h hlt hne]; exact HB.out
    exact hh.cell hxi
  have hxx := HX.out x (List.mem_of_getElem? hxi)
  clear hc1 hb1 hxi
  go_wp2
  go_ret
  exact ⟨⟨x, rfl, hxx.1, hxx.2⟩, HC1.out, HB1.out⟩


end Go.Proofs.Ythkfjoonkkmgiaa
