
import Derived.Test.YtngjkcdfgkkdkaaUf
namespace Go.Proofs.Ytngjkcdfgkkdkaa
open Go.RowKit BitX Go.MemX Go.Ch6 Go.Ch8
set_option linter.unusedVariables false


set_option maxHeartbeats 400000 in
theorem nextIn_any (v : Value) (s : List Int) (z : Nat) (w : World) (hs : Sl w v s) (hl : s.length ≤ 64) (hz : z < s.length) :
    Calls Try.prog 34 #[v, .int .i64 (z : Int)] w fun e w' => e = .returned (.int .i64 (nextN s.length z : Nat)) ∧ w = w' := by
  obtain ⟨a, n, cap, rfl, hn, _⟩ := hs.rd
  rw [← hn] at hl hz ⊢
  clear hs hn
  go_enter Try.func34, Try.ntmps34
  go_wp2
  all_goals go_ret
  all_goals exact ⟨ret_i (by unfold nextN; split <;> omega), rfl⟩


set_option maxHeartbeats 400000 in
theorem holdC_any (gs z r : Nat) (v : Value) (s : List Int) (w : World) (hc : w.cell? ⟨gs, 0, none⟩ = some v) (hs : Sl w v s) (hl : s.length ≤ 64) (hz : z < s.length) :
    Calls Try.prog 32 #[.int .i64 (z : Int), .int .i64 (r : Int), .pointer (some ⟨gs, 0, none⟩)] w fun e w' => e = .returned (.int .i64 (at0 s z)) ∧ Below w.heap.size w w' := by
  obtain ⟨a, n, cap, rfl, hn, hrd⟩ := hs.rd
  rw [← hn] at hl hz
  obtain ⟨x, hkx⟩ := get_lt s z (by rw [← hn]; exact hz)
  obtain ⟨bb, oo, hix, hbb, hce⟩ := hrd.at (P := Try.prog) (T := 22) n cap uslice sone hkx hz
  rw [at0_of hkx]
  clear hs hn hrd hkx
  go_enter Try.func32, Try.ntmps32
  go_wp2
  go_ret
  exact ⟨rfl, Below.refl _ _⟩


def nearI (n p z r : Nat) : Nat := if 2 * r < p then z else nextN n z
set_option maxHeartbeats 1000000 in
theorem nearC_any (gp gs p z r : Nat) (v : Value) (s : List Int) (w : World) (hp : p ≤ 8) (hr : r < p) (hcp : w.cell? ⟨gp, 0, none⟩ = some (.int .i64 (p : Int))) (hc : w.cell? ⟨gs, 0, none⟩ = some v) (hs : Sl w v s) (hl : s.length ≤ 64) (hz : z < s.length) :
    Calls Try.prog 33 #[.int .i64 (z : Int), .int .i64 (r : Int), .pointer (some ⟨gp, 0, none⟩), .pointer (some ⟨gs, 0, none⟩)] w fun e w' => e = .returned (.int .i64 (at0 s (nearI s.length p z r))) ∧ Below w.heap.size w w' := by
  obtain ⟨a, n, cap, rfl, hn, hrd⟩ := hs.rd
  rw [← hn] at hl hz
  obtain ⟨x, hkx⟩ := get_lt s z (by rw [← hn]; exact hz)
  obtain ⟨bb, oo, hix, hbb, hce⟩ := hrd.at (P := Try.prog) (T := 22) n cap uslice sone hkx hz
  by_cases h2 : 2 * r < p
  · have hlt : 2 * (r : Int) < (p : Int) := by omega
    have HE := hid (show at0 s (nearI s.length p z r) = x from by unfold nearI; rw [if_pos h2]; exact at0_of hkx)
    rw [HE.out]
    clear hs hn hrd hkx h2
    go_enter Try.func33, Try.ntmps33
    go_wp2
    go_ret
    exact ⟨rfl, Below.refl _ _⟩
  · have hge : (p : Int) ≤ 2 * (r : Int) := by omega
    have hy := nextN_lt hz
    obtain ⟨y, hky⟩ := get_lt s (nextN n z) (by rw [← hn]; exact hy)
    obtain ⟨b2, o2, hix2, hbb2, hce2⟩ := hrd.at (P := Try.prog) (T := 22) n cap uslice sone hky hy
    have HN := hid (fun W (hW : Below w.heap.size w W) => nextIn_any _ s z W (hs.kept hW) (by rw [← hn]; exact hl) (by rw [← hn]; exact hz))
    rw [← hn] at HN
    have HE := hid (show at0 s (nearI s.length p z r) = y from by unfold nearI; rw [if_neg h2, ← hn]; exact at0_of hky)
    rw [HE.out]
    have hS : w.drew.cell? ⟨gs, 0, none⟩ = some (.slice a n cap) ∧ w.drew.cell? ⟨b2, o2, none⟩ = some (.int .i64 y) := ⟨hc, hce2⟩
    clear hs hn hrd hkx hky h2 hix hbb hce
    generalize nextN n z = z2 at *
    go_enter Try.func33, Try.ntmps33
    go_wp2_with fail
    go_region_held3 (fun W => W.cell? ⟨gs, 0, none⟩ = some (.slice a n cap) ∧ W.cell? ⟨b2, o2, none⟩ = some (.int .i64 y)) (first | exact hS | assumption | go_keep) (first | (go_at_call 34; refine (HN.out _ (bel_undrew (Below.refl _ _))).mono ?_; rintro e w' ⟨rfl, rfl⟩))
    all_goals go_wp2
    all_goals go_ret
    all_goals exact ⟨rfl, below_drewN (Below.refl _ _) 1⟩


theorem line_in {p r : Nat} {x y : Int} (hp : p ≤ 8) (hr : r < p) (x1 : -100000 ≤ x) (x2 : x ≤ 100000) (y1 : -100000 ≤ y) (y2 : y ≤ 100000) :
    (-800000 ≤ ((p : Int) - r) * x ∧ ((p : Int) - r) * x ≤ 800000) ∧ (-800000 ≤ (r : Int) * y ∧ (r : Int) * y ≤ 800000) := by
  have h1 : ((p : Int) - r) * x ≤ ((p : Int) - r) * 100000 := Int.mul_le_mul_of_nonneg_left x2 (by omega)
  have h2 : ((p : Int) - r) * (-100000) ≤ ((p : Int) - r) * x := Int.mul_le_mul_of_nonneg_left x1 (by omega)
  have h3 : (r : Int) * y ≤ (r : Int) * 100000 := Int.mul_le_mul_of_nonneg_left y2 (by omega)
  have h4 : (r : Int) * (-100000) ≤ (r : Int) * y := Int.mul_le_mul_of_nonneg_left y1 (by omega)
  omega
def lineI (s : List Int) (p z r : Nat) : Int := ((p : Int) - (r : Int)) * at0 s z + (r : Int) * at0 s (nextN s.length z)
set_option maxHeartbeats 1000000 in
theorem lineC_any (gp gs p z r : Nat) (v : Value) (s : List Int) (w : World) (hp : p ≤ 8) (hr : r < p) (hcp : w.cell? ⟨gp, 0, none⟩ = some (.int .i64 (p : Int))) (hc : w.cell? ⟨gs, 0, none⟩ = some v) (hs : Sl w v s) (hl : s.length ≤ 64) (hj : InP (-100000) 100000 s) (hz : z < s.length) :
    Calls Try.prog 36 #[.int .i64 (z : Int), .int .i64 (r : Int), .pointer (some ⟨gp, 0, none⟩), .pointer (some ⟨gs, 0, none⟩)] w fun e w' => e = .returned (.int .i64 (lineI s p z r)) ∧ Below w.heap.size w w' := by
  obtain ⟨a, n, cap, rfl, hn, hrd⟩ := hs.rd
  rw [← hn] at hl hz
  obtain ⟨x, hkx⟩ := get_lt s z (by rw [← hn]; exact hz)
  obtain ⟨bb, oo, hix, hbb, hce⟩ := hrd.at (P := Try.prog) (T := 22) n cap uslice sone hkx hz
  have hy := nextN_lt hz
  obtain ⟨y, hky⟩ := get_lt s (nextN n z) (by rw [← hn]; exact hy)
  obtain ⟨b2, o2, hix2, hbb2, hce2⟩ := hrd.at (P := Try.prog) (T := 22) n cap uslice sone hky hy
  have HN := hid (fun W (hW : Below w.heap.size w W) => nextIn_any _ s z W (hs.kept hW) (by rw [← hn]; exact hl) (by rw [← hn]; exact hz))
  rw [← hn] at HN
  obtain ⟨x1, x2⟩ := hj.at hkx
  obtain ⟨y1, y2⟩ := hj.at hky
  obtain ⟨m1, m2⟩ := line_in hp hr x1 x2 y1 y2
  have HE := hid (show lineI s p z r = ((p : Int) - (r : Int)) * x + (r : Int) * y from by unfold lineI; rw [at0_of hkx, ← hn, at0_of hky])
  rw [HE.out]
  have hS : w.drew.cell? ⟨gs, 0, none⟩ = some (.slice a n cap) ∧ w.drew.cell? ⟨gp, 0, none⟩ = some (.int .i64 (p : Int)) ∧ w.drew.cell? ⟨bb, oo, none⟩ = some (.int .i64 x) ∧ w.drew.cell? ⟨b2, o2, none⟩ = some (.int .i64 y) := ⟨hc, hcp, hce, hce2⟩
  clear hs hn hrd hkx hky hj
  generalize nextN n z = z2 at *
  obtain ⟨X, hX⟩ : ∃ X, X = ((p : Int) - (r : Int)) * x := ⟨_, rfl⟩
  obtain ⟨Y, hY⟩ : ∃ Y, Y = (r : Int) * y := ⟨_, rfl⟩
  rw [← hX] at m1
  rw [← hY] at m2
  have b1 : -9223372036854775808 ≤ X ∧ X ≤ 9223372036854775807 := by clear hX hY; omega
  have b2 : -9223372036854775808 ≤ Y ∧ Y ≤ 9223372036854775807 := by clear hX hY; omega
  have b3 : -9223372036854775808 ≤ X + Y ∧ X + Y ≤ 9223372036854775807 := by clear hX hY; omega
  have b4 : -9223372036854775808 ≤ (p : Int) - (r : Int) ∧ (p : Int) - (r : Int) ≤ 9223372036854775807 := by clear hX hY; omega
  have e1 : IntKind.i64.wrap ((p : Int) - (r : Int)) = (p : Int) - (r : Int) := IntWalk.i64_in _ b4
  have e2 : IntKind.i64.wrap (((p : Int) - (r : Int)) * x) = ((p : Int) - (r : Int)) * x := by rw [hX] at b1; exact IntWalk.i64_in _ b1
  have e3 : IntKind.i64.wrap ((r : Int) * y) = (r : Int) * y := by rw [hY] at b2; exact IntWalk.i64_in _ b2
  have e4 : IntKind.i64.wrap (((p : Int) - (r : Int)) * x + (r : Int) * y) = ((p : Int) - (r : Int)) * x + (r : Int) * y := by rw [hX, hY] at b3; exact IntWalk.i64_in _ b3
  clear hX hY b1 b2 b3 b4 m1 m2
  go_enter Try.func36, Try.ntmps36
  go_wp2_with fail
  go_region_held3 (fun W => W.cell? ⟨gs, 0, none⟩ = some (.slice a n cap) ∧ W.cell? ⟨gp, 0, none⟩ = some (.int .i64 (p : Int)) ∧ W.cell? ⟨bb, oo, none⟩ = some (.int .i64 x) ∧ W.cell? ⟨b2, o2, none⟩ = some (.int .i64 y)) (first | exact hS | assumption | go_keep) (first | (go_at_call 34; refine (HN.out _ (bel_undrew (Below.refl _ _))).mono ?_; rintro e w' ⟨rfl, rfl⟩))
  all_goals go_wp2
  all_goals go_ret
  all_goals exact ⟨rfl, below_drewN (Below.refl _ _) 1⟩

end Go.Proofs.Ytngjkcdfgkkdkaa
