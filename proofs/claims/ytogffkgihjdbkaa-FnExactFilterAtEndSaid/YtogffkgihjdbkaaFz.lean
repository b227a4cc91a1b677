
import Derived.Test.YtogffkgihjdbkaaFy
import Derived.Test.YtogffkgihjdbkaaAx
import Derived.Deep.RegionHeld3
import Derived.Shelf.Abstract
import Derived.Deep.QuietTactic
import Derived.BigQuiet
namespace Go.Proofs.Ytogffkgihjdbkaa
open Go.RowKit BitX Go.MemX Go.ShX
set_option linter.unusedVariables false


theorem shift_s2 (x : Int) (k : Nat) (mode : Int) (h1 : -1073741824 ≤ x) (h2 : x ≤ 1073741824) (hk : k ≤ 20) : -9223372036854775808 ≤ shiftI x k mode ∧ shiftI x k mode ≤ 9223372036854775807 := by
  have hp := pow20 k hk
  have a := div_bounds x (2 ^ k) (by omega)
  have b := div_bounds (x + 2 ^ k / 2) (2 ^ k) (by omega)
  have c := Int.natAbs_tdiv_le_natAbs x (2 ^ k)
  unfold shiftI
  split
  · omega
  · split <;> omega
theorem fitI_s2 (m : Nat) (wb : Bool) (x : Int) (h1 : 1 ≤ m) (h2 : m ≤ 16) : -100000 ≤ fitI m wb x ∧ fitI m wb x ≤ 100000 := by
  have hp := pow_small m h1 h2
  cases wb
  · simp only [fitI, Bool.false_eq_true, if_false]
    split
    · omega
    · split <;> omega
  · have hm : ((2 ^ m : Nat) : Int) = 2 * 2 ^ (m - 1) := by
      rw [show m = (m - 1) + 1 from by omega, Nat.pow_succ]; simp; omega
    have a := Int.le_bmod (x := x) (m := 2 ^ m) (Nat.two_pow_pos _)
    have b := Int.bmod_lt (x := x) (m := 2 ^ m) (Nat.two_pow_pos _)
    simp only [fitI, if_true]
    omega
/-- what is made in a word of these products -/
def foldW (n : Nat) (wd : Bool) (k : Nat) (mode : Int) (P : Nat → Int) : Nat → Int
  | 0 => 0
  | i + 1 => fitI n wd (foldW n wd k mode P i + fitI n wd (shiftI (P i) k mode))
theorem foldW_succ (n : Nat) (wd : Bool) (k : Nat) (mode : Int) (P : Nat → Int) (i : Nat) : foldW n wd k mode P (i + 1) = fitI n wd (foldW n wd k mode P i + fitI n wd (shiftI (P i) k mode)) := rfl
theorem foldW_congr (n : Nat) (wd : Bool) (k : Nat) (mode : Int) (P Q : Nat → Int) (m : Nat) (h : ∀ i, i < m → P i = Q i) : foldW n wd k mode P m = foldW n wd k mode Q m := by
  induction m with
  | zero => rfl
  | succ m ih => rw [foldW_succ, foldW_succ, ih fun i hi => h i (by omega), h m (by omega)]
theorem foldW_in (n : Nat) (wd : Bool) (k : Nat) (mode : Int) (P : Nat → Int) (m : Nat) (h1 : 1 ≤ n) (h2 : n ≤ 16) : -100000 ≤ foldW n wd k mode P m ∧ foldW n wd k mode P m ≤ 100000 := by
  cases m with
  | zero => simp [foldW]
  | succ m => exact fitI_s2 n wd _ h1 h2
/-- a function value that shifts with this mode -/
def ShAt (P : Program) (g : Nat) (k : Nat) (mode : Int) : Prop :=
  (∀ (args : Array Value) (w : World), (callFunc g args).run P w = .ok (.enter g args) w) ∧
  ∀ (x : Int) (W : World), -1000000000000 ≤ x → x ≤ 1000000000000 → Calls P g #[.int .i64 x, .int .i64 (k : Int)] W fun e w' => e = .returned (.int .i64 (shiftI x k mode)) ∧ W = w'
theorem cl_kept {w W : World} {gw gr gs : Nat} {a0 a1 a2 a3 : Value} (hb : Below w.heap.size w W) (h0 : w.cell? ⟨gw, 0, none⟩ = some a0) (h1 : w.cell? ⟨gw, 1, none⟩ = some a1) (h2 : w.cell? ⟨gr, 0, none⟩ = some a2) (h3 : w.cell? ⟨gs, 0, none⟩ = some a3) :
    W.cell? ⟨gw, 0, none⟩ = some a0 ∧ W.cell? ⟨gw, 1, none⟩ = some a1 ∧ W.cell? ⟨gr, 0, none⟩ = some a2 ∧ W.cell? ⟨gs, 0, none⟩ = some a3 :=
  ⟨by rw [hb.cell (by exact block_lt_of_cell h0)]; exact h0, by rw [hb.cell (by exact block_lt_of_cell h1)]; exact h1, by rw [hb.cell (by exact block_lt_of_cell h2)]; exact h2, by rw [hb.cell (by exact block_lt_of_cell h3)]; exact h3⟩


set_option maxHeartbeats 400000 in
theorem down_any (x : Int) (k : Nat) (w : World) (hk : k ≤ 20) (h3 : -1000000000000 ≤ x) (h4 : x ≤ 1000000000000) :
    Calls Try.prog 62 #[.int .i64 x, .int .i64 (k : Int)] w fun e w' => e = .returned (.int .i64 (shiftI x k 0)) ∧ w = w' := by
  obtain ⟨m, hm⟩ : ∃ m : Int, m = 2 ^ k := ⟨_, rfl⟩
  have hps := pow20 k hk
  have hw : wrap64 ((2 : Int) ^ k) = m := by rw [hm]; exact IntWalk.wrap64_in _ (by omega)
  have hm1 : 1 ≤ m := by omega
  have hm2 : m ≤ 1048576 := by omega
  have Hm := hid hm
  clear hm hps
  have hf : x / 2 ^ k = shiftI x k 0 := rfl
  have HF := hid hf
  clear hf
  go_enter Try.func62, Try.ntmps62
  go_wp2
  go_ret
  exact ⟨ret_i HF.out, rfl⟩

theorem down_any_sh (k : Nat) (hk : k ≤ 20) : ShAt Try.prog 62 k 0 := ⟨enters_of Try.func62 (by kernel_rfl) rfl, fun x W h3 h4 => down_any x k W hk h3 h4⟩

set_option maxHeartbeats 400000 in
theorem near_any (x : Int) (k : Nat) (w : World) (hk : k ≤ 20) (h3 : -1000000000000 ≤ x) (h4 : x ≤ 1000000000000) :
    Calls Try.prog 60 #[.int .i64 x, .int .i64 (k : Int)] w fun e w' => e = .returned (.int .i64 (shiftI x k 1)) ∧ w = w' := by
  obtain ⟨m, hm⟩ : ∃ m : Int, m = 2 ^ k := ⟨_, rfl⟩
  have hps := pow20 k hk
  have hw : wrap64 ((2 : Int) ^ k) = m := by rw [hm]; exact IntWalk.wrap64_in _ (by omega)
  have hm1 : 1 ≤ m := by omega
  have hm2 : m ≤ 1048576 := by omega
  have Hm := hid hm
  clear hm hps
  have hf : (x + m / 2) / 2 ^ k = shiftI x k 1 := by rw [Hm.out]; rfl
  have HF := hid hf
  clear hf
  go_enter Try.func60, Try.ntmps60
  go_wp2
  go_ret
  exact ⟨ret_i HF.out, rfl⟩

theorem near_any_sh (k : Nat) (hk : k ≤ 20) : ShAt Try.prog 60 k 1 := ⟨enters_of Try.func60 (by kernel_rfl) rfl, fun x W h3 h4 => near_any x k W hk h3 h4⟩

set_option maxHeartbeats 400000 in
theorem zero_any (x : Int) (k : Nat) (w : World) (hk : k ≤ 20) (h3 : -1000000000000 ≤ x) (h4 : x ≤ 1000000000000) :
    Calls Try.prog 61 #[.int .i64 x, .int .i64 (k : Int)] w fun e w' => e = .returned (.int .i64 (shiftI x k 2)) ∧ w = w' := by
  obtain ⟨m, hm⟩ : ∃ m : Int, m = 2 ^ k := ⟨_, rfl⟩
  have hps := pow20 k hk
  have hw : wrap64 ((2 : Int) ^ k) = m := by rw [hm]; exact IntWalk.wrap64_in _ (by omega)
  have hm1 : 1 ≤ m := by omega
  have hm2 : m ≤ 1048576 := by omega
  have Hm := hid hm
  clear hm hps
  have hb1 : x.tdiv m ≤ 1000000000000 := by
    have := Int.natAbs_tdiv_le_natAbs x m
    omega
  have hb2 : -1000000000000 ≤ x.tdiv m := by
    have := Int.natAbs_tdiv_le_natAbs x m
    omega
  by_cases hx0 : 0 ≤ x
  · have hf : x / m = shiftI x k 2 := by rw [Hm.out, shift_zero_pos x k hx0]
    have HF := hid hf
    clear hf
    go_enter Try.func61, Try.ntmps61
    go_wp2
    go_ret
    exact ⟨ret_i (by first | exact HF.out | (rw [tdiv_pos x m hx0]; exact HF.out)), rfl⟩
  · have hf : x.tdiv m = shiftI x k 2 := by rw [Hm.out]; rfl
    have HF := hid hf
    have hx1 : x < 0 := by omega
    clear hf hx0
    go_enter Try.func61, Try.ntmps61
    go_wp2
    go_ret
    exact ⟨ret_i HF.out, rfl⟩

theorem zero_any_sh (k : Nat) (hk : k ≤ 20) : ShAt Try.prog 61 k 2 := ⟨enters_of Try.func61 (by kernel_rfl) rfl, fun x W h3 h4 => zero_any x k W hk h3 h4⟩

set_option maxHeartbeats 400000 in
theorem rounding_is (k : Nat) (mode : Int) (w : World) (hk : k ≤ 20) (h0 : 0 ≤ mode) (h2 : mode ≤ 2) :
    Calls Try.prog 53 #[.int .i64 mode] w fun e w' => (∃ rf, e = .returned (.func (.func rf) #[] #[]) ∧ ShAt Try.prog rf k mode) ∧ w = w' := by
  have hm : mode = 0 ∨ mode = 1 ∨ mode = 2 := by omega
  clear h0 h2
  rcases hm with rfl | rfl | rfl
  · go_enter Try.func53, Try.ntmps53
    go_wp2
    go_ret
    exact ⟨⟨_, rfl, down_any_sh k hk⟩, rfl⟩
  · go_enter Try.func53, Try.ntmps53
    go_wp2
    go_ret
    exact ⟨⟨_, rfl, near_any_sh k hk⟩, rfl⟩
  · go_enter Try.func53, Try.ntmps53
    go_wp2
    go_ret
    exact ⟨⟨_, rfl, zero_any_sh k hk⟩, rfl⟩


set_option maxHeartbeats 2000000 in
theorem word_clo (gh gw gr gs : Nat) (v hv : Value) (h r : List Int) (n : Nat) (wd : Bool) (rf : Nat) (k : Nat) (mode : Int) (w : World) (hc : w.cell? ⟨gh, 0, none⟩ = some hv) (hw0 : w.cell? ⟨gw, 0, none⟩ = some (.int .i64 (n : Int))) (hw1 : w.cell? ⟨gw, 1, none⟩ = some (.bool wd)) (hcr : w.cell? ⟨gr, 0, none⟩ = some (.func (.func rf) #[] #[])) (hcs : w.cell? ⟨gs, 0, none⟩ = some (.int .i64 (k : Int)))
    (n1 : 2 ≤ n) (n2 : n ≤ 16) (hk20 : k ≤ 20) (hsh : ShAt Try.prog rf k mode) (hh : Sl w hv h) (hr : Sl w v r) (hl : r.length ≤ h.length) (hl9 : h.length ≤ 9) (hi : InP (-1000) 1000 h) (hj : InP (-100000) 100000 r) :
    Calls Try.prog 54 #[v, .pointer (some ⟨gh, 0, none⟩), .pointer (some ⟨gw, 0, none⟩), .pointer (some ⟨gr, 0, none⟩), .pointer (some ⟨gs, 0, none⟩)] w fun e w' => e = .returned (.int .i64 (foldW n wd k mode (fun i => at0 h i * at0 r (r.length - 1 - i)) r.length)) ∧ Below w.heap.size w w' := by
  obtain ⟨a, m, cap, rfl, hn, hrd⟩ := hr.rd
  obtain ⟨a2, m2, cap2, rfl, hn2, hrd2⟩ := hh.rd
  have Hn := hid hn
  have Hn2 := hid hn2
  have Hrd := hid hrd
  have Hrd2 := hid hrd2
  have hl' : m ≤ 9 := by omega
  have hl2 : m ≤ m2 := by omega
  have hl3 : m2 ≤ 9 := by omega
  have Hi := hid hi
  have Hj := hid hj
  have Hc := hid hc
  have Hs := hid hsh
  have eg := hsh.1
  have hg0 : gh < w.heap.size := block_lt_of_cell hc
  clear hn hn2 hrd hrd2 hr hh hl hl9 hi hj hc hsh
  have Hcl := hid (cl_kept (Below.refl _ w) hw0 hw1 hcr hcs)
  clear hw0 hw1 hcr hcs
  go_enter Try.func54, Try.ntmps54
  go_wp2_with fail
  go_loopw [7, 16] (fun s0 i wr => ∃ c : Nat, c ≤ m ∧ i = .int .i64 c ∧ s0 = .int .i64 (foldW n wd k mode (fun i => at0 h i * at0 r (m - 1 - i)) c) ∧ Below w.heap.size w wr)
    (fun _ i _ => m - (intOf i).toNat)
  case atStart => exact ⟨0, by omega, rfl, rfl, Below.refl _ _⟩
  case round =>
    obtain ⟨c, hk, rfl, rfl, hb⟩ := hrel
    by_cases hlk : c < m
    · have hlj : m - 1 - c < m := by omega
      have hlk2 : c < m2 := by omega
      obtain ⟨x, hkx⟩ := get_lt r (m - 1 - c) (by rw [← Hn.out]; exact hlj)
      obtain ⟨y, hky⟩ := get_lt h c (by rw [← Hn2.out]; exact hlk2)
      obtain ⟨bb, oo, hix, hbb, hce⟩ := (Hrd.out.kept hb).at (P := Try.prog) (T := 22) m cap uslice sone hkx hlj
      obtain ⟨b2, o2, hix2, hbb2, hce2⟩ := (Hrd2.out.kept hb).at (P := Try.prog) (T := 22) m2 cap2 uslice sone hky hlk2
      have hch : wr.cell? ⟨gh, 0, none⟩ = some (.slice a2 m2 cap2) := by rw [hb.cell (by exact hg0)]; exact Hc.out
      obtain ⟨x1, x2⟩ := Hj.out.at hkx
      obtain ⟨y1, y2⟩ := Hi.out.at hky
      have hcast : ((m - 1 - c : Nat) : Int) = (m : Int) - 1 - c := by omega
      rw [hcast] at hix
      have hst := foldW_succ n wd k mode (fun i => at0 h i * at0 r (m - 1 - i)) c
      rw [show at0 h c = y from at0_of hky, show at0 r (m - 1 - c) = x from at0_of hkx] at hst
      have hm := mul_in y1 y2 x1 x2 (by omega)
      obtain ⟨z1, z2⟩ := foldW_in n wd k mode (fun i => at0 h i * at0 r (m - 1 - i)) c (by omega) n2
      have p1 : -100000000 ≤ y * x := by omega
      have p2 : y * x ≤ 100000000 := by omega
      obtain ⟨s1, s2⟩ := shift_s2 (y * x) k mode (by omega) (by omega) hk20
      obtain ⟨f1, f2⟩ := fitI_s2 n wd (shiftI (y * x) k mode) (by omega) n2
      generalize hz : foldW n wd k mode (fun i => at0 h i * at0 r (m - 1 - i)) c = z at *
      have Hst := hid hst
      clear hst hm hz hkx hky hcast
      have e1 : IntKind.i64.wrap (y * x) = y * x := IntWalk.i64_in _ (by omega)
      have e3 : IntKind.i64.wrap ((m : Int) - 1 - c) = (m : Int) - 1 - c := IntWalk.i64_in _ (by omega)
      have i1 : (0 : Int) ≤ (c : Int) := by omega
      have i2 : (c : Int) < (m : Int) := by omega
      go_wp2_with fail
      go_quiet (fail)
      clear e1 e3
      have e4 : IntKind.i64.wrap (z + fitI n wd (shiftI (y * x) k mode)) = z + fitI n wd (shiftI (y * x) k mode) := IntWalk.i64_in _ (by omega)
      go_wp2_with fail
      obtain ⟨k0, k1, k2, k3⟩ := cl_kept hb Hcl.out.1 Hcl.out.2.1 Hcl.out.2.2.1 Hcl.out.2.2.2
      go_region_held3 (fun W => W.cell? ⟨gw, 0, none⟩ = some (.int .i64 (n : Int)) ∧ W.cell? ⟨gw, 1, none⟩ = some (.bool wd) ∧ W.cell? ⟨gr, 0, none⟩ = some (.func (.func rf) #[] #[]) ∧ W.cell? ⟨gs, 0, none⟩ = some (.int .i64 (k : Int))) (first | exact hS | assumption | go_keep) (first | (go_at_call 55; refine (fit_any n wd _ _ (by omega) n2 ?_ ?_).mono ?_; rotate_left 2; rintro e w2 ⟨rfl, hb2⟩; (first | have hB := hB.trans (hb2.mono hB.size) | have hB := (below_drewN hb _).trans (hb2.mono hb.size)); have hS := cl_kept hB Hcl.out.1 Hcl.out.2.1 Hcl.out.2.2.1 Hcl.out.2.2.2; rotate_left; omega; omega) | (go_at_fn rf; refine (Hs.out.2 _ _ (by omega) (by omega)).mono ?_; rintro e w' ⟨rfl, rfl⟩))
      all_goals clear e4 s1 s2 f1 f2 k0 k1 k2 k3
      all_goals go_wp2
      all_goals go_roundw
      case rel => exact ⟨c + 1, by omega, by go_num, by rw [Hst.out], hB⟩
      case measure => simp [intOf]; omega
    · have hge : (m : Int) ≤ (c : Int) := by omega
      have hkn : c = m := by omega
      have Hk := hid hkn
      clear hlk hkn
      go_wp2
      go_ret
      exact ⟨ret_i (by rw [Hk.out, ← Hn.out]), hb⟩
end Go.Proofs.Ytogffkgihjdbkaa
