
import Derived.Test.YtkpfcaipbhfgkaaHb
namespace Go.MemX
open Go Go.RowKit
set_option linter.unusedVariables false
/-- the filter marked with the numbers from q on -/
def mFo (q : Int) : Fo := ⟨q, q + 1, q + 1 + 1, q + 1 + 1 + 1, ((q + 1 + 1 + 1 + 1) % 3 == 0)⟩
/-- n filters marked with the numbers from k on -/
def mkF (k n : Nat) : List Fo := (List.range n).map fun i => mFo ((k + 5 * i : Nat) : Int)
theorem mkF_len (k n : Nat) : (mkF k n).length = n := by simp [mkF]
theorem mkF_get (k n i : Nat) (h : i < n) : (mkF k n)[i]? = some (mFo ((k + 5 * i : Nat) : Int)) := by simp [mkF, h]
/-- marked up to i, the old filters behind -/
def mFd (fs : List Fo) (k i : Nat) : List Fo := mkF k i ++ fs.drop i
theorem mFd_zero (fs : List Fo) (k : Nat) : mFd fs k 0 = fs := by simp [mFd, mkF]
theorem mFd_full (fs : List Fo) (k : Nat) : mFd fs k fs.length = mkF k fs.length := by simp [mFd]
theorem mFd_len (fs : List Fo) (k i : Nat) (h : i ≤ fs.length) : (mFd fs k i).length = fs.length := by simp [mFd, mkF_len]; omega
theorem mFd_step (fs : List Fo) (k i : Nat) (h : i < fs.length) : (mFd fs k i).set i (mFo ((k + 5 * i : Nat) : Int)) = mFd fs k (i + 1) := by
  unfold mFd
  rw [List.set_append_right _ _ (by simp [mkF_len]), mkF_len, Nat.sub_self]
  have e : mkF k (i + 1) = mkF k i ++ [mFo ((k + 5 * i : Nat) : Int)] := by simp [mkF, List.range_succ]
  rw [e, List.append_assoc]
  congr 1
  rw [List.drop_eq_getElem_cons h]; rfl
theorem FRes.form {E : TypeId} {B : Nat} {w : World} {v : Value} {fs : List Fo} (h : FRes E B w v fs) (hp : 0 < fs.length) : ∃ g cap, v = .slice (some ⟨g, 0, none⟩) fs.length cap ∧ B ≤ g ∧ FRow E w g cap fs := by
  rcases h with ⟨rfl, _⟩ | h
  · simp at hp
  · exact h
theorem FRow.res {E : TypeId} {B g cap : Nat} {w : World} {fs : List Fo} (h : FRow E w g cap fs) (hB : B ≤ g) : FRes E B w (.slice (some ⟨g, 0, none⟩) fs.length cap) fs := .inr ⟨g, cap, rfl, hB, h⟩
end Go.MemX
namespace Go.Proofs.Ytkpfcaipbhfgkaa
open Go.RowKit BitX Go.MemX
set_option linter.unusedVariables false


set_option maxHeartbeats 2000000 in
theorem markFirstS_res (v : Value) (fs : List Fo) (k B : Nat) (w : World) (hv : FRi B w v fs) (hl : fs.length ≤ 2000000) (hk : k ≤ 100000000) :
    Calls Try.prog 19 #[v, .int .i64 (k : Int)] w fun e w' => e = .returned (.int .i64 ((k + 5 * fs.length : Nat) : Int)) ∧ OnlyV v w w' ∧ FRi B w' v (mkF k fs.length) := by
  by_cases hz : fs.length = 0
  · obtain ⟨a, n, cap, rfl, hn, _⟩ := hv.sl
    have Hv := hid hv
    have Hz := hid hz
    clear hv
    rw [hz] at hn
    subst hn
    go_enter Try.func19, Try.ntmps19
    go_wp2_with fail
    refine wp_loop_rounds 1 ?_
    rw [rounds_succ]
    go_wp2
    go_ret
    refine ⟨ret_i (by rw [Hz.out]; rfl), OnlyV.refl _ _, ?_⟩
    have h0 : fs = [] := List.length_eq_zero_iff.1 Hz.out
    have := Hv.out
    rw [h0] at this ⊢
    exact this
  · obtain ⟨g, cap, rfl, hB, hrow⟩ := hv.form (by omega)
    obtain ⟨n, hn0⟩ : ∃ n, n = fs.length := ⟨_, rfl⟩
    have HB := hid hB
    have Hrow0 := hid hrow
    rw [← hn0] at hl hz ⊢
    have Hn := hid hn0
    clear hv hB hrow hn0 hz
    go_enter Try.func19, Try.ntmps19
    go_wp2_with fail
    go_loopw [1, 5] (fun kk i wr => ∃ j : Nat, j ≤ n ∧ i = .int .i64 j ∧ kk = .int .i64 ((k + 5 * j : Nat) : Int) ∧ OnlyV (.slice (some ⟨g, 0, none⟩) n cap) w wr ∧ FRow 49 wr g cap (mFd fs k j))
      (fun _ i _ => n - (intOf i).toNat)
    case atStart => exact ⟨0, by omega, rfl, rfl, OnlyV.refl _ _, by rw [mFd_zero]; exact Hrow0.out⟩
    case round =>
      obtain ⟨j, hj, rfl, rfl, ho, hrow⟩ := hrel
      by_cases hlk : j < n
      · obtain ⟨f, hkf⟩ := get_lt (mFd fs k j) j (by rw [mFd_len fs k j (by rw [← Hn.out]; exact hj), ← Hn.out]; exact hlk)
        obtain ⟨h0, h1, h2, h3, h4⟩ := hrow.five hkf
        have q0 := hrow.free (j * 5)
        have q1 := hrow.free (j * 5 + 1)
        have q2 := hrow.free (j * 5 + 2)
        have q3 := hrow.free (j * 5 + 3)
        have q4 := hrow.free (j * 5 + 4)
        have Hset := hid (hrow.set (k := j) (by rw [mFd_len fs k j (by rw [← Hn.out]; exact hj), ← Hn.out]; exact hlk) (mFo ((k + 5 * j : Nat) : Int)))
        have Hst := hid (mFd_step fs k j (by rw [← Hn.out]; exact hlk))
        have Ho := hid ho
        have i1 : (0 : Int) ≤ (j : Int) := by omega
        have i2 : (j : Int) < (n : Int) := by omega
        have p1 : (0 : Int) ≤ ((k + 5 * j : Nat) : Int) := by omega
        have p2 : ((k + 5 * j : Nat) : Int) ≤ 110000000 := by omega
        obtain ⟨q, hq⟩ : ∃ q : Int, q = ((k + 5 * j : Nat) : Int) := ⟨_, rfl⟩
        rw [← hq] at Hset Hst p1 p2 ⊢
        have Hq := hid hq
        clear hkf hrow ho hq
        go_wp2
        go_roundw
        case rel => exact ⟨j + 1, by omega, by go_num, by have := Hq.out; go_num, ((((Ho.out.set _ _).set _ _).set _ _).set _ _).set _ _, by rw [← Hst.out]; exact Hset.out⟩
        case measure => simp [intOf]; omega
      · have hge : (n : Int) ≤ (j : Int) := by omega
        have hjn : j = n := by omega
        have Hj := hid hjn
        have Hrow := hid hrow
        clear hlk hrow hjn
        go_wp2
        go_ret
        have h2 := Hrow.out
        rw [Hj.out, Hn.out, mFd_full, ← Hn.out] at h2
        have h3 := h2.res HB.out
        rw [mkF_len] at h3
        exact ⟨ret_i (by rw [Hj.out]), ho, h3⟩

set_option maxHeartbeats 2000000 in
theorem heldFirstS_res (v : Value) (m k : Nat) (w : World) (hv : FSl w v (mkF k m)) (hl : m ≤ 2000000) (hk : k ≤ 100000000) :
    Calls Try.prog 21 #[v, .int .i64 (k : Int)] w fun e w' => e = .returned (.int .i64 ((k + 5 * m : Nat) : Int)) ∧ w = w' := by
  obtain ⟨a, n, cap, rfl, hn, hrd⟩ := hv
  rw [mkF_len] at hn
  subst hn
  have Hrd := hid hrd
  clear hrd
  go_enter Try.func21, Try.ntmps21
  go_wp2_with fail
  go_loop [1, 5] (fun kk i => ∃ j : Nat, j ≤ n ∧ i = .int .i64 j ∧ kk = .int .i64 ((k + 5 * j : Nat) : Int))
    (fun _ i => n - (intOf i).toNat)
  case atStart => exact ⟨0, by omega, rfl, rfl⟩
  case round =>
    obtain ⟨j, hj, rfl, rfl⟩ := hrel
    by_cases hlk : j < n
    · obtain ⟨bb, oo, hix, hbb, h0, h1, h2, h3, h4⟩ := Hrd.out.at (P := Try.prog) (T := 25) n cap usliceF sfiveF (mkF_get k n j hlk) hlk
      have i1 : (0 : Int) ≤ (j : Int) := by omega
      have i2 : (j : Int) < (n : Int) := by omega
      have p1 : (0 : Int) ≤ ((k + 5 * j : Nat) : Int) := by omega
      have p2 : ((k + 5 * j : Nat) : Int) ≤ 110000000 := by omega
      obtain ⟨q, hq⟩ : ∃ q : Int, q = ((k + 5 * j : Nat) : Int) := ⟨_, rfl⟩
      rw [← hq] at h0 h1 h2 h3 h4 p1 p2 ⊢
      simp only [mFo] at h0 h1 h2 h3 h4
      have Hq := hid hq
      clear hq
      go_wp2
      go_round
      case rel => exact ⟨j + 1, by omega, by go_num, by have := Hq.out; go_num⟩
      case measure => simp [intOf]; omega
    · have hge : (n : Int) ≤ (j : Int) := by omega
      have hjn : j = n := by omega
      have Hj := hid hjn
      clear hlk hjn
      go_wp2
      go_ret
      exact ⟨ret_i (by rw [Hj.out]), rfl⟩

end Go.Proofs.Ytkpfcaipbhfgkaa
