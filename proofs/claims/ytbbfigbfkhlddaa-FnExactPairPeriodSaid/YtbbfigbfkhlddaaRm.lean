
import Derived.Test.YtbbfigbfkhlddaaRe
import Derived.Test.YtbbfigbfkhlddaaSi
namespace Go.Proofs.Ytbbfigbfkhlddaa
open Go.RowKit BitX Go.MemX

set_option maxHeartbeats 400000 in
theorem markIntS_res (v : Value) (xs : List Int) (k B : Nat) (w : World) (hv : Res 3 B w v xs) (hl : xs.length ≤ 2000000) (hk : k ≤ 1000000000) :
    Calls Try.prog 11 #[v, .int .i64 (k : Int)] w fun e w' => e = .returned (.int .i64 ((k + xs.length : Nat) : Int)) ∧ OnlyV v w w' ∧ Res 3 B w' v (marks k xs.length) := by
  rcases hv with ⟨rfl, rfl⟩ | ⟨g, c, rfl, hB, hb⟩
  · go_enter Try.func11, Try.ntmps11
    go_wp2
    refine wp_loop_rounds 1 ?_
    rw [rounds_succ]
    go_wp2
    go_ret
    exact ⟨rfl, OnlyV.refl _ _, .inl ⟨rfl, rfl⟩⟩
  · obtain ⟨n, hn⟩ : ∃ n, n = xs.length := ⟨_, rfl⟩
    rw [← hn]
    have Hn := hid hn
    have Hb := hid hb
    have hl' : n ≤ 2000000 := by omega
    clear hn hb hl
    go_enter Try.func11, Try.ntmps11
    go_wp2
    go_loopw [1, 5] (fun m i wr => ∃ j : Nat, j ≤ n ∧ i = .int .i64 j ∧ m = .int .i64 ((k + j : Nat) : Int) ∧ OnlyV (.slice (some ⟨g, 0, none⟩) n c) w wr ∧ RowB 3 wr g c (marked xs k j))
      (fun _ i _ => n - (intOf i).toNat)
    case atStart => exact ⟨0, by omega, rfl, rfl, OnlyV.refl _ _, by rw [marked_zero]; exact Hb.out⟩
    case round =>
      obtain ⟨j, hj, rfl, rfl, ho, hblk⟩ := hrel
      by_cases hlk : j < n
      · obtain ⟨x, hx⟩ := marked_get xs k j (by rw [← Hn.out]; exact hlk)
        have hcd : wr.cell? ⟨g, j, none⟩ = some (.int .i64 x) := hblk.cell hx
        have hfd := hblk.free j
        have Hblk := hid hblk
        clear hx hblk
        go_wp2
        go_roundw
        case rel => exact ⟨j + 1, by omega, by go_num, by go_num, ho.set _ _, by rw [← marked_step xs k j (by rw [← Hn.out]; exact hlk)]; first | exact Hblk.out.set j _ | (simpa using Hblk.out.set j _)⟩
        case measure => simp [intOf]; omega
      · have hge : (n : Int) ≤ (j : Int) := by omega
        have hjn : j = n := by omega
        have Hj := hid hjn
        have Hblk := hid hblk
        clear hlk hblk hjn
        go_wp2
        go_ret
        refine ⟨by rw [Hj.out]; rfl, ho, .inr ⟨g, c, by rw [marks_len], hB, ?_⟩⟩
        have := Hblk.out
        rw [Hj.out, Hn.out, marked_full, ← Hn.out] at this
        exact this

set_option maxHeartbeats 400000 in
theorem heldIntS_res (v : Value) (n k B : Nat) (w : World) (hv : Res 3 B w v (marks k n)) (hl : n ≤ 2000000) (hk : k ≤ 1000000000) :
    Calls Try.prog 12 #[v, .int .i64 (k : Int)] w fun e w' => e = .returned (.int .i64 ((k + n : Nat) : Int)) ∧ w = w' := by
  rcases hv with ⟨h0, rfl⟩ | ⟨g, c, hvv, hB, hb⟩
  · have hn0 : n = 0 := by have := congrArg List.length h0; rwa [marks_len] at this
    subst hn0
    clear h0
    go_enter Try.func12, Try.ntmps12
    go_wp2
    refine wp_loop_rounds 1 ?_
    rw [rounds_succ]
    go_wp2
    go_ret
    exact ⟨rfl, rfl⟩
  · rw [marks_len] at hvv
    subst hvv
    have Hb := hid hb
    clear hb
    go_enter Try.func12, Try.ntmps12
    go_wp2
    go_loop [1, 5] (fun m i => ∃ j : Nat, j ≤ n ∧ i = .int .i64 j ∧ m = .int .i64 ((k + j : Nat) : Int))
      (fun _ i => n - (intOf i).toNat)
    case atStart => exact ⟨0, by omega, rfl, rfl⟩
    case round =>
      obtain ⟨j, hj, rfl, rfl⟩ := hrel
      by_cases hlk : j < n
      · have hcd : w.cell? ⟨g, j, none⟩ = some (.int .i64 ((k + j : Nat) : Int)) := Hb.out.cell (marks_get k n j hlk)
        go_wp2
        go_round
        case rel => exact ⟨j + 1, by omega, by go_num, by go_num⟩
        case measure => simp [intOf]; omega
      · have hge : (n : Int) ≤ (j : Int) := by omega
        have hjn : j = n := by omega
        have Hj := hid hjn
        clear hlk hjn
        go_wp2
        go_ret
        exact ⟨by rw [Hj.out]; rfl, rfl⟩

/-- what a call leaves that hands back a new list and a bool -/
def Gives (w : World) (xs : List Int) (ok : Bool) (e : Ending) (w' : World) : Prop :=
  ∃ v, e = .returned (.tuple #[v, .bool ok]) ∧ Res 3 w.heap.size w' v xs ∧ Below w.heap.size w w'
/-- what a call leaves that hands back a new list alone -/
def GivesL (w : World) (xs : List Int) (e : Ending) (w' : World) : Prop :=
  ∃ v, e = .returned v ∧ Res 3 w.heap.size w' v xs ∧ Below w.heap.size w w'

theorem markIntS_one (v : Value) (xs : List Int) (B : Nat) (w : World) (hv : Res 3 B w v xs) (hl : xs.length ≤ 2000000) :
    Calls Try.prog 11 #[v, .int .i64 1] w fun e w' => e = .returned (.int .i64 ((1 + xs.length : Nat) : Int)) ∧ OnlyV v w w' ∧ Res 3 B w' v (marks 1 xs.length) :=
  markIntS_res v xs 1 B w hv hl (by omega)
theorem heldIntS_one (v : Value) (n B : Nat) (w : World) (hv : Res 3 B w v (marks 1 n)) (hl : n ≤ 2000000) :
    Calls Try.prog 12 #[v, .int .i64 1] w fun e w' => e = .returned (.int .i64 ((1 + n : Nat) : Int)) ∧ w = w' :=
  heldIntS_res v n 1 B w hv hl (by omega)
end Go.Proofs.Ytbbfigbfkhlddaa
