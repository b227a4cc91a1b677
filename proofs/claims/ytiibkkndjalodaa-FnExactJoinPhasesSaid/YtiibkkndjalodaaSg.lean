
import Derived.Test.YtiibkkndjalodaaSi
namespace Go.Proofs.Ytiibkkndjalodaa
open Go.RowKit BitX Go.MemX

def InP (lo hi : Int) (xs : List Int) : Prop := ∀ x ∈ xs, lo ≤ x ∧ x ≤ hi
def SigP (xs : List Int) : Prop := xs.length ≤ 64 ∧ InP (-100000) 100000 xs
theorem InP.nil (lo hi : Int) : InP lo hi [] := fun _ h => by cases h
theorem InP.at {lo hi : Int} {xs : List Int} (h : InP lo hi xs) {k : Nat} {x : Int} (hx : xs[k]? = some x) : lo ≤ x ∧ x ≤ hi := h x (List.mem_of_getElem? hx)
theorem InP.step {lo hi : Int} {xs : List Int} {k : Nat} {x : Int} (h : InP lo hi (xs.take k)) (hx : xs[k]? = some x) (h1 : lo ≤ x) (h2 : x ≤ hi) : InP lo hi (xs.take (k + 1)) := by
  rw [take_step xs k x hx]
  intro y hy
  rcases List.mem_append.1 hy with hy | hy
  · exact h y hy
  · simp at hy; subst hy; exact ⟨h1, h2⟩
theorem InP.all {lo hi : Int} {xs : List Int} {k : Nat} (h : InP lo hi (xs.take k)) (hk : k = xs.length) : InP lo hi xs := by
  subst hk; rwa [List.take_length] at h

set_option maxHeartbeats 400000 in
theorem l1All_yes (v : Value) (xs : List Int) (lo hi : Int) (w : World) (hs : Sl w v xs) (hl : xs.length ≤ 2000000) (h : InP lo hi xs) :
    Calls Try.prog 25 #[v, .int .i64 lo, .int .i64 hi] w fun e w' => e = .returned (.bool true) ∧ w = w' := by
  have H := hid h
  clear h
  rcases hs with ⟨rfl, a, cap, rfl⟩ | ⟨b, off, n, cap, rfl, hn, h0, hc, hlt, hcell⟩
  · go_enter Try.func25, Try.ntmps25
    go_wp2_with fail
    refine wp_loop_rounds 1 ?_
    rw [rounds_succ]
    go_wp2
    go_ret
    exact ⟨rfl, rfl⟩
  · skip
    have Hn := hid hn
    have Hcell := hid hcell
    have hl' : n ≤ 2000000 := by omega
    clear hn hcell hl hlt
    go_enter Try.func25, Try.ntmps25
    go_wp2_with fail
    go_loop [11] (fun i => ∃ k : Nat, k ≤ n ∧ i = .int .i64 k ∧ Hid (InP lo hi (xs.take k)))
      (fun i => n - (intOf i).toNat)
    case atStart => exact ⟨0, by omega, rfl, InP.nil _ _⟩
    case round =>
      obtain ⟨k, hk, rfl, hin⟩ := hrel
      by_cases hlk : k < n
      · obtain ⟨x, hkx⟩ := get_lt xs k (by rw [← Hn.out]; exact hlk)
        have hce := Hcell.out k x hkx
        have Hkx := hid hkx
        have Hin := hid hin
        clear hkx hin
        have hx := H.out.at Hkx.out
        have Hx := hid hx
        clear hx
        go_wp2_with (go_at_call 14; refine (l1In_yes _ _ _ _ Hx.out.1 Hx.out.2).mono ?_; rintro e w' ⟨rfl, rfl⟩)
        go_round
        case rel => exact ⟨k + 1, by omega, by go_num, Hin.out.step Hkx.out Hx.out.1 Hx.out.2⟩
        case measure => simp [intOf]; omega
      · have hge : (n : Int) ≤ (k : Int) := by omega
        have hkn : k = xs.length := by rw [← Hn.out]; omega
        have Hk := hid hkn
        have Hin := hid hin
        clear hkn hlk hin
        go_wp2
        go_ret
        exact ⟨rfl, rfl⟩

set_option maxHeartbeats 400000 in
theorem l1All_no (v : Value) (xs : List Int) (lo hi : Int) (w : World) (hs : Sl w v xs) (hl : xs.length ≤ 2000000) (h : ¬ InP lo hi xs) :
    Calls Try.prog 25 #[v, .int .i64 lo, .int .i64 hi] w fun e w' => e = .returned (.bool false) ∧ w = w' := by
  have H := hid h
  clear h
  rcases hs with ⟨rfl, a, cap, rfl⟩ | ⟨b, off, n, cap, rfl, hn, h0, hc, hlt, hcell⟩
  · go_enter Try.func25, Try.ntmps25
    go_wp2_with fail
    refine wp_loop_rounds 1 ?_
    rw [rounds_succ]
    go_wp2
    exact absurd (InP.nil _ _) H.out
  · skip
    have Hn := hid hn
    have Hcell := hid hcell
    have hl' : n ≤ 2000000 := by omega
    clear hn hcell hl hlt
    go_enter Try.func25, Try.ntmps25
    go_wp2_with fail
    go_loop [11] (fun i => ∃ k : Nat, k ≤ n ∧ i = .int .i64 k ∧ Hid (InP lo hi (xs.take k)))
      (fun i => n - (intOf i).toNat)
    case atStart => exact ⟨0, by omega, rfl, InP.nil _ _⟩
    case round =>
      obtain ⟨k, hk, rfl, hin⟩ := hrel
      by_cases hlk : k < n
      · obtain ⟨x, hkx⟩ := get_lt xs k (by rw [← Hn.out]; exact hlk)
        have hce := Hcell.out k x hkx
        have Hkx := hid hkx
        have Hin := hid hin
        clear hkx hin
        by_cases hx : lo ≤ x ∧ x ≤ hi
        · have Hx := hid hx
          clear hx
          go_wp2_with (go_at_call 14; refine (l1In_yes _ _ _ _ Hx.out.1 Hx.out.2).mono ?_; rintro e w' ⟨rfl, rfl⟩)
          go_round
          case rel => exact ⟨k + 1, by omega, by go_num, Hin.out.step Hkx.out Hx.out.1 Hx.out.2⟩
          case measure => simp [intOf]; omega
        · have Hx := hid hx
          clear hx
          go_wp2_with (go_at_call 14; refine (l1In_no _ _ _ _ Hx.out).mono ?_; rintro e w' ⟨rfl, rfl⟩)
          go_ret
          exact ⟨rfl, rfl⟩
      · have hge : (n : Int) ≤ (k : Int) := by omega
        have hkn : k = xs.length := by rw [← Hn.out]; omega
        have Hk := hid hkn
        have Hin := hid hin
        clear hkn hlk hin
        exact absurd (Hin.out.all Hk.out) H.out

set_option maxHeartbeats 400000 in
theorem isSample_yes (x : Int) (w : World) (h1 : -100000 ≤ x) (h2 : x ≤ 100000) :
    Calls Try.prog 26 #[.int .i64 x] w fun e w' => e = .returned (.bool true) ∧ w = w' := by
  go_enter Try.func26, Try.ntmps26
  go_wp2
  go_ret
  exact ⟨rfl, rfl⟩
set_option maxHeartbeats 400000 in
theorem isSample_no (x : Int) (w : World) (h : ¬ (-100000 ≤ x ∧ x ≤ 100000)) :
    Calls Try.prog 26 #[.int .i64 x] w fun e w' => e = .returned (.bool false) ∧ w = w' := by
  by_cases nlt : x < -100000
  · clear h
    go_enter Try.func26, Try.ntmps26
    go_wp2
    go_ret
    exact ⟨rfl, rfl⟩
  · have nge : -100000 ≤ x := by omega
    have ngt : 100000 < x := by omega
    clear h nlt
    go_enter Try.func26, Try.ntmps26
    go_wp2
    go_ret
    exact ⟨ret_b (decide_eq_false (by omega)), rfl⟩

end Go.Proofs.Ytiibkkndjalodaa
