
import Derived.Test.YtbhlailnefappaaSi
namespace Go.Proofs.Ytbhlailnefappaa
open Go.RowKit BitX Go.MemX

def InP (lo hi : Int) (xs : List Int) : Prop := ∀ x ∈ xs, lo ≤ x ∧ x ≤ hi
def SigP (xs : List Int) : Prop := xs.length ≤ 64 ∧ InP (-100000) 100000 xs
theorem InP.nil (lo hi : Int) : InP lo hi [] := fun _ h => by cases h
theorem InP.at {lo hi : Int} {xs : List Int} (h : InP lo hi xs) {k : Nat} {x : Int} (hx : xs[k]? = some x) : lo ≤ x ∧ x ≤ hi := h x (List.mem_of_getElem? hx)
theorem InP.step {lo hi : Int} {xs : List Int} {k : Nat} {x : Int} (h : InP lo hi (xs.take k)) (hx : xs[k]? = some x) (h1 : lo ≤ x) (h2 : x ≤ hi) : InP lo hi (xs.take (k + 1)) := by
  rw [take_step xs k x hx]
  intro y hy
  rcases List.mem_append.1 hy with hy | hy
  · exact h y hy
  · simp at hy; subst hy; exact ⟨h1, h2⟩
theorem InP.all {lo hi : Int} {xs : List Int} {k : Nat} (h : InP lo hi (xs.take k)) (hk : k = xs.length) : InP lo hi xs := by
  subst hk; rwa [List.take_length] at h

set_option maxHeartbeats 400000 in
theorem l1All_yes (v : Value) (xs : List Int) (lo hi : Int) (w : World) (hs : Sl w v xs) (hl : xs.length ≤ 2000000) (h : InP lo hi xs) :
    Calls Try.prog 90 #[v, .int .i64 lo, .int .i64 hi] w fun e w' => e = .returned (.bool true) ∧ w = w' := by
  have H := hid h
  clear h
  rcases hs with ⟨rfl, a, cap, rfl⟩ | ⟨b, off, n, cap, rfl, hn, h0, hc, hlt, hcell⟩
  · go_enter Try.func90, Try.ntmps90
    go_wp2_with fail
    refine wp_loop_rounds 1 ?_
    rw [rounds_succ]
    go_wp2
    go_ret
    exact ⟨rfl, rfl⟩
  · skip
    have Hn := hid hn
    have Hcell := hid hcell
    have hl' : n ≤ 2000000 := by omega
    clear hn hcell hl hlt
    go_enter Try.func90, Try.ntmps90
    go_wp2_with fail
    go_loop [11] (fun i => ∃ k : Nat, k ≤ n ∧ i = .int .i64 k ∧ Hid (InP lo hi (xs.take k)))
      (fun i => n - (intOf i).toNat)
    case atStart => exact ⟨0, by omega, rfl, InP.nil _ _⟩
    case round =>
      obtain ⟨k, hk, rfl, hin⟩ := hrel
      by_cases hlk : k < n
      · obtain ⟨x, hkx⟩ := get_lt xs k (by rw [← Hn.out]; exact hlk)
        have hce := Hcell.out k x hkx
        have Hkx := hid hkx
        have Hin := hid hin
        clear hkx hin
        have hx := H.out.at Hkx.out
        have Hx := hid hx
        clear hx
        go_wp2_with (go_at_call 63; refine (l1In_yes _ _ _ _ Hx.out.1 Hx.out.2).mono ?_; rintro e w' ⟨rfl, rfl⟩)
        go_round
        case rel => exact ⟨k + 1, by omega, by go_num, Hin.out.step Hkx.out Hx.out.1 Hx.out.2⟩
        case measure => simp [intOf]; omega
      · have hge : (n : Int) ≤ (k : Int) := by omega
        have hkn : k = xs.length := by rw [← Hn.out]; omega
        have Hk := hid hkn
        have Hin := hid hin
        clear hkn hlk hin
        go_wp2
        go_ret
        exact ⟨rfl, rfl⟩

set_option maxHeartbeats 400000 in
theorem l1All_no (v : Value) (xs : List Int) (lo hi : Int) (w : World) (hs : Sl w v xs) (hl : xs.length ≤ 2000000) (h : ¬ InP lo hi xs) :
    Calls Try.prog 90 #[v, .int .i64 lo, .int .i64 hi] w fun e w' => e = .returned (.bool false) ∧ w = w' := by
  have H := hid h
  clear h
  rcases hs with ⟨rfl, a, cap, rfl⟩ | ⟨b, off, n, cap, rfl, hn, h0, hc, hlt, hcell⟩
  · go_enter Try.func90, Try.ntmps90
    go_wp2_with fail
    refine wp_loop_rounds 1 ?_
    rw [rounds_succ]
    go_wp2
    exact absurd (InP.nil _ _) H.out
  · skip
    have Hn := hid hn
    have Hcell := hid hcell
    have hl' : n ≤ 2000000 := by omega
    clear hn hcell hl hlt
    go_enter Try.func90, Try.ntmps90
    go_wp2_with fail
    go_loop [11] (fun i => ∃ k : Nat, k ≤ n ∧ i = .int .i64 k ∧ Hid (InP lo hi (xs.take k)))
      (fun i => n - (intOf i).toNat)
    case atStart => exact ⟨0, by omega, rfl, InP.nil _ _⟩
    case round =>
      obtain ⟨k, hk, rfl, hin⟩ := hrel
      by_cases hlk : k < n
      · obtain ⟨x, hkx⟩ := get_lt xs k (by rw [← Hn.out]; exact hlk)
        have hce := Hcell.out k x hkx
        have Hkx := hid hkx
        have Hin := hid hin
        clear hkx hin
        by_cases hx : lo ≤ x ∧ x ≤ hi
        · have Hx := hid hx
          clear hx
          go_wp2_with (go_at_call 63; refine (l1In_yes _ _ _ _ Hx.out.1 Hx.out.2).mono ?_; rintro e w' ⟨rfl, rfl⟩)
          go_round
          case rel => exact ⟨k + 1, by omega, by go_num, Hin.out.step Hkx.out Hx.out.1 Hx.out.2⟩
          case measure => simp [intOf]; omega
        · have Hx := hid hx
          clear hx
          go_wp2_with (go_at_call 63; refine (l1In_no _ _ _ _ Hx.out).mono ?_; rintro e w' ⟨rfl, rfl⟩)
          go_ret
          exact ⟨rfl, rfl⟩
      · have hge : (n : Int) ≤ (k : Int) := by omega
        have hkn : k = xs.length := by rw [← Hn.out]; omega
        have Hk := hid hkn
        have Hin := hid hin
        clear hkn hlk hin
        exact absurd (Hin.out.all Hk.out) H.out

set_option maxHeartbeats 400000 in
theorem isSample_yes (x : Int) (w : World) (h1 : -100000 ≤ x) (h2 : x ≤ 100000) :
    Calls Try.prog 83 #[.int .i64 x] w fun e w' => e = .returned (.bool true) ∧ w = w' := by
  go_enter Try.func83, Try.ntmps83
  go_wp2
  go_ret
  exact ⟨rfl, rfl⟩
set_option maxHeartbeats 400000 in
theorem isSample_no (x : Int) (w : World) (h : ¬ (-100000 ≤ x ∧ x ≤ 100000)) :
    Calls Try.prog 83 #[.int .i64 x] w fun e w' => e = .returned (.bool false) ∧ w = w' := by
  by_cases nlt : x < -100000
  · clear h
    go_enter Try.func83, Try.ntmps83
    go_wp2
    go_ret
    exact ⟨rfl, rfl⟩
  · have nge : -100000 ≤ x := by omega
    have ngt : 100000 < x := by omega
    clear h nlt
    go_enter Try.func83, Try.ntmps83
    go_wp2
    go_ret
    exact ⟨ret_b (decide_eq_false (by omega)), rfl⟩

set_option maxHeartbeats 400000 in
theorem impl_IsSignal_yes (v : Value) (xs : List Int) (w : World) (hs : Sl w v xs) (hl : xs.length ≤ 2000000) (h : SigP xs) :
    Calls Try.prog 51 #[v] w fun e w' => e = .returned (.bool true) ∧ w = w' := by
  have H := hid h
  clear h
  rcases hs with ⟨rfl, a, cap, rfl⟩ | ⟨b, off, n, cap, rfl, hn, h0, hc, hlt, hcell⟩
  · go_enter Try.func51, Try.ntmps51
    go_wp2_with fail
    refine wp_loop_rounds 1 ?_
    rw [rounds_succ]
    go_wp2
    go_ret
    exact ⟨rfl, rfl⟩
  · skip
    have Hn := hid hn
    have Hcell := hid hcell
    have hl' : n ≤ 2000000 := by omega
    clear hn hcell hl hlt
    have hl64 : n ≤ 64 := by have := H.out.1; have := Hn.out; omega
    go_enter Try.func51, Try.ntmps51
    go_wp2_with fail
    go_loop [10] (fun i => ∃ k : Nat, k ≤ n ∧ i = .int .i64 k ∧ Hid (InP (-100000) 100000 (xs.take k)))
      (fun i => n - (intOf i).toNat)
    case atStart => exact ⟨0, by omega, rfl, InP.nil _ _⟩
    case round =>
      obtain ⟨k, hk, rfl, hin⟩ := hrel
      by_cases hlk : k < n
      · obtain ⟨x, hkx⟩ := get_lt xs k (by rw [← Hn.out]; exact hlk)
        have hce := Hcell.out k x hkx
        have Hkx := hid hkx
        have Hin := hid hin
        clear hkx hin
        obtain ⟨x1, x2⟩ := H.out.2.at Hkx.out
        go_wp2_with (go_at_call 83; refine (isSample_yes _ _ x1 x2).mono ?_; rintro e w' ⟨rfl, rfl⟩)
        go_round
        case rel => exact ⟨k + 1, by omega, by go_num, Hin.out.step Hkx.out x1 x2⟩
        case measure => simp [intOf]; omega
      · have hge : (n : Int) ≤ (k : Int) := by omega
        have hkn : k = xs.length := by rw [← Hn.out]; omega
        have Hk := hid hkn
        have Hin := hid hin
        clear hkn hlk hin
        go_wp2
        go_ret
        exact ⟨rfl, rfl⟩

set_option maxHeartbeats 400000 in
theorem impl_IsSignal_long (v : Value) (xs : List Int) (w : World) (hs : Sl w v xs) (h : 64 < xs.length) :
    Calls Try.prog 51 #[v] w fun e w' => e = .returned (.bool false) ∧ w = w' := by
  rcases hs with ⟨rfl, a, cap, rfl⟩ | ⟨b, off, n, cap, rfl, hn, h0, hc, hlt, hcell⟩
  · simp at h
  · have h6 : 64 < n := by omega
    clear hn h hcell hlt hc h0
    go_enter Try.func51, Try.ntmps51
    go_wp2
    go_ret
    exact ⟨rfl, rfl⟩

set_option maxHeartbeats 400000 in
theorem impl_IsSignal_out (v : Value) (xs : List Int) (w : World) (hs : Sl w v xs) (hl : xs.length ≤ 64) (h : ¬ InP (-100000) 100000 xs) :
    Calls Try.prog 51 #[v] w fun e w' => e = .returned (.bool false) ∧ w = w' := by
  have H := hid h
  clear h
  rcases hs with ⟨rfl, a, cap, rfl⟩ | ⟨b, off, n, cap, rfl, hn, h0, hc, hlt, hcell⟩
  · go_enter Try.func51, Try.ntmps51
    go_wp2_with fail
    refine wp_loop_rounds 1 ?_
    rw [rounds_succ]
    go_wp2
    exact absurd (InP.nil _ _) H.out
  · skip
    have Hn := hid hn
    have Hcell := hid hcell
    have hl' : n ≤ 64 := by omega
    clear hn hcell hl hlt
    go_enter Try.func51, Try.ntmps51
    go_wp2_with fail
    go_loop [10] (fun i => ∃ k : Nat, k ≤ n ∧ i = .int .i64 k ∧ Hid (InP (-100000) 100000 (xs.take k)))
      (fun i => n - (intOf i).toNat)
    case atStart => exact ⟨0, by omega, rfl, InP.nil _ _⟩
    case round =>
      obtain ⟨k, hk, rfl, hin⟩ := hrel
      by_cases hlk : k < n
      · obtain ⟨x, hkx⟩ := get_lt xs k (by rw [← Hn.out]; exact hlk)
        have hce := Hcell.out k x hkx
        have Hkx := hid hkx
        have Hin := hid hin
        clear hkx hin
        by_cases hx : -100000 ≤ x ∧ x ≤ 100000
        · obtain ⟨x1, x2⟩ := hx
          go_wp2_with (go_at_call 83; refine (isSample_yes _ _ x1 x2).mono ?_; rintro e w' ⟨rfl, rfl⟩)
          go_round
          case rel => exact ⟨k + 1, by omega, by go_num, Hin.out.step Hkx.out x1 x2⟩
          case measure => simp [intOf]; omega
        · have Hx := hid hx
          clear hx
          go_wp2_with (go_at_call 83; refine (isSample_no _ _ Hx.out).mono ?_; rintro e w' ⟨rfl, rfl⟩)
          go_ret
          exact ⟨rfl, rfl⟩
      · have hge : (n : Int) ≤ (k : Int) := by omega
        have hkn : k = xs.length := by rw [← Hn.out]; omega
        have Hk := hid hkn
        have Hin := hid hin
        clear hkn hlk hin
        exact absurd (Hin.out.all Hk.out) H.out

theorem impl_IsSignal_no (v : Value) (xs : List Int) (w : World) (hs : Sl w v xs) (h : ¬ SigP xs) :
    Calls Try.prog 51 #[v] w fun e w' => e = .returned (.bool false) ∧ w = w' := by
  by_cases hl : xs.length ≤ 64
  · exact impl_IsSignal_out v xs w hs hl fun hh => h ⟨hl, hh⟩
  · exact impl_IsSignal_long v xs w hs (by omega)

set_option maxHeartbeats 400000 in
theorem wdSignal_in (v : Value) (xs : List Int) (w : World) (hs : Sl w v xs) (hl : xs.length ≤ 64) (hi : InP (-100000) 100000 xs) :
    Calls Try.prog 81 #[v] w fun e w' => e = .returned (.bool true) ∧ w = w' := by
  have HI := hid hi
  clear hi
  rcases hs with ⟨rfl, a, cap, rfl⟩ | ⟨b, off, n, cap, rfl, hn, h0, hc, hlt, hcell⟩
  · have hs' : Sl w (.slice a 0 cap) [] := .inl ⟨rfl, a, cap, rfl⟩
    have HS := hid hs'
    clear hs'
    go_enter Try.func81, Try.ntmps81
    go_wp2_with fail
    refine (l1All_yes _ [] _ _ _ HS.out (by simp) HI.out).mono ?_
    rintro e w' ⟨rfl, rfl⟩
    go_wp2
    go_ret
    exact ⟨rfl, rfl⟩
  · have hs' : Sl w (.slice (some ⟨b, off, none⟩) n cap) xs := .inr ⟨b, off, n, cap, rfl, hn, h0, hc, hlt, hcell⟩
    have HS := hid hs'
    have h64 : n ≤ 64 := by omega
    have Hl := hid hl
    clear hs' hn hcell hlt hc h0 hl
    go_enter Try.func81, Try.ntmps81
    go_wp2_with fail
    refine (l1All_yes _ xs _ _ _ HS.out (Nat.le_trans Hl.out (by omega)) HI.out).mono ?_
    rintro e w' ⟨rfl, rfl⟩
    go_wp2
    go_ret
    exact ⟨rfl, rfl⟩

set_option maxHeartbeats 400000 in
theorem wdSignal_out (v : Value) (xs : List Int) (w : World) (hs : Sl w v xs) (hl : xs.length ≤ 64) (hi : ¬ InP (-100000) 100000 xs) :
    Calls Try.prog 81 #[v] w fun e w' => e = .returned (.bool false) ∧ w = w' := by
  have HI := hid hi
  clear hi
  rcases hs with ⟨rfl, a, cap, rfl⟩ | ⟨b, off, n, cap, rfl, hn, h0, hc, hlt, hcell⟩
  · have hs' : Sl w (.slice a 0 cap) [] := .inl ⟨rfl, a, cap, rfl⟩
    have HS := hid hs'
    clear hs'
    go_enter Try.func81, Try.ntmps81
    go_wp2_with fail
    refine (l1All_no _ [] _ _ _ HS.out (by simp) HI.out).mono ?_
    rintro e w' ⟨rfl, rfl⟩
    go_wp2
    go_ret
    exact ⟨rfl, rfl⟩
  · have hs' : Sl w (.slice (some ⟨b, off, none⟩) n cap) xs := .inr ⟨b, off, n, cap, rfl, hn, h0, hc, hlt, hcell⟩
    have HS := hid hs'
    have h64 : n ≤ 64 := by omega
    have Hl := hid hl
    clear hs' hn hcell hlt hc h0 hl
    go_enter Try.func81, Try.ntmps81
    go_wp2_with fail
    refine (l1All_no _ xs _ _ _ HS.out (Nat.le_trans Hl.out (by omega)) HI.out).mono ?_
    rintro e w' ⟨rfl, rfl⟩
    go_wp2
    go_ret
    exact ⟨rfl, rfl⟩

set_option maxHeartbeats 400000 in
theorem wdSignal_long (v : Value) (xs : List Int) (w : World) (hs : Sl w v xs) (h : 64 < xs.length) :
    Calls Try.prog 81 #[v] w fun e w' => e = .returned (.bool false) ∧ w = w' := by
  rcases hs with ⟨rfl, a, cap, rfl⟩ | ⟨b, off, n, cap, rfl, hn, h0, hc, hlt, hcell⟩
  · simp at h
  · have h6 : 64 < n := by omega
    clear hn h hcell hlt hc h0
    go_enter Try.func81, Try.ntmps81
    go_wp2
    go_ret
    exact ⟨rfl, rfl⟩

theorem wdSignal_yes (v : Value) (xs : List Int) (w : World) (hs : Sl w v xs) (h : SigP xs) :
    Calls Try.prog 81 #[v] w fun e w' => e = .returned (.bool true) ∧ w = w' := by
  exact wdSignal_in v xs w hs h.1 h.2

theorem wdSignal_no (v : Value) (xs : List Int) (w : World) (hs : Sl w v xs) (h : ¬ SigP xs) :
    Calls Try.prog 81 #[v] w fun e w' => e = .returned (.bool false) ∧ w = w' := by
  by_cases hl : xs.length ≤ 64
  · exact wdSignal_out v xs w hs hl fun hh => h ⟨hl, hh⟩
  · exact wdSignal_long v xs w hs (by omega)
end Go.Proofs.Ytbhlailnefappaa
