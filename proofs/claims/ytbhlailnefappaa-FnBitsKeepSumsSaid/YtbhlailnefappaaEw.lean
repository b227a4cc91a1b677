
import Derived.Test.YtbhlailnefappaaEv
import Derived.Test.YtbhlailnefappaaVb
namespace Go.Proofs.Ytbhlailnefappaa
open Go.RowKit BitX Go.MemX Go.ChV
set_option linter.unusedVariables false
theorem SSr.mine_ge {E F : TypeId} {B : Nat} {w : World} {v : Value} {vs : List Value} {xss : List (List Int)} (h : SSr E F B w v vs xss) {k : Nat} (hk : SSr.mine v vs k) : B ≤ k := by
  rcases hk with hk | ⟨u, hu, hk⟩
  · rcases h.row with ⟨rfl, _⟩ | ⟨g, cap, rfl, h2, _⟩
    · cases hk
    · cases hk; exact h2
  · exact h.ge u hu k hk
def ytR (m : Int) (s : List Int) : List (List Int) := match sdB m s with | true => tsL m s | false => []
theorem ssi_nil (B : Nat) (w : World) : SSi B w (.slice none 0 0) [] [] := ⟨rfl, fun i u xs h => by simp at h, fun i j u u' h => by simp at h, .inl ⟨rfl, rfl⟩⟩
theorem yt_no {w w' : World} {m : Int} {s : List Int} (h : sdB m s = false) (hb : Below w.heap.size w w') : GivesSS w (ytR m s) (sdB m s) (.returned (.tuple #[.slice none 0 0, .bool false])) w' := by
  unfold ytR; rw [h]; exact ⟨_, _, rfl, ssi_nil _ _, hb⟩
theorem yt_yes {w w' : World} {v : Value} {vs : List Value} {m : Int} {s : List Int} (h : sdB m s = true) (hv : SSi w.heap.size w' v vs (tsL m s)) (hb : Below w.heap.size w w') : GivesSS w (ytR m s) (sdB m s) (.returned (.tuple #[v, .bool true])) w' := by
  unfold ytR; rw [h]; exact ⟨_, _, rfl, hv, hb⟩
theorem lenS_ts (m : Int) (s : List Int) : lenS (tsL m s) = 2 * s.length := by
  unfold lenS tsL
  rw [List.map_map]
  have : ((List.range s.length).map (List.length ∘ prL m s)) = List.replicate s.length 2 := by
    apply List.eq_replicate_iff.2
    refine ⟨by simp, fun b hb => ?_⟩
    obtain ⟨i, _, rfl⟩ := List.mem_map.1 hb
    rfl
  rw [this, List.sum_replicate_nat]; omega
theorem yt_len (m : Int) (s : List Int) : (ytR m s).length ≤ 2000000 ∧ lenS (ytR m s) ≤ 2000000 := by
  unfold ytR
  cases h : sdB m s
  · exact ⟨Nat.zero_le _, Nat.zero_le _⟩
  · have := (sdB_t h).2.1.1
    exact ⟨by rw [tsL_len]; omega, by rw [lenS_ts]; omega⟩


set_option maxHeartbeats 1000000 in
theorem spec_TwoStates_is (m : Int) (v : Value) (s : List Int) (w : World) (hs : Sl w v s) :
    Calls Try.prog 23 #[.int .i64 m, v] w (GivesSS w (ytR m s) (sdB m s)) := by
  cases hq : sdB m s
  · have HS := hid hs
    have HQ := hid hq
    have HP := hid (fun (w' : World) (hb : Below w.heap.size w w') => yt_no (m := m) (s := s) hq hb)
    rw [hq] at HP
    clear hq hs
    go_enter Try.func23, Try.ntmps23
    go_wp2_with fail
    refine (spec_dmScaled_q m v s false _ HS.out HQ.out).mono ?_
    rintro e w' ⟨rfl, rfl⟩
    go_wp2_with fail
    go_ret2
    exact HP.out _ (Below.refl _ _)
  · obtain ⟨⟨m1, m2⟩, hsg, hin⟩ := sdB_t hq
    have HS := hid hs
    have HQ := hid hq
    have HG := hid hsg
    have HI := hid hin
    have HP := hid (fun (w' : World) (v : Value) (vs : List Value) (hv : SSi w.heap.size w' v vs (tsL m s)) (hb : Below w.heap.size w w') => yt_yes (m := m) (s := s) hq hv hb)
    rw [hq] at HP
    clear hq hs hsg hin
    go_enter Try.func23, Try.ntmps23
    go_wp2_with fail
    refine (spec_dmScaled_q m v s true _ HS.out HQ.out).mono ?_
    rintro e w' ⟨rfl, rfl⟩
    go_wp2_with fail
    refine (dmTwo_ss m v s _ HS.out HG.out.1 HI.out m1 m2).mono ?_
    rintro e w1 ⟨u1, u2, vs, rfl, hr, hb⟩
    go_wp2_with fail
    go_ret2
    exact HP.out _ _ _ hr hb


set_option maxHeartbeats 1000000 in
theorem impl_TwoStates_is (m : Int) (v : Value) (s : List Int) (w : World) (hs : Sl w v s) :
    Calls Try.prog 22 #[.int .i64 m, v] w (GivesSS w (ytR m s) (sdB m s)) := by
  cases hq : sdB m s
  · have HS := hid hs
    have HQ := hid hq
    have HP := hid (fun (w' : World) (hb : Below w.heap.size w w') => yt_no (m := m) (s := s) hq hb)
    rw [hq] at HP
    clear hq hs
    go_enter Try.func22, Try.ntmps22
    go_wp2_with fail
    refine (impl_IsScaled_q m v s false _ HS.out HQ.out).mono ?_
    rintro e w' ⟨rfl, rfl⟩
    go_wp2_with fail
    go_ret2
    exact HP.out _ (Below.refl _ _)
  · obtain ⟨⟨m1, m2⟩, hsg, hin⟩ := sdB_t hq
    have HS := hid hs
    have HQ := hid hq
    have HG := hid hsg
    have HI := hid hin
    have HP := hid (fun (w' : World) (v : Value) (vs : List Value) (hv : SSi w.heap.size w' v vs (tsL m s)) (hb : Below w.heap.size w w') => yt_yes (m := m) (s := s) hq hv hb)
    rw [hq] at HP
    clear hq hs hsg hin
    go_enter Try.func22, Try.ntmps22
    go_wp2_with fail
    refine (impl_IsScaled_q m v s true _ HS.out HQ.out).mono ?_
    rintro e w' ⟨rfl, rfl⟩
    go_wp2_with fail
    refine (runTwoBit_ss m v s _ HS.out HG.out.1 HI.out m1 m2).mono ?_
    rintro e w1 ⟨u1, u2, vs, rfl, hr, hb⟩
    go_wp2_with fail
    go_ret2
    exact HP.out _ _ _ hr hb


end Go.Proofs.Ytbhlailnefappaa
