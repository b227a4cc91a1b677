
import Derived.Test.YthgdpmhpieakhaaQf
namespace Go.Proofs.Ythgdpmhpieakhaa
open Go.RowKit BitX Go.MemX Go.ShX Go.ChV
set_option linter.unusedVariables false
theorem mostI_max (a b : Int) : mostI a b = max a b := by unfold mostI; split <;> omega
theorem sgL_in (s : List Int) (k : Nat) (mode order : Int) (hk : (2 : Int) ^ k ≤ 1024) (h : s.length ≤ 64) : InP (-1000000) 1000000 (sgL s k mode order) := by
  intro x hx
  unfold sgL tab at hx
  obtain ⟨i, hi, rfl⟩ := List.mem_map.1 hx
  have := gpS_in s k mode order hk (i + 1) (by have := List.mem_range.1 hi; omega)
  omega
def ggI (s : List Int) (k mode order : Int) : Int := onB (spB s k mode order) (pkM (sgL s k.toNat mode order)) 0
theorem ret_ib' {a b : Int} {c d : Bool} (h1 : a = b) (h2 : c = d) : Ending.returned (.tuple #[.int .i64 a, .bool c]) = .returned (.tuple #[.int .i64 b, .bool d]) := by rw [h1, h2]


set_option maxHeartbeats 1000000 in
theorem spec_GreatestShapeGap_is (v : Value) (s : List Int) (k mode order : Int) (w : World) (hs : Sl w v s) :
    Calls Try.prog 13 #[v, .int .i64 k, .int .i64 mode, .int .i64 order] w fun e w' => e = .returned (.tuple #[.int .i64 (ggI s k mode order), .bool (spB s k mode order)]) ∧ Below w.heap.size w w' := by
  cases hq : spB s k mode order
  · have HS := hid hs
    have HR := hid (show ggI s k mode order = 0 from by unfold ggI; rw [hq]; rfl)
    have HQ := hid hq
    clear hq hs
    go_enter Try.func13, Try.ntmps13
    go_wp2_with fail
    refine (dmShaped_q v s k mode order false _ HS.out HQ.out).mono ?_
    rintro e w' ⟨rfl, rfl⟩
    go_wp2_with fail
    go_ret2
    exact ⟨ret_ib' HR.out.symm rfl, Below.refl _ _⟩
  · obtain ⟨hsg, ⟨k1, k2⟩, hm, ho⟩ := spB_t hq
    obtain ⟨n, rfl⟩ : ∃ n : Nat, k = n := ⟨k.toNat, by omega⟩
    have HS := hid hs
    have HR := hid (show ggI s (n : Int) mode order = pkM (sgL s n mode order) from by unfold ggI; rw [hq]; rfl)
    have HQ := hid hq
    have HG := hid hsg
    have HL := hid (show (sgL s n mode order).length ≤ 2000 from by have := hsg.1; rw [sgL, tab_len]; omega)
    have hin := sgL_in s n mode order (pow10 n (by omega)).2 hsg.1
    have HIN := hid (show InP (-10000000000) 10000000000 (sgL s n mode order) from fun x hx => by have := hin x hx; omega)
    have HM := hid (show mode = 0 ∨ mode = 1 ∨ mode = 2 from by omega)
    have HO := hid ho
    clear hq hs hsg hm ho hin
    go_enter Try.func13, Try.ntmps13
    go_wp2_with fail
    refine (dmShaped_q v s n mode order true _ HS.out HQ.out).mono ?_
    rintro e w' ⟨rfl, rfl⟩
    go_wp2_with fail
    refine (dmGaps_any v s n mode order _ HS.out HG.out.1 HG.out.2 (by omega) HM.out HO.out).mono ?_
    rintro e w1 ⟨u1, rfl, hr1, hb⟩
    have HR1 := hid hr1
    clear hr1
    go_wp2_with fail
    refine (wdPeakM_any _ _ _ HR1.out.sl HL.out HIN.out).mono ?_
    rintro e w' ⟨rfl, rfl⟩
    go_wp2_with fail
    go_ret2
    exact ⟨ret_ib' HR.out.symm rfl, hb⟩


set_option maxHeartbeats 1000000 in
theorem impl_GreatestShapeGap_is (v : Value) (s : List Int) (k mode order : Int) (w : World) (hs : Sl w v s) :
    Calls Try.prog 12 #[v, .int .i64 k, .int .i64 mode, .int .i64 order] w fun e w' => e = .returned (.tuple #[.int .i64 (ggI s k mode order), .bool (spB s k mode order)]) ∧ Below w.heap.size w w' := by
  cases hq : spB s k mode order
  · have HS := hid hs
    have HR := hid (show ggI s k mode order = 0 from by unfold ggI; rw [hq]; rfl)
    have HQ := hid hq
    clear hq hs
    go_enter Try.func12, Try.ntmps12
    go_wp2_with fail
    refine (canShape_q v s k mode order false _ HS.out HQ.out).mono ?_
    rintro e w' ⟨rfl, rfl⟩
    go_wp2_with fail
    go_ret2
    exact ⟨ret_ib' HR.out.symm rfl, Below.refl _ _⟩
  · obtain ⟨hsg, ⟨k1, k2⟩, hm, ho⟩ := spB_t hq
    obtain ⟨n, rfl⟩ : ∃ n : Nat, k = n := ⟨k.toNat, by omega⟩
    have HS := hid hs
    have HR := hid (show ggI s (n : Int) mode order = pkM (sgL s n mode order) from by unfold ggI; rw [hq]; rfl)
    have HQ := hid hq
    have HG := hid hsg
    have HL := hid (show (sgL s n mode order).length ≤ 2000 from by have := hsg.1; rw [sgL, tab_len]; omega)
    have hin := sgL_in s n mode order (pow10 n (by omega)).2 hsg.1
    have HIN := hid (show InP (-10000000000) 10000000000 (sgL s n mode order) from fun x hx => by have := hin x hx; omega)
    have HM := hid (show mode = 0 ∨ mode = 1 ∨ mode = 2 from by omega)
    have HO := hid ho
    clear hq hs hsg hm ho hin
    go_enter Try.func12, Try.ntmps12
    go_wp2_with fail
    refine (canShape_q v s n mode order true _ HS.out HQ.out).mono ?_
    rintro e w' ⟨rfl, rfl⟩
    go_wp2_with fail
    refine (shapedSums_any v s n mode order _ HS.out HG.out.1 HG.out.2 (by omega) HM.out HO.out).mono ?_
    rintro e w1 ⟨u1, rfl, hr1, hb⟩
    obtain ⟨aa, m, cap, rfl, hn, hrd⟩ := id hr1.sl.rd
    have Hn := hid hn
    have Hrd := hid hrd
    have HB := hid hb
    have hl' : m ≤ 64 := by have := HL.out; rw [hn, sgL, tab_len]; exact HG.out.1
    generalize hg0 : sgL s n mode order = g at *
    have HIN2 := hid HIN.out
    clear hn hrd hr1 hb hg0
    go_wp2_with fail
    go_loop [10, 25] (fun mx i => ∃ c : Nat, c ≤ m ∧ mx = .int .i64 (pkM (g.take c)) ∧ i = .int .i64 c)
      (fun _ i => m - (intOf i).toNat)
    case atStart => exact ⟨0, by omega, rfl, rfl⟩
    case round =>
      obtain ⟨c, hc, rfl, rfl⟩ := hrel
      by_cases hlk : c < m
      · obtain ⟨x, hkx⟩ := get_lt g c (by rw [← Hn.out]; exact hlk)
        obtain ⟨bb, oo, hix, hbb, hce⟩ := Hrd.out.at (P := Try.prog) (T := 24) m cap uslice sone hkx hlk
        obtain ⟨x1, x2⟩ := HIN2.out.at hkx
        have hst := pkM_step hkx
        rw [mostI_max] at hst
        have Hst := hid hst
        clear hst hkx
        generalize pkM (g.take c) = z at *
        go_wp2_with fail
        refine (sizeOf_any x _ (by omega) (by omega)).mono ?_
        rintro e w' ⟨rfl, rfl⟩
        go_wp2
        go_round
        case rel => exact ⟨c + 1, by omega, by rw [Hst.out]; exact congrArg _ (by split <;> omega), by go_num⟩
        case measure => simp [intOf]; omega
      · have hge : (m : Int) ≤ (c : Int) := by omega
        have hkn : c = g.length := by rw [← Hn.out]; omega
        have Hk := hid hkn
        clear hkn hlk
        go_wp2
        go_ret2
        exact ⟨ret_ib' (by rw [Hk.out, List.take_length]; exact HR.out.symm) rfl, HB.out⟩


end Go.Proofs.Ythgdpmhpieakhaa
