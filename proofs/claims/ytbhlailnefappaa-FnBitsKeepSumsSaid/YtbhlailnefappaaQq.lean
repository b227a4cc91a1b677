
import Derived.Test.YtbhlailnefappaaQz
import Derived.Deep.QuietTactic
import Derived.BigQuiet
namespace Go.Proofs.Ytbhlailnefappaa
open Go.RowKit BitX Go.MemX Go.Conc Go.ChV
set_option linter.unusedVariables false


theorem enterL2 : ∀ (args : Array Value) (w : World), (callFunc 84 args).run Try.prog w = .ok (.enter 84 args) w := enters_of Try.func84 (by kernel_rfl) rfl
theorem enterS2 : ∀ (args : Array Value) (w : World), (callFunc 85 args).run Try.prog w = .ok (.enter 85 args) w := enters_of Try.func85 (by kernel_rfl) rfl
theorem modT (wb : World) (m : Int) (s : List Int) (hl : s.length ≤ 64) (m1 : 1 ≤ m) (m2 : m ≤ 1000) (hs : InP (-m) m s) :
    Mod Try.prog wb (wb.heap.size + 4) 84 85 #[.pointer (some ⟨wb.heap.size + 3, 0, none⟩)] #[.pointer (some ⟨wb.heap.size + 2, 0, none⟩), .pointer (some ⟨wb.heap.size, 0, none⟩), .pointer (some ⟨wb.heap.size + 3, 0, none⟩), .pointer (some ⟨wb.heap.size + 1, 0, none⟩)] s (twB m s) (InvT wb.heap.size m s) where
  keep := fun i w w' h hb => h.keep hb
  level := fun i x w h hx => levelT wb.heap.size m s i x w h
  settle := fun i x w h hx hz => settleT wb.heap.size m s i x w h hx hz (by have := (List.getElem?_eq_some_iff.1 hx).1; omega) m1 m2 hs
theorem startT (A : Nat) (w0 : World) (m : Int) (s : List Int) (hz : w0.heap.size = A + 4) (c0 : w0.cell? ⟨A, 0, none⟩ = some (.int .i64 m)) (c1 : w0.cell? ⟨A + 1, 0, none⟩ = some (.slice none 0 0)) (f1 : w0.frozen? ⟨A + 1, 0, none⟩ = false) (c2 : w0.cell? ⟨A + 2, 0, none⟩ = some (.int .i64 0)) (f2 : w0.frozen? ⟨A + 2, 0, none⟩ = false) (c3 : w0.cell? ⟨A + 3, 0, none⟩ = some (.int .i64 0)) (f3 : w0.frozen? ⟨A + 3, 0, none⟩ = false) (w1 : World) (h : ∀ b, b < w0.heap.size → w1.heap[b]? = w0.heap[b]?) : InvT A m s 0 w1 := by
  have c : ∀ b, b < A + 4 → w1.cell? ⟨b, 0, none⟩ = w0.cell? ⟨b, 0, none⟩ := fun b hb => World.cell?_of_block (h b (by omega))
  have f : ∀ b, b < A + 4 → w1.frozen? ⟨b, 0, none⟩ = w0.frozen? ⟨b, 0, none⟩ := fun b hb => World.frozen?_of_block (h b (by omega))
  exact ⟨(c _ (by omega)).trans c0, ⟨(c _ (by omega)).trans c2, (f _ (by omega)).trans f2⟩, ⟨(c _ (by omega)).trans c3, (f _ (by omega)).trans f3⟩, (f _ (by omega)).trans f1, _, [], (c _ (by omega)).trans c1, World.ownsRow_nil _ _ _ _⟩
theorem four (w : World) (o1 o2 o3 o4 : Obj) : ((((w.alloc o1).alloc o2).alloc o3).alloc o4).heap.size = w.heap.size + 4 ∧ ((((w.alloc o1).alloc o2).alloc o3).alloc o4).heap[w.heap.size]? = some o1 ∧ ((((w.alloc o1).alloc o2).alloc o3).alloc o4).heap[w.heap.size + 1]? = some o2 ∧ ((((w.alloc o1).alloc o2).alloc o3).alloc o4).heap[w.heap.size + 2]? = some o3 ∧ ((((w.alloc o1).alloc o2).alloc o3).alloc o4).heap[w.heap.size + 3]? = some o4 := by
  have h2 := heap_alloc_new (w.alloc o1) o2
  have h3 := heap_alloc_new ((w.alloc o1).alloc o2) o3
  have h4 := heap_alloc_new (((w.alloc o1).alloc o2).alloc o3) o4
  rw [World.size_alloc] at h2
  rw [World.size_alloc, World.size_alloc] at h3
  rw [World.size_alloc, World.size_alloc, World.size_alloc] at h4
  refine ⟨by simp, ?_, ?_, ?_, h4⟩
  · rw [Below.heap_alloc _ _ _ (by first | (simp; done) | (simp; omega)), Below.heap_alloc _ _ _ (by first | (simp; done) | (simp; omega)), Below.heap_alloc _ _ _ (by first | (simp; done) | (simp; omega))]; exact heap_alloc_new _ _
  · rw [Below.heap_alloc _ _ _ (by first | (simp; done) | (simp; omega)), Below.heap_alloc _ _ _ (by first | (simp; done) | (simp; omega))]; exact h2
  · rw [Below.heap_alloc _ _ _ (by first | (simp; done) | (simp; omega))]; exact h3
set_option maxHeartbeats 1000000 in
theorem runTwoBit_any (m : Int) (v : Value) (s : List Int) (w : World) (hs : Sl w v s) (hl : s.length ≤ 64) (hi : InP (-m) m s) (m1 : 1 ≤ m) (m2 : m ≤ 1000) :
    Calls Try.prog 54 #[.int .i64 m, v] w (GivesX w (twOL m s)) := by
  have HS := hid hs
  have HI := hid hi
  have hmk := mkFunc
  clear hs hi
  go_enter Try.func54, Try.ntmps54
  go_wp2_with fail
  have hb0 : Below w.heap.size w ((((w.alloc (.cells #[.int .i64 m] 3)).alloc (.cells #[.slice none 0 0] 36)).alloc (.cells #[.int .i64 0] 3)).alloc (.cells #[.int .i64 0] 3)) := bel_step (bel_step (bel_step (bel_alloc _ _) (bel_alloc _ _)) (bel_alloc _ _)) (bel_alloc _ _)
  obtain ⟨hz0, e0, e1, e2, e3⟩ := four w (.cells #[.int .i64 m] 3) (.cells #[.slice none 0 0] 36) (.cells #[.int .i64 0] 3) (.cells #[.int .i64 0] 3)
  generalize ((((w.alloc (.cells #[.int .i64 m] 3)).alloc (.cells #[.slice none 0 0] 36)).alloc (.cells #[.int .i64 0] 3)).alloc (.cells #[.int .i64 0] 3)) = w0 at hb0 hz0 e0 e1 e2 e3 ⊢
  have hst := startT w.heap.size w0 m s hz0 (cell_of_row _ _ 0 _ _ _ e0) (cell_of_row _ _ 0 _ _ _ e1) (frozen_of_row _ _ 0 _ _ e1) (cell_of_row _ _ 0 _ _ _ e2) (frozen_of_row _ _ 0 _ _ e2) (cell_of_row _ _ 0 _ _ _ e3) (frozen_of_row _ _ 0 _ _ e3)
  have hmod := modT w m s hl m1 m2 HI.out
  rw [← hz0] at hmod
  refine (modulate_any 84 85 _ _ enterL2 enterS2 w w0 v s HS.out hb0 (by omega) (twB m s) (InvT w.heap.size m s) hmod hst).mono ?_
  rintro e w1 ⟨rfl, hblk, ⟨_, _, _, _, u, vs, hu, hown⟩, hb⟩
  have hr1 := hblk.res (show w.heap.size ≤ w0.heap.size + 2 by omega)
  rw [tab_len] at hr1
  have Hr1 := hid hr1
  have HB := hid hb
  clear hr1 hb hblk hown hst hmod e0 e1 e2 e3 hb0 hz0
  go_wp2_with fail
  go_quiet (fail)
  go_wp2
  go_ret2
  exact ⟨_, _, rfl, Hr1.out.kept (bel_drewN w1 _), below_drewN HB.out _⟩


def tbR (m : Int) (s : List Int) : List Int := onB (sdB m s) (twOL m s) []
theorem tbR_len (m : Int) (s : List Int) (h : s.length ≤ 1048576) : (tbR m s).length ≤ 2000000 := by
  unfold tbR onB; split
  · rw [twOL, tab_len]; omega
  · simp


set_option maxHeartbeats 1000000 in
theorem spec_TwoBits_is (m : Int) (v : Value) (s : List Int) (w : World) (hs : Sl w v s) :
    Calls Try.prog 21 #[.int .i64 m, v] w (Gives w (tbR m s) (sdB m s)) := by
  cases hq : sdB m s
  · have HS := hid hs
    have HR := hid (show tbR m s = [] from by unfold tbR; rw [hq]; rfl)
    have HQ := hid hq
    clear hq hs
    go_enter Try.func21, Try.ntmps21
    go_wp2_with fail
    refine (spec_dmScaled_q m v s false _ HS.out HQ.out).mono ?_
    rintro e w' ⟨rfl, rfl⟩
    go_wp2_with fail
    go_ret2
    exact gives_of rfl HR.out ⟨_, rfl, .inl ⟨rfl, rfl⟩, Below.refl _ _⟩
  · obtain ⟨⟨m1, m2⟩, hsg, hin⟩ := sdB_t hq
    have HS := hid hs
    have HR := hid (show tbR m s = twOL m s from by unfold tbR; rw [hq]; rfl)
    have HQ := hid hq
    have HG := hid hsg
    have HI := hid hin
    clear hq hs hsg hin
    go_enter Try.func21, Try.ntmps21
    go_wp2_with fail
    refine (spec_dmScaled_q m v s true _ HS.out HQ.out).mono ?_
    rintro e w' ⟨rfl, rfl⟩
    go_wp2_with fail
    refine (dmTwo_any m v s _ HS.out HG.out.1 HI.out m1 m2).mono ?_
    rintro e w1 ⟨u1, u2, rfl, hr1, hb⟩
    go_wp2_with fail
    go_ret2
    exact gives_of rfl HR.out ⟨_, rfl, hr1, hb⟩


set_option maxHeartbeats 1000000 in
theorem impl_TwoBits_is (m : Int) (v : Value) (s : List Int) (w : World) (hs : Sl w v s) :
    Calls Try.prog 20 #[.int .i64 m, v] w (Gives w (tbR m s) (sdB m s)) := by
  cases hq : sdB m s
  · have HS := hid hs
    have HR := hid (show tbR m s = [] from by unfold tbR; rw [hq]; rfl)
    have HQ := hid hq
    clear hq hs
    go_enter Try.func20, Try.ntmps20
    go_wp2_with fail
    refine (impl_IsScaled_q m v s false _ HS.out HQ.out).mono ?_
    rintro e w' ⟨rfl, rfl⟩
    go_wp2_with fail
    go_ret2
    exact gives_of rfl HR.out ⟨_, rfl, .inl ⟨rfl, rfl⟩, Below.refl _ _⟩
  · obtain ⟨⟨m1, m2⟩, hsg, hin⟩ := sdB_t hq
    have HS := hid hs
    have HR := hid (show tbR m s = twOL m s from by unfold tbR; rw [hq]; rfl)
    have HQ := hid hq
    have HG := hid hsg
    have HI := hid hin
    clear hq hs hsg hin
    go_enter Try.func20, Try.ntmps20
    go_wp2_with fail
    refine (impl_IsScaled_q m v s true _ HS.out HQ.out).mono ?_
    rintro e w' ⟨rfl, rfl⟩
    go_wp2_with fail
    refine (runTwoBit_any m v s _ HS.out HG.out.1 HI.out m1 m2).mono ?_
    rintro e w1 ⟨u1, u2, rfl, hr1, hb⟩
    go_wp2_with fail
    go_ret2
    exact gives_of rfl HR.out ⟨_, rfl, hr1, hb⟩


end Go.Proofs.Ytbhlailnefappaa
