
import Derived.Test.YtfcfggjallokgaaOa
namespace Go.Proofs.Ytfcfggjallokgaa
open Go.RowKit BitX Go.MemX
set_option linter.unusedVariables false

/-- block g holds a desk -/
def DkB (T : TypeId) (g : Nat) (v : Value) (b : Int) (wr : Bool) (w : World) : Prop := w.heap[g]? = some (.cells #[v, .int .i64 b, .bool wr] T (0, 0))
section
variable {T : TypeId} {g : Nat} {v : Value} {b : Int} {wr : Bool} {w w' : World}
theorem DkB.lt (h : DkB T g v b wr w) : g < w.heap.size := (Array.getElem?_eq_some_iff.1 h).1
theorem DkB.cells (h : DkB T g v b wr w) : (w.cell? ⟨g, 0, none⟩ = some v ∧ w.cell? ⟨g, 1, none⟩ = some (.int .i64 b) ∧ w.cell? ⟨g, 2, none⟩ = some (.bool wr)) ∧ (w.frozen? ⟨g, 0, none⟩ = false ∧ w.frozen? ⟨g, 1, none⟩ = false ∧ w.frozen? ⟨g, 2, none⟩ = false) := by
  refine ⟨⟨?_, ?_, ?_⟩, ?_, ?_, ?_⟩
  · rw [cell_of_row w g _ _ _ _ h]; rfl
  · rw [cell_of_row w g _ _ _ _ h]; rfl
  · rw [cell_of_row w g _ _ _ _ h]; rfl
  · exact frozen_of_row w g _ _ _ h
  · exact frozen_of_row w g _ _ _ h
  · exact frozen_of_row w g _ _ _ h
theorem DkB.same (h : DkB T g v b wr w) (hb : w'.heap[g]? = w.heap[g]?) : DkB T g v b wr w' := hb.trans h
theorem DkB.kept (h : DkB T g v b wr w) {n : Nat} (hb : Below n w w') (hg : g < n) : DkB T g v b wr w' := h.same (hb.block g hg)
theorem DkB.far (h : DkB T g v b wr w) (a : Addr) (u : Value) (hg : g ≠ a.block) : DkB T g v b wr (w.setCell a u) := h.same (Below.heap_setCell _ _ _ _ hg)
theorem DkB.made (w : World) (T : TypeId) (v : Value) (b : Int) (wr : Bool) : DkB T w.heap.size v b wr (w.alloc (.cells #[v, .int .i64 b, .bool wr] T)) := by
  show (w.heap.push _)[w.heap.size]? = _
  simp
theorem DkB.set0 (h : DkB T g v b wr w) (u : Value) : DkB T g u b wr (w.setCell ⟨g, 0, none⟩ u) := heap_setCell_same _ _ 0 _ _ u h
end
theorem _root_.Go.MemX.Res.far {E : TypeId} {B : Nat} {w : World} {v : Value} {xs : List Int} (h : Res E B w v xs) (a : Addr) (u : Value) (hne : ∀ g, v.ownBlock = some g → g ≠ a.block) : Res E B (w.setCell a u) v xs :=
  h.same fun g hg => Below.heap_setCell _ _ _ _ (hne g hg)
/-- what a call leaves that hands back a desk with a list of its own -/
def GivesD (w : World) (xs : List Int) (b : Int) (wr : Bool) (e : Ending) (w' : World) : Prop :=
  ∃ u n c, e = .returned (.agg #[.slice u n c, .int .i64 b, .bool wr]) ∧ Res 3 w.heap.size w' (.slice u n c) xs ∧ Below w.heap.size w w'

set_option maxHeartbeats 1000000 in
theorem toDesk_any (v : Value) (xs : List Int) (b : Int) (wr : Bool) (w : World) (hs : Sl w v xs) (hl : xs.length ≤ 2000000) :
    Calls Try.prog 12 #[.agg #[v, .int .i64 b, .bool wr]] w (GivesD w xs b wr) := by
  have HS := hid hs
  clear hs
  go_enter Try.func12, Try.ntmps12
  go_wp2_with fail
  refine (toIntS_any _ xs _ (HS.out.kept (bel_step (bel_alloc _ _) (bel_step (bel_alloc _ _) (bel_alloc _ _)))) hl).mono ?_
  rintro e w1 ⟨g, hg, rfl, K, hb⟩
  have hsz : w.heap.size + 3 ≤ w1.heap.size := by have := hb.size; simp at this; omega
  have hg3 : w.heap.size + 3 ≤ g := by simp at hg; omega
  have hb1 : Below w.heap.size w w1 := bel_step (bel_alloc _ _) (bel_step (bel_alloc _ _) (bel_step (bel_alloc _ _) hb))
  have D0 : DkB 33 w.heap.size v b wr w1 := by
    refine DkB.kept ?_ hb (by simp <;> omega)
    exact ((DkB.made w _ v b wr).kept (bel_alloc _ _) (by simp <;> omega)).kept (bel_alloc _ _) (by simp <;> omega)
  have D1 : DkB 26 (w.heap.size + 1) (.slice none 0 0) 0 false w1 := by
    refine DkB.kept ?_ hb (by simp)
    refine DkB.kept ?_ (bel_alloc _ _) (by simp)
    have := DkB.made (w.alloc (.cells #[v, .int .i64 b, .bool wr] 33)) 26 (.slice none 0 0) 0 false
    simp only [World.size_alloc] at this
    exact this
  have D2 : DkB 26 (w.heap.size + 1 + 1) (.slice none 0 0) 0 false w1 := by
    refine DkB.kept ?_ hb (by simp)
    have := DkB.made ((w.alloc (.cells #[v, .int .i64 b, .bool wr] 33)).alloc (.cells #[.slice none 0 0, .int .i64 0, .bool false] 26)) 26 (.slice none 0 0) 0 false
    simp only [World.size_alloc] at this
    exact this
  obtain ⟨⟨p0, p1, p2⟩, q0, q1, q2⟩ := D0.cells
  obtain ⟨⟨r0, r1, r2⟩, s0, s1, s2⟩ := D2.cells
  go_wp2_with fail
  refine (toWord_any _ _ _).mono ?_
  rintro e w2 ⟨rfl, hb2⟩
  have hsz2 : w1.heap.size ≤ w2.heap.size := by have := hb2.size; simp at this; omega
  have E1 := (D1.far ⟨w.heap.size + 1 + 1, 0, none⟩ (.slice (some ⟨g, 0, none⟩) xs.length xs.length) (by simp)).kept hb2 (by simp <;> omega)
  have E2 := (D2.set0 (.slice (some ⟨g, 0, none⟩) xs.length xs.length)).kept hb2 (by simp <;> omega)
  have R2 := ((K.res (B := w.heap.size) (by omega)).far ⟨w.heap.size + 1 + 1, 0, none⟩ (.slice (some ⟨g, 0, none⟩) xs.length xs.length) (by rintro _ ⟨⟩; show g ≠ w.heap.size + 1 + 1; omega)).kept hb2
  have hb3 : Below w.heap.size w w2 := bel_step (hb1.setCell (by show w.heap.size ≤ w.heap.size + 1 + 1; omega) _) hb2
  clear p0 p1 p2 q0 q1 q2 r0 r1 r2 s0 s1 s2
  obtain ⟨⟨p0, p1, p2⟩, q0, q1, q2⟩ := E1.cells
  obtain ⟨⟨r0, r1, r2⟩, s0, s1, s2⟩ := E2.cells
  have HR := hid R2
  have HB := hid hb3
  clear D0 D1 D2 E1 E2 K hb hb1 hb2 hb3 R2 HS
  go_wp2_with fail
  refine bodyPost_ret (v := .agg #[.slice (some ⟨g, 0, none⟩) xs.length xs.length, .int .i64 b, .bool wr]) (by simp [results, Try.results12, go_sem, p0, p1, p2]) rfl ⟨_, _, _, rfl, ?_, ?_⟩
  · refine (((((HR.out.far _ _ ?_).far _ _ ?_).far _ _ ?_).far _ _ ?_).far _ _ ?_)
    all_goals (rintro _ ⟨⟩; simp; omega)
  · refine ((((HB.out.setCell ?_ _).setCell ?_ _).setCell ?_ _).setCell ?_ _).setCell ?_ _
    all_goals (simp; try omega)

def deskB (xs : List Int) (b : Int) : Bool := sigB xs && wordB b
theorem box3_cells {w w' : World} {u0 u1 u2 : Value} {t : TypeId} (hb : Below (w.alloc (.cells #[u0, u1, u2] t)).heap.size (w.alloc (.cells #[u0, u1, u2] t)) w') :
    w'.cell? ⟨w.heap.size, 0, none⟩ = some u0 ∧ w'.cell? ⟨w.heap.size, 1, none⟩ = some u1 ∧ w'.cell? ⟨w.heap.size, 2, none⟩ = some u2 := by
  refine ⟨?_, ?_, ?_⟩
  all_goals rw [hb.cell (by simp), World.cell?_alloc_at _ _ _ _ rfl]; rfl

set_option maxHeartbeats 1000000 in
theorem impl_IsDesk_is (v : Value) (xs : List Int) (b : Int) (wr : Bool) (w : World) (hs : Sl w v xs) :
    Calls Try.prog 13 #[.agg #[v, .int .i64 b, .bool wr]] w fun e w' => e = .returned (.bool (deskB xs b)) ∧ Below w.heap.size w w' := by
  have HS := hid hs
  clear hs
  unfold deskB
  cases g0 : sigB xs
  · have G0 := hid g0
    clear g0
    go_enter Try.func13, Try.ntmps13
    go_wp2_with fail
    refine (impl_IsSignal_is _ xs _ _ (HS.out.kept (bel_alloc _ _)) G0.out).mono ?_
    rintro e w' ⟨rfl, rfl⟩
    go_wp2_with fail
    go_ret
    exact ⟨rfl, bel_alloc _ _⟩
  · have G0 := hid g0
    clear g0
    generalize g1 : wordB b = q
    have G1 := hid g1
    clear g1
    go_enter Try.func13, Try.ntmps13
    go_wp2_with fail
    refine (impl_IsSignal_is _ xs _ _ (HS.out.kept (bel_alloc _ _)) G0.out).mono ?_
    rintro e w' ⟨rfl, rfl⟩
    go_wp2_with fail
    refine (IsWord_is _ _ _ _ G1.out).mono ?_
    rintro e w1 ⟨rfl, hb⟩
    obtain ⟨c0, c1, c2⟩ := box3_cells hb
    go_wp2_with fail
    go_ret
    exact ⟨by simp, bel_step (bel_alloc _ _) hb⟩

set_option maxHeartbeats 1000000 in
theorem coGood_is (v : Value) (xs : List Int) (b : Int) (wr : Bool) (w : World) (hs : Sl w v xs) :
    Calls Try.prog 19 #[.agg #[v, .int .i64 b, .bool wr]] w fun e w' => e = .returned (.bool (deskB xs b)) ∧ Below w.heap.size w w' := by
  have HS := hid hs
  clear hs
  unfold deskB
  cases g0 : sigB xs
  · have G0 := hid g0
    clear g0
    go_enter Try.func19, Try.ntmps19
    go_wp2_with fail
    refine (wdSignal_is _ xs _ _ (HS.out.kept (bel_alloc _ _)) G0.out).mono ?_
    rintro e w' ⟨rfl, rfl⟩
    go_wp2_with fail
    go_ret
    exact ⟨rfl, bel_alloc _ _⟩
  · have G0 := hid g0
    clear g0
    generalize g1 : wordB b = q
    have G1 := hid g1
    clear g1
    go_enter Try.func19, Try.ntmps19
    go_wp2_with fail
    refine (wdSignal_is _ xs _ _ (HS.out.kept (bel_alloc _ _)) G0.out).mono ?_
    rintro e w' ⟨rfl, rfl⟩
    go_wp2_with fail
    refine (wdGood_is _ _ _ _ G1.out).mono ?_
    rintro e w1 ⟨rfl, hb⟩
    obtain ⟨c0, c1, c2⟩ := box3_cells hb
    go_wp2_with fail
    go_ret
    exact ⟨by simp, bel_step (bel_alloc _ _) hb⟩

set_option maxHeartbeats 1000000 in
theorem spec_IsDesk_is (v : Value) (xs : List Int) (b : Int) (wr : Bool) (w : World) (hs : Sl w v xs) :
    Calls Try.prog 11 #[.agg #[v, .int .i64 b, .bool wr]] w fun e w' => e = .returned (.bool (deskB xs b)) ∧ Below w.heap.size w w' := by
  have HS := hid hs
  clear hs
  go_enter Try.func11, Try.ntmps11
  go_wp2_with fail
  refine (coGood_is _ xs _ _ _ (HS.out.kept (bel_alloc _ _))).mono ?_
  rintro e w1 ⟨rfl, hb⟩
  go_wp2_with fail
  go_ret
  exact ⟨rfl, bel_step (bel_alloc _ _) hb⟩

set_option maxHeartbeats 1000000 in
theorem szDesk_any (v : Value) (n : Nat) (b : Int) (wr : Bool) (u : Option Addr) (c : Nat) (w : World) (hn : n ≤ 9223372036854775807) (hv : v = .slice u n c) :
    Calls Try.prog 10 #[.agg #[v, .int .i64 b, .bool wr], .int .i64 1048576] w fun e w' => e = .returned (.int .i64 (if n ≤ 1048576 then 1048576 - (n : Int) else -1)) ∧ Below w.heap.size w w' := by
  subst hv
  by_cases h : n ≤ 1048576
  · have e : (if n ≤ 1048576 then 1048576 - (n : Int) else -1) = 1048576 - (n : Int) := if_pos h
    rw [e]
    have hsz : ∀ w, Calls Try.prog 18 #[.slice u n c, .int .i64 1048576] w fun e w' => e = .returned (.int .i64 (1048576 - (n : Int))) ∧ w = w' := fun w => by
      go_enter Try.func18, Try.ntmps18
      go_wp2
      go_ret
      exact ⟨rfl, rfl⟩
    go_enter Try.func10, Try.ntmps10
    go_wp2_with fail
    refine (hsz _).mono ?_
    rintro e w' ⟨rfl, rfl⟩
    go_wp2_with fail
    go_ret
    exact ⟨rfl, bel_alloc _ _⟩
  · have e : (if n ≤ 1048576 then 1048576 - (n : Int) else -1) = -1 := if_neg h
    rw [e]
    have h2 : 1048576 < (n : Int) := by omega
    have h3 : (n : Int) ≤ 9223372036854775807 := by omega
    clear h e
    have hsz : ∀ w, Calls Try.prog 18 #[.slice u n c, .int .i64 1048576] w fun e w' => e = .returned (.int .i64 (-1)) ∧ w = w' := fun w => by
      go_enter Try.func18, Try.ntmps18
      go_wp2
      go_ret
      exact ⟨rfl, rfl⟩
    go_enter Try.func10, Try.ntmps10
    go_wp2_with fail
    refine (hsz _).mono ?_
    rintro e w' ⟨rfl, rfl⟩
    go_wp2_with fail
    go_ret
    exact ⟨rfl, bel_alloc _ _⟩

set_option maxHeartbeats 1000000 in
theorem eqWord_same (b : Int) (wr : Bool) (w : World) :
    Calls Try.prog 15 #[.agg #[.int .i64 b, .bool wr], .agg #[.int .i64 b, .bool wr]] w fun e w' => e = .returned (.bool true) ∧ Below w.heap.size w w' := by
  go_enter Try.func15, Try.ntmps15
  go_wp2
  go_ret
  exact ⟨rfl, bel_step (bel_alloc _ _) (bel_alloc _ _)⟩

set_option maxHeartbeats 1000000 in
theorem eqDesk_same (u v : Value) (xs : List Int) (b : Int) (wr : Bool) (w : World) (hu : Sl w u xs) (hv : Sl w v xs) (hl : xs.length ≤ 2000000) :
    Calls Try.prog 7 #[.agg #[u, .int .i64 b, .bool wr], .agg #[v, .int .i64 b, .bool wr]] w fun e w' => e = .returned (.bool true) ∧ Below w.heap.size w w' := by
  have HU := hid hu
  have HV := hid hv
  clear hu hv
  go_enter Try.func7, Try.ntmps7
  go_wp2_with fail
  refine (eqIntS_same _ _ xs _ (HU.out.kept (bel_step (bel_alloc _ _) (bel_alloc _ _))) (HV.out.kept (bel_step (bel_alloc _ _) (bel_alloc _ _))) hl).mono ?_
  rintro e w1 ⟨rfl, hb⟩
  obtain ⟨c0, c1, c2⟩ := box3_cells (bel_step (bel_alloc _ _) hb)
  obtain ⟨d0, d1, d2⟩ := box3_cells hb
  simp only [World.size_alloc] at d0 d1 d2
  have B1 := bel_step (bel_alloc w _) (bel_step (bel_alloc _ _) hb)
  go_wp2_with fail
  refine (eqWord_same _ _ _).mono ?_
  rintro e w2 ⟨rfl, hb2⟩
  go_wp2_with fail
  go_ret
  exact ⟨rfl, bel_step B1 hb2⟩

end Go.Proofs.Ytfcfggjallokgaa
