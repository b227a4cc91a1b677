
import Derived.Test.YtkpfcaipbhfgkaaOe
namespace Go.Proofs.Ytkpfcaipbhfgkaa
open Go.RowKit BitX Go.MemX Go.ShX
set_option linter.unusedVariables false

theorem gives_of {w w2 : World} {ys zs : List Int} {b c : Bool} {e : Ending} (h1 : b = c) (h2 : ys = zs) (h : Gives w zs c e w2) : Gives w ys b e w2 := by subst h1 h2; exact h
/-- the number of a run behind so many samples -/
def runY (a : Int) (k : Nat) (mode : Int) (n : Nat) (wd : Bool) (s : List Int) (y : Int) : Nat → Int
  | 0 => y
  | i + 1 => stepI a k mode n wd (at0 s i) (runY a k mode n wd s y i)
theorem runY_succ (a : Int) (k : Nat) (mode : Int) (n : Nat) (wd : Bool) (s : List Int) (y : Int) (i : Nat) : runY a k mode n wd s y (i + 1) = stepI a k mode n wd (at0 s i) (runY a k mode n wd s y i) := rfl
def neI (a b : Int) : Int := if a = b then 0 else 1
theorem neI_lt {a b : Int} (h : a < b) : neI a b = 1 := if_neg (by omega)
theorem neI_gt {a b : Int} (h : b < a) : neI a b = 1 := if_neg (by omega)
theorem neI_eq {a b : Int} (h1 : a ≤ b) (h2 : b ≤ a) : neI a b = 0 := if_pos (by omega)
/-- at how many of the first steps fitting changes the number -/
def fitC (a : Int) (k : Nat) (mode : Int) (n : Nat) (wd : Bool) (s : List Int) (y : Int) : Nat → Int
  | 0 => 0
  | i + 1 => fitC a k mode n wd s y i + neI (fitI n wd (rawI a k mode (runY a k mode n wd s y i) (at0 s i))) (rawI a k mode (runY a k mode n wd s y i) (at0 s i))
theorem fitC_succ (a : Int) (k : Nat) (mode : Int) (n : Nat) (wd : Bool) (s : List Int) (y : Int) (i : Nat) : fitC a k mode n wd s y (i + 1) = fitC a k mode n wd s y i + neI (fitI n wd (rawI a k mode (runY a k mode n wd s y i) (at0 s i))) (rawI a k mode (runY a k mode n wd s y i) (at0 s i)) := rfl
theorem fitC_in (a : Int) (k : Nat) (mode : Int) (n : Nat) (wd : Bool) (s : List Int) (y : Int) (i : Nat) : 0 ≤ fitC a k mode n wd s y i ∧ fitC a k mode n wd s y i ≤ i := by
  induction i with
  | zero => simp [fitC]
  | succ i ih => rw [fitC_succ]; unfold neI; split <;> omega
theorem runY_in {a : Int} {k : Nat} {mode : Int} {n : Nat} {wd : Bool} {s : List Int} {y : Int} (h : FoOk a k mode n) (y1 : -100000 ≤ y) (y2 : y ≤ 100000) (i : Nat) : -100000 ≤ runY a k mode n wd s y i ∧ runY a k mode n wd s y i ≤ 100000 := by
  cases i with
  | zero => exact ⟨y1, y2⟩
  | succ i => exact step_in h
def runL (a : Int) (k : Nat) (mode : Int) (n : Nat) (wd : Bool) (s : List Int) (y : Int) : List Int := tab s.length fun i => runY a k mode n wd s y (i + 1)
theorem ret_vc {v : Value} {i j : Int} (h1 : i = j) : Ending.returned (.tuple #[v, .int .i64 i]) = .returned (.tuple #[v, .int .i64 j]) := by rw [h1]
/-- what a call leaves that hands back a new list and a number -/
def GivesC (w : World) (xs : List Int) (c : Int) (e : Ending) (w' : World) : Prop :=
  ∃ v, e = .returned (.tuple #[v, .int .i64 c]) ∧ Res 3 w.heap.size w' v xs ∧ Below w.heap.size w w'


theorem _root_.Go.RowKit.Below.cells5q {w W : World} {g : Nat} {a0 a1 a2 a3 a4 : Value} (hb : Below w.heap.size w W) (h : w.cell? ⟨g, 0, none⟩ = some a0 ∧ w.cell? ⟨g, 1, none⟩ = some a1 ∧ w.cell? ⟨g, 2, none⟩ = some a2 ∧ w.cell? ⟨g, 3, none⟩ = some a3 ∧ w.cell? ⟨g, 4, none⟩ = some a4) :
    W.cell? ⟨g, 0, none⟩ = some a0 ∧ W.cell? ⟨g, 1, none⟩ = some a1 ∧ W.cell? ⟨g, 2, none⟩ = some a2 ∧ W.cell? ⟨g, 3, none⟩ = some a3 ∧ W.cell? ⟨g, 4, none⟩ = some a4 :=
  ⟨by rw [hb.cell (by exact block_lt_of_cell h.1)]; exact h.1, by rw [hb.cell (by exact block_lt_of_cell h.2.1)]; exact h.2.1, by rw [hb.cell (by exact block_lt_of_cell h.2.2.1)]; exact h.2.2.1, by rw [hb.cell (by exact block_lt_of_cell h.2.2.2.1)]; exact h.2.2.2.1, by rw [hb.cell (by exact block_lt_of_cell h.2.2.2.2)]; exact h.2.2.2.2⟩


set_option maxHeartbeats 4000000 in
theorem foRun_any (a : Int) (k : Nat) (mode : Int) (n : Nat) (wd : Bool) (y : Int) (v : Value) (s : List Int) (w : World) (hs : Sl w v s) (hl : s.length ≤ 64) (hi : InP (-100000) 100000 s) (h : FoOk a k mode n) (y1 : -100000 ≤ y) (y2 : y ≤ 100000) :
    Calls Try.prog 44 #[.agg #[.int .i64 a, .int .i64 (k : Int), .int .i64 mode, .int .i64 (n : Int), .bool wd], .int .i64 y, v] w (GivesC w (runL a k mode n wd s y) (fitC a k mode n wd s y s.length)) := by
  obtain ⟨aa, m, cap, rfl, hn, hrd⟩ := id hs.rd
  have Hn := hid hn
  have Hrd := hid hrd
  have HO := hid h
  have HJ := hid hi
  have n1 := h.2.2.2.1
  have n2 := h.2.2.2.2
  have hl' : m ≤ 64 := by omega
  obtain ⟨i0, hi0, hz0, hz1, hz2⟩ := info_parts iint
  clear hs hn hrd h hi hl
  go_enter Try.func44, Try.ntmps44
  go_wp2_with fail
  have B0 := bel_alloc w (.cells #[.int .i64 a, .int .i64 (k : Int), .int .i64 mode, .int .i64 (n : Int), .bool wd] 49)
  have hq := box5_cells (Below.refl (w.alloc (.cells #[.int .i64 a, .int .i64 (k : Int), .int .i64 mode, .int .i64 (n : Int), .bool wd] 49)).heap.size (w.alloc (.cells #[.int .i64 a, .int .i64 (k : Int), .int .i64 mode, .int .i64 (n : Int), .bool wd] 49)))
  generalize w.alloc (.cells #[.int .i64 a, .int .i64 (k : Int), .int .i64 mode, .int .i64 (n : Int), .bool wd] 49) = w1 at *
  have Hq := hid hq
  have HB0 := hid B0
  clear hq B0
  go_loopw [1, 8, 9, 15] (fun yy v fc i wr => ∃ c : Nat, c ≤ m ∧ yy = .int .i64 (runY a k mode n wd s y c) ∧ fc = .int .i64 (fitC a k mode n wd s y c) ∧ i = .int .i64 c ∧ wr.ownsRow w1.heap.size 3 1 v c ((tab c (fun i => runY a k mode n wd s y (i + 1))).map (Value.int .i64)) ∧ Below w1.heap.size w1 wr)
    (fun _ _ _ i _ => m - (intOf i).toNat)
  case atStart => exact ⟨0, by omega, rfl, rfl, rfl, World.ownsRow_nil _ _ _ _, Below.refl _ _⟩
  case round =>
    obtain ⟨c, hc, rfl, rfl, rfl, hown, hb⟩ := hrel
    have hsz : w1.heap.size ≤ wr.heap.size := hb.size
    by_cases hlk : c < m
    · have hst := tab_step c (fun i => runY a k mode n wd s y (i + 1))
      generalize hys : tab c (fun i => runY a k mode n wd s y (i + 1)) = ys at hst hown
      have Hob := hid (ownsRow_base hown)
      have Hown := hid hown
      obtain ⟨bb, oo, hix, hbb, hce⟩ : ∃ b off, (∀ w : World, (Instr.indexAt 31 (.slice aa m cap) (.int .i64 (c : Int))).run Try.prog w = .ok (.pointer (some ⟨b, off, none⟩)) w) ∧ b < wr.heap.size ∧ wr.cell? ⟨b, off, none⟩ = some (.int .i64 (at0 s c)) := by
        obtain ⟨x, hkx⟩ := get_lt s c (by rw [← Hn.out]; exact hlk)
        rw [at0_of hkx]
        exact (Hrd.out.kept (bel_step HB0.out hb)).at (P := Try.prog) (T := 31) m cap uslice sone hkx hlk
      obtain ⟨x, hkx⟩ := get_lt s c (by rw [← Hn.out]; exact hlk)
      have hax := at0_of hkx
      obtain ⟨x1, x2⟩ := HJ.out.at hkx
      obtain ⟨z1, z2⟩ := runY_in (wd := wd) (s := s) HO.out y1 y2 c
      have hsr := runY_succ a k mode n wd s y c
      have hsc := fitC_succ a k mode n wd s y c
      obtain ⟨f1, f2⟩ := fitC_in a k mode n wd s y c
      have hraw := raw_in HO.out z1 z2 x1 x2
      rw [hax] at hsr hsc
      rw [hax] at hce
      have Hst := hid hst
      clear hown hys hst hkx hax
      generalize hz : runY a k mode n wd s y c = z at *
      generalize hcc : fitC a k mode n wd s y c = fc at *
      have hfr0 := fitI_s2 n wd (rawI a k mode z x) (by omega) n2
      have Hz : Hid (stepI a k mode n wd x z = fitI n wd (rawI a k mode z x)) := rfl
      have hst2 := Hst.out
      have hst2 : tab (c + 1) (fun i => runY a k mode n wd s y (i + 1)) = ys ++ [runY a k mode n wd s y (c + 1)] := hst2
      rw [hsr] at hst2
      have Hst2 := hid hst2
      have Hsr := hid hsr
      have Hsc := hid hsc
      obtain ⟨q0, q1, q2, q3, q4⟩ := hb.cells5q Hq.out
      clear hst2 hsr hsc hz hcc Hst
      have hrw := fun (W : World) => foRaw_any a k mode n wd z x W HO.out z1 z2 x1 x2
      have Hrw := hid hrw
      clear hrw
      rw [Hz.out] at Hst2 Hsr
      generalize hr0 : rawI a k mode z x = r at *
      have hft := fun (W : World) => wdFit_any n wd r W (by omega) n2
      have Hft := hid hft
      clear hft hr0 Hz
      generalize hf0 : fitI n wd r = f at *
      clear hf0
      rcases Int.lt_trichotomy f r with hfr | hfr | hfr
      · have hnc := neI_lt hfr
        have hne : (f != r) = true := bne_iff_ne.2 (by omega)
        rw [hnc] at Hsc
        clear hnc
        go_wp2_with (first | (go_at_call 58; refine (Hrw.out _).mono ?_; rintro e w2 ⟨rfl, hb2⟩; have hB2 := hb.trans (hb2.mono hsz); have hS2 := hB2.cells5q Hq.out; obtain ⟨t0, t1, t2, t3, t4⟩ := hS2) | (go_at_call 59; refine (Hft.out _).mono ?_; rintro e w3 ⟨rfl, hb3⟩; have hB3 := hB2.trans (hb3.mono hB2.size); have hs3 : w1.heap.size ≤ w3.heap.size := hB3.size) | (at_builtin; refine wpList_append_own _ rfl _ _ 31 rfl w1.heap.size 3 i0 (.int .i64 0) 1 8 uslice hi0 hz0 hz1 hz2 rfl (by decide) _ _ _ rfl ((ownsRow_below (ownsRow_below Hown.out hb2) hb3).alloc _) ⟨w3.heap.size, 0, none⟩ 1 1 [.int .i64 (f)] rfl rfl ?c1 ?c2 ?c3 ?c4 ?c5 ?_))
        case c1 => exact cell_one_new _ _ _
        case c2 => intro u hu; simp at hu; subst hu; rfl
        case c3 => unfold maxLen; omega
        case c4 => omega
        case c5 => simp; omega
        intro v' w4 hown4 hgrow _
        have hb4 : Below w1.heap.size w1 w4 := (hB3.alloc hB3.size _).grown hgrow (by simp; omega) (fun j hj => Hob.out j hj)
        have Hown4 := hid hown4
        clear hown4 hgrow
        go_wp2
        go_roundw
        case rel => exact ⟨c + 1, by omega, by rw [Hsr.out], by first | (rw [Hsc.out, Int.add_zero]; done) | (rw [Hsc.out]; done), by go_num, by rw [Hst2.out, List.map_append]; exact Hown4.out, hb4⟩
        case measure => simp [intOf]; omega
      · have hf1 : f ≤ r := by omega
        have hf2 : r ≤ f := by omega
        clear hfr
        have hnc := neI_eq hf1 hf2
        have hne : (f != r) = false := bne_eq_false_iff_eq.2 (by omega)
        rw [hnc] at Hsc
        clear hnc
        go_wp2_with (first | (go_at_call 58; refine (Hrw.out _).mono ?_; rintro e w2 ⟨rfl, hb2⟩; have hB2 := hb.trans (hb2.mono hsz); have hS2 := hB2.cells5q Hq.out; obtain ⟨t0, t1, t2, t3, t4⟩ := hS2) | (go_at_call 59; refine (Hft.out _).mono ?_; rintro e w3 ⟨rfl, hb3⟩; have hB3 := hB2.trans (hb3.mono hB2.size); have hs3 : w1.heap.size ≤ w3.heap.size := hB3.size) | (at_builtin; refine wpList_append_own _ rfl _ _ 31 rfl w1.heap.size 3 i0 (.int .i64 0) 1 8 uslice hi0 hz0 hz1 hz2 rfl (by decide) _ _ _ rfl ((ownsRow_below (ownsRow_below Hown.out hb2) hb3).alloc _) ⟨w3.heap.size, 0, none⟩ 1 1 [.int .i64 (f)] rfl rfl ?c1 ?c2 ?c3 ?c4 ?c5 ?_))
        case c1 => exact cell_one_new _ _ _
        case c2 => intro u hu; simp at hu; subst hu; rfl
        case c3 => unfold maxLen; omega
        case c4 => omega
        case c5 => simp; omega
        intro v' w4 hown4 hgrow _
        have hb4 : Below w1.heap.size w1 w4 := (hB3.alloc hB3.size _).grown hgrow (by simp; omega) (fun j hj => Hob.out j hj)
        have Hown4 := hid hown4
        clear hown4 hgrow
        go_wp2
        go_roundw
        case rel => exact ⟨c + 1, by omega, by rw [Hsr.out], by first | (rw [Hsc.out, Int.add_zero]; done) | (rw [Hsc.out]; done), by go_num, by rw [Hst2.out, List.map_append]; exact Hown4.out, hb4⟩
        case measure => simp [intOf]; omega
      · have hnc := neI_gt hfr
        have hne : (f != r) = true := bne_iff_ne.2 (by omega)
        rw [hnc] at Hsc
        clear hnc
        go_wp2_with (first | (go_at_call 58; refine (Hrw.out _).mono ?_; rintro e w2 ⟨rfl, hb2⟩; have hB2 := hb.trans (hb2.mono hsz); have hS2 := hB2.cells5q Hq.out; obtain ⟨t0, t1, t2, t3, t4⟩ := hS2) | (go_at_call 59; refine (Hft.out _).mono ?_; rintro e w3 ⟨rfl, hb3⟩; have hB3 := hB2.trans (hb3.mono hB2.size); have hs3 : w1.heap.size ≤ w3.heap.size := hB3.size) | (at_builtin; refine wpList_append_own _ rfl _ _ 31 rfl w1.heap.size 3 i0 (.int .i64 0) 1 8 uslice hi0 hz0 hz1 hz2 rfl (by decide) _ _ _ rfl ((ownsRow_below (ownsRow_below Hown.out hb2) hb3).alloc _) ⟨w3.heap.size, 0, none⟩ 1 1 [.int .i64 (f)] rfl rfl ?c1 ?c2 ?c3 ?c4 ?c5 ?_))
        case c1 => exact cell_one_new _ _ _
        case c2 => intro u hu; simp at hu; subst hu; rfl
        case c3 => unfold maxLen; omega
        case c4 => omega
        case c5 => simp; omega
        intro v' w4 hown4 hgrow _
        have hb4 : Below w1.heap.size w1 w4 := (hB3.alloc hB3.size _).grown hgrow (by simp; omega) (fun j hj => Hob.out j hj)
        have Hown4 := hid hown4
        clear hown4 hgrow
        go_wp2
        go_roundw
        case rel => exact ⟨c + 1, by omega, by rw [Hsr.out], by first | (rw [Hsc.out, Int.add_zero]; done) | (rw [Hsc.out]; done), by go_num, by rw [Hst2.out, List.map_append]; exact Hown4.out, hb4⟩
        case measure => simp [intOf]; omega
    · have hge : (m : Int) ≤ (c : Int) := by omega
      have hkn : c = s.length := by rw [← Hn.out]; omega
      have Hk := hid hkn
      have Hown := hid hown
      clear hkn hlk hown
      go_wp2
      go_ret2
      have ho := Hown.out
      rw [Hk.out] at ho
      exact ⟨_, ret_vc (by rw [Hk.out]), (Res.owns (by rw [runL, tab_len]; exact ho)).mono HB0.out.size, bel_step HB0.out hb⟩

end Go.Proofs.Ytkpfcaipbhfgkaa
