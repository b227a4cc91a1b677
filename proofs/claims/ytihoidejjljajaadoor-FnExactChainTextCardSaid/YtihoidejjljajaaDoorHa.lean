
import Derived.Test.YtihoidejjljajaaDoorOa
import Derived.Deep.QuietTactic
import Derived.BigQuiet
namespace Go.MemX
open Go Go.RowKit
set_option linter.unusedVariables false
/-- a filter of the first order, by its fields -/
structure Fo where
  a : Int
  k : Int
  m : Int
  b : Int
  r : Bool
def Fo.v (f : Fo) : Value := .agg #[.int .i64 f.a, .int .i64 f.k, .int .i64 f.m, .int .i64 f.b, .bool f.r]
def fz : Fo := ⟨0, 0, 0, 0, false⟩
/-- the five cells from here on are the filter's -/
structure Five (w : World) (b o : Nat) (f : Fo) : Prop where
  c0 : w.cell? ⟨b, o, none⟩ = some (.int .i64 f.a)
  c1 : w.cell? ⟨b, o + 1, none⟩ = some (.int .i64 f.k)
  c2 : w.cell? ⟨b, o + 2, none⟩ = some (.int .i64 f.m)
  c3 : w.cell? ⟨b, o + 3, none⟩ = some (.int .i64 f.b)
  c4 : w.cell? ⟨b, o + 4, none⟩ = some (.bool f.r)
theorem Five.kept {w w' : World} {b o : Nat} {f : Fo} (h : Five w b o f) (hb : Below w.heap.size w w') (hl : b < w.heap.size) : Five w' b o f :=
  ⟨by rw [hb.cell (by exact hl)]; exact h.c0, by rw [hb.cell (by exact hl)]; exact h.c1, by rw [hb.cell (by exact hl)]; exact h.c2, by rw [hb.cell (by exact hl)]; exact h.c3, by rw [hb.cell (by exact hl)]; exact h.c4⟩
/-- what a slice of filters with this address reads as -/
def FRd (w : World) (a : Option Addr) (fs : List Fo) : Prop :=
  ∀ i f, fs[i]? = some f → ∃ b off, a = some ⟨b, off, none⟩ ∧ b < w.heap.size ∧ Five w b (off + i * 5) f
theorem FRd.kept {w w' : World} {a : Option Addr} {fs : List Fo} (h : FRd w a fs) (hb : Below w.heap.size w w') : FRd w' a fs := fun i f hi => by
  obtain ⟨b, off, ha, hl, hc⟩ := h i f hi
  exact ⟨b, off, ha, Nat.lt_of_lt_of_le hl hb.size, hc.kept hb hl⟩
/-- the place and the cells of a filter in the list -/
theorem FRd.at {P : Program} {T : TypeId} {w : World} {a : Option Addr} {fs : List Fo} (h : FRd w a fs) (n cap : Nat) (hT : P.underlying T = some (.slice (P.elem T))) (hE : ∀ w : World, (sizeOf (P.elem T)).run P w = .ok 5 w) {k : Nat} {f : Fo} (hk : fs[k]? = some f) (hn : k < n) :
    ∃ b off, (∀ w : World, (Instr.indexAt T (.slice a n cap) (.int .i64 (k : Int))).run P w = .ok (.pointer (some ⟨b, off, none⟩)) w) ∧ b < w.heap.size ∧ Five w b off f := by
  obtain ⟨b, off, rfl, hlt, hc⟩ := h k f hk
  refine ⟨b, off + k * 5, fun w => ?_, hlt, hc⟩
  rw [run_indexAt_slice _ _ _ _ _ _ _ hT, if_pos (by omega), hE]
  simp [Addr.add]
  try (intro h0; omega)
/-- the slice value reads as the filters -/
def FSl (w : World) (v : Value) (fs : List Fo) : Prop := ∃ a n cap, v = .slice a n cap ∧ n = fs.length ∧ FRd w a fs
theorem FSl.kept {w w' : World} {v : Value} {fs : List Fo} (h : FSl w v fs) (hb : Below w.heap.size w w') : FSl w' v fs := by
  obtain ⟨a, n, cap, rfl, hn, hr⟩ := h
  exact ⟨a, n, cap, rfl, hn, hr.kept hb⟩
/-- block g begins with the filters; it has room for cap -/
def FRow (E : TypeId) (w : World) (g cap : Nat) (fs : List Fo) : Prop :=
  ∃ cur, w.heap[g]? = some (.cells cur E (0, 0)) ∧ cur.size = 5 * cap ∧ fs.length ≤ cap ∧
    ∀ i f, fs[i]? = some f → cur[i * 5]? = some (.int .i64 f.a) ∧ cur[i * 5 + 1]? = some (.int .i64 f.k) ∧ cur[i * 5 + 2]? = some (.int .i64 f.m) ∧ cur[i * 5 + 3]? = some (.int .i64 f.b) ∧ cur[i * 5 + 4]? = some (.bool f.r)
section
variable {E : TypeId} {w w' : World} {g cap B : Nat} {fs : List Fo} {v : Value}
theorem FRow.lt (h : FRow E w g cap fs) : g < w.heap.size := by obtain ⟨_, h, _⟩ := h; exact lt_of_block h
theorem FRow.five (h : FRow E w g cap fs) {i : Nat} {f : Fo} (hi : fs[i]? = some f) : Five w g (i * 5) f := by
  obtain ⟨cur, h1, h2, h3, h4⟩ := h
  obtain ⟨a0, a1, a2, a3, a4⟩ := h4 i f hi
  exact ⟨by rw [cell_of_row w g _ _ _ _ h1]; exact a0, by rw [cell_of_row w g _ _ _ _ h1]; exact a1, by rw [cell_of_row w g _ _ _ _ h1]; exact a2, by rw [cell_of_row w g _ _ _ _ h1]; exact a3, by rw [cell_of_row w g _ _ _ _ h1]; exact a4⟩
theorem FRow.free (h : FRow E w g cap fs) (i : Nat) : w.frozen? ⟨g, i, none⟩ = false := by obtain ⟨_, h, _⟩ := h; exact frozen_of_row w g i _ _ h
theorem FRow.same (h : FRow E w g cap fs) (hb : w'.heap[g]? = w.heap[g]?) : FRow E w' g cap fs := by
  obtain ⟨cur, h1, h⟩ := h; exact ⟨cur, by rw [hb]; exact h1, h⟩
theorem FRow.kept (h : FRow E w g cap fs) (hb : Below B w w') (hg : g < B) : FRow E w' g cap fs := h.same (hb.block g hg)
theorem FRow.rd (h : FRow E w g cap fs) : FRd w (some ⟨g, 0, none⟩) fs := fun i f hi => ⟨g, 0, rfl, h.lt, by rw [Nat.zero_add]; exact h.five hi⟩
theorem FRow.sl (h : FRow E w g cap fs) : FSl w (.slice (some ⟨g, 0, none⟩) fs.length cap) fs := ⟨_, _, _, rfl, rfl, h.rd⟩
theorem set5_out (c : Array Value) (o : Nat) (x0 x1 x2 x3 x4 : Value) (j : Nat) (h : j < o ∨ o + 5 ≤ j) :
    (((((c.setIfInBounds o x0).setIfInBounds (o + 1) x1).setIfInBounds (o + 2) x2).setIfInBounds (o + 3) x3).setIfInBounds (o + 4) x4)[j]? = c[j]? := by
  rw [Array.getElem?_setIfInBounds_ne (by omega), Array.getElem?_setIfInBounds_ne (by omega), Array.getElem?_setIfInBounds_ne (by omega), Array.getElem?_setIfInBounds_ne (by omega), Array.getElem?_setIfInBounds_ne (by omega)]
theorem set5_in (c : Array Value) (o : Nat) (x0 x1 x2 x3 x4 : Value) (h : o + 5 ≤ c.size) :
    (((((c.setIfInBounds o x0).setIfInBounds (o + 1) x1).setIfInBounds (o + 2) x2).setIfInBounds (o + 3) x3).setIfInBounds (o + 4) x4)[o]? = some x0 ∧
    (((((c.setIfInBounds o x0).setIfInBounds (o + 1) x1).setIfInBounds (o + 2) x2).setIfInBounds (o + 3) x3).setIfInBounds (o + 4) x4)[o + 1]? = some x1 ∧
    (((((c.setIfInBounds o x0).setIfInBounds (o + 1) x1).setIfInBounds (o + 2) x2).setIfInBounds (o + 3) x3).setIfInBounds (o + 4) x4)[o + 2]? = some x2 ∧
    (((((c.setIfInBounds o x0).setIfInBounds (o + 1) x1).setIfInBounds (o + 2) x2).setIfInBounds (o + 3) x3).setIfInBounds (o + 4) x4)[o + 3]? = some x3 ∧
    (((((c.setIfInBounds o x0).setIfInBounds (o + 1) x1).setIfInBounds (o + 2) x2).setIfInBounds (o + 3) x3).setIfInBounds (o + 4) x4)[o + 4]? = some x4 := by
  refine ⟨?_, ?_, ?_, ?_, ?_⟩
  · rw [Array.getElem?_setIfInBounds_ne (by omega), Array.getElem?_setIfInBounds_ne (by omega), Array.getElem?_setIfInBounds_ne (by omega), Array.getElem?_setIfInBounds_ne (by omega), Array.getElem?_setIfInBounds_self_of_lt (by omega)]
  · rw [Array.getElem?_setIfInBounds_ne (by omega), Array.getElem?_setIfInBounds_ne (by omega), Array.getElem?_setIfInBounds_ne (by omega), Array.getElem?_setIfInBounds_self_of_lt (by simp; omega)]
  · rw [Array.getElem?_setIfInBounds_ne (by omega), Array.getElem?_setIfInBounds_ne (by omega), Array.getElem?_setIfInBounds_self_of_lt (by simp; omega)]
  · rw [Array.getElem?_setIfInBounds_ne (by omega), Array.getElem?_setIfInBounds_self_of_lt (by simp; omega)]
  · rw [Array.getElem?_setIfInBounds_self_of_lt (by simp; omega)]
/-- the filter k stored anew, cell by cell -/
theorem FRow.set (h : FRow E w g cap fs) {k : Nat} (hk : k < fs.length) (f : Fo) :
    FRow E (((((w.setCell ⟨g, k * 5, none⟩ (.int .i64 f.a)).setCell ⟨g, k * 5 + 1, none⟩ (.int .i64 f.k)).setCell ⟨g, k * 5 + 2, none⟩ (.int .i64 f.m)).setCell ⟨g, k * 5 + 3, none⟩ (.int .i64 f.b)).setCell ⟨g, k * 5 + 4, none⟩ (.bool f.r)) g cap (fs.set k f) := by
  obtain ⟨cur, h1, h2, h3, h4⟩ := h
  have e1 := heap_setCell_same _ _ (k * 5) _ _ (Value.int .i64 f.a) h1
  have e2 := heap_setCell_same _ _ (k * 5 + 1) _ _ (Value.int .i64 f.k) e1
  have e3 := heap_setCell_same _ _ (k * 5 + 2) _ _ (Value.int .i64 f.m) e2
  have e4 := heap_setCell_same _ _ (k * 5 + 3) _ _ (Value.int .i64 f.b) e3
  have e5 := heap_setCell_same _ _ (k * 5 + 4) _ _ (Value.bool f.r) e4
  refine ⟨_, e5, by simpa using h2, by simpa using h3, fun i q hi => ?_⟩
  by_cases hik : k = i
  · subst hik
    rw [List.getElem?_set_self hk] at hi; cases hi
    exact set5_in cur (k * 5) _ _ _ _ _ (by omega)
  · rw [List.getElem?_set_ne hik] at hi
    obtain ⟨a0, a1, a2, a3, a4⟩ := h4 i q hi
    have ho := set5_out cur (k * 5) (.int .i64 f.a) (.int .i64 f.k) (.int .i64 f.m) (.int .i64 f.b) (.bool f.r)
    exact ⟨by rw [ho _ (by omega)]; exact a0, by rw [ho _ (by omega)]; exact a1, by rw [ho _ (by omega)]; exact a2, by rw [ho _ (by omega)]; exact a3, by rw [ho _ (by omega)]; exact a4⟩
/-- v is a list of filters of the call's own, made from block B on -/
def FRes (E : TypeId) (B : Nat) (w : World) (v : Value) (fs : List Fo) : Prop :=
  (fs = [] ∧ v = .slice none 0 0) ∨ ∃ g cap, v = .slice (some ⟨g, 0, none⟩) fs.length cap ∧ B ≤ g ∧ FRow E w g cap fs
variable {u : Value}
theorem FRes.sl (h : FRes E B w v fs) : FSl w v fs := by
  rcases h with ⟨rfl, rfl⟩ | ⟨g, cap, rfl, _, h⟩
  · exact ⟨none, 0, 0, rfl, rfl, fun i f hi => by simp at hi⟩
  · exact h.sl
theorem FRes.lt (h : FRes E B w v fs) {g : Nat} (hg : v.ownBlock = some g) : g < w.heap.size := by
  rcases h with ⟨rfl, rfl⟩ | ⟨g, cap, rfl, _, h⟩
  · cases hg
  · cases hg; exact h.lt
theorem FRes.ge (h : FRes E B w v fs) {g : Nat} (hg : v.ownBlock = some g) : B ≤ g := by
  rcases h with ⟨rfl, rfl⟩ | ⟨g, cap, rfl, hB, h⟩
  · cases hg
  · cases hg; exact hB
theorem FRes.same (h : FRes E B w v fs) (hb : ∀ g, v.ownBlock = some g → w'.heap[g]? = w.heap[g]?) : FRes E B w' v fs := by
  rcases h with h | ⟨g, cap, rfl, hB, h⟩
  · exact .inl h
  · exact .inr ⟨g, cap, rfl, hB, h.same (hb g rfl)⟩
theorem FRes.kept (h : FRes E B w v fs) (hb : Below w.heap.size w w') : FRes E B w' v fs := h.same fun g hg => hb.block g (h.lt hg)
theorem FRes.mono (h : FRes E B w v fs) {C : Nat} (hC : C ≤ B) : FRes E C w v fs := by
  rcases h with h | ⟨g, cap, rfl, hB, h⟩
  · exact .inl h
  · exact .inr ⟨g, cap, rfl, Nat.le_trans hC hB, h⟩
theorem FRes.only (h : FRes E B w v fs) (o : OnlyV u w w') (hne : ∀ g, v.ownBlock = some g → u.ownBlock ≠ some g) : FRes E B w' v fs := h.same fun g hg => o.block g (hne g hg)
end
def fzA : Array Value := fz.v.cells
theorem madeF_get (n i : Nat) (h : i < n) (j : Nat) (hj : j < 5) : (madeCells fzA (n * 5))[i * 5 + j]? = some (match j with | 0 => .int .i64 0 | 1 => .int .i64 0 | 2 => .int .i64 0 | 3 => .int .i64 0 | _ => .bool false) := by
  have e : (i * 5 + j) % 5 = j := by omega
  simp only [madeCells, fzA, Fo.v, fz, Value.cells]
  rw [Array.getElem?_map, Array.getElem?_range, if_pos (by omega)]
  match j, hj with
  | 0, _ => simp
  | 1, _ => simp [e]
  | 2, _ => simp [e]
  | 3, _ => simp [e]
  | 4, _ => simp [e]
theorem run_make_firsts {P : Program} (T E : TypeId) (hT : P.underlying T = some (.slice E)) (hi : (P.info? E).map (fun i => (i.zero, i.size, i.bytes)) = some (some fz.v, 5, 40)) (n : Nat) (hn : n ≤ 1000000000) (w : World) :
    (Instr.makeSlice T (.int .i64 (n : Int)) (.int .i64 (n : Int))).run P w = .ok (.slice (some ⟨w.heap.size, 0, none⟩) n n) (w.alloc (.cells (madeCells fzA (n * 5)) E)) := by
  obtain ⟨i0, hi0, hz0, hz1, hz2⟩ := info_parts hi
  have hr := run_make (P := P) w T E i0 _ hT hi0 hz0 .i64 .i64 n n (by omega) (Int.le_refl _) (by rw [hz2]; omega) (by omega)
  rw [hr, hz1]
  simp only [Int.toNat_natCast, fzA]
theorem FRow.made (E : TypeId) (w : World) (n : Nat) : FRow E (w.alloc (.cells (madeCells fzA (n * 5)) E)) w.heap.size n (List.replicate n fz) := by
  refine ⟨_, heap_alloc_new _ _, by rw [size_madeCells]; omega, by simp, fun i f hi => ?_⟩
  have hin : i < n := by have := (List.getElem?_eq_some_iff.1 hi).1; simpa using this
  obtain rfl : f = fz := by rw [List.getElem?_replicate, if_pos hin] at hi; cases hi; rfl
  exact ⟨madeF_get n i hin 0 (by omega), madeF_get n i hin 1 (by omega), madeF_get n i hin 2 (by omega), madeF_get n i hin 3 (by omega), madeF_get n i hin 4 (by omega)⟩
/-- copied up to k, nought behind -/
def fUp (fs : List Fo) (k : Nat) : List Fo := fs.take k ++ List.replicate (fs.length - k) fz
theorem fUp_zero (fs : List Fo) : fUp fs 0 = List.replicate fs.length fz := by simp [fUp]
theorem fUp_full (fs : List Fo) : fUp fs fs.length = fs := by simp [fUp]
theorem fUp_len (fs : List Fo) (k : Nat) (h : k ≤ fs.length) : (fUp fs k).length = fs.length := by simp [fUp]; omega
theorem fUp_step (fs : List Fo) (k : Nat) (x : Fo) (h : fs[k]? = some x) : (fUp fs k).set k x = fUp fs (k + 1) := by
  have hk : k < fs.length := (List.getElem?_eq_some_iff.1 h).1
  unfold fUp
  rw [take_step fs k x h, List.set_append_right _ _ (by simp; omega)]
  have e : k - (fs.take k).length = 0 := by simp; omega
  rw [e, show fs.length - k = (fs.length - (k + 1)) + 1 from by omega, List.replicate_succ]
  simp
theorem fUp_get (fs : List Fo) (k : Nat) (hk : k < fs.length) : (fUp fs k)[k]? = some fz := by
  unfold fUp
  rw [List.getElem?_append_right (by simp; omega)]
  have e : k - (fs.take k).length = 0 := by simp; omega
  rw [e, show fs.length - k = (fs.length - (k + 1)) + 1 from by omega, List.replicate_succ]; rfl
end Go.MemX
namespace Go.Proofs.YtihoidejjljajaaDoor
open Go.RowKit BitX Go.MemX
set_option linter.unusedVariables false
theorem usliceF : Tryd.prog.underlying 26 = some (.slice 34) := by kernel_rfl
theorem usliceG : Tryd.prog.underlying 22 = some (.slice 39) := by kernel_rfl
theorem sfiveF (w : World) : (sizeOf 34).run Tryd.prog w = .ok 5 w := by kernel_rfl
theorem sfiveG (w : World) : (sizeOf 39).run Tryd.prog w = .ok 5 w := by kernel_rfl
theorem iFirst : (Tryd.prog.info? 34).map (fun i => (i.zero, i.size, i.bytes)) = some (some fz.v, 5, 40) := by kernel_rfl
abbrev FRi (B : Nat) (w : World) (v : Value) (fs : List Fo) : Prop := FRes 34 B w v fs

set_option maxHeartbeats 400000 in
theorem szFirstS_le (a : Option Addr) (n cap : Nat) (w : World) (h : n ≤ 1048576) :
    Calls Tryd.prog 4 #[.slice a n cap, .int .i64 1048576] w fun e w' => e = .returned (.int .i64 (1048576 - (n : Int))) ∧ w = w' := by
  go_enter Tryd.func4, Tryd.ntmps4
  go_wp2
  go_ret
  exact ⟨rfl, rfl⟩
set_option maxHeartbeats 400000 in
theorem szFirstS_gt (a : Option Addr) (n cap : Nat) (w : World) (h : 1048576 < n) (h2 : n ≤ 9223372036854775807) :
    Calls Tryd.prog 4 #[.slice a n cap, .int .i64 1048576] w fun e w' => e = .returned (.int .i64 (-1)) ∧ w = w' := by
  go_enter Tryd.func4, Tryd.ntmps4
  go_wp2
  go_ret
  exact ⟨rfl, rfl⟩

set_option maxHeartbeats 1000000 in
theorem toFirstS_any (v : Value) (fs : List Fo) (w : World) (hs : FSl w v fs) (hl : fs.length ≤ 2000000) :
    Calls Tryd.prog 6 #[v] w fun e w' => ∃ u, e = .returned u ∧ FRi w.heap.size w' u fs ∧ Below w.heap.size w w' := by
  obtain ⟨a, n, cap, rfl, hn, hrd⟩ := hs
  have Hn := hid hn
  have Hrd := hid hrd
  have hl' : n ≤ 2000000 := by omega
  have hmk := run_make_firsts (P := Tryd.prog) 26 34 usliceF iFirst n (by omega)
  clear hn hrd hl
  go_enter Tryd.func6, Tryd.ntmps6
  go_wp2
  go_loopw [4] (fun i wr => ∃ k : Nat, k ≤ n ∧ i = .int .i64 k ∧ FRow 34 wr w.heap.size n (fUp fs k) ∧ Below w.heap.size w wr)
    (fun i _ => n - (intOf i).toNat)
  case atStart => exact ⟨0, by omega, rfl, by rw [fUp_zero, ← Hn.out]; exact FRow.made _ _ _, bel_alloc _ _⟩
  case round =>
    obtain ⟨k, hk, rfl, hrow, hb⟩ := hrel
    by_cases hlk : k < n
    · obtain ⟨f, hkf⟩ := get_lt fs k (by rw [← Hn.out]; exact hlk)
      obtain ⟨bb, oo, hix, hbb, hF⟩ := (Hrd.out.kept hb).at (P := Tryd.prog) (T := 22) n cap usliceG sfiveG hkf hlk
      obtain ⟨h0, h1, h2, h3, h4⟩ := hF
      have hsz : w.heap.size < wr.heap.size := hrow.lt
      have Hrow := hid hrow
      have Hkf := hid hkf
      have i1 : (0 : Int) ≤ (k : Int) := by omega
      have i2 : (k : Int) < (n : Int) := by omega
      clear hrow hkf
      go_wp2_with (go_at_call 11; refine (toFirst_any _ _ _ _ _ _).mono ?_; rintro e w2 ⟨rfl, hb2⟩; have Hrow2 := hid (Hrow.out.kept hb2 hsz); obtain ⟨d0, d1, d2, d3, d4⟩ := Hrow2.out.five (fUp_get fs k (by rw [← Hn.out]; exact hlk)); have q0 := Hrow2.out.free (k * 5); have q1 := Hrow2.out.free (k * 5 + 1); have q2 := Hrow2.out.free (k * 5 + 2); have q3 := Hrow2.out.free (k * 5 + 3); have q4 := Hrow2.out.free (k * 5 + 4))
      go_roundw
      case rel => exact ⟨k + 1, by omega, by go_num, by rw [← fUp_step fs k f Hkf.out]; exact Hrow2.out.set (by rw [fUp_len fs k (by rw [← Hn.out]; omega), ← Hn.out]; exact hlk) f, (((((bel_step hb hb2).setCell (by exact Nat.le_refl _) _).setCell (by exact Nat.le_refl _) _).setCell (by exact Nat.le_refl _) _).setCell (by exact Nat.le_refl _) _).setCell (by exact Nat.le_refl _) _⟩
      case measure => simp [intOf]; omega
    · have hge : (n : Int) ≤ (k : Int) := by omega
      have hkn : k = fs.length := by rw [← Hn.out]; omega
      have Hk := hid hkn
      have Hrow := hid hrow
      clear hkn hlk hrow
      go_wp2
      go_ret
      refine ⟨_, rfl, .inr ⟨w.heap.size, n, by rw [← Hn.out]; rfl, Nat.le_refl _, ?_⟩, hb⟩
      have := Hrow.out
      rw [Hk.out, fUp_full] at this
      exact this

end Go.Proofs.YtihoidejjljajaaDoor
