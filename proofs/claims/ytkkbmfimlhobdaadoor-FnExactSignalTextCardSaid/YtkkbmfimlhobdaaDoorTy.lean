
import Derived.Test.YtkkbmfimlhobdaaDoorTx
import Derived.Test.YtkkbmfimlhobdaaDoorWg
import Derived.Test.YtkkbmfimlhobdaaDoorShj
import Derived.Lib.AppendIntMem
namespace Go.Proofs.YtkkbmfimlhobdaaDoor
open Go.RowKit BitX Go.MemX
set_option linter.unusedVariables false


def outS (xs : List Int) : ByteArray := match sigB xs with | true => txtS xs | false => ⟨#[]⟩
theorem ret_sb {a b : ByteArray} {c d : Bool} (h : a = b) (h2 : c = d) : Ending.returned (.tuple #[.string a, .bool c]) = .returned (.tuple #[.string b, .bool d]) := by rw [h, h2]
set_option maxHeartbeats 400000 in
theorem spec_SignalText_any (v : Value) (xs : List Int) (w : World) (hs : Sl w v xs) :
    Calls Tryd.prog 4 #[v] w fun e w' => e = .returned (.tuple #[.string (outS xs), .bool (sigB xs)]) ∧ Below w.heap.size w w' := by
  have HS := hid hs
  clear hs
  cases h0 : sigB xs
  · have H := hid h0
    have Ho := hid (show (⟨#[]⟩ : ByteArray) = outS xs by unfold outS; rw [h0])
    clear h0
    go_enter Tryd.func4, Tryd.ntmps4
    go_wp2_with fail
    refine (wdSignal_is _ xs _ _ HS.out H.out).mono ?_
    rintro e w' ⟨rfl, rfl⟩
    go_wp2_with fail
    go_ret2
    exact ⟨ret_sb Ho.out rfl, Below.refl _ _⟩
  · have H := hid h0
    have Ho := hid (show txtS xs = outS xs by unfold outS; rw [h0])
    clear h0
    go_enter Tryd.func4, Tryd.ntmps4
    go_wp2_with fail
    refine (wdSignal_is _ xs _ _ HS.out H.out).mono ?_
    rintro e w' ⟨rfl, rfl⟩
    go_wp2_with fail
    refine (wdText_any _ xs _ HS.out (sigB_t H.out)).mono ?_
    rintro e w2 ⟨rfl, hb⟩
    go_wp2_with fail
    go_ret2
    exact ⟨ret_sb Ho.out rfl, hb⟩

/-- a block that holds just these values -/
def BlkV (E : TypeId) (w : World) (g : Nat) (vs : List Value) : Prop := w.heap[g]? = some (.cells vs.toArray E (0, 0))
theorem BlkV.lt {E : TypeId} {w : World} {g : Nat} {vs : List Value} (h : BlkV E w g vs) : g < w.heap.size := lt_of_block h
theorem BlkV.cell {E : TypeId} {w : World} {g : Nat} {vs : List Value} (h : BlkV E w g vs) {i : Nat} {x : Value} (hi : vs[i]? = some x) : w.cell? ⟨g, i, none⟩ = some x := by
  rw [cell_of_row w g i _ _ _ h]; simpa using hi
theorem BlkV.free {E : TypeId} {w : World} {g : Nat} {vs : List Value} (h : BlkV E w g vs) (i : Nat) : w.frozen? ⟨g, i, none⟩ = false := frozen_of_row w g i _ _ h
theorem BlkV.kept {E : TypeId} {w w' : World} {g : Nat} {vs : List Value} {B : Nat} (h : BlkV E w g vs) (hb : Below B w w') (hg : g < B) : BlkV E w' g vs := by
  unfold BlkV; rw [hb.block g hg]; exact h
theorem BlkV.set {E : TypeId} {w : World} {g : Nat} {vs : List Value} (h : BlkV E w g vs) (i : Nat) (x : Value) : BlkV E (w.setCell ⟨g, i, none⟩ x) g (vs.set i x) := by
  unfold BlkV; rw [heap_setCell_same _ _ _ _ _ _ h]; simp
theorem run_make_strs (n : Nat) (hn : n ≤ 1000000) (w : World) :
    (Instr.makeSlice 32 (.int .i64 (n : Int)) (.int .i64 (n : Int))).run Tryd.prog w = .ok (.slice (some ⟨w.heap.size, 0, none⟩) n n) (w.alloc (.cells (List.replicate n (Value.string ⟨#[]⟩)).toArray 9)) := by
  have hi : (Tryd.prog.info? 9).map (fun i => (i.zero, i.size, i.bytes)) = some (some (.string ⟨#[]⟩), 1, 16) := by kernel_rfl
  obtain ⟨i0, hi0, hz0, hz1, hz2⟩ := info_parts hi
  have hr := run_make (P := Tryd.prog) w 32 9 i0 _ (by kernel_rfl) hi0 hz0 .i64 .i64 n n (by omega) (Int.le_refl _) (by rw [hz2]; omega) (by omega)
  rw [hr, hz1]
  have : madeCells (Value.string ⟨#[]⟩).cells n = (List.replicate n (Value.string ⟨#[]⟩)).toArray := by
    apply Array.toList_inj.1
    rw [show (Value.string ⟨#[]⟩).cells = #[Value.string ⟨#[]⟩] from rfl, toList_madeCells_one]
  simp only [Int.toNat_natCast, Nat.mul_one, this]
/-- the texts of the first k samples, empty ones behind them -/
def txV (xs : List Int) (k : Nat) : List Value := (xs.take k).map (fun x => Value.string (itoaS x)) ++ List.replicate (xs.length - k) (Value.string ⟨#[]⟩)
theorem txV_zero (xs : List Int) : txV xs 0 = List.replicate xs.length (Value.string ⟨#[]⟩) := by simp [txV]
theorem txV_full (xs : List Int) : txV xs xs.length = xs.map (fun x => Value.string (itoaS x)) := by simp [txV]
theorem txV_get (xs : List Int) (k : Nat) (h : k < xs.length) : (txV xs k)[k]? = some (Value.string ⟨#[]⟩) := by
  have e : ((xs.take k).map (fun x => Value.string (itoaS x))).length = k := by simp; omega
  unfold txV
  rw [List.getElem?_append_right (by rw [e]; exact Nat.le_refl _), e, Nat.sub_self, List.getElem?_replicate, if_pos (by omega)]
theorem txV_set (xs : List Int) (k : Nat) (x : Int) (h : xs[k]? = some x) : (txV xs k).set k (Value.string (itoaS x)) = txV xs (k + 1) := by
  have hk : k < xs.length := (List.getElem?_eq_some_iff.1 h).1
  have e : ((xs.take k).map (fun x => Value.string (itoaS x))).length = k := by simp; omega
  unfold txV
  rw [List.set_append_right _ _ (by rw [e]; exact Nat.le_refl _), List.take_add_one, h]
  rw [e, Nat.sub_self, show xs.length - k = (xs.length - (k + 1)) + 1 from by omega, List.replicate_succ, List.set_cons_zero]
  simp
theorem join_txt (xs : List Int) (h0 : xs ≠ []) : (⟨(Lib.join ((xs.map itoaS).map (·.data.toList)) [44]).toArray⟩ : ByteArray) = txtS xs := by
  unfold txtS txtL accL
  rw [if_neg h0, List.take_length, List.map_map]
  rfl
theorem join_n (bk n c : Nat) (xs : List Int) (w : World) (hn : n = xs.length) (h0 : xs ≠ []) (hx : InP (-100000) 100000 xs) (hl : xs.length ≤ 64) (hc : n ≤ c) (hcells : BlkV 9 w bk (xs.map (fun x => Value.string (itoaS x)))) :
    Calls Tryd.prog 16 #[.slice (some ⟨bk, 0, none⟩) n c, .string ⟨#[44]⟩] w fun e w' => e = .returned (.string (txtS xs)) ∧ Below w.heap.size w w' := by
  have hn2 : n = (xs.map itoaS).length := by simp [hn]
  subst hn2
  have hlen : (Lib.join ((xs.map itoaS).map (·.data.toList)) [44]).length ≤ 140737488355328 := by
    have e := accL_len xs hx xs.length (Nat.le_refl _)
    have e2 : Lib.join ((xs.map itoaS).map (·.data.toList)) [44] = accL xs xs.length := by
      unfold accL; rw [List.take_length, List.map_map]; rfl
    rw [e2]; omega
  have := Tryd.strings_Join bk 0 c (xs.map itoaS) ⟨#[44]⟩ w (fun j x hj => by
    rw [Nat.zero_add]
    refine hcells.cell ?_
    rw [List.getElem?_map] at hj ⊢
    cases hxj : xs[j]? with
    | none => rw [hxj] at hj; cases hj
    | some y => rw [hxj] at hj; cases hj; rfl) hcells.lt (by simp; omega) hc hlen
  refine this.mono fun e w' ⟨he, hb⟩ => ⟨?_, hb⟩
  rw [he]
  exact congrArg (fun s => Ending.returned (.string s)) (join_txt xs h0)


set_option maxHeartbeats 1000000 in
theorem listText_in (v : Value) (xs : List Int) (w : World) (hs : Sl w v xs) (hp : SigP xs) (htab : Lib.TabIs Tryd.prog w "internal/strconv.uint64pow10" .u64 Lib.pow10Tab) :
    Calls Tryd.prog 11 #[v] w fun e w' => e = .returned (.string (txtS xs)) ∧ Below w.heap.size w w' := by
  obtain ⟨a, n, cap, rfl, hn, hrd⟩ := hs.rd
  have Hn := hid hn
  have Hrd := hid hrd
  have Hp := hid hp
  have HT := hid (Lib.tabBelow_of_tabIs htab)
  have hl' : n ≤ 64 := by rw [hn]; exact hp.1
  have HS := hid hs
  by_cases h0 : n = 0
  · subst h0
    have he : xs = [] := List.eq_nil_of_length_eq_zero hn.symm
    have hfin : (⟨#[45]⟩ : ByteArray) = txtS xs := by rw [he]; rfl
    have Hfin := hid hfin
    clear hn hrd hs hp he hfin htab
    go_enter Tryd.func11, Tryd.ntmps11
    go_wp2_with fail
    go_ret
    exact ⟨by rw [Hfin.out]; rfl, Below.refl _ _⟩
  · have n1 : 1 ≤ n := by omega
    have hne : ((n : Int) == 0) = false := by rw [beq_eq_false_iff_ne]; omega
    have Hx0 := hid (show xs ≠ [] from fun e => by rw [e] at hn; exact h0 hn)
    have hmk := run_make_strs n (by omega)
    clear hn hrd hs hp h0 htab
    go_enter Tryd.func11, Tryd.ntmps11
    go_wp2_with fail
    go_loopw [14] (fun i wr => ∃ k : Nat, k ≤ n ∧ i = .int .i64 k ∧ BlkV 9 wr w.heap.size (txV xs k) ∧ Below w.heap.size w wr)
      (fun i _ => n - (intOf i).toNat)
    case atStart => exact ⟨0, by omega, rfl, by rw [txV_zero, ← Hn.out]; exact heap_alloc_new _ _, bel_alloc _ _⟩
    case round =>
      obtain ⟨k, hk, rfl, hblk, hb⟩ := hrel
      by_cases hlk : k < n
      · obtain ⟨x, hkx⟩ := get_lt xs k (by rw [← Hn.out]; exact hlk)
        obtain ⟨bb, oo, hix, hbb, hce⟩ := (Hrd.out.kept hb).at (P := Tryd.prog) (T := 22) n cap uslice sone hkx hlk
        obtain ⟨x1, x2⟩ := Hp.out.2.at hkx
        have Hblk := hid hblk
        have Hset := hid (txV_set xs k x hkx)
        have Hget := hid (txV_get xs k (by rw [← Hn.out]; exact hlk))
        clear hblk hkx
        go_wp2_with fail
        refine (Tryd.strconv_Itoa x (by omega) (by omega) _ (HT.out _ hb)).mono ?_
        rintro e w2 ⟨rfl, kk, os, hw2⟩
        have hb2 : Below wr.heap.size wr w2 := by rw [hw2]; exact Lib.below_grow _ _ (Nat.le_refl _) kk os
        have hblk2 := Hblk.out.kept hb2 Hblk.out.lt
        have hcd : w2.cell? ⟨w.heap.size, k, none⟩ = some (.string ⟨#[]⟩) := hblk2.cell Hget.out
        have hfd := hblk2.free k
        have Hblk2 := hid hblk2
        clear hblk2 hw2
        go_wp2
        go_roundw
        case rel => exact ⟨k + 1, by omega, by go_num, by rw [← Hset.out]; exact Hblk2.out.set k _, (hb.trans (hb2.mono hb.size)).setCell (by simp) _⟩
        case measure => simp [intOf]; omega
      · have hge : (n : Int) ≤ (k : Int) := by omega
        have hkn : k = xs.length := by rw [← Hn.out]; omega
        have Hblk := hid (show BlkV 9 wr w.heap.size (xs.map (fun x => Value.string (itoaS x))) by rw [← txV_full, ← hkn]; exact hblk)
        clear hlk hkn hblk
        go_wp2_with fail
        refine (join_n w.heap.size n n xs _ Hn.out Hx0.out Hp.out.2 Hp.out.1 (Nat.le_refl _) Hblk.out).mono ?_
        rintro e w3 ⟨rfl, hb3⟩
        go_wp2_with fail
        go_ret
        exact ⟨rfl, hb.trans (hb3.mono hb.size)⟩


set_option maxHeartbeats 400000 in
theorem impl_SignalText_in (v : Value) (xs : List Int) (w : World) (hs : Sl w v xs) (hp : SigP xs) (htab : Lib.TabIs Tryd.prog w "internal/strconv.uint64pow10" .u64 Lib.pow10Tab) :
    Calls Tryd.prog 6 #[v] w fun e w' => e = .returned (.tuple #[.string (txtS xs), .bool true]) ∧ Below w.heap.size w w' := by
  have HT := hid htab
  have Hp := hid hp
  have HS := hid hs
  clear htab hp hs
  go_enter Tryd.func6, Tryd.ntmps6
  go_wp2_with fail
  refine (impl_IsSignal_is _ xs _ _ HS.out (sigB_of Hp.out)).mono ?_
  rintro e w' ⟨rfl, rfl⟩
  go_wp2_with fail
  refine (listText_in _ xs _ HS.out Hp.out HT.out).mono ?_
  rintro e w1 ⟨rfl, hb⟩
  go_wp2_with fail
  go_ret2
  exact ⟨rfl, hb⟩

set_option maxHeartbeats 400000 in
theorem impl_SignalText_any (v : Value) (xs : List Int) (w : World) (hs : Sl w v xs) (htab : Lib.TabIs Tryd.prog w "internal/strconv.uint64pow10" .u64 Lib.pow10Tab) :
    Calls Tryd.prog 6 #[v] w fun e w' => e = .returned (.tuple #[.string (outS xs), .bool (sigB xs)]) ∧ Below w.heap.size w w' := by
  cases h0 : sigB xs
  · have HS := hid hs
    have H := hid h0
    have Ho := hid (show (⟨#[]⟩ : ByteArray) = outS xs by unfold outS; rw [h0])
    clear h0 hs htab
    go_enter Tryd.func6, Tryd.ntmps6
    go_wp2_with fail
    refine (impl_IsSignal_is _ xs _ _ HS.out H.out).mono ?_
    rintro e w' ⟨rfl, rfl⟩
    go_wp2_with fail
    go_ret2
    exact ⟨ret_sb Ho.out rfl, Below.refl _ _⟩
  · have := impl_SignalText_in v xs w hs (sigB_t h0) htab
    rw [show outS xs = txtS xs by unfold outS; rw [h0]]
    exact this

set_option maxHeartbeats 1600000 in
theorem walk_FnExactSignalText (w : World) (u : Option Addr) (l c : Nat) (z : List Int) (hr : IsRow .i64 w u l c z) (htab : Lib.TabIs Tryd.prog w "internal/strconv.uint64pow10" .u64 Lib.pow10Tab) :
    Calls Tryd.prog 3 #[.slice u l c] w fun e w' => e = .returned (.bool true) ∧ Below w.heap.size w w' := by
  obtain ⟨hs, hlen, hin⟩ := hr.sl
  generalize z.take l = xs at hs hlen hin
  clear hr
  by_cases hbig : 1048576 < l
  · clear hs hlen hin htab
    go_enter Tryd.func3, Tryd.ntmps3
    go_wp2
    go_ret
    exact ⟨rfl, Below.refl _ _⟩
  · have hq : l ≤ 1048576 := by omega
    have HS := hid hs
    have HT := hid (Lib.tabBelow_of_tabIs htab)
    have hxl : xs.length ≤ 1048576 := by omega
    clear hs hlen hin htab hbig
    cases hb0 : sigB xs
    all_goals
      have HB := hid hb0
      clear hb0
      generalize hos : outS xs = os
      go_enter Tryd.func3, Tryd.ntmps3
      go_wp2_with fail
      refine (toIntS_any _ xs _ HS.out (by omega)).mono ?_
      rintro e w1 ⟨g_A, hg_A, rfl, K_A, B1⟩
      have A1 := K_A.res hg_A
      go_wp2_with fail
      refine (spec_SignalText_any _ xs _ A1.sl).mono ?_
      rintro e w2 ⟨rfl, hb⟩
      have B2 := bel_step B1 hb
      rw [HB.out]
      go_wp2_with fail
      refine (toIntS_any _ xs _ (HS.out.kept B2) (by omega)).mono ?_
      rintro e w3 ⟨g_X, hg_X, rfl, K_X, hb⟩
      have B3 := bel_step B2 hb
      have X3 := K_X.res hg_X
      go_wp2_with fail
      refine (impl_SignalText_any _ xs _ X3.sl (HT.out _ B3)).mono ?_
      rintro e w4 ⟨rfl, hb⟩
      have B4 := bel_step B3 hb
      have X4 := X3.kept hb
      rw [HB.out]
      go_wp2_with fail
      refine (toIntS_any _ xs _ (HS.out.kept B4) (by omega)).mono ?_
      rintro e w5 ⟨g_T, hg_T, rfl, K_T, hb⟩
      have B5 := bel_step B4 hb
      have X5 := X4.kept hb
      have T5 := K_T.res hg_T
      go_wp2_with fail
      refine (eqIntS_same _ _ xs _ X5.sl T5.sl (by omega)).mono ?_
      rintro e w6 ⟨rfl, hb⟩
      have B6 := bel_step B5 hb
      go_wp2_with fail
      go_ret
      exact ⟨rfl, B6⟩
end Go.Proofs.YtkkbmfimlhobdaaDoor
