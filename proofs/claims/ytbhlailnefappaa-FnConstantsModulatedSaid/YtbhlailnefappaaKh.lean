import Derived.Test.YtbhlailnefappaaOa
import Derived.Deep.QuietTactic
import Derived.BigQuiet
import Derived.Deep.RegionHeld3
import Derived.Test.YtbhlailnefappaaEb
namespace Go.Proofs.Ytbhlailnefappaa
open Go.RowKit BitX Go.MemX
set_option linter.unusedVariables false


theorem ubytes : Try.prog.underlying 22 = some (.slice 5) := by kernel_rfl
/-- a slice with this address, of so many bytes, lies below block g -/
def By (g : Nat) (w : World) (a : Option Addr) (len : Nat) : Prop :=
  ∀ i, i < len → ∃ b off x, a = some ⟨b, off, none⟩ ∧ b < g ∧ (0 ≤ x ∧ x ≤ 255) ∧ w.cell? ⟨b, off + i, none⟩ = some (.int .u8 x)
theorem By.kept {g : Nat} {w w' : World} {a : Option Addr} {len : Nat} (h : By g w a len) (hb : Below g w w') : By g w' a len := fun i hi => by
  obtain ⟨b, off, x, ha, hlt, hx, hc⟩ := h i hi
  exact ⟨b, off, x, ha, hlt, hx, by rw [hb.cell (by exact hlt)]; exact hc⟩
theorem By.at {g : Nat} {w : World} {a : Option Addr} {len : Nat} (h : By g w a len) (cap : Nat) {k : Nat} (hk : k < len) :
    ∃ b off x, (∀ w : World, (Instr.indexAt 22 (.slice a len cap) (.int .i64 (k : Int))).run Try.prog w = .ok (.pointer (some ⟨b, off, none⟩)) w) ∧ (0 ≤ x ∧ x ≤ 255) ∧ w.cell? ⟨b, off, none⟩ = some (.int .u8 x) := by
  obtain ⟨b, off, x, rfl, hlt, hx, hc⟩ := h k hk
  refine ⟨b, off + k, x, fun w => ?_, hx, hc⟩
  have hs : (sizeOf (Try.prog.elem 22)).run Try.prog w = .ok 1 w := by kernel_rfl
  rw [run_indexAt_slice _ _ _ _ _ _ _ (by kernel_rfl), if_pos (by omega), hs]
  simp [Addr.add]
theorem bounds_u8 {n : Int} (h : (Lit.int .u8 n).wf = true) : 0 ≤ n ∧ n ≤ 255 := by
  simp only [Lit.wf, Bool.and_eq_true, decide_eq_true_eq] at h
  exact h
theorem IsRow.by {w : World} {a : Option Addr} {len cap : Nat} {zs : List Int} (h : IsRow .u8 w a len cap zs) : By w.heap.size w a len := by
  intro i hi
  rcases h with ⟨rfl, rfl, rfl, rfl⟩ | ⟨x, rfl, hl, hm, hz, hcell, hw⟩
  · omega
  · obtain ⟨b, off, rfl, hc⟩ := ints_at hcell (by omega)
    have h1 := hc i (by omega)
    have hmem : zs.getD i 0 ∈ zs := by
      rw [List.getD_eq_getElem?_getD, List.getElem?_eq_getElem (by omega)]; exact List.getElem_mem _
    have h2 := hw _ hmem
    refine ⟨b, off, _, rfl, block_lt_of_cell h1, ?_, h1⟩
    exact bounds_u8 h2


/-- the cursor at block g, at most so many bytes on -/
def Cur (g K : Nat) (w : World) : Prop := ∃ (a : Option Addr) (len cap at_ : Nat) (seed : Int),
  w.heap[g]? = some (.cells #[.slice a len cap, .int .i64 (at_ : Int), .int .u64 seed] 63 (0, 0)) ∧ By g w a len ∧ len ≤ 1048576 ∧ at_ ≤ K ∧ 0 ≤ seed ∧ seed ≤ 18446744073709551615
theorem Cur.lt {g K : Nat} {w : World} (h : Cur g K w) : g < w.heap.size := by obtain ⟨_, _, _, _, _, h, _⟩ := h; exact lt_of_block h
theorem Cur.mono {g K L : Nat} {w : World} (h : Cur g K w) (hl : K ≤ L) : Cur g L w := by
  obtain ⟨a, len, cap, at_, seed, h1, h2, h3, h4, h5⟩ := h
  exact ⟨a, len, cap, at_, seed, h1, h2, h3, by omega, h5⟩
theorem Cur.kept {g K : Nat} {w w' : World} (h : Cur g K w) (hb : Below w.heap.size w w') : Cur g K w' := by
  have hlt := h.lt
  obtain ⟨a, len, cap, at_, seed, h1, h2, h3, h4, h5⟩ := h
  exact ⟨a, len, cap, at_, seed, by rw [hb.block g hlt]; exact h1, h2.kept (hb.mono (by omega)), h3, h4, h5⟩
/-- only block g may have changed -/
def Gets (g : Nat) (w w' : World) : Prop := Below g w w' ∧ ∀ b, b < w.heap.size → b ≠ g → w'.heap[b]? = w.heap[b]?
theorem Gets.refl (g : Nat) (w : World) : Gets g w w := ⟨Below.refl _ _, fun _ _ _ => rfl⟩
theorem Gets.trans {g : Nat} {w w1 w2 : World} (h : Gets g w w1) (k : Gets g w1 w2) : Gets g w w2 := ⟨h.1.trans k.1, fun b hb hne => (k.2 b (Nat.lt_of_lt_of_le hb h.1.size) hne).trans (h.2 b hb hne)⟩
theorem Gets.below {g : Nat} {w w1 w2 : World} (h : Gets g w w1) (k : Below w1.heap.size w1 w2) (hg : g < w1.heap.size) : Gets g w w2 := ⟨h.1.trans (k.mono (by omega)), fun b hb hne => (k.block b (Nat.lt_of_lt_of_le hb h.1.size)).trans (h.2 b hb hne)⟩
theorem Gets.alloc {g : Nat} {w w1 : World} (h : Gets g w w1) (hg : g < w1.heap.size) (o : Obj) : Gets g w (w1.alloc o) := h.below ((Below.refl _ _).alloc (Nat.le_refl _) o) hg
theorem Gets.drew {g : Nat} {w w1 : World} (h : Gets g w w1) : Gets g w w1.drew := ⟨h.1.drew, fun b hb hne => h.2 b hb hne⟩
/-- what a call leaves that draws a number -/
def Draws (g K : Nat) (lo hi : Int) (w : World) (e : Ending) (w' : World) : Prop := (∃ r, e = .returned (.int .i64 r) ∧ lo ≤ r ∧ r ≤ hi) ∧ Cur g K w' ∧ Gets g w w'
theorem u64_in (x : Int) : 0 ≤ IntKind.u64.wrap x ∧ IntKind.u64.wrap x ≤ 18446744073709551615 := by
  unfold IntKind.wrap
  simp only [IntKind.bits, IntKind.signed]
  have a := Int.emod_nonneg x (show (2 : Int) ^ 64 ≠ 0 by decide)
  have b := Int.emod_lt_of_pos x (show (0 : Int) < 2 ^ 64 by decide)
  have c : (2 : Int) ^ 64 = 18446744073709551616 := by decide
  simp only [Bool.false_and, Bool.false_eq_true, if_false]
  omega
theorem u64_id (x : Int) (h1 : 0 ≤ x) (h2 : x ≤ 18446744073709551615) : IntKind.u64.wrap x = x := by
  unfold IntKind.wrap
  simp only [IntKind.bits, IntKind.signed]
  have b := Int.emod_eq_of_lt h1 (show x < 2 ^ 64 by have c : (2 : Int) ^ 64 = 18446744073709551616 := by decide
                                                     omega)
  simp only [Bool.false_and, Bool.false_eq_true, if_false]
  exact b
theorem and255 (y : Int) : (0 ≤ bits BinOp.and IntKind.u64 y 255 ∧ bits BinOp.and IntKind.u64 y 255 ≤ 255) ∧ wrap64 (bits BinOp.and IntKind.u64 y 255) = bits BinOp.and IntKind.u64 y 255 := by
  have h : ((BitVec.ofInt 64 y) &&& (BitVec.ofInt 64 255)).toNat ≤ 255 := by
    rw [BitVec.toNat_and]
    exact Nat.le_trans Nat.and_le_right (by decide)
  have e : bits BinOp.and IntKind.u64 y 255 = ((((BitVec.ofInt 64 y) &&& (BitVec.ofInt 64 255)).toNat : Nat) : Int) := by
    show IntKind.u64.wrap ((((BitVec.ofInt 64 y) &&& (BitVec.ofInt 64 255)).toNat : Nat) : Int) = _
    exact u64_id _ (by omega) (by omega)
  rw [e]
  exact ⟨by omega, IntWalk.wrap64_in _ (by omega)⟩
set_option maxHeartbeats 2000000 in
theorem next_any (g K : Nat) (w : World) (hc : Cur g K w) (hK : K ≤ 1000000000) :
    Calls Try.prog 86 #[.pointer (some ⟨g, 0, none⟩)] w (Draws g (K + 1) 0 255 w) := by
  obtain ⟨a, len, cap, at_, seed, h1, h2, h3, h4, h5, h6⟩ := hc
  have c0 : w.cell? ⟨g, 0, none⟩ = some (.slice a len cap) := by rw [cell_of_row w g 0 _ _ _ h1]; rfl
  have c1 : w.cell? ⟨g, 1, none⟩ = some (.int .i64 (at_ : Int)) := by rw [cell_of_row w g 1 _ _ _ h1]; rfl
  have c2 : w.cell? ⟨g, 2, none⟩ = some (.int .u64 seed) := by rw [cell_of_row w g 2 _ _ _ h1]; rfl
  have f1 : w.frozen? ⟨g, 1, none⟩ = false := frozen_of_row w g 1 _ _ h1
  have f2 : w.frozen? ⟨g, 2, none⟩ = false := frozen_of_row w g 2 _ _ h1
  have H1 := hid h1
  have H2 := hid h2
  by_cases hlt : at_ < len
  · obtain ⟨bb, oo, x, hix, ⟨x1, x2⟩, hcx⟩ := h2.at cap hlt
    have hl2 : at_ + 1 ≤ len := by omega
    have ex : IntKind.i64.wrap x = x := IntWalk.i64_in _ (by omega)
    have ex2 : IntKind.u64.wrap x = x := u64_id x (by omega) (by omega)
    obtain ⟨ns, hns⟩ : ∃ ns, ns = IntKind.u64.wrap (IntKind.u64.wrap (IntKind.u64.wrap (seed * 6364136223846793005) + x) + 1442695040888963407) := ⟨_, rfl⟩
    have hn1 := u64_in (IntKind.u64.wrap (IntKind.u64.wrap (seed * 6364136223846793005) + x) + 1442695040888963407)
    rw [← hns] at hn1
    have hns' := hns.symm
    clear h1 h2 hns
    go_enter Try.func86, Try.ntmps86
    go_wp2_with fail
    have hS := And.intro c0 c1
    go_region_held3 (fun W => W.cell? ⟨g, 0, none⟩ = some (.slice a len cap) ∧ W.cell? ⟨g, 1, none⟩ = some (.int .i64 (at_ : Int))) (first | exact hS | assumption | go_keep) (first | fail)
    go_wp2_with fail
    have hS := And.intro c0 (And.intro c1 hcx)
    go_region_held3 (fun W => W.cell? ⟨g, 0, none⟩ = some (.slice a len cap) ∧ W.cell? ⟨g, 1, none⟩ = some (.int .i64 (at_ : Int)) ∧ W.cell? ⟨bb, oo, none⟩ = some (.int .u8 x)) (first | exact hS | assumption | go_keep) (first | fail)
    go_wp2_with fail
    have hh : ((w.setCell ⟨g, 1, none⟩ (.int .i64 ((at_ : Int) + 1))).setCell ⟨g, 2, none⟩ (.int .u64 ns)).heap[g]? = some (.cells #[.slice a len cap, .int .i64 ((at_ : Int) + 1), .int .u64 ns] 63 (0, 0)) := by
      rw [heap_setCell_same _ _ _ _ _ _ (heap_setCell_same _ _ _ _ _ _ H1.out)]; rfl
    have hbl : Below g w ((w.setCell ⟨g, 1, none⟩ (.int .i64 ((at_ : Int) + 1))).setCell ⟨g, 2, none⟩ (.int .u64 ns)) := ((Below.refl g w).setCell (by exact Nat.le_refl g) _).setCell (by exact Nat.le_refl g) _
    have hgt : Gets g w ((w.setCell ⟨g, 1, none⟩ (.int .i64 ((at_ : Int) + 1))).setCell ⟨g, 2, none⟩ (.int .u64 ns)) := ⟨hbl, fun b _ hne => by rw [heap_setCell_other _ _ _ _ hne, heap_setCell_other _ _ _ _ hne]⟩
    have d0 : ((w.setCell ⟨g, 1, none⟩ (.int .i64 ((at_ : Int) + 1))).setCell ⟨g, 2, none⟩ (.int .u64 ns)).cell? ⟨g, 0, none⟩ = some (.slice a len cap) := by rw [cell_of_row _ g 0 _ _ _ hh]; rfl
    have d1 : ((w.setCell ⟨g, 1, none⟩ (.int .i64 ((at_ : Int) + 1))).setCell ⟨g, 2, none⟩ (.int .u64 ns)).cell? ⟨g, 1, none⟩ = some (.int .i64 ((at_ : Int) + 1)) := by rw [cell_of_row _ g 1 _ _ _ hh]; rfl
    have d2 : ((w.setCell ⟨g, 1, none⟩ (.int .i64 ((at_ : Int) + 1))).setCell ⟨g, 2, none⟩ (.int .u64 ns)).cell? ⟨g, 2, none⟩ = some (.int .u64 ns) := by rw [cell_of_row _ g 2 _ _ _ hh]; rfl
    try rw [hns']
    generalize ((w.setCell ⟨g, 1, none⟩ (.int .i64 ((at_ : Int) + 1))).setCell ⟨g, 2, none⟩ (.int .u64 ns)) = W2 at *
    have hS := And.intro d0 d1
    go_region_held3 (fun W => W.cell? ⟨g, 0, none⟩ = some (.slice a len cap) ∧ W.cell? ⟨g, 1, none⟩ = some (.int .i64 ((at_ : Int) + 1))) (first | exact hS | assumption | go_keep) (first | fail)
    all_goals go_wp2
    all_goals go_ret
    all_goals exact ⟨⟨_, rfl, by exact x1, by exact x2⟩, ⟨a, len, cap, at_ + 1, ns, by first | exact hh | (rw [show ((at_ + 1 : Nat) : Int) = (at_ : Int) + 1 from by omega]; exact hh), by first | exact H2.out.kept hbl | exact H2.out.kept hbl.drew | exact H2.out.kept hbl.drew.drew | exact H2.out.kept hbl.drew.drew.drew, h3, by omega, hn1⟩, by first | exact hgt | exact hgt.drew | exact hgt.drew.drew | exact hgt.drew.drew.drew⟩
  · have hge : len ≤ at_ := by omega
    have hl2 : len < at_ + 1 := by omega
    clear hlt
    obtain ⟨ns, hns⟩ : ∃ ns, ns = IntKind.u64.wrap (IntKind.u64.wrap (IntKind.u64.wrap (seed * 6364136223846793005)) + 1442695040888963407) := ⟨_, rfl⟩
    have hn1 := u64_in (IntKind.u64.wrap (IntKind.u64.wrap (seed * 6364136223846793005)) + 1442695040888963407)
    rw [← hns] at hn1
    have hns' := hns.symm
    clear h1 h2 hns
    go_enter Try.func86, Try.ntmps86
    go_wp2_with fail
    have hS := And.intro c0 c1
    go_region_held3 (fun W => W.cell? ⟨g, 0, none⟩ = some (.slice a len cap) ∧ W.cell? ⟨g, 1, none⟩ = some (.int .i64 (at_ : Int))) (first | exact hS | assumption | go_keep) (first | fail)
    go_wp2_with fail
    have hh : ((w.setCell ⟨g, 1, none⟩ (.int .i64 ((at_ : Int) + 1))).setCell ⟨g, 2, none⟩ (.int .u64 ns)).heap[g]? = some (.cells #[.slice a len cap, .int .i64 ((at_ : Int) + 1), .int .u64 ns] 63 (0, 0)) := by
      rw [heap_setCell_same _ _ _ _ _ _ (heap_setCell_same _ _ _ _ _ _ H1.out)]; rfl
    have hbl : Below g w ((w.setCell ⟨g, 1, none⟩ (.int .i64 ((at_ : Int) + 1))).setCell ⟨g, 2, none⟩ (.int .u64 ns)) := ((Below.refl g w).setCell (by exact Nat.le_refl g) _).setCell (by exact Nat.le_refl g) _
    have hgt : Gets g w ((w.setCell ⟨g, 1, none⟩ (.int .i64 ((at_ : Int) + 1))).setCell ⟨g, 2, none⟩ (.int .u64 ns)) := ⟨hbl, fun b _ hne => by rw [heap_setCell_other _ _ _ _ hne, heap_setCell_other _ _ _ _ hne]⟩
    have d0 : ((w.setCell ⟨g, 1, none⟩ (.int .i64 ((at_ : Int) + 1))).setCell ⟨g, 2, none⟩ (.int .u64 ns)).cell? ⟨g, 0, none⟩ = some (.slice a len cap) := by rw [cell_of_row _ g 0 _ _ _ hh]; rfl
    have d1 : ((w.setCell ⟨g, 1, none⟩ (.int .i64 ((at_ : Int) + 1))).setCell ⟨g, 2, none⟩ (.int .u64 ns)).cell? ⟨g, 1, none⟩ = some (.int .i64 ((at_ : Int) + 1)) := by rw [cell_of_row _ g 1 _ _ _ hh]; rfl
    have d2 : ((w.setCell ⟨g, 1, none⟩ (.int .i64 ((at_ : Int) + 1))).setCell ⟨g, 2, none⟩ (.int .u64 ns)).cell? ⟨g, 2, none⟩ = some (.int .u64 ns) := by rw [cell_of_row _ g 2 _ _ _ hh]; rfl
    try rw [hns']
    generalize ((w.setCell ⟨g, 1, none⟩ (.int .i64 ((at_ : Int) + 1))).setCell ⟨g, 2, none⟩ (.int .u64 ns)) = W2 at *
    have hS := And.intro d0 d1
    go_region_held3 (fun W => W.cell? ⟨g, 0, none⟩ = some (.slice a len cap) ∧ W.cell? ⟨g, 1, none⟩ = some (.int .i64 ((at_ : Int) + 1))) (first | exact hS | assumption | go_keep) (first | fail)
    all_goals go_wp2
    all_goals go_ret
    all_goals exact ⟨⟨_, rfl, by rw [(and255 _).2]; exact (and255 _).1.1, by rw [(and255 _).2]; exact (and255 _).1.2⟩, ⟨a, len, cap, at_ + 1, ns, by first | exact hh | (rw [show ((at_ + 1 : Nat) : Int) = (at_ : Int) + 1 from by omega]; exact hh), by first | exact H2.out.kept hbl | exact H2.out.kept hbl.drew | exact H2.out.kept hbl.drew.drew | exact H2.out.kept hbl.drew.drew.drew, h3, by omega, hn1⟩, by first | exact hgt | exact hgt.drew | exact hgt.drew.drew | exact hgt.drew.drew.drew⟩

end Go.Proofs.Ytbhlailnefappaa

namespace Go.Proofs.Ytbhlailnefappaa
open Go.RowKit BitX Go.MemX
set_option linter.unusedVariables false


theorem tmod_in {x n : Int} (h0 : 0 ≤ x) (hn : 1 ≤ n) : 0 ≤ x.tmod n ∧ x.tmod n ≤ n - 1 := by
  rw [Int.tmod_eq_emod_of_nonneg h0]
  have a := Int.emod_nonneg x (show n ≠ 0 by omega)
  have b := Int.emod_lt_of_pos x (show 0 < n by omega)
  omega
theorem emod_in {x n : Int} (hn : 1 ≤ n) : 0 ≤ x % n ∧ x % n ≤ n - 1 := by
  have a := Int.emod_nonneg x (show n ≠ 0 by omega)
  have b := Int.emod_lt_of_pos x (show 0 < n by omega)
  omega
theorem w64s {x : Int} (h1 : -4000000000000000000 ≤ x) (h2 : x ≤ 4000000000000000000) : IntKind.i64.wrap x = x ∧ wrap64 x = x := ⟨IntWalk.i64_in _ (by omega), IntWalk.wrap64_in _ (by omega)⟩
def DrawsB (g K : Nat) (w : World) (e : Ending) (w' : World) : Prop := (∃ b, e = .returned (.bool b)) ∧ Cur g K w' ∧ Gets g w w'
set_option maxHeartbeats 2000000 in
theorem pick_any (g K : Nat) (n : Int) (w : World) (hc : Cur g K w) (hK : K ≤ 999999000) (hn : 1 ≤ n) (hn2 : n ≤ 65536) :
    Calls Try.prog 59 #[.pointer (some ⟨g, 0, none⟩), .int .i64 n] w (Draws g (K + 2) 0 (n - 1) w) := by
  have HC := hid hc
  clear hc
  by_cases h1 : n ≤ 1
  · have h1' : n = 1 := by omega
    go_enter Try.func59, Try.ntmps59
    go_wp2
    go_ret
    exact ⟨⟨0, rfl, by omega, by omega⟩, HC.out.mono (by omega), Gets.refl _ _⟩
  · have h1' : 1 < n := by omega
    have hn0 : n ≠ 0 := by omega
    have hnb : (n == 0) = false := beq_eq_false_iff_ne.2 hn0
    clear h1
    by_cases h2 : n ≤ 200
    · go_enter Try.func59, Try.ntmps59
      go_wp2_with fail
      refine (next_any g K _ HC.out (by omega)).mono ?_
      rintro e w1 ⟨⟨r, rfl, r1, r2⟩, hc1, hb1⟩
      have HC1 := hid hc1
      have hm := tmod_in r1 hn
      have hm' := emod_in (x := r) hn
      have e1 : IntKind.i64.wrap (r.tmod n) = r.tmod n := (w64s (by omega) (by omega)).1
      have e2 : wrap64 (r.tmod n) = r.tmod n := (w64s (by omega) (by omega)).2
      clear hc1
      go_wp2
      go_ret
      exact ⟨⟨_, rfl, by first | exact hm.1 | exact hm'.1, by first | exact hm.2 | exact hm'.2⟩, HC1.out.mono (by omega), hb1⟩
    · have h2' : 200 < n := by omega
      clear h2
      go_enter Try.func59, Try.ntmps59
      go_wp2_with fail
      refine (next_any g K _ HC.out (by omega)).mono ?_
      rintro e w1 ⟨⟨r, rfl, r1, r2⟩, hc1, hb1⟩
      have HC1 := hid hc1
      have e3 : IntKind.i64.wrap (r * 256) = r * 256 := (w64s (by omega) (by omega)).1
      clear hc1
      go_wp2_with fail
      refine (next_any g (K + 1) _ HC1.out (by omega)).mono ?_
      rintro e w2 ⟨⟨q, rfl, q1, q2⟩, hc2, hb2⟩
      have HC2 := hid hc2
      obtain ⟨s, hs⟩ : ∃ s, s = r * 256 + q := ⟨_, rfl⟩
      have e4 : IntKind.i64.wrap (r * 256 + q) = s := by rw [hs]; exact (w64s (by omega) (by omega)).1
      have e5 : wrap64 (r * 256 + q) = s := by rw [hs]; exact (w64s (by omega) (by omega)).2
      have hm := tmod_in (show 0 ≤ s by omega) hn
      have hm' := emod_in (x := s) hn
      have e1 : IntKind.i64.wrap (s.tmod n) = s.tmod n := (w64s (by omega) (by omega)).1
      have e2 : wrap64 (s.tmod n) = s.tmod n := (w64s (by omega) (by omega)).2
      clear hc2 hs
      go_wp2
      go_ret
      exact ⟨⟨_, rfl, by first | exact hm.1 | exact hm'.1, by first | exact hm.2 | exact hm'.2⟩, HC2.out.mono (by omega), hb1.trans hb2⟩

set_option maxHeartbeats 1000000 in
theorem one_any (g K : Nat) (n : Int) (w : World) (hc : Cur g K w) (hK : K ≤ 999999000) (hn : 1 ≤ n) (hn2 : n ≤ 65536) :
    Calls Try.prog 57 #[.pointer (some ⟨g, 0, none⟩), .int .i64 n] w (DrawsB g (K + 2) w) := by
  go_enter Try.func57, Try.ntmps57
  go_wp2_with fail
  refine (pick_any g K n _ hc hK hn hn2).mono ?_
  rintro e w1 ⟨⟨r, rfl, r1, r2⟩, hc1, hb1⟩
  have HC1 := hid hc1
  clear hc1
  go_wp2
  go_ret
  exact ⟨⟨_, rfl⟩, HC1.out, hb1⟩

set_option maxHeartbeats 1000000 in
theorem among_any (g K h : Nat) (xs : List Int) (lo hi : Int) (w : World) (hc : Cur g K w) (hK : K ≤ 999999000) (hb : Blk 3 w h xs) (hne : h ≠ g) (h1 : 1 ≤ xs.length) (h2 : xs.length ≤ 1000) (hx : ∀ x ∈ xs, lo ≤ x ∧ x ≤ hi) :
    Calls Try.prog 58 #[.pointer (some ⟨g, 0, none⟩), .slice (some ⟨h, 0, none⟩) xs.length xs.length] w (Draws g (K + 2) lo hi w) := by
  obtain ⟨n, hn⟩ : ∃ n, n = xs.length := ⟨_, rfl⟩
  rw [← hn] at h1 h2 ⊢
  have HX := hid hx
  have HB := hid hb
  have HN := hid hn
  have hlt := hb.lt
  clear hx hb hn
  go_enter Try.func58, Try.ntmps58
  go_wp2_with fail
  refine (pick_any g K (n : Int) _ hc hK (by omega) (by omega)).mono ?_
  rintro e w1 ⟨⟨r, rfl, r1, r2⟩, hc1, hb1⟩
  have HC1 := hid hc1
  have HB1 := hid hb1
  obtain ⟨i, rfl⟩ : ∃ i : Nat, r = i := ⟨r.toNat, by omega⟩
  have hi : i < n := by omega
  obtain ⟨x, hxi⟩ := get_lt xs i (by rw [← HN.out]; exact hi)
  have hcell : w1.cell? ⟨h, i, none⟩ = some (.int .i64 x) := by
    have hh : Blk 3 w1 h xs := by unfold Blk; rw [hb1.2 h hlt hne]; exact HB.out
    exact hh.cell hxi
  have hxx := HX.out x (List.mem_of_getElem? hxi)
  clear hc1 hb1 hxi
  go_wp2
  go_ret
  exact ⟨⟨x, rfl, hxx.1, hxx.2⟩, HC1.out, HB1.out⟩


end Go.Proofs.Ytbhlailnefappaa

namespace Go.Proofs.Ytbhlailnefappaa
open Go.RowKit BitX Go.MemX
set_option linter.unusedVariables false
theorem ownsRow_gets {w w' : World} {g base : Nat} {e : TypeId} {size : Nat} {v : Value} {n : Nat} {xs : List Value} (h : w.ownsRow base e size v n xs) (hb : Gets g w w') (hg : g < base) : w'.ownsRow base e size v n xs := by
  obtain ⟨h1, h2⟩ := h
  refine ⟨h1, ?_⟩
  rcases h2 with h2 | ⟨k, cap, cur, hv, hk, hh, r⟩
  · exact .inl h2
  · exact .inr ⟨k, cap, cur, hv, hk, by rw [hb.2 k (lt_of_block hh) (by omega)]; exact hh, r⟩
/-- the cursor stays at changes above it -/
theorem Cur.over {g K N : Nat} {w w' : World} (h : Cur g K w) (hb : Below N w w') (hN : g < N) : Cur g K w' := by
  obtain ⟨a, len, cap, at_, seed, h1, h2, h3⟩ := h
  exact ⟨a, len, cap, at_, seed, by rw [hb.block g hN]; exact h1, h2.kept (hb.mono (by omega)), h3⟩
theorem Gets.over {g N : Nat} {w w1 w2 : World} (h : Gets g w w1) (k : Below N w1 w2) (hN : w.heap.size ≤ N) (hg : g < N) : Gets g w w2 :=
  ⟨h.1.trans (k.mono (by omega)), fun b hb hne => (k.block b (Nat.lt_of_lt_of_le hb hN)).trans (h.2 b hb hne)⟩
/-- what a call leaves that draws a list -/
def DrawsL (g K n : Nat) (w : World) (e : Ending) (w' : World) : Prop := (∃ v xs, e = .returned v ∧ Res 3 w.heap.size w' v xs ∧ xs.length ≤ n) ∧ Cur g K w' ∧ Gets g w w'


set_option maxHeartbeats 4000000 in
theorem signal_any (g K m s : Nat) (w : World) (hc : Cur g K w) (hK : K ≤ 999980000) (hm : m ≤ 20) (hs : s ≤ 1000) :
    Calls Try.prog 88 #[.pointer (some ⟨g, 0, none⟩), .int .i64 (m : Int), .int .i64 (s : Int)] w (DrawsL g (K + 90) 66 w) := by
  have HC := hid hc
  have hgl := hc.lt
  clear hc
  obtain ⟨i0, hi0, hz0, hz1, hz2⟩ := info_parts iint
  go_enter Try.func88, Try.ntmps88
  go_wp2_with fail
  refine (pick_any g K ((m : Int) + 1) _ HC.out (by omega) (by omega) (by omega)).mono ?_
  rintro e w1 ⟨⟨r, rfl, r1, r2⟩, hc1, hb1⟩
  have HC1 := hid (hc1.mono (show K + 2 ≤ K + 2 + 4 * 0 by omega))
  have HB1 := hid hb1
  clear hc1 hb1
  go_wp2_with fail
  go_loopw [7, 8] (fun v i wr => ∃ (z : Int) (n : Nat) (xs : List Int), i = .int .i64 z ∧ 0 ≤ z ∧ z + n ≤ 20 ∧ wr.ownsRow w.heap.size 3 1 v n (xs.map (Value.int .i64)) ∧ xs.length = n ∧ Cur g (K + 2 + 4 * n) wr ∧ Gets g w wr)
    (fun _ i _ => (intOf i).toNat)
  case atStart => exact ⟨r, 0, [], rfl, r1, by omega, World.ownsRow_nil _ _ _ _, rfl, HC1.out, HB1.out⟩
  case round =>
    obtain ⟨z, n, xs, rfl, hz, hzn, hown, hxl, hcr, hbr⟩ := hrel
    have hsz : w.heap.size ≤ wr.heap.size := hbr.1.size
    have HCR := hid hcr
    have HBR := hid hbr
    have Hxl := hid hxl
    clear hcr hbr hxl
    by_cases hz0' : 0 < z
    · have Hown1 := hid hown
      clear hown
      go_wp2_with fail
      refine (one_any g (K + 2 + 4 * n) 4 _ HCR.out (by omega) (by omega) (by omega)).mono ?_
      rintro e w2 ⟨⟨q, rfl⟩, hc2, hb2⟩
      have hs2 : wr.heap.size ≤ w2.heap.size := hb2.1.size
      have HC2 := hid hc2
      have HB2 := hid (HBR.out.trans hb2)
      have Hown2 := hid (ownsRow_gets Hown1.out hb2 hgl)
      clear hc2 hb2 Hown1 HCR HBR
      cases q
      · go_wp2_with fail
        refine (pick_any g (K + 2 + 4 * n + 2) (2 * (s : Int) + 1) _ HC2.out (by omega) (by omega) (by omega)).mono ?_
        rintro e w3 ⟨⟨t, rfl, t1, t2⟩, hc3, hb3⟩
        have hs3 : w2.heap.size ≤ w3.heap.size := hb3.1.size
        obtain ⟨x, hx⟩ : ∃ x, x = t - (s : Int) := ⟨_, rfl⟩
        have e1 : wrap64 (t - (s : Int)) = x := by rw [hx]; exact (w64s (by omega) (by omega)).2
        have e2 : IntKind.i64.wrap (t - (s : Int)) = x := by rw [hx]; exact (w64s (by omega) (by omega)).1
        have HC9 := hid (hc3.mono (show K + 2 + 4 * n + 2 + 2 ≤ K + 2 + 4 * (n + 1) by omega))
        have HB9 := hid (HB2.out.trans hb3)
        have Hown := hid (ownsRow_gets Hown2.out hb3 hgl)
        have Hob := hid (ownsRow_base Hown.out)
        clear hc3 hb3 hx HC2 HB2 Hown2
        go_wp2_with (at_builtin; refine wpList_append_own _ rfl _ _ 24 rfl w.heap.size 3 i0 (.int .i64 0) 1 8 uslice hi0 hz0 hz1 hz2 rfl (by decide) _ _ _ rfl (Hown.out.alloc _) ⟨w3.heap.size, 0, none⟩ 1 1 [.int .i64 (x)] rfl rfl ?c1 ?c2 ?c3 ?c4 ?c5 ?_)
        case c1 => exact cell_one_new _ _ _
        case c2 => intro u hu; simp at hu; subst hu; rfl
        case c3 => unfold maxLen; omega
        case c4 => omega
        case c5 => simp; omega
        intro v' w9 hown9 hgrow _
        have hb9 : Below w.heap.size w3 w9 := ((Below.refl w.heap.size w3).alloc (by omega) _).grown hgrow (by simp; omega) (fun j hj => Hob.out j hj)
        have Hc9 := hid (HC9.out.over hb9 hgl)
        have Hb9 := hid (HB9.out.over hb9 (Nat.le_refl _) hgl)
        have Hown9 := hid hown9
        clear hown9 hgrow hb9
        go_wp2
        go_roundw
        case rel => exact ⟨z - 1, n + 1, xs ++ [x], by go_num, by omega, by omega, by rw [List.map_append]; exact Hown9.out, by rw [List.length_append, Hxl.out]; rfl, Hc9.out, Hb9.out⟩
        case measure => simp [intOf]; omega
      · have HC9 := hid (HC2.out.mono (show K + 2 + 4 * n + 2 ≤ K + 2 + 4 * (n + 1) by omega))
        have HB9 := HB2
        have Hown := Hown2
        have Hob := hid (ownsRow_base Hown.out)
        clear HC2 HB2 Hown2
        go_wp2_with (at_builtin; refine wpList_append_own _ rfl _ _ 24 rfl w.heap.size 3 i0 (.int .i64 0) 1 8 uslice hi0 hz0 hz1 hz2 rfl (by decide) _ _ _ rfl (Hown.out.alloc _) ⟨w2.heap.size, 0, none⟩ 1 1 [.int .i64 (0)] rfl rfl ?c1 ?c2 ?c3 ?c4 ?c5 ?_)
        case c1 => exact cell_one_new _ _ _
        case c2 => intro u hu; simp at hu; subst hu; rfl
        case c3 => unfold maxLen; omega
        case c4 => omega
        case c5 => simp; omega
        intro v' w9 hown9 hgrow _
        have hb9 : Below w.heap.size w2 w9 := ((Below.refl w.heap.size w2).alloc (by omega) _).grown hgrow (by simp; omega) (fun j hj => Hob.out j hj)
        have Hc9 := hid (HC9.out.over hb9 hgl)
        have Hb9 := hid (HB9.out.over hb9 (Nat.le_refl _) hgl)
        have Hown9 := hid hown9
        clear hown9 hgrow hb9
        go_wp2
        go_roundw
        case rel => exact ⟨z - 1, n + 1, xs ++ [0], by go_num, by omega, by omega, by rw [List.map_append]; exact Hown9.out, by rw [List.length_append, Hxl.out]; rfl, Hc9.out, Hb9.out⟩
        case measure => simp [intOf]; omega
    · have hzz : z ≤ 0 := by omega
      have Hown1 := hid hown
      clear hown hz0'
      go_wp2_with fail
      refine (pick_any g (K + 2 + 4 * n) 16 _ HCR.out (by omega) (by omega) (by omega)).mono ?_
      rintro e w2 ⟨⟨q, rfl, q1, q2⟩, hc2, hb2⟩
      have hs2 : wr.heap.size ≤ w2.heap.size := hb2.1.size
      have HC2 := hid hc2
      have HB2 := hid (HBR.out.trans hb2)
      have Hown2 := hid (ownsRow_gets Hown1.out hb2 hgl)
      clear hc2 hb2 Hown1 HCR HBR
      by_cases h0 : q = 0
      · have hq0 : (q == 0) = true := beq_iff_eq.2 h0
        go_wp2_with fail
        refine (among_any g (K + 2 + 4 * n + 2) w2.heap.size [100000, (-100000), 100001, 4611686018427387904] (-100000) 4611686018427387904 _ (HC2.out.kept (bel_alloc _ _)) (by omega) (heap_alloc_new _ _) (Nat.ne_of_gt HC2.out.lt) (by decide) (by decide) (by decide)).mono ?_
        rintro e w3 ⟨⟨x, rfl, x1, x2⟩, hc3, hb3⟩
        have hs3 : w2.heap.size ≤ w3.heap.size := by have h1 := hb3.1.size; have h2 := (bel_alloc w2 (.cells (intsA [100000, (-100000), 100001, 4611686018427387904]) 3)).size; exact Nat.le_trans h2 h1
        have hb4 : Gets g w2 w3 := ((Gets.refl g w2).alloc HC2.out.lt (.cells (intsA [100000, (-100000), 100001, 4611686018427387904]) 3)).trans hb3
        have HC9 := hid (hc3.mono (show K + 2 + 4 * n + 2 + 2 ≤ K + 90 by omega))
        have HB9 := hid (HB2.out.trans hb4)
        have Hown := hid (ownsRow_gets Hown2.out hb4 hgl)
        have Hob := hid (ownsRow_base Hown.out)
        clear hc3 hb3 hb4 HC2 HB2 Hown2
        go_wp2_with (at_builtin; refine wpList_append_own _ rfl _ _ 24 rfl w.heap.size 3 i0 (.int .i64 0) 1 8 uslice hi0 hz0 hz1 hz2 rfl (by decide) _ _ _ rfl (Hown.out.alloc _) ⟨w3.heap.size, 0, none⟩ 1 1 [.int .i64 (x)] rfl rfl ?c1 ?c2 ?c3 ?c4 ?c5 ?_)
        case c1 => exact cell_one_new _ _ _
        case c2 => intro u hu; simp at hu; subst hu; rfl
        case c3 => unfold maxLen; omega
        case c4 => omega
        case c5 => simp; omega
        intro v' w9 hown9 hgrow _
        have hb9 : Below w.heap.size w3 w9 := ((Below.refl w.heap.size w3).alloc (by omega) _).grown hgrow (by simp; omega) (fun j hj => Hob.out j hj)
        have Hc9 := hid (HC9.out.over hb9 hgl)
        have Hb9 := hid (HB9.out.over hb9 (Nat.le_refl _) hgl)
        have Hown9 := hid hown9
        clear hown9 hgrow hb9
        go_wp2
        go_ret
        have ho := Hown9.out
        exact ⟨⟨_, xs ++ [x], rfl, Res.owns (by rw [List.length_append, Hxl.out, List.map_append]; exact ho), by rw [List.length_append, Hxl.out]; show n + 1 ≤ 66; omega⟩, Hc9.out, Hb9.out⟩
      · have hq0 : (q == 0) = false := beq_eq_false_iff_ne.2 h0
        by_cases h1 : q = 1
        · have hq1 : (q == 1) = true := beq_iff_eq.2 h1
          clear h0
          go_wp2_with fail
          refine (pick_any g (K + 2 + 4 * n + 2) 2 _ HC2.out (by omega) (by omega) (by omega)).mono ?_
          rintro e w3 ⟨⟨t, rfl, t1, t2⟩, hc3, hb3⟩
          have hs3 : w2.heap.size ≤ w3.heap.size := hb3.1.size
          obtain ⟨l, hl⟩ : ∃ l : Nat, (l : Int) = 64 + t := ⟨(64 + t).toNat, by omega⟩
          have hl2 : l ≤ 66 := by omega
          have hmk := run_make_ints (P := Try.prog) 24 3 uslice iint l (by omega)
          rw [hl] at hmk
          have HC3 := hid (hc3.mono (show K + 2 + 4 * n + 2 + 2 ≤ K + 90 by omega))
          have HB3 := hid (HB2.out.trans hb3)
          have Hl := hid hl
          clear hc3 hb3 hl HC2 HB2 Hown2
          go_wp2
          go_ret
          refine ⟨⟨_, List.replicate l 0, rfl, ?_, by rw [List.length_replicate]; exact hl2⟩, HC3.out.kept (bel_alloc _ _), HB3.out.alloc HC3.out.lt _⟩
          have h2 := Blk.res (E := 3) (B := w.heap.size) (g := w3.heap.size) (heap_alloc_new w3 (.cells (intsA (List.replicate l 0)) 3)) (by omega)
          rw [List.length_replicate] at h2
          exact h2
        · have hq1 : (q == 1) = false := beq_eq_false_iff_ne.2 h1
          have HC9 := hid (HC2.out.mono (show K + 2 + 4 * n + 2 ≤ K + 90 by omega))
          clear h0 h1
          go_wp2
          go_ret
          exact ⟨⟨_, xs, rfl, Res.owns (by rw [Hxl.out]; exact Hown2.out), by rw [Hxl.out]; omega⟩, HC9.out, HB2.out⟩


/-- what a call leaves that draws a number of stages and a rate -/
def DrawsNR (g K : Nat) (w : World) (e : Ending) (w' : World) : Prop := (∃ x y, e = .returned (.tuple #[.int .i64 x, .int .i64 y]) ∧ (0 ≤ x ∧ x ≤ 9) ∧ 0 ≤ y ∧ y ≤ 9) ∧ Cur g K w' ∧ Gets g w w'
end Go.Proofs.Ytbhlailnefappaa

namespace Go.Proofs.Ytbhlailnefappaa
open Go.RowKit BitX Go.MemX
set_option linter.unusedVariables false


/-- the cursor as a draw makes it -/
theorem Cur.new {w : World} {a : Option Addr} {len cap : Nat} (hb : By w.heap.size w a len) (hl : len ≤ 1048576) : Cur w.heap.size 0 (w.alloc (.cells #[.slice a len cap, .int .i64 0, .int .u64 0] 63)) :=
  ⟨a, len, cap, 0, 0, heap_alloc_new _ _, hb.kept (bel_alloc w _), hl, Nat.le_refl _, by decide, by decide⟩


theorem Res.gets {E : TypeId} {B g : Nat} {w w' : World} {v : Value} {xs : List Int} (h : Res E B w v xs) (hb : Gets g w w') (hg : g < B) : Res E B w' v xs :=
  h.same fun k hk => hb.2 k (h.lt hk) (by have := h.ge hk; omega)


def DDrawWrappedSums (w : World) (e : Ending) (w' : World) : Prop := (∃ v xs b x, e = .returned (.tuple #[v, .int .i64 b, .int .i64 x]) ∧ Res 3 (w.heap.size + 1) w' v xs ∧ xs.length ≤ 66 ∧ (-1 ≤ b ∧ b ≤ 64) ∧ 0 ≤ x ∧ x ≤ 9) ∧ Below w.heap.size w w'
def DDrawBoxAnswer (w : World) (e : Ending) (w' : World) : Prop := (∃ x y, e = .returned (.tuple #[.int .i64 x, .int .i64 y]) ∧ (0 ≤ x ∧ x ≤ 9) ∧ 0 ≤ y ∧ y ≤ 9) ∧ Below w.heap.size w w'
def DDrawBitsForComb (w : World) (e : Ending) (w' : World) : Prop := (∃ b x y, e = .returned (.tuple #[.int .i64 b, .int .i64 x, .int .i64 y]) ∧ (0 ≤ b ∧ b ≤ 17) ∧ (0 ≤ x ∧ x ≤ 9) ∧ 0 ≤ y ∧ y ≤ 9) ∧ Below w.heap.size w w'
def DDrawStuffZeros (w : World) (e : Ending) (w' : World) : Prop := (∃ v xs r, e = .returned (.tuple #[v, .int .i64 r]) ∧ Res 3 (w.heap.size + 1) w' v xs ∧ xs.length ≤ 66 ∧ 0 ≤ r ∧ r ≤ 9) ∧ Below w.heap.size w w'
def DDrawMeanBlocks (w : World) (e : Ending) (w' : World) : Prop := (∃ v xs r m, e = .returned (.tuple #[v, .int .i64 r, .int .i64 m]) ∧ Res 3 (w.heap.size + 1) w' v xs ∧ xs.length ≤ 66 ∧ (0 ≤ r ∧ r ≤ 16) ∧ -1 ≤ m ∧ m ≤ 3) ∧ Below w.heap.size w w'
def DDrawDropSamples (w : World) (e : Ending) (w' : World) : Prop := (∃ v xs r f, e = .returned (.tuple #[v, .int .i64 r, .int .i64 f]) ∧ Res 3 (w.heap.size + 1) w' v xs ∧ xs.length ≤ 66 ∧ (0 ≤ r ∧ r ≤ 9) ∧ -1 ≤ f ∧ f ≤ 4) ∧ Below w.heap.size w w'
end Go.Proofs.Ytbhlailnefappaa

