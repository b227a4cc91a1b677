
import Derived.Test.YthkfjoonkkmgiaaOa
import Derived.Deep.QuietTactic
import Derived.BigQuiet
import Derived.Deep.RegionHeld3
namespace Go.Proofs.Ythkfjoonkkmgiaa
open Go.RowKit BitX Go.MemX
set_option linter.unusedVariables false


theorem ubytes : Try.prog.underlying 22 = some (.slice 5) := by kernel_rfl
/-- a slice with this address, of so many bytes, lies below block g -/
def By (g : Nat) (w : World) (a : Option Addr) (len : Nat) : Prop :=
  ∀ i, i < len → ∃ b off x, a = some ⟨b, off, none⟩ ∧ b < g ∧ (0 ≤ x ∧ x ≤ 255) ∧ w.cell? ⟨b, off + i, none⟩ = some (.int .u8 x)
theorem By.kept {g : Nat} {w w' : World} {a : Option Addr} {len : Nat} (h : By g w a len) (hb : Below g w w') : By g w' a len := fun i hi => by
  obtain ⟨b, off, x, ha, hlt, hx, hc⟩ := h i hi
  exact ⟨b, off, x, ha, hlt, hx, by rw [hb.cell (by exact hlt)]; exact hc⟩
theorem By.at {g : Nat} {w : World} {a : Option Addr} {len : Nat} (h : By g w a len) (cap : Nat) {k : Nat} (hk : k < len) :
    ∃ b off x, (∀ w : World, (Instr.indexAt 22 (.slice a len cap) (.int .i64 (k : Int))).run Try.prog w = .ok (.pointer (some ⟨b, off, none⟩)) w) ∧ (0 ≤ x ∧ x ≤ 255) ∧ w.cell? ⟨b, off, none⟩ = some (.int .u8 x) := by
  obtain ⟨b, off, x, rfl, hlt, hx, hc⟩ := h k hk
  refine ⟨b, off + k, x, fun w => ?_, hx, hc⟩
  have hs : (sizeOf (Try.prog.elem 22)).run Try.prog w = .ok 1 w := by kernel_rfl
  rw [run_indexAt_slice _ _ _ _ _ _ _ (by kernel_rfl), if_pos (by omega), hs]
  simp [Addr.add]
theorem bounds_u8 {n : Int} (h : (Lit.int .u8 n).wf = true) : 0 ≤ n ∧ n ≤ 255 := by
  simp only [Lit.wf, Bool.and_eq_true, decide_eq_true_eq] at h
  exact h
theorem IsRow.by {w : World} {a : Option Addr} {len cap : Nat} {zs : List Int} (h : IsRow .u8 w a len cap zs) : By w.heap.size w a len := by
  intro i hi
  rcases h with ⟨rfl, rfl, rfl, rfl⟩ | ⟨x, rfl, hl, hm, hz, hcell, hw⟩
  · omega
  · obtain ⟨b, off, rfl, hc⟩ := ints_at hcell (by omega)
    have h1 := hc i (by omega)
    have hmem : zs.getD i 0 ∈ zs := by
      rw [List.getD_eq_getElem?_getD, List.getElem?_eq_getElem (by omega)]; exact List.getElem_mem _
    have h2 := hw _ hmem
    refine ⟨b, off, _, rfl, block_lt_of_cell h1, ?_, h1⟩
    exact bounds_u8 h2


/-- the cursor at block g, at most so many bytes on -/
def Cur (g K : Nat) (w : World) : Prop := ∃ (a : Option Addr) (len cap at_ : Nat) (seed : Int),
  w.heap[g]? = some (.cells #[.slice a len cap, .int .i64 (at_ : Int), .int .u64 seed] 36 (0, 0)) ∧ By g w a len ∧ len ≤ 1048576 ∧ at_ ≤ K ∧ 0 ≤ seed ∧ seed ≤ 18446744073709551615
theorem Cur.lt {g K : Nat} {w : World} (h : Cur g K w) : g < w.heap.size := by obtain ⟨_, _, _, _, _, h, _⟩ := h; exact lt_of_block h
theorem Cur.mono {g K L : Nat} {w : World} (h : Cur g K w) (hl : K ≤ L) : Cur g L w := by
  obtain ⟨a, len, cap, at_, seed, h1, h2, h3, h4, h5⟩ := h
  exact ⟨a, len, cap, at_, seed, h1, h2, h3, by omega, h5⟩
theorem Cur.kept {g K : Nat} {w w' : World} (h : Cur g K w) (hb : Below w.heap.size w w') : Cur g K w' := by
  have hlt := h.lt
  obtain ⟨a, len, cap, at_, seed, h1, h2, h3, h4, h5⟩ := h
  exact ⟨a, len, cap, at_, seed, by rw [hb.block g hlt]; exact h1, h2.kept (hb.mono (by omega)), h3, h4, h5⟩
/-- only block g may have changed -/
def Gets (g : Nat) (w w' : World) : Prop := Below g w w' ∧ ∀ b, b < w.heap.size → b ≠ g → w'.heap[b]? = w.heap[b]?
theorem Gets.refl (g : Nat) (w : World) : Gets g w w := ⟨Below.refl _ _, fun _ _ _ => rfl⟩
theorem Gets.trans {g : Nat} {w w1 w2 : World} (h : Gets g w w1) (k : Gets g w1 w2) : Gets g w w2 := ⟨h.1.trans k.1, fun b hb hne => (k.2 b (Nat.lt_of_lt_of_le hb h.1.size) hne).trans (h.2 b hb hne)⟩
theorem Gets.below {g : Nat} {w w1 w2 : World} (h : Gets g w w1) (k : Below w1.heap.size w1 w2) (hg : g < w1.heap.size) : Gets g w w2 := ⟨h.1.trans (k.mono (by omega)), fun b hb hne => (k.block b (Nat.lt_of_lt_of_le hb h.1.size)).trans (h.2 b hb hne)⟩
theorem Gets.alloc {g : Nat} {w w1 : World} (h : Gets g w w1) (hg : g < w1.heap.size) (o : Obj) : Gets g w (w1.alloc o) := h.below ((Below.refl _ _).alloc (Nat.le_refl _) o) hg
theorem Gets.drew {g : Nat} {w w1 : World} (h : Gets g w w1) : Gets g w w1.drew := ⟨h.1.drew, fun b hb hne => h.2 b hb hne⟩
/-- what a call leaves that draws a number -/
def Draws (g K : Nat) (lo hi : Int) (w : World) (e : Ending) (w' : World) : Prop := (∃ r, e = .returned (.int .i64 r) ∧ lo ≤ r ∧ r ≤ hi) ∧ Cur g K w' ∧ Gets g w w'
theorem u64_in (x : Int) : 0 ≤ IntKind.u64.wrap x ∧ IntKind.u64.wrap x ≤ 18446744073709551615 := by
  unfold IntKind.wrap
  simp only [IntKind.bits, IntKind.signed]
  have a := Int.emod_nonneg x (show (2 : Int) ^ 64 ≠ 0 by decide)
  have b := Int.emod_lt_of_pos x (show (0 : Int) < 2 ^ 64 by decide)
  have c : (2 : Int) ^ 64 = 18446744073709551616 := by decide
  simp only [Bool.false_and, Bool.false_eq_true, if_false]
  omega
theorem u64_id (x : Int) (h1 : 0 ≤ x) (h2 : x ≤ 18446744073709551615) : IntKind.u64.wrap x = x := by
  unfold IntKind.wrap
  simp only [IntKind.bits, IntKind.signed]
  have b := Int.emod_eq_of_lt h1 (show x < 2 ^ 64 by have c : (2 : Int) ^ 64 = 18446744073709551616 := by decide
                                                     omega)
  simp only [Bool.false_and, Bool.false_eq_true, if_false]
  exact b
theorem and255 (y : Int) : (0 ≤ bits BinOp.and IntKind.u64 y 255 ∧ bits BinOp.and IntKind.u64 y 255 ≤ 255) ∧ wrap64 (bits BinOp.and IntKind.u64 y 255) = bits BinOp.and IntKind.u64 y 255 := by
  have h : ((BitVec.ofInt 64 y) &&& (BitVec.ofInt 64 255)).toNat ≤ 255 := by
    rw [BitVec.toNat_and]
    exact Nat.le_trans Nat.and_le_right (by decide)
  have e : bits BinOp.and IntKind.u64 y 255 = ((((BitVec.ofInt 64 y) &&& (BitVec.ofInt 64 255)).toNat : Nat) : Int) := by
    show IntKind.u64.wrap ((((BitVec.ofInt 64 y) &&& (BitVec.ofInt 64 255)).toNat : Nat) : Int) = _
    exact u64_id _ (by omega) (by omega)
  rw [e]
  exact ⟨by omega, IntWalk.wrap64_in _ (by omega)⟩
set_option maxHeartbeats 2000000 in
theorem next_any (g K : Nat) (w : World) (hc : Cur g K w) (hK : K ≤ 1000000000) :
    Calls Try.prog 58 #[.pointer (some ⟨g, 0, none⟩)] w (Draws g (K + 1) 0 255 w) := by
  obtain ⟨a, len, cap, at_, seed, h1, h2, h3, h4, h5, h6⟩ := hc
  have c0 : w.cell? ⟨g, 0, none⟩ = some (.slice a len cap) := by rw [cell_of_row w g 0 _ _ _ h1]; rfl
  have c1 : w.cell? ⟨g, 1, none⟩ = some (.int .i64 (at_ : Int)) := by rw [cell_of_row w g 1 _ _ _ h1]; rfl
  have c2 : w.cell? ⟨g, 2, none⟩ = some (.int .u64 seed) := by rw [cell_of_row w g 2 _ _ _ h1]; rfl
  have f1 : w.frozen? ⟨g, 1, none⟩ = false := frozen_of_row w g 1 _ _ h1
  have f2 : w.frozen? ⟨g, 2, none⟩ = false := frozen_of_row w g 2 _ _ h1
  have H1 := hid h1
  have H2 := hid h2
  by_cases hlt : at_ < len
  · obtain ⟨bb, oo, x, hix, ⟨x1, x2⟩, hcx⟩ := h2.at cap hlt
    have hl2 : at_ + 1 ≤ len := by omega
    have ex : IntKind.i64.wrap x = x := IntWalk.i64_in _ (by omega)
    have ex2 : IntKind.u64.wrap x = x := u64_id x (by omega) (by omega)
    obtain ⟨ns, hns⟩ : ∃ ns, ns = IntKind.u64.wrap (IntKind.u64.wrap (IntKind.u64.wrap (seed * 6364136223846793005) + x) + 1442695040888963407) := ⟨_, rfl⟩
    have hn1 := u64_in (IntKind.u64.wrap (IntKind.u64.wrap (seed * 6364136223846793005) + x) + 1442695040888963407)
    rw [← hns] at hn1
    have hns' := hns.symm
    clear h1 h2 hns
    go_enter Try.func58, Try.ntmps58
    go_wp2_with fail
    have hS := And.intro c0 c1
    go_region_held3 (fun W => W.cell? ⟨g, 0, none⟩ = some (.slice a len cap) ∧ W.cell? ⟨g, 1, none⟩ = some (.int .i64 (at_ : Int))) (first | exact hS | assumption | go_keep) (first | fail)
    go_wp2_with fail
    have hS := And.intro c0 (And.intro c1 hcx)
    go_region_held3 (fun W => W.cell? ⟨g, 0, none⟩ = some (.slice a len cap) ∧ W.cell? ⟨g, 1, none⟩ = some (.int .i64 (at_ : Int)) ∧ W.cell? ⟨bb, oo, none⟩ = some (.int .u8 x)) (first | exact hS | assumption | go_keep) (first | fail)
    go_wp2_with fail
    have hh : ((w.setCell ⟨g, 1, none⟩ (.int .i64 ((at_ : Int) + 1))).setCell ⟨g, 2, none⟩ (.int .u64 ns)).heap[g]? = some (.cells #[.slice a len cap, .int .i64 ((at_ : Int) + 1), .int .u64 ns] 36 (0, 0)) := by
      rw [heap_setCell_same _ _ _ _ _ _ (heap_setCell_same _ _ _ _ _ _ H1.out)]; rfl
    have hbl : Below g w ((w.setCell ⟨g, 1, none⟩ (.int .i64 ((at_ : Int) + 1))).setCell ⟨g, 2, none⟩ (.int .u64 ns)) := ((Below.refl g w).setCell (by exact Nat.le_refl g) _).setCell (by exact Nat.le_refl g) _
    have hgt : Gets g w ((w.setCell ⟨g, 1, none⟩ (.int .i64 ((at_ : Int) + 1))).setCell ⟨g, 2, none⟩ (.int .u64 ns)) := ⟨hbl, fun b _ hne => by rw [heap_setCell_other _ _ _ _ hne, heap_setCell_other _ _ _ _ hne]⟩
    have d0 : ((w.setCell ⟨g, 1, none⟩ (.int .i64 ((at_ : Int) + 1))).setCell ⟨g, 2, none⟩ (.int .u64 ns)).cell? ⟨g, 0, none⟩ = some (.slice a len cap) := by rw [cell_of_row _ g 0 _ _ _ hh]; rfl
    have d1 : ((w.setCell ⟨g, 1, none⟩ (.int .i64 ((at_ : Int) + 1))).setCell ⟨g, 2, none⟩ (.int .u64 ns)).cell? ⟨g, 1, none⟩ = some (.int .i64 ((at_ : Int) + 1)) := by rw [cell_of_row _ g 1 _ _ _ hh]; rfl
    have d2 : ((w.setCell ⟨g, 1, none⟩ (.int .i64 ((at_ : Int) + 1))).setCell ⟨g, 2, none⟩ (.int .u64 ns)).cell? ⟨g, 2, none⟩ = some (.int .u64 ns) := by rw [cell_of_row _ g 2 _ _ _ hh]; rfl
    try rw [hns']
    generalize ((w.setCell ⟨g, 1, none⟩ (.int .i64 ((at_ : Int) + 1))).setCell ⟨g, 2, none⟩ (.int .u64 ns)) = W2 at *
    have hS := And.intro d0 d1
    go_region_held3 (fun W => W.cell? ⟨g, 0, none⟩ = some (.slice a len cap) ∧ W.cell? ⟨g, 1, none⟩ = some (.int .i64 ((at_ : Int) + 1))) (first | exact hS | assumption | go_keep) (first | fail)
    all_goals go_wp2
    all_goals go_ret
    all_goals exact ⟨⟨_, rfl, by exact x1, by exact x2⟩, ⟨a, len, cap, at_ + 1, ns, by first | exact hh | (rw [show ((at_ + 1 : Nat) : Int) = (at_ : Int) + 1 from by omega]; exact hh), by first | exact H2.out.kept hbl | exact H2.out.kept hbl.drew | exact H2.out.kept hbl.drew.drew | exact H2.out.kept hbl.drew.drew.drew, h3, by omega, hn1⟩, by first | exact hgt | exact hgt.drew | exact hgt.drew.drew | exact hgt.drew.drew.drew⟩
  · have hge : len ≤ at_ := by omega
    have hl2 : len < at_ + 1 := by omega
    clear hlt
    obtain ⟨ns, hns⟩ : ∃ ns, ns = IntKind.u64.wrap (IntKind.u64.wrap (IntKind.u64.wrap (seed * 6364136223846793005)) + 1442695040888963407) := ⟨_, rfl⟩
    have hn1 := u64_in (IntKind.u64.wrap (IntKind.u64.wrap (seed * 6364136223846793005)) + 1442695040888963407)
    rw [← hns] at hn1
    have hns' := hns.symm
    clear h1 h2 hns
    go_enter Try.func58, Try.ntmps58
    go_wp2_with fail
    have hS := And.intro c0 c1
    go_region_held3 (fun W => W.cell? ⟨g, 0, none⟩ = some (.slice a len cap) ∧ W.cell? ⟨g, 1, none⟩ = some (.int .i64 (at_ : Int))) (first | exact hS | assumption | go_keep) (first | fail)
    go_wp2_with fail
    have hh : ((w.setCell ⟨g, 1, none⟩ (.int .i64 ((at_ : Int) + 1))).setCell ⟨g, 2, none⟩ (.int .u64 ns)).heap[g]? = some (.cells #[.slice a len cap, .int .i64 ((at_ : Int) + 1), .int .u64 ns] 36 (0, 0)) := by
      rw [heap_setCell_same _ _ _ _ _ _ (heap_setCell_same _ _ _ _ _ _ H1.out)]; rfl
    have hbl : Below g w ((w.setCell ⟨g, 1, none⟩ (.int .i64 ((at_ : Int) + 1))).setCell ⟨g, 2, none⟩ (.int .u64 ns)) := ((Below.refl g w).setCell (by exact Nat.le_refl g) _).setCell (by exact Nat.le_refl g) _
    have hgt : Gets g w ((w.setCell ⟨g, 1, none⟩ (.int .i64 ((at_ : Int) + 1))).setCell ⟨g, 2, none⟩ (.int .u64 ns)) := ⟨hbl, fun b _ hne => by rw [heap_setCell_other _ _ _ _ hne, heap_setCell_other _ _ _ _ hne]⟩
    have d0 : ((w.setCell ⟨g, 1, none⟩ (.int .i64 ((at_ : Int) + 1))).setCell ⟨g, 2, none⟩ (.int .u64 ns)).cell? ⟨g, 0, none⟩ = some (.slice a len cap) := by rw [cell_of_row _ g 0 _ _ _ hh]; rfl
    have d1 : ((w.setCell ⟨g, 1, none⟩ (.int .i64 ((at_ : Int) + 1))).setCell ⟨g, 2, none⟩ (.int .u64 ns)).cell? ⟨g, 1, none⟩ = some (.int .i64 ((at_ : Int) + 1)) := by rw [cell_of_row _ g 1 _ _ _ hh]; rfl
    have d2 : ((w.setCell ⟨g, 1, none⟩ (.int .i64 ((at_ : Int) + 1))).setCell ⟨g, 2, none⟩ (.int .u64 ns)).cell? ⟨g, 2, none⟩ = some (.int .u64 ns) := by rw [cell_of_row _ g 2 _ _ _ hh]; rfl
    try rw [hns']
    generalize ((w.setCell ⟨g, 1, none⟩ (.int .i64 ((at_ : Int) + 1))).setCell ⟨g, 2, none⟩ (.int .u64 ns)) = W2 at *
    have hS := And.intro d0 d1
    go_region_held3 (fun W => W.cell? ⟨g, 0, none⟩ = some (.slice a len cap) ∧ W.cell? ⟨g, 1, none⟩ = some (.int .i64 ((at_ : Int) + 1))) (first | exact hS | assumption | go_keep) (first | fail)
    all_goals go_wp2
    all_goals go_ret
    all_goals exact ⟨⟨_, rfl, by rw [(and255 _).2]; exact (and255 _).1.1, by rw [(and255 _).2]; exact (and255 _).1.2⟩, ⟨a, len, cap, at_ + 1, ns, by first | exact hh | (rw [show ((at_ + 1 : Nat) : Int) = (at_ : Int) + 1 from by omega]; exact hh), by first | exact H2.out.kept hbl | exact H2.out.kept hbl.drew | exact H2.out.kept hbl.drew.drew | exact H2.out.kept hbl.drew.drew.drew, h3, by omega, hn1⟩, by first | exact hgt | exact hgt.drew | exact hgt.drew.drew | exact hgt.drew.drew.drew⟩

end Go.Proofs.Ythkfjoonkkmgiaa
