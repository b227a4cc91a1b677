
import Derived.Test.YtdedifgpbehpoaaProg
import Derived.Test.YtdedifgpbehpoaaBit
import Derived.Test.YtdedifgpbehpoaaArr
import Derived.WalkKit
import Derived.WalkSpells
import Derived.Deep.RegionWith
import Derived.WalkLawsBesides
namespace Go.Proofs.Ytdedifgpbehpoaa
open Go.RowKit BitX
theorem hid {p : Prop} (h : p) : Hid p := h

theorem u67 : Try.prog.underlying 73 = some (.array 64 4) := by kernel_rfl
theorem i67' : (Try.prog.info? 73).map (·.size) = some 64 := by kernel_rfl
theorem i67 (f : Nat → Bool) : (Try.prog.info? 73).map (·.size) = some (rowOf f).size := by rw [rowOf_size]; exact i67'
theorem size_same (f g : Nat → Bool) : (rowOf f).size = (rowOf g).size := by rw [rowOf_size, rowOf_size]
theorem rowOf_one (f : Nat → Bool) : (rowOf f).all (·.oneCell') = true := by
  rw [Array.all_eq_true_iff_forall_mem]
  intro v hv
  simp [rowOf] at hv
  obtain ⟨i, _, rfl⟩ := hv
  rfl
theorem _root_.Go.RowKit.Below.setRow {B g : Nat} {w0 w : World} (hb : Below B w0 w) (hBg : B ≤ g) (cs : Array Value) : Below B w0 (w.setRow g cs) :=
  hb.trans ⟨rfl, rfl, rfl, by simp [World.setRow], fun k _ => setRow_other w g k cs (by omega)⟩
theorem bit_ofe (x : Int) (i : Nat) (hi : i < 64) : (bits .and .i64 (x / 2 ^ i) 1 == 1) = (bv x).getLsbD i := by
  rw [← bit_of x i hi, Int.fdiv_eq_ediv_of_nonneg _ (Int.le_of_lt (Int.pow_pos (by decide)))]

def bitsUpTo (v : BitVec 64) (k : Nat) : Nat → Bool := fun i => decide (i < k) && v.getLsbD i
theorem row_zero (v : BitVec 64) : rowOf (bitsUpTo v 0) = rowOf (fun _ => false) := rowOf_congr _ _ fun i _ => by simp [bitsUpTo]
theorem row_full (v : BitVec 64) : rowOf (bitsUpTo v 64) = bitRow v := rowOf_congr _ _ fun i hi => by simp [bitsUpTo, hi]
theorem row_step (v : BitVec 64) (k : Nat) (hk : k < 64) : (rowOf (bitsUpTo v k)).setIfInBounds k (.bool (v.getLsbD k)) = rowOf (bitsUpTo v (k + 1)) := by
  rw [rowOf_set _ _ _ hk]
  refine rowOf_congr _ _ fun i _ => ?_
  unfold bitsUpTo
  by_cases h : i = k
  · subst h; simp
  · rw [if_neg h]; congr 2; rw [eq_iff_iff]; omega

set_option maxHeartbeats 400000 in
theorem bitsOf_any (x : Int) (w : World) :
    Calls Try.prog 76 #[.int .i64 x] w fun e w' => e = .returned (.agg (bitRow (bv x))) ∧ Below w.heap.size w w' := by
  go_enter Try.func76, Try.ntmps76
  go_wp2
  go_loopw [5] (fun i wr => ∃ k : Nat, k ≤ 64 ∧ i = .int .i64 k ∧ wr.heap[w.heap.size]? = some (.cells (rowOf fun _ => false) 73 (0, 0)) ∧ wr.heap[w.heap.size + 1]? = some (.cells (rowOf (bitsUpTo (bv x) k)) 73 (0, 0)) ∧ Below w.heap.size w wr)
    (fun i _ => 64 - (intOf i).toNat)
  case atStart =>
    refine ⟨0, by omega, rfl, ?_, ?_, ?_⟩
    · exact heap_alloc2_old _ _ _
    · exact heap_alloc2_new _ _ _
    · exact ((Below.refl _ _).alloc (Nat.le_refl _) _).alloc (by simp) _
  case round =>
    obtain ⟨k, hk, rfl, hz, hr, hb⟩ := hrel
    by_cases hlt : k < 64
    · have hc : wr.cell? ⟨w.heap.size + 1, k, none⟩ = some (.bool (bitsUpTo (bv x) k k)) := by
        rw [cell_of_row wr _ k _ _ _ hr, rowOf_get _ _ hlt]
      have hf := frozen_of_row wr (w.heap.size + 1) k _ _ hr
      have Hz := hid hz
      have Hr := hid hr
      clear hz hr
      go_wp2
      go_roundw
      case rel =>
        have hlt2 : w.heap.size + 1 < wr.heap.size := lt_of_block Hr.out
        refine ⟨k + 1, by omega, by go_num, ?_, ?_, hb.setCell (by simp) _⟩
        · rw [heap_setCell_other _ _ _ _ (by simp)]; exact Hz.out
        · rw [heap_setCell_same _ _ _ _ _ _ Hr.out, bit_ofe x k hlt, row_step _ _ hlt]
      case measure => simp [intOf]; omega
    · obtain rfl : k = 64 := by omega
      clear hlt hk
      go_wp2_with (first | refine wpList_load_row rfl 73 (.tmp 3) rfl (w.heap.size + 1) rfl 73 _ (0, 0) _ hr u67 rfl (i67 _) ?_ | refine wpList_store_row rfl 73 (.tmp 2) (.tmp 16) rfl w.heap.size _ rfl rfl _ _ hz (i67 _) (size_same _ _) (rowOf_one _) ?_)
      have hz' : (wr.setRow w.heap.size (rowOf (bitsUpTo (bv x) 64))).heap[w.heap.size]? = some (.cells (rowOf (bitsUpTo (bv x) 64)) 73 (0, 0)) := setRow_heap _ _ _ _ _ _ hz
      refine bodyPost_ret (v := .agg (rowOf (bitsUpTo (bv x) 64))) (results_cell_row rfl _ _ w.heap.size _ _ _ _ rfl hz' u67 rfl (i67 _)) rfl ⟨by rw [row_full], ?_⟩
      exact hb.setRow (Nat.le_refl _) _

def mixed (b : Nat) (v : BitVec 64) (k : Nat) : Nat → Bool := fun i => if i < k then (cutV b v).getLsbD i else v.getLsbD i
theorem mixed_start (b : Nat) (v : BitVec 64) : rowOf (mixed b v b) = bitRow v := by
  refine rowOf_congr _ _ fun i hi => ?_
  unfold mixed
  split
  · rw [cutV_low _ _ _ hi (by assumption)]
  · rfl
theorem mixed_full (b : Nat) (v : BitVec 64) : rowOf (mixed b v 64) = bitRow (cutV b v) := by
  refine rowOf_congr _ _ fun i hi => ?_
  simp [mixed, hi]
theorem mixed_low (b : Nat) (v : BitVec 64) (k : Nat) (hb0 : 0 < b) (hb : b ≤ 64) : mixed b v k (b - 1) = v.getLsbD (b - 1) := by
  unfold mixed
  split
  · exact cutV_low _ _ _ (by omega) (by omega)
  · rfl
theorem mixed_step (b : Nat) (v : BitVec 64) (k : Nat) (hk : k < 64) (hb : b ≤ k) (hb0 : 0 < b) : (rowOf (mixed b v k)).setIfInBounds k (.bool (v.getLsbD (b - 1))) = rowOf (mixed b v (k + 1)) := by
  rw [rowOf_set _ _ _ hk]
  refine rowOf_congr _ _ fun i hi => ?_
  unfold mixed
  by_cases h : i = k
  · subst h; simp [cutV_high b v i hi hb hb0]
  · rw [if_neg h]
    by_cases h2 : i < k
    · rw [if_pos h2, if_pos (by omega)]
    · rw [if_neg h2, if_neg (by omega)]

set_option maxHeartbeats 400000 in
theorem cutTo_any (b : Nat) (v : BitVec 64) (w : World) (h1 : 1 ≤ b) (h2 : b ≤ 64) :
    Calls Try.prog 77 #[.int .i64 (b : Int), .agg (bitRow v)] w fun e w' => e = .returned (.agg (bitRow (cutV b v))) ∧ Below w.heap.size w w' := by
  go_enter Try.func77, Try.ntmps77
  go_wp2
  go_loopw [5] (fun i wr => ∃ k : Nat, b ≤ k ∧ k ≤ 64 ∧ i = .int .i64 k ∧ wr.heap[w.heap.size]? = some (.cells (rowOf (mixed b v k)) 73 (0, 0)) ∧ wr.heap[w.heap.size + 1]? = some (.cells (rowOf fun _ => false) 73 (0, 0)) ∧ Below w.heap.size w wr)
    (fun i _ => 64 - (intOf i).toNat)
  case atStart =>
    refine ⟨b, by omega, h2, rfl, ?_, ?_, ?_⟩
    · rw [mixed_start]; exact heap_alloc2_old _ _ _
    · exact heap_alloc2_new _ _ _
    · exact ((Below.refl _ _).alloc (Nat.le_refl _) _).alloc (by simp) _
  case round =>
    obtain ⟨k, hbk, hk, rfl, hr, hz, hb⟩ := hrel
    by_cases hlt : k < 64
    · have hc : wr.cell? ⟨w.heap.size, b - 1, none⟩ = some (.bool (v.getLsbD (b - 1))) := by
        rw [cell_of_row wr _ (b - 1) _ _ _ hr, rowOf_get _ _ (by omega), mixed_low b v k h1 h2]
      have hc2 : wr.cell? ⟨w.heap.size, k, none⟩ = some (.bool (mixed b v k k)) := by
        rw [cell_of_row wr _ k _ _ _ hr, rowOf_get _ _ hlt]
      have hf := frozen_of_row wr w.heap.size k _ _ hr
      have hsub : ((b : Int) - 1) = ((b - 1 : Nat) : Int) := by omega
      have hw1 : IntKind.i64.wrap ((b : Int) - 1) = ((b - 1 : Nat) : Int) := by rw [← hsub]; exact IntWalk.i64_in _ (by omega)
      have Hz := hid hz
      have Hr := hid hr
      clear hz hr
      go_wp2
      go_roundw
      case rel =>
        have hlt2 : w.heap.size < wr.heap.size := lt_of_block Hr.out
        refine ⟨k + 1, by omega, by omega, by go_num, ?_, ?_, hb.setCell (by simp) _⟩
        · rw [heap_setCell_same _ _ _ _ _ _ Hr.out, mixed_step b v k hlt hbk h1]
        · rw [heap_setCell_other _ _ _ _ (by simp)]; exact Hz.out
      case measure => simp [intOf]; omega
    · obtain rfl : k = 64 := by omega
      clear hlt hk
      go_wp2_with (first | refine wpList_load_row rfl 73 (.tmp 3) rfl w.heap.size rfl 73 _ (0, 0) _ hr u67 rfl (i67 _) ?_ | refine wpList_store_row rfl 73 (.tmp 4) (.tmp 17) rfl (w.heap.size + 1) _ rfl rfl _ _ hz (i67 _) (size_same _ _) (rowOf_one _) ?_)
      have hz' : (wr.setRow (w.heap.size + 1) (rowOf (mixed b v 64))).heap[w.heap.size + 1]? = some (.cells (rowOf (mixed b v 64)) 73 (0, 0)) := setRow_heap _ _ _ _ _ _ hz
      refine bodyPost_ret (v := .agg (rowOf (mixed b v 64))) (results_cell_row rfl _ _ (w.heap.size + 1) _ _ _ _ rfl hz' u67 rfl (i67 _)) rfl ⟨by rw [mixed_full], ?_⟩
      exact hb.setRow (by omega) _

theorem ubool : Try.prog.underlying 4 = some .bool := by kernel_rfl
theorem sbool (w : World) : (sizeOf 4).run Try.prog w = .ok 1 w := by kernel_rfl

theorem cutV_id (b : Nat) (x : Int) (hb1 : 1 ≤ b) (hb : b ≤ 63) (hx1 : -9223372036854775808 ≤ x) (hx2 : x ≤ 9223372036854775807) : decide (cutV b (bv x) = bv x) = decide (-(2 : Int) ^ (b - 1) ≤ x ∧ x ≤ 2 ^ (b - 1) - 1) := by
  have hp : (2 : Int) ^ b = 2 * 2 ^ (b - 1) := by
    rw [show b = (b - 1) + 1 from by omega, Int.pow_succ, Int.mul_comm]; congr 2
  have hpos : (0 : Int) < 2 ^ (b - 1) := Int.pow_pos (by decide)
  have hcast : ((2 ^ b : Nat) : Int) = 2 ^ b := by norm_cast
  congr 1
  rw [eq_iff_iff, ← BitVec.toInt_inj, cutV_toInt b x (by omega), bv_toInt x hx1 (by omega)]
  constructor
  · intro h
    have h1 := Int.le_bmod (x := x) (m := 2 ^ b) (Nat.two_pow_pos _)
    have h2 := Int.bmod_lt (x := x) (m := 2 ^ b) (Nat.two_pow_pos _)
    rw [h] at h1 h2
    omega
  · intro h
    apply Int.bmod_eq_of_le <;> omega

def rowAt (w : World) (g : Nat) : Array Value := match w.heap[g]? with | some (.cells cs _ _) => cs | _ => #[]
def isRow (w : World) (g : Nat) : Bool := match w.heap[g]? with | some (.cells cs t fr) => decide (t = 73 ∧ fr = (0, 0)) && cs.size == 64 | _ => false
theorem rowAt_of {w : World} {g : Nat} {cs : Array Value} (h : w.heap[g]? = some (.cells cs 73 (0, 0))) : rowAt w g = cs := by simp [rowAt, h]
theorem isRow_of {w : World} {g : Nat} {f : Nat → Bool} (h : w.heap[g]? = some (.cells (rowOf f) 73 (0, 0))) : isRow w g = true := by simp [isRow, h, rowOf_size]
theorem rowAt_drew (w : World) (g : Nat) : rowAt w.drew g = rowAt w g := rfl
theorem isRow_drew (w : World) (g : Nat) : isRow w.drew g = isRow w g := rfl
theorem run_load_rowAt (w : World) (g : Nat) (h : isRow w g = true) : (Instr.loadAt 73 (.pointer (some ⟨g, 0, none⟩))).run Try.prog w = .ok (.agg (rowAt w g)) w := by
  unfold isRow at h
  split at h
  · rename_i cs t fr hg
    simp at h
    obtain ⟨⟨rfl, rfl⟩, hs⟩ := h
    have := run_loadVar_row (P := Try.prog) w g 73 73 cs (0, 0) _ hg u67 rfl (by rw [hs]; exact i67')
    simp [Instr.loadAt, Instr.sureAddr, this, rowAt_of hg]
  · cases h
theorem run_eql67 (v u : BitVec 64) (w : World) : (binOp .eql 73 (.agg (bitRow v)) (.agg (bitRow u))).run Try.prog w = .ok (.bool (decide (v = u))) w := Go.ArrX.run_eql_row u67 ubool sbool v u w
theorem isRow_kept {B g : Nat} {w w' : World} (hb : Below B w w') (hg : g < B) (h : isRow w g = true) : isRow w' g = true := by
  unfold isRow at h ⊢; rw [hb.block g hg]; exact h
theorem rowAt_kept {B g : Nat} {w w' : World} (hb : Below B w w') (hg : g < B) {v : Array Value} (h : rowAt w g = v) : rowAt w' g = v := by
  unfold rowAt at h ⊢; rw [hb.block g hg]; exact h
def rowLoad (v : Value) : Sem Value := Instr.loadAt 73 v
theorem loadAt_row (v : Value) : Instr.loadAt 73 v = rowLoad v := rfl
theorem run_rowLoad (w : World) (g : Nat) (h : isRow w g = true) : (rowLoad (.pointer (some ⟨g, 0, none⟩))).run Try.prog w = .ok (.agg (rowAt w g)) w := run_load_rowAt w g h
def rowEql (x y : Value) : Sem Value := binOp .eql 73 x y
theorem binOp_row (x y : Value) : binOp .eql 73 x y = rowEql x y := rfl
theorem run_rowEql (v u : BitVec 64) (w : World) : (rowEql (.agg (bitRow v)) (.agg (bitRow u))).run Try.prog w = .ok (.bool (decide (v = u))) w := run_eql67 v u w
attribute [local go_sem ↓] loadAt_row binOp_row
attribute [local go_sem] run_rowLoad run_rowEql rowAt_drew isRow_drew

set_option maxHeartbeats 400000 in
theorem isIn_any (b : Nat) (wr : Bool) (x : Int) (w : World) (h1 : 1 ≤ b) (h2 : b ≤ 64) :
    Calls Try.prog 65 #[.agg #[.int .i64 (b : Int), .bool wr], .int .i64 x] w fun e w' => e = .returned (.bool (decide (cutV b (bv x) = bv x))) ∧ Below w.heap.size w w' := by
  go_enter Try.func65, Try.ntmps65
  go_wp2_with (first | (go_at_call 76; refine (bitsOf_any _ _).mono ?_; rintro e w1 ⟨rfl, hb1⟩) | refine wpList_store_row rfl 73 (.tmp 5) (.tmp 7) rfl w1.heap.size _ rfl rfl _ _ (heap_alloc_new _ _) (i67 _) (rowOf_size _).symm (rowOf_one _) ?_)
  have hrow := setRow_heap (w1.alloc (.cells (rowOf fun _ => false) 73)) w1.heap.size _ (bitRow (bv x)) 73 (0, 0) (heap_alloc_new _ _)
  have hs1 : w.heap.size < w1.heap.size := by have := hb1.size; simp at this; omega
  have hbel : Below w.heap.size w ((w1.alloc (.cells (rowOf fun _ => false) 73)).setRow w1.heap.size (bitRow (bv x))) :=
    (((((Below.refl _ _).alloc (Nat.le_refl _) _).trans (hb1.mono (by simp))).alloc (by omega) _)).setRow (by omega) _
  have hcb : ((w1.alloc (.cells (rowOf fun _ => false) 73)).setRow w1.heap.size (bitRow (bv x))).cell? ⟨w.heap.size, 0, none⟩ = some (.int .i64 (b : Int)) := by
    rw [cell_setRow_other _ _ _ _ (by simp; omega), World.cell?_alloc_past _ _ _ hs1, hb1.cell (by simp), World.cell?_alloc_at _ _ _ _ rfl]; rfl
  revert hrow hbel hcb
  show _ → _ → _ → Code.wp _ _ _ _ ((w1.alloc (.cells (rowOf fun _ => false) 73)).setRow w1.heap.size (bitRow (bv x)))
  have hge : w1.heap.size < ((w1.alloc (.cells (rowOf fun _ => false) 73)).setRow w1.heap.size (bitRow (bv x))).heap.size := by simp
  revert hge
  generalize (w1.alloc (.cells (rowOf fun _ => false) 73)).setRow w1.heap.size (bitRow (bv x)) = W
  intro hsz hrow hbel hcb
  have hR := isRow_of hrow
  have hA := rowAt_of hrow
  clear hrow
  go_region_with (first | (go_at_call 77; refine (cutTo_any b (bv x) _ h1 h2).mono ?_; rintro e w2 ⟨rfl, hb2⟩; have hR2 := isRow_kept hb2 (by exact hsz) hR; have hA2 := rowAt_kept hb2 (by exact hsz) hA))
  all_goals go_wp2
  all_goals go_ret
  all_goals exact ⟨rfl, hbel.drew.trans (hb2.mono (by show w.heap.size ≤ W.heap.size; omega))⟩
end Go.Proofs.Ytdedifgpbehpoaa
