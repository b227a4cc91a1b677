
import Derived.Test.YtbhlailnefappaaEa
import Derived.Test.YtbhlailnefappaaShelf
import Derived.Laws.CopyOwn
import Derived.Deep.RegionLaw
import Derived.Deep.RegionHeld3
namespace Go.Proofs.Ytbhlailnefappaa
open Go.RowKit BitX Go.MemX Go.Ch6
set_option linter.unusedVariables false
theorem mul_small (q : Nat) (hq : q ≤ 1000) (w : World) :
    Calls Try.prog 87 #[.int .u64 1, .int .u64 (q : Int)] w fun e w' => e = .returned (.tuple #[.int .u64 0, .int .u64 (q : Int)]) ∧ w = w' := by
  refine (Try.bits_Mul 1 q (by omega) (by omega) w).mono fun e w' h => ⟨?_, h.2.symm⟩
  rw [h.1, show 1 * q / 18446744073709551616 = 0 from by omega, show 1 * q % 18446744073709551616 = q from by omega]; rfl
/-- filled so far -/
def filL (c : Int) (q k : Nat) : List Int := List.replicate k c ++ List.replicate (q - k) 0
theorem filL_len (c : Int) (q k : Nat) (h : k ≤ q) : (filL c q k).length = q := by simp [filL]; omega
theorem filL_full (c : Int) (q : Nat) : filL c q q = List.replicate q c := by simp [filL]
theorem filL_get (c : Int) (q k i : Nat) (h : i < k) : (filL c q k)[i]? = some c := by
  unfold filL
  rw [List.getElem?_append_left (by simpa using h)]; simp [h]
theorem fil_splice (c : Int) (q k m : Nat) (h : k + m ≤ q) : splice ((filL c q k).map (Value.int .i64)) k ((List.replicate m c).map (Value.int .i64)) = (filL c q (k + m)).map (Value.int .i64) := by
  unfold splice filL
  rw [← List.map_take, ← List.map_drop, ← List.map_append, ← List.map_append]
  congr 1
  rw [List.length_map, List.length_replicate, List.take_left' (by simp), List.drop_append, List.drop_replicate, List.drop_replicate, List.length_replicate]
  rw [show k - (k + m) = 0 from by omega, List.replicate_zero, List.nil_append, ← List.append_assoc, List.replicate_append_replicate]
  congr 2; omega
theorem copy_one {w : World} {b off : Nat} {c : Int} {j : Nat} {v : Value} (hc : w.cell? ⟨b, off, none⟩ = some (.int .i64 c)) (hj : ((List.replicate 1 c).map (Value.int .i64))[j]? = some v) : w.cell? ⟨b, off + j, none⟩ = some v := by
  cases j with
  | zero =>
    simp at hj
    subst hj
    exact hc
  | succ j => simp at hj


set_option maxRecDepth 20000 in
set_option maxHeartbeats 2000000 in
theorem repeat_one (b off cap : Nat) (c : Int) (q : Nat) (w : World) (hc : w.cell? ⟨b, off, none⟩ = some (.int .i64 c)) (h1 : 1 ≤ q) (h2 : q ≤ 1000) :
    Calls Try.prog 61 #[.slice (some ⟨b, off, none⟩) 1 cap, .int .i64 (q : Int)] w (GivesL w (List.replicate q c)) := by
  have hmk := run_make_ints (P := Try.prog) 24 3 uslice iint q (by omega)
  have hblt := block_lt_of_cell hc
  have Hc := hid hc
  clear hc
  go_enter Try.func61, Try.ntmps61
  go_wp2_with fail
  refine (mul_small q h2 _).mono ?_
  rintro e w' ⟨rfl, rfl⟩
  obtain ⟨cs1, hcs1⟩ : ∃ cs1, cs1 = (List.replicate 1 c).map (Value.int .i64) := ⟨_, rfl⟩
  obtain ⟨cu1, hcu1⟩ : ∃ cu1, cu1 = (filL c q 0).map (Value.int .i64) := ⟨_, rfl⟩
  have Hcs1 := hid hcs1
  have Hcu1 := hid hcu1
  clear hcs1 hcu1
  go_wp2_with (with_reducible refine wpList_copy_splice rfl (.tmp 31) (.tmp 32) 24 24 rfl 3 uslice ?s1 _ _ _ _ _ _ rfl rfl w.heap.size 0 cu1 3 ?hg cs1 ?hn ?hpos ?hfit ?h1 w.heap.size w ?hb (Nat.le_refl _) ?_)
  case s1 => kernel_rfl
  case hg => rw [Hcu1.out]; exact heap_alloc_new _ _
  case hn => rw [Hcs1.out, List.length_map, List.length_replicate]; exact (Nat.min_eq_left h1).symm
  case hpos => exact fun _ j v hj => by rw [Hcs1.out] at hj; exact copy_one Hc.out hj
  case hfit => rw [Hcs1.out, Hcu1.out, List.length_map, List.length_map, filL_len _ _ _ (by omega)]; simp; omega
  case h1 => rw [Hcs1.out]; intro u hu; obtain ⟨x, _, rfl⟩ := List.mem_map.1 hu; rfl
  case hb => exact bel_alloc _ _
  · intro w3 hbk hb3
    have hblk : Blk 3 w3 w.heap.size (filL c q 1) := by
      have hh := hbk.out
      rw [Hcs1.out, Hcu1.out, fil_splice c q 0 1 (by omega)] at hh
      unfold Blk
      rw [hh]; simp [intsA]
    have Hblk := hid hblk
    clear hbk hblk hmk Hc hblt
    go_wp2_with fail
    go_loopw [8] (fun i wr => ∃ k : Nat, 1 ≤ k ∧ k ≤ q ∧ i = .int .i64 k ∧ Blk 3 wr w.heap.size (filL c q k) ∧ Below w.heap.size w wr)
      (fun i _ => q - (intOf i).toNat)
    case atStart => exact ⟨1, by omega, h1, by rw [Hcs1.out]; rfl, Hblk.out, hb3⟩
    case round =>
      obtain ⟨k, hk1, hk, rfl, hblk, hb⟩ := hrel
      by_cases hlk : k < q
      · obtain ⟨m, hm⟩ : ∃ m, m = min k (q - k) := ⟨_, rfl⟩
        have hm1 : 1 ≤ m := by omega
        have hm2 : k + m ≤ q := by omega
        have hm3 : m ≤ k := by omega
        have hn : ((List.replicate m c).map (Value.int .i64)).length = Nat.min k (q - k) := by rw [List.length_map, List.length_replicate, hm]
        have hg : wr.drew.heap[w.heap.size]? = some (.cells ((filL c q k).map (Value.int .i64)).toArray 3 (0, 0)) := by show wr.heap[w.heap.size]? = _; have := hblk; unfold Blk at this; rw [this]; simp [intsA]
        have hqk : ¬ q = k := by omega
        have hk0 : ¬ k = 0 := by omega
        have hs1 : ∀ W : World, (Instr.slice 24 (.slice (some ⟨w.heap.size, 0, none⟩) q q) (some (.int .i64 (k : Int))) none none).run Try.prog W = .ok (.slice (some ⟨w.heap.size, k, none⟩) (q - k) (q - k)) W := fun W => by
          rw [run_slice_l (P := Try.prog) W 24 (some ⟨w.heap.size, 0, none⟩) q q uslice .i64 (k : Int) (by omega) (by omega), sone]
          simp [sliced, Addr.add, hqk, hk0]
        have hs2 : ∀ W : World, (Instr.slice 24 (.slice (some ⟨w.heap.size, 0, none⟩) q q) none (some (.int .i64 (k : Int))) none).run Try.prog W = .ok (.slice (some ⟨w.heap.size, 0, none⟩) k q) W := fun W => by
          rw [run_slice_h (P := Try.prog) W 24 (some ⟨w.heap.size, 0, none⟩) q q uslice .i64 (k : Int) (by omega) (by omega), sone]
          simp [sliced, Addr.add]
        have hpos : 0 < ((List.replicate m c).map (Value.int .i64)).length → some (⟨w.heap.size, k, none⟩ : Addr) = some ⟨w.heap.size, k, none⟩ ∧ ∃ ad, some (⟨w.heap.size, 0, none⟩ : Addr) = some ad ∧ ∀ j v, ((List.replicate m c).map (Value.int .i64))[j]? = some v → wr.drew.cell? (ad.add j) = some v := fun _ => ⟨rfl, ⟨w.heap.size, 0, none⟩, rfl, fun j v hj => by
          rw [List.getElem?_map] at hj
          have hjm : j < m := by
            rcases Nat.lt_or_ge j m with h | h
            · exact h
            · rw [List.getElem?_eq_none (by simpa using h)] at hj; simp at hj
          have hv : v = .int .i64 c := by simp [hjm] at hj; exact hj.symm
          rw [hv]
          have := hblk.cell (filL_get c q k j (by omega))
          have ha : (⟨w.heap.size, 0, none⟩ : Addr).add j = ⟨w.heap.size, j, none⟩ := by simp [Addr.add] <;> (intro h; rw [h])
          rw [ha]; show wr.cell? _ = _; exact this⟩
        have hfit : k + ((List.replicate m c).map (Value.int .i64)).length ≤ ((filL c q k).map (Value.int .i64)).length := by rw [List.length_map, List.length_map, filL_len _ _ _ (by omega)]; simp; omega
        have h1c : ∀ v ∈ (List.replicate m c).map (Value.int .i64), v.oneCell' = true := fun u hu => by obtain ⟨x, _, rfl⟩ := List.mem_map.1 hu; rfl
        have hsp := fil_splice c q k m hm2
        have hlen : ((List.replicate m c).map (Value.int .i64)).length = m := by simp
        obtain ⟨cs, hcs⟩ : ∃ cs, cs = (List.replicate m c).map (Value.int .i64) := ⟨_, rfl⟩
        obtain ⟨cur, hcur⟩ : ∃ cur, cur = (filL c q k).map (Value.int .i64) := ⟨_, rfl⟩
        rw [← hcs] at hn hpos hfit h1c hsp hlen
        rw [← hcur] at hg hfit hsp
        have Hn := hid hn
        have Hg := hid hg
        have Hpos := hid hpos
        have Hfit := hid hfit
        have H1c := hid h1c
        have Hsp := hid hsp
        have e5 : IntKind.i64.wrap ((k : Int) + (cs.length : Int)) = ((k + m : Nat) : Int) := by rw [hlen]; exact IntWalk.i64_in _ (by omega)
        have e6 : wrap64 ((k : Int) + (cs.length : Int)) = ((k + m : Nat) : Int) := by rw [hlen]; exact IntWalk.wrap64_in _ (by omega)
        have Hlen := hid hlen
        clear hn hg hpos hfit h1c hsp hblk hcs hcur hlen hm
        go_wp2_with fail
        have hS : True ∧ True := ⟨trivial, trivial⟩
        go_region_held3 (fun W => True ∧ True) (first | exact hS | assumption | exact ⟨trivial, trivial⟩) (first | (refine step_copy_splice rfl (.tmp 41) (.tmp 44) 24 24 rfl 3 uslice (by kernel_rfl) (some ⟨w.heap.size, k, none⟩) (some ⟨w.heap.size, 0, none⟩) (q - k) (q - k) k q rfl rfl w.heap.size k cur 3 Hg.out cs Hn.out (fun h => ⟨rfl, (Hpos.out h).2⟩) Hfit.out H1c.out w.heap.size w hb.drew (Nat.le_refl _) ?_; intro w4 hg4 hb4; have hS : True ∧ True := ⟨trivial, trivial⟩))
        all_goals go_wp2
        all_goals go_roundw
        all_goals first
          | exact ⟨k + m, by omega, by omega, by first | rfl | rw [e5] | rw [e6], by have h4 := hg4.out; rw [Hsp.out] at h4; unfold Blk; rw [h4]; simp [intsA], hb4⟩
          | (simp only [intOf]; first | (rw [e5]; omega) | (rw [e6]; omega) | omega)
      · have hge : (q : Int) ≤ (k : Int) := by omega
        have hkn : k = q := by omega
        rw [hkn, filL_full] at hblk
        have Hblk := hid hblk
        clear hlk hkn hblk
        go_wp2
        go_ret
        refine ⟨_, rfl, ?_, hb⟩
        have h2 := Hblk.out.res (Nat.le_refl _)
        rw [List.length_replicate] at h2
        exact h2


set_option maxRecDepth 20000 in
set_option maxHeartbeats 1000000 in
theorem repeat_zero (b off cap : Nat) (c : Int) (q : Nat) (w : World) (hc : w.cell? ⟨b, off, none⟩ = some (.int .i64 c)) (h2 : q ≤ 0) :
    Calls Try.prog 61 #[.slice (some ⟨b, off, none⟩) 1 cap, .int .i64 (q : Int)] w (GivesL w (List.replicate q c)) := by
  have hmk := run_make_ints (P := Try.prog) 24 3 uslice iint q (by omega)
  have hge : (q : Int) ≤ 0 := by omega
  go_enter Try.func61, Try.ntmps61
  go_wp2_with fail
  refine (mul_small q (by omega) _).mono ?_
  rintro e w' ⟨rfl, rfl⟩
  go_wp2_with (with_reducible refine wpList_copy_nothing rfl (.tmp 31) (.tmp 32) 24 24 rfl 3 uslice ?s1 _ _ _ _ _ _ rfl rfl ?hn ?_)
  case s1 => kernel_rfl
  case hn => show Nat.min 1 q = 0; have h0 : q = 0 := by omega
             rw [h0]; rfl
  have hres : Res 3 w.heap.size (w.alloc (.cells (intsA (List.replicate q 0)) 3)) (.slice (some ⟨w.heap.size, 0, none⟩) q q) (List.replicate q c) := by
    have h0 : q = 0 := by omega
    subst h0
    exact (show Blk 3 _ _ [] from heap_alloc_new _ _).res (Nat.le_refl _)
  have Hres := hid hres
  have hb := bel_alloc w (.cells (intsA (List.replicate q 0)) 3)
  clear hres hmk hc
  go_wp2_with fail
  refine wp_loop_rounds 1 ?_
  rw [rounds_succ]
  go_wp2
  go_ret
  exact ⟨_, rfl, Hres.out, hb⟩
theorem repeat_any (b off cap : Nat) (c : Int) (q : Nat) (w : World) (hc : w.cell? ⟨b, off, none⟩ = some (.int .i64 c)) (h2 : q ≤ 1000) :
    Calls Try.prog 61 #[.slice (some ⟨b, off, none⟩) 1 cap, .int .i64 (q : Int)] w (GivesL w (List.replicate q c)) := by
  by_cases h : 1 ≤ q
  · exact repeat_one b off cap c q w hc h h2
  · exact repeat_zero b off cap c q w hc (by omega)

end Go.Proofs.Ytbhlailnefappaa
