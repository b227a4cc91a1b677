
import Derived.Test.YthbbceaaphfhnaaBts
import Derived.Test.YthbbceaaphfhnaaBti
namespace Go.Proofs.Ythbbceaaphfhnaa
open Go.RowKit BitX Go.MemX
set_option linter.unusedVariables false


def onB {α : Type} (b : Bool) (x y : α) : α := match b with | true => x | false => y
def wordB (b : Int) : Bool := decide (2 ≤ b ∧ b ≤ 16)
theorem wordB_t {b : Int} (h : wordB b = true) : 2 ≤ b ∧ b ≤ 16 := of_decide_eq_true h
theorem wordB_f {b : Int} (h : wordB b = false) : ¬ (2 ≤ b ∧ b ≤ 16) := of_decide_eq_false h
def bnLo (xs : List Int) (b : Int) : Int := loS xs (-(2 : Int) ^ (b.toNat - 1)) ((2 : Int) ^ (b.toNat - 1) - 1) xs.length
def bnHi (xs : List Int) (b : Int) : Int := hiS xs (-(2 : Int) ^ (b.toNat - 1)) ((2 : Int) ^ (b.toNat - 1) - 1) xs.length
def bnR (xs : List Int) (b : Int) : Int := onB (wgtB xs && wordB b) (bitsR (bnLo xs b) (bnHi xs b)) 0
def bnO (xs : List Int) (b : Int) : Bool := onB (wgtB xs && wordB b) (bitsO (bnLo xs b) (bnHi xs b)) false
theorem bn_bad {xs : List Int} {b : Int} (h : (wgtB xs && wordB b) = false) : Ending.returned (.tuple #[.int .i64 0, .bool false]) = .returned (.tuple #[.int .i64 (bnR xs b), .bool (bnO xs b)]) := by
  unfold bnR bnO; rw [h]; rfl
theorem bn_good {xs : List Int} {n : Nat} (h : (wgtB xs && wordB n) = true) : bnR xs n = bitsR (loS xs (-(2 : Int) ^ (n - 1)) ((2 : Int) ^ (n - 1) - 1) xs.length) (hiS xs (-(2 : Int) ^ (n - 1)) ((2 : Int) ^ (n - 1) - 1) xs.length) ∧ bnO xs n = bitsO (loS xs (-(2 : Int) ^ (n - 1)) ((2 : Int) ^ (n - 1) - 1) xs.length) (hiS xs (-(2 : Int) ^ (n - 1)) ((2 : Int) ^ (n - 1) - 1) xs.length) := by
  unfold bnR bnO; rw [h]; exact ⟨rfl, rfl⟩


set_option maxHeartbeats 400000 in
theorem spec_BitsNeeded_any (u : Value) (xs : List Int) (b : Int) (wd : Bool) (w : World) (hu : Sl w u xs) :
    Calls Try.prog 23 #[u, .agg #[.int .i64 b, .bool wd]] w fun e w' => e = .returned (.tuple #[.int .i64 (bnR xs b), .bool (bnO xs b)]) ∧ Below w.heap.size w w' := by
  cases h0 : wgtB xs
  · have H := hid h0
    have Hb := hid (show (wgtB xs && wordB b) = false by rw [h0]; rfl)
    have HU := hid hu
    clear h0 hu
    go_enter Try.func23, Try.ntmps23
    have B0 := bel_alloc w (.cells #[.int .i64 b, .bool wd] 40)
    go_wp2_with fail
    refine (weGood_is _ xs false _ (HU.out.kept B0) H.out).mono ?_
    rintro e w' ⟨rfl, rfl⟩
    go_wp2_with fail
    go_ret2
    exact ⟨bn_bad Hb.out, bel_alloc _ _⟩
  · cases h1 : wordB b
    · have H := hid h0
      have Hb := hid (show (wgtB xs && wordB b) = false by rw [h0, h1]; rfl)
      have HU := hid hu
      have H1 := hid (wordB_f h1)
      clear h0 h1 hu
      go_enter Try.func23, Try.ntmps23
      have B0 := bel_alloc w (.cells #[.int .i64 b, .bool wd] 40)
      obtain ⟨hbA, hbB⟩ := box2_cells (Below.refl (w.alloc (.cells #[.int .i64 b, .bool wd] 40)).heap.size (w.alloc (.cells #[.int .i64 b, .bool wd] 40)))
      go_wp2_with fail
      refine (weGood_is _ xs true _ (HU.out.kept B0) H.out).mono ?_
      rintro e w' ⟨rfl, rfl⟩
      go_wp2_with fail
      refine (wdGood_no _ _ _ H1.out).mono ?_
      rintro e w2 ⟨rfl, hb⟩
      go_wp2_with fail
      go_ret2
      exact ⟨bn_bad Hb.out, bel_step (bel_alloc _ _) hb⟩
    · obtain ⟨a1, a2⟩ := wordB_t h1
      obtain ⟨n, rfl⟩ : ∃ n : Nat, b = n := ⟨b.toNat, by omega⟩
      obtain ⟨e1, e2⟩ := bn_good (xs := xs) (n := n) (by rw [h0, h1]; rfl)
      rw [e1, e2]
      exact spec_bits_in u xs n wd w hu (wgtB_t h0) (by omega) (by omega)


set_option maxHeartbeats 400000 in
theorem impl_BitsNeeded_any (u : Value) (xs : List Int) (b : Int) (wd : Bool) (w : World) (hu : Sl w u xs) :
    Calls Try.prog 25 #[u, .agg #[.int .i64 b, .bool wd]] w fun e w' => e = .returned (.tuple #[.int .i64 (bnR xs b), .bool (bnO xs b)]) ∧ Below w.heap.size w w' := by
  cases h0 : wgtB xs
  · have H := hid h0
    have Hb := hid (show (wgtB xs && wordB b) = false by rw [h0]; rfl)
    have HU := hid hu
    clear h0 hu
    go_enter Try.func25, Try.ntmps25
    have B0 := bel_alloc w (.cells #[.int .i64 b, .bool wd] 40)
    go_wp2_with fail
    refine (impl_IsWeights_is _ xs false _ (HU.out.kept B0) H.out).mono ?_
    rintro e w' ⟨rfl, rfl⟩
    go_wp2_with fail
    go_ret2
    exact ⟨bn_bad Hb.out, bel_alloc _ _⟩
  · cases h1 : wordB b
    · have H := hid h0
      have Hb := hid (show (wgtB xs && wordB b) = false by rw [h0, h1]; rfl)
      have HU := hid hu
      have H1 := hid (wordB_f h1)
      clear h0 h1 hu
      go_enter Try.func25, Try.ntmps25
      have B0 := bel_alloc w (.cells #[.int .i64 b, .bool wd] 40)
      obtain ⟨hbA, hbB⟩ := box2_cells (Below.refl (w.alloc (.cells #[.int .i64 b, .bool wd] 40)).heap.size (w.alloc (.cells #[.int .i64 b, .bool wd] 40)))
      go_wp2_with fail
      refine (impl_IsWeights_is _ xs true _ (HU.out.kept B0) H.out).mono ?_
      rintro e w' ⟨rfl, rfl⟩
      go_wp2_with fail
      refine (impl_IsWord_no _ _ _ H1.out).mono ?_
      rintro e w2 ⟨rfl, hb⟩
      go_wp2_with fail
      go_ret2
      exact ⟨bn_bad Hb.out, bel_step (bel_alloc _ _) hb⟩
    · obtain ⟨a1, a2⟩ := wordB_t h1
      obtain ⟨n, rfl⟩ : ∃ n : Nat, b = n := ⟨b.toNat, by omega⟩
      obtain ⟨e1, e2⟩ := bn_good (xs := xs) (n := n) (by rw [h0, h1]; rfl)
      rw [e1, e2]
      exact impl_bits_in u xs n wd w hu (wgtB_t h0) (by omega) (by omega)


set_option maxHeartbeats 1600000 in
theorem gen_FnExactBitsNeeded (h : List Int) (b : Int) (wr : Bool) (u_h : Option Addr) (l_h c_h : Nat) (r0 : Int) (r1 : Bool) (w : World) (hs_h : Sl w (.slice u_h l_h c_h) h) (ll_h : l_h ≤ 1048576) (hl_h : h.length ≤ 1048576) (hspec : ∀ (w : World) (v_h : Value), Sl w v_h h → Calls Try.prog 23 #[v_h, .agg #[.int .i64 b, .bool wr]] w fun e w' => e = .returned (.tuple #[.int .i64 r0, .bool r1]) ∧ Below w.heap.size w w') (himpl : ∀ (w : World) (v_h : Value), Sl w v_h h → Calls Try.prog 25 #[v_h, .agg #[.int .i64 b, .bool wr]] w fun e w' => e = .returned (.tuple #[.int .i64 r0, .bool r1]) ∧ Below w.heap.size w w') :
    Calls Try.prog 8 #[.slice u_h l_h c_h, .agg #[.int .i64 b, .bool wr]] w fun e w' => e = .returned (.bool true) ∧ Below w.heap.size w w' := by
  have HSh := hid hs_h
  clear hs_h
  have HSP := hid hspec
  have HIM := hid himpl
  clear hspec himpl
  all_goals cases r1
  all_goals
    go_enter Try.func8, Try.ntmps8
    go_wp2_with fail
    go_region_with (first | (go_at_call 19; refine (toIntS_any _ h _ (HSh.out.kept (bel_alloc _ _).drew) (by omega)).mono ?_; rintro e w1 ⟨g_A, hg_A, rfl, K_A, hb⟩; have B1 := bel_undrew hb; have A0 := K_A.res hg_A; obtain ⟨ca1, cb1⟩ := box2_cells B1) | (go_at_call 24; refine (toWord_any _ _ _).mono ?_; rintro e w2 ⟨rfl, hb⟩; have B2 := bel_step B1 hb; have A0_2 := A0.kept hb; obtain ⟨ca2, cb2⟩ := box2_cells B2) | (go_at_call 23; refine (HSP.out _ _ A0_2.sl).mono ?_; rintro e w3 ⟨rfl, hb⟩; have B3 := bel_step B2 hb; obtain ⟨ca3, cb3⟩ := box2_cells B3))
    all_goals
      go_wp2_with fail
      refine (toIntS_any _ h _ (HSh.out.kept (bel_step (bel_alloc w _) B3)) (by omega)).mono ?_
      rintro e w4 ⟨g_Xh, hg_Xh, rfl, K_Xh, hb⟩
      have B4 := bel_step B3 hb
      have hz4 : w3.heap.size ≤ w4.heap.size := hb.size
      have Xh := K_Xh.res hg_Xh
      obtain ⟨ca4, cb4⟩ := box2_cells B4
      have hlt_Xh := K_Xh.lt
      go_wp2_with fail
      refine (toWord_any _ _ _).mono ?_
      rintro e w5 ⟨rfl, hb⟩
      have B5 := bel_step B4 hb
      have hz5 : w4.heap.size ≤ w5.heap.size := hb.size
      have Xh_5 := Xh.kept hb
      obtain ⟨ca5, cb5⟩ := box2_cells B5
      have hxl_Xh : g_Xh < w5.heap.size := Xh_5.lt rfl
      go_wp2_with fail
      refine (HIM.out _ _ Xh_5.sl).mono ?_
      rintro e w6 ⟨rfl, hb⟩
      have B6 := bel_step B5 hb
      have hz6 : w5.heap.size ≤ w6.heap.size := hb.size
      have Xh_6 := Xh_5.kept hb
      obtain ⟨ca6, cb6⟩ := box2_cells B6
      go_wp2_with fail
      refine (toIntS_any _ h _ (HSh.out.kept (bel_step (bel_alloc w _) B6)) (by omega)).mono ?_
      rintro e w7 ⟨g_TXh, hg_TXh, rfl, K_TXh, hb⟩
      have B7 := bel_step B6 hb
      have hz7 : w6.heap.size ≤ w7.heap.size := hb.size
      have Xh_7 := Xh_6.kept hb
      have TXh := K_TXh.res hg_TXh
      obtain ⟨ca7, cb7⟩ := box2_cells B7
      go_wp2_with fail
      refine (eqIntS_same _ _ h _ Xh_7.sl TXh.sl (by omega)).mono ?_
      rintro e w8 ⟨rfl, hb⟩
      have B8 := bel_step B7 hb
      have hz8 : w7.heap.size ≤ w8.heap.size := hb.size
      have Xh_8 := Xh_7.kept hb
      have TXh_8 := TXh.kept hb
      obtain ⟨ca8, cb8⟩ := box2_cells B8
      go_wp2_with fail
      go_ret
      exact ⟨rfl, bel_step (bel_alloc _ _) B8⟩


set_option maxHeartbeats 1600000 in
theorem walk_FnExactBitsNeeded (w : World) (u_h : Option Addr) (l_h c_h : Nat) (z_h : List Int) (hr_h : IsRow .i64 w u_h l_h c_h z_h) (b : Int) (wr : Bool) (wb : (Lit.int .i64 b).wf = true) :
    Calls Try.prog 8 #[.slice u_h l_h c_h, .agg #[.int .i64 b, .bool wr]] w fun e w' => e = .returned (.bool true) ∧ Below w.heap.size w w' := by
  obtain ⟨hs_h, hlen_h, hin_h⟩ := hr_h.sl
  generalize z_h.take l_h = h at hs_h hlen_h hin_h
  clear hr_h
  obtain ⟨b_1, b_2⟩ := bounds_i64 wb
  by_cases hbig_h : 1048576 < l_h
  · clear hs_h hlen_h hin_h
    go_enter Try.func8, Try.ntmps8
    go_wp2
    go_ret
    exact ⟨rfl, bel_alloc _ _⟩
  · have hq_h : l_h ≤ 1048576 := by omega
    exact gen_FnExactBitsNeeded h b wr _ _ _ (bnR h b) (bnO h b) w hs_h (by omega) (by omega)  (fun w v_h h_h => spec_BitsNeeded_any v_h h b wr w h_h) (fun w v_h h_h => impl_BitsNeeded_any v_h h b wr w h_h)

end Go.Proofs.Ythbbceaaphfhnaa
