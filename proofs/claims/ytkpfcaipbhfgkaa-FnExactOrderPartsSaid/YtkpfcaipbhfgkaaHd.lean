
import Derived.Test.YtkpfcaipbhfgkaaHc
namespace Go.MemX
open Go Go.RowKit
set_option linter.unusedVariables false
def Fo.wf (f : Fo) : Prop := (Lit.int .i64 f.a).wf = true ∧ (Lit.int .i64 f.k).wf = true ∧ (Lit.int .i64 f.m).wf = true ∧ (Lit.int .i64 f.b).wf = true
/-- WHAT IS KNOWN OF A SLICE OF FILTERS THAT CAME IN -/
def IsFs (w : World) (a : Option Addr) (len cap : Nat) (fs : List Fo) : Prop :=
  FSl w (.slice a len cap) fs ∧ fs.length = len ∧ (∀ f ∈ fs, f.wf) ∧ len ≤ maxLen
end Go.MemX
namespace Go.Proofs.Ytkpfcaipbhfgkaa
open Go.RowKit BitX Go.MemX
set_option linter.unusedVariables false
/-- what a call leaves that hands back a new list of just these filters, and a Bool -/
def GivesF (w : World) (fs : List Fo) (ok : Bool) (e : Ending) (w' : World) : Prop :=
  ∃ v, e = .returned (.tuple #[v, .bool ok]) ∧ FRi w.heap.size w' v fs ∧ Below w.heap.size w w'
theorem toIntS_res (v : Value) (xs : List Int) (w : World) (hs : Sl w v xs) (hl : xs.length ≤ 2000000) :
    Calls Try.prog 16 #[v] w (GivesL w xs) :=
  (toIntS_any v xs w hs hl).mono fun e w' ⟨g, hg, he, hb, hbel⟩ => ⟨_, he, hb.res hg, hbel⟩


set_option maxHeartbeats 3200000 in
theorem gen_FnExactAreParts (fs : List Fo) (u_fs : Option Addr) (l_fs c_fs : Nat) (r0 : Bool) (w : World) (hs_fs : FSl w (.slice u_fs l_fs c_fs) fs) (ll_fs : l_fs ≤ 1048576) (hl_fs : fs.length ≤ 1048576) (hspec : ∀ (w : World) (v_fs : Value), FSl w v_fs fs → Calls Try.prog 9 #[v_fs] w fun e w' => e = .returned (.bool r0) ∧ Below w.heap.size w w') (himpl : ∀ (w : World) (v_fs : Value), FSl w v_fs fs → Calls Try.prog 11 #[v_fs] w fun e w' => e = .returned (.bool r0) ∧ Below w.heap.size w w') :
    Calls Try.prog 3 #[.slice u_fs l_fs c_fs] w fun e w' => e = .returned (.bool true) ∧ Below w.heap.size w w' := by
  have HSfs := hid hs_fs
  clear hs_fs
  have HSP := hid hspec
  have HIM := hid himpl
  clear hspec himpl
  all_goals cases r0
  all_goals
    go_enter Try.func3, Try.ntmps3
    go_wp2_with fail
    refine (szFirstS_le _ _ _ _ ll_fs).mono ?_
    rintro e w' ⟨rfl, rfl⟩
    have hsz0 : ¬ (1048576 - (l_fs : Int)) < 0 := by omega
    go_wp2_with fail
    refine (toFirstS_any _ fs _ HSfs.out (by omega)).mono ?_
    rintro e w1 ⟨v_Afs, rfl, Afs, hb⟩
    have B1 := hb
    have hz1 : w.heap.size ≤ w1.heap.size := hb.size
    go_wp2_with fail
    refine (HSP.out _ _ Afs.sl).mono ?_
    rintro e w2 ⟨rfl, hb⟩
    have B2 := bel_step B1 hb
    have hz2 : w1.heap.size ≤ w2.heap.size := hb.size
    have Afs_2 := Afs.kept hb
    go_wp2_with fail
    refine (toFirstS_any _ fs _ (HSfs.out.kept B2) (by omega)).mono ?_
    rintro e w3 ⟨v_Xfs, rfl, Xfs, hb⟩
    have B3 := bel_step B2 hb
    have hz3 : w2.heap.size ≤ w3.heap.size := hb.size
    have KXfs := hid (fun g (hg : v_Xfs.ownBlock = some g) => Xfs.lt hg)
    have JXfs := hid (fun g (hg : v_Xfs.ownBlock = some g) => Xfs.ge hg)
    go_wp2_with fail
    refine (HIM.out _ _ Xfs.sl).mono ?_
    rintro e w4 ⟨rfl, hb⟩
    have B4 := bel_step B3 hb
    have hz4 : w3.heap.size ≤ w4.heap.size := hb.size
    have Xfs_4 := Xfs.kept hb
    go_wp2_with fail
    refine (toFirstS_any _ fs _ (HSfs.out.kept B4) (by omega)).mono ?_
    rintro e w5 ⟨v_Tfs, rfl, Tfs, hb⟩
    have B5 := bel_step B4 hb
    have hz5 : w4.heap.size ≤ w5.heap.size := hb.size
    have Xfs_5 := Xfs_4.kept hb
    go_wp2_with fail
    refine (eqFirstS_same _ _ fs _ Xfs_5.sl Tfs.sl (by omega)).mono ?_
    rintro e w6 ⟨rfl, hb⟩
    have B6 := bel_step B5 hb
    have hz6 : w5.heap.size ≤ w6.heap.size := hb.size
    have Xfs_6 := Xfs_5.kept hb
    have Tfs_6 := Tfs.kept hb
    go_wp2_with fail
    go_ret
    exact ⟨rfl, B6⟩


set_option maxHeartbeats 1600000 in
theorem walk_FnExactAreParts (w : World) (u_fs : Option Addr) (l_fs c_fs : Nat) (fs : List Fo) (hr_fs : IsFs w u_fs l_fs c_fs fs) :
    Calls Try.prog 3 #[.slice u_fs l_fs c_fs] w fun e w' => e = .returned (.bool true) ∧ Below w.heap.size w w' := by
  obtain ⟨hs_fs, hlen_fs, hin_fs, hmx_fs⟩ := hr_fs
  by_cases hbig_fs : 1048576 < l_fs
  · skip
    clear hs_fs hlen_fs hin_fs
    have hm2 : l_fs ≤ 9223372036854775807 := by have := hmx_fs; unfold maxLen at this; omega
    clear hmx_fs
    go_enter Try.func3, Try.ntmps3
    go_wp2_with fail
    refine (szFirstS_gt _ _ _ _ hbig_fs hm2).mono ?_
    rintro e w' ⟨rfl, rfl⟩
    go_wp2
    go_ret
    exact ⟨rfl, Below.refl _ _⟩
  · have hq_fs : l_fs ≤ 1048576 := by omega
    exact gen_FnExactAreParts fs _ _ _ (fsB fs) w hs_fs (by omega) (by omega)  (fun w v_fs h_fs => spec_AreParts_is _ _ _ h_fs (by omega)) (fun w v_fs h_fs => AreParts_is _ _ _ h_fs (by omega))


end Go.Proofs.Ytkpfcaipbhfgkaa
