
import Derived.Test.YtngjkcdfgkkdkaaUh
import Derived.Test.YtngjkcdfgkkdkaaEo
import Derived.Deep.CutRange
import Derived.Deep.Cut
import Derived.Deep.QuietTactic
import Derived.BigQuiet
import Derived.Deep.RegionLaw
namespace Go.Proofs.Ytngjkcdfgkkdkaa
open Go.RowKit BitX Go.MemX Go.Ch6 Go.Ch8
set_option linter.unusedVariables false


set_option maxHeartbeats 1000000 in
theorem rsGood_any (v : Value) (s : List Int) (p q : Int) (w : World) (hs : Sl w v s) :
    Calls Try.prog 26 #[v, .int .i64 p, .int .i64 q] w fun e w' => e = .returned (.bool (rsB s p q)) ∧ w = w' := by
  have HS := hid hs
  clear hs
  cases h0 : sigB s
  · have HB0 := hid h0
    clear h0
    go_enter Try.func26, Try.ntmps26
    go_wp2_with fail
    refine (wdSignal_is _ s false _ HS.out HB0.out).mono ?_
    rintro e w' ⟨rfl, rfl⟩
    go_wp2_with fail
    go_ret
    exact ⟨ret_b (and_n1 HB0.out).symm, rfl⟩
  · have HB0 := hid h0
    clear h0
    cases h1 : ratB p q
    · have HB1 := hid h1
      clear h1
      go_enter Try.func26, Try.ntmps26
      go_wp2_with fail
      refine (wdSignal_is _ s true _ HS.out HB0.out).mono ?_
      rintro e w' ⟨rfl, rfl⟩
      go_wp2_with fail
      refine (rsRatio_is _ _ false _ HB1.out).mono ?_
      rintro e w' ⟨rfl, rfl⟩
      go_wp2_with fail
      go_ret
      exact ⟨ret_b (and_n2 HB1.out).symm, rfl⟩
    · have HB1 := hid h1
      clear h1
      go_enter Try.func26, Try.ntmps26
      go_wp2_with fail
      refine (wdSignal_is _ s true _ HS.out HB0.out).mono ?_
      rintro e w' ⟨rfl, rfl⟩
      go_wp2_with fail
      refine (rsRatio_is _ _ true _ HB1.out).mono ?_
      rintro e w' ⟨rfl, rfl⟩
      go_wp2
      go_ret
      exact ⟨ret_b (rsB_y HB0.out HB1.out).symm, rfl⟩

theorem rsGood_is (v : Value) (s : List Int) (p q : Int) (b : Bool) (w : World) (hs : Sl w v s) (h : rsB s p q = b) :
    Calls Try.prog 26 #[v, .int .i64 p, .int .i64 q] w fun e w' => e = .returned (.bool (b)) ∧ w = w' := by subst h; exact rsGood_any v s p q w hs


theorem gives_if {w w' : World} {v : Value} {ys : List Int} {b q : Bool} (h : b = q) (hv : Res 3 w.heap.size w' v ys) (hb : Below w.heap.size w w') : Gives w (onL b ys) b (.returned (.tuple #[onB q v (.slice none 0 0), .bool q])) w' := by
  subst h
  cases b
  · exact ⟨_, rfl, .inl ⟨rfl, rfl⟩, hb⟩
  · exact ⟨_, rfl, hv, hb⟩


set_option maxHeartbeats 1000000 in
theorem spec_HoldSamples_any (v : Value) (s : List Int) (p q : Int) (w : World) (hs : Sl w v s) :
    Calls Try.prog 8 #[v, .int .i64 p, .int .i64 q] w (Gives w (onL (rsO (holdF s) s p q) (rsL (holdF s) s.length p q)) (rsO (holdF s) s p q)) := by
  have HS := hid hs
  clear hs
  cases h0 : rsB s p q
  · have HB0 := hid h0
    clear h0
    go_enter Try.func8, Try.ntmps8
    go_wp2_with fail
    refine (rsGood_is _ s _ _ false _ HS.out HB0.out).mono ?_
    rintro e w' ⟨rfl, rfl⟩
    go_wp2_with fail
    go_ret2
    exact gives_no (rsO_n HB0.out) (Below.refl _ _)
  · have HB0 := hid h0
    clear h0
    obtain ⟨HG0, hpq⟩ := rsB_t HB0.out
    obtain ⟨p1, p8, q1, q8⟩ : 1 ≤ p ∧ p ≤ 8 ∧ 1 ≤ q ∧ q ≤ 8 := by omega
    obtain ⟨P, rfl⟩ : ∃ P : Nat, p = P := ⟨p.toNat, by omega⟩
    obtain ⟨Q, rfl⟩ : ∃ Q : Nat, q = Q := ⟨q.toNat, by omega⟩
    have P1 : 1 ≤ P := by omega
    have P8 : P ≤ 8 := by omega
    have Q1 : 1 ≤ Q := by omega
    have Q8 : Q ≤ 8 := by omega
    have HG := hid HG0
    clear HG0 hpq p1 p8 q1 q8
    obtain ⟨a, n, cap, rfl, hn, hrd⟩ := HS.out.rd
    have Hn := hid hn
    have Hrd := hid hrd
    have hn64 : n ≤ 64 := by rw [hn]; exact HG.out.1
    clear hn hrd
    obtain ⟨L, hL0⟩ : ∃ L, L = lenN n P Q := ⟨_, rfl⟩
    have hL5 : L ≤ 512 := by rw [hL0]; exact lenN_512 hn64 P8 Q1
    have HL := hid hL0
    clear hL0
    obtain ⟨i0, hi0, hz0, hz1, hz2⟩ := info_parts iint
    go_enter Try.func8, Try.ntmps8
    go_wp2_with fail
    refine (rsGood_is _ s _ _ true _ HS.out HB0.out).mono ?_
    rintro e w' ⟨rfl, rfl⟩
    go_wp2_with fail
    go_loopw [8, 9] (fun v i wr => ∃ k : Nat, k ≤ L ∧ i = .int .i64 (k : Int) ∧ wr.ownsRow w.heap.size 3 1 v k ((tab k (holdF s P Q)).map (Value.int .i64)) ∧ Below w.heap.size w wr)
      (fun _ i _ => L - (intOf i).toNat)
    case atStart => exact ⟨0, by omega, rfl, World.ownsRow_nil _ _ _ _, Below.refl _ _⟩
    case round =>
      obtain ⟨k, hk, rfl, hown, hb⟩ := hrel
      have hsz : w.heap.size ≤ wr.heap.size := hb.size
      by_cases hlk : k < L
      · obtain ⟨m, z, r, hm4, hzn, hrp, hmi, hd, hr, hz0', hr0⟩ := src_parts P1 P8 Q1 Q8 hn64 (by rw [← HL.out]; exact hlk)
        have hst := tab_step k (holdF s P Q)
        have b1 : -9223372036854775808 ≤ (m : Int) ∧ (m : Int) ≤ 9223372036854775807 := by clear hmi hd hr hz0' hr0; omega
        have e1 : ∀ [Inhabited Unit], wrap64 ((k : Int) * (Q : Int)) = (m : Int) := by rw [hmi]; exact IntWalk.wrap64_in _ b1
        have e2 : ∀ [Inhabited Unit], IntKind.i64.wrap ((k : Int) * (Q : Int)) = (m : Int) := by rw [hmi]; exact IntWalk.i64_in _ b1
        have hp0 : ((P : Int) == 0) = false := by rw [beq_eq_false_iff_ne]; clear hmi hd hr hz0' hr0 e1 e2; omega
        have hp1 : (1 : Int) ≤ (P : Int) := by clear hmi hd hr hz0' hr0 e1 e2; omega
        clear hmi b1
        obtain ⟨x, hkx⟩ := get_lt s z (by rw [← Hn.out]; exact hzn)
        obtain ⟨bb, oo, hix, hbb, hce⟩ := (Hrd.out.kept hb).at (P := Try.prog) (T := 22) n cap uslice sone hkx hzn
        have hval : holdF s P Q k = x := by unfold holdF; rw [← hz0']; exact at0_of hkx
        clear hkx
        rw [hval] at hst
        generalize hys : tab k (holdF s P Q) = ys at hst hown
        have Hob := hid (ownsRow_base hown)
        have Hst := hid hst
        have Hown := hid hown
        clear hst hown hys hz0' hr0 hval
        go_wp2_with fail
        refine (rsLength_any n P Q _ hn64 P8 Q1 Q8).mono ?_
        rintro e w' ⟨rfl, rfl⟩
        rw [← HL.out]
        go_wp2_with (at_builtin; refine wpList_append_own _ rfl _ _ 22 rfl w.heap.size 3 i0 (.int .i64 0) 1 8 uslice hi0 hz0 hz1 hz2 rfl (by decide) _ _ _ rfl (Hown.out.alloc _) ⟨wr.heap.size, 0, none⟩ 1 1 [.int .i64 (x)] rfl rfl ?c1 ?c2 ?c3 ?c4 ?c5 ?_)
        case c1 => exact cell_one_new _ _ _
        case c2 => intro u hu; simp at hu; subst hu; rfl
        case c3 => unfold maxLen; omega
        case c4 => omega
        case c5 => simp; omega
        intro v' w3 hown3 hgrow _
        have hb3 : Below w.heap.size w w3 := (hb.alloc hsz _).grown hgrow (by simp; omega) (fun j hj => Hob.out j hj)
        have Hown3 := hid hown3
        clear hown3 hgrow
        go_wp2
        go_roundw
        case rel => exact ⟨k + 1, by omega, by go_num, by rw [Hst.out, List.map_append]; exact Hown3.out, hb3⟩
        case measure => simp [intOf]; omega
      · have hge : (L : Int) ≤ (k : Int) := by omega
        have hkn : k = L := by omega
        have Hk := hid hkn
        have Hown := hid hown
        clear hkn hlk hown
        go_wp2_with fail
        refine (rsLength_any n P Q _ hn64 P8 Q1 Q8).mono ?_
        rintro e w' ⟨rfl, rfl⟩
        rw [← HL.out]
        have ho := Hown.out
        rw [Hk.out] at ho
        have R : Res 3 w.heap.size wr _ (tab L (holdF s P Q)) := Res.owns (by rw [tab_len]; exact ho)
        rw [HL.out, Hn.out] at R
        have HR := hid R
        clear R ho
        go_wp2_with fail
        refine (wdIf_is _ _ (sigB (rsL (holdF s) s.length (P : Int) (Q : Int))) _ HR.out.sl rfl).mono ?_
        rintro e w' ⟨rfl, rfl⟩
        go_wp2_with fail
        go_ret2
        exact gives_if (rsO_y HB0.out) HR.out hb


set_option maxHeartbeats 2000000 in
theorem spec_NearSamples_any (v : Value) (s : List Int) (p q : Int) (w : World) (hs : Sl w v s) :
    Calls Try.prog 14 #[v, .int .i64 p, .int .i64 q] w (Gives w (onL (rsO (nearF s) s p q) (rsL (nearF s) s.length p q)) (rsO (nearF s) s p q)) := by
  have HS := hid hs
  clear hs
  cases h0 : rsB s p q
  · have HB0 := hid h0
    clear h0
    go_enter Try.func14, Try.ntmps14
    go_wp2_with fail
    refine (rsGood_is _ s _ _ false _ HS.out HB0.out).mono ?_
    rintro e w' ⟨rfl, rfl⟩
    go_wp2_with fail
    go_ret2
    exact gives_no (rsO_n HB0.out) (Below.refl _ _)
  · have HB0 := hid h0
    clear h0
    obtain ⟨HG0, hpq⟩ := rsB_t HB0.out
    obtain ⟨p1, p8, q1, q8⟩ : 1 ≤ p ∧ p ≤ 8 ∧ 1 ≤ q ∧ q ≤ 8 := by omega
    obtain ⟨P, rfl⟩ : ∃ P : Nat, p = P := ⟨p.toNat, by omega⟩
    obtain ⟨Q, rfl⟩ : ∃ Q : Nat, q = Q := ⟨q.toNat, by omega⟩
    have P1 : 1 ≤ P := by omega
    have P8 : P ≤ 8 := by omega
    have Q1 : 1 ≤ Q := by omega
    have Q8 : Q ≤ 8 := by omega
    have HG := hid HG0
    clear HG0 hpq p1 p8 q1 q8
    obtain ⟨a, n, cap, rfl, hn, hrd⟩ := HS.out.rd
    have Hn := hid hn
    have Hrd := hid hrd
    have hn64 : n ≤ 64 := by rw [hn]; exact HG.out.1
    clear hn hrd
    obtain ⟨L, hL0⟩ : ∃ L, L = lenN n P Q := ⟨_, rfl⟩
    have hL5 : L ≤ 512 := by rw [hL0]; exact lenN_512 hn64 P8 Q1
    have HL := hid hL0
    clear hL0
    obtain ⟨i0, hi0, hz0, hz1, hz2⟩ := info_parts iint
    go_enter Try.func14, Try.ntmps14
    go_wp2_with fail
    refine (rsGood_is _ s _ _ true _ HS.out HB0.out).mono ?_
    rintro e w' ⟨rfl, rfl⟩
    go_wp2_with fail
    go_loopw [8, 9] (fun v i wr => ∃ k : Nat, k ≤ L ∧ i = .int .i64 (k : Int) ∧ wr.ownsRow w.heap.size 3 1 v k ((tab k (nearF s P Q)).map (Value.int .i64)) ∧ Below w.heap.size w wr)
      (fun _ i _ => L - (intOf i).toNat)
    case atStart => exact ⟨0, by omega, rfl, World.ownsRow_nil _ _ _ _, Below.refl _ _⟩
    case round =>
      obtain ⟨k, hk, rfl, hown, hb⟩ := hrel
      have hsz : w.heap.size ≤ wr.heap.size := hb.size
      by_cases hlk : k < L
      · obtain ⟨m, z, r, hm4, hzn, hrp, hmi, hd, hr, hz0', hr0⟩ := src_parts P1 P8 Q1 Q8 hn64 (by rw [← HL.out]; exact hlk)
        have hst := tab_step k (nearF s P Q)
        have b1 : -9223372036854775808 ≤ (m : Int) ∧ (m : Int) ≤ 9223372036854775807 := by clear hmi hd hr hz0' hr0; omega
        have e1 : ∀ [Inhabited Unit], wrap64 ((k : Int) * (Q : Int)) = (m : Int) := by rw [hmi]; exact IntWalk.wrap64_in _ b1
        have e2 : ∀ [Inhabited Unit], IntKind.i64.wrap ((k : Int) * (Q : Int)) = (m : Int) := by rw [hmi]; exact IntWalk.i64_in _ b1
        have hp0 : ((P : Int) == 0) = false := by rw [beq_eq_false_iff_ne]; clear hmi hd hr hz0' hr0 e1 e2; omega
        have hp1 : (1 : Int) ≤ (P : Int) := by clear hmi hd hr hz0' hr0 e1 e2; omega
        clear hmi b1
        obtain ⟨zz, hzz⟩ : ∃ zz, zz = (if 2 * r < P then z else nextN n z) := ⟨_, rfl⟩
        have hzn2 : zz < n := by rw [hzz]; split; exact hzn; exact nextN_lt hzn
        obtain ⟨x, hkx⟩ := get_lt s zz (by rw [← Hn.out]; exact hzn2)
        obtain ⟨bb, oo, hix, hbb, hce⟩ := (Hrd.out.kept hb).at (P := Try.prog) (T := 22) n cap uslice sone hkx hzn2
        have hval : nearF s P Q k = x := by
          unfold nearF nearN
          rw [← hz0', ← hr0, ← Hn.out, ← hzz]; exact at0_of hkx
        clear hkx
        rw [hval] at hst
        generalize hys : tab k (nearF s P Q) = ys at hst hown
        have Hob := hid (ownsRow_base hown)
        have Hst := hid hst
        have Hown := hid hown
        clear hst hown hys hz0' hr0 hval
        have hm0 : (0 : Int) ≤ (m : Int) := by clear hd hr e1 e2; omega
        have r8 : r ≤ 8 := by clear hd hr e1 e2; omega
        have z64 : z ≤ 64 := by clear hd hr e1 e2; omega
        have b5 : -9223372036854775808 ≤ (r : Int) ∧ (r : Int) ≤ 9223372036854775807 := by clear hd hr e1 e2; omega
        have b6 : -9223372036854775808 ≤ (z : Int) ∧ (z : Int) ≤ 9223372036854775807 := by clear hd hr e1 e2; omega
        have ht : (m : Int).tmod (P : Int) = (r : Int) := by rw [← hr]; exact Int.tmod_eq_emod_of_nonneg hm0
        have hq : (m : Int).tdiv (P : Int) = (z : Int) := by rw [← hd]; exact Int.tdiv_eq_ediv_of_nonneg hm0
        have kk3 : ∀ [Inhabited Unit], IntKind.i64.wrap ((m : Int).tmod (P : Int)) = (r : Int) := by rw [ht]; exact IntWalk.i64_in _ b5
        have kk5 : ∀ [Inhabited Unit], IntKind.i64.wrap ((m : Int).tdiv (P : Int)) = (z : Int) := by rw [hq]; exact IntWalk.i64_in _ b6
        have kk7 : ∀ [Inhabited Unit], (m : Int) / (P : Int) = (z : Int) := hd
        have kk8 : ∀ [Inhabited Unit], (m : Int) % (P : Int) = (r : Int) := hr
        clear ht hq hd hr b5 b6
        by_cases d1 : 2 * r < P
        · have hzz2 : zz = z := by rw [hzz, if_pos d1]
          rw [hzz2] at hix
          have f1 : 2 * (r : Int) < (P : Int) := by clear e1 e2 kk3 kk5 kk7 kk8; omega
          clear hzz hzz2 hzn2 hzn hrp
          go_wp2_with fail
          refine (rsLength_any n P Q _ hn64 P8 Q1 Q8).mono ?_
          rintro e w' ⟨rfl, rfl⟩
          rw [← HL.out]
          go_upto_region 10 with fail
          go_wp2_with (at_builtin; refine wpList_append_own _ rfl _ _ 22 rfl w.heap.size 3 i0 (.int .i64 0) 1 8 uslice hi0 hz0 hz1 hz2 rfl (by decide) _ _ _ rfl (Hown.out.alloc _) ⟨wr.heap.size, 0, none⟩ 1 1 [.int .i64 (x)] rfl rfl (cell_one_new _ _ _) (by intro u hu; simp at hu; subst hu; rfl) (by unfold maxLen; omega) (by omega) (by simp; omega) ?_; intro v' w3 hown3 hgrow _; have hb3 : Below w.heap.size w w3 := (hb.alloc hsz _).grown hgrow (by simp; omega) (fun j hj => Hob.out j hj); have Hown3 := hid hown3; clear hown3 hgrow)
          go_roundw
          case rel => exact ⟨k + 1, by omega, by go_num, by rw [Hst.out, List.map_append]; exact Hown3.out, hb3⟩
          case measure => simp [intOf]; omega
        · have f1 : (P : Int) ≤ 2 * (r : Int) := by clear e1 e2 kk3 kk5 kk7 kk8; omega
          by_cases d2 : z + 1 < n
          · have hzz2 : ((zz : Nat) : Int) = (z : Int) + 1 := by rw [hzz, if_neg d1]; unfold nextN; rw [if_pos d2]; rfl
            rw [hzz2] at hix
            have f2 : (z : Int) + 1 < (n : Int) := by clear e1 e2 kk3 kk5 kk7 kk8; omega
            clear hzz hzz2 hzn2 hzn hrp
            go_wp2_with fail
            refine (rsLength_any n P Q _ hn64 P8 Q1 Q8).mono ?_
            rintro e w' ⟨rfl, rfl⟩
            rw [← HL.out]
            go_upto_region 10 with fail
            go_wp2_with (at_builtin; refine wpList_append_own _ rfl _ _ 22 rfl w.heap.size 3 i0 (.int .i64 0) 1 8 uslice hi0 hz0 hz1 hz2 rfl (by decide) _ _ _ rfl (Hown.out.alloc _) ⟨wr.heap.size, 0, none⟩ 1 1 [.int .i64 (x)] rfl rfl (cell_one_new _ _ _) (by intro u hu; simp at hu; subst hu; rfl) (by unfold maxLen; omega) (by omega) (by simp; omega) ?_; intro v' w3 hown3 hgrow _; have hb3 : Below w.heap.size w w3 := (hb.alloc hsz _).grown hgrow (by simp; omega) (fun j hj => Hob.out j hj); have Hown3 := hid hown3; clear hown3 hgrow)
            go_roundw
            case rel => exact ⟨k + 1, by omega, by go_num, by rw [Hst.out, List.map_append]; exact Hown3.out, hb3⟩
            case measure => simp [intOf]; omega
          · have hzz2 : zz = z := by rw [hzz, if_neg d1]; unfold nextN; rw [if_neg d2]
            rw [hzz2] at hix
            have f2 : (n : Int) ≤ (z : Int) + 1 := by clear e1 e2 kk3 kk5 kk7 kk8; omega
            clear hzz hzz2 hzn2 hzn hrp
            go_wp2_with fail
            refine (rsLength_any n P Q _ hn64 P8 Q1 Q8).mono ?_
            rintro e w' ⟨rfl, rfl⟩
            rw [← HL.out]
            go_upto_region 10 with fail
            go_wp2_with (at_builtin; refine wpList_append_own _ rfl _ _ 22 rfl w.heap.size 3 i0 (.int .i64 0) 1 8 uslice hi0 hz0 hz1 hz2 rfl (by decide) _ _ _ rfl (Hown.out.alloc _) ⟨wr.heap.size, 0, none⟩ 1 1 [.int .i64 (x)] rfl rfl (cell_one_new _ _ _) (by intro u hu; simp at hu; subst hu; rfl) (by unfold maxLen; omega) (by omega) (by simp; omega) ?_; intro v' w3 hown3 hgrow _; have hb3 : Below w.heap.size w w3 := (hb.alloc hsz _).grown hgrow (by simp; omega) (fun j hj => Hob.out j hj); have Hown3 := hid hown3; clear hown3 hgrow)
            go_roundw
            case rel => exact ⟨k + 1, by omega, by go_num, by rw [Hst.out, List.map_append]; exact Hown3.out, hb3⟩
            case measure => simp [intOf]; omega
      · have hge : (L : Int) ≤ (k : Int) := by omega
        have hkn : k = L := by omega
        have Hk := hid hkn
        have Hown := hid hown
        clear hkn hlk hown
        go_wp2_with fail
        refine (rsLength_any n P Q _ hn64 P8 Q1 Q8).mono ?_
        rintro e w' ⟨rfl, rfl⟩
        rw [← HL.out]
        have ho := Hown.out
        rw [Hk.out] at ho
        have R : Res 3 w.heap.size wr _ (tab L (nearF s P Q)) := Res.owns (by rw [tab_len]; exact ho)
        rw [HL.out, Hn.out] at R
        have HR := hid R
        clear R ho
        go_wp2_with fail
        refine (wdIf_is _ _ (sigB (rsL (nearF s) s.length (P : Int) (Q : Int))) _ HR.out.sl rfl).mono ?_
        rintro e w' ⟨rfl, rfl⟩
        go_wp2_with fail
        go_ret2
        exact gives_if (rsO_y HB0.out) HR.out hb


set_option maxHeartbeats 2000000 in
theorem rsLine_any (v : Value) (s : List Int) (P Q : Nat) (w : World) (hs : Sl w v s) (hg : SigP s) (P1 : 1 ≤ P) (P8 : P ≤ 8) (Q1 : 1 ≤ Q) (Q8 : Q ≤ 8) :
    Calls Try.prog 35 #[v, .int .i64 (P : Int), .int .i64 (Q : Int)] w (GivesL w (rsL (lineF s) s.length (P : Int) (Q : Int))) := by
  have HS := hid hs
  have HG := hid hg
  clear hs hg
  obtain ⟨a, n, cap, rfl, hn, hrd⟩ := HS.out.rd
  have Hn := hid hn
  have Hrd := hid hrd
  have hn64 : n ≤ 64 := by rw [hn]; exact HG.out.1
  clear hn hrd
  obtain ⟨L, hL0⟩ : ∃ L, L = lenN n P Q := ⟨_, rfl⟩
  have hL5 : L ≤ 512 := by rw [hL0]; exact lenN_512 hn64 P8 Q1
  have HL := hid hL0
  clear hL0
  obtain ⟨i0, hi0, hz0, hz1, hz2⟩ := info_parts iint
  go_enter Try.func35, Try.ntmps35
  go_wp2_with fail
  go_loopw [7, 8] (fun v i wr => ∃ k : Nat, k ≤ L ∧ i = .int .i64 (k : Int) ∧ wr.ownsRow w.heap.size 3 1 v k ((tab k (lineF s P Q)).map (Value.int .i64)) ∧ Below w.heap.size w wr)
    (fun _ i _ => L - (intOf i).toNat)
  case atStart => exact ⟨0, by omega, rfl, World.ownsRow_nil _ _ _ _, Below.refl _ _⟩
  case round =>
    obtain ⟨k, hk, rfl, hown, hb⟩ := hrel
    have hsz : w.heap.size ≤ wr.heap.size := hb.size
    by_cases hlk : k < L
    · obtain ⟨m, z, r, hm4, hzn, hrp, hmi, hd, hr, hz0', hr0⟩ := src_parts P1 P8 Q1 Q8 hn64 (by rw [← HL.out]; exact hlk)
      have hst := tab_step k (lineF s P Q)
      have b1 : -9223372036854775808 ≤ (m : Int) ∧ (m : Int) ≤ 9223372036854775807 := by clear hmi hd hr hz0' hr0; omega
      have e1 : ∀ [Inhabited Unit], wrap64 ((k : Int) * (Q : Int)) = (m : Int) := by rw [hmi]; exact IntWalk.wrap64_in _ b1
      have e2 : ∀ [Inhabited Unit], IntKind.i64.wrap ((k : Int) * (Q : Int)) = (m : Int) := by rw [hmi]; exact IntWalk.i64_in _ b1
      have hp0 : ((P : Int) == 0) = false := by rw [beq_eq_false_iff_ne]; clear hmi hd hr hz0' hr0 e1 e2; omega
      have hp1 : (1 : Int) ≤ (P : Int) := by clear hmi hd hr hz0' hr0 e1 e2; omega
      clear hmi b1
      obtain ⟨x, hkx⟩ := get_lt s z (by rw [← Hn.out]; exact hzn)
      have hzn2 : nextN n z < n := nextN_lt hzn
      obtain ⟨y, hky⟩ := get_lt s (nextN n z) (by rw [← Hn.out]; exact hzn2)
      have hval : lineF s P Q k = ((P : Int) - (r : Int)) * x + (r : Int) * y := by
        unfold lineF
        rw [← hz0', ← hr0, at0_of hkx, ← Hn.out, at0_of hky]
      obtain ⟨x1, x2⟩ := HG.out.2.at hkx
      obtain ⟨y1, y2⟩ := HG.out.2.at hky
      obtain ⟨⟨m1, m2⟩, ⟨m3, m4⟩⟩ := line_in P8 hrp x1 x2 y1 y2
      have e3 : ∀ [Inhabited Unit], IntKind.i64.wrap (((P : Int) - (r : Int)) * x) = ((P : Int) - (r : Int)) * x := IntWalk.i64_in _ ⟨Int.le_trans (by decide) m1, Int.le_trans m2 (by decide)⟩
      have e4 : ∀ [Inhabited Unit], IntKind.i64.wrap ((r : Int) * y) = (r : Int) * y := IntWalk.i64_in _ ⟨Int.le_trans (by decide) m3, Int.le_trans m4 (by decide)⟩
      have e5 : ∀ [Inhabited Unit], IntKind.i64.wrap (((P : Int) - (r : Int)) * x + (r : Int) * y) = ((P : Int) - (r : Int)) * x + (r : Int) * y := IntWalk.i64_in _ ⟨Int.le_trans (by decide) (Int.add_le_add m1 m3), Int.le_trans (Int.add_le_add m2 m4) (by decide)⟩
      have b7 : -9223372036854775808 ≤ (P : Int) - (r : Int) ∧ (P : Int) - (r : Int) ≤ 9223372036854775807 := by clear hd hr e1 e2 e3 e4 e5 x1 x2 y1 y2 m1 m2 m3 m4; omega
      have e6 : ∀ [Inhabited Unit], IntKind.i64.wrap ((P : Int) - (r : Int)) = (P : Int) - (r : Int) := IntWalk.i64_in _ b7
      clear b7
      have Hkx := hid hkx
      have Hky := hid hky
      clear hkx hky m1 m2 m3 m4 x1 x2 y1 y2
      rw [hval] at hst
      generalize hys : tab k (lineF s P Q) = ys at hst hown
      have Hob := hid (ownsRow_base hown)
      have Hst := hid hst
      have Hown := hid hown
      clear hst hown hys hz0' hr0 hval
      have hm0 : (0 : Int) ≤ (m : Int) := by clear hd hr e1 e2; omega
      have r8 : r ≤ 8 := by clear hd hr e1 e2; omega
      have z64 : z ≤ 64 := by clear hd hr e1 e2; omega
      have b5 : -9223372036854775808 ≤ (r : Int) ∧ (r : Int) ≤ 9223372036854775807 := by clear hd hr e1 e2; omega
      have b6 : -9223372036854775808 ≤ (z : Int) ∧ (z : Int) ≤ 9223372036854775807 := by clear hd hr e1 e2; omega
      have ht : (m : Int).tmod (P : Int) = (r : Int) := by rw [← hr]; exact Int.tmod_eq_emod_of_nonneg hm0
      have hq : (m : Int).tdiv (P : Int) = (z : Int) := by rw [← hd]; exact Int.tdiv_eq_ediv_of_nonneg hm0
      have kk3 : ∀ [Inhabited Unit], IntKind.i64.wrap ((m : Int).tmod (P : Int)) = (r : Int) := by rw [ht]; exact IntWalk.i64_in _ b5
      have kk5 : ∀ [Inhabited Unit], IntKind.i64.wrap ((m : Int).tdiv (P : Int)) = (z : Int) := by rw [hq]; exact IntWalk.i64_in _ b6
      have kk7 : ∀ [Inhabited Unit], (m : Int) / (P : Int) = (z : Int) := hd
      have kk8 : ∀ [Inhabited Unit], (m : Int) % (P : Int) = (r : Int) := hr
      clear ht hq hd hr b5 b6
      go_wp2_with fail
      refine (rsLength_any n P Q _ hn64 P8 Q1 Q8).mono ?_
      rintro e w' ⟨rfl, rfl⟩
      rw [← HL.out]
      go_wp2_with fail
      go_quiet (fail)
      have hb2 : Below w.heap.size w (wr.drewN nq) := below_drewN hb nq
      have Hown2 := hid (ownsRow_below Hown.out (bel_drewN wr nq))
      generalize wr.drewN nq = w2 at *
      have hsz2 : w.heap.size ≤ w2.heap.size := hb2.size
      obtain ⟨bb, oo, hix, hbb, hce⟩ := (Hrd.out.kept hb2).at (P := Try.prog) (T := 22) n cap uslice sone Hkx.out hzn
      by_cases d2 : z + 1 < n
      · obtain ⟨b2, o2, hix2, hbb2, hce2⟩ := (Hrd.out.kept hb2).at (P := Try.prog) (T := 22) n cap uslice sone Hky.out hzn2
        have hzz2 : ((nextN n z : Nat) : Int) = (z : Int) + 1 := by unfold nextN; rw [if_pos d2]; rfl
        rw [hzz2] at hix2
        have f2 : (z : Int) + 1 < (n : Int) := by clear e1 e2 e3 e4 e5 e6 kk3 kk5 kk7 kk8; omega
        clear hzz2 hzn2 hrp
        go_upto_region 9 with fail
        go_region_law (first | (refine step_append_own rfl _ _ 22 rfl w.heap.size 3 i0 (.int .i64 0) 1 8 uslice hi0 hz0 hz1 hz2 rfl (by decide) _ _ _ rfl ((ownsRow_below Hown2.out (Below.refl _ _).drew).alloc _) ⟨w2.heap.size, 0, none⟩ 1 1 [.int .i64 (((P : Int) - (r : Int)) * x + (r : Int) * y)] rfl rfl (cell_one_new _ _ _) (by intro u hu; simp at hu; subst hu; rfl) (by unfold maxLen; omega) (by omega) (by simp; omega) ?_; intro v' w3 hown3 hgrow _; have hb3 : Below w.heap.size w w3 := ((hb2.drew).alloc hsz2 _).grown hgrow (by simp; omega) (fun j hj => Hob.out j hj); have Hown3 := hid hown3; clear hown3 hgrow))
        all_goals go_wp2
        all_goals go_roundw
        all_goals first | exact ⟨k + 1, by omega, by go_num, by rw [Hst.out, List.map_append]; exact Hown3.out, hb3⟩ | (simp [intOf]; omega)
      · have hzz2 : nextN n z = z := by unfold nextN; rw [if_neg d2]
        have hyx : y = x := by have h1 := Hkx.out; have h2 := Hky.out; rw [hzz2, h1] at h2; exact (Option.some.inj h2).symm
        subst hyx
        have f2 : (n : Int) ≤ (z : Int) + 1 := by clear e1 e2 e3 e4 e5 e6 kk3 kk5 kk7 kk8; omega
        clear hzz2 hzn2 hrp
        go_upto_region 9 with fail
        go_region_law (first | (refine step_append_own rfl _ _ 22 rfl w.heap.size 3 i0 (.int .i64 0) 1 8 uslice hi0 hz0 hz1 hz2 rfl (by decide) _ _ _ rfl ((ownsRow_below Hown2.out (Below.refl _ _).drew).alloc _) ⟨w2.heap.size, 0, none⟩ 1 1 [.int .i64 (((P : Int) - (r : Int)) * y + (r : Int) * y)] rfl rfl (cell_one_new _ _ _) (by intro u hu; simp at hu; subst hu; rfl) (by unfold maxLen; omega) (by omega) (by simp; omega) ?_; intro v' w3 hown3 hgrow _; have hb3 : Below w.heap.size w w3 := ((hb2.drew).alloc hsz2 _).grown hgrow (by simp; omega) (fun j hj => Hob.out j hj); have Hown3 := hid hown3; clear hown3 hgrow))
        all_goals go_wp2
        all_goals go_roundw
        all_goals first | exact ⟨k + 1, by omega, by go_num, by rw [Hst.out, List.map_append]; exact Hown3.out, hb3⟩ | (simp [intOf]; omega)
    · have hge : (L : Int) ≤ (k : Int) := by omega
      have hkn : k = L := by omega
      have Hk := hid hkn
      have Hown := hid hown
      clear hkn hlk hown
      go_wp2_with fail
      refine (rsLength_any n P Q _ hn64 P8 Q1 Q8).mono ?_
      rintro e w' ⟨rfl, rfl⟩
      rw [← HL.out]
      go_wp2
      go_ret
      have ho := Hown.out
      rw [Hk.out] at ho
      have R : Res 3 w.heap.size wr _ (tab L (lineF s P Q)) := Res.owns (by rw [tab_len]; exact ho)
      rw [HL.out, Hn.out] at R
      exact ⟨_, rfl, R, hb⟩


set_option maxHeartbeats 1000000 in
theorem spec_LineSamples_any (v : Value) (s : List Int) (p q : Int) (w : World) (hs : Sl w v s) :
    Calls Try.prog 16 #[v, .int .i64 p, .int .i64 q] w (Gives w (onL (rsO (lineF s) s p q) (rsL (lineF s) s.length p q)) (rsO (lineF s) s p q)) := by
  have HS := hid hs
  clear hs
  cases h0 : rsB s p q
  · have HB0 := hid h0
    clear h0
    go_enter Try.func16, Try.ntmps16
    go_wp2_with fail
    refine (rsGood_is _ s _ _ false _ HS.out HB0.out).mono ?_
    rintro e w' ⟨rfl, rfl⟩
    go_wp2_with fail
    go_ret2
    exact gives_no (rsO_n HB0.out) (Below.refl _ _)
  · have HB0 := hid h0
    clear h0
    obtain ⟨HG0, hpq⟩ := rsB_t HB0.out
    obtain ⟨p1, p8, q1, q8⟩ : 1 ≤ p ∧ p ≤ 8 ∧ 1 ≤ q ∧ q ≤ 8 := by omega
    obtain ⟨P, rfl⟩ : ∃ P : Nat, p = P := ⟨p.toNat, by omega⟩
    obtain ⟨Q, rfl⟩ : ∃ Q : Nat, q = Q := ⟨q.toNat, by omega⟩
    have P1 : 1 ≤ P := by omega
    have P8 : P ≤ 8 := by omega
    have Q1 : 1 ≤ Q := by omega
    have Q8 : Q ≤ 8 := by omega
    have HG := hid HG0
    clear HG0 hpq p1 p8 q1 q8
    go_enter Try.func16, Try.ntmps16
    go_wp2_with fail
    refine (rsGood_is _ s _ _ true _ HS.out HB0.out).mono ?_
    rintro e w' ⟨rfl, rfl⟩
    go_wp2_with fail
    refine (rsLine_any _ s P Q _ HS.out HG.out P1 P8 Q1 Q8).mono ?_
    rintro e w1 ⟨v_R, rfl, R, hb⟩
    have B1 := hb
    go_wp2_with fail
    refine (wdIf_is _ _ (sigB (rsL (lineF s) s.length (P : Int) (Q : Int))) _ R.sl rfl).mono ?_
    rintro e w' ⟨rfl, rfl⟩
    go_wp2_with fail
    go_ret2
    exact gives_if (rsO_y HB0.out) R B1


set_option maxHeartbeats 1000000 in
theorem spec_LinesOfSame_any (v : Value) (s : List Int) (p : Int) (w : World) (hs : Sl w v s) :
    Calls Try.prog 18 #[v, .int .i64 p] w (Gives w (onL (rsO (lineF s) s p 1) (rsL (lineF s) s.length p 1)) (rsO (lineF s) s p 1)) := by
  have HS := hid hs
  clear hs
  cases h0 : rsB s p 1
  · have HB0 := hid h0
    clear h0
    go_enter Try.func18, Try.ntmps18
    go_wp2_with fail
    refine (rsGood_is _ s _ _ false _ HS.out HB0.out).mono ?_
    rintro e w' ⟨rfl, rfl⟩
    go_wp2_with fail
    go_ret2
    exact gives_no (rsO_n HB0.out) (Below.refl _ _)
  · have HB0 := hid h0
    clear h0
    obtain ⟨HG0, hpq⟩ := rsB_t HB0.out
    obtain ⟨p1, p8⟩ : 1 ≤ p ∧ p ≤ 8 := by omega
    obtain ⟨P, rfl⟩ : ∃ P : Nat, p = P := ⟨p.toNat, by omega⟩
    have P1 : 1 ≤ P := by omega
    have P8 : P ≤ 8 := by omega
    have HG := hid HG0
    clear HG0 hpq p1 p8
    go_enter Try.func18, Try.ntmps18
    go_wp2_with fail
    refine (rsGood_is _ s _ _ true _ HS.out HB0.out).mono ?_
    rintro e w' ⟨rfl, rfl⟩
    go_wp2_with fail
    refine (rsLine_any _ s P 1 _ HS.out HG.out P1 P8 (by omega) (by omega)).mono ?_
    rintro e w1 ⟨v_R, rfl, R, hb⟩
    have B1 := hb
    go_wp2_with fail
    refine (wdIf_is _ _ (sigB (rsL (lineF s) s.length (P : Int) 1)) _ R.sl rfl).mono ?_
    rintro e w' ⟨rfl, rfl⟩
    go_wp2_with fail
    go_ret2
    exact gives_if (rsO_y HB0.out) R B1


set_option maxHeartbeats 1600000 in
theorem gen_FnExactHoldSamples (s : List Int) (p : Int) (q : Int) (u_s : Option Addr) (l_s c_s : Nat) (ys : List Int) (ok : Bool) (w : World) (hs_s : Sl w (.slice u_s l_s c_s) s) (ll_s : l_s ≤ 1048576) (hl_s : s.length ≤ 1048576) (hy : ys.length ≤ 2000000) (hspec : ∀ (w : World) (v_s : Value), Sl w v_s s → Calls Try.prog 8 #[v_s, .int .i64 p, .int .i64 q] w (Gives w ys ok)) (himpl : ∀ (w : World) (v_s : Value), Sl w v_s s → Calls Try.prog 10 #[v_s, .int .i64 p, .int .i64 q] w (Gives w ys ok)) :
    Calls Try.prog 3 #[.slice u_s l_s c_s, .int .i64 p, .int .i64 q] w fun e w' => e = .returned (.bool true) ∧ Below w.heap.size w w' := by
  have HSs := hid hs_s
  clear hs_s
  have HSP := hid hspec
  have HIM := hid himpl
  clear hspec himpl
  all_goals cases ok
  all_goals
    go_enter Try.func3, Try.ntmps3
    go_wp2_with fail
    refine (toIntS_any _ s _ HSs.out (by omega)).mono ?_
    rintro e w1 ⟨g_As0, hg_As0, rfl, K_As0, hb⟩
    have B1 := hb
    have hz1 : w.heap.size ≤ w1.heap.size := by first | exact hb.size | (have := hb.size; simp at this; omega)
    have As0 := K_As0.res hg_As0
    go_wp2_with fail
    refine (HSP.out _ _ As0.sl).mono ?_
    rintro e w2 ⟨v_R0, rfl, R0, hb⟩
    have B2 := bel_step B1 hb
    have hz2 : w1.heap.size ≤ w2.heap.size := hb.size
    have As0_2 := As0.kept hb
    have hlt0 : ∀ g, v_R0.ownBlock = some g → g < w2.heap.size := fun g hg => R0.lt hg
    have Hlt0 := hid hlt0
    clear hlt0
    go_wp2_with fail
    refine (toIntS_any _ s _ (HSs.out.kept B2) (by omega)).mono ?_
    rintro e w3 ⟨g_Xs, hg_Xs, rfl, K_Xs, hb⟩
    have B3 := bel_step B2 hb
    have hz3 : w2.heap.size ≤ w3.heap.size := hb.size
    have R0_3 := R0.kept hb
    have Xs := K_Xs.res hg_Xs
    have hlt_Xs := K_Xs.lt
    have hne_Xs : ∀ g, v_R0.ownBlock = some g → g ≠ g_Xs := fun g hg => by have a1 := Hlt0.out g hg; omega
    have Hne_Xs := hid hne_Xs
    clear hne_Xs
    have hxl_Xs : g_Xs < w3.heap.size := Xs.lt rfl
    go_wp2_with fail
    refine (HIM.out _ _ Xs.sl).mono ?_
    rintro e w4 ⟨v_R1, rfl, R1, hb⟩
    have B4 := bel_step B3 hb
    have hz4 : w3.heap.size ≤ w4.heap.size := hb.size
    have R0_4 := R0_3.kept hb
    have Xs_4 := Xs.kept hb
    have hne1_Xs : ∀ g, v_R1.ownBlock = some g → g ≠ g_Xs := fun g hg => by have a1 := R1.ge hg; omega
    have Hne1_Xs := hid hne1_Xs
    clear hne1_Xs
    have hne01 : ∀ g, v_R0.ownBlock = some g → v_R1.ownBlock ≠ some g := fun g hg e => by have a1 := R1.ge e; have a2 := Hlt0.out g hg; omega
    have Hne01 := hid hne01
    clear hne01
    have hge1 : ∀ g, v_R1.ownBlock = some g → w3.heap.size ≤ g := fun g hg => R1.ge hg
    have Hge1 := hid hge1
    clear hge1
    go_wp2_with fail
    refine (eqIntS_same _ _ ys _ R1.sl R0_4.sl hy).mono ?_
    rintro e w5 ⟨rfl, hb⟩
    have B5 := bel_step B4 hb
    have hz5 : w4.heap.size ≤ w5.heap.size := hb.size
    have R0_5 := R0_4.kept hb
    have Xs_5 := Xs_4.kept hb
    have R1_5 := R1.kept hb
    go_wp2_with fail
    refine (toIntS_any _ s _ (HSs.out.kept B5) (by omega)).mono ?_
    rintro e w6 ⟨g_TXs, hg_TXs, rfl, K_TXs, hb⟩
    have B6 := bel_step B5 hb
    have hz6 : w5.heap.size ≤ w6.heap.size := hb.size
    have R0_6 := R0_5.kept hb
    have Xs_6 := Xs_5.kept hb
    have R1_6 := R1_5.kept hb
    have TXs := K_TXs.res hg_TXs
    go_wp2_with fail
    refine (eqIntS_same _ _ s _ Xs_6.sl TXs.sl (by omega)).mono ?_
    rintro e w7 ⟨rfl, hb⟩
    have B7 := bel_step B6 hb
    have hz7 : w6.heap.size ≤ w7.heap.size := hb.size
    have R0_7 := R0_6.kept hb
    have Xs_7 := Xs_6.kept hb
    have R1_7 := R1_6.kept hb
    have TXs_7 := TXs.kept hb
    go_wp2_with fail
    refine (markIntS_one _ s _ _ Xs_7 (by omega)).mono ?_
    rintro e w8 ⟨rfl, ho, _⟩
    have B8 := B7.trans (ho.below fun g hg => by cases hg; exact Nat.le_trans B2.size hg_Xs)
    have hz8 : w7.heap.size ≤ w8.heap.size := Nat.le_of_eq ho.size.symm
    have R0_8 := R0_7.only ho fun g hg e => by cases e; exact Hne_Xs.out _ hg rfl
    have R1_8 := R1_7.only ho fun g hg e => by cases e; exact Hne1_Xs.out _ hg rfl
    go_wp2_with fail
    refine (eqIntS_same _ _ ys _ R1_8.sl R0_8.sl hy).mono ?_
    rintro e w9 ⟨rfl, hb⟩
    have B9 := bel_step B8 hb
    have hz9 : w8.heap.size ≤ w9.heap.size := hb.size
    have R0_9 := R0_8.kept hb
    have R1_9 := R1_8.kept hb
    go_wp2_with fail
    refine (markIntS_one _ ys _ _ R1_9 hy).mono ?_
    rintro e w10 ⟨rfl, ho, M⟩
    have B10 := B9.trans (ho.below fun g hg => Nat.le_trans B3.size (Hge1.out g hg))
    have hz10 : w9.heap.size ≤ w10.heap.size := Nat.le_of_eq ho.size.symm
    have R0_10 := R0_9.only ho Hne01.out
    go_wp2_with fail
    refine (heldIntS_one _ ys.length _ _ M hy).mono ?_
    rintro e w' ⟨rfl, rfl⟩
    go_wp2_with fail
    refine (toIntS_any _ s _ (HSs.out.kept B10) (by omega)).mono ?_
    rintro e w11 ⟨g_As10, hg_As10, rfl, K_As10, hb⟩
    have B11 := bel_step B10 hb
    have hz11 : w10.heap.size ≤ w11.heap.size := hb.size
    have R0_11 := R0_10.kept hb
    have M_11 := M.kept hb
    have As10 := K_As10.res hg_As10
    go_wp2_with fail
    refine (HIM.out _ _ As10.sl).mono ?_
    rintro e w12 ⟨v_R2, rfl, R2, hb⟩
    have B12 := bel_step B11 hb
    have hz12 : w11.heap.size ≤ w12.heap.size := hb.size
    have R0_12 := R0_11.kept hb
    have M_12 := M_11.kept hb
    have As10_12 := As10.kept hb
    go_wp2_with fail
    refine (eqIntS_same _ _ ys _ R2.sl R0_12.sl hy).mono ?_
    rintro e w13 ⟨rfl, hb⟩
    have B13 := bel_step B12 hb
    have hz13 : w12.heap.size ≤ w13.heap.size := hb.size
    have R0_13 := R0_12.kept hb
    have M_13 := M_12.kept hb
    have R2_13 := R2.kept hb
    go_wp2_with fail
    refine (heldIntS_one _ ys.length _ _ M_13 hy).mono ?_
    rintro e w' ⟨rfl, rfl⟩
    go_wp2_with fail
    go_ret
    exact ⟨rfl, B13⟩


set_option maxHeartbeats 1600000 in
theorem walk_FnExactHoldSamples (w : World) (u_s : Option Addr) (l_s c_s : Nat) (z_s : List Int) (hr_s : IsRow .i64 w u_s l_s c_s z_s) (p : Int) (w_p : (Lit.int .i64 p).wf = true) (q : Int) (w_q : (Lit.int .i64 q).wf = true) :
    Calls Try.prog 3 #[.slice u_s l_s c_s, .int .i64 p, .int .i64 q] w fun e w' => e = .returned (.bool true) ∧ Below w.heap.size w w' := by
  obtain ⟨hs_s, hlen_s, hin_s⟩ := hr_s.sl
  generalize z_s.take l_s = s at hs_s hlen_s hin_s
  clear hr_s
  obtain ⟨p_1, p_2⟩ := bounds_i64 w_p
  obtain ⟨q_1, q_2⟩ := bounds_i64 w_q
  by_cases hbig_s : 1048576 < l_s
  · clear hs_s hlen_s hin_s
    go_enter Try.func3, Try.ntmps3
    go_wp2
    go_ret
    exact ⟨rfl, Below.refl _ _⟩
  · have hq_s : l_s ≤ 1048576 := by omega
    exact gen_FnExactHoldSamples s p q _ _ _ _ _ w hs_s (by omega) (by omega) rsO_len (fun w v_s h_s => spec_HoldSamples_any v_s s p q w h_s) (fun w v_s h_s => impl_HoldSamples_any v_s s p q w h_s)


set_option maxHeartbeats 1600000 in
theorem gen_FnExactNearSamples (s : List Int) (p : Int) (q : Int) (u_s : Option Addr) (l_s c_s : Nat) (ys : List Int) (ok : Bool) (w : World) (hs_s : Sl w (.slice u_s l_s c_s) s) (ll_s : l_s ≤ 1048576) (hl_s : s.length ≤ 1048576) (hy : ys.length ≤ 2000000) (hspec : ∀ (w : World) (v_s : Value), Sl w v_s s → Calls Try.prog 14 #[v_s, .int .i64 p, .int .i64 q] w (Gives w ys ok)) (himpl : ∀ (w : World) (v_s : Value), Sl w v_s s → Calls Try.prog 15 #[v_s, .int .i64 p, .int .i64 q] w (Gives w ys ok)) :
    Calls Try.prog 4 #[.slice u_s l_s c_s, .int .i64 p, .int .i64 q] w fun e w' => e = .returned (.bool true) ∧ Below w.heap.size w w' := by
  have HSs := hid hs_s
  clear hs_s
  have HSP := hid hspec
  have HIM := hid himpl
  clear hspec himpl
  all_goals cases ok
  all_goals
    go_enter Try.func4, Try.ntmps4
    go_wp2_with fail
    refine (toIntS_any _ s _ HSs.out (by omega)).mono ?_
    rintro e w1 ⟨g_As0, hg_As0, rfl, K_As0, hb⟩
    have B1 := hb
    have hz1 : w.heap.size ≤ w1.heap.size := by first | exact hb.size | (have := hb.size; simp at this; omega)
    have As0 := K_As0.res hg_As0
    go_wp2_with fail
    refine (HSP.out _ _ As0.sl).mono ?_
    rintro e w2 ⟨v_R0, rfl, R0, hb⟩
    have B2 := bel_step B1 hb
    have hz2 : w1.heap.size ≤ w2.heap.size := hb.size
    have As0_2 := As0.kept hb
    have hlt0 : ∀ g, v_R0.ownBlock = some g → g < w2.heap.size := fun g hg => R0.lt hg
    have Hlt0 := hid hlt0
    clear hlt0
    go_wp2_with fail
    refine (toIntS_any _ s _ (HSs.out.kept B2) (by omega)).mono ?_
    rintro e w3 ⟨g_Xs, hg_Xs, rfl, K_Xs, hb⟩
    have B3 := bel_step B2 hb
    have hz3 : w2.heap.size ≤ w3.heap.size := hb.size
    have R0_3 := R0.kept hb
    have Xs := K_Xs.res hg_Xs
    have hlt_Xs := K_Xs.lt
    have hne_Xs : ∀ g, v_R0.ownBlock = some g → g ≠ g_Xs := fun g hg => by have a1 := Hlt0.out g hg; omega
    have Hne_Xs := hid hne_Xs
    clear hne_Xs
    have hxl_Xs : g_Xs < w3.heap.size := Xs.lt rfl
    go_wp2_with fail
    refine (HIM.out _ _ Xs.sl).mono ?_
    rintro e w4 ⟨v_R1, rfl, R1, hb⟩
    have B4 := bel_step B3 hb
    have hz4 : w3.heap.size ≤ w4.heap.size := hb.size
    have R0_4 := R0_3.kept hb
    have Xs_4 := Xs.kept hb
    have hne1_Xs : ∀ g, v_R1.ownBlock = some g → g ≠ g_Xs := fun g hg => by have a1 := R1.ge hg; omega
    have Hne1_Xs := hid hne1_Xs
    clear hne1_Xs
    have hne01 : ∀ g, v_R0.ownBlock = some g → v_R1.ownBlock ≠ some g := fun g hg e => by have a1 := R1.ge e; have a2 := Hlt0.out g hg; omega
    have Hne01 := hid hne01
    clear hne01
    have hge1 : ∀ g, v_R1.ownBlock = some g → w3.heap.size ≤ g := fun g hg => R1.ge hg
    have Hge1 := hid hge1
    clear hge1
    go_wp2_with fail
    refine (eqIntS_same _ _ ys _ R1.sl R0_4.sl hy).mono ?_
    rintro e w5 ⟨rfl, hb⟩
    have B5 := bel_step B4 hb
    have hz5 : w4.heap.size ≤ w5.heap.size := hb.size
    have R0_5 := R0_4.kept hb
    have Xs_5 := Xs_4.kept hb
    have R1_5 := R1.kept hb
    go_wp2_with fail
    refine (toIntS_any _ s _ (HSs.out.kept B5) (by omega)).mono ?_
    rintro e w6 ⟨g_TXs, hg_TXs, rfl, K_TXs, hb⟩
    have B6 := bel_step B5 hb
    have hz6 : w5.heap.size ≤ w6.heap.size := hb.size
    have R0_6 := R0_5.kept hb
    have Xs_6 := Xs_5.kept hb
    have R1_6 := R1_5.kept hb
    have TXs := K_TXs.res hg_TXs
    go_wp2_with fail
    refine (eqIntS_same _ _ s _ Xs_6.sl TXs.sl (by omega)).mono ?_
    rintro e w7 ⟨rfl, hb⟩
    have B7 := bel_step B6 hb
    have hz7 : w6.heap.size ≤ w7.heap.size := hb.size
    have R0_7 := R0_6.kept hb
    have Xs_7 := Xs_6.kept hb
    have R1_7 := R1_6.kept hb
    have TXs_7 := TXs.kept hb
    go_wp2_with fail
    refine (markIntS_one _ s _ _ Xs_7 (by omega)).mono ?_
    rintro e w8 ⟨rfl, ho, _⟩
    have B8 := B7.trans (ho.below fun g hg => by cases hg; exact Nat.le_trans B2.size hg_Xs)
    have hz8 : w7.heap.size ≤ w8.heap.size := Nat.le_of_eq ho.size.symm
    have R0_8 := R0_7.only ho fun g hg e => by cases e; exact Hne_Xs.out _ hg rfl
    have R1_8 := R1_7.only ho fun g hg e => by cases e; exact Hne1_Xs.out _ hg rfl
    go_wp2_with fail
    refine (eqIntS_same _ _ ys _ R1_8.sl R0_8.sl hy).mono ?_
    rintro e w9 ⟨rfl, hb⟩
    have B9 := bel_step B8 hb
    have hz9 : w8.heap.size ≤ w9.heap.size := hb.size
    have R0_9 := R0_8.kept hb
    have R1_9 := R1_8.kept hb
    go_wp2_with fail
    refine (markIntS_one _ ys _ _ R1_9 hy).mono ?_
    rintro e w10 ⟨rfl, ho, M⟩
    have B10 := B9.trans (ho.below fun g hg => Nat.le_trans B3.size (Hge1.out g hg))
    have hz10 : w9.heap.size ≤ w10.heap.size := Nat.le_of_eq ho.size.symm
    have R0_10 := R0_9.only ho Hne01.out
    go_wp2_with fail
    refine (heldIntS_one _ ys.length _ _ M hy).mono ?_
    rintro e w' ⟨rfl, rfl⟩
    go_wp2_with fail
    refine (toIntS_any _ s _ (HSs.out.kept B10) (by omega)).mono ?_
    rintro e w11 ⟨g_As10, hg_As10, rfl, K_As10, hb⟩
    have B11 := bel_step B10 hb
    have hz11 : w10.heap.size ≤ w11.heap.size := hb.size
    have R0_11 := R0_10.kept hb
    have M_11 := M.kept hb
    have As10 := K_As10.res hg_As10
    go_wp2_with fail
    refine (HIM.out _ _ As10.sl).mono ?_
    rintro e w12 ⟨v_R2, rfl, R2, hb⟩
    have B12 := bel_step B11 hb
    have hz12 : w11.heap.size ≤ w12.heap.size := hb.size
    have R0_12 := R0_11.kept hb
    have M_12 := M_11.kept hb
    have As10_12 := As10.kept hb
    go_wp2_with fail
    refine (eqIntS_same _ _ ys _ R2.sl R0_12.sl hy).mono ?_
    rintro e w13 ⟨rfl, hb⟩
    have B13 := bel_step B12 hb
    have hz13 : w12.heap.size ≤ w13.heap.size := hb.size
    have R0_13 := R0_12.kept hb
    have M_13 := M_12.kept hb
    have R2_13 := R2.kept hb
    go_wp2_with fail
    refine (heldIntS_one _ ys.length _ _ M_13 hy).mono ?_
    rintro e w' ⟨rfl, rfl⟩
    go_wp2_with fail
    go_ret
    exact ⟨rfl, B13⟩


set_option maxHeartbeats 1600000 in
theorem walk_FnExactNearSamples (w : World) (u_s : Option Addr) (l_s c_s : Nat) (z_s : List Int) (hr_s : IsRow .i64 w u_s l_s c_s z_s) (p : Int) (w_p : (Lit.int .i64 p).wf = true) (q : Int) (w_q : (Lit.int .i64 q).wf = true) :
    Calls Try.prog 4 #[.slice u_s l_s c_s, .int .i64 p, .int .i64 q] w fun e w' => e = .returned (.bool true) ∧ Below w.heap.size w w' := by
  obtain ⟨hs_s, hlen_s, hin_s⟩ := hr_s.sl
  generalize z_s.take l_s = s at hs_s hlen_s hin_s
  clear hr_s
  obtain ⟨p_1, p_2⟩ := bounds_i64 w_p
  obtain ⟨q_1, q_2⟩ := bounds_i64 w_q
  by_cases hbig_s : 1048576 < l_s
  · clear hs_s hlen_s hin_s
    go_enter Try.func4, Try.ntmps4
    go_wp2
    go_ret
    exact ⟨rfl, Below.refl _ _⟩
  · have hq_s : l_s ≤ 1048576 := by omega
    exact gen_FnExactNearSamples s p q _ _ _ _ _ w hs_s (by omega) (by omega) rsO_len (fun w v_s h_s => spec_NearSamples_any v_s s p q w h_s) (fun w v_s h_s => impl_NearSamples_any v_s s p q w h_s)


set_option maxHeartbeats 1600000 in
theorem gen_FnExactLineSamples (s : List Int) (p : Int) (q : Int) (u_s : Option Addr) (l_s c_s : Nat) (ys : List Int) (ok : Bool) (w : World) (hs_s : Sl w (.slice u_s l_s c_s) s) (ll_s : l_s ≤ 1048576) (hl_s : s.length ≤ 1048576) (hy : ys.length ≤ 2000000) (hspec : ∀ (w : World) (v_s : Value), Sl w v_s s → Calls Try.prog 16 #[v_s, .int .i64 p, .int .i64 q] w (Gives w ys ok)) (himpl : ∀ (w : World) (v_s : Value), Sl w v_s s → Calls Try.prog 17 #[v_s, .int .i64 p, .int .i64 q] w (Gives w ys ok)) :
    Calls Try.prog 5 #[.slice u_s l_s c_s, .int .i64 p, .int .i64 q] w fun e w' => e = .returned (.bool true) ∧ Below w.heap.size w w' := by
  have HSs := hid hs_s
  clear hs_s
  have HSP := hid hspec
  have HIM := hid himpl
  clear hspec himpl
  all_goals cases ok
  all_goals
    go_enter Try.func5, Try.ntmps5
    go_wp2_with fail
    refine (toIntS_any _ s _ HSs.out (by omega)).mono ?_
    rintro e w1 ⟨g_As0, hg_As0, rfl, K_As0, hb⟩
    have B1 := hb
    have hz1 : w.heap.size ≤ w1.heap.size := by first | exact hb.size | (have := hb.size; simp at this; omega)
    have As0 := K_As0.res hg_As0
    go_wp2_with fail
    refine (HSP.out _ _ As0.sl).mono ?_
    rintro e w2 ⟨v_R0, rfl, R0, hb⟩
    have B2 := bel_step B1 hb
    have hz2 : w1.heap.size ≤ w2.heap.size := hb.size
    have As0_2 := As0.kept hb
    have hlt0 : ∀ g, v_R0.ownBlock = some g → g < w2.heap.size := fun g hg => R0.lt hg
    have Hlt0 := hid hlt0
    clear hlt0
    go_wp2_with fail
    refine (toIntS_any _ s _ (HSs.out.kept B2) (by omega)).mono ?_
    rintro e w3 ⟨g_Xs, hg_Xs, rfl, K_Xs, hb⟩
    have B3 := bel_step B2 hb
    have hz3 : w2.heap.size ≤ w3.heap.size := hb.size
    have R0_3 := R0.kept hb
    have Xs := K_Xs.res hg_Xs
    have hlt_Xs := K_Xs.lt
    have hne_Xs : ∀ g, v_R0.ownBlock = some g → g ≠ g_Xs := fun g hg => by have a1 := Hlt0.out g hg; omega
    have Hne_Xs := hid hne_Xs
    clear hne_Xs
    have hxl_Xs : g_Xs < w3.heap.size := Xs.lt rfl
    go_wp2_with fail
    refine (HIM.out _ _ Xs.sl).mono ?_
    rintro e w4 ⟨v_R1, rfl, R1, hb⟩
    have B4 := bel_step B3 hb
    have hz4 : w3.heap.size ≤ w4.heap.size := hb.size
    have R0_4 := R0_3.kept hb
    have Xs_4 := Xs.kept hb
    have hne1_Xs : ∀ g, v_R1.ownBlock = some g → g ≠ g_Xs := fun g hg => by have a1 := R1.ge hg; omega
    have Hne1_Xs := hid hne1_Xs
    clear hne1_Xs
    have hne01 : ∀ g, v_R0.ownBlock = some g → v_R1.ownBlock ≠ some g := fun g hg e => by have a1 := R1.ge e; have a2 := Hlt0.out g hg; omega
    have Hne01 := hid hne01
    clear hne01
    have hge1 : ∀ g, v_R1.ownBlock = some g → w3.heap.size ≤ g := fun g hg => R1.ge hg
    have Hge1 := hid hge1
    clear hge1
    go_wp2_with fail
    refine (eqIntS_same _ _ ys _ R1.sl R0_4.sl hy).mono ?_
    rintro e w5 ⟨rfl, hb⟩
    have B5 := bel_step B4 hb
    have hz5 : w4.heap.size ≤ w5.heap.size := hb.size
    have R0_5 := R0_4.kept hb
    have Xs_5 := Xs_4.kept hb
    have R1_5 := R1.kept hb
    go_wp2_with fail
    refine (toIntS_any _ s _ (HSs.out.kept B5) (by omega)).mono ?_
    rintro e w6 ⟨g_TXs, hg_TXs, rfl, K_TXs, hb⟩
    have B6 := bel_step B5 hb
    have hz6 : w5.heap.size ≤ w6.heap.size := hb.size
    have R0_6 := R0_5.kept hb
    have Xs_6 := Xs_5.kept hb
    have R1_6 := R1_5.kept hb
    have TXs := K_TXs.res hg_TXs
    go_wp2_with fail
    refine (eqIntS_same _ _ s _ Xs_6.sl TXs.sl (by omega)).mono ?_
    rintro e w7 ⟨rfl, hb⟩
    have B7 := bel_step B6 hb
    have hz7 : w6.heap.size ≤ w7.heap.size := hb.size
    have R0_7 := R0_6.kept hb
    have Xs_7 := Xs_6.kept hb
    have R1_7 := R1_6.kept hb
    have TXs_7 := TXs.kept hb
    go_wp2_with fail
    refine (markIntS_one _ s _ _ Xs_7 (by omega)).mono ?_
    rintro e w8 ⟨rfl, ho, _⟩
    have B8 := B7.trans (ho.below fun g hg => by cases hg; exact Nat.le_trans B2.size hg_Xs)
    have hz8 : w7.heap.size ≤ w8.heap.size := Nat.le_of_eq ho.size.symm
    have R0_8 := R0_7.only ho fun g hg e => by cases e; exact Hne_Xs.out _ hg rfl
    have R1_8 := R1_7.only ho fun g hg e => by cases e; exact Hne1_Xs.out _ hg rfl
    go_wp2_with fail
    refine (eqIntS_same _ _ ys _ R1_8.sl R0_8.sl hy).mono ?_
    rintro e w9 ⟨rfl, hb⟩
    have B9 := bel_step B8 hb
    have hz9 : w8.heap.size ≤ w9.heap.size := hb.size
    have R0_9 := R0_8.kept hb
    have R1_9 := R1_8.kept hb
    go_wp2_with fail
    refine (markIntS_one _ ys _ _ R1_9 hy).mono ?_
    rintro e w10 ⟨rfl, ho, M⟩
    have B10 := B9.trans (ho.below fun g hg => Nat.le_trans B3.size (Hge1.out g hg))
    have hz10 : w9.heap.size ≤ w10.heap.size := Nat.le_of_eq ho.size.symm
    have R0_10 := R0_9.only ho Hne01.out
    go_wp2_with fail
    refine (heldIntS_one _ ys.length _ _ M hy).mono ?_
    rintro e w' ⟨rfl, rfl⟩
    go_wp2_with fail
    refine (toIntS_any _ s _ (HSs.out.kept B10) (by omega)).mono ?_
    rintro e w11 ⟨g_As10, hg_As10, rfl, K_As10, hb⟩
    have B11 := bel_step B10 hb
    have hz11 : w10.heap.size ≤ w11.heap.size := hb.size
    have R0_11 := R0_10.kept hb
    have M_11 := M.kept hb
    have As10 := K_As10.res hg_As10
    go_wp2_with fail
    refine (HIM.out _ _ As10.sl).mono ?_
    rintro e w12 ⟨v_R2, rfl, R2, hb⟩
    have B12 := bel_step B11 hb
    have hz12 : w11.heap.size ≤ w12.heap.size := hb.size
    have R0_12 := R0_11.kept hb
    have M_12 := M_11.kept hb
    have As10_12 := As10.kept hb
    go_wp2_with fail
    refine (eqIntS_same _ _ ys _ R2.sl R0_12.sl hy).mono ?_
    rintro e w13 ⟨rfl, hb⟩
    have B13 := bel_step B12 hb
    have hz13 : w12.heap.size ≤ w13.heap.size := hb.size
    have R0_13 := R0_12.kept hb
    have M_13 := M_12.kept hb
    have R2_13 := R2.kept hb
    go_wp2_with fail
    refine (heldIntS_one _ ys.length _ _ M_13 hy).mono ?_
    rintro e w' ⟨rfl, rfl⟩
    go_wp2_with fail
    go_ret
    exact ⟨rfl, B13⟩


set_option maxHeartbeats 1600000 in
theorem walk_FnExactLineSamples (w : World) (u_s : Option Addr) (l_s c_s : Nat) (z_s : List Int) (hr_s : IsRow .i64 w u_s l_s c_s z_s) (p : Int) (w_p : (Lit.int .i64 p).wf = true) (q : Int) (w_q : (Lit.int .i64 q).wf = true) :
    Calls Try.prog 5 #[.slice u_s l_s c_s, .int .i64 p, .int .i64 q] w fun e w' => e = .returned (.bool true) ∧ Below w.heap.size w w' := by
  obtain ⟨hs_s, hlen_s, hin_s⟩ := hr_s.sl
  generalize z_s.take l_s = s at hs_s hlen_s hin_s
  clear hr_s
  obtain ⟨p_1, p_2⟩ := bounds_i64 w_p
  obtain ⟨q_1, q_2⟩ := bounds_i64 w_q
  by_cases hbig_s : 1048576 < l_s
  · clear hs_s hlen_s hin_s
    go_enter Try.func5, Try.ntmps5
    go_wp2
    go_ret
    exact ⟨rfl, Below.refl _ _⟩
  · have hq_s : l_s ≤ 1048576 := by omega
    exact gen_FnExactLineSamples s p q _ _ _ _ _ w hs_s (by omega) (by omega) rsO_len (fun w v_s h_s => spec_LineSamples_any v_s s p q w h_s) (fun w v_s h_s => impl_LineSamples_any v_s s p q w h_s)


set_option maxHeartbeats 1600000 in
theorem gen_FnExactLinesOfSame (s : List Int) (p : Int) (u_s : Option Addr) (l_s c_s : Nat) (ys : List Int) (ok : Bool) (w : World) (hs_s : Sl w (.slice u_s l_s c_s) s) (ll_s : l_s ≤ 1048576) (hl_s : s.length ≤ 1048576) (hy : ys.length ≤ 2000000) (hspec : ∀ (w : World) (v_s : Value), Sl w v_s s → Calls Try.prog 18 #[v_s, .int .i64 p] w (Gives w ys ok)) (himpl : ∀ (w : World) (v_s : Value), Sl w v_s s → Calls Try.prog 19 #[v_s, .int .i64 p] w (Gives w ys ok)) :
    Calls Try.prog 6 #[.slice u_s l_s c_s, .int .i64 p] w fun e w' => e = .returned (.bool true) ∧ Below w.heap.size w w' := by
  have HSs := hid hs_s
  clear hs_s
  have HSP := hid hspec
  have HIM := hid himpl
  clear hspec himpl
  all_goals cases ok
  all_goals
    go_enter Try.func6, Try.ntmps6
    go_wp2_with fail
    refine (toIntS_any _ s _ HSs.out (by omega)).mono ?_
    rintro e w1 ⟨g_As0, hg_As0, rfl, K_As0, hb⟩
    have B1 := hb
    have hz1 : w.heap.size ≤ w1.heap.size := by first | exact hb.size | (have := hb.size; simp at this; omega)
    have As0 := K_As0.res hg_As0
    go_wp2_with fail
    refine (HSP.out _ _ As0.sl).mono ?_
    rintro e w2 ⟨v_R0, rfl, R0, hb⟩
    have B2 := bel_step B1 hb
    have hz2 : w1.heap.size ≤ w2.heap.size := hb.size
    have As0_2 := As0.kept hb
    have hlt0 : ∀ g, v_R0.ownBlock = some g → g < w2.heap.size := fun g hg => R0.lt hg
    have Hlt0 := hid hlt0
    clear hlt0
    go_wp2_with fail
    refine (toIntS_any _ s _ (HSs.out.kept B2) (by omega)).mono ?_
    rintro e w3 ⟨g_Xs, hg_Xs, rfl, K_Xs, hb⟩
    have B3 := bel_step B2 hb
    have hz3 : w2.heap.size ≤ w3.heap.size := hb.size
    have R0_3 := R0.kept hb
    have Xs := K_Xs.res hg_Xs
    have hlt_Xs := K_Xs.lt
    have hne_Xs : ∀ g, v_R0.ownBlock = some g → g ≠ g_Xs := fun g hg => by have a1 := Hlt0.out g hg; omega
    have Hne_Xs := hid hne_Xs
    clear hne_Xs
    have hxl_Xs : g_Xs < w3.heap.size := Xs.lt rfl
    go_wp2_with fail
    refine (HIM.out _ _ Xs.sl).mono ?_
    rintro e w4 ⟨v_R1, rfl, R1, hb⟩
    have B4 := bel_step B3 hb
    have hz4 : w3.heap.size ≤ w4.heap.size := hb.size
    have R0_4 := R0_3.kept hb
    have Xs_4 := Xs.kept hb
    have hne1_Xs : ∀ g, v_R1.ownBlock = some g → g ≠ g_Xs := fun g hg => by have a1 := R1.ge hg; omega
    have Hne1_Xs := hid hne1_Xs
    clear hne1_Xs
    have hne01 : ∀ g, v_R0.ownBlock = some g → v_R1.ownBlock ≠ some g := fun g hg e => by have a1 := R1.ge e; have a2 := Hlt0.out g hg; omega
    have Hne01 := hid hne01
    clear hne01
    have hge1 : ∀ g, v_R1.ownBlock = some g → w3.heap.size ≤ g := fun g hg => R1.ge hg
    have Hge1 := hid hge1
    clear hge1
    go_wp2_with fail
    refine (eqIntS_same _ _ ys _ R1.sl R0_4.sl hy).mono ?_
    rintro e w5 ⟨rfl, hb⟩
    have B5 := bel_step B4 hb
    have hz5 : w4.heap.size ≤ w5.heap.size := hb.size
    have R0_5 := R0_4.kept hb
    have Xs_5 := Xs_4.kept hb
    have R1_5 := R1.kept hb
    go_wp2_with fail
    refine (toIntS_any _ s _ (HSs.out.kept B5) (by omega)).mono ?_
    rintro e w6 ⟨g_TXs, hg_TXs, rfl, K_TXs, hb⟩
    have B6 := bel_step B5 hb
    have hz6 : w5.heap.size ≤ w6.heap.size := hb.size
    have R0_6 := R0_5.kept hb
    have Xs_6 := Xs_5.kept hb
    have R1_6 := R1_5.kept hb
    have TXs := K_TXs.res hg_TXs
    go_wp2_with fail
    refine (eqIntS_same _ _ s _ Xs_6.sl TXs.sl (by omega)).mono ?_
    rintro e w7 ⟨rfl, hb⟩
    have B7 := bel_step B6 hb
    have hz7 : w6.heap.size ≤ w7.heap.size := hb.size
    have R0_7 := R0_6.kept hb
    have Xs_7 := Xs_6.kept hb
    have R1_7 := R1_6.kept hb
    have TXs_7 := TXs.kept hb
    go_wp2_with fail
    refine (markIntS_one _ s _ _ Xs_7 (by omega)).mono ?_
    rintro e w8 ⟨rfl, ho, _⟩
    have B8 := B7.trans (ho.below fun g hg => by cases hg; exact Nat.le_trans B2.size hg_Xs)
    have hz8 : w7.heap.size ≤ w8.heap.size := Nat.le_of_eq ho.size.symm
    have R0_8 := R0_7.only ho fun g hg e => by cases e; exact Hne_Xs.out _ hg rfl
    have R1_8 := R1_7.only ho fun g hg e => by cases e; exact Hne1_Xs.out _ hg rfl
    go_wp2_with fail
    refine (eqIntS_same _ _ ys _ R1_8.sl R0_8.sl hy).mono ?_
    rintro e w9 ⟨rfl, hb⟩
    have B9 := bel_step B8 hb
    have hz9 : w8.heap.size ≤ w9.heap.size := hb.size
    have R0_9 := R0_8.kept hb
    have R1_9 := R1_8.kept hb
    go_wp2_with fail
    refine (markIntS_one _ ys _ _ R1_9 hy).mono ?_
    rintro e w10 ⟨rfl, ho, M⟩
    have B10 := B9.trans (ho.below fun g hg => Nat.le_trans B3.size (Hge1.out g hg))
    have hz10 : w9.heap.size ≤ w10.heap.size := Nat.le_of_eq ho.size.symm
    have R0_10 := R0_9.only ho Hne01.out
    go_wp2_with fail
    refine (heldIntS_one _ ys.length _ _ M hy).mono ?_
    rintro e w' ⟨rfl, rfl⟩
    go_wp2_with fail
    refine (toIntS_any _ s _ (HSs.out.kept B10) (by omega)).mono ?_
    rintro e w11 ⟨g_As10, hg_As10, rfl, K_As10, hb⟩
    have B11 := bel_step B10 hb
    have hz11 : w10.heap.size ≤ w11.heap.size := hb.size
    have R0_11 := R0_10.kept hb
    have M_11 := M.kept hb
    have As10 := K_As10.res hg_As10
    go_wp2_with fail
    refine (HIM.out _ _ As10.sl).mono ?_
    rintro e w12 ⟨v_R2, rfl, R2, hb⟩
    have B12 := bel_step B11 hb
    have hz12 : w11.heap.size ≤ w12.heap.size := hb.size
    have R0_12 := R0_11.kept hb
    have M_12 := M_11.kept hb
    have As10_12 := As10.kept hb
    go_wp2_with fail
    refine (eqIntS_same _ _ ys _ R2.sl R0_12.sl hy).mono ?_
    rintro e w13 ⟨rfl, hb⟩
    have B13 := bel_step B12 hb
    have hz13 : w12.heap.size ≤ w13.heap.size := hb.size
    have R0_13 := R0_12.kept hb
    have M_13 := M_12.kept hb
    have R2_13 := R2.kept hb
    go_wp2_with fail
    refine (heldIntS_one _ ys.length _ _ M_13 hy).mono ?_
    rintro e w' ⟨rfl, rfl⟩
    go_wp2_with fail
    go_ret
    exact ⟨rfl, B13⟩


set_option maxHeartbeats 1600000 in
theorem walk_FnExactLinesOfSame (w : World) (u_s : Option Addr) (l_s c_s : Nat) (z_s : List Int) (hr_s : IsRow .i64 w u_s l_s c_s z_s) (p : Int) (w_p : (Lit.int .i64 p).wf = true) :
    Calls Try.prog 6 #[.slice u_s l_s c_s, .int .i64 p] w fun e w' => e = .returned (.bool true) ∧ Below w.heap.size w w' := by
  obtain ⟨hs_s, hlen_s, hin_s⟩ := hr_s.sl
  generalize z_s.take l_s = s at hs_s hlen_s hin_s
  clear hr_s
  obtain ⟨p_1, p_2⟩ := bounds_i64 w_p
  by_cases hbig_s : 1048576 < l_s
  · clear hs_s hlen_s hin_s
    go_enter Try.func6, Try.ntmps6
    go_wp2
    go_ret
    exact ⟨rfl, Below.refl _ _⟩
  · have hq_s : l_s ≤ 1048576 := by omega
    exact gen_FnExactLinesOfSame s p _ _ _ _ _ w hs_s (by omega) (by omega) rsO_len (fun w v_s h_s => spec_LinesOfSame_any v_s s p w h_s) (fun w v_s h_s => impl_LinesOfSame_any v_s s p w h_s)

end Go.Proofs.Ytngjkcdfgkkdkaa
