
import Derived.Test.YtjbpfphfajohnaaUp
import Derived.Test.YtjbpfphfajohnaaUc
import Derived.Test.YtjbpfphfajohnaaWin
import Derived.Test.YtjbpfphfajohnaaAns
import Derived.Deep.QuietTactic
import Derived.BigQuiet
namespace Go.Ch8
open Go Go.RowKit Go.MemX Go.Ch6
set_option linter.unusedVariables false
/-- the answer by phases, and how many products it takes -/
def bpF (h s : List Int) (p q i : Nat) : Int := conv (dropL p (i * q % p) h) s (i * q / p)
def ppN (h : List Int) (p q i : Nat) : Nat := min (i * q / p + 1) (dropL p (i * q % p) h).length
def ppF (h : List Int) (p q k : Nat) : Int := sumF k (fun i => ((ppN h p q i : Nat) : Int))
theorem ppF_succ (h : List Int) (p q k : Nat) : ppF h p q (k + 1) = ppF h p q k + ((ppN h p q k : Nat) : Int) := sumF_succ k _
theorem drop_in {p j : Nat} {lo hi : Int} {h : List Int} (hp : 1 ≤ p) (hs : ∀ x ∈ h, lo ≤ x ∧ x ≤ hi) : ∀ x ∈ dropL p j h, lo ≤ x ∧ x ≤ hi := by
  intro x hx
  obtain ⟨i, hi⟩ := List.getElem?_of_mem hx
  have hil : i < drN h.length p j := by have := (List.getElem?_eq_some_iff.1 hi).1; rwa [dropL_len] at this
  unfold dropL at hi
  rw [tab_get _ _ _ hil] at hi
  cases hi
  have hlt := (drN_lt hp).1 hil
  obtain ⟨y, hy⟩ := get_lt h (j + i * p) hlt
  rw [at0_of hy]
  exact hs y (List.mem_of_getElem? hy)
theorem phL_at {h : List Int} {p j : Nat} (hj : j < p) : (phL h p)[j]? = some (dropL p j h) := by
  unfold phL; rw [List.getElem?_map, List.getElem?_range hj]; rfl
theorem phL_len (h : List Int) (p : Nat) : (phL h p).length = p := by simp [phL]
theorem ppN_le {h : List Int} {p q i : Nat} (hp : 1 ≤ p) (hl : h.length ≤ 9) : ppN h p q i ≤ 9 := Nat.le_trans (Nat.min_le_right _ _) (Nat.le_trans (dropL_le _ _ _ hp) hl)
theorem ppF_in {h : List Int} {p q k : Nat} (hp : 1 ≤ p) (hl : h.length ≤ 9) : 0 ≤ ppF h p q k ∧ ppF h p q k ≤ (k : Int) * 9 := sumF_upto k _ 9 fun i _ => by
  have := ppN_le (q := q) (i := i) hp hl
  omega
end Go.Ch8
namespace Go.MemX
open Go Go.RowKit
theorem PhS.keptR {E F : TypeId} {B g : Nat} {w w' : World} {vs : List Value} {xss : List (List Int)} (h : PhS F (fun w u xs => Res E B w u xs) g w vs xss) (hb : Below w.heap.size w w') : PhS F (fun w u xs => Res E B w u xs) g w' vs xss :=
  ⟨(hb.block _ h.glt).trans h.blk, h.len, fun i u xs hi hx => (h.each i u xs hi hx).kept hb, h.apart⟩
end Go.MemX
namespace Go.Proofs.Ytjbpfphfajohnaa
open Go.RowKit BitX Go.MemX Go.Ch6 Go.Ch8
set_option linter.unusedVariables false
/-- what a call leaves that hands back a new list and a number -/
def GivesLI (w : World) (xs : List Int) (c : Int) (e : Ending) (w' : World) : Prop :=
  ∃ v, e = .returned (.tuple #[v, .int .i64 c]) ∧ Res 3 w.heap.size w' v xs ∧ Below w.heap.size w w'
theorem mul_b8 {x y : Int} (x1 : -1000 ≤ x) (x2 : x ≤ 1000) (y1 : -100000 ≤ y) (y2 : y ≤ 100000) : -100000000 ≤ x * y ∧ x * y ≤ 100000000 := by
  have := mul_in x1 x2 y1 y2 (by omega)
  omega


set_option maxHeartbeats 4000000 in
theorem rsByPhases_any (u v : Value) (h s : List Int) (P Q : Nat) (w : World) (hu : Sl w u h) (hs : Sl w v s) (hw : WgtP h) (hl : s.length ≤ 64) (hj : InP (-100000) 100000 s) (P1 : 1 ≤ P) (P8 : P ≤ 8) (Q1 : 1 ≤ Q) (Q8 : Q ≤ 8) :
    Calls Try.prog 29 #[u, v, .int .i64 (P : Int), .int .i64 (Q : Int)] w (GivesLI w (tab (lenN s.length P Q) (bpF h s P Q)) (ppF h P Q (lenN s.length P Q))) := by
  obtain ⟨a, n, cap, rfl, hn, hrd⟩ := hs.rd
  have Hn := hid hn
  have Hrd := hid hrd
  have HU := hid hu
  have HW := hid hw
  have HJ := hid hj
  have hn64 : n ≤ 64 := by omega
  obtain ⟨L, hL0⟩ : ∃ L, L = lenN n P Q := ⟨_, rfl⟩
  have hL5 : L ≤ 512 := by rw [hL0]; exact lenN_512 hn64 P8 Q1
  have HL := hid hL0
  rw [← hn, ← hL0]
  obtain ⟨i0, hi0, hz0, hz1, hz2⟩ := info_parts iint
  clear hs hn hrd hu hw hj hl hL0
  go_enter Try.func29, Try.ntmps29
  go_wp2_with fail
  refine (rsPhases_any _ h P _ HU.out (Nat.le_trans HW.out.1.2 (by omega)) P1 P8).mono ?_
  rintro e w1 ⟨g, vs, rfl, R, hg, B1⟩
  have HR := hid R
  have hvl : vs.length = P := by rw [R.len, phL_len]
  rw [hvl]
  clear R hvl
  go_wp2_with fail
  go_loopw [11, 12, 13] (fun o pr i wr => ∃ c : Nat, c ≤ L ∧ i = .int .i64 (c : Int) ∧ pr = .int .i64 (ppF h P Q c) ∧ wr.ownsRow w1.heap.size 3 1 o c ((tab c (bpF h s P Q)).map (Value.int .i64)) ∧ Below w1.heap.size w1 wr)
    (fun _ _ i _ => L - (intOf i).toNat)
  case atStart => exact ⟨0, by omega, rfl, rfl, World.ownsRow_nil _ _ _ _, Below.refl _ _⟩
  case round =>
    obtain ⟨c, hc, rfl, rfl, hown, hb⟩ := hrel
    have hsz : w1.heap.size ≤ wr.heap.size := hb.size
    by_cases hlk : c < L
    · obtain ⟨m, z, r, hm4, hzn, hrp, hmi, hd, hr, hz0', hr0⟩ := src_parts P1 P8 Q1 Q8 hn64 (by rw [← HL.out]; exact hlk)
      have hst := tab_step c (bpF h s P Q)
      have hpp := ppF_succ h P Q c
      have hpi := ppF_in (q := Q) (k := c) P1 HW.out.1.2
      have b1 : -9223372036854775808 ≤ (m : Int) ∧ (m : Int) ≤ 9223372036854775807 := by clear hmi hd hr hz0' hr0 hpi hpp; omega
      have hm0 : (0 : Int) ≤ (m : Int) := by clear hmi hd hr hz0' hr0 hpi hpp; omega
      have b5 : -9223372036854775808 ≤ (r : Int) ∧ (r : Int) ≤ 9223372036854775807 := by clear hmi hd hr hz0' hr0 hpi hpp; omega
      have b6 : -9223372036854775808 ≤ (z : Int) ∧ (z : Int) ≤ 9223372036854775807 := by clear hmi hd hr hz0' hr0 hpi hpp; omega
      have ht : (m : Int).tmod (P : Int) = (r : Int) := by rw [← hr]; exact Int.tmod_eq_emod_of_nonneg hm0
      have hq : (m : Int).tdiv (P : Int) = (z : Int) := by rw [← hd]; exact Int.tdiv_eq_ediv_of_nonneg hm0
      have e1 : ∀ [Inhabited Unit], wrap64 ((c : Int) * (Q : Int)) = (m : Int) := by rw [hmi]; exact IntWalk.wrap64_in _ b1
      have e2 : ∀ [Inhabited Unit], IntKind.i64.wrap ((c : Int) * (Q : Int)) = (m : Int) := by rw [hmi]; exact IntWalk.i64_in _ b1
      have kk3 : ∀ [Inhabited Unit], IntKind.i64.wrap ((m : Int).tmod (P : Int)) = (r : Int) := by rw [ht]; exact IntWalk.i64_in _ b5
      have kk4 : ∀ [Inhabited Unit], (m : Int).tmod (P : Int) = (r : Int) := ht
      have kk5 : ∀ [Inhabited Unit], IntKind.i64.wrap ((m : Int).tdiv (P : Int)) = (z : Int) := by rw [hq]; exact IntWalk.i64_in _ b6
      have kk7 : ∀ [Inhabited Unit], (m : Int) / (P : Int) = (z : Int) := hd
      have kk8 : ∀ [Inhabited Unit], (m : Int) % (P : Int) = (r : Int) := hr
      have hp0 : ((P : Int) == 0) = false := by rw [beq_eq_false_iff_ne]; clear hmi hd hr hz0' hr0 e1 e2 ht hq hpi hpp; omega
      have hp2 : P ≠ 0 := by clear hmi hd hr hz0' hr0 e1 e2 ht hq hpi hpp; omega
      have hp1 : (1 : Int) ≤ (P : Int) := by clear hmi hd hr hz0' hr0 e1 e2 ht hq hpi hpp; omega
      have hbp : bpF h s P Q c = conv (dropL P r h) s z := by unfold bpF; rw [← hz0', ← hr0]
      have hpn : ppN h P Q c = min (z + 1) (dropL P r h).length := by unfold ppN; rw [← hz0', ← hr0]
      have hfl : (dropL P r h).length ≤ 9 := Nat.le_trans (dropL_le _ _ _ P1) HW.out.1.2
      have HF := hid (show ∀ x ∈ dropL P r h, (-1000 : Int) ≤ x ∧ x ≤ 1000 from drop_in P1 HW.out.2)
      have hix0 := ixO g P r hrp
      rw [hbp] at hst
      rw [hpn] at hpp
      generalize hys : tab c (bpF h s P Q) = ys at hst hown
      generalize hpz : ppF h P Q c = pz at *
      have hpz1 : 0 ≤ pz := hpi.1
      have hpz2 : pz ≤ 4608 := by have := hpi.2; clear hmi hd hr hz0' hr0 ht hq; omega
      have Hob := hid (ownsRow_base hown)
      have Hst := hid hst
      have Hown := hid hown
      have Hpp := hid hpp
      clear hst hown hys hz0' hr0 hd hr hmi ht hq b1 b5 b6 hbp hpn hpp hpi hpz
      go_wp2_with fail
      refine (rsLength_any n P Q _ hn64 P8 Q1 Q8).mono ?_
      rintro e w' ⟨rfl, rfl⟩
      rw [← HL.out]
      go_wp2_with fail
      go_quiet (fail)
      have hb2 : Below w1.heap.size w1 (wr.drewN nq) := below_drewN hb nq
      have Hown2 := hid (ownsRow_below Hown.out (bel_drewN wr nq))
      generalize wr.drewN nq = w2 at *
      have hsz2 : w1.heap.size ≤ w2.heap.size := hb2.size
      have hph := HR.out.keptR hb2
      obtain ⟨f, hf⟩ := hph.get (i := r) (by rw [phL_len]; exact hrp)
      have hce0 := hph.cell hf
      have hres := hph.each r f _ hf (phL_at hrp)
      have Hres := hid hres.sl
      clear hres hph hf
      generalize hds : dropL P r h = ds at *
      obtain ⟨a5, n5, c5, rfl, hn5, hrd5⟩ := Hres.out.rd
      have Hn5 := hid hn5
      have Hrd5 := hid hrd5
      have hn9 : n5 ≤ 9 := by omega
      have hbi := hb2
      have hszi := hsz2
      clear hn5 hrd5 hds hfl
      go_wp2_with fail
      go_loop [12, 16, 46] (fun pr s0 i => ∃ (k : Nat) (sm : Int), k ≤ n5 ∧ k ≤ z + 1 ∧ i = .int .i64 (k : Int) ∧ s0 = .int .i64 sm ∧ pr = .int .i64 (pz + (k : Int)) ∧ Hid (sm = sumF k (fun j => at0 ds j * at0 s (z - j))) ∧ -((k : Int) * 100000000) ≤ sm ∧ sm ≤ (k : Int) * 100000000)
        (fun _ _ i => n5 - (intOf i).toNat)
      case atStart => exact ⟨0, 0, by omega, by omega, rfl, rfl, by simp, hid rfl, by omega, by omega⟩
      case round =>
        obtain ⟨k, sm, hk5, hkz1, rfl, rfl, rfl, HSm, sm1, sm2⟩ := hrel
        by_cases hlk5 : k < n5
        · obtain ⟨x, hkx⟩ := get_lt ds k (by rw [← Hn5.out]; exact hlk5)
          obtain ⟨b9, o9, hix9, hbb9, hce9⟩ := Hrd5.out.at (P := Try.prog) (T := 22) n5 c5 uslice sone hkx hlk5
          by_cases hkz : k ≤ z
          · obtain ⟨y, hky⟩ := get_lt s (z - k) (by rw [← Hn.out]; omega)
            obtain ⟨b8, o8, hix8, hbb8, hce8⟩ := (Hrd.out.kept (B1.trans (hb2.mono B1.size))).at (P := Try.prog) (T := 22) n cap uslice sone hky (by omega)
            have hcst : ((z - k : Nat) : Int) = (z : Int) - (k : Int) := by omega
            rw [hcst] at hix8
            obtain ⟨x1, x2⟩ := HF.out x (List.mem_of_getElem? hkx)
            obtain ⟨y1, y2⟩ := HJ.out.at hky
            obtain ⟨q1, q2⟩ := mul_b8 x1 x2 y1 y2
            have hsm2 := sumF_succ k (fun j => at0 ds j * at0 s (z - j))
            rw [← HSm.out, at0_of hkx, at0_of hky] at hsm2
            have HS2 := hid (show sm + x * y = sumF (k + 1) (fun j => at0 ds j * at0 s (z - j)) from hsm2.symm)
            have e3 : ∀ [Inhabited Unit], IntKind.i64.wrap (x * y) = x * y := IntWalk.i64_in _ ⟨Int.le_trans (by decide) q1, Int.le_trans q2 (by decide)⟩
            have hbd : (-900000000 - 100000000 ≤ sm + x * y) ∧ (sm + x * y ≤ 900000000 + 100000000) := by
              generalize x * y = xy at *
              omega
            have e4 : ∀ [Inhabited Unit], IntKind.i64.wrap (sm + x * y) = sm + x * y := IntWalk.i64_in _ ⟨Int.le_trans (by decide) hbd.1, Int.le_trans hbd.2 (by decide)⟩
            have e5 : ∀ [Inhabited Unit], wrap64 (sm + x * y) = sm + x * y := IntWalk.wrap64_in _ ⟨Int.le_trans (by decide) hbd.1, Int.le_trans hbd.2 (by decide)⟩
            have e6 : ∀ [Inhabited Unit], wrap64 (x * y) = x * y := IntWalk.wrap64_in _ ⟨Int.le_trans (by decide) q1, Int.le_trans q2 (by decide)⟩
            have hzk : (k : Int) ≤ (z : Int) := by omega
            have HB2 := hid (show -(((k + 1 : Nat) : Int) * 100000000) ≤ sm + x * y ∧ sm + x * y ≤ ((k + 1 : Nat) : Int) * 100000000 from by
              generalize x * y = xy at *
              omega)
            clear hkx hky hcst hsm2 hbd q1 q2
            go_wp2
            go_round
            case rel => exact ⟨k + 1, _, by omega, by omega, by go_num, rfl, by first | go_num | (congr 1; omega), HS2, HB2.out.1, HB2.out.2⟩
            case measure => simp [intOf]; omega
          · have hzk : (z : Int) < (k : Int) := by omega
            have hcv := hid (show sm = conv ds s z from by rw [HSm.out]; exact conv_upto ds s z k (by omega) (.inl (by omega)))
            have hmn := hid (show pz + (k : Int) = ppF h P Q (c + 1) from by rw [Hpp.out, show min (z + 1) ds.length = k from by rw [← Hn5.out]; omega])
            clear hkx hkz
            go_wp2_with (at_builtin; refine wpList_append_own _ rfl _ _ 22 rfl w1.heap.size 3 i0 (.int .i64 0) 1 8 uslice hi0 hz0 hz1 hz2 rfl (by decide) _ _ _ rfl (Hown2.out.alloc _) ⟨w2.heap.size, 0, none⟩ 1 1 [.int .i64 sm] rfl rfl (cell_one_new _ _ _) (by intro u hu; simp at hu; subst hu; rfl) (by unfold maxLen; omega) (by omega) (by simp; omega) ?_; intro v' w3 hown3 hgrow _; have hb3 : Below w1.heap.size w1 w3 := (hbi.alloc hszi _).grown hgrow (by simp; omega) (fun j hj => Hob.out j hj); have Hown3 := hid hown3; clear hown3 hgrow)
            go_roundw
            case rel => exact ⟨c + 1, by omega, by go_num, by rw [hmn.out], by rw [Hst.out, ← hcv.out, List.map_append]; exact Hown3.out, hb3⟩
            case measure => simp [intOf]; omega
        · have hge5 : (n5 : Int) ≤ (k : Int) := by omega
          have hcv := hid (show sm = conv ds s z from by rw [HSm.out]; exact conv_upto ds s z k (by omega) (.inr (by rw [← Hn5.out]; omega)))
          have hmn := hid (show pz + (k : Int) = ppF h P Q (c + 1) from by rw [Hpp.out, show min (z + 1) ds.length = k from by rw [← Hn5.out]; omega])
          clear hlk5
          go_wp2_with (at_builtin; refine wpList_append_own _ rfl _ _ 22 rfl w1.heap.size 3 i0 (.int .i64 0) 1 8 uslice hi0 hz0 hz1 hz2 rfl (by decide) _ _ _ rfl (Hown2.out.alloc _) ⟨w2.heap.size, 0, none⟩ 1 1 [.int .i64 sm] rfl rfl (cell_one_new _ _ _) (by intro u hu; simp at hu; subst hu; rfl) (by unfold maxLen; omega) (by omega) (by simp; omega) ?_; intro v' w3 hown3 hgrow _; have hb3 : Below w1.heap.size w1 w3 := (hbi.alloc hszi _).grown hgrow (by simp; omega) (fun j hj => Hob.out j hj); have Hown3 := hid hown3; clear hown3 hgrow)
          go_roundw
          case rel => exact ⟨c + 1, by omega, by go_num, by rw [hmn.out], by rw [Hst.out, ← hcv.out, List.map_append]; exact Hown3.out, hb3⟩
          case measure => simp [intOf]; omega
    · have hge : (L : Int) ≤ (c : Int) := by omega
      have hkn : c = L := by omega
      have Hk := hid hkn
      have Hown := hid hown
      clear hlk hkn hown
      go_wp2_with fail
      refine (rsLength_any n P Q _ hn64 P8 Q1 Q8).mono ?_
      rintro e w' ⟨rfl, rfl⟩
      rw [← HL.out]
      go_wp2
      go_ret2
      have ho := Hown.out
      rw [Hk.out] at ho
      have R : Res 3 w1.heap.size wr _ (tab L (bpF h s P Q)) := Res.owns (by rw [tab_len]; exact ho)
      exact ⟨_, by rw [← Hk.out]; rfl, R.mono B1.size, B1.trans (hb.mono B1.size)⟩

end Go.Proofs.Ytjbpfphfajohnaa
