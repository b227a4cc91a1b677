
import Derived.Test.YtichkianildkgaaGreatOa
import Derived.Test.YtichkianildkgaaGreatEm
import Derived.Test.YtichkianildkgaaGreatEg
import Derived.Test.YtichkianildkgaaGreatCm
import Derived.Test.YtichkianildkgaaGreatCs
import Derived.Test.YtichkianildkgaaGreatSu
import Derived.Test.YtichkianildkgaaGreatWin
import Derived.Deep.QuietTactic
import Derived.BigQuiet
namespace Go.Proofs.YtichkianildkgaaGreat
open Go.RowKit BitX Go.MemX Go.Ch6 Go.ShX
set_option linter.unusedVariables false

set_option maxHeartbeats 400000 in
theorem wdSum_any (v : Value) (xs : List Int) (w : World) (hs : Sl w v xs) (hl : xs.length ≤ 64) (hi : InP (-100000) 100000 xs) :
    Calls Tryz.prog 76 #[v] w fun e w' => e = .returned (.int .i64 (sumL xs)) ∧ w = w' := by
  obtain ⟨a, n, cap, rfl, hn, hrd⟩ := hs.rd
  have Hn := hid hn
  have Hrd := hid hrd
  have hl' : n ≤ 64 := by omega
  clear hn hrd 
  have hj : InP (-100000) 100000 (xs) := hi
  have hjl : (xs).length ≤ 64 := hl
  have Hi := hid hi
  have Hj := hid hj
  have Hjl := hid hjl
  clear hi hj hjl
  clear hl hs
  go_enter Tryz.func76, Tryz.ntmps76
  go_wp2_with fail
  go_loop [3, 8] (fun s0 i => ∃ k : Nat, k ≤ n ∧ i = .int .i64 k ∧ s0 = .int .i64 (sumL ((xs).take k)))
    (fun _ i => n - (intOf i).toNat)
  case atStart => exact ⟨0, by omega, rfl, rfl⟩
  case round =>
    obtain ⟨k, hk, rfl, rfl⟩ := hrel
    by_cases hlk : k < n
    · obtain ⟨x, hkx⟩ := get_lt xs k (by rw [← Hn.out]; exact hlk)
      obtain ⟨bb, oo, hix, hbb, hce⟩ := Hrd.out.at (P := Tryz.prog) (T := 24) n cap uslice sone hkx hlk
      obtain ⟨x1, x2⟩ := Hi.out.at hkx
      have hst := sumL_step (xs) k _ (hkx)
      have hsb := sumL_in (n := 64) (Hj.out) (Hjl.out) k
      have hsb1 : -10000000 ≤ sumL ((xs).take k) := by omega
      have hsb2 : sumL ((xs).take k) ≤ 10000000 := by omega
      clear hsb
      have Hst := hid hst
      clear hst hkx
      generalize sumL ((xs).take k) = z at *
      go_wp2
      go_round
      case rel => exact ⟨k + 1, by omega, by go_num, by rw [Hst.out]⟩
      case measure => simp [intOf]; omega
    · have hge : (n : Int) ≤ (k : Int) := by omega
      have hkn : k = xs.length := by rw [← Hn.out]; omega
      have Hk := hid hkn
      clear hkn hlk
      go_wp2
      go_ret
      exact ⟨ret_i (by rw [Hk.out, List.take_length]), rfl⟩



namespace Mb
/-- a slice of samples, with what a cut wants -/
theorem sl_open {w : World} {v : Value} {xs : List Int} (h : Sl w v xs) : ∃ a n cap, v = .slice a n cap ∧ n = xs.length ∧ (0 < n → ∃ b off, a = some ⟨b, off, none⟩ ∧ n ≤ cap ∧ Sl w (.slice (some ⟨b, off, none⟩) n cap) xs) := by
  have h0 := h
  rcases h with ⟨rfl, a, cap, rfl⟩ | ⟨b, off, n, cap, rfl, hn, hp, hc, hlt, hx⟩
  · exact ⟨a, 0, cap, rfl, rfl, fun h => by omega⟩
  · exact ⟨some ⟨b, off, none⟩, n, cap, rfl, hn, fun _ => ⟨b, off, rfl, hc, h0⟩⟩
def blk (s : List Int) (p r : Nat) : List Int := (s.take (p + r)).drop p
theorem blk_in {s : List Int} (h : InP (-100000) 100000 s) (p r : Nat) : InP (-100000) 100000 (blk s p r) := fun x hx => h x (List.mem_of_mem_take (List.mem_of_mem_drop hx))
theorem blk_len {s : List Int} {p r : Nat} (h : p + r ≤ s.length) : (blk s p r).length = r := by unfold blk; rw [List.length_drop, List.length_take]; omega
theorem cut_lh {a off n cap p q : Nat} (hc : n ≤ cap) (hq : 1 ≤ q) (h : p + q ≤ n) : ∀ W : World, (Instr.slice 24 (.slice (some ⟨a, off, none⟩) n cap) (some (.int .i64 (p : Int))) (some (.int .i64 ((p : Int) + (q : Int)))) none).run Tryz.prog W = .ok (.slice (some ⟨a, off + p, none⟩) q (cap - p)) W := fun W => by
  rw [run_slice_lh (P := Tryz.prog) W 24 (some ⟨a, off, none⟩) n cap uslice .i64 .i64 (p : Int) ((p : Int) + (q : Int)) (by omega) (by omega) (by omega), sone]
  have h1 : ¬ cap = p := by omega
  have h2 : ((p : Int) + (q : Int)).toNat - p = q := by omega
  simp [sliced, Addr.add, h1, h2]
def mnF (r e : Nat) (mode : Int) (s : List Int) (i : Nat) : Int := shiftI (sumL (blk s (i * r) r)) e mode
def mnL (r e : Nat) (mode : Int) (s : List Int) : List Int := tab (s.length / r) (mnF r e mode s)
/-- the exponent of a rate -/
def exN (r : Int) : Option Nat := if r = 1 then some 0 else if r = 2 then some 1 else if r = 4 then some 2 else if r = 8 then some 3 else none
theorem exN_some {r : Int} {e : Nat} (h : exN r = some e) : e ≤ 3 ∧ r = 2 ^ e ∧ 1 ≤ r ∧ r ≤ 8 := by
  unfold exN at h
  split at h
  · cases h; omega
  · split at h
    · cases h; omega
    · split at h
      · cases h; omega
      · split at h
        · cases h; omega
        · cases h
theorem exN_pow {r : Int} {e : Nat} (h : e ≤ 3) (hr : r = 2 ^ e) : exN r = some e := by
  have : e = 0 ∨ e = 1 ∨ e = 2 ∨ e = 3 := by omega
  rcases this with rfl | rfl | rfl | rfl <;> (subst hr; rfl)
theorem exN_none {r : Int} (h : ∀ e : Nat, e ≤ 3 → r ≠ 2 ^ e) : exN r = none := by
  unfold exN
  rw [if_neg (show ¬ r = 1 from h 0 (by omega)), if_neg (show ¬ r = 2 from h 1 (by omega)), if_neg (show ¬ r = 4 from h 2 (by omega)), if_neg (show ¬ r = 8 from h 3 (by omega))]
def mbB (s : List Int) (r mode : Int) : Bool := sigB s && ((exN r).isSome && moB mode)
def mbE (r : Int) : Nat := match exN r with | some e => e | none => 0
theorem mbB_n1 {s : List Int} {r mode : Int} (h : sigB s = false) : mbB s r mode = false := by unfold mbB; rw [h]; rfl
theorem mbB_n2 {s : List Int} {r mode : Int} (h : exN r = none) : mbB s r mode = false := by unfold mbB; rw [h]; simp
theorem mbB_n3 {s : List Int} {r mode : Int} (h : moB mode = false) : mbB s r mode = false := by unfold mbB; rw [h]; simp
theorem mbB_g {s : List Int} {r mode : Int} {e : Nat} (h : sigB s = true) (h2 : exN r = some e) (h3 : moB mode = true) : mbB s r mode = true ∧ mbE r = e := by unfold mbB mbE; rw [h, h2, h3]; exact ⟨rfl, rfl⟩
theorem blk_sum {s : List Int} (h : InP (-100000) 100000 s) {p r : Nat} (hr : r ≤ 8) (hp : p + r ≤ s.length) : -1000000000000 ≤ sumL (blk s p r) ∧ sumL (blk s p r) ≤ 1000000000000 := by
  have := sumL_boundc _ (blk_in h p r)
  rw [blk_len hp] at this
  omega
theorem exN_out {r : Int} (h : ¬ (1 ≤ r ∧ r ≤ 8)) : exN r = none := by
  unfold exN
  rw [if_neg (by omega), if_neg (by omega), if_neg (by omega), if_neg (by omega)]
theorem exN_mid {r P : Int} {k : Nat} (hP : P = 2 ^ k) (h1 : ∀ j : Nat, j < k → (2 : Int) ^ j < r) (h2 : r ≤ P) (hne : ¬ P = r) : exN r = none := exN_none fun e he h => by
  rcases Nat.lt_trichotomy e k with h3 | h3 | h3
  · have := h1 e h3; omega
  · rw [h3] at h; omega
  · have h4 : (2 : Nat) ^ k < 2 ^ e := Nat.pow_lt_pow_right (by decide) h3
    have h5 : (2 : Int) ^ k < 2 ^ e := by exact_mod_cast h4
    omega
theorem pow_k3 {r : Int} {k : Nat} (h1 : ∀ j : Nat, j < k → (2 : Int) ^ j < r) (h : r ≤ 8) : k ≤ 3 := by
  rcases Nat.lt_or_ge 3 k with h3 | h3
  · have := h1 3 h3; omega
  · exact h3
theorem div_end {n q c p : Nat} (hq : 1 ≤ q) (hp : p = c * q) (h1 : p ≤ n) (h2 : ¬ p + q ≤ n) : c = n / q := by
  symm
  apply Nat.div_eq_of_lt_le
  · omega
  · rw [Nat.succ_mul]; omega
theorem mode3 {m : Int} (h : moB m = true) : m = 0 ∨ m = 1 ∨ m = 2 := by have := moB_t h; omega
theorem bl_sl {w : World} {b off n cap p r : Nat} {s : List Int} (h : Sl w (.slice (some ⟨b, off, none⟩) n cap) s) (hn : n = s.length) (hc : n ≤ cap) (hr : 1 ≤ r) (hp : p + r ≤ n) : Sl w (.slice (some ⟨b, off + p, none⟩) r (cap - p)) (blk s p r) := by
  have := Sl.cut h (lo := p) (hi := p + r) (c2 := cap - p) (by omega) (by omega) (by omega)
  rw [show p + r - p = r from by omega] at this
  exact this


set_option maxRecDepth 20000 in
set_option maxHeartbeats 2000000 in
theorem spec_MeanBlocks_any (v : Value) (s : List Int) (r mode : Int) (w : World) (hs : Sl w v s) :
    Calls Tryz.prog 31 #[v, .int .i64 r, .int .i64 mode] w (Gives w (onL (mbB s r mode) (mnL r.toNat (mbE r) mode s)) (mbB s r mode)) := by
  obtain ⟨a, n, cap, rfl, hn, hop⟩ := sl_open hs
  have HS := hid hs
  have Hn := hid hn
  have Hop := hid hop
  clear hs hn hop
  obtain ⟨i0, hi0, hz0, hz1, hz2⟩ := info_parts iint
  go_enter Tryz.func31, Tryz.ntmps31
  go_wp2_with fail
  go_loop [8] (fun i => ∃ k : Nat, k ≤ 10 ∧ i = .int .i64 k ∧ Hid (∀ j : Nat, j < k → (2 : Int) ^ j < r))
    (fun i => 10 - (intOf i).toNat)
  case atStart => exact ⟨0, by omega, rfl, hid fun j hj => by omega⟩
  case round =>
    obtain ⟨k, hk, rfl, hpw⟩ := hrel
    have Hpw := hid hpw
    clear hpw
    obtain ⟨P, hP⟩ : ∃ P, P = (2 : Int) ^ k := ⟨_, rfl⟩
    have hP10 : P ≤ 1024 := by
      have h1 : (2 : Nat) ^ k ≤ 2 ^ 10 := Nat.pow_le_pow_right (by decide) hk
      have h2 : (2 : Int) ^ k ≤ 2 ^ 10 := by exact_mod_cast h1
      omega
    have hP0 : 0 < P := by rw [hP]; exact pow1 k
    have e1 : wrap64 (1 * 2 ^ k) = P := by rw [Int.one_mul, ← hP]; exact IntWalk.wrap64_in _ (by omega)
    have e2 : wrap64 (2 ^ k) = P := by rw [← hP]; exact IntWalk.wrap64_in _ (by omega)
    have e3 : wrap64 (1 * 2 ^ min k 64) = P := by rw [Nat.min_eq_left (by omega)]; exact e1
    have e4 : wrap64 (2 ^ min k 64) = P := by rw [Nat.min_eq_left (by omega)]; exact e2
    have HP := hid hP
    clear hP
    by_cases hc : P < r
    · by_cases hk10 : k < 10
      · have Hpw2 := hid (show ∀ j : Nat, j < k + 1 → (2 : Int) ^ j < r from fun j hj => by
          by_cases e : j = k
          · rw [e, ← HP.out]; exact hc
          · exact Hpw.out.out j (by omega))
        go_wp2_with fail
        go_round
        case rel => exact ⟨k + 1, by omega, by go_num, Hpw2⟩
        case measure => simp [intOf]; omega
      · have hk11 : k = 10 := by omega
        have hr1 : (1024 : Int) < r := by have := HP.out; rw [hk11] at this; omega
        clear hc HP e1 e2 e3 e4 hP10 hP0 hk10
        subst hk11
        cases h0 : sigB s
        · have H0 := hid h0
          clear h0
          go_wp2_with fail
          refine (wdSignal_is _ s false _ HS.out H0.out).mono ?_
          rintro e w' ⟨rfl, rfl⟩
          go_wp2_with fail
          go_ret2
          exact gives_no (mbB_n1 H0.out) (Below.refl _ _)
        · have H0 := hid h0
          clear h0
          by_cases hr : 1 ≤ r ∧ r ≤ 8
          · exfalso; omega
          · have HR := hid (show decide (1 ≤ r ∧ r ≤ 8) = false from decide_eq_false hr)
            have HN := hid (exN_out hr)
            clear hr
            go_wp2_with fail
            refine (wdSignal_is _ s true _ HS.out H0.out).mono ?_
            rintro e w' ⟨rfl, rfl⟩
            go_wp2_with fail
            refine (l1In_is _ _ _ false _ HR.out).mono ?_
            rintro e w' ⟨rfl, rfl⟩
            go_wp2_with fail
            go_ret2
            exact gives_no (mbB_n2 HN.out) (Below.refl _ _)
    · have hc2 : r ≤ P := by omega
      cases h0 : sigB s
      · have H0 := hid h0
        clear h0
        go_wp2_with fail
        refine (wdSignal_is _ s false _ HS.out H0.out).mono ?_
        rintro e w' ⟨rfl, rfl⟩
        go_wp2_with fail
        go_ret2
        exact gives_no (mbB_n1 H0.out) (Below.refl _ _)
      · have H0 := hid h0
        clear h0
        by_cases hr : 1 ≤ r ∧ r ≤ 8
        · have hk3 := pow_k3 Hpw.out.out hr.2
          have HR := hid (show decide (1 ≤ r ∧ r ≤ 8) = true from decide_eq_true hr)
          by_cases hPr : P = r
          · have HX := hid (exN_pow hk3 (show r = 2 ^ k from by rw [← HP.out]; exact hPr.symm))
            have hne : (P != r) = false := bne_eq_false_iff_eq.2 hPr
            cases hm : moB mode
            · have HM := hid (show (shB (k : Int) && moB mode) = false from by rw [hm]; simp)
              have HN := hid (mbB_n3 (s := s) (r := r) hm)
              clear hm hPr hr hc
              go_wp2_with fail
              refine (wdSignal_is _ s true _ HS.out H0.out).mono ?_
              rintro e w' ⟨rfl, rfl⟩
              go_wp2_with fail
              refine (l1In_is _ _ _ true _ HR.out).mono ?_
              rintro e w' ⟨rfl, rfl⟩
              go_wp2_with fail
              refine (wdMode_isq _ _ false _ HM.out).mono ?_
              rintro e w' ⟨rfl, rfl⟩
              go_wp2_with fail
              go_ret2
              exact gives_no HN.out (Below.refl _ _)
            · have HM := hid (show (shB (k : Int) && moB mode) = true from by rw [hm]; unfold shB; rw [decide_eq_true (by omega)]; rfl)
              have HG := hid (mbB_g H0.out HX.out hm)
              have HM3 := hid (mode3 hm)
              obtain ⟨q, rfl⟩ : ∃ q : Nat, r = q := ⟨r.toNat, by omega⟩
              have q1 : 1 ≤ q := by omega
              have q2 : q ≤ 8 := by omega
              clear hm hPr hr hc
              go_wp2_with fail
              refine (wdSignal_is _ s true _ HS.out H0.out).mono ?_
              rintro e w' ⟨rfl, rfl⟩
              go_wp2_with fail
              refine (l1In_is _ _ _ true _ HR.out).mono ?_
              rintro e w' ⟨rfl, rfl⟩
              go_wp2_with fail
              refine (wdMode_isq _ _ true _ HM.out).mono ?_
              rintro e w' ⟨rfl, rfl⟩
              go_wp2_with fail
              have hn64 : n ≤ 64 := by have h1 := (sigB_t H0.out).1; have h2 := Hn.out; omega
              go_loopw [9, 10] (fun v i wr => ∃ c p : Nat, p ≤ n ∧ Hid (p = c * q) ∧ i = .int .i64 p ∧ wr.ownsRow w.heap.size 3 1 v c ((tab c (mnF q k mode s)).map (Value.int .i64)) ∧ c ≤ 64 ∧ Below w.heap.size w wr)
                (fun _ i _ => 80 - (intOf i).toNat)
              case atStart => exact ⟨0, 0, by omega, hid (by omega), rfl, World.ownsRow_nil _ _ _ _, by omega, Below.refl _ _⟩
              case round =>
                obtain ⟨c, p, hpn, Hp, rfl, hown, hc64, hb⟩ := hrel
                have hsz : w.heap.size ≤ wr.heap.size := hb.size
                by_cases hlk : p + q ≤ n
                · obtain ⟨b, off, ha, hcap, hsl0⟩ := Hop.out (by omega)
                  subst ha
                  have hcut := cut_lh (a := b) (off := off) (n := n) (cap := cap) (p := p) (q := q) hcap q1 hlk
                  have hsl := bl_sl (hsl0.kept hb) Hn.out hcap q1 hlk
                  have hst := tab_step c (mnF q k mode s)
                  rw [show mnF q k mode s c = shiftI (sumL (blk s p q)) k mode from by unfold mnF; rw [← Hp.out]] at hst
                  have hsm := blk_sum (sigB_t H0.out).2 q2 (show p + q ≤ s.length from by rw [← Hn.out]; exact hlk)
                  have Hp2 := hid (show p + q = (c + 1) * q from by rw [Hp.out, Nat.succ_mul])
                  have hcc : c + 1 ≤ 64 := by
                    have h1 := Hp2.out
                    have h2 : (c + 1) * 1 ≤ (c + 1) * q := Nat.mul_le_mul_left _ q1
                    omega
                  generalize hys : tab c (mnF q k mode s) = ys at hst hown
                  have Hob := hid (ownsRow_base hown)
                  have Hst := hid hst
                  have Hown := hid hown
                  have Hsl := hid hsl
                  have Hsm := hid hsm
                  have HBI := hid (blk_in (sigB_t H0.out).2 p q)
                  have HBL := hid (blk_len (show p + q ≤ s.length from by rw [← Hn.out]; exact hlk))
                  clear hst hown hys hsl hsm hsl0
                  go_wp2_with fail
                  refine (wdSum_any _ (blk s p q) _ Hsl.out (by rw [HBL.out]; omega) HBI.out).mono ?_
                  rintro e w' ⟨rfl, rfl⟩
                  go_wp2_with fail
                  refine (wdShift_any _ k mode _ (by omega) Hsm.out.1 Hsm.out.2 HM3.out).mono ?_
                  rintro e w' ⟨rfl, rfl⟩
                  generalize shiftI (sumL (blk s p q)) k mode = y at *
                  go_wp2_with (at_builtin; refine wpList_append_own _ rfl _ _ 24 rfl w.heap.size 3 i0 (.int .i64 0) 1 8 uslice hi0 hz0 hz1 hz2 rfl (by decide) _ _ _ rfl (Hown.out.alloc _) ⟨wr.heap.size, 0, none⟩ 1 1 [.int .i64 (y)] rfl rfl ?c1 ?c2 ?c3 ?c4 ?c5 ?_)
                  case c1 => exact cell_one_new _ _ _
                  case c2 => intro u hu; simp at hu; subst hu; rfl
                  case c3 => unfold maxLen; omega
                  case c4 => omega
                  case c5 => simp; omega
                  intro v' w3 hown3 hgrow _
                  have hb3 : Below w.heap.size w w3 := (hb.alloc hsz _).grown hgrow (by simp; omega) (fun j hj => Hob.out j hj)
                  have Hown3 := hid hown3
                  clear hown3 hgrow
                  go_wp2
                  go_roundw
                  case rel => exact ⟨c + 1, p + q, by omega, Hp2, by go_num, by rw [Hst.out, List.map_append]; exact Hown3.out, hcc, hb3⟩
                  case measure => simp [intOf]; omega
                · have hge : (n : Int) < (p : Int) + (q : Int) := by omega
                  have hce : c = s.length / q := div_end q1 (Hp.out) (by rw [← Hn.out]; exact hpn) (by rw [← Hn.out]; exact hlk)
                  rw [hce] at hown
                  have hres : Res 3 w.heap.size wr u9 (mnL q k mode s) := by
                    unfold mnL
                    exact Res.owns (by rw [tab_len]; exact hown)
                  have HE := hid (show Gives w (onL (mbB s (q : Int) mode) (mnL q (mbE (q : Int)) mode s)) (mbB s (q : Int) mode) (.returned (.tuple #[u9, .bool true])) wr from by rw [HG.out.2]; exact gives_yes HG.out.1 hres hb)
                  clear hlk hce hown hres
                  go_wp2
                  go_ret2
                  exact HE.out
          · have HN := hid (exN_mid HP.out Hpw.out.out (by omega) hPr)
            have hne : (P != r) = true := bne_iff_ne.2 hPr
            clear hPr hr hc
            go_wp2_with fail
            refine (wdSignal_is _ s true _ HS.out H0.out).mono ?_
            rintro e w' ⟨rfl, rfl⟩
            go_wp2_with fail
            refine (l1In_is _ _ _ true _ HR.out).mono ?_
            rintro e w' ⟨rfl, rfl⟩
            go_wp2_with fail
            go_ret2
            exact gives_no (mbB_n2 HN.out) (Below.refl _ _)
        · have HR := hid (show decide (1 ≤ r ∧ r ≤ 8) = false from decide_eq_false hr)
          have HN := hid (exN_out hr)
          clear hr
          go_wp2_with fail
          refine (wdSignal_is _ s true _ HS.out H0.out).mono ?_
          rintro e w' ⟨rfl, rfl⟩
          go_wp2_with fail
          refine (l1In_is _ _ _ false _ HR.out).mono ?_
          rintro e w' ⟨rfl, rfl⟩
          go_wp2_with fail
          go_ret2
          exact gives_no (mbB_n2 HN.out) (Below.refl _ _)


/-- what slices.Index finds -/
def IxP (xs : List Int) (x e : Int) : Prop := (e = -1 ∧ ∀ i, i < xs.length → at0 xs i ≠ x) ∨ ∃ i, i < xs.length ∧ e = (i : Int) ∧ at0 xs i = x


set_option maxRecDepth 20000 in
set_option maxHeartbeats 1000000 in
theorem index_any (v : Value) (xs : List Int) (x : Int) (w : World) (hs : Sl w v xs) (hl : xs.length ≤ 64) :
    Calls Tryz.prog 93 #[v, .int .i64 x] w fun e w' => ∃ k, e = .returned (.int .i64 k) ∧ IxP xs x k ∧ w = w' := by
  obtain ⟨a, n, cap, rfl, hn, hrd⟩ := hs.rd
  have Hn := hid hn
  have Hrd := hid hrd
  have hl' : n ≤ 64 := by omega
  clear hs hn hrd hl
  go_enter Tryz.func93, Tryz.ntmps93
  go_wp2_with fail
  go_loop [8] (fun i => ∃ k : Nat, k ≤ n ∧ i = .int .i64 k ∧ Hid (∀ i, i < k → at0 xs i ≠ x))
    (fun i => n - (intOf i).toNat)
  case atStart => exact ⟨0, by omega, rfl, hid fun i hi => by omega⟩
  case round =>
    obtain ⟨k, hk, rfl, hno⟩ := hrel
    have Hno := hid hno
    clear hno
    by_cases hlk : k < n
    · obtain ⟨y, hky⟩ := get_lt xs k (by rw [← Hn.out]; exact hlk)
      obtain ⟨bb, oo, hix, hbb, hce⟩ := Hrd.out.at (P := Tryz.prog) (T := 24) n cap uslice sone hky hlk
      have Hky := hid (at0_of hky)
      clear hky
      by_cases hxy : x = y
      · have hne : (x == y) = true := beq_iff_eq.2 hxy
        have Hix := hid (show IxP xs x (k : Int) from .inr ⟨k, by rw [← Hn.out]; exact hlk, rfl, Hky.out.trans hxy.symm⟩)
        clear hxy
        go_wp2_with fail
        go_ret
        exact ⟨_, rfl, Hix.out, rfl⟩
      · have hne : (x == y) = false := by rw [beq_eq_false_iff_ne]; exact hxy
        have Hs := hid (show ∀ i, i < k + 1 → at0 xs i ≠ x from fun i hi => by
          by_cases e : i = k
          · rw [e, Hky.out]; exact fun h => hxy h.symm
          · exact Hno.out.out i (by omega))
        clear hxy
        go_wp2_with fail
        go_round
        case rel => exact ⟨k + 1, by omega, by go_num, Hs⟩
        case measure => simp [intOf]; omega
    · have hge : (n : Int) ≤ (k : Int) := by omega
      have Hix := hid (show IxP xs x (-1) from .inl ⟨rfl, fun i hi => Hno.out.out i (by rw [← Hn.out] at hi; omega)⟩)
      clear hlk
      go_wp2_with fail
      go_ret
      exact ⟨_, rfl, Hix.out, rfl⟩
/-- the exponent that the program finds -/
def exI (r : Int) : Int := match exN r with | some e => e | none => -1
theorem ix_ex {r e : Int} (h : IxP [1, 2, 4, 8] r e) : e = exI r := by
  rcases h with ⟨rfl, h⟩ | ⟨i, hi, rfl, h⟩
  · have h0 := h 0 (by decide)
    have h1 := h 1 (by decide)
    have h2 := h 2 (by decide)
    have h3 := h 3 (by decide)
    unfold exI exN
    rw [if_neg (fun e => h0 e.symm), if_neg (fun e => h1 e.symm), if_neg (fun e => h2 e.symm), if_neg (fun e => h3 e.symm)]
  · have : i = 0 ∨ i = 1 ∨ i = 2 ∨ i = 3 := by simp at hi; omega
    rcases this with rfl | rfl | rfl | rfl <;> (subst h; rfl)
set_option maxRecDepth 20000 in
set_option maxHeartbeats 1000000 in
theorem exponentOf_any (r : Int) (w : World) :
    Calls Tryz.prog 71 #[.int .i64 r] w fun e w' => e = .returned (.int .i64 (exI r)) ∧ Below w.heap.size w w' := by
  have hblk : Blk 3 (w.alloc (.cells #[.int .i64 1, .int .i64 2, .int .i64 4, .int .i64 8] 3)) w.heap.size [1, 2, 4, 8] := heap_alloc_new _ _
  have hsl := (hblk.res (Nat.le_refl _)).sl
  have Hsl := hid hsl
  clear hblk hsl
  go_enter Tryz.func71, Tryz.ntmps71
  go_wp2_with fail
  refine (index_any _ [1, 2, 4, 8] r _ Hsl.out (by decide)).mono ?_
  rintro e w1 ⟨k, rfl, hk, rfl⟩
  have Hk := hid (ix_ex hk)
  clear hk
  go_wp2_with fail
  go_ret
  exact ⟨ret_i Hk.out, bel_alloc _ _⟩


theorem exI_none {r : Int} (h : exN r = none) : exI r = -1 := by unfold exI; rw [h]
theorem exI_some {r : Int} {e : Nat} (h : exN r = some e) : exI r = (e : Int) := by unfold exI; rw [h]
theorem blk_part {s : List Int} (h : InP (-100000) 100000 s) {p r : Nat} (hr : r ≤ 8) (hp : p + r ≤ s.length) : (∀ k, k ≤ (blk s p r).length → (sumL ((blk s p r).take k)).natAbs < 16777216) ∧ ∀ x ∈ blk s p r, x.natAbs < 16777216 := by
  constructor
  · intro k _
    have := sumL_in (n := 8) (blk_in h p r) (by rw [blk_len hp]; exact hr) k
    omega
  · intro x hx
    have := blk_in h p r x hx
    omega
theorem div_mul_le {n q c : Nat} (hq : 1 ≤ q) (h : c < n / q) : c * q + q ≤ n := by
  have h1 : (c + 1) * q ≤ n / q * q := Nat.mul_le_mul_right q h
  have h2 := Nat.div_mul_le_self n q
  rw [Nat.succ_mul] at h1; omega


set_option maxRecDepth 20000 in
set_option maxHeartbeats 2000000 in
theorem impl_MeanBlocks_any (v : Value) (s : List Int) (r mode : Int) (w : World) (hs : Sl w v s) :
    Calls Tryz.prog 30 #[v, .int .i64 r, .int .i64 mode] w (Gives w (onL (mbB s r mode) (mnL r.toNat (mbE r) mode s)) (mbB s r mode)) := by
  obtain ⟨a, n, cap, rfl, hn, hop⟩ := sl_open hs
  have HS := hid hs
  have Hn := hid hn
  have Hop := hid hop
  clear hs hn hop
  cases h0 : sigB s
  · have H0 := hid h0
    clear h0
    go_enter Tryz.func30, Tryz.ntmps30
    go_wp2_with fail
    refine (exponentOf_any r _).mono ?_
    rintro e0 w1 ⟨rfl, B1⟩
    go_wp2_with fail
    refine (impl_IsSignal_is _ s false _ (HS.out.kept B1) H0.out).mono ?_
    rintro e w' ⟨rfl, rfl⟩
    go_wp2_with fail
    go_ret2
    exact gives_no (mbB_n1 H0.out) B1
  · have H0 := hid h0
    clear h0
    cases hx : exN r with
    | none =>
      have HN := hid (mbB_n2 (s := s) (mode := mode) hx)
      have HE := hid (exI_none hx)
      clear hx
      go_enter Tryz.func30, Tryz.ntmps30
      go_wp2_with fail
      refine (exponentOf_any r _).mono ?_
      rintro e0 w1 ⟨rfl, B1⟩
      rw [HE.out]
      go_wp2_with fail
      refine (impl_IsSignal_is _ s true _ (HS.out.kept B1) H0.out).mono ?_
      rintro e w' ⟨rfl, rfl⟩
      go_wp2_with fail
      go_ret2
      exact gives_no HN.out B1
    | some k =>
      obtain ⟨hk3, hrp, hr1, hr2⟩ := exN_some hx
      clear hrp
      have HE := hid (exI_some hx)
      have HX := hid hx
      clear hx
      cases hm : moB mode
      · have HM := hid hm
        have HN := hid (mbB_n3 (s := s) (r := r) hm)
        clear hm
        go_enter Tryz.func30, Tryz.ntmps30
        go_wp2_with fail
        refine (exponentOf_any r _).mono ?_
        rintro e0 w1 ⟨rfl, B1⟩
        rw [HE.out]
        go_wp2_with fail
        refine (impl_IsSignal_is _ s true _ (HS.out.kept B1) H0.out).mono ?_
        rintro e w' ⟨rfl, rfl⟩
        go_wp2_with fail
        refine (isMode_isq _ false _ HM.out).mono ?_
        rintro e w' ⟨rfl, rfl⟩
        go_wp2_with fail
        go_ret2
        exact gives_no HN.out B1
      · have HM := hid hm
        have HG := hid (mbB_g H0.out HX.out hm)
        have HM3 := hid (mode3 hm)
        obtain ⟨q, rfl⟩ : ∃ q : Nat, r = q := ⟨r.toNat, by omega⟩
        have q1 : 1 ≤ q := by omega
        have q2 : q ≤ 8 := by omega
        have hn64 : n ≤ 64 := by have h1 := (sigB_t H0.out).1; have h2 := Hn.out; omega
        obtain ⟨m, hm2⟩ : ∃ m, m = n / q := ⟨_, rfl⟩
        have hm64 : m ≤ 64 := by rw [hm2]; exact Nat.le_trans (Nat.div_le_self _ _) hn64
        have hdi : (n : Int) / (q : Int) = (m : Int) := by rw [hm2]; rfl
        have hq0 : (q : Int) ≠ 0 := by omega
        have hqb : ((q : Int) == 0) = false := by rw [beq_eq_false_iff_ne]; exact hq0
        have hmk := run_make_ints (P := Tryz.prog) 24 3 uslice iint m (by omega)
        have Hm2 := hid hm2
        clear hm hm2 hr1 hr2
        go_enter Tryz.func30, Tryz.ntmps30
        go_wp2_with fail
        refine (exponentOf_any _ _).mono ?_
        rintro e0 w1 ⟨rfl, B1⟩
        rw [HE.out]
        go_wp2_with fail
        refine (impl_IsSignal_is _ s true _ (HS.out.kept B1) H0.out).mono ?_
        rintro e w' ⟨rfl, rfl⟩
        go_wp2_with fail
        refine (isMode_isq _ true _ HM.out).mono ?_
        rintro e w' ⟨rfl, rfl⟩
        go_wp2_with fail
        clear hdi hq0 hqb hmk
        go_loopw [33] (fun i wr => ∃ c : Nat, c ≤ m ∧ i = .int .i64 c ∧ Blk 3 wr w1.heap.size (upTo (tab m (mnF q k mode s)) c) ∧ Below w1.heap.size w1 wr)
          (fun i _ => m - (intOf i).toNat)
        case atStart => exact ⟨0, by omega, rfl, by rw [upTo_zero, tab_len]; exact heap_alloc_new _ _, bel_alloc _ _⟩
        case round =>
          obtain ⟨c, hc, rfl, hblk, hb⟩ := hrel
          by_cases hlk : c < m
          · obtain ⟨p, hp⟩ : ∃ p, p = c * q := ⟨_, rfl⟩
            have hpq : p + q ≤ n := by rw [hp]; exact div_mul_le q1 (by rw [← Hm2.out]; exact hlk)
            have hpi : (c : Int) * (q : Int) = (p : Int) := by rw [hp]; exact (Int.natCast_mul c q).symm
            have hpj : ((c : Int) + 1) * (q : Int) = (p : Int) + (q : Int) := by rw [Int.add_mul, hpi, Int.one_mul]
            have e1 : wrap64 ((c : Int) * (q : Int)) = (p : Int) := by rw [hpi]; exact IntWalk.wrap64_in _ (by omega)
            have e2 : wrap64 (((c : Int) + 1) * (q : Int)) = (p : Int) + (q : Int) := by rw [hpj]; exact IntWalk.wrap64_in _ (by omega)
            have e3 : IntKind.i64.wrap ((c : Int) * (q : Int)) = (p : Int) := by rw [hpi]; exact IntWalk.i64_in _ (by omega)
            have e4 : IntKind.i64.wrap (((c : Int) + 1) * (q : Int)) = (p : Int) + (q : Int) := by rw [hpj]; exact IntWalk.i64_in _ (by omega)
            obtain ⟨b, off, ha, hcap, hsl0⟩ := Hop.out (by omega)
            subst ha
            have hcut := cut_lh (a := b) (off := off) (n := n) (cap := cap) (p := p) (q := q) hcap q1 hpq
            have hsl := bl_sl (hsl0.kept (bel_step B1 hb)) Hn.out hcap q1 hpq
            have hkx : (tab m (mnF q k mode s))[c]? = some (mnF q k mode s c) := tab_get _ _ _ hlk
            rw [show mnF q k mode s c = shiftI (sumL (blk s p q)) k mode from by unfold mnF; rw [← hp]] at hkx
            have hst := upTo_step _ c _ hkx
            have hcd : wr.cell? ⟨w1.heap.size, c, none⟩ = some (.int .i64 0) := hblk.cell (upTo_get (tab m (mnF q k mode s)) c (by rw [tab_len]; exact hlk))
            have hfd := hblk.free c
            have hpn : p + q ≤ s.length := by rw [← Hn.out]; exact hpq
            have Hsm := hid (blk_sum (sigB_t H0.out).2 q2 hpn)
            have HPT := hid (blk_part (sigB_t H0.out).2 q2 hpn)
            have HBL := hid (blk_len hpn)
            have Hsl := hid hsl
            have Hst := hid hst
            have Hblk := hid hblk
            clear hsl hst hblk hkx hpn hsl0 hp hpi hpj
            go_wp2_with fail
            refine (Su.sumOf_any _ (blk s p q) _ Hsl.out (by rw [HBL.out]; omega) HPT.out.1 HPT.out.2).mono ?_
            rintro e w' ⟨rfl, rfl⟩
            go_wp2_with fail
            refine (shifted_any _ k mode _ (by omega) Hsm.out.1 Hsm.out.2 HM3.out).mono ?_
            rintro e w' ⟨rfl, rfl⟩
            generalize shiftI (sumL (blk s p q)) k mode = y at *
            go_wp2
            go_roundw
            case rel => exact ⟨c + 1, by omega, by go_num, by rw [← Hst.out]; exact Hblk.out.set c y, hb.setCell (by simp) _⟩
            case measure => simp [intOf]; omega
          · have hge : (m : Int) ≤ (c : Int) := by omega
            have hcm : c = m := by omega
            have hf := upTo_full (tab m (mnF q k mode s))
            rw [tab_len] at hf
            rw [hcm, hf] at hblk
            have hres := (hblk.res (Nat.le_refl _)).mono B1.size
            rw [tab_len] at hres
            have hmn : tab m (mnF q k mode s) = mnL q k mode s := by unfold mnL; rw [Hm2.out, Hn.out]
            rw [hmn] at hres
            have HF := hid (show Gives w (onL (mbB s (q : Int) mode) (mnL q (mbE (q : Int)) mode s)) (mbB s (q : Int) mode) (.returned (.tuple #[.slice (some ⟨w1.heap.size, 0, none⟩) m m, .bool true])) wr from by rw [HG.out.2]; exact gives_yes HG.out.1 hres (bel_step B1 hb))
            clear hlk hcm hf hblk hres hmn
            go_wp2
            go_ret2
            exact HF.out


theorem mb_len {s : List Int} {r mode : Int} (hl : s.length ≤ 1048576) : (onL (mbB s r mode) (mnL r.toNat (mbE r) mode s)).length ≤ 2000000 := onL_len fun _ => by
  unfold mnL; rw [tab_len]
  have := Nat.div_le_self s.length r.toNat
  omega

end Mb
open Mb


end Go.Proofs.YtichkianildkgaaGreat
