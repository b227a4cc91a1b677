
import Derived.Test.YthgdpmhpieakhaaYe
import Derived.Test.YthgdpmhpieakhaaYl
namespace Go.Proofs.Ythgdpmhpieakhaa
open Go.RowKit BitX Go.MemX Go.ShX Go.ChV
set_option linter.unusedVariables false


set_option maxRecDepth 20000 in
set_option maxHeartbeats 8000000 in
theorem law_FnErrorsShaped (u1 u2 : Option Addr) (n1 c1 n2 c2 : Nat) (w : World) (hby : By w.heap.size w u1 n1) (hby2 : By w.heap.size w u2 n2) (hl1 : n1 ≤ 1048576) (hl2 : n2 ≤ 1048576 - n1) :
    Calls Try.prog 3 #[.slice u1 n1 c1, .slice u2 n2 c2] w fun e w' => e = .returned (.bool true) ∧ Below w.heap.size w w' := by
  have HBY := hid hby
  clear hby
  go_enter Try.func3, Try.ntmps3
  go_wp2_with fail
  refine (big_any _ _ _ _ _ _ _ hl1 hl2).mono ?_
  rintro e w' ⟨rfl, rfl⟩
  go_wp2_with fail
  refine (DrawShapeSignal_any u1 n1 c1 _ HBY.out hl1).mono ?_
  rintro e w1 ⟨⟨v_s, s, k, m, o, rfl, r_s, hsl, ⟨k1, k2⟩, ⟨m1, m2⟩, o1, o2⟩, hb⟩
  obtain ⟨a_s, n_s, c_s, rfl, hn_s, -⟩ := id r_s.sl.rd
  have HB := hid hb
  have HR_s := hid r_s
  have Hn := hid hn_s
  have hn66 : n_s ≤ 66 := by omega
  clear hb r_s hn_s HBY
  obtain ⟨q, hq⟩ : ∃ q, spB s k m o = q := ⟨_, rfl⟩
  obtain ⟨XA, hXA⟩ : ∃ X, X = ssR s k m o := ⟨_, rfl⟩
  have lXA : XA.length ≤ 2000000 := by rw [hXA]; exact ssR_len s k m o (by omega)
  have KAi := fun (W : World) (v : Value) (h : Sl W v s) => impl_ShapeSignal_is v s k m o W h
  rw [← hXA, hq] at KAi
  have KAi := hid KAi
  have KAs := fun (W : World) (v : Value) (h : Sl W v s) => spec_ShapeSignal_is v s k m o W h
  rw [← hXA, hq] at KAs
  have KAs := hid KAs
  obtain ⟨XE, hXE⟩ : ∃ X, X = seR s k m o := ⟨_, rfl⟩
  have lXE : XE.length ≤ 2000000 := by rw [hXE]; exact seR_len s k m o (by omega)
  have KEi := fun (W : World) (v : Value) (h : Sl W v s) => impl_ShapeErrors_is v s k m o W h
  rw [← hXE, hq] at KEi
  have KEi := hid KEi
  have KEs := fun (W : World) (v : Value) (h : Sl W v s) => spec_ShapeErrors_is v s k m o W h
  rw [← hXE, hq] at KEs
  have KEs := hid KEs
  obtain ⟨XG, hXG⟩ : ∃ X, X = sgR s k m o := ⟨_, rfl⟩
  have lXG : XG.length ≤ 2000000 := by rw [hXG]; exact sgR_len s k m o (by omega)
  have KGi := fun (W : World) (v : Value) (h : Sl W v s) => impl_ShapedSums_is v s k m o W h
  rw [← hXG, hq] at KGi
  have KGi := hid KGi
  have KGs := fun (W : World) (v : Value) (h : Sl W v s) => spec_ShapedSums_is v s k m o W h
  rw [← hXG, hq] at KGs
  have KGs := hid KGs
  obtain ⟨gg, hgg⟩ : ∃ X, X = ggI s k m o := ⟨_, rfl⟩
  have KMi := fun (W : World) (v : Value) (h : Sl W v s) => impl_GreatestShapeGap_is v s k m o W h
  rw [← hgg, hq] at KMi
  have KMi := hid KMi
  have KMs := fun (W : World) (v : Value) (h : Sl W v s) => spec_GreatestShapeGap_is v s k m o W h
  rw [← hgg, hq] at KMs
  have KMs := hid KMs
  cases q
  · skip
    clear hXA hXE hXG hgg hq
    go_wp2_with fail
    refine (KAi.out _ _ HR_s.out.sl).mono ?_
    rintro e w2 ⟨v_Ai, rfl, r_Ai, hb⟩
    have HB := hid (bel_step HB.out hb)
    have HR_s := hid (HR_s.out.kept hb)
    have HR_Ai := hid r_Ai
    clear hb r_Ai
    go_wp2_with fail
    refine (KAs.out _ _ HR_s.out.sl).mono ?_
    rintro e w3 ⟨v_As, rfl, r_As, hb⟩
    have HB := hid (bel_step HB.out hb)
    have HR_s := hid (HR_s.out.kept hb)
    have HR_Ai := hid (HR_Ai.out.kept hb)
    have HR_As := hid r_As
    clear hb r_As
    go_wp2_with fail
    refine (KEi.out _ _ HR_s.out.sl).mono ?_
    rintro e w4 ⟨v_Ei, rfl, r_Ei, hb⟩
    have HB := hid (bel_step HB.out hb)
    have HR_s := hid (HR_s.out.kept hb)
    have HR_Ai := hid (HR_Ai.out.kept hb)
    have HR_As := hid (HR_As.out.kept hb)
    have HR_Ei := hid r_Ei
    clear hb r_Ei
    go_wp2_with fail
    refine (KEs.out _ _ HR_s.out.sl).mono ?_
    rintro e w5 ⟨v_Es, rfl, r_Es, hb⟩
    have HB := hid (bel_step HB.out hb)
    have HR_s := hid (HR_s.out.kept hb)
    have HR_Ai := hid (HR_Ai.out.kept hb)
    have HR_As := hid (HR_As.out.kept hb)
    have HR_Ei := hid (HR_Ei.out.kept hb)
    have HR_Es := hid r_Es
    clear hb r_Es
    go_wp2_with fail
    refine (KGi.out _ _ HR_s.out.sl).mono ?_
    rintro e w6 ⟨v_Gi, rfl, r_Gi, hb⟩
    have HB := hid (bel_step HB.out hb)
    have HR_s := hid (HR_s.out.kept hb)
    have HR_Ai := hid (HR_Ai.out.kept hb)
    have HR_As := hid (HR_As.out.kept hb)
    have HR_Ei := hid (HR_Ei.out.kept hb)
    have HR_Es := hid (HR_Es.out.kept hb)
    have HR_Gi := hid r_Gi
    clear hb r_Gi
    go_wp2_with fail
    refine (KGs.out _ _ HR_s.out.sl).mono ?_
    rintro e w7 ⟨v_Gs, rfl, r_Gs, hb⟩
    have HB := hid (bel_step HB.out hb)
    have HR_s := hid (HR_s.out.kept hb)
    have HR_Ai := hid (HR_Ai.out.kept hb)
    have HR_As := hid (HR_As.out.kept hb)
    have HR_Ei := hid (HR_Ei.out.kept hb)
    have HR_Es := hid (HR_Es.out.kept hb)
    have HR_Gi := hid (HR_Gi.out.kept hb)
    have HR_Gs := hid r_Gs
    clear hb r_Gs
    go_wp2_with fail
    refine (KMi.out _ _ HR_s.out.sl).mono ?_
    rintro e w8 ⟨rfl, hb⟩
    have HB := hid (bel_step HB.out hb)
    have HR_s := hid (HR_s.out.kept hb)
    have HR_Ai := hid (HR_Ai.out.kept hb)
    have HR_As := hid (HR_As.out.kept hb)
    have HR_Ei := hid (HR_Ei.out.kept hb)
    have HR_Es := hid (HR_Es.out.kept hb)
    have HR_Gi := hid (HR_Gi.out.kept hb)
    have HR_Gs := hid (HR_Gs.out.kept hb)
    clear hb
    go_wp2_with fail
    refine (KMs.out _ _ HR_s.out.sl).mono ?_
    rintro e w9 ⟨rfl, hb⟩
    have HB := hid (bel_step HB.out hb)
    have HR_s := hid (HR_s.out.kept hb)
    have HR_Ai := hid (HR_Ai.out.kept hb)
    have HR_As := hid (HR_As.out.kept hb)
    have HR_Ei := hid (HR_Ei.out.kept hb)
    have HR_Es := hid (HR_Es.out.kept hb)
    have HR_Gi := hid (HR_Gi.out.kept hb)
    have HR_Gs := hid (HR_Gs.out.kept hb)
    clear hb
    go_wp2_with fail
    refine (iSame_same _ _ XA _ HR_Ai.out.sl HR_As.out.sl (by omega)).mono ?_
    rintro e w10 ⟨rfl, hb⟩
    have HB := hid (bel_step HB.out hb)
    have HR_s := hid (HR_s.out.kept hb)
    have HR_Ai := hid (HR_Ai.out.kept hb)
    have HR_As := hid (HR_As.out.kept hb)
    have HR_Ei := hid (HR_Ei.out.kept hb)
    have HR_Es := hid (HR_Es.out.kept hb)
    have HR_Gi := hid (HR_Gi.out.kept hb)
    have HR_Gs := hid (HR_Gs.out.kept hb)
    clear hb
    go_wp2_with fail
    refine (iSame_same _ _ XE _ HR_Ei.out.sl HR_Es.out.sl (by omega)).mono ?_
    rintro e w11 ⟨rfl, hb⟩
    have HB := hid (bel_step HB.out hb)
    have HR_s := hid (HR_s.out.kept hb)
    have HR_Ai := hid (HR_Ai.out.kept hb)
    have HR_As := hid (HR_As.out.kept hb)
    have HR_Ei := hid (HR_Ei.out.kept hb)
    have HR_Es := hid (HR_Es.out.kept hb)
    have HR_Gi := hid (HR_Gi.out.kept hb)
    have HR_Gs := hid (HR_Gs.out.kept hb)
    clear hb
    go_wp2_with fail
    refine (iSame_same _ _ XG _ HR_Gi.out.sl HR_Gs.out.sl (by omega)).mono ?_
    rintro e w12 ⟨rfl, hb⟩
    have HB := hid (bel_step HB.out hb)
    have HR_s := hid (HR_s.out.kept hb)
    have HR_Ai := hid (HR_Ai.out.kept hb)
    have HR_As := hid (HR_As.out.kept hb)
    have HR_Ei := hid (HR_Ei.out.kept hb)
    have HR_Es := hid (HR_Es.out.kept hb)
    have HR_Gi := hid (HR_Gi.out.kept hb)
    have HR_Gs := hid (HR_Gs.out.kept hb)
    clear hb
    go_wp2
    go_ret
    exact ⟨rfl, HB.out⟩
  · skip
    obtain ⟨hsg, ⟨kk1, kk2⟩, ⟨mm1, mm2⟩, oo1, oo2⟩ := spB_t hq
    obtain ⟨p, rfl⟩ : ∃ p : Nat, k = p := ⟨k.toNat, by omega⟩
    have hXA' : XA = shL s p m o := by rw [hXA]; unfold ssR; rw [hq, Int.toNat_natCast]; rfl
    have hXE' : XE = seL s p m o := by rw [hXE]; unfold seR; rw [hq, Int.toNat_natCast]; rfl
    have hXG' : XG = sgL s p m o := by rw [hXG]; unfold sgR; rw [hq, Int.toNat_natCast]; rfl
    have hgg' : gg = pkM (sgL s p m o) := by rw [hgg]; unfold ggI; rw [hq, Int.toNat_natCast]; rfl
    clear hXA hXE hXG hgg hq
    have HXA := hid hXA'
    have HXE := hid hXE'
    have HXG := hid hXG'
    have Hgg := hid hgg'
    have HSG := hid hsg
    clear hXA' hXE' hXG' hgg' hsg
    go_wp2_with fail
    refine (KAi.out _ _ HR_s.out.sl).mono ?_
    rintro e w2 ⟨v_Ai, rfl, r_Ai, hb⟩
    have HB := hid (bel_step HB.out hb)
    have HR_s := hid (HR_s.out.kept hb)
    have HR_Ai := hid r_Ai
    clear hb r_Ai
    go_wp2_with fail
    refine (KAs.out _ _ HR_s.out.sl).mono ?_
    rintro e w3 ⟨v_As, rfl, r_As, hb⟩
    have HB := hid (bel_step HB.out hb)
    have HR_s := hid (HR_s.out.kept hb)
    have HR_Ai := hid (HR_Ai.out.kept hb)
    have HR_As := hid r_As
    clear hb r_As
    go_wp2_with fail
    refine (KEi.out _ _ HR_s.out.sl).mono ?_
    rintro e w4 ⟨v_Ei, rfl, r_Ei, hb⟩
    have HB := hid (bel_step HB.out hb)
    have HR_s := hid (HR_s.out.kept hb)
    have HR_Ai := hid (HR_Ai.out.kept hb)
    have HR_As := hid (HR_As.out.kept hb)
    have HR_Ei := hid r_Ei
    clear hb r_Ei
    go_wp2_with fail
    refine (KEs.out _ _ HR_s.out.sl).mono ?_
    rintro e w5 ⟨v_Es, rfl, r_Es, hb⟩
    have HB := hid (bel_step HB.out hb)
    have HR_s := hid (HR_s.out.kept hb)
    have HR_Ai := hid (HR_Ai.out.kept hb)
    have HR_As := hid (HR_As.out.kept hb)
    have HR_Ei := hid (HR_Ei.out.kept hb)
    have HR_Es := hid r_Es
    clear hb r_Es
    go_wp2_with fail
    refine (KGi.out _ _ HR_s.out.sl).mono ?_
    rintro e w6 ⟨v_Gi, rfl, r_Gi, hb⟩
    have HB := hid (bel_step HB.out hb)
    have HR_s := hid (HR_s.out.kept hb)
    have HR_Ai := hid (HR_Ai.out.kept hb)
    have HR_As := hid (HR_As.out.kept hb)
    have HR_Ei := hid (HR_Ei.out.kept hb)
    have HR_Es := hid (HR_Es.out.kept hb)
    have HR_Gi := hid r_Gi
    clear hb r_Gi
    go_wp2_with fail
    refine (KGs.out _ _ HR_s.out.sl).mono ?_
    rintro e w7 ⟨v_Gs, rfl, r_Gs, hb⟩
    have HB := hid (bel_step HB.out hb)
    have HR_s := hid (HR_s.out.kept hb)
    have HR_Ai := hid (HR_Ai.out.kept hb)
    have HR_As := hid (HR_As.out.kept hb)
    have HR_Ei := hid (HR_Ei.out.kept hb)
    have HR_Es := hid (HR_Es.out.kept hb)
    have HR_Gi := hid (HR_Gi.out.kept hb)
    have HR_Gs := hid r_Gs
    clear hb r_Gs
    go_wp2_with fail
    refine (KMi.out _ _ HR_s.out.sl).mono ?_
    rintro e w8 ⟨rfl, hb⟩
    have HB := hid (bel_step HB.out hb)
    have HR_s := hid (HR_s.out.kept hb)
    have HR_Ai := hid (HR_Ai.out.kept hb)
    have HR_As := hid (HR_As.out.kept hb)
    have HR_Ei := hid (HR_Ei.out.kept hb)
    have HR_Es := hid (HR_Es.out.kept hb)
    have HR_Gi := hid (HR_Gi.out.kept hb)
    have HR_Gs := hid (HR_Gs.out.kept hb)
    clear hb
    go_wp2_with fail
    refine (KMs.out _ _ HR_s.out.sl).mono ?_
    rintro e w9 ⟨rfl, hb⟩
    have HB := hid (bel_step HB.out hb)
    have HR_s := hid (HR_s.out.kept hb)
    have HR_Ai := hid (HR_Ai.out.kept hb)
    have HR_As := hid (HR_As.out.kept hb)
    have HR_Ei := hid (HR_Ei.out.kept hb)
    have HR_Es := hid (HR_Es.out.kept hb)
    have HR_Gi := hid (HR_Gi.out.kept hb)
    have HR_Gs := hid (HR_Gs.out.kept hb)
    clear hb
    go_wp2_with fail
    refine (iSame_same _ _ XA _ HR_Ai.out.sl HR_As.out.sl (by omega)).mono ?_
    rintro e w10 ⟨rfl, hb⟩
    have HB := hid (bel_step HB.out hb)
    have HR_s := hid (HR_s.out.kept hb)
    have HR_Ai := hid (HR_Ai.out.kept hb)
    have HR_As := hid (HR_As.out.kept hb)
    have HR_Ei := hid (HR_Ei.out.kept hb)
    have HR_Es := hid (HR_Es.out.kept hb)
    have HR_Gi := hid (HR_Gi.out.kept hb)
    have HR_Gs := hid (HR_Gs.out.kept hb)
    clear hb
    go_wp2_with fail
    refine (iSame_same _ _ XE _ HR_Ei.out.sl HR_Es.out.sl (by omega)).mono ?_
    rintro e w11 ⟨rfl, hb⟩
    have HB := hid (bel_step HB.out hb)
    have HR_s := hid (HR_s.out.kept hb)
    have HR_Ai := hid (HR_Ai.out.kept hb)
    have HR_As := hid (HR_As.out.kept hb)
    have HR_Ei := hid (HR_Ei.out.kept hb)
    have HR_Es := hid (HR_Es.out.kept hb)
    have HR_Gi := hid (HR_Gi.out.kept hb)
    have HR_Gs := hid (HR_Gs.out.kept hb)
    clear hb
    go_wp2_with fail
    refine (iSame_same _ _ XG _ HR_Gi.out.sl HR_Gs.out.sl (by omega)).mono ?_
    rintro e w12 ⟨rfl, hb⟩
    have HB := hid (bel_step HB.out hb)
    have HR_s := hid (HR_s.out.kept hb)
    have HR_Ai := hid (HR_Ai.out.kept hb)
    have HR_As := hid (HR_As.out.kept hb)
    have HR_Ei := hid (HR_Ei.out.kept hb)
    have HR_Es := hid (HR_Es.out.kept hb)
    have HR_Gi := hid (HR_Gi.out.kept hb)
    have HR_Gs := hid (HR_Gs.out.kept hb)
    clear hb
    clear HR_As HR_Es HR_Gs
    clear KAi KAs KEi KEs KGi KGs KMi KMs
    obtain ⟨P, hP⟩ : ∃ P, P = (2 : Int) ^ p := ⟨_, rfl⟩
    obtain ⟨P1, P2⟩ : 1 ≤ P ∧ P ≤ 1024 := by rw [hP]; exact pow10 p (by omega)
    have hw1 : wrap64 ((2 : Int) ^ p) = P := by rw [← hP]; exact IntWalk.wrap64_in _ (by omega)
    have hw2 : wrap64 ((2 : Int) ^ min p 64) = P := by rw [Nat.min_eq_left (by omega)]; exact hw1
    have HP := hid hP
    clear hP lXA lXE lXG
    obtain ⟨a_Ai, n_Ai, c_Ai, rfl, hn_Ai, rd_Ai⟩ := id HR_Ai.out.sl.rd
    obtain rfl : n_s = n_Ai := by rw [hn_Ai, HXA.out, shL, tab_len]; exact Hn.out
    have Rd_Ai := hid rd_Ai
    clear hn_Ai rd_Ai HR_Ai
    obtain ⟨a_Ei, n_Ei, c_Ei, rfl, hn_Ei, rd_Ei⟩ := id HR_Ei.out.sl.rd
    obtain rfl : n_s = n_Ei := by rw [hn_Ei, HXE.out, seL, tab_len]; exact Hn.out
    have Rd_Ei := hid rd_Ei
    clear hn_Ei rd_Ei HR_Ei
    obtain ⟨a_Gi, n_Gi, c_Gi, rfl, hn_Gi, rd_Gi⟩ := id HR_Gi.out.sl.rd
    obtain rfl : n_s = n_Gi := by rw [hn_Gi, HXG.out, sgL, tab_len]; exact Hn.out
    have Rd_Gi := hid rd_Gi
    clear hn_Gi rd_Gi HR_Gi
    have Rd_s := hid (show Rd _ a_s s from by obtain ⟨_, _, _, e, _, rd⟩ := HR_s.out.sl.rd; cases e; exact rd)
    clear HR_s
    have H8 := hid (fun i => er_in s p m o (by rw [← HP.out]; exact P2) i)
    have H9 := hid (fun i => rest_strict (suI s p m o i) p m)
    have HG := hid (fun i (h : i ≤ 64) => gpS_in s p m o (by rw [← HP.out]; exact P2) i h)
    have hn64 : n_s ≤ 64 := by rw [Hn.out]; exact HSG.out.1
    by_cases hp1 : P = 1
    · subst hp1
      obtain rfl | rfl | rfl : o = 0 ∨ o = 1 ∨ o = 2 := by omega
      · as_aux_lemma =>
        go_wp2_with fail
        rw [hw1]
        clear hw1 hw2
        go_loopw [26, 27, 28, 29, 169] (fun gr la be su i wr => ∃ c : Nat, c ≤ n_s ∧ i = .int .i64 c ∧ la = .int .i64 (erL s p m 0 c) ∧ be = .int .i64 (erB s p m 0 c) ∧ su = .int .i64 (gpS s p m 0 c) ∧ gr = .int .i64 (gsM s p m 0 c) ∧ Below w12.heap.size w12 wr)
          (fun _ _ _ _ i _ => n_s - (intOf i).toNat)
        case atStart => exact ⟨0, by omega, rfl, rfl, rfl, rfl, rfl, Below.refl _ _⟩
        case round =>
          obtain ⟨c, hc, rfl, rfl, rfl, rfl, rfl, hb⟩ := hrel
          by_cases hlc : c < n_s
          · skip
            obtain ⟨x, hkx⟩ := get_lt s c (by rw [← Hn.out]; exact hlc)
            obtain ⟨x1, x2⟩ := HSG.out.2.at hkx
            have hkAi : XA[c]? = some (shI s p m 0 c) := by rw [HXA.out, shL, tab_get _ _ _ (by rw [← Hn.out]; exact hlc)]
            have hkEi : XE[c]? = some (erL s p m 0 (c + 1)) := by rw [HXE.out, seL, tab_get _ _ _ (by rw [← Hn.out]; exact hlc)]
            have hkGi : XG[c]? = some (gpS s p m 0 (c + 1)) := by rw [HXG.out, sgL, tab_get _ _ _ (by rw [← Hn.out]; exact hlc)]
            obtain ⟨b0, o0, ix0, hb0, ce0⟩ := (Rd_s.out.kept hb).at (P := Try.prog) (T := 24) n_s c_s uslice sone hkx hlc
            obtain ⟨b1, o1, ix1, hb1, ce1⟩ := (Rd_Ai.out.kept hb).at (P := Try.prog) (T := 24) n_s c_Ai uslice sone hkAi hlc
            obtain ⟨b2, o2, ix2, hb2, ce2⟩ := (Rd_Ei.out.kept hb).at (P := Try.prog) (T := 24) n_s c_Ei uslice sone hkEi hlc
            obtain ⟨b3, o3, ix3, hb3, ce3⟩ := (Rd_Gi.out.kept hb).at (P := Try.prog) (T := 24) n_s c_Gi uslice sone hkGi hlc
            obtain ⟨⟨la1, la2⟩, be1, be2⟩ := H8.out c
            obtain ⟨⟨E1, E2⟩, -, -⟩ := H8.out (c + 1)
            obtain ⟨su1, su2⟩ := HG.out c (by omega)
            obtain ⟨G1, G2⟩ := HG.out (c + 1) (by omega)
            have hE1 : erL s p m 0 (c + 1) = x + bkI 0 (erL s p m 0 c) (erB s p m 0 c) - shI s p m 0 c * 1 := by
              have h := erL_succ s p m 0 c
              rw [← HP.out] at h
              rw [h]; unfold suI; rw [at0_of hkx]
            have hG : gpS s p m 0 (c + 1) = gpS s p m 0 c + (x - shI s p m 0 c * 1) := by
              have h := gpS_succ s p m 0 c
              rw [← HP.out] at h
              rw [h, at0_of hkx]
            have hS : (1 = (1 : Int) ∧ erL s p m 0 (c + 1) = 0) ∨ ((1 : Int) < 1 ∧ -(1 : Int) < erL s p m 0 (c + 1) ∧ erL s p m 0 (c + 1) < 1) := by
              have h := H9.out c
              rw [← HP.out] at h
              rw [show erL s p m 0 (c + 1) = suI s p m 0 c - shiftI (suI s p m 0 c) p m * 1 from by have h2 := erL_succ s p m 0 c; rw [← HP.out] at h2; exact h2]
              exact h
            have hM := gsM_succ s p m 0 c (by rw [← Hn.out]; exact hlc)
            have hB := erB_succ s p m 0 c
            have hL0 : erL s p m 0 c = erL s p m 0 c := rfl
            clear hkx hkAi hkEi hkGi
            generalize hE0 : erL s p m 0 (c + 1) = E at *
            generalize hG0 : gpS s p m 0 (c + 1) = G at *
            generalize hM0 : gsM s p m 0 (c + 1) = M at *
            generalize hB0 : erB s p m 0 (c + 1) = B at *
            generalize hL0' : erL s p m 0 c = la at *
            generalize hb0' : erB s p m 0 c = be at *
            generalize gpS s p m 0 c = su at *
            generalize gsM s p m 0 c = gr at *
            generalize shI s p m 0 c = O at *
            have hE : E = x - O * 1 := by have h := hE1; rw [bkI_0] at h; omega
            clear hE1
            have hE2 : E = x - O := by omega
            have hG2 : G = su + (x - O) := by omega
            have q1 : IntKind.i64.wrap O = O := IntWalk.i64_in _ (by omega)
            have q2 : wrap64 O = O := IntWalk.wrap64_in _ (by omega)
            have q3 : IntKind.i64.wrap (x - O) = E := by rw [hE2]; exact IntWalk.i64_in _ (by omega)
            have q3' : wrap64 (x - O) = E := by rw [hE2]; exact IntWalk.wrap64_in _ (by omega)
            have hGE : G = su + E := by omega
            subst hGE
            have hE0' : E = 0 := by omega
            have cE0 : (E != 0) = false := bne_eq_false_iff_eq.2 hE0'
            have cS : decide (1 ≤ absI E) = false := decide_eq_false (by unfold absI; omega)
            have KI := fun (W : World) => iSize_any E W (by omega) (by omega)
            have KG := fun (W : World) => iSize_any (su + E) W (by omega) (by omega)
            have KI := hid KI
            have KG := hid KG
            clear hE0' hE2 hG2
            have HS := hid hS
            have HGv := hid hG
            have HEv := hid hE
            have HM := hid hM
            have HBB := hid hB
            clear hB
            skip
            have HHb := hid hb
            clear hS hE hM hG 
            go_wp2_with fail
            go_quiet ((go_at_call 15; exact Calls.quiet_of_same ((KI.out _).mono fun e w' h => ⟨h.1, h.2.symm⟩)))
            have ce1q : (wr.drewN nq).cell? ⟨b1, o1, none⟩ = some (.int .i64 O) := ce1
            have ce2q : (wr.drewN nq).cell? ⟨b2, o2, none⟩ = some (.int .i64 E) := ce2
            have ce3q : (wr.drewN nq).cell? ⟨b3, o3, none⟩ = some (.int .i64 (su + E)) := ce3
            have hbq := below_drewN HHb.out nq
            generalize wr.drewN nq = wq at ce1q ce2q ce3q hbq ⊢
            go_wp2_with fail
            refine (KG.out _).mono ?_
            rintro e w' ⟨rfl, rfl⟩
            by_cases hgr : gr < absI (su + E)
            · have hM1 : absI (su + E) = M := by rw [HM.out]; unfold mostI; rw [if_neg (by omega)]
              go_wp2_with fail
              refine (KG.out _).mono ?_
              rintro e w' ⟨rfl, rfl⟩
              go_wp2_with fail
              go_roundw
              case rel =>
                refine ⟨c + 1, ?_, ?_, ?_, ?_, ?_, ?_, hbq⟩
                · omega
                · go_num
                · rw [hE0]
                · rw [hB0, HBB.out]
                · rw [hG0]
                · first | (rw [hM0]; done) | rw [hM0, hM1]
              case measure => simp [intOf]; omega
            · have hM1 : gr = M := by rw [HM.out]; unfold mostI; split <;> omega
              go_wp2_with fail
              go_roundw
              case rel =>
                refine ⟨c + 1, ?_, ?_, ?_, ?_, ?_, ?_, hbq⟩
                · omega
                · go_num
                · rw [hE0]
                · rw [hB0, HBB.out]
                · rw [hG0]
                · first | (rw [hM0]; done) | rw [hM0, hM1]
              case measure => simp [intOf]; omega
          · have hge : (n_s : Int) ≤ (c : Int) := by omega
            have hcn : c = s.length := by rw [← Hn.out]; omega
            have hgr : gsM s p m 0 c = gg := by rw [hcn, gsM_full, Hgg.out]
            have HHb := hid (bel_step HB.out hb)
            rw [hgr]
            clear hlc hcn hgr hb
            go_wp2
            go_ret
            exact ⟨rfl, HHb.out⟩
      · as_aux_lemma =>
        go_wp2_with fail
        rw [hw1]
        clear hw1 hw2
        go_loopw [26, 27, 28, 29, 169] (fun gr la be su i wr => ∃ c : Nat, c ≤ n_s ∧ i = .int .i64 c ∧ la = .int .i64 (erL s p m 1 c) ∧ be = .int .i64 (erB s p m 1 c) ∧ su = .int .i64 (gpS s p m 1 c) ∧ gr = .int .i64 (gsM s p m 1 c) ∧ Below w12.heap.size w12 wr)
          (fun _ _ _ _ i _ => n_s - (intOf i).toNat)
        case atStart => exact ⟨0, by omega, rfl, rfl, rfl, rfl, rfl, Below.refl _ _⟩
        case round =>
          obtain ⟨c, hc, rfl, rfl, rfl, rfl, rfl, hb⟩ := hrel
          by_cases hlc : c < n_s
          · skip
            obtain ⟨x, hkx⟩ := get_lt s c (by rw [← Hn.out]; exact hlc)
            obtain ⟨x1, x2⟩ := HSG.out.2.at hkx
            have hkAi : XA[c]? = some (shI s p m 1 c) := by rw [HXA.out, shL, tab_get _ _ _ (by rw [← Hn.out]; exact hlc)]
            have hkEi : XE[c]? = some (erL s p m 1 (c + 1)) := by rw [HXE.out, seL, tab_get _ _ _ (by rw [← Hn.out]; exact hlc)]
            have hkGi : XG[c]? = some (gpS s p m 1 (c + 1)) := by rw [HXG.out, sgL, tab_get _ _ _ (by rw [← Hn.out]; exact hlc)]
            obtain ⟨b0, o0, ix0, hb0, ce0⟩ := (Rd_s.out.kept hb).at (P := Try.prog) (T := 24) n_s c_s uslice sone hkx hlc
            obtain ⟨b1, o1, ix1, hb1, ce1⟩ := (Rd_Ai.out.kept hb).at (P := Try.prog) (T := 24) n_s c_Ai uslice sone hkAi hlc
            obtain ⟨b2, o2, ix2, hb2, ce2⟩ := (Rd_Ei.out.kept hb).at (P := Try.prog) (T := 24) n_s c_Ei uslice sone hkEi hlc
            obtain ⟨b3, o3, ix3, hb3, ce3⟩ := (Rd_Gi.out.kept hb).at (P := Try.prog) (T := 24) n_s c_Gi uslice sone hkGi hlc
            obtain ⟨⟨la1, la2⟩, be1, be2⟩ := H8.out c
            obtain ⟨⟨E1, E2⟩, -, -⟩ := H8.out (c + 1)
            obtain ⟨su1, su2⟩ := HG.out c (by omega)
            obtain ⟨G1, G2⟩ := HG.out (c + 1) (by omega)
            have hE1 : erL s p m 1 (c + 1) = x + bkI 1 (erL s p m 1 c) (erB s p m 1 c) - shI s p m 1 c * 1 := by
              have h := erL_succ s p m 1 c
              rw [← HP.out] at h
              rw [h]; unfold suI; rw [at0_of hkx]
            have hG : gpS s p m 1 (c + 1) = gpS s p m 1 c + (x - shI s p m 1 c * 1) := by
              have h := gpS_succ s p m 1 c
              rw [← HP.out] at h
              rw [h, at0_of hkx]
            have hS : (1 = (1 : Int) ∧ erL s p m 1 (c + 1) = 0) ∨ ((1 : Int) < 1 ∧ -(1 : Int) < erL s p m 1 (c + 1) ∧ erL s p m 1 (c + 1) < 1) := by
              have h := H9.out c
              rw [← HP.out] at h
              rw [show erL s p m 1 (c + 1) = suI s p m 1 c - shiftI (suI s p m 1 c) p m * 1 from by have h2 := erL_succ s p m 1 c; rw [← HP.out] at h2; exact h2]
              exact h
            have hM := gsM_succ s p m 1 c (by rw [← Hn.out]; exact hlc)
            have hB := erB_succ s p m 1 c
            have hL0 : erL s p m 1 c = erL s p m 1 c := rfl
            clear hkx hkAi hkEi hkGi
            generalize hE0 : erL s p m 1 (c + 1) = E at *
            generalize hG0 : gpS s p m 1 (c + 1) = G at *
            generalize hM0 : gsM s p m 1 (c + 1) = M at *
            generalize hB0 : erB s p m 1 (c + 1) = B at *
            have hdue : G = E := by have := gp_one s p m (c + 1); rw [hG0, hE0] at this; exact this
            generalize hL0' : erL s p m 1 c = la at *
            generalize hb0' : erB s p m 1 c = be at *
            generalize gpS s p m 1 c = su at *
            generalize gsM s p m 1 c = gr at *
            generalize shI s p m 1 c = O at *
            have hE : E = x + la - O * 1 := by have h := hE1; rw [bkI_1] at h; omega
            clear hE1
            have hE2 : E = x + la - O := by omega
            have hG2 : G = su + (x - O) := by omega
            have q1 : IntKind.i64.wrap O = O := IntWalk.i64_in _ (by omega)
            have q2 : wrap64 O = O := IntWalk.wrap64_in _ (by omega)
            have q3 : IntKind.i64.wrap (x + la - O) = E := by rw [hE2]; exact IntWalk.i64_in _ (by omega)
            have q3' : wrap64 (x + la - O) = E := by rw [hE2]; exact IntWalk.wrap64_in _ (by omega)
            have q4 : wrap64 (x - O) = x - O := IntWalk.wrap64_in _ (by omega)
            have q5 : wrap64 (su + (x - O)) = G := by rw [hG2]; exact IntWalk.wrap64_in _ (by omega)
            have hE0' : E = 0 := by omega
            have cE0 : (E != 0) = false := bne_eq_false_iff_eq.2 hE0'
            have cS : decide (1 ≤ absI E) = false := decide_eq_false (by unfold absI; omega)
            have KI := fun (W : World) => iSize_any E W (by omega) (by omega)
            have KG := fun (W : World) => iSize_any G W (by omega) (by omega)
            have KI := hid KI
            have KG := hid KG
            clear hE0' hE2 hG2
            have HS := hid hS
            have HGv := hid hG
            have HEv := hid hE
            have HM := hid hM
            have HBB := hid hB
            clear hB
            have HD := hid hdue
            have HHb := hid hb
            clear hS hE hM hG hdue
            go_wp2_with fail
            go_quiet ((go_at_call 15; exact Calls.quiet_of_same ((KI.out _).mono fun e w' h => ⟨h.1, h.2.symm⟩)))
            have ce1q : (wr.drewN nq).cell? ⟨b1, o1, none⟩ = some (.int .i64 O) := ce1
            have ce2q : (wr.drewN nq).cell? ⟨b2, o2, none⟩ = some (.int .i64 E) := ce2
            have ce3q : (wr.drewN nq).cell? ⟨b3, o3, none⟩ = some (.int .i64 G) := ce3
            have hbq := below_drewN HHb.out nq
            generalize wr.drewN nq = wq at ce1q ce2q ce3q hbq ⊢
            have cD : (G != E) = false := bne_eq_false_iff_eq.2 HD.out
            go_wp2_with fail
            refine (KG.out _).mono ?_
            rintro e w' ⟨rfl, rfl⟩
            by_cases hgr : gr < absI G
            · have hM1 : absI G = M := by rw [HM.out]; unfold mostI; rw [if_neg (by omega)]
              go_wp2_with fail
              refine (KG.out _).mono ?_
              rintro e w' ⟨rfl, rfl⟩
              go_wp2_with fail
              go_roundw
              case rel =>
                refine ⟨c + 1, ?_, ?_, ?_, ?_, ?_, ?_, hbq⟩
                · omega
                · go_num
                · rw [hE0]
                · rw [hB0, HBB.out]
                · rw [hG0]
                · first | (rw [hM0]; done) | rw [hM0, hM1]
              case measure => simp [intOf]; omega
            · have hM1 : gr = M := by rw [HM.out]; unfold mostI; split <;> omega
              go_wp2_with fail
              go_roundw
              case rel =>
                refine ⟨c + 1, ?_, ?_, ?_, ?_, ?_, ?_, hbq⟩
                · omega
                · go_num
                · rw [hE0]
                · rw [hB0, HBB.out]
                · rw [hG0]
                · first | (rw [hM0]; done) | rw [hM0, hM1]
              case measure => simp [intOf]; omega
          · have hge : (n_s : Int) ≤ (c : Int) := by omega
            have hcn : c = s.length := by rw [← Hn.out]; omega
            have hgr : gsM s p m 1 c = gg := by rw [hcn, gsM_full, Hgg.out]
            have HHb := hid (bel_step HB.out hb)
            have hlt : gg < 1 := by have h := (gsM_bound s p m 1 s.length (Nat.le_refl _)).1 rfl; rw [gsM_full, ← Hgg.out, ← HP.out] at h; omega
            have cF : decide (1 ≤ gg) = false := decide_eq_false (by omega)
            rw [hgr]
            clear hlc hcn hgr hb
            go_wp2
            go_ret
            exact ⟨rfl, HHb.out⟩
      · as_aux_lemma =>
        go_wp2_with fail
        rw [hw1]
        clear hw1 hw2
        go_loopw [26, 27, 28, 29, 169] (fun gr la be su i wr => ∃ c : Nat, c ≤ n_s ∧ i = .int .i64 c ∧ la = .int .i64 (erL s p m 2 c) ∧ be = .int .i64 (erB s p m 2 c) ∧ su = .int .i64 (gpS s p m 2 c) ∧ gr = .int .i64 (gsM s p m 2 c) ∧ Below w12.heap.size w12 wr)
          (fun _ _ _ _ i _ => n_s - (intOf i).toNat)
        case atStart => exact ⟨0, by omega, rfl, rfl, rfl, rfl, rfl, Below.refl _ _⟩
        case round =>
          obtain ⟨c, hc, rfl, rfl, rfl, rfl, rfl, hb⟩ := hrel
          by_cases hlc : c < n_s
          · skip
            obtain ⟨x, hkx⟩ := get_lt s c (by rw [← Hn.out]; exact hlc)
            obtain ⟨x1, x2⟩ := HSG.out.2.at hkx
            have hkAi : XA[c]? = some (shI s p m 2 c) := by rw [HXA.out, shL, tab_get _ _ _ (by rw [← Hn.out]; exact hlc)]
            have hkEi : XE[c]? = some (erL s p m 2 (c + 1)) := by rw [HXE.out, seL, tab_get _ _ _ (by rw [← Hn.out]; exact hlc)]
            have hkGi : XG[c]? = some (gpS s p m 2 (c + 1)) := by rw [HXG.out, sgL, tab_get _ _ _ (by rw [← Hn.out]; exact hlc)]
            obtain ⟨b0, o0, ix0, hb0, ce0⟩ := (Rd_s.out.kept hb).at (P := Try.prog) (T := 24) n_s c_s uslice sone hkx hlc
            obtain ⟨b1, o1, ix1, hb1, ce1⟩ := (Rd_Ai.out.kept hb).at (P := Try.prog) (T := 24) n_s c_Ai uslice sone hkAi hlc
            obtain ⟨b2, o2, ix2, hb2, ce2⟩ := (Rd_Ei.out.kept hb).at (P := Try.prog) (T := 24) n_s c_Ei uslice sone hkEi hlc
            obtain ⟨b3, o3, ix3, hb3, ce3⟩ := (Rd_Gi.out.kept hb).at (P := Try.prog) (T := 24) n_s c_Gi uslice sone hkGi hlc
            obtain ⟨⟨la1, la2⟩, be1, be2⟩ := H8.out c
            obtain ⟨⟨E1, E2⟩, -, -⟩ := H8.out (c + 1)
            obtain ⟨su1, su2⟩ := HG.out c (by omega)
            obtain ⟨G1, G2⟩ := HG.out (c + 1) (by omega)
            have hE1 : erL s p m 2 (c + 1) = x + bkI 2 (erL s p m 2 c) (erB s p m 2 c) - shI s p m 2 c * 1 := by
              have h := erL_succ s p m 2 c
              rw [← HP.out] at h
              rw [h]; unfold suI; rw [at0_of hkx]
            have hG : gpS s p m 2 (c + 1) = gpS s p m 2 c + (x - shI s p m 2 c * 1) := by
              have h := gpS_succ s p m 2 c
              rw [← HP.out] at h
              rw [h, at0_of hkx]
            have hS : (1 = (1 : Int) ∧ erL s p m 2 (c + 1) = 0) ∨ ((1 : Int) < 1 ∧ -(1 : Int) < erL s p m 2 (c + 1) ∧ erL s p m 2 (c + 1) < 1) := by
              have h := H9.out c
              rw [← HP.out] at h
              rw [show erL s p m 2 (c + 1) = suI s p m 2 c - shiftI (suI s p m 2 c) p m * 1 from by have h2 := erL_succ s p m 2 c; rw [← HP.out] at h2; exact h2]
              exact h
            have hM := gsM_succ s p m 2 c (by rw [← Hn.out]; exact hlc)
            have hB := erB_succ s p m 2 c
            have hL0 : erL s p m 2 c = erL s p m 2 c := rfl
            clear hkx hkAi hkEi hkGi
            generalize hE0 : erL s p m 2 (c + 1) = E at *
            generalize hG0 : gpS s p m 2 (c + 1) = G at *
            generalize hM0 : gsM s p m 2 (c + 1) = M at *
            generalize hB0 : erB s p m 2 (c + 1) = B at *
            have hdue : G = E - erL s p m 2 c := by have := gp_two s p m (c + 1); rw [hG0, hE0, hB0, hB] at this; exact this
            generalize hL0' : erL s p m 2 c = la at *
            generalize hb0' : erB s p m 2 c = be at *
            generalize gpS s p m 2 c = su at *
            generalize gsM s p m 2 c = gr at *
            generalize shI s p m 2 c = O at *
            have hE : E = x + (2 * la - be) - O * 1 := by have h := hE1; rw [bkI_2] at h; omega
            clear hE1
            have hE2 : E = x + (2 * la - be) - O := by omega
            have hG2 : G = su + (x - O) := by omega
            have q1 : IntKind.i64.wrap O = O := IntWalk.i64_in _ (by omega)
            have q2 : wrap64 O = O := IntWalk.wrap64_in _ (by omega)
            have q3 : IntKind.i64.wrap (x + (2 * la - be) - O) = E := by rw [hE2]; exact IntWalk.i64_in _ (by omega)
            have q3' : wrap64 (x + (2 * la - be) - O) = E := by rw [hE2]; exact IntWalk.wrap64_in _ (by omega)
            have q4 : wrap64 (x - O) = x - O := IntWalk.wrap64_in _ (by omega)
            have q5 : wrap64 (su + (x - O)) = G := by rw [hG2]; exact IntWalk.wrap64_in _ (by omega)
            have hE0' : E = 0 := by omega
            have cE0 : (E != 0) = false := bne_eq_false_iff_eq.2 hE0'
            have cS : decide (1 ≤ absI E) = false := decide_eq_false (by unfold absI; omega)
            have KI := fun (W : World) => iSize_any E W (by omega) (by omega)
            have KG := fun (W : World) => iSize_any G W (by omega) (by omega)
            have KI := hid KI
            have KG := hid KG
            clear hE0' hE2 hG2
            have HS := hid hS
            have HGv := hid hG
            have HEv := hid hE
            have HM := hid hM
            have HBB := hid hB
            clear hB
            have HD := hid hdue
            have HHb := hid hb
            clear hS hE hM hG hdue
            go_wp2_with fail
            go_quiet ((go_at_call 15; exact Calls.quiet_of_same ((KI.out _).mono fun e w' h => ⟨h.1, h.2.symm⟩)))
            have ce1q : (wr.drewN nq).cell? ⟨b1, o1, none⟩ = some (.int .i64 O) := ce1
            have ce2q : (wr.drewN nq).cell? ⟨b2, o2, none⟩ = some (.int .i64 E) := ce2
            have ce3q : (wr.drewN nq).cell? ⟨b3, o3, none⟩ = some (.int .i64 G) := ce3
            have hbq := below_drewN HHb.out nq
            generalize wr.drewN nq = wq at ce1q ce2q ce3q hbq ⊢
            have cD : (G != E - la) = false := bne_eq_false_iff_eq.2 HD.out
            go_wp2_with fail
            refine (KG.out _).mono ?_
            rintro e w' ⟨rfl, rfl⟩
            by_cases hgr : gr < absI G
            · have hM1 : absI G = M := by rw [HM.out]; unfold mostI; rw [if_neg (by omega)]
              go_wp2_with fail
              refine (KG.out _).mono ?_
              rintro e w' ⟨rfl, rfl⟩
              go_wp2_with fail
              go_roundw
              case rel =>
                refine ⟨c + 1, ?_, ?_, ?_, ?_, ?_, ?_, hbq⟩
                · omega
                · go_num
                · rw [hE0]
                · rw [hB0, HBB.out]
                · rw [hG0]
                · first | (rw [hM0]; done) | rw [hM0, hM1]
              case measure => simp [intOf]; omega
            · have hM1 : gr = M := by rw [HM.out]; unfold mostI; split <;> omega
              go_wp2_with fail
              go_roundw
              case rel =>
                refine ⟨c + 1, ?_, ?_, ?_, ?_, ?_, ?_, hbq⟩
                · omega
                · go_num
                · rw [hE0]
                · rw [hB0, HBB.out]
                · rw [hG0]
                · first | (rw [hM0]; done) | rw [hM0, hM1]
              case measure => simp [intOf]; omega
          · have hge : (n_s : Int) ≤ (c : Int) := by omega
            have hcn : c = s.length := by rw [← Hn.out]; omega
            have hgr : gsM s p m 2 c = gg := by rw [hcn, gsM_full, Hgg.out]
            have HHb := hid (bel_step HB.out hb)
            have hlt : gg < 2 := by have h := (gsM_bound s p m 2 s.length (Nat.le_refl _)).2 rfl; rw [gsM_full, ← Hgg.out, ← HP.out] at h; omega
            have cF : decide (2 ≤ gg) = false := decide_eq_false (by omega)
            rw [hgr]
            clear hlc hcn hgr hb
            go_wp2
            go_ret
            exact ⟨rfl, HHb.out⟩
    · have c1 : (P == 1) = false := beq_eq_false_iff_ne.2 hp1
      obtain rfl | rfl | rfl : o = 0 ∨ o = 1 ∨ o = 2 := by omega
      · as_aux_lemma =>
        go_wp2_with fail
        rw [hw1]
        clear hw1 hw2
        go_loopw [26, 27, 28, 29, 169] (fun gr la be su i wr => ∃ c : Nat, c ≤ n_s ∧ i = .int .i64 c ∧ la = .int .i64 (erL s p m 0 c) ∧ be = .int .i64 (erB s p m 0 c) ∧ su = .int .i64 (gpS s p m 0 c) ∧ gr = .int .i64 (gsM s p m 0 c) ∧ Below w12.heap.size w12 wr)
          (fun _ _ _ _ i _ => n_s - (intOf i).toNat)
        case atStart => exact ⟨0, by omega, rfl, rfl, rfl, rfl, rfl, Below.refl _ _⟩
        case round =>
          obtain ⟨c, hc, rfl, rfl, rfl, rfl, rfl, hb⟩ := hrel
          by_cases hlc : c < n_s
          · skip
            obtain ⟨x, hkx⟩ := get_lt s c (by rw [← Hn.out]; exact hlc)
            obtain ⟨x1, x2⟩ := HSG.out.2.at hkx
            have hkAi : XA[c]? = some (shI s p m 0 c) := by rw [HXA.out, shL, tab_get _ _ _ (by rw [← Hn.out]; exact hlc)]
            have hkEi : XE[c]? = some (erL s p m 0 (c + 1)) := by rw [HXE.out, seL, tab_get _ _ _ (by rw [← Hn.out]; exact hlc)]
            have hkGi : XG[c]? = some (gpS s p m 0 (c + 1)) := by rw [HXG.out, sgL, tab_get _ _ _ (by rw [← Hn.out]; exact hlc)]
            obtain ⟨b0, o0, ix0, hb0, ce0⟩ := (Rd_s.out.kept hb).at (P := Try.prog) (T := 24) n_s c_s uslice sone hkx hlc
            obtain ⟨b1, o1, ix1, hb1, ce1⟩ := (Rd_Ai.out.kept hb).at (P := Try.prog) (T := 24) n_s c_Ai uslice sone hkAi hlc
            obtain ⟨b2, o2, ix2, hb2, ce2⟩ := (Rd_Ei.out.kept hb).at (P := Try.prog) (T := 24) n_s c_Ei uslice sone hkEi hlc
            obtain ⟨b3, o3, ix3, hb3, ce3⟩ := (Rd_Gi.out.kept hb).at (P := Try.prog) (T := 24) n_s c_Gi uslice sone hkGi hlc
            obtain ⟨⟨la1, la2⟩, be1, be2⟩ := H8.out c
            obtain ⟨⟨E1, E2⟩, -, -⟩ := H8.out (c + 1)
            obtain ⟨su1, su2⟩ := HG.out c (by omega)
            obtain ⟨G1, G2⟩ := HG.out (c + 1) (by omega)
            have hE1 : erL s p m 0 (c + 1) = x + bkI 0 (erL s p m 0 c) (erB s p m 0 c) - shI s p m 0 c * P := by
              have h := erL_succ s p m 0 c
              rw [← HP.out] at h
              rw [h]; unfold suI; rw [at0_of hkx]
            have hG : gpS s p m 0 (c + 1) = gpS s p m 0 c + (x - shI s p m 0 c * P) := by
              have h := gpS_succ s p m 0 c
              rw [← HP.out] at h
              rw [h, at0_of hkx]
            have hS : (P = (1 : Int) ∧ erL s p m 0 (c + 1) = 0) ∨ ((1 : Int) < P ∧ -(P : Int) < erL s p m 0 (c + 1) ∧ erL s p m 0 (c + 1) < P) := by
              have h := H9.out c
              rw [← HP.out] at h
              rw [show erL s p m 0 (c + 1) = suI s p m 0 c - shiftI (suI s p m 0 c) p m * P from by have h2 := erL_succ s p m 0 c; rw [← HP.out] at h2; exact h2]
              exact h
            have hM := gsM_succ s p m 0 c (by rw [← Hn.out]; exact hlc)
            have hB := erB_succ s p m 0 c
            have hL0 : erL s p m 0 c = erL s p m 0 c := rfl
            clear hkx hkAi hkEi hkGi
            generalize hE0 : erL s p m 0 (c + 1) = E at *
            generalize hG0 : gpS s p m 0 (c + 1) = G at *
            generalize hM0 : gsM s p m 0 (c + 1) = M at *
            generalize hB0 : erB s p m 0 (c + 1) = B at *
            generalize hL0' : erL s p m 0 c = la at *
            generalize hb0' : erB s p m 0 c = be at *
            generalize gpS s p m 0 c = su at *
            generalize gsM s p m 0 c = gr at *
            generalize shI s p m 0 c = O at *
            have hE : E = x - O * P := by have h := hE1; rw [bkI_0] at h; omega
            clear hE1
            obtain ⟨Q, hQ⟩ : ∃ Q, O * P = Q := ⟨_, rfl⟩
            rw [hQ] at hE hG
            have q1 : IntKind.i64.wrap (O * P) = Q := by rw [hQ]; exact IntWalk.i64_in _ (by omega)
            have q2 : wrap64 (O * P) = Q := by rw [hQ]; exact IntWalk.wrap64_in _ (by omega)
            have q3 : IntKind.i64.wrap (x - Q) = E := by rw [hE]; exact IntWalk.i64_in _ (by omega)
            have q3' : wrap64 (x - Q) = E := by rw [hE]; exact IntWalk.wrap64_in _ (by omega)
            have hGE : G = su + E := by omega
            subst hGE
            have cS : decide (P ≤ absI E) = false := decide_eq_false (by unfold absI; omega)
            have KI := fun (W : World) => iSize_any E W (by omega) (by omega)
            have KG := fun (W : World) => iSize_any (su + E) W (by omega) (by omega)
            have KI := hid KI
            have KG := hid KG
            have HS := hid hS
            have HGv := hid hG
            have HEv := hid hE
            have HM := hid hM
            have HBB := hid hB
            clear hB
            skip
            have HHb := hid hb
            clear hS hQ hE hM hG 
            go_wp2_with fail
            go_quiet ((go_at_call 15; exact Calls.quiet_of_same ((KI.out _).mono fun e w' h => ⟨h.1, h.2.symm⟩)))
            have ce1q : (wr.drewN nq).cell? ⟨b1, o1, none⟩ = some (.int .i64 O) := ce1
            have ce2q : (wr.drewN nq).cell? ⟨b2, o2, none⟩ = some (.int .i64 E) := ce2
            have ce3q : (wr.drewN nq).cell? ⟨b3, o3, none⟩ = some (.int .i64 (su + E)) := ce3
            have hbq := below_drewN HHb.out nq
            generalize wr.drewN nq = wq at ce1q ce2q ce3q hbq ⊢
            go_wp2_with fail
            refine (KG.out _).mono ?_
            rintro e w' ⟨rfl, rfl⟩
            by_cases hgr : gr < absI (su + E)
            · have hM1 : absI (su + E) = M := by rw [HM.out]; unfold mostI; rw [if_neg (by omega)]
              go_wp2_with fail
              refine (KG.out _).mono ?_
              rintro e w' ⟨rfl, rfl⟩
              go_wp2_with fail
              go_roundw
              case rel =>
                refine ⟨c + 1, ?_, ?_, ?_, ?_, ?_, ?_, hbq⟩
                · omega
                · go_num
                · rw [hE0]
                · rw [hB0, HBB.out]
                · rw [hG0]
                · first | (rw [hM0]; done) | rw [hM0, hM1]
              case measure => simp [intOf]; omega
            · have hM1 : gr = M := by rw [HM.out]; unfold mostI; split <;> omega
              go_wp2_with fail
              go_roundw
              case rel =>
                refine ⟨c + 1, ?_, ?_, ?_, ?_, ?_, ?_, hbq⟩
                · omega
                · go_num
                · rw [hE0]
                · rw [hB0, HBB.out]
                · rw [hG0]
                · first | (rw [hM0]; done) | rw [hM0, hM1]
              case measure => simp [intOf]; omega
          · have hge : (n_s : Int) ≤ (c : Int) := by omega
            have hcn : c = s.length := by rw [← Hn.out]; omega
            have hgr : gsM s p m 0 c = gg := by rw [hcn, gsM_full, Hgg.out]
            have HHb := hid (bel_step HB.out hb)
            rw [hgr]
            clear hlc hcn hgr hb
            go_wp2
            go_ret
            exact ⟨rfl, HHb.out⟩
      · as_aux_lemma =>
        go_wp2_with fail
        rw [hw1]
        clear hw1 hw2
        go_loopw [26, 27, 28, 29, 169] (fun gr la be su i wr => ∃ c : Nat, c ≤ n_s ∧ i = .int .i64 c ∧ la = .int .i64 (erL s p m 1 c) ∧ be = .int .i64 (erB s p m 1 c) ∧ su = .int .i64 (gpS s p m 1 c) ∧ gr = .int .i64 (gsM s p m 1 c) ∧ Below w12.heap.size w12 wr)
          (fun _ _ _ _ i _ => n_s - (intOf i).toNat)
        case atStart => exact ⟨0, by omega, rfl, rfl, rfl, rfl, rfl, Below.refl _ _⟩
        case round =>
          obtain ⟨c, hc, rfl, rfl, rfl, rfl, rfl, hb⟩ := hrel
          by_cases hlc : c < n_s
          · skip
            obtain ⟨x, hkx⟩ := get_lt s c (by rw [← Hn.out]; exact hlc)
            obtain ⟨x1, x2⟩ := HSG.out.2.at hkx
            have hkAi : XA[c]? = some (shI s p m 1 c) := by rw [HXA.out, shL, tab_get _ _ _ (by rw [← Hn.out]; exact hlc)]
            have hkEi : XE[c]? = some (erL s p m 1 (c + 1)) := by rw [HXE.out, seL, tab_get _ _ _ (by rw [← Hn.out]; exact hlc)]
            have hkGi : XG[c]? = some (gpS s p m 1 (c + 1)) := by rw [HXG.out, sgL, tab_get _ _ _ (by rw [← Hn.out]; exact hlc)]
            obtain ⟨b0, o0, ix0, hb0, ce0⟩ := (Rd_s.out.kept hb).at (P := Try.prog) (T := 24) n_s c_s uslice sone hkx hlc
            obtain ⟨b1, o1, ix1, hb1, ce1⟩ := (Rd_Ai.out.kept hb).at (P := Try.prog) (T := 24) n_s c_Ai uslice sone hkAi hlc
            obtain ⟨b2, o2, ix2, hb2, ce2⟩ := (Rd_Ei.out.kept hb).at (P := Try.prog) (T := 24) n_s c_Ei uslice sone hkEi hlc
            obtain ⟨b3, o3, ix3, hb3, ce3⟩ := (Rd_Gi.out.kept hb).at (P := Try.prog) (T := 24) n_s c_Gi uslice sone hkGi hlc
            obtain ⟨⟨la1, la2⟩, be1, be2⟩ := H8.out c
            obtain ⟨⟨E1, E2⟩, -, -⟩ := H8.out (c + 1)
            obtain ⟨su1, su2⟩ := HG.out c (by omega)
            obtain ⟨G1, G2⟩ := HG.out (c + 1) (by omega)
            have hE1 : erL s p m 1 (c + 1) = x + bkI 1 (erL s p m 1 c) (erB s p m 1 c) - shI s p m 1 c * P := by
              have h := erL_succ s p m 1 c
              rw [← HP.out] at h
              rw [h]; unfold suI; rw [at0_of hkx]
            have hG : gpS s p m 1 (c + 1) = gpS s p m 1 c + (x - shI s p m 1 c * P) := by
              have h := gpS_succ s p m 1 c
              rw [← HP.out] at h
              rw [h, at0_of hkx]
            have hS : (P = (1 : Int) ∧ erL s p m 1 (c + 1) = 0) ∨ ((1 : Int) < P ∧ -(P : Int) < erL s p m 1 (c + 1) ∧ erL s p m 1 (c + 1) < P) := by
              have h := H9.out c
              rw [← HP.out] at h
              rw [show erL s p m 1 (c + 1) = suI s p m 1 c - shiftI (suI s p m 1 c) p m * P from by have h2 := erL_succ s p m 1 c; rw [← HP.out] at h2; exact h2]
              exact h
            have hM := gsM_succ s p m 1 c (by rw [← Hn.out]; exact hlc)
            have hB := erB_succ s p m 1 c
            have hL0 : erL s p m 1 c = erL s p m 1 c := rfl
            clear hkx hkAi hkEi hkGi
            generalize hE0 : erL s p m 1 (c + 1) = E at *
            generalize hG0 : gpS s p m 1 (c + 1) = G at *
            generalize hM0 : gsM s p m 1 (c + 1) = M at *
            generalize hB0 : erB s p m 1 (c + 1) = B at *
            have hdue : G = E := by have := gp_one s p m (c + 1); rw [hG0, hE0] at this; exact this
            generalize hL0' : erL s p m 1 c = la at *
            generalize hb0' : erB s p m 1 c = be at *
            generalize gpS s p m 1 c = su at *
            generalize gsM s p m 1 c = gr at *
            generalize shI s p m 1 c = O at *
            have hE : E = x + la - O * P := by have h := hE1; rw [bkI_1] at h; omega
            clear hE1
            obtain ⟨Q, hQ⟩ : ∃ Q, O * P = Q := ⟨_, rfl⟩
            rw [hQ] at hE hG
            have q1 : IntKind.i64.wrap (O * P) = Q := by rw [hQ]; exact IntWalk.i64_in _ (by omega)
            have q2 : wrap64 (O * P) = Q := by rw [hQ]; exact IntWalk.wrap64_in _ (by omega)
            have q3 : IntKind.i64.wrap (x + la - Q) = E := by rw [hE]; exact IntWalk.i64_in _ (by omega)
            have q3' : wrap64 (x + la - Q) = E := by rw [hE]; exact IntWalk.wrap64_in _ (by omega)
            have q4 : wrap64 (x - Q) = x - Q := IntWalk.wrap64_in _ (by omega)
            have q5 : wrap64 (su + (x - Q)) = G := by rw [hG]; exact IntWalk.wrap64_in _ (by omega)
            have cS : decide (P ≤ absI E) = false := decide_eq_false (by unfold absI; omega)
            have KI := fun (W : World) => iSize_any E W (by omega) (by omega)
            have KG := fun (W : World) => iSize_any G W (by omega) (by omega)
            have KI := hid KI
            have KG := hid KG
            have HS := hid hS
            have HGv := hid hG
            have HEv := hid hE
            have HM := hid hM
            have HBB := hid hB
            clear hB
            have HD := hid hdue
            have HHb := hid hb
            clear hS hQ hE hM hG hdue
            go_wp2_with fail
            go_quiet ((go_at_call 15; exact Calls.quiet_of_same ((KI.out _).mono fun e w' h => ⟨h.1, h.2.symm⟩)))
            have ce1q : (wr.drewN nq).cell? ⟨b1, o1, none⟩ = some (.int .i64 O) := ce1
            have ce2q : (wr.drewN nq).cell? ⟨b2, o2, none⟩ = some (.int .i64 E) := ce2
            have ce3q : (wr.drewN nq).cell? ⟨b3, o3, none⟩ = some (.int .i64 G) := ce3
            have hbq := below_drewN HHb.out nq
            generalize wr.drewN nq = wq at ce1q ce2q ce3q hbq ⊢
            have cD : (G != E) = false := bne_eq_false_iff_eq.2 HD.out
            go_wp2_with fail
            refine (KG.out _).mono ?_
            rintro e w' ⟨rfl, rfl⟩
            by_cases hgr : gr < absI G
            · have hM1 : absI G = M := by rw [HM.out]; unfold mostI; rw [if_neg (by omega)]
              go_wp2_with fail
              refine (KG.out _).mono ?_
              rintro e w' ⟨rfl, rfl⟩
              go_wp2_with fail
              go_roundw
              case rel =>
                refine ⟨c + 1, ?_, ?_, ?_, ?_, ?_, ?_, hbq⟩
                · omega
                · go_num
                · rw [hE0]
                · rw [hB0, HBB.out]
                · rw [hG0]
                · first | (rw [hM0]; done) | rw [hM0, hM1]
              case measure => simp [intOf]; omega
            · have hM1 : gr = M := by rw [HM.out]; unfold mostI; split <;> omega
              go_wp2_with fail
              go_roundw
              case rel =>
                refine ⟨c + 1, ?_, ?_, ?_, ?_, ?_, ?_, hbq⟩
                · omega
                · go_num
                · rw [hE0]
                · rw [hB0, HBB.out]
                · rw [hG0]
                · first | (rw [hM0]; done) | rw [hM0, hM1]
              case measure => simp [intOf]; omega
          · have hge : (n_s : Int) ≤ (c : Int) := by omega
            have hcn : c = s.length := by rw [← Hn.out]; omega
            have hgr : gsM s p m 1 c = gg := by rw [hcn, gsM_full, Hgg.out]
            have HHb := hid (bel_step HB.out hb)
            have hlt : gg < P := by have h := (gsM_bound s p m 1 s.length (Nat.le_refl _)).1 rfl; rw [gsM_full, ← Hgg.out, ← HP.out] at h; omega
            have cF : decide (P ≤ gg) = false := decide_eq_false (by omega)
            rw [hgr]
            clear hlc hcn hgr hb
            go_wp2
            go_ret
            exact ⟨rfl, HHb.out⟩
      · as_aux_lemma =>
        go_wp2_with fail
        rw [hw1]
        clear hw1 hw2
        go_loopw [26, 27, 28, 29, 169] (fun gr la be su i wr => ∃ c : Nat, c ≤ n_s ∧ i = .int .i64 c ∧ la = .int .i64 (erL s p m 2 c) ∧ be = .int .i64 (erB s p m 2 c) ∧ su = .int .i64 (gpS s p m 2 c) ∧ gr = .int .i64 (gsM s p m 2 c) ∧ Below w12.heap.size w12 wr)
          (fun _ _ _ _ i _ => n_s - (intOf i).toNat)
        case atStart => exact ⟨0, by omega, rfl, rfl, rfl, rfl, rfl, Below.refl _ _⟩
        case round =>
          obtain ⟨c, hc, rfl, rfl, rfl, rfl, rfl, hb⟩ := hrel
          by_cases hlc : c < n_s
          · skip
            obtain ⟨x, hkx⟩ := get_lt s c (by rw [← Hn.out]; exact hlc)
            obtain ⟨x1, x2⟩ := HSG.out.2.at hkx
            have hkAi : XA[c]? = some (shI s p m 2 c) := by rw [HXA.out, shL, tab_get _ _ _ (by rw [← Hn.out]; exact hlc)]
            have hkEi : XE[c]? = some (erL s p m 2 (c + 1)) := by rw [HXE.out, seL, tab_get _ _ _ (by rw [← Hn.out]; exact hlc)]
            have hkGi : XG[c]? = some (gpS s p m 2 (c + 1)) := by rw [HXG.out, sgL, tab_get _ _ _ (by rw [← Hn.out]; exact hlc)]
            obtain ⟨b0, o0, ix0, hb0, ce0⟩ := (Rd_s.out.kept hb).at (P := Try.prog) (T := 24) n_s c_s uslice sone hkx hlc
            obtain ⟨b1, o1, ix1, hb1, ce1⟩ := (Rd_Ai.out.kept hb).at (P := Try.prog) (T := 24) n_s c_Ai uslice sone hkAi hlc
            obtain ⟨b2, o2, ix2, hb2, ce2⟩ := (Rd_Ei.out.kept hb).at (P := Try.prog) (T := 24) n_s c_Ei uslice sone hkEi hlc
            obtain ⟨b3, o3, ix3, hb3, ce3⟩ := (Rd_Gi.out.kept hb).at (P := Try.prog) (T := 24) n_s c_Gi uslice sone hkGi hlc
            obtain ⟨⟨la1, la2⟩, be1, be2⟩ := H8.out c
            obtain ⟨⟨E1, E2⟩, -, -⟩ := H8.out (c + 1)
            obtain ⟨su1, su2⟩ := HG.out c (by omega)
            obtain ⟨G1, G2⟩ := HG.out (c + 1) (by omega)
            have hE1 : erL s p m 2 (c + 1) = x + bkI 2 (erL s p m 2 c) (erB s p m 2 c) - shI s p m 2 c * P := by
              have h := erL_succ s p m 2 c
              rw [← HP.out] at h
              rw [h]; unfold suI; rw [at0_of hkx]
            have hG : gpS s p m 2 (c + 1) = gpS s p m 2 c + (x - shI s p m 2 c * P) := by
              have h := gpS_succ s p m 2 c
              rw [← HP.out] at h
              rw [h, at0_of hkx]
            have hS : (P = (1 : Int) ∧ erL s p m 2 (c + 1) = 0) ∨ ((1 : Int) < P ∧ -(P : Int) < erL s p m 2 (c + 1) ∧ erL s p m 2 (c + 1) < P) := by
              have h := H9.out c
              rw [← HP.out] at h
              rw [show erL s p m 2 (c + 1) = suI s p m 2 c - shiftI (suI s p m 2 c) p m * P from by have h2 := erL_succ s p m 2 c; rw [← HP.out] at h2; exact h2]
              exact h
            have hM := gsM_succ s p m 2 c (by rw [← Hn.out]; exact hlc)
            have hB := erB_succ s p m 2 c
            have hL0 : erL s p m 2 c = erL s p m 2 c := rfl
            clear hkx hkAi hkEi hkGi
            generalize hE0 : erL s p m 2 (c + 1) = E at *
            generalize hG0 : gpS s p m 2 (c + 1) = G at *
            generalize hM0 : gsM s p m 2 (c + 1) = M at *
            generalize hB0 : erB s p m 2 (c + 1) = B at *
            have hdue : G = E - erL s p m 2 c := by have := gp_two s p m (c + 1); rw [hG0, hE0, hB0, hB] at this; exact this
            generalize hL0' : erL s p m 2 c = la at *
            generalize hb0' : erB s p m 2 c = be at *
            generalize gpS s p m 2 c = su at *
            generalize gsM s p m 2 c = gr at *
            generalize shI s p m 2 c = O at *
            have hE : E = x + (2 * la - be) - O * P := by have h := hE1; rw [bkI_2] at h; omega
            clear hE1
            obtain ⟨Q, hQ⟩ : ∃ Q, O * P = Q := ⟨_, rfl⟩
            rw [hQ] at hE hG
            have q1 : IntKind.i64.wrap (O * P) = Q := by rw [hQ]; exact IntWalk.i64_in _ (by omega)
            have q2 : wrap64 (O * P) = Q := by rw [hQ]; exact IntWalk.wrap64_in _ (by omega)
            have q3 : IntKind.i64.wrap (x + (2 * la - be) - Q) = E := by rw [hE]; exact IntWalk.i64_in _ (by omega)
            have q3' : wrap64 (x + (2 * la - be) - Q) = E := by rw [hE]; exact IntWalk.wrap64_in _ (by omega)
            have q4 : wrap64 (x - Q) = x - Q := IntWalk.wrap64_in _ (by omega)
            have q5 : wrap64 (su + (x - Q)) = G := by rw [hG]; exact IntWalk.wrap64_in _ (by omega)
            have cS : decide (P ≤ absI E) = false := decide_eq_false (by unfold absI; omega)
            have KI := fun (W : World) => iSize_any E W (by omega) (by omega)
            have KG := fun (W : World) => iSize_any G W (by omega) (by omega)
            have KI := hid KI
            have KG := hid KG
            have HS := hid hS
            have HGv := hid hG
            have HEv := hid hE
            have HM := hid hM
            have HBB := hid hB
            clear hB
            have HD := hid hdue
            have HHb := hid hb
            clear hS hQ hE hM hG hdue
            go_wp2_with fail
            go_quiet ((go_at_call 15; exact Calls.quiet_of_same ((KI.out _).mono fun e w' h => ⟨h.1, h.2.symm⟩)))
            have ce1q : (wr.drewN nq).cell? ⟨b1, o1, none⟩ = some (.int .i64 O) := ce1
            have ce2q : (wr.drewN nq).cell? ⟨b2, o2, none⟩ = some (.int .i64 E) := ce2
            have ce3q : (wr.drewN nq).cell? ⟨b3, o3, none⟩ = some (.int .i64 G) := ce3
            have hbq := below_drewN HHb.out nq
            generalize wr.drewN nq = wq at ce1q ce2q ce3q hbq ⊢
            have cD : (G != E - la) = false := bne_eq_false_iff_eq.2 HD.out
            go_wp2_with fail
            refine (KG.out _).mono ?_
            rintro e w' ⟨rfl, rfl⟩
            by_cases hgr : gr < absI G
            · have hM1 : absI G = M := by rw [HM.out]; unfold mostI; rw [if_neg (by omega)]
              go_wp2_with fail
              refine (KG.out _).mono ?_
              rintro e w' ⟨rfl, rfl⟩
              go_wp2_with fail
              go_roundw
              case rel =>
                refine ⟨c + 1, ?_, ?_, ?_, ?_, ?_, ?_, hbq⟩
                · omega
                · go_num
                · rw [hE0]
                · rw [hB0, HBB.out]
                · rw [hG0]
                · first | (rw [hM0]; done) | rw [hM0, hM1]
              case measure => simp [intOf]; omega
            · have hM1 : gr = M := by rw [HM.out]; unfold mostI; split <;> omega
              go_wp2_with fail
              go_roundw
              case rel =>
                refine ⟨c + 1, ?_, ?_, ?_, ?_, ?_, ?_, hbq⟩
                · omega
                · go_num
                · rw [hE0]
                · rw [hB0, HBB.out]
                · rw [hG0]
                · first | (rw [hM0]; done) | rw [hM0, hM1]
              case measure => simp [intOf]; omega
          · have hge : (n_s : Int) ≤ (c : Int) := by omega
            have hcn : c = s.length := by rw [← Hn.out]; omega
            have hgr : gsM s p m 2 c = gg := by rw [hcn, gsM_full, Hgg.out]
            have HHb := hid (bel_step HB.out hb)
            have hlt : gg < 2 * P := by have h := (gsM_bound s p m 2 s.length (Nat.le_refl _)).2 rfl; rw [gsM_full, ← Hgg.out, ← HP.out] at h; omega
            have cF : decide (2 * P ≤ gg) = false := decide_eq_false (by omega)
            have e5 : IntKind.i64.wrap (2 * P) = 2 * P := IntWalk.i64_in _ (by omega)
            have e6 : wrap64 (2 * P) = 2 * P := IntWalk.wrap64_in _ (by omega)
            rw [hgr]
            clear hlc hcn hgr hb
            go_wp2
            go_ret
            exact ⟨rfl, HHb.out⟩


set_option maxRecDepth 20000 in
set_option maxHeartbeats 4000000 in
theorem walk_FnErrorsShaped (w : World) (u1 : Option Addr) (n1 c1 : Nat) (z1 : List Int) (hr1 : IsRow .u8 w u1 n1 c1 z1) (u2 : Option Addr) (n2 c2 : Nat) (z2 : List Int) (hr2 : IsRow .u8 w u2 n2 c2 z2) :
    Calls Try.prog 3 #[.slice u1 n1 c1, .slice u2 n2 c2] w fun e w' => e = .returned (.bool true) ∧ Below w.heap.size w w' := by
  have hb := IsRow.by hr1
  have hb2 := IsRow.by hr2
  have hm := IsRow.len_le hr2
  clear hr1 hr2
  by_cases h1 : 1048576 < n1
  · clear hb hb2
    go_enter Try.func3, Try.ntmps3
    go_wp2_with fail
    refine (big_first _ _ _ _ _ _ _ h1).mono ?_
    rintro e w' ⟨rfl, rfl⟩
    go_wp2
    go_ret
    exact ⟨rfl, Below.refl _ _⟩
  · have h1' : n1 ≤ 1048576 := by omega
    by_cases h2 : 1048576 - n1 < n2
    · have H2 := hid h2
      clear hb hb2 h1 h2
      go_enter Try.func3, Try.ntmps3
      go_wp2_with fail
      refine (big_both _ _ _ _ _ _ _ h1' H2.out hm).mono ?_
      rintro e w' ⟨rfl, rfl⟩
      go_wp2
      go_ret
      exact ⟨rfl, Below.refl _ _⟩
    · exact law_FnErrorsShaped u1 u2 n1 c1 n2 c2 w hb hb2 h1' (by omega)

end Go.Proofs.Ythgdpmhpieakhaa
