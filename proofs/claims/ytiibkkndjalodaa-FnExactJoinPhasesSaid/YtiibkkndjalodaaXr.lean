
import Derived.Test.YtiibkkndjalodaaXq
import Derived.Test.YtiibkkndjalodaaVb
namespace Go.Proofs.Ytiibkkndjalodaa
open Go.RowKit BitX Go.MemX Go.Ch6 Go.Ch8
set_option linter.unusedVariables false


set_option maxHeartbeats 2000000 in
theorem impl_JoinPhases_any (v : Value) (Ls : List (List Int)) (w : World) (hs : SlS w v Ls) (hn : Ls.length ≤ 1048576) (hl : lenS Ls ≤ 1048576) :
    Calls Try.prog 7 #[v] w (Gives w (onL (jpB Ls) (jpL Ls)) (jpB Ls)) := by
  have hmf : ∀ (fn : Fn) (first cap : Array Value) (w : World), (Instr.makeFunc fn first cap).run Try.prog w = .ok (.func fn first cap) w := fun _ _ _ _ => rfl
  obtain ⟨a, cap, rfl, hr⟩ := id hs
  obtain ⟨W1, hW1⟩ : ∃ W1, W1 = (w.alloc (.cells #[.slice a Ls.length cap] 22)).alloc (.cells #[.int .i64 ((Ls.length : Nat) : Int)] 3) := ⟨_, rfl⟩
  have hB1 : Below w.heap.size w W1 := by rw [hW1]; exact bel_step (bel_alloc _ _) (bel_alloc _ _)
  have hc1 : W1.cell? ⟨w.heap.size, 0, none⟩ = some (.slice a Ls.length cap) := by
    rw [hW1, World.cell?_alloc_lt _ _ _ (by simp), World.cell?_alloc_at _ _ _ _ rfl]; rfl
  have hc2 : W1.cell? ⟨w.heap.size + 1, 0, none⟩ = some (.int .i64 ((Ls.length : Nat) : Int)) := by
    rw [hW1, show w.heap.size + 1 = (w.alloc (.cells #[.slice a Ls.length cap] 22)).heap.size from by simp, World.cell?_alloc_at _ _ _ _ rfl]; rfl
  have hs1 := hs.kept hB1
  have hM : 1 ≤ Ls.length → Ls.length ≤ 8 → MadeAt Try.prog 19 #[.pointer (some ⟨w.heap.size, 0, none⟩), .pointer (some ⟨w.heap.size + 1, 0, none⟩)] (lenS Ls) (jpH Ls) (jpG Ls) W1 := fun n1 n8 W k hk hW =>
    jpC_any w.heap.size (w.heap.size + 1) k (.slice a Ls.length cap) Ls W ((hW.cell (block_lt_of_cell hc1)).trans hc1) ((hW.cell (block_lt_of_cell hc2)).trans hc2) (hs1.kept hW) n1 n8 (by omega) hl
  have HM := hid hM
  have HR := hid (hr.kept hB1)
  have HL := hid hl
  have HB1 := hid hB1
  obtain ⟨n, hnn⟩ : ∃ n, n = Ls.length := ⟨_, rfl⟩
  rw [← hnn] at hn hc1 hc2 hW1 ⊢
  have Hn := hid hnn
  cases hp : decide (1 ≤ n ∧ n ≤ 8)
  · have HP := hid (rat8 hp)
    have HN := hid (jpB_n1 (Ls := Ls) (by rw [← hnn]; exact hp))
    clear hr hnn hl hp hs hs1 hM hB1
    go_enter Try.func7, Try.ntmps7
    go_wp2_with fail
    rw [← hW1]
    clear hW1
    refine (isRatio_is _ _ false _ HP.out).mono ?_
    rintro e w' ⟨rfl, rfl⟩
    go_wp2_with fail
    go_ret2
    exact gives_no HN.out HB1.out
  · have HP := hid (rat8 hp)
    obtain ⟨n1, n8⟩ := of_decide_eq_true hp
    clear hr hnn hl hp hs hs1 hM hB1
    go_enter Try.func7, Try.ntmps7
    go_wp2_with fail
    rw [← hW1]
    clear hW1
    refine (isRatio_is _ _ true _ HP.out).mono ?_
    rintro e w' ⟨rfl, rfl⟩
    go_wp2_with fail
    go_loop [5, 17] (fun s i => ∃ k : Nat, k ≤ n ∧ i = .int .i64 k ∧ s = .int .i64 ((lenS (Ls.take k) : Nat) : Int))
      (fun _ i => n - (intOf i).toNat)
    case atStart => exact ⟨0, by omega, rfl, rfl⟩
    case round =>
      obtain ⟨k, hk, rfl, rfl⟩ := hrel
      by_cases hlk : k < n
      · obtain ⟨L, hkL⟩ := RdS.get9 (Ls := Ls) (k := k) (by rw [← Hn.out]; exact hlk)
        obtain ⟨b, off, u, hix, hbb, hce, hsl⟩ := HR.out.at (P := Try.prog) (T := 22) n cap uslice9 sone9 hkL hlk
        obtain ⟨ua, uc, rfl, _⟩ := RdS.len9 hsl
        have hle := lenS_le (xss := Ls) (i := k + 1)
        have hst := lenS_step hkL
        have hl2 := HL.out
        have hlb : lenS (Ls.take k) ≤ 1048576 := by omega
        have hqb : L.length ≤ 1048576 := by omega
        have Hst := hid hst
        clear hkL hsl hle hst hl2
        generalize L.length = q at *
        generalize lenS (Ls.take k) = t at *
        go_wp2
        go_round
        case rel => exact ⟨k + 1, by omega, by go_num, by rw [Hst.out]; go_num⟩
        case measure => simp [intOf]; omega
      · have hge : (n : Int) ≤ (k : Int) := by omega
        have hkn : k = Ls.length := by rw [← Hn.out]; omega
        have hA : lenS (Ls.take k) = lenS Ls := by rw [hkn, List.take_length]
        rw [hA]
        have hP9 := placed_any 19 #[.pointer (some ⟨w.heap.size, 0, none⟩), .pointer (some ⟨w.heap.size + 1, 0, none⟩)] enterJP (lenS Ls) (Nat.le_trans HL.out (by omega)) (jpH Ls) (jpG Ls) W1 (HM.out (by rw [← Hn.out]; exact n1) (by rw [← Hn.out]; exact n8))
        have HE := hid (show plB (lenS Ls) (jpH Ls) (jpG Ls) = true → jpB Ls = wgtB (jpL Ls) from pl_jp (by rw [← Hn.out]; exact n1) (by rw [← Hn.out]; exact n8))
        have HF := hid (show plB (lenS Ls) (jpH Ls) (jpG Ls) = false → jpB Ls = false from jp_npl)
        clear hkn hlk hA
        cases hq : plB (lenS Ls) (jpH Ls) (jpG Ls)
        · rw [hq] at hP9
          have HP9 := hid hP9
          have HN := hid (HF.out hq)
          clear hP9 hq
          go_wp2_with fail
          refine HP9.out.mono ?_
          rintro e w2 ⟨x, rfl, R, hb⟩
          clear R
          go_wp2_with fail
          go_ret2
          exact gives_no HN.out (bel_step HB1.out hb)
        · rw [hq] at hP9
          have HP9 := hid hP9
          have HN := hid (HE.out hq)
          clear hP9 hq
          go_wp2_with fail
          refine HP9.out.mono ?_
          rintro e w2 ⟨x, rfl, R, hb⟩
          have HRR := hid (show Res 3 W1.heap.size w2 x (jpL Ls) from R)
          obtain ⟨bq, hbq⟩ : ∃ bq, wgtB (jpL Ls) = bq := ⟨_, rfl⟩
          have HBQ := hid hbq
          clear R hbq
          go_wp2_with fail
          refine (onlyWeights_is _ _ bq _ HRR.out.sl HBQ.out).mono ?_
          rintro e w' ⟨rfl, rfl⟩
          go_wp2
          go_ret2
          exact gives_if8 (HBQ.out.symm.trans HN.out.symm) (HRR.out.mono HB1.out.size) (bel_step HB1.out hb)


set_option maxHeartbeats 2000000 in
theorem gen_FnExactJoinPhases (Ls : List (List Int)) (ys : List Int) (ok : Bool) (u : Option Addr) (l c : Nat) (w : World) (hs : SlS w (.slice u l c) Ls) (hn : Ls.length ≤ 9223372036854775807) (hl : ∀ (i : Nat) (L : List Int), Ls[i]? = some L → L.length ≤ 9223372036854775807)
    (hspec : ∀ (w : World) (v : Value), SlS w v Ls → Ls.length ≤ 1048576 → lenS Ls ≤ 1048576 → Calls Try.prog 5 #[v] w (Gives w ys ok)) (himpl : ∀ (w : World) (v : Value), SlS w v Ls → Ls.length ≤ 1048576 → lenS Ls ≤ 1048576 → Calls Try.prog 7 #[v] w (Gives w ys ok)) (hy : lenS Ls ≤ 1048576 → ys.length ≤ 2000000) :
    Calls Try.prog 3 #[.slice u l c] w fun e w' => e = .returned (.bool true) ∧ Below w.heap.size w w' := by
  have HS := hid hs
  have HN := hid hn
  have HL := hid hl
  have HSP := hid hspec
  have HIM := hid himpl
  have HY := hid hy
  clear hs hn hl hspec himpl hy
  go_enter Try.func3, Try.ntmps3
  go_wp2_with fail
  refine (szIntSS_any _ Ls _ HS.out HN.out HL.out).mono ?_
  rintro e w' ⟨⟨r, rfl, hr⟩, rfl⟩
  rcases hr with rfl | ⟨r0, hn, hl⟩
  · go_wp2
    go_ret
    exact ⟨rfl, Below.refl _ _⟩
  · have hy := HY.out hl
    have HNN := hid hn
    have HLL := hid hl
    have HN2 := hid (show Ls.length ≤ 2000000 by omega)
    have HL2 := hid (show lenS Ls ≤ 2000000 by omega)
    have HY2 := hid hy
    have hqm : (0 : Int) ≤ ((1 + lenS Ls : Nat) : Int) := by omega
    clear hn hl hy
    have HQM := hid hqm
    clear hqm
    generalize hN : lenS Ls = N at HQM
    have HNq := hid hN
    clear hN
    cases ok
    all_goals
      go_wp2_with fail
      refine (toIntSS_any _ Ls _ HS.out HNN.out HLL.out).mono ?_
      rintro e w1 ⟨v1, vs1, rfl, A1, hb⟩
      have B1 := hid hb
      have HA1 := hid A1
      clear hb A1
      go_wp2_with fail
      refine (HSP.out _ _ HA1.out.sls HNN.out HLL.out).mono ?_
      rintro e w2 ⟨vR0, rfl, R0, hb⟩
      have B2 := hid (bel_step B1.out hb)
      have HR0 := hid R0
      have hz12 := hb.size
      clear hb R0 HA1
      go_wp2_with fail
      refine (toIntSS_any _ Ls _ (HS.out.kept B2.out) HNN.out HLL.out).mono ?_
      rintro e w3 ⟨vX, vsX, rfl, X, hb⟩
      have B3 := hid (bel_step B2.out hb)
      have HX := hid X
      have HR0' := hid (HR0.out.kept hb)
      have hz23 := hb.size
      have hltX : ∀ u ∈ vsX, ∀ g, u.ownBlock = some g → g < w3.heap.size := fun u hu g hg => X.mine_lt (.inr ⟨u, hu, hg⟩)
      have hgeX := X.ge
      have hltR : ∀ g, vR0.ownBlock = some g → g < w2.heap.size := fun g hg => HR0.out.lt hg
      have HltX := hid hltX
      have HgeX := hid hgeX
      have HltR := hid hltR
      clear hb X hltX hgeX hltR
      go_wp2_with fail
      refine (HIM.out _ _ HX.out.sls HNN.out HLL.out).mono ?_
      rintro e w4 ⟨vR1, rfl, R1, hb⟩
      have B4 := hid (bel_step B3.out hb)
      have HX4 := hid (HX.out.kept hb)
      have HR04 := hid (HR0'.out.kept hb)
      have HR1 := hid R1
      have HgeR := hid (show ∀ g, vR1.ownBlock = some g → w3.heap.size ≤ g from fun g hg => R1.ge hg)
      clear hb R1 HX HR0'
      go_wp2_with fail
      refine (eqIntS_same _ _ ys _ HR1.out.sl HR04.out.sl HY2.out).mono ?_
      rintro e w5 ⟨rfl, hb⟩
      have B5 := hid (bel_step B4.out hb)
      have HX5 := hid (HX4.out.kept hb)
      have HR05 := hid (HR04.out.kept hb)
      have HR15 := hid (HR1.out.kept hb)
      clear hb HX4 HR04 HR1
      go_wp2_with fail
      refine (toIntSS_any _ Ls _ (HS.out.kept B5.out) HNN.out HLL.out).mono ?_
      rintro e w6 ⟨vT, vsT, rfl, T, hb⟩
      have B6 := hid (bel_step B5.out hb)
      have HT := hid T
      have HX6 := hid (HX5.out.kept hb)
      have HR06 := hid (HR05.out.kept hb)
      have HR16 := hid (HR15.out.kept hb)
      clear hb T HX5 HR05 HR15
      go_wp2_with fail
      refine (eqIntSS_same _ _ _ _ Ls _ _ _ HX6.out HT.out HN2.out HL2.out).mono ?_
      rintro e w7 ⟨rfl, hb⟩
      have B7 := hid (bel_step B6.out hb)
      have HX7 := hid (HX6.out.kept hb)
      have HR07 := hid (HR06.out.kept hb)
      have HR17 := hid (HR16.out.kept hb)
      clear hb HX6 HR06 HR16 HT
      go_wp2_with fail
      refine (markIntSS_one _ _ Ls _ _ HX7.out HN2.out HL2.out).mono ?_
      rintro e w8 ⟨rfl, ho, _⟩
      have B8 := hid (B7.out.trans (ho.below fun u hu g hg => Nat.le_trans B2.out.size (HgeX.out u hu g hg)))
      have HR08 := hid (HR07.out.same fun g hg => ho.block g fun u hu e => by have := HgeX.out u hu g e; have := HltR.out g hg; omega)
      have HR18 := hid (HR17.out.same fun g hg => ho.block g fun u hu e => by have := HltX.out u hu g e; have := HgeR.out g hg; omega)
      clear ho HX7 HR07 HR17
      rw [HNq.out]
      have hqm := HQM.out
      go_wp2_with fail
      refine (eqIntS_same _ _ ys _ HR18.out.sl HR08.out.sl HY2.out).mono ?_
      rintro e w9 ⟨rfl, hb⟩
      have B9 := hid (bel_step B8.out hb)
      have HR09 := hid (HR08.out.kept hb)
      have HR19 := hid (HR18.out.kept hb)
      clear hb HR08 HR18
      go_wp2_with fail
      refine (markIntS_one _ ys _ _ HR19.out HY2.out).mono ?_
      rintro e w10 ⟨rfl, ho, M⟩
      have B10 := hid (B9.out.trans (ho.below fun g hg => Nat.le_trans B3.out.size (HgeR.out g hg)))
      have HR010 := hid (HR09.out.only ho fun g hg e => by have := HgeR.out g e; have := HltR.out g hg; omega)
      have HM := hid M
      clear ho M HR09 HR19
      go_wp2_with fail
      refine (heldIntS_one _ ys.length _ _ HM.out HY2.out).mono ?_
      rintro e w' ⟨rfl, rfl⟩
      go_wp2_with fail
      refine (toIntSS_any _ Ls _ (HS.out.kept B10.out) HNN.out HLL.out).mono ?_
      rintro e w11 ⟨vU, vsU, rfl, U, hb⟩
      have B11 := hid (bel_step B10.out hb)
      have HU := hid U
      have HR011 := hid (HR010.out.kept hb)
      have HM11 := hid (HM.out.kept hb)
      clear hb U HR010 HM
      go_wp2_with fail
      refine (HIM.out _ _ HU.out.sls HNN.out HLL.out).mono ?_
      rintro e w12 ⟨vR2, rfl, R2, hb⟩
      have B12 := hid (bel_step B11.out hb)
      have HR012 := hid (HR011.out.kept hb)
      have HM12 := hid (HM11.out.kept hb)
      have HR2 := hid R2
      clear hb R2 HR011 HM11
      go_wp2_with fail
      refine (eqIntS_same _ _ ys _ HR2.out.sl HR012.out.sl HY2.out).mono ?_
      rintro e w13 ⟨rfl, hb⟩
      have B13 := hid (bel_step B12.out hb)
      have HM13 := hid (HM12.out.kept hb)
      clear hb HM12
      go_wp2_with fail
      refine (heldIntS_one _ ys.length _ _ HM13.out HY2.out).mono ?_
      rintro e w' ⟨rfl, rfl⟩
      go_wp2_with fail
      go_ret
      exact ⟨rfl, B13.out⟩
def SSArg (w : World) (a : Option Addr) (n : Nat) (Ls : List (List Int)) : Prop := Ls.length = n ∧ n ≤ 9223372036854775807 ∧ RdS w a Ls ∧ ∀ (i : Nat) (L : List Int), Ls[i]? = some L → L.length ≤ 9223372036854775807
theorem walk_FnExactJoinPhases (w : World) (u : Option Addr) (l c : Nat) (Ls : List (List Int)) (h : SSArg w u l Ls) :
    Calls Try.prog 3 #[.slice u l c] w fun e w' => e = .returned (.bool true) ∧ Below w.heap.size w w' := by
  obtain ⟨rfl, hn, hr, hl⟩ := h
  exact gen_FnExactJoinPhases Ls (onL (jpB Ls) (jpL Ls)) (jpB Ls) u Ls.length c w ⟨u, c, rfl, hr⟩ hn hl (fun w v h1 h2 h3 => spec_JoinPhases_any v Ls w h1 h2 h3) (fun w v h1 h2 h3 => impl_JoinPhases_any v Ls w h1 h2 h3) (fun h => onL_len fun _ => by rw [jpL_len]; omega)

end Go.Proofs.Ytiibkkndjalodaa
