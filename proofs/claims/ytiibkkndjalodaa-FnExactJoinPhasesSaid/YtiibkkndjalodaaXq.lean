
import Derived.Test.YtiibkkndjalodaaXm
namespace Go.Proofs.Ytiibkkndjalodaa
open Go.RowKit BitX Go.MemX Go.Ch6 Go.Ch8
set_option linter.unusedVariables false
theorem gives_if8 {w w' : World} {v : Value} {ys : List Int} {b c : Bool} (e : b = c) (R : Res 3 w.heap.size w' v ys) (hb : Below w.heap.size w w') : Gives w (onL c ys) c (.returned (.tuple #[onB b v (.slice none 0 0), .bool b])) w' := by
  subst e
  cases b
  · exact ⟨_, rfl, .inl ⟨rfl, rfl⟩, hb⟩
  · exact ⟨_, rfl, R, hb⟩
theorem dec8 {n : Nat} {b : Bool} (h : decide (1 ≤ n ∧ n ≤ 8) = b) : decide (1 ≤ (n : Int) ∧ (n : Int) ≤ 8) = b := by rw [← h]; exact decide_eq_decide.2 (by omega)
theorem rat8 {n : Nat} {b : Bool} (h : decide (1 ≤ n ∧ n ≤ 8) = b) : ratB (n : Int) 1 = b := by unfold ratB; rw [dec8 h, decide_eq_true (p := (1 : Int) ≤ 1 ∧ (1 : Int) ≤ 8) (by omega), Bool.and_true]
theorem enterJP : Go.Proofs.Enters Try.prog 19 := enters_of Try.func19 (by kernel_rfl) rfl


set_option maxHeartbeats 4000000 in
theorem spec_JoinPhases_any (v : Value) (Ls : List (List Int)) (w : World) (hs : SlS w v Ls) (hn : Ls.length ≤ 1048576) (hl : lenS Ls ≤ 1048576) :
    Calls Try.prog 5 #[v] w (Gives w (onL (jpB Ls) (jpL Ls)) (jpB Ls)) := by
  obtain ⟨a, cap, rfl, hr⟩ := hs
  have HR := hid hr
  have HL := hid hl
  obtain ⟨n, hnn⟩ : ∃ n, n = Ls.length := ⟨_, rfl⟩
  rw [← hnn] at hn ⊢
  have Hn := hid hnn
  obtain ⟨i0, hi0, hz0, hz1, hz2⟩ := info_parts iint
  cases hp : decide (1 ≤ n ∧ n ≤ 8)
  · have HP := hid (dec8 hp)
    have HN := hid (jpB_n1 (Ls := Ls) (by rw [← hnn]; exact hp))
    clear hr hnn hl hp
    go_enter Try.func5, Try.ntmps5
    go_wp2_with fail
    refine (l1In_is _ _ _ false _ HP.out).mono ?_
    rintro e w' ⟨rfl, rfl⟩
    go_wp2_with fail
    go_ret2
    exact gives_no HN.out (Below.refl _ _)
  · have HP := hid (dec8 hp)
    obtain ⟨n1, n8⟩ := of_decide_eq_true hp
    clear hr hnn hl hp
    go_enter Try.func5, Try.ntmps5
    go_wp2_with fail
    refine (l1In_is _ _ _ true _ HP.out).mono ?_
    rintro e w' ⟨rfl, rfl⟩
    go_wp2_with fail
    go_loop [5, 18] (fun s i => ∃ k : Nat, k ≤ n ∧ i = .int .i64 k ∧ s = .int .i64 ((lenS (Ls.take k) : Nat) : Int) ∧ Hid (∀ j L, j < k → Ls[j]? = some L → L.length ≤ 9))
      (fun _ i => n - (intOf i).toNat)
    case atStart => exact ⟨0, by omega, rfl, rfl, hid fun j L hj => by omega⟩
    case round =>
      obtain ⟨k, hk, rfl, rfl, H9⟩ := hrel
      by_cases hlk : k < n
      · obtain ⟨L, hkL⟩ := RdS.get9 (Ls := Ls) (k := k) (by rw [← Hn.out]; exact hlk)
        obtain ⟨b, off, u, hix, hbb, hce, hsl⟩ := HR.out.at (P := Try.prog) (T := 22) n cap uslice9 sone9 hkL hlk
        obtain ⟨ua, uc, rfl, _⟩ := RdS.len9 hsl
        have hle := lenS_le (xss := Ls) (i := k + 1)
        have hst := lenS_step hkL
        have hone := lenS_one hkL
        have hl2 := HL.out
        by_cases h9 : L.length ≤ 9
        · have H92 := hid (show ∀ j M, j < k + 1 → Ls[j]? = some M → M.length ≤ 9 from fun j M hj hM => by
            by_cases e : j = k
            · subst e; rw [hkL] at hM; cases hM; exact h9
            · exact H9.out j M (by omega) hM)
          have hlb : lenS (Ls.take k) ≤ 1048576 := by omega
          have Hst := hid hst
          clear hkL hsl hle hst hone hl2
          generalize L.length = q at *
          generalize lenS (Ls.take k) = t at *
          go_wp2
          go_round
          case rel => exact ⟨k + 1, by omega, by go_num, by rw [Hst.out]; go_num, H92⟩
          case measure => simp [intOf]; omega
        · have HN := hid (jpB_long (Ls := Ls) (by omega))
          have h10 : 9 < L.length := by omega
          clear hkL hsl hle hst hone hl2 h9
          generalize L.length = q at *
          go_wp2
          go_ret2
          exact gives_no HN.out (Below.refl _ _)
      · have hge : (n : Int) ≤ (k : Int) := by omega
        have hkn : k = Ls.length := by rw [← Hn.out]; omega
        have hA : lenS (Ls.take k) = lenS Ls := by rw [hkn, List.take_length]
        have hb9 := lenS_bound (Ls := Ls) k 9 (by omega) H9.out
        have hA72 : lenS Ls ≤ 72 := by rw [← hA]; omega
        rw [hA]
        have Hk := hid hkn
        clear hkn hlk hA hb9 H9
        obtain ⟨A, hAA⟩ : ∃ A, A = lenS Ls := ⟨_, rfl⟩
        rw [← hAA] at hA72 ⊢
        have HA := hid hAA
        clear hAA
        go_wp2_with fail
        go_loopw [8, 9] (fun v8 i wr => ∃ (c : Nat) (vv : Value), c ≤ A ∧ vv = v8 ∧ i = .int .i64 c ∧ wr.ownsRow w.heap.size 3 1 vv c ((tab c (jpG Ls)).map (Value.int .i64)) ∧ Hid (∀ j, j < c → jpH Ls j = true) ∧ Below w.heap.size w wr)
          (fun _ i _ => A - (intOf i).toNat)
        case atStart => exact ⟨0, _, by omega, rfl, rfl, World.ownsRow_nil _ _ _ _, hid fun j hj => by omega, Below.refl _ _⟩
        case round =>
          obtain ⟨c, vv, hc, rfl, rfl, hown, HH, hb⟩ := hrel
          have hsz : w.heap.size ≤ wr.heap.size := hb.size
          by_cases hlk : c < A
          · obtain ⟨L, hkL, hH, hG⟩ := jp_list (Ls := Ls) (by rw [← Hn.out]; exact n1) c
            rw [← Hn.out] at hkL hH hG
            obtain ⟨m, hm⟩ : ∃ m, m = c % n := ⟨_, rfl⟩
            obtain ⟨z, hz⟩ : ∃ z, z = c / n := ⟨_, rfl⟩
            have hmn : m < n := by rw [hm]; exact Nat.mod_lt _ (by omega)
            have hzc : z ≤ c := by rw [hz]; exact Nat.div_le_self _ _
            have et : (c : Int).tmod (n : Int) = (m : Int) := by rw [hm, Int.tmod_eq_emod_of_nonneg (by omega)]; rfl
            have ed : (c : Int).tdiv (n : Int) = (z : Int) := by rw [hz, Int.tdiv_eq_ediv_of_nonneg (by omega)]; rfl
            have q0 : ((n : Int) == 0) = false := by rw [beq_eq_false_iff_ne]; omega
            have q1 : (n : Int) ≠ 0 := by omega
            have em1 : ∀ [Inhabited Unit], wrap64 (m : Int) = (m : Int) := IntWalk.wrap64_in _ (by clear hm hz et ed; omega)
            have em2 : ∀ [Inhabited Unit], IntKind.i64.wrap (m : Int) = (m : Int) := IntWalk.i64_in _ (by clear hm hz et ed; omega)
            have ez1 : ∀ [Inhabited Unit], wrap64 (z : Int) = (z : Int) := IntWalk.wrap64_in _ (by clear hm hz et ed; omega)
            have ez2 : ∀ [Inhabited Unit], IntKind.i64.wrap (z : Int) = (z : Int) := IntWalk.i64_in _ (by clear hm hz et ed; omega)
            have et' : ∀ [Inhabited Unit], (c : Int).tmod (n : Int) = (m : Int) := et
            have ed' : ∀ [Inhabited Unit], (c : Int).tdiv (n : Int) = (z : Int) := ed
            rw [← hm] at hkL
            rw [← hz] at hH hG
            obtain ⟨b, off, u, hix, hbb, hce, hsl⟩ := (HR.out.kept hb).at (P := Try.prog) (T := 22) n cap uslice9 sone9 hkL hmn
            obtain ⟨ua, uc, rfl, hrd⟩ := RdS.len9 hsl
            have hone := lenS_one hkL
            have hl72 : L.length ≤ 72 := by rw [← HA.out] at hone; omega
            by_cases hzl : z < L.length
            · obtain ⟨x, hxz⟩ := get_lt L z hzl
              obtain ⟨b2, o2, hix2, hbb2, hce2⟩ := hrd.at (P := Try.prog) (T := 24) L.length uc uslice sone hxz hzl
              have hst : tab (c + 1) (jpG Ls) = tab c (jpG Ls) ++ [jpG Ls c] := tab_step c (jpG Ls)
              rw [hG, at0_of hxz] at hst
              have HH2 := hid (show ∀ j, j < c + 1 → jpH Ls j = true from fun j hj => by
                by_cases e : j = c
                · subst e; rw [hH]; exact decide_eq_true hzl
                · exact HH.out j (by omega))
              have Hst := hid hst
              have Hob := hid (ownsRow_base hown)
              have Hown := hid hown
              clear hkL hH hG hm hz et ed hsl hrd hone hxz hst hown HH
              generalize L.length = q at *
              go_wp2_with (at_builtin; refine wpList_append_own _ rfl _ _ 24 rfl w.heap.size 3 i0 (.int .i64 0) 1 8 uslice hi0 hz0 hz1 hz2 rfl (by decide) _ _ _ rfl (Hown.out.alloc _) ⟨wr.heap.size, 0, none⟩ 1 1 [.int .i64 x] rfl rfl (cell_one_new _ _ _) (by intro u hu; simp at hu; subst hu; rfl) (by unfold maxLen; omega) (by omega) (by simp; omega) ?_)
              intro v' w3 hown3 hgrow _
              have hb3 : Below w.heap.size w w3 := (hb.alloc hsz _).grown hgrow (by simp; omega) (fun j hj => Hob.out j hj)
              have Hown3 := hid hown3
              clear hown3 hgrow
              go_wp2
              go_roundw
              case rel => exact ⟨c + 1, _, by omega, rfl, by go_num, by rw [Hst.out, List.map_append]; exact Hown3.out, HH2, hb3⟩
              case measure => simp [intOf]; omega
            · have hlz : L.length ≤ z := by omega
              have HN := hid (jpB_miss (Ls := Ls) (k := c) (by rw [← HA.out]; exact hlk) (by rw [hH]; exact decide_eq_false hzl))
              clear hkL hH hG hm hz et ed hsl hrd hone hzl hown HH
              generalize L.length = q at *
              go_wp2
              go_ret2
              exact gives_no HN.out hb
          · have hge2 : (A : Int) ≤ (c : Int) := by omega
            have hkn : c = lenS Ls := by rw [← HA.out]; omega
            have HE := hid (jpB_eq (Ls := Ls) (by rw [← Hn.out]; exact n1) (by rw [← Hn.out]; exact n8) (by rw [← hkn]; exact HH.out))
            have ho := hown
            rw [hkn] at ho
            have HRR := hid (show Res 3 w.heap.size wr vv (jpL Ls) from Res.owns (by rw [jpL, tab_len]; exact ho))
            obtain ⟨bq, hbq⟩ : ∃ bq, wgtB (jpL Ls) = bq := ⟨_, rfl⟩
            have HBQ := hid hbq
            clear hkn hlk hown ho hbq HH
            go_wp2_with fail
            refine (weIf_is _ _ bq _ HRR.out.sl HBQ.out).mono ?_
            rintro e w' ⟨rfl, rfl⟩
            go_wp2
            go_ret2
            exact gives_if8 (HBQ.out.symm.trans HE.out.symm) HRR.out hb


set_option maxHeartbeats 1000000 in
theorem jpC_any (gs gp k : Nat) (v : Value) (Ls : List (List Int)) (w : World) (hc : w.cell? ⟨gs, 0, none⟩ = some v) (hp : w.cell? ⟨gp, 0, none⟩ = some (.int .i64 ((Ls.length : Nat) : Int))) (hs : SlS w v Ls) (n1 : 1 ≤ Ls.length) (n8 : Ls.length ≤ 8) (hk : k ≤ 1048576) (hl : lenS Ls ≤ 1048576) :
    Calls Try.prog 19 (#[.int .i64 (k : Int)] ++ #[.pointer (some ⟨gs, 0, none⟩), .pointer (some ⟨gp, 0, none⟩)]) w fun e W' => (match jpH Ls k with | true => e = .returned (.int .i64 (jpG Ls k)) | false => ∃ x, e = .panicked [noPlaceP x]) ∧ Below w.heap.size w W' := by
  show Calls Try.prog 19 #[.int .i64 (k : Int), .pointer (some ⟨gs, 0, none⟩), .pointer (some ⟨gp, 0, none⟩)] w _
  obtain ⟨L, hkL, hH, hG⟩ := jp_list n1 k
  rw [hH, hG]
  obtain ⟨a, cap, rfl, hr⟩ := hs
  have hone := lenS_one hkL
  generalize Ls.length = n at *
  obtain ⟨m, hm⟩ : ∃ m, m = k % n := ⟨_, rfl⟩
  obtain ⟨z, hz⟩ : ∃ z, z = k / n := ⟨_, rfl⟩
  have hmn : m < n := by rw [hm]; exact Nat.mod_lt _ (by omega)
  have hzc : z ≤ k := by rw [hz]; exact Nat.div_le_self _ _
  have et : (k : Int).tmod (n : Int) = (m : Int) := by rw [hm, Int.tmod_eq_emod_of_nonneg (by omega)]; rfl
  have ed : (k : Int).tdiv (n : Int) = (z : Int) := by rw [hz, Int.tdiv_eq_ediv_of_nonneg (by omega)]; rfl
  have q0 : ((n : Int) == 0) = false := by rw [beq_eq_false_iff_ne]; omega
  have q1 : (n : Int) ≠ 0 := by omega
  have em1 : ∀ [Inhabited Unit], wrap64 (m : Int) = (m : Int) := IntWalk.wrap64_in _ (by clear hm hz et ed; omega)
  have em2 : ∀ [Inhabited Unit], IntKind.i64.wrap (m : Int) = (m : Int) := IntWalk.i64_in _ (by clear hm hz et ed; omega)
  have ez1 : ∀ [Inhabited Unit], wrap64 (z : Int) = (z : Int) := IntWalk.wrap64_in _ (by clear hm hz et ed; omega)
  have ez2 : ∀ [Inhabited Unit], IntKind.i64.wrap (z : Int) = (z : Int) := IntWalk.i64_in _ (by clear hm hz et ed; omega)
  have et' : ∀ [Inhabited Unit], (k : Int).tmod (n : Int) = (m : Int) := et
  have ed' : ∀ [Inhabited Unit], (k : Int).tdiv (n : Int) = (z : Int) := ed
  rw [← hm] at hkL
  rw [← hz] at hH hG ⊢
  obtain ⟨b, off, u, hix, hbb, hce, hsl⟩ := hr.at (P := Try.prog) (T := 22) n cap uslice9 sone9 hkL hmn
  obtain ⟨ua, uc, rfl, hrd⟩ := RdS.len9 hsl
  have hl2 : L.length ≤ 1048576 := by omega
  by_cases hzl : z < L.length
  · obtain ⟨x, hxz⟩ := get_lt L z hzl
    obtain ⟨b2, o2, hix2, hbb2, hce2⟩ := hrd.at (P := Try.prog) (T := 24) L.length uc uslice sone hxz hzl
    rw [decide_eq_true hzl, at0_of hxz]
    clear hkL hH hG hm hz et ed hsl hrd hone hxz hr hl
    generalize L.length = q at *
    go_enter Try.func19, Try.ntmps19
    go_wp2_with fail
    go_quiet (fail)
    go_wp2
    go_ret
    exact ⟨rfl, below_drewN (Below.refl _ _) _⟩
  · have hlz : L.length ≤ z := by omega
    rw [decide_eq_false hzl]
    clear hkL hH hG hm hz et ed hsl hrd hone hr hl hzl
    generalize L.length = q at *
    go_enter Try.func19, Try.ntmps19
    go_wp2_with fail
    go_quiet (fail)
    go_wp2
    exact ⟨rfl, ⟨_, rfl⟩, below_drewN (Below.refl _ _) _⟩

end Go.Proofs.Ytiibkkndjalodaa
