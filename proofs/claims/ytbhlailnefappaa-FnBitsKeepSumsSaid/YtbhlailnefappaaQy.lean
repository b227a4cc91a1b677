
import Derived.Test.YtbhlailnefappaaQw
import Derived.Test.YtbhlailnefappaaVa
namespace Go.Proofs.Ytbhlailnefappaa
open Go.RowKit BitX Go.MemX Go.Conc Go.ChV
set_option linter.unusedVariables false
theorem iint2 : (Try.prog.info? 24).map (fun i => (i.zero, i.size, i.bytes)) = some (some (.slice none 0 0), 1, 24) := by kernel_rfl
theorem info_parts2 : ∃ i, Try.prog.info? 24 = some i ∧ i.zero = some (.slice none 0 0) ∧ i.size = 1 ∧ i.bytes = 24 := by
  have h := iint2
  cases hi : Try.prog.info? 24 with
  | none => rw [hi] at h; cases h
  | some i => rw [hi] at h; simp at h; exact ⟨i, rfl, h.1, h.2.1, h.2.2⟩
theorem c1_alloc {w : World} {ob : Obj} {x : Value} {t : TypeId} : ∀ j u, [x][j]? = some u → ((w.alloc ob).alloc (.cells #[x] t)).cell? ((⟨w.heap.size + 1, 0, none⟩ : Addr).add j) = some u := by
  have h := cell_one_new (w.alloc ob) x t
  rw [World.size_alloc] at h
  exact h
/-- what a call leaves that hands back a new list and something else -/
def GivesX (w : World) (xs : List Int) (e : Ending) (w' : World) : Prop :=
  ∃ v u, e = .returned (.tuple #[v, u]) ∧ Res 3 w.heap.size w' v xs ∧ Below w.heap.size w w'


set_option maxHeartbeats 4000000 in
theorem dmTwo_any (m : Int) (v : Value) (s : List Int) (w : World) (hs : Sl w v s) (hl : s.length ≤ 64) (hi : InP (-m) m s) (m1 : 1 ≤ m) (m2 : m ≤ 1000) :
    Calls Try.prog 55 #[.int .i64 m, v] w (GivesX w (twOL m s)) := by
  obtain ⟨aa, n, cap, rfl, hn, hrd⟩ := id hs.rd
  have Hn := hid hn
  have Hrd := hid hrd
  have HJ := hid hi
  have hl' : n ≤ 64 := by omega
  obtain ⟨i0, hi0, hz0, hz1, hz2⟩ := info_parts iint
  obtain ⟨i1, hi1, hy0, hy1, hy2⟩ := info_parts2
  clear hs hn hrd hi hl
  go_enter Try.func55, Try.ntmps55
  go_wp2_with fail
  go_loopw [6, 7, 8, 9, 15] (fun v u aa bb i wr => ∃ (c : Nat) (vs : List Value), c ≤ n ∧ aa = .int .i64 (twA m s c) ∧ bb = .int .i64 (twB m s c) ∧ i = .int .i64 c ∧ wr.ownsRow w.heap.size 3 1 v c ((tab c (twO m s)).map (Value.int .i64)) ∧ wr.ownsRow w.heap.size 24 1 u c vs ∧ Apart v u ∧ Below w.heap.size w wr)
    (fun _ _ _ _ i _ => n - (intOf i).toNat)
  case atStart => exact ⟨0, [], by omega, rfl, rfl, rfl, World.ownsRow_nil _ _ _ _, World.ownsRow_nil _ _ _ _, Apart.nil _, Below.refl _ _⟩
  case round =>
    obtain ⟨c, vs, hc, rfl, rfl, rfl, hown1, hown2, hap, hb⟩ := hrel
    have hsz : w.heap.size ≤ wr.heap.size := hb.size
    by_cases hlk : c < n
    · obtain ⟨x, hkx⟩ := get_lt s c (by rw [← Hn.out]; exact hlk)
      obtain ⟨bb, oo, hix, hbb, hce⟩ := (Hrd.out.kept hb).at (P := Try.prog) (T := 24) n cap uslice sone hkx hlk
      obtain ⟨x1, x2⟩ := HJ.out.at hkx
      obtain ⟨⟨a1, a2⟩, b1, b2⟩ := tw_in (s := s) m1 m2 (at0_inp HJ.out (by omega)) c (by omega)
      have hst1 : tab (c + 1) (twO m s) = tab c (twO m s) ++ [twO m s c] := tab_step c (twO m s)
      have hax := at0_of hkx
      by_cases hs0 : 0 ≤ twB m s c
      · have hbt : twO m s c = 1 := biI_t hs0
        have hsa : twA m s (c + 1) = twA m s c + (x - m) := by rw [twA_succ, hbt, hax]; omega
        have hsb : twB m s (c + 1) = twB m s c + (twA m s c + (x - m) - m) := by rw [twB_succ, hsa, hbt]; omega
        rw [hbt] at hst1
        generalize twA m s c = a at *
        generalize twB m s c = b at *
        generalize tab c (twO m s) = ys at hst1 hown1
        have Hob1 := hid (ownsRow_base hown1)
        have Hob2 := hid (ownsRow_base hown2)
        have Hsa := hid hsa
        have Hsb := hid hsb
        have Hst1 := hid hst1
        have Hown1 := hid hown1
        have Hown2 := hid hown2
        have Hap := hid hap
        clear hkx hsa hsb hst1 hown1 hown2 hap hax hbt
        go_wp2_with (at_builtin; refine wpList_append_own2 _ rfl _ _ 24 rfl w.heap.size 3 i0 (.int .i64 0) 1 8 uslice hi0 hz0 hz1 hz2 rfl (by decide) _ _ _ rfl (Hown1.out.alloc _) ⟨wr.heap.size, 0, none⟩ 1 1 [.int .i64 (1)] rfl rfl ?c1 ?c2 ?c3 ?c4 ?c5 ?_)
        case c1 => exact cell_one_new _ _ _
        case c2 => intro u hu; simp at hu; subst hu; rfl
        case c3 => unfold maxLen; omega
        case c4 => omega
        case c5 => simp; omega
        intro v' w3 hown3 hgrow hnew
        have hb3 : Below w.heap.size w w3 := (hb.alloc hsz _).grown hgrow (by simp; omega) (fun j hj => Hob1.out j hj)
        have hsz3 := hb3.size
        have hu3 := owns_other (Hown2.out.alloc _) hgrow Hap.out
        have hap3 := Apart.grown Hap.out hnew (fun j hj => by have := (Hown2.out.lt j hj).2; omega)
        have Hown3 := hid hown3
        have Hu3 := hid hu3
        have Hap3 := hid hap3
        clear hown3 hgrow hnew hu3 hap3
        go_wp2_with (at_builtin; refine wpList_append_own2 _ rfl _ _ 36 rfl w.heap.size 24 i1 (.slice none 0 0) 1 24 uslice2 hi1 hy0 hy1 hy2 rfl (by decide) _ _ _ rfl ((Hu3.out.alloc _).alloc _) ⟨w3.heap.size + 1, 0, none⟩ 1 1 [.slice (some ⟨w3.heap.size, 0, none⟩) 2 2] rfl rfl ?c1 ?c2 ?c3 ?c4 ?c5 ?_)
        (try case c1 => first | exact c1_alloc | rfl)
        (try case c2 => first | rfl | (intro u hu; simp at hu; subst hu; rfl))
        case c3 => unfold maxLen; omega
        case c4 => omega
        (try case c5 => first | omega | (simp; omega))
        intro u' w4 hown4 hgrow hnew
        have hb4 : Below w.heap.size w w4 := ((hb3.alloc hsz3 _).alloc (by simp; omega) _).grown hgrow (by simp; omega) (fun j hj => Hob2.out j hj)
        have hv4 := owns_other ((Hown3.out.alloc _).alloc _) hgrow Hap3.out.symm
        have hap4 := (Apart.grown Hap3.out.symm hnew (fun j hj => by have := (Hown3.out.lt j hj).2; omega)).symm
        have Hown4 := hid hown4
        have Hv4 := hid hv4
        have Hap4 := hid hap4
        clear hown4 hgrow hnew hv4 hap4
        go_wp2
        go_roundw
        case rel => exact ⟨c + 1, _, by omega, by rw [Hsa.out], by rw [Hsb.out], by go_num, by rw [Hst1.out, List.map_append]; exact Hv4.out, Hown4.out, Hap4.out, hb4⟩
        case measure => simp [intOf]; omega
      · replace hs0 : twB m s c < 0 := by omega
        have hbt : twO m s c = -1 := biI_f hs0
        have hsa : twA m s (c + 1) = twA m s c + (x + m) := by rw [twA_succ, hbt, hax]; omega
        have hsb : twB m s (c + 1) = twB m s c + (twA m s c + (x + m) + m) := by rw [twB_succ, hsa, hbt]; omega
        rw [hbt] at hst1
        generalize twA m s c = a at *
        generalize twB m s c = b at *
        generalize tab c (twO m s) = ys at hst1 hown1
        have e0 : x - -m = x + m := by omega
        have e1 : a + (x + m) - -m = a + (x + m) + m := by omega
        have Hob1 := hid (ownsRow_base hown1)
        have Hob2 := hid (ownsRow_base hown2)
        have Hsa := hid hsa
        have Hsb := hid hsb
        have Hst1 := hid hst1
        have Hown1 := hid hown1
        have Hown2 := hid hown2
        have Hap := hid hap
        clear hkx hsa hsb hst1 hown1 hown2 hap hax hbt
        go_wp2_with (at_builtin; refine wpList_append_own2 _ rfl _ _ 24 rfl w.heap.size 3 i0 (.int .i64 0) 1 8 uslice hi0 hz0 hz1 hz2 rfl (by decide) _ _ _ rfl (Hown1.out.alloc _) ⟨wr.heap.size, 0, none⟩ 1 1 [.int .i64 (-1)] rfl rfl ?c1 ?c2 ?c3 ?c4 ?c5 ?_)
        case c1 => exact cell_one_new _ _ _
        case c2 => intro u hu; simp at hu; subst hu; rfl
        case c3 => unfold maxLen; omega
        case c4 => omega
        case c5 => simp; omega
        intro v' w3 hown3 hgrow hnew
        have hb3 : Below w.heap.size w w3 := (hb.alloc hsz _).grown hgrow (by simp; omega) (fun j hj => Hob1.out j hj)
        have hsz3 := hb3.size
        have hu3 := owns_other (Hown2.out.alloc _) hgrow Hap.out
        have hap3 := Apart.grown Hap.out hnew (fun j hj => by have := (Hown2.out.lt j hj).2; omega)
        have Hown3 := hid hown3
        have Hu3 := hid hu3
        have Hap3 := hid hap3
        clear hown3 hgrow hnew hu3 hap3
        go_wp2_with (at_builtin; refine wpList_append_own2 _ rfl _ _ 36 rfl w.heap.size 24 i1 (.slice none 0 0) 1 24 uslice2 hi1 hy0 hy1 hy2 rfl (by decide) _ _ _ rfl ((Hu3.out.alloc _).alloc _) ⟨w3.heap.size + 1, 0, none⟩ 1 1 [.slice (some ⟨w3.heap.size, 0, none⟩) 2 2] rfl rfl ?c1 ?c2 ?c3 ?c4 ?c5 ?_)
        (try case c1 => first | exact c1_alloc | rfl)
        (try case c2 => first | rfl | (intro u hu; simp at hu; subst hu; rfl))
        case c3 => unfold maxLen; omega
        case c4 => omega
        (try case c5 => first | omega | (simp; omega))
        intro u' w4 hown4 hgrow hnew
        have hb4 : Below w.heap.size w w4 := ((hb3.alloc hsz3 _).alloc (by simp; omega) _).grown hgrow (by simp; omega) (fun j hj => Hob2.out j hj)
        have hv4 := owns_other ((Hown3.out.alloc _).alloc _) hgrow Hap3.out.symm
        have hap4 := (Apart.grown Hap3.out.symm hnew (fun j hj => by have := (Hown3.out.lt j hj).2; omega)).symm
        have Hown4 := hid hown4
        have Hv4 := hid hv4
        have Hap4 := hid hap4
        clear hown4 hgrow hnew hv4 hap4
        go_wp2
        go_roundw
        case rel => exact ⟨c + 1, _, by omega, by rw [Hsa.out], by rw [Hsb.out], by go_num, by rw [Hst1.out, List.map_append]; exact Hv4.out, Hown4.out, Hap4.out, hb4⟩
        case measure => simp [intOf]; omega
    · have hge : (n : Int) ≤ (c : Int) := by omega
      have hkn : c = s.length := by rw [← Hn.out]; omega
      have Hk := hid hkn
      have Hown1 := hid hown1
      clear hkn hlk hown1 hown2 hap
      go_wp2
      go_ret2
      have ho1 := Hown1.out
      rw [Hk.out] at ho1
      exact ⟨_, _, rfl, Res.owns (by rw [twOL, tab_len]; exact ho1), hb⟩

end Go.Proofs.Ytbhlailnefappaa
