
import Derived.Test.YtbhlailnefappaaQz
import Derived.Test.YtbhlailnefappaaQy
import Derived.Test.YtbhlailnefappaaQw
import Derived.Test.YtbhlailnefappaaVa
import Derived.Test.YtbhlailnefappaaVb
namespace Go.Proofs.Ytbhlailnefappaa
open Go.RowKit BitX Go.MemX Go.Conc Go.ChV
set_option linter.unusedVariables false

/-- the lists in vs: two numbers each, each in a block of its own -/
structure PSr (B : Nat) (w : World) (vs : List Value) (f : Nat → List Int) : Prop where
  each : ∀ (i : Nat) (x : Value), vs[i]? = some x → ∃ g, x = .slice (some ⟨g, 0, none⟩) 2 2 ∧ B ≤ g ∧ Blk 3 w g (f i)
  apart : ∀ (i j : Nat) (x y : Value), vs[i]? = some x → vs[j]? = some y → i ≠ j → ∀ g, x.ownBlock = some g → y.ownBlock ≠ some g
def Off (vs : List Value) (u : Value) : Prop := ∀ x ∈ vs, ∀ g, x.ownBlock = some g → u.ownBlock ≠ some g
theorem PSr.nil (B : Nat) (w : World) (f : Nat → List Int) : PSr B w [] f := ⟨fun i x h => by simp at h, fun i j x y h => by simp at h⟩
theorem Off.nil (u : Value) : Off [] u := fun x hx => by simp at hx
theorem PSr.lt {B : Nat} {w : World} {vs : List Value} {f : Nat → List Int} (h : PSr B w vs f) : ∀ x ∈ vs, ∀ g, x.ownBlock = some g → B ≤ g ∧ g < w.heap.size := fun x hx g hg => by
  obtain ⟨i, hi⟩ := List.getElem?_of_mem hx
  obtain ⟨g2, rfl, h1, h2⟩ := h.each i x hi
  cases hg
  exact ⟨h1, h2.lt⟩
theorem PSr.same {B : Nat} {w w' : World} {vs : List Value} {f : Nat → List Int} (h : PSr B w vs f) (hb : ∀ x ∈ vs, ∀ g, x.ownBlock = some g → w'.heap[g]? = w.heap[g]?) : PSr B w' vs f :=
  ⟨fun i x hi => by
    obtain ⟨g, rfl, h1, h2⟩ := h.each i x hi
    refine ⟨g, rfl, h1, ?_⟩
    unfold Blk at *
    rw [hb _ (List.mem_of_getElem? hi) g rfl]; exact h2, h.apart⟩
theorem PSr.alloc {B : Nat} {w : World} {vs : List Value} {f : Nat → List Int} (h : PSr B w vs f) (o : Obj) : PSr B (w.alloc o) vs f :=
  h.same fun x hx g hg => Below.heap_alloc _ _ _ (h.lt x hx g hg).2
theorem PSr.grown {B : Nat} {w w' : World} {vs : List Value} {f : Nat → List Int} {v : Value} (h : PSr B w vs f) (hg : w.grownBy w' v.ownBlock) (ho : Off vs v) : PSr B w' vs f :=
  h.same fun x hx g hxg => hg.block g (h.lt x hx g hxg).2 (fun e => ho x hx g hxg e.symm)
theorem Off.grown {vs : List Value} {v v' : Value} {N : Nat} (h : Off vs v) (hk : ∀ k, v'.ownBlock = some k → v.ownBlock = some k ∨ N ≤ k) (hl : ∀ x ∈ vs, ∀ g, x.ownBlock = some g → g < N) : Off vs v' := fun x hx g hg e => by
  rcases hk g e with h1 | h1
  · exact h x hx g hg h1
  · have := hl x hx g hg; omega
theorem PSr.push {B g : Nat} {w : World} {vs : List Value} {f : Nat → List Int} (h : PSr B w vs f) (hB : B ≤ g) (hb : Blk 3 w g (f vs.length)) (hn : ∀ x ∈ vs, x.ownBlock ≠ some g) : PSr B w (vs ++ [.slice (some ⟨g, 0, none⟩) 2 2]) f := by
  refine ⟨fun i x hi => ?_, fun i j x y hi hj hne k hx hy => ?_⟩
  · rw [List.getElem?_append] at hi
    split at hi
    · exact h.each i x hi
    · rename_i hlt
      have h0 : i = vs.length := by
        rcases Nat.lt_or_ge (i - vs.length) 1 with h1 | h1
        · omega
        · rw [List.getElem?_eq_none (by simpa using h1)] at hi; cases hi
      subst h0
      simp at hi
      subst hi
      exact ⟨g, rfl, hB, hb⟩
  · have key : ∀ (i : Nat) (x : Value), (vs ++ [Value.slice (some ⟨g, 0, none⟩) 2 2])[i]? = some x → vs[i]? = some x ∨ (i = vs.length ∧ x = .slice (some ⟨g, 0, none⟩) 2 2) := fun i x hi => by
      rw [List.getElem?_append] at hi
      split at hi
      · exact .inl hi
      · have h0 : i = vs.length := by
          rcases Nat.lt_or_ge (i - vs.length) 1 with h1 | h1
          · omega
          · rw [List.getElem?_eq_none (by simpa using h1)] at hi; cases hi
        subst h0
        simp at hi
        exact .inr ⟨rfl, hi.symm⟩
    rcases key i x hi with h1 | ⟨h1, rfl⟩
    · rcases key j y hj with h2 | ⟨h2, rfl⟩
      · exact h.apart i j x y h1 h2 hne k hx hy
      · cases hy
        exact hn x (List.mem_of_getElem? h1) hx
    · rcases key j y hj with h2 | ⟨h2, rfl⟩
      · cases hx
        exact hn y (List.mem_of_getElem? h2) hy
      · omega
theorem Off.push {vs : List Value} {u : Value} {g : Nat} (h : Off vs u) (hn : u.ownBlock ≠ some g) : Off (vs ++ [.slice (some ⟨g, 0, none⟩) 2 2]) u := fun x hx k hk e => by
  rcases List.mem_append.1 hx with hx | hx
  · exact h x hx k hk e
  · simp at hx
    subst hx
    cases hk
    exact hn e
/-- both states behind each sample -/
def prL (m : Int) (s : List Int) (i : Nat) : List Int := [twA m s (i + 1), twB m s (i + 1)]
def tsL (m : Int) (s : List Int) : List (List Int) := (List.range s.length).map (prL m s)
theorem tsL_len (m : Int) (s : List Int) : (tsL m s).length = s.length := by simp [tsL]
theorem PSr.ss {B n : Nat} {w : World} {u : Value} {vs : List Value} {m : Int} {s : List Int} (h : PSr B w vs (prL m s)) (ho : Off vs u) (hown : w.ownsRow B 24 1 u n vs) (hn : n = s.length) : SSi B w u vs (tsL m s) := by
  have hlen : vs.length = n := by have := hown.1; simpa using this
  refine ⟨by rw [hlen, tsL_len, hn], fun i x xs hi hx => ?_, h.apart, ?_⟩
  · obtain ⟨g, rfl, h1, h2⟩ := h.each i x hi
    have hil : i < s.length := by have := (List.getElem?_eq_some_iff.1 hi).1; omega
    have hxs : xs = prL m s i := by unfold tsL at hx; simp [hil] at hx; exact hx.symm
    subst hxs
    exact .inr ⟨g, 2, rfl, h1, h2.row⟩
  · obtain ⟨_, hr | ⟨g, cap, cur, hv, hB, hh, hnc, hcm, hs, ht⟩⟩ := hown
    · exact .inl ⟨hr.1, List.length_eq_zero_iff.1 (by rw [hlen]; exact hr.2)⟩
    · refine .inr ⟨g, cap, by rw [hlen]; exact hv, hB, ⟨cur, hh, by simpa using hs, by rw [hlen]; exact hnc, by rw [hlen]; simpa using ht⟩, fun i x hi e => ?_⟩
      refine ho x (List.mem_of_getElem? hi) g e ?_
      rw [hv]; rfl
def GivesXS (w : World) (xss : List (List Int)) (e : Ending) (w' : World) : Prop :=
  ∃ v u vs, e = .returned (.tuple #[v, u]) ∧ SSi w.heap.size w' u vs xss ∧ Below w.heap.size w w'
theorem blk_pair (w : World) (a b : Int) (E : TypeId) : Blk E (w.alloc (.cells #[.int .i64 a, .int .i64 b] E)) w.heap.size [a, b] := heap_alloc_new _ _


set_option maxHeartbeats 4000000 in
theorem dmTwo_ss (m : Int) (v : Value) (s : List Int) (w : World) (hs : Sl w v s) (hl : s.length ≤ 64) (hi : InP (-m) m s) (m1 : 1 ≤ m) (m2 : m ≤ 1000) :
    Calls Try.prog 55 #[.int .i64 m, v] w (GivesXS w (tsL m s)) := by
  obtain ⟨aa, n, cap, rfl, hn, hrd⟩ := id hs.rd
  have Hn := hid hn
  have Hrd := hid hrd
  have HJ := hid hi
  have hl' : n ≤ 64 := by omega
  obtain ⟨i0, hi0, hz0, hz1, hz2⟩ := info_parts iint
  obtain ⟨i1, hi1, hy0, hy1, hy2⟩ := info_parts2
  clear hs hn hrd hi hl
  go_enter Try.func55, Try.ntmps55
  go_wp2_with fail
  go_loopw [6, 7, 8, 9, 15] (fun v u aa bb i wr => ∃ (c : Nat) (vs : List Value), c ≤ n ∧ aa = .int .i64 (twA m s c) ∧ bb = .int .i64 (twB m s c) ∧ i = .int .i64 c ∧ wr.ownsRow w.heap.size 3 1 v c ((tab c (twO m s)).map (Value.int .i64)) ∧ wr.ownsRow w.heap.size 24 1 u c vs ∧ Apart v u ∧ PSr w.heap.size wr vs (prL m s) ∧ Off vs v ∧ Off vs u ∧ Hid (vs.length = c) ∧ Below w.heap.size w wr)
    (fun _ _ _ _ i _ => n - (intOf i).toNat)
  case atStart => exact ⟨0, [], by omega, rfl, rfl, rfl, World.ownsRow_nil _ _ _ _, World.ownsRow_nil _ _ _ _, Apart.nil _, PSr.nil _ _ _, Off.nil _, Off.nil _, hid rfl, Below.refl _ _⟩
  case round =>
    obtain ⟨c, vs, hc, rfl, rfl, rfl, hown1, hown2, hap, hps, hov, hou, hlenH, hb⟩ := hrel
    have hlen := hlenH.out
    have hsz : w.heap.size ≤ wr.heap.size := hb.size
    by_cases hlk : c < n
    · obtain ⟨x, hkx⟩ := get_lt s c (by rw [← Hn.out]; exact hlk)
      obtain ⟨bb, oo, hix, hbb, hce⟩ := (Hrd.out.kept hb).at (P := Try.prog) (T := 24) n cap uslice sone hkx hlk
      obtain ⟨x1, x2⟩ := HJ.out.at hkx
      obtain ⟨⟨a1, a2⟩, b1, b2⟩ := tw_in (s := s) m1 m2 (at0_inp HJ.out (by omega)) c (by omega)
      have hst1 : tab (c + 1) (twO m s) = tab c (twO m s) ++ [twO m s c] := tab_step c (twO m s)
      have hax := at0_of hkx
      by_cases hs0 : 0 ≤ twB m s c
      · have hbt : twO m s c = 1 := biI_t hs0
        have hsa : twA m s (c + 1) = twA m s c + (x - m) := by rw [twA_succ, hbt, hax]; omega
        have hsb : twB m s (c + 1) = twB m s c + (twA m s c + (x - m) - m) := by rw [twB_succ, hsa, hbt]; omega
        rw [hbt] at hst1
        generalize twA m s c = a at *
        generalize twB m s c = b at *
        generalize tab c (twO m s) = ys at hst1 hown1
        have Hob1 := hid (ownsRow_base hown1)
        have Hob2 := hid (ownsRow_base hown2)
        have Hsa := hid hsa
        have Hsb := hid hsb
        have Hst1 := hid hst1
        have Hown1 := hid hown1
        have Hown2 := hid hown2
        have Hap := hid hap
        have Hps := hid hps
        have Hov := hid hov
        have Hou := hid hou
        have Hlen := hid hlen
        clear hkx hsa hsb hst1 hown1 hown2 hap hps hov hou hlen hax hbt
        go_wp2_with (at_builtin; refine wpList_append_own2 _ rfl _ _ 24 rfl w.heap.size 3 i0 (.int .i64 0) 1 8 uslice hi0 hz0 hz1 hz2 rfl (by decide) _ _ _ rfl (Hown1.out.alloc _) ⟨wr.heap.size, 0, none⟩ 1 1 [.int .i64 (1)] rfl rfl ?c1 ?c2 ?c3 ?c4 ?c5 ?_)
        case c1 => exact cell_one_new _ _ _
        case c2 => intro u hu; simp at hu; subst hu; rfl
        case c3 => unfold maxLen; omega
        case c4 => omega
        case c5 => simp; omega
        intro v' w3 hown3 hgrow hnew
        have hb3 : Below w.heap.size w w3 := (hb.alloc hsz _).grown hgrow (by simp; omega) (fun j hj => Hob1.out j hj)
        have hsz3 := hb3.size
        have hu3 := owns_other (Hown2.out.alloc _) hgrow Hap.out
        have hap3 := Apart.grown Hap.out hnew (fun j hj => by have := (Hown2.out.lt j hj).2; omega)
        have hps3 := (Hps.out.alloc _).grown hgrow Hov.out
        have hov3 := Off.grown Hov.out hnew (fun x hx g hg => by have := (Hps.out.lt x hx g hg).2; simp; omega)
        have Hps3 := hid hps3
        have Hov3 := hid hov3
        clear hps3 hov3
        have Hown3 := hid hown3
        have Hu3 := hid hu3
        have Hap3 := hid hap3
        clear hown3 hgrow hnew hu3 hap3
        go_wp2_with (at_builtin; refine wpList_append_own2 _ rfl _ _ 36 rfl w.heap.size 24 i1 (.slice none 0 0) 1 24 uslice2 hi1 hy0 hy1 hy2 rfl (by decide) _ _ _ rfl ((Hu3.out.alloc _).alloc _) ⟨w3.heap.size + 1, 0, none⟩ 1 1 [.slice (some ⟨w3.heap.size, 0, none⟩) 2 2] rfl rfl ?c1 ?c2 ?c3 ?c4 ?c5 ?_)
        (try case c1 => first | exact c1_alloc | rfl)
        (try case c2 => first | rfl | (intro u hu; simp at hu; subst hu; rfl))
        case c3 => unfold maxLen; omega
        case c4 => omega
        (try case c5 => first | omega | (simp; omega))
        intro u' w4 hown4 hgrow hnew
        have hb4 : Below w.heap.size w w4 := ((hb3.alloc hsz3 _).alloc (by simp; omega) _).grown hgrow (by simp; omega) (fun j hj => Hob2.out j hj)
        have hv4 := owns_other ((Hown3.out.alloc _).alloc _) hgrow Hap3.out.symm
        have hap4 := (Apart.grown Hap3.out.symm hnew (fun j hj => by have := (Hown3.out.lt j hj).2; omega)).symm
        have hps4 := PSr.grown (((Hps3.out.alloc _).push (g := w3.heap.size) hsz3 (by rw [Hlen.out]; unfold prL; rw [Hsa.out, Hsb.out]; exact blk_pair _ _ _ _) (fun x hx e => by have := (Hps3.out.lt x hx _ e).2; omega)).alloc _) hgrow (Off.push Hou.out (fun e => by have := (Hu3.out.lt _ e).2; omega))
        have hov4 := Off.push Hov3.out (g := w3.heap.size) (fun e => by have := (Hown3.out.lt _ e).2; omega)
        have hou4 := Off.grown (Off.push Hou.out (g := w3.heap.size) (fun e => by have := (Hu3.out.lt _ e).2; omega)) hnew (fun x hx g hg => by
          rcases List.mem_append.1 hx with hx | hx
          · have := (Hps3.out.lt x hx g hg).2; simp; omega
          · simp at hx; subst hx; cases hg; simp; omega)
        have Hps4 := hid hps4
        have Hov4 := hid hov4
        have Hou4 := hid hou4
        clear hps4 hov4 hou4
        have Hown4 := hid hown4
        have Hv4 := hid hv4
        have Hap4 := hid hap4
        clear hown4 hgrow hnew hv4 hap4
        go_wp2
        go_roundw
        case rel => exact ⟨c + 1, _, by omega, by rw [Hsa.out], by rw [Hsb.out], by go_num, by rw [Hst1.out, List.map_append]; exact Hv4.out, Hown4.out, Hap4.out, Hps4.out, Hov4.out, Hou4.out, by rw [List.length_append, Hlen.out]; rfl, hb4⟩
        case measure => simp [intOf]; omega
      · replace hs0 : twB m s c < 0 := by omega
        have hbt : twO m s c = -1 := biI_f hs0
        have hsa : twA m s (c + 1) = twA m s c + (x + m) := by rw [twA_succ, hbt, hax]; omega
        have hsb : twB m s (c + 1) = twB m s c + (twA m s c + (x + m) + m) := by rw [twB_succ, hsa, hbt]; omega
        rw [hbt] at hst1
        generalize twA m s c = a at *
        generalize twB m s c = b at *
        generalize tab c (twO m s) = ys at hst1 hown1
        have e0 : x - -m = x + m := by omega
        have e1 : a + (x + m) - -m = a + (x + m) + m := by omega
        have Hob1 := hid (ownsRow_base hown1)
        have Hob2 := hid (ownsRow_base hown2)
        have Hsa := hid hsa
        have Hsb := hid hsb
        have Hst1 := hid hst1
        have Hown1 := hid hown1
        have Hown2 := hid hown2
        have Hap := hid hap
        have Hps := hid hps
        have Hov := hid hov
        have Hou := hid hou
        have Hlen := hid hlen
        clear hkx hsa hsb hst1 hown1 hown2 hap hps hov hou hlen hax hbt
        go_wp2_with (at_builtin; refine wpList_append_own2 _ rfl _ _ 24 rfl w.heap.size 3 i0 (.int .i64 0) 1 8 uslice hi0 hz0 hz1 hz2 rfl (by decide) _ _ _ rfl (Hown1.out.alloc _) ⟨wr.heap.size, 0, none⟩ 1 1 [.int .i64 (-1)] rfl rfl ?c1 ?c2 ?c3 ?c4 ?c5 ?_)
        case c1 => exact cell_one_new _ _ _
        case c2 => intro u hu; simp at hu; subst hu; rfl
        case c3 => unfold maxLen; omega
        case c4 => omega
        case c5 => simp; omega
        intro v' w3 hown3 hgrow hnew
        have hb3 : Below w.heap.size w w3 := (hb.alloc hsz _).grown hgrow (by simp; omega) (fun j hj => Hob1.out j hj)
        have hsz3 := hb3.size
        have hu3 := owns_other (Hown2.out.alloc _) hgrow Hap.out
        have hap3 := Apart.grown Hap.out hnew (fun j hj => by have := (Hown2.out.lt j hj).2; omega)
        have hps3 := (Hps.out.alloc _).grown hgrow Hov.out
        have hov3 := Off.grown Hov.out hnew (fun x hx g hg => by have := (Hps.out.lt x hx g hg).2; simp; omega)
        have Hps3 := hid hps3
        have Hov3 := hid hov3
        clear hps3 hov3
        have Hown3 := hid hown3
        have Hu3 := hid hu3
        have Hap3 := hid hap3
        clear hown3 hgrow hnew hu3 hap3
        go_wp2_with (at_builtin; refine wpList_append_own2 _ rfl _ _ 36 rfl w.heap.size 24 i1 (.slice none 0 0) 1 24 uslice2 hi1 hy0 hy1 hy2 rfl (by decide) _ _ _ rfl ((Hu3.out.alloc _).alloc _) ⟨w3.heap.size + 1, 0, none⟩ 1 1 [.slice (some ⟨w3.heap.size, 0, none⟩) 2 2] rfl rfl ?c1 ?c2 ?c3 ?c4 ?c5 ?_)
        (try case c1 => first | exact c1_alloc | rfl)
        (try case c2 => first | rfl | (intro u hu; simp at hu; subst hu; rfl))
        case c3 => unfold maxLen; omega
        case c4 => omega
        (try case c5 => first | omega | (simp; omega))
        intro u' w4 hown4 hgrow hnew
        have hb4 : Below w.heap.size w w4 := ((hb3.alloc hsz3 _).alloc (by simp; omega) _).grown hgrow (by simp; omega) (fun j hj => Hob2.out j hj)
        have hv4 := owns_other ((Hown3.out.alloc _).alloc _) hgrow Hap3.out.symm
        have hap4 := (Apart.grown Hap3.out.symm hnew (fun j hj => by have := (Hown3.out.lt j hj).2; omega)).symm
        have hps4 := PSr.grown (((Hps3.out.alloc _).push (g := w3.heap.size) hsz3 (by rw [Hlen.out]; unfold prL; rw [Hsa.out, Hsb.out]; exact blk_pair _ _ _ _) (fun x hx e => by have := (Hps3.out.lt x hx _ e).2; omega)).alloc _) hgrow (Off.push Hou.out (fun e => by have := (Hu3.out.lt _ e).2; omega))
        have hov4 := Off.push Hov3.out (g := w3.heap.size) (fun e => by have := (Hown3.out.lt _ e).2; omega)
        have hou4 := Off.grown (Off.push Hou.out (g := w3.heap.size) (fun e => by have := (Hu3.out.lt _ e).2; omega)) hnew (fun x hx g hg => by
          rcases List.mem_append.1 hx with hx | hx
          · have := (Hps3.out.lt x hx g hg).2; simp; omega
          · simp at hx; subst hx; cases hg; simp; omega)
        have Hps4 := hid hps4
        have Hov4 := hid hov4
        have Hou4 := hid hou4
        clear hps4 hov4 hou4
        have Hown4 := hid hown4
        have Hv4 := hid hv4
        have Hap4 := hid hap4
        clear hown4 hgrow hnew hv4 hap4
        go_wp2
        go_roundw
        case rel => exact ⟨c + 1, _, by omega, by rw [Hsa.out], by rw [Hsb.out], by go_num, by rw [Hst1.out, List.map_append]; exact Hv4.out, Hown4.out, Hap4.out, Hps4.out, Hov4.out, Hou4.out, by rw [List.length_append, Hlen.out]; rfl, hb4⟩
        case measure => simp [intOf]; omega
    · have hge : (n : Int) ≤ (c : Int) := by omega
      have hkn : c = s.length := by rw [← Hn.out]; omega
      have Hss := hid (PSr.ss hps hou hown2 hkn)
      clear hkn hlk hown1 hown2 hap hps hov hou hlen hlenH
      go_wp2
      go_ret2
      exact ⟨_, _, _, rfl, Hss.out, hb⟩

end Go.Proofs.Ytbhlailnefappaa
