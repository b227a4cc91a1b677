
import Derived.Test.YtbhlailnefappaaQh
import Derived.Deep.QuietTactic
import Derived.BigQuiet
import Derived.Deep.RegionHeld3
namespace Go.Proofs.Ytbhlailnefappaa
open Go.RowKit BitX Go.MemX Go.ChV
set_option linter.unusedVariables false
def bitB (bs : List Int) : Bool := decide (bs.length ≤ 200) && bs.all fun x => decide (x = 1 ∨ x = -1)
theorem bitB_t {bs : List Int} (h : bitB bs = true) : BitP bs := by
  unfold bitB at h
  rw [Bool.and_eq_true] at h
  exact ⟨of_decide_eq_true h.1, fun x hx => of_decide_eq_true (List.all_eq_true.1 h.2 x hx)⟩
theorem bitB_of {bs : List Int} (h : BitP bs) : bitB bs = true := by
  unfold bitB
  rw [Bool.and_eq_true]
  exact ⟨decide_eq_true h.1, List.all_eq_true.2 fun x hx => decide_eq_true (h.2 x hx)⟩
theorem bitB_f {bs : List Int} (h : ¬ BitP bs) : bitB bs = false := by
  cases h2 : bitB bs
  · rfl
  · exact absurd (bitB_t h2) h
theorem bit_get {bs : List Int} (h : BitP bs) {i : Nat} {x : Int} (hx : bs[i]? = some x) : x = 1 ∨ x = -1 := h.2 x (List.mem_of_getElem? hx)
def GoodTo (bs : List Int) (k : Nat) : Prop := ∀ i x, i < k → bs[i]? = some x → x = 1 ∨ x = -1
theorem GoodTo.step {bs : List Int} {k : Nat} {x : Int} (h : GoodTo bs k) (hx : bs[k]? = some x) (hg : x = 1 ∨ x = -1) : GoodTo bs (k + 1) := fun i y hi hy => by
  by_cases he : i = k
  · subst he; rw [hx] at hy; cases hy; exact hg
  · exact h i y (by omega) hy
theorem GoodTo.all {bs : List Int} (h : GoodTo bs bs.length) (hl : bs.length ≤ 200) : BitP bs := ⟨hl, fun x hx => by
  obtain ⟨i, hi⟩ := List.getElem?_of_mem hx
  exact h i x (by obtain ⟨h2, _⟩ := List.getElem?_eq_some_iff.1 hi; exact h2) hi⟩


set_option maxHeartbeats 1000000 in
theorem dmBits_is (v : Value) (bs : List Int) (w : World) (hs : Sl w v bs) :
    Calls Try.prog 71 #[v] w fun e w' => e = .returned (.bool (bitB bs)) ∧ w = w' := by
  obtain ⟨aa, n, cap, rfl, hn, hrd⟩ := id hs.rd
  have Hn := hid hn
  have Hrd := hid hrd
  clear hs hrd
  by_cases hbig : 200 < n
  · have HR := hid (show bitB bs = false from bitB_f fun h => by have := h.1; omega)
    clear hn
    go_enter Try.func71, Try.ntmps71
    go_wp2
    go_ret
    exact ⟨ret_b HR.out.symm, rfl⟩
  · have hl' : n ≤ 200 := by omega
    clear hn hbig
    go_enter Try.func71, Try.ntmps71
    go_wp2_with fail
    go_loop [10] (fun i => ∃ k : Nat, k ≤ n ∧ Hid (GoodTo bs k) ∧ i = .int .i64 k)
      (fun i => n - (intOf i).toNat)
    case atStart => exact ⟨0, by omega, hid fun i x hi => by omega, rfl⟩
    case round =>
      obtain ⟨k, hk, HG, rfl⟩ := hrel
      by_cases hlk : k < n
      · obtain ⟨x, hkx⟩ := get_lt bs k (by rw [← Hn.out]; exact hlk)
        obtain ⟨bb, oo, hix, hbb, hce⟩ := Hrd.out.at (P := Try.prog) (T := 24) n cap uslice sone hkx hlk
        by_cases hx1 : x = 1
        · have HG2 := hid (HG.out.step hkx (.inl hx1))
          subst hx1
          clear hkx
          go_wp2
          go_round
          case rel => exact ⟨k + 1, by omega, HG2.out, by go_num⟩
          case measure => simp [intOf]; omega
        · by_cases hx2 : x = -1
          · have HG2 := hid (HG.out.step hkx (.inr hx2))
            subst hx2
            clear hkx hx1
            go_wp2
            go_round
            case rel => exact ⟨k + 1, by omega, HG2.out, by go_num⟩
            case measure => simp [intOf]; omega
          · have HR := hid (show bitB bs = false from bitB_f fun h => by have := bit_get h hkx; omega)
            have hy1 : (x != 1) = true := bne_iff_ne.2 hx1
            have hy2 : (x != -1) = true := bne_iff_ne.2 hx2
            clear hkx
            go_wp2
            go_ret
            exact ⟨ret_b HR.out.symm, rfl⟩
      · have hge : (n : Int) ≤ (k : Int) := by omega
        have hkn : k = bs.length := by rw [← Hn.out]; omega
        have HR := hid (show bitB bs = true from bitB_of (GoodTo.all (by rw [← hkn]; exact HG.out) (by rw [← Hn.out]; exact hl')))
        clear hkn hlk
        go_wp2
        go_ret
        exact ⟨ret_b HR.out.symm, rfl⟩
theorem dmBits_q (v : Value) (bs : List Int) (q : Bool) (w : World) (hs : Sl w v bs) (h : bitB bs = q) : Calls Try.prog 71 #[v] w fun e w' => e = .returned (.bool (q)) ∧ w = w' := h ▸ dmBits_is v bs w hs


set_option maxHeartbeats 1000000 in
theorem areBits_is (v : Value) (bs : List Int) (w : World) (hs : Sl w v bs) :
    Calls Try.prog 53 #[v] w fun e w' => e = .returned (.bool (bitB bs)) ∧ w = w' := by
  obtain ⟨aa, n, cap, rfl, hn, hrd⟩ := id hs.rd
  have Hn := hid hn
  have Hrd := hid hrd
  clear hs hrd
  by_cases hbig : 200 < n
  · have HR := hid (show bitB bs = false from bitB_f fun h => by have := h.1; omega)
    clear hn
    go_enter Try.func53, Try.ntmps53
    go_wp2
    go_ret
    exact ⟨ret_b HR.out.symm, rfl⟩
  · have hl' : n ≤ 200 := by omega
    clear hn hbig
    go_enter Try.func53, Try.ntmps53
    go_wp2_with fail
    go_loop [10] (fun i => ∃ k : Nat, k ≤ n ∧ Hid (GoodTo bs k) ∧ i = .int .i64 k)
      (fun i => n - (intOf i).toNat)
    case atStart => exact ⟨0, by omega, hid fun i x hi => by omega, rfl⟩
    case round =>
      obtain ⟨k, hk, HG, rfl⟩ := hrel
      by_cases hlk : k < n
      · obtain ⟨x, hkx⟩ := get_lt bs k (by rw [← Hn.out]; exact hlk)
        obtain ⟨bb, oo, hix, hbb, hce⟩ := Hrd.out.at (P := Try.prog) (T := 24) n cap uslice sone hkx hlk
        by_cases hx1 : x = 1
        · have HG2 := hid (HG.out.step hkx (.inl hx1))
          subst hx1
          clear hkx
          go_wp2
          go_round
          case rel => exact ⟨k + 1, by omega, HG2.out, by go_num⟩
          case measure => simp [intOf]; omega
        · by_cases hx2 : x = -1
          · have HG2 := hid (HG.out.step hkx (.inr hx2))
            subst hx2
            clear hkx hx1
            go_wp2
            go_round
            case rel => exact ⟨k + 1, by omega, HG2.out, by go_num⟩
            case measure => simp [intOf]; omega
          · have HR := hid (show bitB bs = false from bitB_f fun h => by have := bit_get h hkx; omega)
            have hy1 : (x != 1) = true := bne_iff_ne.2 hx1
            have hy2 : (x != -1) = true := bne_iff_ne.2 hx2
            clear hkx
            go_wp2
            go_ret
            exact ⟨ret_b HR.out.symm, rfl⟩
      · have hge : (n : Int) ≤ (k : Int) := by omega
        have hkn : k = bs.length := by rw [← Hn.out]; omega
        have HR := hid (show bitB bs = true from bitB_of (GoodTo.all (by rw [← hkn]; exact HG.out) (by rw [← Hn.out]; exact hl')))
        clear hkn hlk
        go_wp2
        go_ret
        exact ⟨ret_b HR.out.symm, rfl⟩
theorem areBits_q (v : Value) (bs : List Int) (q : Bool) (w : World) (hs : Sl w v bs) (h : bitB bs = q) : Calls Try.prog 53 #[v] w fun e w' => e = .returned (.bool (q)) ∧ w = w' := h ▸ areBits_is v bs w hs


/-- how many bits 1 there are among the first ones -/
def onS (bs : List Int) : Nat → Int
  | 0 => 0
  | i + 1 => onS bs i + (at0 bs i + 1) / 2
theorem onS_zero (bs : List Int) : onS bs 0 = 0 := rfl
theorem onS_succ (bs : List Int) (i : Nat) : onS bs (i + 1) = onS bs i + (at0 bs i + 1) / 2 := rfl
theorem onS_in {bs : List Int} (h : BitP bs) (i : Nat) (hi : i ≤ bs.length) : 0 ≤ onS bs i ∧ onS bs i ≤ i := by
  induction i with
  | zero => rw [onS_zero]; omega
  | succ i ih =>
    have ih := ih (by omega)
    rw [onS_succ]
    rcases h.at (show i < bs.length by omega) with h | h <;> (rw [h]; omega)
theorem onS_su {bs : List Int} (h : BitP bs) (i : Nat) (hi : i ≤ bs.length) : 2 * onS bs i = suB bs i + i := by
  induction i with
  | zero => rw [onS_zero, suB_zero]; omega
  | succ i ih =>
    have ih := ih (by omega)
    rw [onS_succ, suB_succ]
    rcases h.at (show i < bs.length by omega) with h | h <;> (rw [h]; omega)
theorem onS_mono {bs : List Int} (h : BitP bs) (i d : Nat) (hi : i + d ≤ bs.length) : 0 ≤ onS bs (i + d) - onS bs i ∧ onS bs (i + d) - onS bs i ≤ d := by
  induction d with
  | zero => simp
  | succ d ih =>
    have ih := ih (by omega)
    rw [show i + (d + 1) = (i + d) + 1 from rfl, onS_succ]
    rcases h.at (show i + d < bs.length by omega) with h | h <;> (rw [h]; omega)
theorem ownsRow_one {w : World} {E : TypeId} {x : Int} {B : Nat} (hB : B ≤ w.heap.size) : (w.alloc (.cells #[.int .i64 x] E)).ownsRow B E 1 (.slice (some ⟨w.heap.size, 0, none⟩) 1 1) 1 ([x].map (Value.int .i64)) :=
  World.ownsRow_lit w #[.int .i64 x] 1 hB (by unfold maxLen; omega) (by simp)
/-- a list of the call's own, read as a list -/
theorem own_read {w : World} {E : TypeId} {B n : Nat} {v : Value} {f : Nat → Int} (h : w.ownsRow B E 1 v n ((tab n f).map (Value.int .i64))) : ∃ a cap, v = .slice a n cap ∧ Rd w a (tab n f) := by
  have h2 : Res E B w v (tab n f) := Res.owns (by rw [tab_len]; exact h)
  obtain ⟨a, m, cap, hv, hm, hrd⟩ := h2.sl.rd
  rw [tab_len] at hm
  exact ⟨a, cap, by rw [hv, hm], hrd⟩


set_option maxHeartbeats 2000000 in
theorem dmOnes_any (v : Value) (bs : List Int) (w : World) (hs : Sl w v bs) (hb : BitP bs) :
    Calls Try.prog 74 #[v] w (GivesL w (tab (bs.length + 1) (onS bs))) := by
  obtain ⟨aa, n, cap, rfl, hn, hrd⟩ := id hs.rd
  have Hn := hid hn
  have Hrd := hid hrd
  have HB := hid hb
  have hl' : n ≤ 200 := by rw [hn]; exact hb.1
  obtain ⟨i0, hi0, hz0, hz1, hz2⟩ := info_parts iint
  clear hs hn hrd hb
  go_enter Try.func74, Try.ntmps74
  go_wp2_with fail
  go_loopw [3, 9] (fun v i wr => ∃ c : Nat, c ≤ n ∧ i = .int .i64 c ∧ wr.ownsRow w.heap.size 3 1 v (c + 1) ((tab (c + 1) (onS bs)).map (Value.int .i64)) ∧ Below w.heap.size w wr)
    (fun _ i _ => n - (intOf i).toNat)
  case atStart => exact ⟨0, by omega, rfl, ownsRow_one (Nat.le_refl _), bel_alloc _ _⟩
  case round =>
    obtain ⟨c, hc, rfl, hown, hb⟩ := hrel
    have hsz : w.heap.size ≤ wr.heap.size := hb.size
    by_cases hlk : c < n
    · obtain ⟨x, hkx⟩ := get_lt bs c (by rw [← Hn.out]; exact hlk)
      obtain ⟨bb, oo, hix, hbb, hce⟩ := (Hrd.out.kept hb).at (P := Try.prog) (T := 24) n cap uslice sone hkx hlk
      obtain ⟨av, cv, rfl, hrv⟩ := own_read hown
      have hky : (tab (c + 1) (onS bs))[c]? = some (onS bs c) := tab_get _ _ _ (by omega)
      obtain ⟨bb2, oo2, hix2, hbb2, hce2⟩ := hrv.at (P := Try.prog) (T := 24) (c + 1) cv uslice sone hky (by omega)
      obtain ⟨s1, s2⟩ := onS_in HB.out c (by rw [← Hn.out]; omega)
      have hst : tab (c + 1 + 1) (onS bs) = tab (c + 1) (onS bs) ++ [onS bs (c + 1)] := tab_step (c + 1) (onS bs)
      rw [onS_succ, at0_of hkx] at hst
      have hx := bit_get HB.out hkx
      generalize onS bs c = z at *
      generalize tab (c + 1) (onS bs) = ys at hst hown hrv hky
      have Hob := hid (ownsRow_base hown)
      have Hown := hid hown
      clear hkx hky hown hrv
      rcases hx with hx | hx
      · subst hx
        have Hst := hid (show tab (c + 1 + 1) (onS bs) = ys ++ [z + 1] from hst)
        clear hst
        go_wp2_with (at_builtin; refine wpList_append_own _ rfl _ _ 24 rfl w.heap.size 3 i0 (.int .i64 0) 1 8 uslice hi0 hz0 hz1 hz2 rfl (by decide) _ _ _ rfl (Hown.out.alloc _) ⟨wr.heap.size, 0, none⟩ 1 1 [.int .i64 (z + 1)] rfl rfl ?c1 ?c2 ?c3 ?c4 ?c5 ?_)
        case c1 => exact cell_one_new _ _ _
        case c2 => intro u hu; simp at hu; subst hu; rfl
        case c3 => unfold maxLen; omega
        case c4 => omega
        case c5 => simp; omega
        intro v' w3 hown3 hgrow _
        have hb3 : Below w.heap.size w w3 := (hb.alloc hsz _).grown hgrow (by simp; omega) (fun j hj => Hob.out j hj)
        have Hown3 := hid hown3
        clear hown3 hgrow
        go_wp2
        go_roundw
        case rel => exact ⟨c + 1, by omega, by go_num, by rw [Hst.out, List.map_append]; exact Hown3.out, hb3⟩
        case measure => simp [intOf]; omega
      · subst hx
        have Hst := hid (show tab (c + 1 + 1) (onS bs) = ys ++ [z] from by rw [hst]; congr 2; omega)
        clear hst
        go_wp2_with (at_builtin; refine wpList_append_own _ rfl _ _ 24 rfl w.heap.size 3 i0 (.int .i64 0) 1 8 uslice hi0 hz0 hz1 hz2 rfl (by decide) _ _ _ rfl (Hown.out.alloc _) ⟨wr.heap.size, 0, none⟩ 1 1 [.int .i64 (z)] rfl rfl ?c1 ?c2 ?c3 ?c4 ?c5 ?_)
        case c1 => exact cell_one_new _ _ _
        case c2 => intro u hu; simp at hu; subst hu; rfl
        case c3 => unfold maxLen; omega
        case c4 => omega
        case c5 => simp; omega
        intro v' w3 hown3 hgrow _
        have hb3 : Below w.heap.size w w3 := (hb.alloc hsz _).grown hgrow (by simp; omega) (fun j hj => Hob.out j hj)
        have Hown3 := hid hown3
        clear hown3 hgrow
        go_wp2
        go_roundw
        case rel => exact ⟨c + 1, by omega, by go_num, by rw [Hst.out, List.map_append]; exact Hown3.out, hb3⟩
        case measure => simp [intOf]; omega
    · have hge : (n : Int) ≤ (c : Int) := by omega
      have hkn : c = bs.length := by rw [← Hn.out]; omega
      have Hk := hid hkn
      have Hown := hid hown
      clear hkn hlk hown
      go_wp2
      go_ret
      have ho := Hown.out
      rw [Hk.out] at ho
      exact ⟨_, rfl, Res.owns (by rw [tab_len]; exact ho), hb⟩

end Go.Proofs.Ytbhlailnefappaa
