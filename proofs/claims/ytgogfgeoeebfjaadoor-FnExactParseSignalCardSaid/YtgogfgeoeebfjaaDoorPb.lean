
import Derived.Test.YtgogfgeoeebfjaaDoorPa
namespace Go.Proofs.YtgogfgeoeebfjaaDoor
open Go.RowKit BitX Go.MemX
set_option linter.unusedVariables false
/-- what is carried behind so many rounds: the round behind the last byte closes the last number -/
def pAll (l : List UInt8) (k : Nat) : Option PSt := if k ≤ l.length then pRun pIni (l.take k) else (pRun pIni l).bind pSep
theorem pAll_zero (l : List UInt8) : pAll l 0 = some ([], 0, false, 0) := by unfold pAll; rw [if_pos (by omega)]; rfl
theorem pAll_step (l : List UInt8) (k : Nat) (c : UInt8) (s : PSt) (h : l[k]? = some c) (hs : pAll l k = some s) : pAll l (k + 1) = pStep s c.toNat := by
  have hk := (List.getElem?_eq_some_iff.1 h).1
  unfold pAll at hs ⊢
  rw [if_pos (by omega)] at hs
  rw [if_pos (by omega), pRun_take _ l k c h, hs]; rfl
theorem pAll_end (l : List UInt8) (s : PSt) (hs : pAll l l.length = some s) : pAll l (l.length + 1) = pSep s := by
  unfold pAll at hs ⊢
  rw [if_pos (by omega), List.take_length] at hs
  rw [if_neg (by omega), hs]; rfl
theorem pAll_none (l : List UInt8) (k : Nat) (hk : k ≤ l.length + 1) (h : pAll l k = none) : parseL l = none := by
  unfold pAll at h
  unfold parseL
  by_cases hl : k ≤ l.length
  · rw [if_pos hl] at h
    rw [pRun_none _ l k h]; rfl
  · rw [if_neg hl] at h
    rw [h]; rfl
theorem pAll_some (l : List UInt8) (s : PSt) (h : pAll l (l.length + 1) = some s) : parseL l = some s.1 := by
  unfold pAll at h
  rw [if_neg (by omega)] at h
  unfold parseL; rw [h]; rfl
def pInv (s : PSt) (k : Nat) : Prop := (0 ≤ s.2.1 ∧ s.2.1 < 10 ^ s.2.2.2 ∧ s.2.2.2 ≤ 7) ∧ s.1.length ≤ k
theorem pSep_inv {s s' : PSt} {k : Nat} (h : pInv s k) (e : pSep s = some s') : pInv s' (k + 1) := by
  unfold pSep at e
  split at e
  · cases e
  · cases e
    refine ⟨⟨by simp, by simp, by simp⟩, ?_⟩
    have := h.2
    simp; omega
theorem pStep_inv {s s' : PSt} {k c : Nat} (h : pInv s k) (e : pStep s c = some s') : pInv s' (k + 1) := by
  unfold pStep at e
  split at e
  · exact pSep_inv h e
  · split at e
    · cases e; exact ⟨h.1, Nat.le_succ_of_le h.2⟩
    · split at e
      · rename_i hc
        cases e
        obtain ⟨⟨a1, a2, a3⟩, a4⟩ := h
        refine ⟨⟨by simp only; omega, ?_, by simp only; omega⟩, Nat.le_succ_of_le a4⟩
        simp only
        rw [Int.pow_succ]
        generalize (10 : Int) ^ s.2.2.2 = p at *
        omega
      · cases e
theorem pAll_inv (l : List UInt8) : ∀ (k : Nat) (s : PSt), k ≤ l.length + 1 → pAll l k = some s → pInv s k
  | 0, s, _, h => by
    rw [pAll_zero] at h; cases h
    exact ⟨⟨by simp, by simp, by simp⟩, by simp⟩
  | k + 1, s, hk, h => by
    cases hp : pAll l k with
    | none =>
      exfalso
      by_cases hl : k < l.length
      · have e : pAll l (k + 1) = none := by
          unfold pAll at hp ⊢
          rw [if_pos (by omega)] at hp
          rw [if_pos (by omega), pRun_take _ l k l[k] (List.getElem?_eq_getElem hl), hp]; rfl
        rw [e] at h; cases h
      · have hkl : k = l.length := by omega
        subst hkl
        unfold pAll at hp h
        rw [if_pos (by omega), List.take_length] at hp
        rw [if_neg (by omega), hp] at h; cases h
    | some s0 =>
      have ih := pAll_inv l k s0 (by omega) hp
      by_cases hl : k < l.length
      · rw [pAll_step l k l[k] s0 (List.getElem?_eq_getElem hl) hp] at h
        exact pStep_inv ih h
      · have hkl : k = l.length := by omega
        subst hkl
        rw [pAll_end l s0 hp] at h
        exact pSep_inv ih h
theorem pow_dg {n : Int} {dg : Nat} (h : n < 10 ^ dg) : (dg ≤ 7 → n ≤ 9999999) ∧ (dg ≤ 6 → n ≤ 999999) := by
  constructor
  · intro hd
    have : (10 : Int) ^ dg ≤ 10 ^ 7 := by exact_mod_cast Nat.pow_le_pow_right (by decide) hd
    have e : (10 : Int) ^ 7 = 10000000 := rfl
    omega
  · intro hd
    have : (10 : Int) ^ dg ≤ 10 ^ 6 := by exact_mod_cast Nat.pow_le_pow_right (by decide) hd
    have e : (10 : Int) ^ 6 = 1000000 := rfl
    omega
theorem index_str (s : ByteArray) (k : Nat) (c : UInt8) (cc : Int) (hc : (c.toNat : Int) = cc) (h : s.data.toList[k]? = some c) (W : World) : (Instr.index 9 (.string s) (.int .i64 (k : Int))).run Tryd.prog W = .ok (.int .u8 cc) W := by
  have hk : k < s.size := by have := (List.getElem?_eq_some_iff.1 h).1; simpa using this
  rw [run_index_string W _ s .i64 (k : Int) (by kernel_rfl), dif_pos ⟨by omega, by omega⟩]
  have e : (s[(k : Int).toNat]'(by simpa using hk)) = c := by
    have h2 : s.data[k]? = some c := by simpa using h
    have h3 := (Array.getElem?_eq_some_iff.1 h2).2
    exact h3
  rw [e, hc]
def idxS (s : ByteArray) (v : Value) : Sem Value := Instr.index 9 (.string s) v
theorem index_idxS (s : ByteArray) (v : Value) : Instr.index 9 (.string s) v = idxS s v := rfl
attribute [local go_sem] index_idxS
theorem idx_str (s : ByteArray) (k : Nat) (c : UInt8) (cc : Int) (hc : (c.toNat : Int) = cc) (h : s.data.toList[k]? = some c) (W : World) : (idxS s (.int .i64 (k : Int))).run Tryd.prog W = .ok (.int .u8 cc) W := index_str s k c cc hc h W
theorem run_subS (cc dv : Int) (h : IntKind.u8.wrap (cc - 48) = dv) (W : World) : (Op.intArith .sub .u8 cc 48).run Tryd.prog W = .ok (.int .u8 dv) W := by
  subst h
  rfl
theorem run_mulI (a b c : Int) (h : IntKind.i64.wrap (a * b) = c) (W : World) : (Op.intArith .mul .i64 a b).run Tryd.prog W = .ok (.int .i64 c) W := by
  subst h
  rfl
theorem run_addI (a b c : Int) (h : IntKind.i64.wrap (a + b) = c) (W : World) : (Op.intArith .add .i64 a b).run Tryd.prog W = .ok (.int .i64 c) W := by
  subst h
  rfl
theorem bytes_len (s : ByteArray) : s.data.toList.length = s.size := by simp

theorem gives_of {w w2 : World} {ys zs : List Int} {b c : Bool} {e : Ending} (h1 : b = c) (h2 : ys = zs) (h : Gives w zs c e w2) : Gives w ys b e w2 := by subst h1 h2; exact h
theorem ht_of {xs : List Int} {s : ByteArray} {t : List UInt8} (h : txtL xs = t) (ht : s.data.toList = t) : s = txtS xs := by
  unfold txtS
  rw [h, ← ht]
theorem wdText_is (v : Value) (xs : List Int) (w : World) (s : ByteArray) (hs : Sl w v xs) (hp : SigP xs) (h : txtS xs = s) :
    Calls Tryd.prog 14 #[v] w fun e w' => e = .returned (.string s) ∧ Below w.heap.size w w' := h ▸ wdText_any v xs w hs hp
set_option maxRecDepth 20000 in
set_option maxHeartbeats 4000000 in
theorem wdParse_in (s : ByteArray) (w : World) (hd : s.data.toList ≠ [45]) (hlen : s.data.toList.length ≤ 512) :
    Calls Tryd.prog 18 #[.string s] w (Gives w (sigL s.data.toList) (sigO s.data.toList)) := by
  have hL := bytes_len s
  have hs45 : (s.toList == [45]) = false := by rw [ByteArray.toList_eq, beq_eq_false_iff_ne]; exact hd
  generalize ht : s.data.toList = t at *
  have Ht := hid ht
  have Hd := hid hd
  have hL5 : s.size ≤ 512 := by omega
  obtain ⟨i0, hi0, hz0, hz1, hz2⟩ := info_parts iint
  have HL := hid hL
  obtain ⟨L, hLe⟩ : ∃ L, s.size = L := ⟨_, rfl⟩
  clear hd ht hlen hL
  go_enter Tryd.func18, Tryd.ntmps18
  go_wp2_with fail
  skip
  skip
  go_loopw [4, 5, 6, 7, 8] (fun v sn sg sd i wr => ∃ (k : Nat) (out : List Int) (n : Int) (neg : Bool) (dg : Nat), k ≤ L + 1 ∧ sn = .int .i64 n ∧ sg = .bool neg ∧ sd = .int .i64 (dg : Int) ∧ i = .int .i64 (k : Int) ∧ Hid (pAll t k = some (out, n, neg, dg)) ∧ wr.ownsRow w.heap.size 3 1 v out.length (out.map (Value.int .i64)) ∧ Below w.heap.size w wr)
    (fun _ _ _ _ i _ => L + 1 - (intOf i).toNat)
  case atStart => exact ⟨0, [], 0, false, 0, by omega, rfl, rfl, rfl, rfl, pAll_zero t, World.ownsRow_nil _ _ _ _, Below.refl _ _⟩
  case round =>
    obtain ⟨k, out, n, neg, dg, hk, rfl, rfl, rfl, rfl, hpa, hown, hb⟩ := hrel
    have hsz : w.heap.size ≤ wr.heap.size := hb.size
    have hbw := hb
    have htl : t.length = L := by have := HL.out; omega
    obtain ⟨⟨n0, n1, d7⟩, hol⟩ := pAll_inv t k _ (by omega) hpa.out
    obtain ⟨p7, p6⟩ := pow_dg n1
    have n7 : n ≤ 9999999 := p7 d7
    have N6 : Hid (dg ≤ 6 → n ≤ 999999) := hid p6
    simp only at n0 d7 hol
    clear n1 p7 p6
    by_cases hkL : k ≤ L
    · by_cases hkl : k = L
      · have hnx0 : pAll t (k + 1) = pSep (out, n, neg, dg) := by
          have := hpa.out
          rw [show k = t.length from by omega] at this ⊢
          exact pAll_end t _ this
        have hke : (k : Int) = (L : Int) := by omega
        have hkb : ((k : Int) == (L : Int)) = true := by rw [beq_iff_eq]; omega
        have Hn0 := hid hnx0
        clear hnx0 hkl
        by_cases hdg : dg = 0
        · have hdz : ((dg : Int) == 0) = true := by rw [beq_iff_eq]; omega
          have hnx : pAll t (k + 1) = none := by rw [Hn0.out]; unfold pSep; rw [if_pos hdg]
          have HF := hid (sig_no (no_parse Hd.out (pAll_none _ (k + 1) (by omega) (hnx))))
          clear hpa hnx hdg
          go_wp2
          go_ret2
          exact gives_of HF.out.1 HF.out.2 ⟨_, rfl, .inl ⟨rfl, rfl⟩, hbw⟩
        · have hdz : ((dg : Int) == 0) = false := by rw [beq_eq_false_iff_ne]; omega
          have hd1 : 0 < (dg : Int) := by omega
          cases neg
          · have hnx : pAll t (k + 1) = some (out ++ [n], 0, false, 0) := by rw [Hn0.out]; unfold pSep; rw [if_neg hdg]; rfl
            have Hnx := hid (show pAll t (k + 1) = some (out ++ [n], 0, false, 0) from hnx)
            have Hown := hid hown
            have Hob := hid (ownsRow_base hown)
            clear hpa hown hnx hdg
            skip
            go_wp2_with (at_builtin; refine wpList_append_own _ rfl _ _ 22 rfl w.heap.size 3 i0 (.int .i64 0) 1 8 uslice hi0 hz0 hz1 hz2 rfl (by decide) _ _ _ rfl (Hown.out.alloc _) ⟨wr.heap.size, 0, none⟩ 1 1 [.int .i64 (n)] rfl rfl ?c1 ?c2 ?c3 ?c4 ?c5 ?_)
            try (case c1 => (first | exact cell_one_new _ _ _ | (intro u hu; simp at hu; subst hu; rfl)))
            try (case c2 => (intro u hu; simp at hu; subst hu; rfl))
            try (case c3 => unfold maxLen; omega)
            try (case c4 => omega)
            try (case c5 => simp; omega)
            intro v' w3 hown3 hgrow _
            have hb3 : Below w.heap.size w w3 := (hb.alloc hsz _).grown hgrow (by simp; omega) (fun j hj => Hob.out j hj)
            have Hown3 := hid hown3
            clear hown3 hgrow
            go_wp2
            go_roundw
            case rel => exact ⟨k + 1, out ++ [n], 0, false, 0, by omega, by go_num, rfl, rfl, by go_num, Hnx, by rw [List.length_append, List.map_append]; exact Hown3.out, hb3⟩
            case measure => simp [intOf]; omega
          · have hnx : pAll t (k + 1) = some (out ++ [-n], 0, false, 0) := by rw [Hn0.out]; unfold pSep; rw [if_neg hdg]; rfl
            have Hnx := hid (show pAll t (k + 1) = some (out ++ [-n], 0, false, 0) from hnx)
            have Hown := hid hown
            have Hob := hid (ownsRow_base hown)
            clear hpa hown hnx hdg
            have hwn : IntKind.i64.wrap (-n) = -n := IntWalk.i64_in _ (by omega)
            go_wp2_with (at_builtin; refine wpList_append_own _ rfl _ _ 22 rfl w.heap.size 3 i0 (.int .i64 0) 1 8 uslice hi0 hz0 hz1 hz2 rfl (by decide) _ _ _ rfl (Hown.out.alloc _) ⟨wr.heap.size, 0, none⟩ 1 1 [.int .i64 (-n)] rfl rfl ?c1 ?c2 ?c3 ?c4 ?c5 ?_)
            try (case c1 => (first | exact cell_one_new _ _ _ | (intro u hu; simp at hu; subst hu; rfl)))
            try (case c2 => (intro u hu; simp at hu; subst hu; rfl))
            try (case c3 => unfold maxLen; omega)
            try (case c4 => omega)
            try (case c5 => simp; omega)
            intro v' w3 hown3 hgrow _
            have hb3 : Below w.heap.size w w3 := (hb.alloc hsz _).grown hgrow (by simp; omega) (fun j hj => Hob.out j hj)
            have Hown3 := hid hown3
            clear hown3 hgrow
            go_wp2
            go_roundw
            case rel => exact ⟨k + 1, out ++ [-n], 0, false, 0, by omega, by go_num, rfl, rfl, by go_num, Hnx, by rw [List.length_append, List.map_append]; exact Hown3.out, hb3⟩
            case measure => simp [intOf]; omega
      · have hlk : k < L := by omega
        obtain ⟨c, hkc⟩ : ∃ c, t[k]? = some c := ⟨t[k]'(by omega), List.getElem?_eq_getElem _⟩
        obtain ⟨cc, hcc⟩ : ∃ cc : Int, (c.toNat : Int) = cc := ⟨_, rfl⟩
        have hix := idx_str s k c cc hcc (by rw [Ht.out]; exact hkc)
        have hcb : c.toNat ≤ 255 := by have := c.toNat_lt; omega
        have c0 : 0 ≤ cc := by omega
        have c255 : cc ≤ 255 := by omega
        have hnx0 : pAll t (k + 1) = pStep (out, n, neg, dg) c.toNat := pAll_step t k c _ hkc hpa.out
        have hkb : ((k : Int) == (L : Int)) = false := by rw [beq_eq_false_iff_ne]; omega
        have hkne : ¬ (k : Int) = (L : Int) := by omega
        have Hn0 := hid hnx0
        have Hcc := hid hcc
        clear hnx0 hkl hkc hcb hcc
        by_cases h44 : cc = 44
        · have hcs : pAll t (k + 1) = pSep (out, n, neg, dg) := by rw [Hn0.out]; unfold pStep; rw [if_pos (by have := Hcc.out; omega)]
          have Hcs := hid hcs
          clear hcs
          subst h44
          by_cases hdg : dg = 0
          · have hdz : ((dg : Int) == 0) = true := by rw [beq_iff_eq]; omega
            have hnx : pAll t (k + 1) = none := by rw [Hcs.out]; unfold pSep; rw [if_pos hdg]
            have HF := hid (sig_no (no_parse Hd.out (pAll_none _ (k + 1) (by omega) (hnx))))
            clear hpa hnx hdg
            go_wp2
            go_ret2
            exact gives_of HF.out.1 HF.out.2 ⟨_, rfl, .inl ⟨rfl, rfl⟩, hbw⟩
          · have hdz : ((dg : Int) == 0) = false := by rw [beq_eq_false_iff_ne]; omega
            have hd1 : 0 < (dg : Int) := by omega
            cases neg
            · have hnx : pAll t (k + 1) = some (out ++ [n], 0, false, 0) := by rw [Hcs.out]; unfold pSep; rw [if_neg hdg]; rfl
              have Hnx := hid (show pAll t (k + 1) = some (out ++ [n], 0, false, 0) from hnx)
              have Hown := hid hown
              have Hob := hid (ownsRow_base hown)
              clear hpa hown hnx hdg
              skip
              go_wp2_with (at_builtin; refine wpList_append_own _ rfl _ _ 22 rfl w.heap.size 3 i0 (.int .i64 0) 1 8 uslice hi0 hz0 hz1 hz2 rfl (by decide) _ _ _ rfl (Hown.out.alloc _) ⟨wr.heap.size, 0, none⟩ 1 1 [.int .i64 (n)] rfl rfl ?c1 ?c2 ?c3 ?c4 ?c5 ?_)
              try (case c1 => (first | exact cell_one_new _ _ _ | (intro u hu; simp at hu; subst hu; rfl)))
              try (case c2 => (intro u hu; simp at hu; subst hu; rfl))
              try (case c3 => unfold maxLen; omega)
              try (case c4 => omega)
              try (case c5 => simp; omega)
              intro v' w3 hown3 hgrow _
              have hb3 : Below w.heap.size w w3 := (hb.alloc hsz _).grown hgrow (by simp; omega) (fun j hj => Hob.out j hj)
              have Hown3 := hid hown3
              clear hown3 hgrow
              go_wp2
              go_roundw
              case rel => exact ⟨k + 1, out ++ [n], 0, false, 0, by omega, by go_num, rfl, rfl, by go_num, Hnx, by rw [List.length_append, List.map_append]; exact Hown3.out, hb3⟩
              case measure => simp [intOf]; omega
            · have hnx : pAll t (k + 1) = some (out ++ [-n], 0, false, 0) := by rw [Hcs.out]; unfold pSep; rw [if_neg hdg]; rfl
              have Hnx := hid (show pAll t (k + 1) = some (out ++ [-n], 0, false, 0) from hnx)
              have Hown := hid hown
              have Hob := hid (ownsRow_base hown)
              clear hpa hown hnx hdg
              have hwn : IntKind.i64.wrap (-n) = -n := IntWalk.i64_in _ (by omega)
              go_wp2_with (at_builtin; refine wpList_append_own _ rfl _ _ 22 rfl w.heap.size 3 i0 (.int .i64 0) 1 8 uslice hi0 hz0 hz1 hz2 rfl (by decide) _ _ _ rfl (Hown.out.alloc _) ⟨wr.heap.size, 0, none⟩ 1 1 [.int .i64 (-n)] rfl rfl ?c1 ?c2 ?c3 ?c4 ?c5 ?_)
              try (case c1 => (first | exact cell_one_new _ _ _ | (intro u hu; simp at hu; subst hu; rfl)))
              try (case c2 => (intro u hu; simp at hu; subst hu; rfl))
              try (case c3 => unfold maxLen; omega)
              try (case c4 => omega)
              try (case c5 => simp; omega)
              intro v' w3 hown3 hgrow _
              have hb3 : Below w.heap.size w w3 := (hb.alloc hsz _).grown hgrow (by simp; omega) (fun j hj => Hob.out j hj)
              have Hown3 := hid hown3
              clear hown3 hgrow
              go_wp2
              go_roundw
              case rel => exact ⟨k + 1, out ++ [-n], 0, false, 0, by omega, by go_num, rfl, rfl, by go_num, Hnx, by rw [List.length_append, List.map_append]; exact Hown3.out, hb3⟩
              case measure => simp [intOf]; omega
        · have b44 : (cc == 44) = false := by rw [beq_eq_false_iff_ne]; exact h44
          by_cases h45 : cc = 45
          · subst h45
            by_cases hdg : dg = 0
            · have hdz : ((dg : Int) == 0) = true := by rw [beq_iff_eq]; omega
              cases neg
              · have Hnx := hid (show pAll t (k + 1) = some (out, n, true, dg) from by rw [Hn0.out]; unfold pStep; rw [if_neg (by have := Hcc.out; omega), if_pos ⟨by have := Hcc.out; omega, hdg, rfl⟩])
                have Hown := hid hown
                clear hpa hown hdg
                go_wp2
                go_roundw
                case rel => exact ⟨k + 1, out, n, true, dg, by omega, rfl, rfl, rfl, by go_num, Hnx, Hown.out, hb⟩
                case measure => simp [intOf]; omega
              · have hnx : pAll t (k + 1) = none := by rw [Hn0.out]; unfold pStep; rw [if_neg (by have := Hcc.out; omega), if_neg (by simp), if_neg (by have := Hcc.out; simp only; omega)]
                have HF := hid (sig_no (no_parse Hd.out (pAll_none _ (k + 1) (by omega) (hnx))))
                clear hpa hnx hdg
                go_wp2
                go_ret2
                exact gives_of HF.out.1 HF.out.2 ⟨_, rfl, .inl ⟨rfl, rfl⟩, hbw⟩
            · have hdz : ((dg : Int) == 0) = false := by rw [beq_eq_false_iff_ne]; omega
              have hnx : pAll t (k + 1) = none := by rw [Hn0.out]; unfold pStep; rw [if_neg (by have := Hcc.out; omega), if_neg (by intro a; exact hdg a.2.1), if_neg (by have := Hcc.out; simp only; omega)]
              have HF := hid (sig_no (no_parse Hd.out (pAll_none _ (k + 1) (by omega) (hnx))))
              clear hpa hnx hdg
              go_wp2
              go_ret2
              exact gives_of HF.out.1 HF.out.2 ⟨_, rfl, .inl ⟨rfl, rfl⟩, hbw⟩
          · have b45 : (cc == 45) = false := by rw [beq_eq_false_iff_ne]; exact h45
            by_cases hlo : cc < 48
            · have hnx : pAll t (k + 1) = none := by rw [Hn0.out]; unfold pStep; rw [if_neg (by have := Hcc.out; omega), if_neg (by have := Hcc.out; intro a; omega), if_neg (by have := Hcc.out; simp only; omega)]
              have hq1 : decide (48 ≤ cc) = false := decide_eq_false (by omega)
              have HF := hid (sig_no (no_parse Hd.out (pAll_none _ (k + 1) (by omega) (hnx))))
              clear hpa hnx hlo hol htl hsz d7 hs45 hL5 hk
              go_wp2
              go_ret2
              exact gives_of HF.out.1 HF.out.2 ⟨_, rfl, .inl ⟨rfl, rfl⟩, hbw⟩
            · by_cases hhi : 57 < cc
              · have hnx : pAll t (k + 1) = none := by rw [Hn0.out]; unfold pStep; rw [if_neg (by have := Hcc.out; omega), if_neg (by have := Hcc.out; intro a; omega), if_neg (by have := Hcc.out; simp only; omega)]
                have hq1 : decide (48 ≤ cc) = true := decide_eq_true (by omega)
                have hq2 : decide (cc ≤ 57) = false := decide_eq_false (by omega)
                have HF := hid (sig_no (no_parse Hd.out (pAll_none _ (k + 1) (by omega) (hnx))))
                clear hpa hnx hlo hhi hol htl hsz d7 hs45 hL5 hk
                go_wp2
                go_ret2
                exact gives_of HF.out.1 HF.out.2 ⟨_, rfl, .inl ⟨rfl, rfl⟩, hbw⟩
              · have hlo2 : 48 ≤ cc := by omega
                have hhi2 : cc ≤ 57 := by omega
                by_cases hd6 : dg ≤ 6
                · have n6 := N6.out hd6
                  obtain ⟨dv, hdv⟩ : ∃ dv : Int, cc - 48 = dv := ⟨_, rfl⟩
                  obtain ⟨m10, hm10⟩ : ∃ m10 : Int, 10 * n = m10 := ⟨_, rfl⟩
                  obtain ⟨nr, hnr⟩ : ∃ nr : Int, m10 + dv = nr := ⟨_, rfl⟩
                  have Hnx := hid (show pAll t (k + 1) = some (out, nr, neg, dg + 1) from by rw [Hn0.out]; unfold pStep; rw [if_neg (by have := Hcc.out; omega), if_neg (by have := Hcc.out; intro a; omega), if_pos (by have := Hcc.out; simp only; omega)]; simp only [Hcc.out, hdv, hm10, hnr])
                  have Hown := hid hown
                  have hq1 : decide (48 ≤ cc) = true := decide_eq_true (by omega)
                  have hq2 : decide (cc ≤ 57) = true := decide_eq_true (by omega)
                  have hq3 : decide ((dg : Int) < 7) = true := decide_eq_true (by omega)
                  have v0 : 0 ≤ dv := by omega
                  have v9 : dv ≤ 9 := by omega
                  have Hval := hid (show wrap64 (wrap64 (10 * n) + (cc - 48) % 256) = nr by
                    rw [IntWalk.wrap64_in (10 * n) (by omega), show (cc - 48) % 256 = dv by omega, hm10, hnr]
                    exact IntWalk.wrap64_in _ (by omega))
                  have Hdg := hid (show wrap64 ((dg : Int) + 1) = ((dg + 1 : Nat) : Int) by rw [IntWalk.wrap64_in _ (by omega)]; omega)
                  clear hpa hown hlo hhi hlo2 hhi2 hd6 hol htl hsz d7 hs45 hL5 hk hdv c0 c255 hm10 hnr n6 n7 n0 v0 v9
                  go_wp2
                  go_roundw
                  case rel => exact ⟨k + 1, out, nr, neg, dg + 1, by omega, congrArg (Value.int .i64) Hval.out, rfl, congrArg (Value.int .i64) Hdg.out, by go_num, Hnx, Hown.out, hb⟩
                  case measure => simp [intOf]; omega
                · have hq1 : decide (48 ≤ cc) = true := decide_eq_true (by omega)
                  have hq2 : decide (cc ≤ 57) = true := decide_eq_true (by omega)
                  have hq3 : decide ((dg : Int) < 7) = false := decide_eq_false (by omega)
                  have hnx : pAll t (k + 1) = none := by rw [Hn0.out]; unfold pStep; rw [if_neg (by have := Hcc.out; omega), if_neg (by have := Hcc.out; intro a; omega), if_neg (by have := Hcc.out; simp only; omega)]
                  have HF := hid (sig_no (no_parse Hd.out (pAll_none _ (k + 1) (by omega) (hnx))))
                  clear hpa hnx hlo hhi hlo2 hhi2 hd6 hol htl hsz d7 hs45 hL5 hk
                  go_wp2
                  go_ret2
                  exact gives_of HF.out.1 HF.out.2 ⟨_, rfl, .inl ⟨rfl, rfl⟩, hbw⟩
    · have hge : (L : Int) < (k : Int) := by omega
      have hkn : k = t.length + 1 := by omega
      have hps : parseL t = some out := by
        have := hpa.out
        rw [hkn] at this
        exact pAll_some t _ this
      have Hps := hid hps
      have Hown := hid (Res.owns hown)
      clear hkL hkn hps hpa hown
      have hnk : ¬ ((k : Int) ≤ (L : Int)) := by omega
      clear hge hk hol htl hsz d7 n0 n7 hs45 hL5
      cases hq : sigB out
      · have HF := hid (sig_no (only_parse Hd.out Hps.out (fun a => sigB_f hq a.1)))
        have Hq := hid hq
        clear hq
        go_wp2_with fail
        refine (wdSignal_is _ out _ _ Hown.out.sl Hq.out).mono ?_
        rintro e w' ⟨rfl, rfl⟩
        go_wp2_with fail
        go_ret2
        exact gives_of HF.out.1 HF.out.2 ⟨_, rfl, .inl ⟨rfl, rfl⟩, hbw⟩
      · have Hq := hid hq
        clear hq
        by_cases he : txtS out = s
        · have HF := hid (sig_yes (xs := out) (t := t) ⟨sigB_t Hq.out, by rw [← Ht.out, ← he]; simp [txtS]⟩)
          have He := hid he
          clear he
          go_wp2_with fail
          refine (wdSignal_is _ out _ _ Hown.out.sl Hq.out).mono ?_
          rintro e w' ⟨rfl, rfl⟩
          go_wp2_with fail
          refine (wdText_is _ out _ s Hown.out.sl (sigB_t Hq.out) He.out).mono ?_
          rintro e w4 ⟨rfl, hb4⟩
          go_wp2_with fail
          go_ret2
          exact gives_of HF.out.1 HF.out.2 ⟨_, rfl, Hown.out.kept hb4, hbw.trans (hb4.mono hbw.size)⟩
        · have HF := hid (sig_no (only_parse Hd.out Hps.out (fun a => he (by rw [← ht_of a.2 Ht.out]))))
          obtain ⟨s1, hs1⟩ : ∃ s1, txtS out = s1 := ⟨_, rfl⟩
          rw [hs1] at he
          have hbe : (s1.toList == s.toList) = false := by
            rw [ByteArray.toList_eq, ByteArray.toList_eq, beq_eq_false_iff_ne]
            intro a; exact he (ByteArray.ext (Array.toList_inj.1 a))
          clear he
          have Hs1 := hid hs1
          clear hs1
          go_wp2_with fail
          refine (wdSignal_is _ out _ _ Hown.out.sl Hq.out).mono ?_
          rintro e w' ⟨rfl, rfl⟩
          go_wp2_with fail
          refine (wdText_is _ out _ s1 Hown.out.sl (sigB_t Hq.out) Hs1.out).mono ?_
          rintro e w4 ⟨rfl, hb4⟩
          go_wp2_with fail
          go_ret2
          exact gives_of HF.out.1 HF.out.2 ⟨_, rfl, .inl ⟨rfl, rfl⟩, hbw.trans (hb4.mono hbw.size)⟩

end Go.Proofs.YtgogfgeoeebfjaaDoor
