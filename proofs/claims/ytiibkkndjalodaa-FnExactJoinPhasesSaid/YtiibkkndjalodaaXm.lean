
import Derived.Test.YtiibkkndjalodaaXl
import Derived.Test.YtiibkkndjalodaaUe
import Derived.Test.YtiibkkndjalodaaFo
import Derived.Deep.QuietTactic
import Derived.BigQuiet
namespace Go.Proofs.Ytiibkkndjalodaa
open Go.RowKit BitX Go.MemX Go.Ch6 Go.Ch8
set_option linter.unusedVariables false
theorem lenS_bound {Ls : List (List Int)} (i m : Nat) (hi : i ≤ Ls.length) (h : ∀ j L, j < i → Ls[j]? = some L → L.length ≤ m) : lenS (Ls.take i) ≤ i * m := by
  induction i with
  | zero => simp [lenS]
  | succ i ih =>
    have hx : Ls[i]? = some Ls[i] := List.getElem?_eq_getElem (by omega)
    rw [lenS_step hx]
    have := ih (by omega) fun j L hj => h j L (by omega)
    have := h i _ (by omega) hx
    rw [Nat.add_mul]; omega
theorem getD_some {Ls : List (List Int)} {i : Nat} {L : List Int} (h : Ls[i]? = some L) : Ls.getD i [] = L := by simp [List.getD_eq_getElem?_getD, h]
def jpH (Ls : List (List Int)) (k : Nat) : Bool := decide (k / Ls.length < (Ls.getD (k % Ls.length) []).length)
def jpG (Ls : List (List Int)) (k : Nat) : Int := at0 (Ls.getD (k % Ls.length) []) (k / Ls.length)
def jpL (Ls : List (List Int)) : List Int := tab (lenS Ls) (jpG Ls)
theorem jpL_len (Ls : List (List Int)) : (jpL Ls).length = lenS Ls := tab_len _ _
def jpB (Ls : List (List Int)) : Bool := decide (1 ≤ Ls.length ∧ Ls.length ≤ 8) && ((List.range (lenS Ls)).all (jpH Ls) && wgtB (jpL Ls))
theorem jpB_n1 {Ls : List (List Int)} (h : decide (1 ≤ Ls.length ∧ Ls.length ≤ 8) = false) : jpB Ls = false := by unfold jpB; rw [h]; rfl
theorem jpB_t {Ls : List (List Int)} (h : jpB Ls = true) : (1 ≤ Ls.length ∧ Ls.length ≤ 8) ∧ (∀ k, k < lenS Ls → jpH Ls k = true) ∧ WgtP (jpL Ls) := by
  unfold jpB at h
  simp only [Bool.and_eq_true] at h
  exact ⟨of_decide_eq_true h.1, fun k hk => List.all_eq_true.1 h.2.1 k (List.mem_range.2 hk), wgtB_t h.2.2⟩
theorem jpB_n {Ls : List (List Int)} (h : ¬ ((1 ≤ Ls.length ∧ Ls.length ≤ 8) ∧ (∀ k, k < lenS Ls → jpH Ls k = true) ∧ WgtP (jpL Ls))) : jpB Ls = false := by
  cases hb : jpB Ls
  · rfl
  · exact absurd (jpB_t hb) h
theorem jpB_long {Ls : List (List Int)} (h : 9 < lenS Ls) : jpB Ls = false := jpB_n fun q => by
  have := q.2.2.1.2
  rw [jpL_len] at this
  omega
theorem jpB_miss {Ls : List (List Int)} {k : Nat} (hk : k < lenS Ls) (h : jpH Ls k = false) : jpB Ls = false := jpB_n fun q => by
  have := q.2.1 k hk
  rw [h] at this; cases this
theorem jpB_eq {Ls : List (List Int)} (h1 : 1 ≤ Ls.length) (h2 : Ls.length ≤ 8) (h : ∀ k, k < lenS Ls → jpH Ls k = true) : jpB Ls = wgtB (jpL Ls) := by
  unfold jpB
  rw [decide_eq_true ⟨h1, h2⟩, show (List.range (lenS Ls)).all (jpH Ls) = true from List.all_eq_true.2 fun k hk => h k (List.mem_range.1 hk)]
  rfl
theorem jp_pl {Ls : List (List Int)} (h : jpB Ls = true) : plB (lenS Ls) (jpH Ls) (jpG Ls) = true := by
  obtain ⟨_, h1, h2⟩ := jpB_t h
  refine plB_t fun j hj => ?_
  have hl := h2.1.2
  rw [jpL_len] at hl
  have hx := h2.2 (jpG Ls j) (List.mem_of_getElem? (tab_get _ _ _ hj))
  unfold goodB
  rw [h1 j hj, decide_eq_true (show j < 64 by omega)]
  have hs : smB (jpG Ls j) = true := decide_eq_true ⟨by omega, by omega⟩
  rw [hs]; rfl
theorem jp_npl {Ls : List (List Int)} (h : plB (lenS Ls) (jpH Ls) (jpG Ls) = false) : jpB Ls = false := by
  cases hb : jpB Ls
  · rfl
  · rw [jp_pl hb] at h; cases h
theorem pl_jp {Ls : List (List Int)} (h1 : 1 ≤ Ls.length) (h2 : Ls.length ≤ 8) (h : plB (lenS Ls) (jpH Ls) (jpG Ls) = true) : jpB Ls = wgtB (jpL Ls) := jpB_eq h1 h2 fun k hk => by
  unfold plB at h
  have := List.all_eq_true.1 h k (List.mem_range.2 hk)
  unfold goodB at this
  simp only [Bool.and_eq_true] at this
  exact this.1
/-- the list of a place -/
theorem jp_list {Ls : List (List Int)} (h1 : 1 ≤ Ls.length) (k : Nat) : ∃ L, Ls[k % Ls.length]? = some L ∧ jpH Ls k = decide (k / Ls.length < L.length) ∧ jpG Ls k = at0 L (k / Ls.length) := by
  have hm : k % Ls.length < Ls.length := Nat.mod_lt _ (by omega)
  have hx : Ls[k % Ls.length]? = some Ls[k % Ls.length] := List.getElem?_eq_getElem hm
  exact ⟨_, hx, by unfold jpH; rw [getD_some hx], by unfold jpG; rw [getD_some hx]⟩

theorem RdS.len9 {w : World} {u : Value} {L : List Int} (h : Sl w u L) : ∃ a cap, u = .slice a L.length cap ∧ Rd w a L := by
  obtain ⟨a, n, cap, rfl, hn, hr⟩ := h.rd
  subst hn
  exact ⟨a, cap, rfl, hr⟩


set_option maxHeartbeats 400000 in
theorem szIntS_any (u : Value) (L : List Int) (left : Int) (w : World) (hs : Sl w u L) (hl : L.length ≤ 9223372036854775807) (l0 : 0 ≤ left) (l1 : left ≤ 1048576) :
    Calls Try.prog 13 #[u, .int .i64 left] w fun e w' => (∃ r, e = .returned (.int .i64 r) ∧ (r = -1 ∧ left < L.length ∨ (L.length : Int) ≤ left ∧ r = left - L.length)) ∧ w = w' := by
  obtain ⟨a, cap, rfl, _⟩ := RdS.len9 hs
  generalize L.length = n at *
  clear hs
  by_cases h : (n : Int) ≤ left
  · have h2 : 0 ≤ left - (n : Int) := by omega
    go_enter Try.func13, Try.ntmps13
    go_wp2
    go_ret
    exact ⟨⟨_, rfl, .inr ⟨h, rfl⟩⟩, rfl⟩
  · have h2 : left - (n : Int) < 0 := by omega
    have h3 : left < (n : Int) := by omega
    clear h
    go_enter Try.func13, Try.ntmps13
    go_wp2
    go_ret
    exact ⟨⟨_, rfl, .inl ⟨rfl, h3⟩⟩, rfl⟩


set_option maxHeartbeats 1000000 in
theorem szIntSS_any (v : Value) (Ls : List (List Int)) (w : World) (hs : SlS w v Ls) (hn : Ls.length ≤ 9223372036854775807) (hl : ∀ (i : Nat) (L : List Int), Ls[i]? = some L → L.length ≤ 9223372036854775807) :
    Calls Try.prog 4 #[v, .int .i64 1048576] w fun e w' => (∃ r, e = .returned (.int .i64 r) ∧ (r = -1 ∨ 0 ≤ r ∧ Ls.length ≤ 1048576 ∧ lenS Ls ≤ 1048576)) ∧ w = w' := by
  obtain ⟨a, cap, rfl, hr⟩ := hs
  have HR := hid hr
  have HL := hid hl
  obtain ⟨n, hnn⟩ : ∃ n, n = Ls.length := ⟨_, rfl⟩
  rw [← hnn] at hn ⊢
  have Hn := hid hnn
  clear hr hl hnn
  by_cases hb : 1048576 < n
  · have h2 : (1048576 : Int) - (n : Int) < 0 := by omega
    go_enter Try.func4, Try.ntmps4
    go_wp2
    go_ret
    exact ⟨⟨_, rfl, .inl rfl⟩, rfl⟩
  · have h2 : (0 : Int) ≤ 1048576 - (n : Int) := by omega
    have hn2 : n ≤ 1048576 := by omega
    clear hb hn
    go_enter Try.func4, Try.ntmps4
    go_wp2_with fail
    go_loop [1, 5] (fun l i => ∃ (k : Nat) (x : Int), k ≤ n ∧ i = .int .i64 k ∧ l = .int .i64 x ∧ 0 ≤ x ∧ x + (lenS (Ls.take k) : Int) + (n : Int) = 1048576)
      (fun _ i => n - (intOf i).toNat)
    case atStart => exact ⟨0, _, by omega, rfl, rfl, by omega, by simp [lenS]⟩
    case round =>
      obtain ⟨k, x, hk, rfl, rfl, x0, hx⟩ := hrel
      by_cases hlk : k < n
      · obtain ⟨L, hkL⟩ := get_lt Ls k (by rw [← Hn.out]; exact hlk)
        obtain ⟨b, off, u, hix, hbb, hce, hsl⟩ := HR.out.at (P := Try.prog) (T := 22) n cap uslice9 sone9 hkL hlk
        have hll := HL.out k L hkL
        have Hst := hid (lenS_step hkL)
        have Hsl := hid hsl
        have Hx := hid hx
        have hx1 : x ≤ 1048576 := by omega
        have Hll := hid hll
        obtain ⟨ua, uc, rfl, _⟩ := RdS.len9 hsl
        clear hkL hsl hx hll
        go_wp2_with fail
        refine (szIntS_any _ L x _ Hsl.out Hll.out x0 hx1).mono ?_
        rintro e w' ⟨⟨r, rfl, hr⟩, rfl⟩
        rcases hr with ⟨rfl, hlt⟩ | ⟨hle, hre⟩
        · go_wp2
          go_ret
          exact ⟨⟨_, rfl, .inl rfl⟩, rfl⟩
        · have hr0 : 0 ≤ r := by omega
          have Hre := hid hre
          have Hle := hid hle
          clear hre hle
          go_wp2
          go_round
          case rel => exact ⟨k + 1, r, by omega, by go_num, rfl, hr0, by rw [Hst.out, Hre.out]; have := Hx.out; omega⟩
          case measure => simp [intOf]; omega
      · have hge : (n : Int) ≤ (k : Int) := by omega
        have hkn : k = Ls.length := by rw [← Hn.out]; omega
        have Hall := hid (show lenS Ls ≤ 1048576 from by rw [hkn, List.take_length] at hx; omega)
        clear hkn hlk hx
        go_wp2
        go_ret
        exact ⟨⟨_, rfl, Or.inr (by first | exact ⟨x0, hn2, Hall.out⟩ | exact Hall.out | exact ⟨x0, Hall.out⟩)⟩, rfl⟩


theorem RdS.get9 {Ls : List (List Int)} {k : Nat} (h : k < Ls.length) : ∃ L, Ls[k]? = some L := ⟨_, List.getElem?_eq_getElem h⟩
set_option maxHeartbeats 2000000 in
theorem toIntSS_any (v : Value) (Ls : List (List Int)) (w : World) (hs : SlS w v Ls) (hn : Ls.length ≤ 1048576) (hl : lenS Ls ≤ 1048576) :
    Calls Try.prog 6 #[v] w fun e w' => ∃ v' vs, e = .returned v' ∧ SSr 3 24 w.heap.size w' v' vs Ls ∧ Below w.heap.size w w' := by
  obtain ⟨a, cap, rfl, hr⟩ := hs
  have HR := hid hr
  obtain ⟨n, hnn⟩ : ∃ n, n = Ls.length := ⟨_, rfl⟩
  rw [← hnn] at hn ⊢
  have Hn := hid hnn
  have hmk := run_make_ss n (by omega)
  have HL := hid hl
  clear hr hnn hl
  go_enter Try.func6, Try.ntmps6
  go_wp2_with fail
  go_loopw [4] (fun i wr => ∃ (k : Nat) (vs : List Value), k ≤ n ∧ i = .int .i64 k ∧ PhS 24 (fun w' u xs => Res 3 (w.heap.size + 1) w' u xs) w.heap.size wr vs (upS Ls k) ∧ Below w.heap.size w wr)
    (fun i _ => n - (intOf i).toNat)
  case atStart => exact ⟨0, _, by omega, rfl, ph_start _ w n (upS Ls 0) (by rw [upS_len _ _ (by omega)]; exact Hn.out.symm) (fun i xs hx => by rw [upS_zero] at hx; rw [List.eq_of_mem_replicate (List.mem_of_getElem? hx)]; exact .nil _ _ _), bel_alloc _ _⟩
  case round =>
    obtain ⟨k, vs, hk, rfl, hp, hb⟩ := hrel
    have hsz : w.heap.size ≤ wr.heap.size := hb.size
    by_cases hlk : k < n
    · obtain ⟨L, hkL⟩ := RdS.get9 (Ls := Ls) (k := k) (by rw [← Hn.out]; exact hlk)
      obtain ⟨b, off, u, hix, hbb, hce, hsl⟩ := (HR.out.kept hb).at (P := Try.prog) (T := 22) n cap uslice9 sone9 hkL hlk
      have hll : L.length ≤ 2000000 := by have := lenS_one hkL; have := HL.out; omega
      have hix2 := ixO w.heap.size n k hlk
      obtain ⟨u0, hu0⟩ := hp.get (i := k) (by rw [upS_len _ _ (by rw [← Hn.out]; exact hk), ← Hn.out]; exact hlk)
      have HkL := hid hkL
      have Hp := hid hp
      have Hsl := hid hsl
      have Hu0 := hid hu0
      obtain ⟨ua, uc, rfl, _⟩ := RdS.len9 hsl
      clear hkL hsl hp hu0
      go_wp2_with fail
      refine (toIntS_any _ L _ Hsl.out hll).mono ?_
      rintro e w2 ⟨g2, hg2, rfl, K2, hb2⟩
      have R2 := K2.res hg2
      have hgw : w2.heap[w.heap.size]? = wr.heap[w.heap.size]? := hb2.block _ Hp.out.glt
      have hcd : w2.cell? ⟨w.heap.size, k, none⟩ = some u0 := (World.cell?_of_block hgw).trans (Hp.out.cell Hu0.out)
      have hfd : w2.frozen? ⟨w.heap.size, k, none⟩ = false := (World.frozen?_of_block hgw).trans (Hp.out.free k)
      have Hgw := hid hgw
      have HB2 := hid (hb.trans (hb2.mono hsz))
      have HR2 := hid R2
      have Hb2 := hid hb2
      clear hgw R2 hb2
      go_wp2
      go_roundw
      case rel =>
        have hglt := Hp.out.glt
        refine ⟨k + 1, vs.set k (.slice (some ⟨g2, 0, none⟩) L.length L.length), by omega, by go_num, ?_, HB2.out.setCell (by exact Nat.le_refl _) _⟩
        rw [← upS_step HkL.out]
        refine Hp.out.store Hgw.out (fun j u xs hne hj hx => (Hp.out.each j u xs hj hx).kept Hb2.out) (HR2.out.mono (by omega)) (fun j u hne hj q hq e => ?_) (fun u xs hR => res_set8 hR (by omega))
        have hx := RdS.get9 (Ls := upS Ls k) (k := j) (by rw [← Hp.out.len]; exact (List.getElem?_eq_some_iff.1 hj).1)
        obtain ⟨xs, hx⟩ := hx
        have h1 := (Hp.out.each j u xs hj hx).lt e
        have h2 := HR2.out.ge hq
        omega
      case measure => simp [intOf]; omega
    · have hge : (n : Int) ≤ (k : Int) := by omega
      have hkn : k = Ls.length := by rw [← Hn.out]; omega
      have Hk := hid hkn
      have Hp := hid hp
      clear hkn hlk hp
      go_wp2
      go_ret
      have hp := Hp.out
      rw [Hk.out, upS_full] at hp
      have hss := hp.ss (Nat.lt_succ_self _)
      rw [show vs.length = n from by rw [hp.len]; exact Hn.out.symm] at hss
      exact ⟨_, vs, rfl, hss, hb⟩

end Go.Proofs.Ytiibkkndjalodaa
