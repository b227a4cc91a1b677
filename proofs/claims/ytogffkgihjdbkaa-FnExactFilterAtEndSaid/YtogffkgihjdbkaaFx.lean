
import Derived.Test.YtogffkgihjdbkaaFw
namespace Go.Proofs.Ytogffkgihjdbkaa
open Go.RowKit BitX Go.MemX
set_option linter.unusedVariables false


set_option maxHeartbeats 4000000 in
theorem weInWord_good (u v : Value) (h s : List Int) (k mode : Int) (wr : Bool) (n : Nat) (q : Bool) (n1 : 2 ≤ n) (n2 : n ≤ 16) (hl : h.length ≤ 2000000) (hls : s.length ≤ 2000000) (h2 : (wgtB h && sigB s) = true) (h3 : (shB k && moB mode) = true) (h4 : inB n h = true) (h5 : inB n s = q) (w : World) (hu : Sl w u h) (hv : Sl w v s) :
    Calls Try.prog 30 #[.agg #[.int .i64 (n : Int), .bool wr], u, v, .int .i64 k, .int .i64 mode] w fun e w' => e = .returned (.bool q) ∧ Below w.heap.size w w' := by
  obtain ⟨L, hL⟩ : ∃ L, -(2 : Int) ^ (n - 1) = L := ⟨_, rfl⟩
  obtain ⟨H, hH⟩ : ∃ H, (2 : Int) ^ (n - 1) - 1 = H := ⟨_, rfl⟩
  have hi : decide (InP L H h) = true := by rw [← hL, ← hH]; exact h4
  have hj : decide (InP L H s) = q := by rw [← hL, ← hH]; exact h5
  have HL := hid hL
  have HH := hid hH
  have Hi := hid hi
  have Hj := hid hj
  have H2 := hid h2
  have H3 := hid h3
  have HU := hid hu
  have HV := hid hv
  clear hL hH hi hj h4 h5 h2 h3 hu hv
  go_enter Try.func30, Try.ntmps30
  go_wp2_with fail
  go_region_with (first | (go_at_call 42; refine (wdGood_yes _ _ _ (by omega) (by omega)).mono ?_; rintro e w1 ⟨rfl, hb⟩; have B1 := bel_undrew hb; obtain ⟨c0, c1⟩ := box2_cells B1) | (go_at_call 20; refine (weAsked_isb _ _ h s _ _ (HU.out.kept (bel_step (bel_alloc _ _) B1)) (HV.out.kept (bel_step (bel_alloc _ _) B1)) H2.out).mono ?_; rintro e w' ⟨rfl, rfl⟩) | (go_at_call 43; refine (wdMode_isb _ _ _ _ H3.out).mono ?_; rintro e w' ⟨rfl, rfl⟩) | (go_at_call 45; refine (wdLow_is n wr L _ n1 n2 HL.out).mono ?_; rintro e w2 ⟨rfl, hb⟩; have B1 := bel_step B1 hb; obtain ⟨c0, c1⟩ := box2_cells B1) | (go_at_call 46; refine (wdHigh_is n wr H _ n1 n2 HH.out).mono ?_; rintro e w3 ⟨rfl, hb⟩; have B1 := bel_step B1 hb; obtain ⟨c0, c1⟩ := box2_cells B1) | (go_at_call_of 44 u; refine (l1All_is u h L H _ _ (HU.out.kept (bel_step (bel_alloc _ _) B1)) hl Hi.out).mono ?_; rintro e w' ⟨rfl, rfl⟩) | (go_at_call_of 44 v; refine (l1All_is v s L H _ _ (HV.out.kept (bel_step (bel_alloc _ _) B1)) hls Hj.out).mono ?_; rintro e w' ⟨rfl, rfl⟩))
  all_goals go_wp2
  all_goals go_ret
  all_goals exact ⟨ret_b (by simp), bel_step (bel_alloc _ _) B1⟩

theorem weInWord_is (u v : Value) (h s : List Int) (b k mode : Int) (wr : Bool) (w : World) (hu : Sl w u h) (hv : Sl w v s) (hl : h.length ≤ 2000000) (hls : s.length ≤ 2000000) :
    Calls Try.prog 30 #[.agg #[.int .i64 b, .bool wr], u, v, .int .i64 k, .int .i64 mode] w fun e w' => e = .returned (.bool (fiB b h s k mode)) ∧ Below w.heap.size w w' := by
  unfold fiB
  cases h1 : wordB b
  · exact weInWord_bad1 u v h s k mode wr b h1 w hu hv
  · obtain ⟨n, rfl, n1, n2⟩ := big_in h1
    cases h2 : (wgtB h && sigB s)
    · exact weInWord_bad2 u v h s k mode wr n n1 n2 h2 w hu hv
    · cases h3 : (shB k && moB mode)
      · exact weInWord_bad3 u v h s k mode wr n n1 n2 h2 h3 w hu hv
      · cases h4 : inB n h
        · exact weInWord_bad4 u v h s k mode wr n n1 n2 hl h2 h3 h4 w hu hv
        · exact weInWord_good u v h s k mode wr n _ n1 n2 hl hls h2 h3 h4 rfl w hu hv


theorem inB_mid {n : Nat} {x : Int} {xs : List Int} (h : inB n xs = true) {k : Nat} (hk : xs[k]? = some x) : decide (-(2 : Int) ^ (n - 1) ≤ x ∧ x ≤ 2 ^ (n - 1) - 1) = true := by
  have := (of_decide_eq_true h : InP _ _ xs)
  exact decide_eq_true (this.at hk)
theorem inB_of {n : Nat} {xs : List Int} (h : ∀ (k : Nat) (x : Int), xs[k]? = some x → decide (-(2 : Int) ^ (n - 1) ≤ x ∧ x ≤ 2 ^ (n - 1) - 1) = true) : inB n xs = true := by
  refine decide_eq_true fun x hx => ?_
  obtain ⟨k, hk⟩ := List.mem_iff_getElem?.1 hx
  exact of_decide_eq_true (h k x hk)
theorem inB_no {n : Nat} {x : Int} {xs : List Int} {k : Nat} (hk : xs[k]? = some x) (h : decide (-(2 : Int) ^ (n - 1) ≤ x ∧ x ≤ 2 ^ (n - 1) - 1) = false) : inB n xs = false := by
  refine decide_eq_false fun a => ?_
  exact of_decide_eq_false h (a.at hk)

theorem isIn_is (b : Nat) (x : Int) (wr : Bool) (q : Bool) (w : World) (h1 : 1 ≤ b) (h2 : b ≤ 16) (x1 : -100000 ≤ x) (x2 : x ≤ 100000) (h : decide (-(2 : Int) ^ (b - 1) ≤ x ∧ x ≤ 2 ^ (b - 1) - 1) = q) :
    Calls Try.prog 59 #[.agg #[.int .i64 (b : Int), .bool wr], .int .i64 x] w fun e w' => e = .returned (.bool q) ∧ Below w.heap.size w w' := by
  refine (isIn_any b wr x w h1 (by omega)).mono fun e w' ⟨he, hb⟩ => ⟨?_, hb⟩
  rw [he, cutV_id b x h1 (by omega) (by omega) (by omega), h]


set_option maxHeartbeats 1000000 in
theorem areIn_is (u : Value) (xs : List Int) (n : Nat) (wd : Bool) (w : World) (hs : Sl w u xs) (n1 : 1 ≤ n) (n2 : n ≤ 16) (hl : xs.length ≤ 2000000) (hi : InP (-100000) 100000 xs) :
    Calls Try.prog 50 #[.agg #[.int .i64 (n : Int), .bool wd], u] w fun e w' => e = .returned (.bool (inB n xs)) ∧ Below w.heap.size w w' := by
  obtain ⟨a, m, cap, rfl, hn, hrd⟩ := hs.rd
  have Hn := hid hn
  have Hrd := hid hrd
  have hl' : m ≤ 2000000 := by omega
  have Hi := hid hi
  clear hn hrd hs hl hi
  go_enter Try.func50, Try.ntmps50
  have B0 := bel_alloc w (.cells #[.int .i64 (n : Int), .bool wd] 31)
  go_wp2_with fail
  go_loopw [9] (fun i wq => ∃ k : Nat, k ≤ m ∧ i = .int .i64 k ∧ Hid (∀ j x, j < k → xs[j]? = some x → decide (-(2 : Int) ^ (n - 1) ≤ x ∧ x ≤ 2 ^ (n - 1) - 1) = true) ∧ Below (w.alloc (.cells #[.int .i64 (n : Int), .bool wd] 31)).heap.size (w.alloc (.cells #[.int .i64 (n : Int), .bool wd] 31)) wq)
    (fun i _ => m - (intOf i).toNat)
  case atStart => exact ⟨0, by omega, rfl, fun j x h _ => by omega, Below.refl _ _⟩
  case round =>
    obtain ⟨k, hk, rfl, hall, hb⟩ := hrel
    by_cases hlk : k < m
    · obtain ⟨x, hkx⟩ := get_lt xs k (by rw [← Hn.out]; exact hlk)
      obtain ⟨bb, oo, hix, hbb, hce⟩ := (Hrd.out.kept (bel_step B0 hb)).at (P := Try.prog) (T := 22) m cap uslice sone hkx hlk
      obtain ⟨hcA, hcB⟩ := box2_cells hb
      obtain ⟨x1, x2⟩ := Hi.out.at hkx
      cases hd : decide (-(2 : Int) ^ (n - 1) ≤ x ∧ x ≤ 2 ^ (n - 1) - 1)
      · have Hno := hid (inB_no hkx hd)
        have Hd := hid hd
        clear hd hkx hall
        go_wp2_with fail
        refine (isIn_is n x wd _ _ n1 n2 x1 x2 Hd.out).mono ?_
        rintro e w2 ⟨rfl, hb2⟩
        have hb3 := bel_step (bel_step B0 hb) hb2
        go_wp2_with fail
        go_ret
        exact ⟨ret_b Hno.out.symm, hb3⟩
      · have hst : ∀ j y, j < k + 1 → xs[j]? = some y → decide (-(2 : Int) ^ (n - 1) ≤ y ∧ y ≤ 2 ^ (n - 1) - 1) = true := by
          intro j y hj hy
          by_cases hjk : j = k
          · subst hjk; rw [hkx] at hy; cases hy; exact hd
          · exact hall.out j y (by omega) hy
        have Hst := hid hst
        have Hd := hid hd
        clear hd hkx hall hst
        go_wp2_with fail
        refine (isIn_is n x wd _ _ n1 n2 x1 x2 Hd.out).mono ?_
        rintro e w2 ⟨rfl, hb2⟩
        have hb3 := bel_step hb hb2
        go_wp2_with fail
        go_roundw
        case rel => exact ⟨k + 1, by omega, by go_num, Hst, hb3⟩
        case measure => simp [intOf]; omega
    · have hge : (m : Int) ≤ (k : Int) := by omega
      have hyes : inB n xs = true := inB_of fun j x hx => hall.out j x (by
        have h1 : j < xs.length := (List.getElem?_eq_some_iff.1 hx).1
        have := Hn.out; omega) hx
      have Hyes := hid hyes
      clear hlk hall hyes
      go_wp2
      go_ret
      exact ⟨ret_b Hyes.out.symm, bel_step B0 hb⟩

end Go.Proofs.Ytogffkgihjdbkaa
