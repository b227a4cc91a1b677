
import Derived.Test.YtkkbmfimlhobdaaDoorRd
import Derived.Test.YtkkbmfimlhobdaaDoorSg
import Derived.Lib.ItoaNum
import Derived.Lib.Join
import Derived.Laws.IdiomStrings
import Derived.Laws.Concat
import Derived.Deep.RegionWith
namespace Go.Proofs.YtkkbmfimlhobdaaDoor
open Go.RowKit BitX Go.MemX
set_option linter.unusedVariables false


theorem digits_small (n : Nat) (h : n < 10) : Lib.decDigits n = [UInt8.ofNat (48 + n)] := by rw [Lib.decDigits, dif_pos h]
theorem digits_more (n : Nat) (h : 10 ≤ n) : Lib.decDigits n = Lib.decDigits (n / 10) ++ [UInt8.ofNat (48 + n % 10)] := by rw [Lib.decDigits, dif_neg (by omega)]
theorem digits_len : ∀ (k n : Nat), 1 ≤ k → n < 10 ^ k → (Lib.decDigits n).length ≤ k
  | 0, _, h, _ => by omega
  | 1, n, _, h => by rw [digits_small n (by simpa using h)]; simp
  | k + 2, n, _, h => by
    by_cases hn : n < 10
    · rw [digits_small n hn]; simp
    · rw [digits_more n (by omega), List.length_append]
      have := digits_len (k + 1) (n / 10) (by omega) (by rw [Nat.div_lt_iff_lt_mul (by decide), ← Nat.pow_succ]; exact h)
      simp; omega
theorem conv1 (W : World) (g : Nat) (c : UInt8) (e : Int) (he : (c.toNat : Int) = e) (h : W.cell? ⟨g, 0, none⟩ = some (.int .u8 e)) :
    (convert 36 9 (.slice (some ⟨g, 0, none⟩) 1 1)).run Tryd.prog W = .ok (.string ⟨#[c]⟩) W := by
  have := run_convert_bytes_back (P := Tryd.prog) W 36 9 5 ⟨g, 0, none⟩ 1 [c] (by kernel_rfl) (by kernel_rfl) (by kernel_rfl) (fun j hj => by
    have : j = 0 := by simpa using hj
    subst this
    rw [show ((⟨g, 0, none⟩ : Addr).add 0) = ⟨g, 0, none⟩ from rfl, h, ← he]; rfl)
  exact this
theorem digit_nat (n : Nat) (h : n < 10) : ((UInt8.ofNat (48 + n)).toNat : Int) = 48 + (n : Int) := by
  have : (UInt8.ofNat (48 + n)).toNat = 48 + n := by simp [UInt8.toNat_ofNat]; omega
  rw [this]; omega
theorem bel_ud {X w : World} (h : Below X.drew.heap.size X.drew w) : Below X.heap.size X w := (Below.refl _ X).drew.trans h
theorem cat_str (l m : List UInt8) : (⟨l.toArray⟩ : ByteArray) ++ ⟨m.toArray⟩ = ⟨(l ++ m).toArray⟩ := by
  apply ByteArray.ext; simp

set_option maxHeartbeats 1000000 in
theorem l1Num_small (x : Int) (h1 : 0 ≤ x) (h2 : x < 10) (w : World) :
    Calls Tryd.prog 18 #[.int .i64 x] w fun e w' => e = .returned (.string ⟨(Lib.decDigits x.toNat).toArray⟩) ∧ Below w.heap.size w w' := by
  have Hd := hid (digits_small x.toNat (by omega))
  obtain ⟨c, hc⟩ : ∃ c, UInt8.ofNat (48 + x.toNat) = c := ⟨_, rfl⟩
  have hcx : (c.toNat : Int) = 48 + x := by rw [← hc, digit_nat x.toNat (by omega)]; omega
  have Hc := hid hc
  have hcv := conv1 (w.alloc (.cells #[.int .u8 (48 + x)] 5)) w.heap.size c (48 + x) hcx (by rw [World.cell?_alloc_at _ _ _ _ rfl]; rfl)
  clear hc hcx
  go_enter Tryd.func18, Tryd.ntmps18
  go_wp2
  go_ret
  exact ⟨by rw [Hd.out, Hc.out]; rfl, bel_alloc _ _⟩

theorem conv2 (W : World) (g : Nat) (c : UInt8) (e : Int) (sc : ByteArray) (hsc : sc = ⟨#[c]⟩) (he : (c.toNat : Int) = e) (h : W.cell? ⟨g, 0, none⟩ = some (.int .u8 e)) :
    (convert 36 9 (.slice (some ⟨g, 0, none⟩) 1 1)).run Tryd.prog W = .ok (.string sc) W := by subst hsc; exact conv1 W g c e he h
set_option maxHeartbeats 1000000 in
theorem l1Num_step (x q d : Int) (sa : ByteArray) (hx : 10 ≤ x) (hx2 : x ≤ 1000000000000) (hq : x / 10 = q) (hd : x % 10 = d) (hsa : sa = ⟨(Lib.decDigits q.toNat).toArray⟩) (ih : ∀ w : World, Calls Tryd.prog 18 #[.int .i64 q] w fun e w' => e = .returned (.string sa) ∧ Below w.heap.size w w') (hl : sa.size ≤ 20) (w : World) :
    Calls Tryd.prog 18 #[.int .i64 x] w fun e w' => e = .returned (.string ⟨(Lib.decDigits x.toNat).toArray⟩) ∧ Below w.heap.size w w' := by
  have hm := digits_more x.toNat (by omega)
  rw [show x.toNat / 10 = q.toNat from by omega, show x.toNat % 10 = d.toNat from by omega] at hm
  obtain ⟨c, hc⟩ : ∃ c, UInt8.ofNat (48 + d.toNat) = c := ⟨_, rfl⟩
  have hcx : (c.toNat : Int) = 48 + d := by rw [← hc, digit_nat d.toNat (by omega)]; omega
  rw [hc] at hm
  obtain ⟨sc, hsc⟩ : ∃ sc : ByteArray, sc = ⟨#[c]⟩ := ⟨_, rfl⟩
  have hfin : sa ++ sc = ⟨(Lib.decDigits x.toNat).toArray⟩ := by rw [hm, hsa, hsc]; exact cat_str _ [c]
  have hc1 : (sc.size : Int) ≤ 8388608 := by rw [hsc]; show ((1 : Nat) : Int) ≤ 8388608; omega
  have hc2 : (sa.size : Int) ≤ 8388608 := by omega
  have Hfin := hid hfin
  have Ih := hid ih
  have Hcx := hid hcx
  have Hsc := hid hsc
  have hq1 : x.tdiv 10 = q := by rw [Int.tdiv_eq_ediv_of_nonneg (by omega)]; exact hq
  have hd1 : x.tmod 10 = d := by rw [Int.tmod_eq_emod_of_nonneg (by omega)]; exact hd
  have d1 : 0 ≤ d := by omega
  have d2 : d ≤ 9 := by omega
  have q1 : 0 ≤ q := by omega
  have q2 : q ≤ 1000000000000 := by omega
  clear hm ih hcx hc hl hsa hsc hfin
  go_enter Tryd.func18, Tryd.ntmps18
  go_wp2_with fail
  have hwq : IntKind.i64.wrap q = q := IntWalk.i64_in _ (by omega)
  have hw64 : IntKind.i64.wrap (48 + d) = 48 + d := IntWalk.i64_in _ (by omega)
  have hw8 : IntKind.u8.wrap (48 + d) = 48 + d := IntWalk.u8_in _ ⟨by omega, by omega⟩
  have hcat : ∀ W : World, (Op.stringOp .add sa sc).run Tryd.prog W = .ok (.string (sa ++ sc)) W := fun W => run_string_add W sa sc hc2 hc1
  have hcv := conv2 ((w.alloc (.cells #[.int .u8 (48 + d)] 5)).drew) w.heap.size c (48 + d) sc Hsc.out Hcx.out (by rw [World.cell?_drew, World.cell?_alloc_at _ _ _ _ rfl]; rfl)
  go_region_with (go_at_call 18; refine (Ih.out _).mono ?_; rintro e w2 ⟨rfl, hb2⟩; have hcn := conv2 (w2.alloc (.cells #[.int .u8 (48 + d)] 5)) w2.heap.size c (48 + d) sc Hsc.out Hcx.out (by rw [World.cell?_alloc_at _ _ _ _ rfl]; rfl); (try have hcb := conv2 w2 w.heap.size c (48 + d) sc Hsc.out Hcx.out (by rw [hb2.cell (by simp), World.cell?_drew, World.cell?_alloc_at _ _ _ _ rfl]; rfl)))
  all_goals (clear hcv; try clear hcn; try clear hcb)
  all_goals go_wp2
  all_goals go_ret
  all_goals first | exact ⟨by rw [← Hfin.out]; rfl, bel_step (bel_ud hb2) (bel_alloc _ _)⟩ | exact ⟨by rw [← Hfin.out]; rfl, bel_step (bel_alloc _ _) (bel_ud hb2)⟩

theorem l1Num_any : ∀ (n : Nat), n ≤ 1000000000000 → ∀ w : World,
    Calls Tryd.prog 18 #[.int .i64 (n : Int)] w fun e w' => e = .returned (.string ⟨(Lib.decDigits n).toArray⟩) ∧ Below w.heap.size w w' := by
  intro n
  induction n using Nat.strongRecOn with
  | ind n ih =>
    intro hn w
    by_cases h : n < 10
    · have := l1Num_small (n : Int) (by omega) (by omega) w
      simpa using this
    · have h13 : (Lib.decDigits (n / 10)).length ≤ 13 := digits_len 13 (n / 10) (by omega) (by omega)
      have := l1Num_step (n : Int) ((n / 10 : Nat) : Int) ((n % 10 : Nat) : Int) ⟨(Lib.decDigits (n / 10)).toArray⟩ (by omega) (by omega) (by omega) (by omega) (by rw [Int.toNat_natCast]) (fun w => ih (n / 10) (by omega) (by omega) w) (by show (Lib.decDigits (n / 10)).toArray.size ≤ 20; simp; omega) w
      simpa using this
theorem itoa_len (x : Int) (h1 : -100000 ≤ x) (h2 : x ≤ 100000) : (Lib.itoa x).length ≤ 7 := by
  unfold Lib.itoa
  split
  · have := digits_len 6 x.natAbs (by omega) (by omega)
    simp; omega
  · have := digits_len 6 x.toNat (by omega) (by omega)
    omega
def itoaS (x : Int) : ByteArray := ⟨(Lib.itoa x).toArray⟩
theorem itoaS_size (x : Int) (h1 : -100000 ≤ x) (h2 : x ≤ 100000) : ((itoaS x).size : Int) ≤ 8388608 := by
  have := itoa_len x h1 h2
  show ((Lib.itoa x).toArray.size : Int) ≤ 8388608
  simp; omega

set_option maxHeartbeats 1000000 in
theorem wdInt_any (x : Int) (h1 : -100000 ≤ x) (h2 : x ≤ 100000) (w : World) :
    Calls Tryd.prog 13 #[.int .i64 x] w fun e w' => e = .returned (.string (itoaS x)) ∧ Below w.heap.size w w' := by
  by_cases h : x < 0
  · obtain ⟨y, hy⟩ : ∃ y : Int, -x = y := ⟨_, rfl⟩
    have hc := l1Num_any y.toNat (by omega)
    rw [show ((y.toNat : Nat) : Int) = y from by omega] at hc
    obtain ⟨sa, hsa⟩ : ∃ sa : ByteArray, sa = ⟨(Lib.decDigits y.toNat).toArray⟩ := ⟨_, rfl⟩
    rw [← hsa] at hc
    have h6 := digits_len 6 y.toNat (by omega) (by omega)
    have hs2 : (sa.size : Int) ≤ 8388608 := by rw [hsa]; show ((Lib.decDigits y.toNat).toArray.size : Int) ≤ 8388608; simp; omega
    have hfin : (⟨#[45]⟩ : ByteArray) ++ sa = itoaS x := by
      rw [hsa]; unfold itoaS Lib.itoa; rw [if_pos h, show x.natAbs = y.toNat from by omega]
      exact cat_str [45] _
    have Hfin := hid hfin
    have Hc := hid hc
    have hw : IntKind.i64.wrap (-x) = y := by rw [hy]; exact IntWalk.i64_in _ (by omega)
    clear hfin hc hsa h6
    go_enter Tryd.func13, Tryd.ntmps13
    go_wp2_with fail
    refine (Hc.out _).mono ?_
    rintro e w2 ⟨rfl, hb2⟩
    have hcat : ∀ W : World, (Op.stringOp .add ⟨#[45]⟩ sa).run Tryd.prog W = .ok (.string (⟨#[45]⟩ ++ sa)) W := fun W => run_string_add W _ sa (by show ((1 : Nat) : Int) ≤ 8388608; omega) hs2
    go_wp2_with fail
    go_ret
    exact ⟨by rw [← Hfin.out]; rfl, hb2⟩
  · have hc := l1Num_any x.toNat (by omega)
    rw [show ((x.toNat : Nat) : Int) = x from by omega] at hc
    have Hc := hid hc
    have hfin : itoaS x = ⟨(Lib.decDigits x.toNat).toArray⟩ := by unfold itoaS Lib.itoa; rw [if_neg h]
    rw [hfin]
    have h0 : 0 ≤ x := by omega
    clear hc hfin h
    go_enter Tryd.func13, Tryd.ntmps13
    go_wp2_with fail
    refine (Hc.out _).mono ?_
    rintro e w2 ⟨rfl, hb2⟩
    go_wp2_with fail
    go_ret
    exact ⟨rfl, hb2⟩
end Go.Proofs.YtkkbmfimlhobdaaDoor
