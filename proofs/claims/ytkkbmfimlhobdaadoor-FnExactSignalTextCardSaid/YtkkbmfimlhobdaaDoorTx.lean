
import Derived.Test.YtkkbmfimlhobdaaDoorWg
import Derived.Test.YtkkbmfimlhobdaaDoorTa
namespace Go.Proofs.YtkkbmfimlhobdaaDoor
open Go.RowKit BitX Go.MemX
set_option linter.unusedVariables false
/-- the texts of the first k samples, with commas between -/
def accL (xs : List Int) (k : Nat) : List UInt8 := Lib.join ((xs.take k).map Lib.itoa) [44]
def accS (xs : List Int) (k : Nat) : ByteArray := ⟨(accL xs k).toArray⟩
/-- a signal's text -/
def txtL (xs : List Int) : List UInt8 := if xs = [] then [45] else accL xs xs.length
def txtS (xs : List Int) : ByteArray := ⟨(txtL xs).toArray⟩
theorem accL_one (xs : List Int) (x : Int) (h : xs[0]? = some x) : accL xs 1 = Lib.itoa x := by
  unfold accL
  cases xs with
  | nil => simp at h
  | cons y r => simp at h; subst h; simp [Lib.join_one]
theorem accL_step (xs : List Int) (k : Nat) (x : Int) (hk : 0 < k) (h : xs[k]? = some x) : accL xs (k + 1) = accL xs k ++ [44] ++ Lib.itoa x := by
  unfold accL
  cases xs with
  | nil => simp at h
  | cons y r =>
    obtain ⟨j, rfl⟩ : ∃ j, k = j + 1 := ⟨k - 1, by omega⟩
    simp only [List.getElem?_cons_succ] at h
    simp only [List.take_succ_cons, List.map_cons, Lib.join_cons]
    rw [List.map_take, List.map_take, Lib.joinTail_take_succ [44] (r.map Lib.itoa) j (Lib.itoa x) (by simp [h])]
    simp [List.append_assoc]
theorem accL_len (xs : List Int) (hx : InP (-100000) 100000 xs) : ∀ k, k ≤ xs.length → (accL xs k).length ≤ 8 * k
  | 0, _ => by simp [accL, Lib.join_nil]
  | k + 1, hk => by
    obtain ⟨x, hkx⟩ := get_lt xs k (by omega)
    have hx2 := hx.at hkx
    have hi := itoa_len x hx2.1 hx2.2
    have ih := accL_len xs hx k (by omega)
    by_cases h0 : k = 0
    · subst h0; rw [accL_one xs x hkx]; omega
    · rw [accL_step xs k x (by omega) hkx, List.length_append, List.length_append]
      simp; omega
theorem accS_size (xs : List Int) (hx : InP (-100000) 100000 xs) (hl : xs.length ≤ 64) (k : Nat) (hk : k ≤ xs.length) : ((accS xs k).size : Int) ≤ 512 := by
  have := accL_len xs hx k hk
  show ((accL xs k).toArray.size : Int) ≤ 512
  simp; omega


set_option maxHeartbeats 1000000 in
theorem wdText_any (v : Value) (xs : List Int) (w : World) (hs : Sl w v xs) (hp : SigP xs) :
    Calls Tryd.prog 9 #[v] w fun e w' => e = .returned (.string (txtS xs)) ∧ Below w.heap.size w w' := by
  obtain ⟨a, n, cap, rfl, hn, hrd⟩ := hs.rd
  have Hn := hid hn
  have Hrd := hid hrd
  have Hp := hid hp
  have hl' : n ≤ 64 := by rw [hn]; exact hp.1
  by_cases h0 : n = 0
  · subst h0
    have he : xs = [] := List.eq_nil_of_length_eq_zero hn.symm
    have hfin : (⟨#[45]⟩ : ByteArray) = txtS xs := by rw [he]; rfl
    have Hfin := hid hfin
    clear hn hrd hs hp he hfin
    go_enter Tryd.func9, Tryd.ntmps9
    go_wp2_with fail
    go_ret
    exact ⟨by rw [← Hfin.out]; rfl, Below.refl _ _⟩
  · have hfin : accS xs n = txtS xs := by
      unfold txtS txtL accS
      rw [if_neg (by intro e; rw [e] at hn; exact h0 hn), hn]
    have Hfin := hid hfin
    have n1 : 1 ≤ n := by omega
    have hne : ((n : Int) == 0) = false := by rw [beq_eq_false_iff_ne]; omega
    have hz : accS xs 0 = ⟨#[]⟩ := rfl
    have Hz := hid hz
    clear hn hrd hs hp hfin h0 hz
    go_enter Tryd.func9, Tryd.ntmps9
    go_wp2_with fail
    go_loopw [3, 11] (fun s i wr => ∃ k : Nat, k ≤ n ∧ i = .int .i64 k ∧ s = .string (accS xs k) ∧ Below w.heap.size w wr)
      (fun _ i _ => n - (intOf i).toNat)
    case atStart => exact ⟨0, by omega, rfl, by rw [Hz.out], Below.refl _ _⟩
    case round =>
      obtain ⟨k, hk, rfl, rfl, hb⟩ := hrel
      by_cases hlk : k < n
      · obtain ⟨x, hkx⟩ := get_lt xs k (by rw [← Hn.out]; exact hlk)
        obtain ⟨bb, oo, hix, hbb, hce⟩ := (Hrd.out.kept hb).at (P := Tryd.prog) (T := 22) n cap uslice sone hkx hlk
        obtain ⟨x1, x2⟩ := Hp.out.2.at hkx
        have hsz := accS_size xs Hp.out.2 Hp.out.1 k (by rw [← Hn.out]; exact hk)
        have hsi := itoaS_size x x1 x2
        by_cases hk0 : k = 0
        · have hst : accS xs k ++ itoaS x = accS xs (k + 1) := by subst hk0; unfold accS itoaS; rw [accL_one xs x hkx]; exact cat_str _ _
          have Hst := hid hst
          have hkz : (k : Int) ≤ 0 := by omega
          have Hsz := hid hsz
          have Hsi := hid hsi
          clear hst hkx hsz hsi hk0
          go_wp2_with fail
          refine (wdInt_any x x1 x2 _).mono ?_
          rintro e w2 ⟨rfl, hb2⟩
          have hcat : ∀ W : World, (Op.stringOp .add (accS xs k) (itoaS x)).run Tryd.prog W = .ok (.string (accS xs k ++ itoaS x)) W := fun W => run_string_add W _ _ (by have := Hsz.out; omega) Hsi.out
          go_wp2_with fail
          clear hcat
          go_roundw
          case rel => exact ⟨k + 1, by omega, by go_num, by rw [Hst.out], bel_step hb hb2⟩
          case measure => simp [intOf]; omega
        · have hk1 : 0 < (k : Int) := by omega
          obtain ⟨s1, hs1⟩ : ∃ s1 : ByteArray, accS xs k ++ ⟨#[44]⟩ = s1 := ⟨_, rfl⟩
          have hst : s1 ++ itoaS x = accS xs (k + 1) := by
            rw [← hs1]; unfold accS itoaS; rw [accL_step xs k x (by omega) hkx, show (⟨#[44]⟩ : ByteArray) = ⟨[44].toArray⟩ from rfl, cat_str, cat_str]
          have hs1z : (s1.size : Int) ≤ 8388608 := by
            rw [← hs1, ByteArray.size_append]
            have : (⟨#[44]⟩ : ByteArray).size = 1 := rfl
            omega
          have hcat1 : ∀ W : World, (Op.stringOp .add (accS xs k) ⟨#[44]⟩).run Tryd.prog W = .ok (.string s1) W := fun W => by
            rw [run_string_add W _ _ (by omega) (by show ((1 : Nat) : Int) ≤ 8388608; omega), hs1]
          have hcat2 : ∀ W : World, (Op.stringOp .add s1 (itoaS x)).run Tryd.prog W = .ok (.string (s1 ++ itoaS x)) W := fun W => run_string_add W _ _ hs1z hsi
          have Hst := hid hst
          have Hcat2 := hid hcat2
          clear hst hkx hsz hsi hcat2 hs1z hs1
          go_wp2_with fail
          refine (wdInt_any x x1 x2 _).mono ?_
          rintro e w2 ⟨rfl, hb2⟩
          have hcat := Hcat2.out
          go_wp2_with fail
          clear hcat
          go_roundw
          case rel => exact ⟨k + 1, by omega, by go_num, by rw [Hst.out], bel_step hb hb2⟩
          case measure => simp [intOf]; omega
      · have hge : (n : Int) ≤ (k : Int) := by omega
        have hkn : k = n := by omega
        have Hk := hid hkn
        clear hlk hkn
        go_wp2_with fail
        go_ret
        exact ⟨by rw [← Hfin.out, ← Hk.out]; rfl, hb⟩

end Go.Proofs.YtkkbmfimlhobdaaDoor
