
import Derived.Test.YtmbaemdbbajliaaOp
namespace Go.Proofs.Ytmbaemdbbajliaa
open Go.RowKit BitX Go.MemX Go.ShX
set_option linter.unusedVariables false


theorem _root_.Go.RowKit.Below.cells2q {w W : World} {g : Nat} {a0 a1 : Value} (hb : Below w.heap.size w W) (h : w.cell? ⟨g, 0, none⟩ = some a0 ∧ w.cell? ⟨g, 1, none⟩ = some a1) :
    W.cell? ⟨g, 0, none⟩ = some a0 ∧ W.cell? ⟨g, 1, none⟩ = some a1 :=
  ⟨by rw [hb.cell (by exact block_lt_of_cell h.1)]; exact h.1, by rw [hb.cell (by exact block_lt_of_cell h.2)]; exact h.2⟩
theorem _root_.Go.RowKit.Below.cell1q {w W : World} {g : Nat} {a0 : Value} (hb : Below w.heap.size w W) (h : w.cell? ⟨g, 0, none⟩ = some a0) : W.cell? ⟨g, 0, none⟩ = some a0 := by
  rw [hb.cell (by exact block_lt_of_cell h)]; exact h
/-- the numbers from lo on, so many looked at, that are told by F -/
def whU (lo : Int) (F : Int → Bool) : Nat → List Int
  | 0 => []
  | c + 1 => onB (F (lo + c)) (whU lo F c ++ [lo + c]) (whU lo F c)
theorem whU_t {lo : Int} {F : Int → Bool} {c : Nat} (h : F (lo + c) = true) : whU lo F (c + 1) = whU lo F c ++ [lo + c] := by
  show onB (F (lo + c)) (whU lo F c ++ [lo + c]) (whU lo F c) = _; rw [h]; rfl
theorem whU_f {lo : Int} {F : Int → Bool} {c : Nat} (h : F (lo + c) = false) : whU lo F (c + 1) = whU lo F c := by
  show onB (F (lo + c)) (whU lo F c ++ [lo + c]) (whU lo F c) = _; rw [h]; rfl
theorem whU_len (lo : Int) (F : Int → Bool) (c : Nat) : (whU lo F c).length ≤ c := by
  induction c with
  | zero => simp [whU]
  | succ c ih =>
    cases h : F (lo + c)
    · rw [whU_f h]; omega
    · rw [whU_t h]; simp; omega
theorem pow_two_n (n : Nat) (h1 : 2 ≤ n) (h2 : n ≤ 16) : ∃ M : Nat, M = 2 ^ n ∧ (M : Int) = 2 * 2 ^ (n - 1) ∧ 4 ≤ M ∧ M ≤ 65536 := by
  have hm : ((2 ^ n : Nat) : Int) = 2 * 2 ^ (n - 1) := by
    rw [show n = (n - 1) + 1 from by omega, Nat.pow_succ]; simp; omega
  have hp := pow_small n (by omega) h2
  have hq : (2 : Nat) ^ 2 ≤ 2 ^ n := Nat.pow_le_pow_right (by decide) h1
  exact ⟨2 ^ n, rfl, hm, by omega, by omega⟩
/-- a function value with captured variables that tells of each number what F tells -/
def HoldsAt (P : Program) (g : Nat) (lb : Array Value) (F : Int → Bool) (w : World) : Prop :=
  ∀ (W : World) (y : Int), Below w.heap.size w W → -100000 ≤ y → y ≤ 100000 → Calls P g (#[.int .i64 y] ++ lb) W fun e w' => e = .returned (.bool (F y)) ∧ Below W.heap.size W w'
theorem HoldsAt.later {P : Program} {g : Nat} {lb : Array Value} {F : Int → Bool} {w W : World} (h : HoldsAt P g lb F w) (hb : Below w.heap.size w W) : HoldsAt P g lb F W :=
  fun W' y hb' => h W' y (hb.trans (hb'.mono hb.size))
theorem ret_v {v u : Value} (h : v = u) : Ending.returned v = .returned u := by rw [h]


set_option maxHeartbeats 4000000 in
theorem numbersWhere_any (n : Nat) (wd : Bool) (g : Nat) (lb : Array Value) (eg : ∀ (args : Array Value) (w : World), (callFunc g args).run Try.prog w = .ok (.enter g args) w) (F : Int → Bool) (w : World) (hh : HoldsAt Try.prog g lb F w) (n1 : 2 ≤ n) (n2 : n ≤ 16) :
    Calls Try.prog 39 #[.agg #[.int .i64 (n : Int), .bool wd], .func (.func g) #[] lb] w (GivesL w (whU (-(2 : Int) ^ (n - 1)) F (2 ^ n))) := by
  obtain ⟨M, hM0, hM, hM4, hM6⟩ := pow_two_n n n1 n2
  have hpw := pow_small n (by omega) n2
  obtain ⟨L, hL⟩ : ∃ L, -(2 : Int) ^ (n - 1) = L := ⟨_, rfl⟩
  obtain ⟨H, hH⟩ : ∃ H, (2 : Int) ^ (n - 1) - 1 = H := ⟨_, rfl⟩
  have hLM : H + 1 = L + M := by omega
  have hL1 : -32768 ≤ L := by omega
  have hH2 : H ≤ 32767 := by omega
  have hlo := fun (W : World) => leastOf_any n wd W (by omega) n2
  have hhi := fun (W : World) => greatestOf_any n wd W (by omega) n2
  rw [hL] at hlo
  rw [hH] at hhi
  rw [hL, ← hM0]
  have Hlo := hid hlo
  have Hhi := hid hhi
  have Hh := hid hh
  obtain ⟨i0, hi0, hz0, hz1, hz2⟩ := info_parts iint
  clear hlo hhi hh hM0 hM hpw hL hH
  go_enter Try.func39, Try.ntmps39
  go_wp2_with fail
  refine (Hlo.out _).mono ?_
  rintro e w1 ⟨rfl, hb⟩
  have Hq := hid (box2_cells hb)
  have HB := hid (bel_step (bel_alloc _ _) hb)
  clear hb
  go_wp2_with fail
  go_loopw [5, 6] (fun v yy wr => ∃ c : Nat, c ≤ M ∧ yy = .int .i64 (L + (c : Int)) ∧ wr.ownsRow w1.heap.size 3 1 v (whU L F c).length ((whU L F c).map (Value.int .i64)) ∧ Below w1.heap.size w1 wr)
    (fun _ yy _ => (H + 1 - intOf yy).toNat)
  case atStart => exact ⟨0, by omega, by simp, World.ownsRow_nil _ _ _ _, Below.refl _ _⟩
  case round =>
    obtain ⟨c, hc, rfl, hown, hb⟩ := hrel
    have hsz : w1.heap.size ≤ wr.heap.size := hb.size
    have Hob := hid (ownsRow_base hown)
    obtain ⟨q0, q1⟩ := hb.cells2q Hq.out
    obtain ⟨y, hy⟩ : ∃ y, y = L + (c : Int) := ⟨_, rfl⟩
    have hun := whU_len L F c
    rw [← hy]
    by_cases hlk : c < M
    · have hyH : y ≤ H := by omega
      have hy1 : -32768 ≤ y := by omega
      have hyn : y + 1 = L + ((c + 1 : Nat) : Int) := by omega
      cases hF : F y
      · have hst := whU_f (lo := L) (F := F) (c := c) (by rw [← hy]; exact hF)
        have Hst := hid hst
        have HF := hid hF
        have Hown := hid hown
        have Hyn := hid hyn
        clear hst hown hyn hF hy
        go_wp2_with (first | (go_at_call 57; refine (Hhi.out _).mono ?_; rintro e w3 ⟨rfl, hb3⟩; have hB3 := hb.trans (hb3.mono hsz)) | (go_at_fn g; refine (Hh.out _ y (bel_step HB.out hB3) (by omega) (by omega)).mono ?_; rintro e w4 ⟨rfl, hb4⟩; rw [HF.out]; have hB4 := hB3.trans (hb4.mono hB3.size)))
        go_roundw
        case rel => exact ⟨c + 1, by omega, by rw [Hyn.out], by rw [Hst.out]; exact ownsRow_below (ownsRow_below Hown.out hb3) hb4, hB4⟩
        case measure => simp [intOf]; omega
      · have hst := whU_t (lo := L) (F := F) (c := c) (by rw [← hy]; exact hF)
        rw [← hy] at hst
        have Hst := hid hst
        have HF := hid hF
        have Hown := hid hown
        have Hyn := hid hyn
        clear hst hown hyn hF hy
        generalize hys : whU L F c = ys at *
        generalize hln : ys.length = ln at *
        have Hln := hid hln
        clear hln hys
        go_wp2_with (first | (go_at_call 57; refine (Hhi.out _).mono ?_; rintro e w3 ⟨rfl, hb3⟩; have hB3 := hb.trans (hb3.mono hsz)) | (go_at_fn g; refine (Hh.out _ y (bel_step HB.out hB3) (by omega) (by omega)).mono ?_; rintro e w4 ⟨rfl, hb4⟩; rw [HF.out]; have hB4 := hB3.trans (hb4.mono hB3.size); have hs4 : w1.heap.size ≤ w4.heap.size := hB4.size) | (at_builtin; refine wpList_append_own _ rfl _ _ 26 rfl w1.heap.size 3 i0 (.int .i64 0) 1 8 uslice hi0 hz0 hz1 hz2 rfl (by decide) _ _ _ rfl ((ownsRow_below (ownsRow_below Hown.out hb3) hb4).alloc _) ⟨w4.heap.size, 0, none⟩ 1 1 [.int .i64 (y)] rfl rfl ?c1 ?c2 ?c3 ?c4 ?c5 ?_))
        case c1 => exact cell_one_new _ _ _
        case c2 => intro u hu; simp at hu; subst hu; rfl
        case c3 => unfold maxLen; omega
        case c4 => omega
        case c5 => simp; omega
        intro v' w5 hown5 hgrow _
        have hb5 : Below w1.heap.size w1 w5 := (hB4.alloc hB4.size _).grown hgrow (by simp; omega) (fun j hj => Hob.out j hj)
        have Hown5 := hid hown5
        clear hown5 hgrow
        go_wp2
        go_roundw
        case rel => exact ⟨c + 1, by omega, by rw [Hyn.out], by rw [Hst.out, List.length_append, List.map_append, Hln.out]; exact Hown5.out, hb5⟩
        case measure => simp [intOf]; omega
    · have hyH : H < y := by omega
      have hkn : c = M := by omega
      have Hk := hid hkn
      have Hown := hid hown
      clear hkn hlk hown hy hun
      go_wp2_with (go_at_call 57; refine (Hhi.out _).mono ?_; rintro e w3 ⟨rfl, hb3⟩; have hB3 := hb.trans (hb3.mono hsz))
      go_ret
      have ho := ownsRow_below Hown.out hb3
      rw [Hk.out] at ho
      exact ⟨_, rfl, (Res.owns ho).mono HB.out.size, bel_step HB.out hB3⟩


theorem box2w_cells {w w' : World} {u v : Value} {t : TypeId} {o : Obj} (hb : Below ((w.alloc o).alloc (.cells #[u, v] t)).heap.size ((w.alloc o).alloc (.cells #[u, v] t)) w') :
    w'.cell? ⟨w.heap.size + 1, 0, none⟩ = some u ∧ w'.cell? ⟨w.heap.size + 1, 1, none⟩ = some v := by
  have h := box2_cells hb
  rwa [show (w.alloc o).heap.size = w.heap.size + 1 from by simp] at h


end Go.Proofs.Ytmbaemdbbajliaa
