
import Derived.Test.YtbbfigbfkhlddaaOa
import Derived.Deep.RegionHeld3
import Derived.Shelf.Abstract
import Derived.Deep.QuietTactic
import Derived.BigQuiet
import Derived.Laws.EntriesVeiled
namespace Go.Proofs.Ytbbfigbfkhlddaa
open Go.RowKit BitX Go.MemX Go.ShX
set_option linter.unusedVariables false

theorem shift_s2 (x : Int) (k : Nat) (mode : Int) (h1 : -1073741824 ≤ x) (h2 : x ≤ 1073741824) (hk : k ≤ 20) : -9223372036854775808 ≤ shiftI x k mode ∧ shiftI x k mode ≤ 9223372036854775807 := by
  have hp := pow20 k hk
  have a := div_bounds x (2 ^ k) (by omega)
  have b := div_bounds (x + 2 ^ k / 2) (2 ^ k) (by omega)
  have c := Int.natAbs_tdiv_le_natAbs x (2 ^ k)
  unfold shiftI
  split
  · omega
  · split <;> omega
theorem fitI_s2 (m : Nat) (wb : Bool) (x : Int) (h1 : 1 ≤ m) (h2 : m ≤ 16) : -100000 ≤ fitI m wb x ∧ fitI m wb x ≤ 100000 := by
  have hp := pow_small m h1 h2
  cases wb
  · simp only [fitI, Bool.false_eq_true, if_false]
    split
    · omega
    · split <;> omega
  · have hm : ((2 ^ m : Nat) : Int) = 2 * 2 ^ (m - 1) := by
      rw [show m = (m - 1) + 1 from by omega, Nat.pow_succ]; simp; omega
    have a := Int.le_bmod (x := x) (m := 2 ^ m) (Nat.two_pow_pos _)
    have b := Int.bmod_lt (x := x) (m := 2 ^ m) (Nat.two_pow_pos _)
    simp only [fitI, if_true]
    omega

/-- a function value that shifts with this mode -/
def ShAt (P : Program) (g : Nat) (k : Nat) (mode : Int) : Prop :=
  (∀ (args : Array Value) (w : World), (callFunc g args).run P w = .ok (.enter g args) w) ∧
  ∀ (x : Int) (W : World), -1000000000000 ≤ x → x ≤ 1000000000000 → Calls P g #[.int .i64 x, .int .i64 (k : Int)] W fun e w' => e = .returned (.int .i64 (shiftI x k mode)) ∧ W = w'

set_option maxHeartbeats 400000 in
theorem down_any (x : Int) (k : Nat) (w : World) (hk : k ≤ 20) (h3 : -1000000000000 ≤ x) (h4 : x ≤ 1000000000000) :
    Calls Try.prog 56 #[.int .i64 x, .int .i64 (k : Int)] w fun e w' => e = .returned (.int .i64 (shiftI x k 0)) ∧ w = w' := by
  obtain ⟨m, hm⟩ : ∃ m : Int, m = 2 ^ k := ⟨_, rfl⟩
  have hps := pow20 k hk
  have hw : wrap64 ((2 : Int) ^ k) = m := by rw [hm]; exact IntWalk.wrap64_in _ (by omega)
  have hm1 : 1 ≤ m := by omega
  have hm2 : m ≤ 1048576 := by omega
  have Hm := hid hm
  clear hm hps
  have hf : x / 2 ^ k = shiftI x k 0 := rfl
  have HF := hid hf
  clear hf
  go_enter Try.func56, Try.ntmps56
  go_wp2
  go_ret
  exact ⟨ret_i HF.out, rfl⟩

theorem down_any_sh (k : Nat) (hk : k ≤ 20) : ShAt Try.prog 56 k 0 := ⟨enters_of Try.func56 (by kernel_rfl) rfl, fun x W h3 h4 => down_any x k W hk h3 h4⟩

set_option maxHeartbeats 400000 in
theorem near_any (x : Int) (k : Nat) (w : World) (hk : k ≤ 20) (h3 : -1000000000000 ≤ x) (h4 : x ≤ 1000000000000) :
    Calls Try.prog 54 #[.int .i64 x, .int .i64 (k : Int)] w fun e w' => e = .returned (.int .i64 (shiftI x k 1)) ∧ w = w' := by
  obtain ⟨m, hm⟩ : ∃ m : Int, m = 2 ^ k := ⟨_, rfl⟩
  have hps := pow20 k hk
  have hw : wrap64 ((2 : Int) ^ k) = m := by rw [hm]; exact IntWalk.wrap64_in _ (by omega)
  have hm1 : 1 ≤ m := by omega
  have hm2 : m ≤ 1048576 := by omega
  have Hm := hid hm
  clear hm hps
  have hf : (x + m / 2) / 2 ^ k = shiftI x k 1 := by rw [Hm.out]; rfl
  have HF := hid hf
  clear hf
  go_enter Try.func54, Try.ntmps54
  go_wp2
  go_ret
  exact ⟨ret_i HF.out, rfl⟩

theorem near_any_sh (k : Nat) (hk : k ≤ 20) : ShAt Try.prog 54 k 1 := ⟨enters_of Try.func54 (by kernel_rfl) rfl, fun x W h3 h4 => near_any x k W hk h3 h4⟩

set_option maxHeartbeats 400000 in
theorem zero_any (x : Int) (k : Nat) (w : World) (hk : k ≤ 20) (h3 : -1000000000000 ≤ x) (h4 : x ≤ 1000000000000) :
    Calls Try.prog 55 #[.int .i64 x, .int .i64 (k : Int)] w fun e w' => e = .returned (.int .i64 (shiftI x k 2)) ∧ w = w' := by
  obtain ⟨m, hm⟩ : ∃ m : Int, m = 2 ^ k := ⟨_, rfl⟩
  have hps := pow20 k hk
  have hw : wrap64 ((2 : Int) ^ k) = m := by rw [hm]; exact IntWalk.wrap64_in _ (by omega)
  have hm1 : 1 ≤ m := by omega
  have hm2 : m ≤ 1048576 := by omega
  have Hm := hid hm
  clear hm hps
  have hb1 : x.tdiv m ≤ 1000000000000 := by
    have := Int.natAbs_tdiv_le_natAbs x m
    omega
  have hb2 : -1000000000000 ≤ x.tdiv m := by
    have := Int.natAbs_tdiv_le_natAbs x m
    omega
  by_cases hx0 : 0 ≤ x
  · have hf : x / m = shiftI x k 2 := by rw [Hm.out, shift_zero_pos x k hx0]
    have HF := hid hf
    clear hf
    go_enter Try.func55, Try.ntmps55
    go_wp2
    go_ret
    exact ⟨ret_i (by first | exact HF.out | (rw [tdiv_pos x m hx0]; exact HF.out)), rfl⟩
  · have hf : x.tdiv m = shiftI x k 2 := by rw [Hm.out]; rfl
    have HF := hid hf
    have hx1 : x < 0 := by omega
    clear hf hx0
    go_enter Try.func55, Try.ntmps55
    go_wp2
    go_ret
    exact ⟨ret_i HF.out, rfl⟩

theorem zero_any_sh (k : Nat) (hk : k ≤ 20) : ShAt Try.prog 55 k 2 := ⟨enters_of Try.func55 (by kernel_rfl) rfl, fun x W h3 h4 => zero_any x k W hk h3 h4⟩

set_option maxHeartbeats 400000 in
theorem rounding_is (k : Nat) (mode : Int) (w : World) (hk : k ≤ 20) (h0 : 0 ≤ mode) (h2 : mode ≤ 2) :
    Calls Try.prog 42 #[.int .i64 mode] w fun e w' => (∃ rf, e = .returned (.func (.func rf) #[] #[]) ∧ ShAt Try.prog rf k mode) ∧ w = w' := by
  have hm : mode = 0 ∨ mode = 1 ∨ mode = 2 := by omega
  clear h0 h2
  rcases hm with rfl | rfl | rfl
  · go_enter Try.func42, Try.ntmps42
    go_wp2
    go_ret
    exact ⟨⟨_, rfl, down_any_sh k hk⟩, rfl⟩
  · go_enter Try.func42, Try.ntmps42
    go_wp2
    go_ret
    exact ⟨⟨_, rfl, near_any_sh k hk⟩, rfl⟩
  · go_enter Try.func42, Try.ntmps42
    go_wp2
    go_ret
    exact ⟨⟨_, rfl, zero_any_sh k hk⟩, rfl⟩



theorem mkFunc : ∀ (fn : Fn) (first cap : Array Value) (w : World), (Instr.makeFunc fn first cap).run Try.prog w = .ok (.func fn first cap) w := fun _ _ _ _ => rfl
theorem box1_cell {w w' : World} {u : Value} {t : TypeId} (hb : Below (w.alloc (.cells #[u] t)).heap.size (w.alloc (.cells #[u] t)) w') : w'.cell? ⟨w.heap.size, 0, none⟩ = some u := by
  rw [hb.cell (by simp), World.cell?_alloc_at _ _ _ _ rfl]; rfl
theorem shift_in (x : Int) (k : Nat) (mode : Int) (C : Int) (h1 : -C ≤ x) (h2 : x ≤ C) (hk : k ≤ 20) : -(C + 524289) ≤ shiftI x k mode ∧ shiftI x k mode ≤ C + 524289 := by
  have hp := pow20 k hk
  have a := div_bounds x (2 ^ k) (by omega)
  have b := div_bounds (x + 2 ^ k / 2) (2 ^ k) (by omega)
  have c := Int.natAbs_tdiv_le_natAbs x (2 ^ k)
  unfold shiftI
  split
  · omega
  · split <;> omega
/-- what a filter's numbers are -/
def FoOk (a : Int) (k : Nat) (mode : Int) (n : Nat) : Prop := (-1024 ≤ a ∧ a ≤ 1024) ∧ k ≤ 10 ∧ (0 ≤ mode ∧ mode ≤ 2) ∧ 2 ≤ n ∧ n ≤ 16
def rawI (a : Int) (k : Nat) (mode y x : Int) : Int := shiftI (a * y) k mode + x
def stepI (a : Int) (k : Nat) (mode : Int) (n : Nat) (wr : Bool) (x y : Int) : Int := fitI n wr (rawI a k mode y x)
theorem ay_in {a y : Int} (a1 : -1024 ≤ a) (a2 : a ≤ 1024) (y1 : -100000 ≤ y) (y2 : y ≤ 100000) : -102400000 ≤ a * y ∧ a * y ≤ 102400000 := by
  have := mul_in a1 a2 y1 y2 (by omega); omega
theorem raw_in {a : Int} {k : Nat} {mode y x : Int} {n : Nat} (h : FoOk a k mode n) (y1 : -100000 ≤ y) (y2 : y ≤ 100000) (x1 : -100000 ≤ x) (x2 : x ≤ 100000) : -200000000 ≤ rawI a k mode y x ∧ rawI a k mode y x ≤ 200000000 := by
  obtain ⟨⟨a1, a2⟩, k1, _, _⟩ := h
  have m := ay_in a1 a2 y1 y2
  have s := shift_in (a * y) k mode 102400000 (by omega) (by omega) (by omega)
  unfold rawI; omega
theorem step_in {a : Int} {k : Nat} {mode y x : Int} {n : Nat} {wr : Bool} (h : FoOk a k mode n) : -100000 ≤ stepI a k mode n wr x y ∧ stepI a k mode n wr x y ≤ 100000 := by
  obtain ⟨_, _, _, n1, n2⟩ := h
  exact fitI_s2 n wr _ (by omega) n2


theorem cells4 {w W : World} {g0 g1 g2 : Nat} {a0 a1 a2 a3 : Value} (hb : Below w.heap.size w W) (h : w.cell? ⟨g0, 3, none⟩ = some a0 ∧ w.cell? ⟨g0, 4, none⟩ = some a1 ∧ w.cell? ⟨g1, 0, none⟩ = some a2 ∧ w.cell? ⟨g2, 0, none⟩ = some a3) :
    W.cell? ⟨g0, 3, none⟩ = some a0 ∧ W.cell? ⟨g0, 4, none⟩ = some a1 ∧ W.cell? ⟨g1, 0, none⟩ = some a2 ∧ W.cell? ⟨g2, 0, none⟩ = some a3 :=
  ⟨by rw [hb.cell (by exact block_lt_of_cell h.1)]; exact h.1, by rw [hb.cell (by exact block_lt_of_cell h.2.1)]; exact h.2.1, by rw [hb.cell (by exact block_lt_of_cell h.2.2.1)]; exact h.2.2.1, by rw [hb.cell (by exact block_lt_of_cell h.2.2.2)]; exact h.2.2.2⟩


/-- a function value with captured variables that makes the number ahead of fitting -/
def RawAt (P : Program) (g : Nat) (lb : Array Value) (a : Int) (k : Nat) (mode : Int) (w : World) : Prop :=
  ∀ (W : World) (y x : Int), Below w.heap.size w W → -100000 ≤ y → y ≤ 100000 → -100000 ≤ x → x ≤ 100000 → Calls P g (#[.int .i64 y, .int .i64 x] ++ lb) W fun e w' => e = .returned (.int .i64 (rawI a k mode y x)) ∧ Below W.heap.size W w'
/-- a function value with captured variables that goes from each number to F of it -/
def NextAt (P : Program) (g : Nat) (lb : Array Value) (F : Int → Int) (w : World) : Prop :=
  ∀ (W : World) (y : Int), Below w.heap.size w W → -100000 ≤ y → y ≤ 100000 → Calls P g (#[.int .i64 y] ++ lb) W fun e w' => e = .returned (.int .i64 (F y)) ∧ Below W.heap.size W w'
theorem RawAt.later {P : Program} {g : Nat} {lb : Array Value} {a : Int} {k : Nat} {mode : Int} {w W : World} (h : RawAt P g lb a k mode w) (hb : Below w.heap.size w W) : RawAt P g lb a k mode W :=
  fun W' y x hb' => h W' y x (hb.trans (hb'.mono hb.size))
theorem NextAt.later {P : Program} {g : Nat} {lb : Array Value} {F : Int → Int} {w W : World} (h : NextAt P g lb F w) (hb : Below w.heap.size w W) : NextAt P g lb F W :=
  fun W' y hb' => h W' y (hb.trans (hb'.mono hb.size))
end Go.Proofs.Ytbbfigbfkhlddaa
