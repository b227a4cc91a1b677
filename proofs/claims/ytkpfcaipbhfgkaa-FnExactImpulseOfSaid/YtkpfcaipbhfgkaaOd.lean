
import Derived.Test.YtkpfcaipbhfgkaaOa
import Derived.Deep.RegionHeld3
import Derived.Shelf.Abstract
import Derived.Deep.QuietTactic
import Derived.BigQuiet
import Derived.Laws.EntriesVeiled
namespace Go.Proofs.Ytkpfcaipbhfgkaa
open Go.RowKit BitX Go.MemX Go.ShX
set_option linter.unusedVariables false

theorem shift_s2 (x : Int) (k : Nat) (mode : Int) (h1 : -1073741824 ≤ x) (h2 : x ≤ 1073741824) (hk : k ≤ 20) : -9223372036854775808 ≤ shiftI x k mode ∧ shiftI x k mode ≤ 9223372036854775807 := by
  have hp := pow20 k hk
  have a := div_bounds x (2 ^ k) (by omega)
  have b := div_bounds (x + 2 ^ k / 2) (2 ^ k) (by omega)
  have c := Int.natAbs_tdiv_le_natAbs x (2 ^ k)
  unfold shiftI
  split
  · omega
  · split <;> omega
theorem fitI_s2 (m : Nat) (wb : Bool) (x : Int) (h1 : 1 ≤ m) (h2 : m ≤ 16) : -100000 ≤ fitI m wb x ∧ fitI m wb x ≤ 100000 := by
  have hp := pow_small m h1 h2
  cases wb
  · simp only [fitI, Bool.false_eq_true, if_false]
    split
    · omega
    · split <;> omega
  · have hm : ((2 ^ m : Nat) : Int) = 2 * 2 ^ (m - 1) := by
      rw [show m = (m - 1) + 1 from by omega, Nat.pow_succ]; simp; omega
    have a := Int.le_bmod (x := x) (m := 2 ^ m) (Nat.two_pow_pos _)
    have b := Int.bmod_lt (x := x) (m := 2 ^ m) (Nat.two_pow_pos _)
    simp only [fitI, if_true]
    omega

/-- a function value that shifts with this mode -/
def ShAt (P : Program) (g : Nat) (k : Nat) (mode : Int) : Prop :=
  (∀ (args : Array Value) (w : World), (callFunc g args).run P w = .ok (.enter g args) w) ∧
  ∀ (x : Int) (W : World), -1000000000000 ≤ x → x ≤ 1000000000000 → Calls P g #[.int .i64 x, .int .i64 (k : Int)] W fun e w' => e = .returned (.int .i64 (shiftI x k mode)) ∧ W = w'

set_option maxHeartbeats 400000 in
theorem down_any (x : Int) (k : Nat) (w : World) (hk : k ≤ 20) (h3 : -1000000000000 ≤ x) (h4 : x ≤ 1000000000000) :
    Calls Try.prog 83 #[.int .i64 x, .int .i64 (k : Int)] w fun e w' => e = .returned (.int .i64 (shiftI x k 0)) ∧ w = w' := by
  obtain ⟨m, hm⟩ : ∃ m : Int, m = 2 ^ k := ⟨_, rfl⟩
  have hps := pow20 k hk
  have hw : wrap64 ((2 : Int) ^ k) = m := by rw [hm]; exact IntWalk.wrap64_in _ (by omega)
  have hm1 : 1 ≤ m := by omega
  have hm2 : m ≤ 1048576 := by omega
  have Hm := hid hm
  clear hm hps
  have hf : x / 2 ^ k = shiftI x k 0 := rfl
  have HF := hid hf
  clear hf
  go_enter Try.func83, Try.ntmps83
  go_wp2
  go_ret
  exact ⟨ret_i HF.out, rfl⟩

theorem down_any_sh (k : Nat) (hk : k ≤ 20) : ShAt Try.prog 83 k 0 := ⟨enters_of Try.func83 (by kernel_rfl) rfl, fun x W h3 h4 => down_any x k W hk h3 h4⟩

set_option maxHeartbeats 400000 in
theorem near_any (x : Int) (k : Nat) (w : World) (hk : k ≤ 20) (h3 : -1000000000000 ≤ x) (h4 : x ≤ 1000000000000) :
    Calls Try.prog 81 #[.int .i64 x, .int .i64 (k : Int)] w fun e w' => e = .returned (.int .i64 (shiftI x k 1)) ∧ w = w' := by
  obtain ⟨m, hm⟩ : ∃ m : Int, m = 2 ^ k := ⟨_, rfl⟩
  have hps := pow20 k hk
  have hw : wrap64 ((2 : Int) ^ k) = m := by rw [hm]; exact IntWalk.wrap64_in _ (by omega)
  have hm1 : 1 ≤ m := by omega
  have hm2 : m ≤ 1048576 := by omega
  have Hm := hid hm
  clear hm hps
  have hf : (x + m / 2) / 2 ^ k = shiftI x k 1 := by rw [Hm.out]; rfl
  have HF := hid hf
  clear hf
  go_enter Try.func81, Try.ntmps81
  go_wp2
  go_ret
  exact ⟨ret_i HF.out, rfl⟩

theorem near_any_sh (k : Nat) (hk : k ≤ 20) : ShAt Try.prog 81 k 1 := ⟨enters_of Try.func81 (by kernel_rfl) rfl, fun x W h3 h4 => near_any x k W hk h3 h4⟩

set_option maxHeartbeats 400000 in
theorem zero_any (x : Int) (k : Nat) (w : World) (hk : k ≤ 20) (h3 : -1000000000000 ≤ x) (h4 : x ≤ 1000000000000) :
    Calls Try.prog 82 #[.int .i64 x, .int .i64 (k : Int)] w fun e w' => e = .returned (.int .i64 (shiftI x k 2)) ∧ w = w' := by
  obtain ⟨m, hm⟩ : ∃ m : Int, m = 2 ^ k := ⟨_, rfl⟩
  have hps := pow20 k hk
  have hw : wrap64 ((2 : Int) ^ k) = m := by rw [hm]; exact IntWalk.wrap64_in _ (by omega)
  have hm1 : 1 ≤ m := by omega
  have hm2 : m ≤ 1048576 := by omega
  have Hm := hid hm
  clear hm hps
  have hb1 : x.tdiv m ≤ 1000000000000 := by
    have := Int.natAbs_tdiv_le_natAbs x m
    omega
  have hb2 : -1000000000000 ≤ x.tdiv m := by
    have := Int.natAbs_tdiv_le_natAbs x m
    omega
  by_cases hx0 : 0 ≤ x
  · have hf : x / m = shiftI x k 2 := by rw [Hm.out, shift_zero_pos x k hx0]
    have HF := hid hf
    clear hf
    go_enter Try.func82, Try.ntmps82
    go_wp2
    go_ret
    exact ⟨ret_i (by first | exact HF.out | (rw [tdiv_pos x m hx0]; exact HF.out)), rfl⟩
  · have hf : x.tdiv m = shiftI x k 2 := by rw [Hm.out]; rfl
    have HF := hid hf
    have hx1 : x < 0 := by omega
    clear hf hx0
    go_enter Try.func82, Try.ntmps82
    go_wp2
    go_ret
    exact ⟨ret_i HF.out, rfl⟩

theorem zero_any_sh (k : Nat) (hk : k ≤ 20) : ShAt Try.prog 82 k 2 := ⟨enters_of Try.func82 (by kernel_rfl) rfl, fun x W h3 h4 => zero_any x k W hk h3 h4⟩

set_option maxHeartbeats 400000 in
theorem rounding_is (k : Nat) (mode : Int) (w : World) (hk : k ≤ 20) (h0 : 0 ≤ mode) (h2 : mode ≤ 2) :
    Calls Try.prog 73 #[.int .i64 mode] w fun e w' => (∃ rf, e = .returned (.func (.func rf) #[] #[]) ∧ ShAt Try.prog rf k mode) ∧ w = w' := by
  have hm : mode = 0 ∨ mode = 1 ∨ mode = 2 := by omega
  clear h0 h2
  rcases hm with rfl | rfl | rfl
  · go_enter Try.func73, Try.ntmps73
    go_wp2
    go_ret
    exact ⟨⟨_, rfl, down_any_sh k hk⟩, rfl⟩
  · go_enter Try.func73, Try.ntmps73
    go_wp2
    go_ret
    exact ⟨⟨_, rfl, near_any_sh k hk⟩, rfl⟩
  · go_enter Try.func73, Try.ntmps73
    go_wp2
    go_ret
    exact ⟨⟨_, rfl, zero_any_sh k hk⟩, rfl⟩



theorem mkFunc : ∀ (fn : Fn) (first cap : Array Value) (w : World), (Instr.makeFunc fn first cap).run Try.prog w = .ok (.func fn first cap) w := fun _ _ _ _ => rfl
theorem box1_cell {w w' : World} {u : Value} {t : TypeId} (hb : Below (w.alloc (.cells #[u] t)).heap.size (w.alloc (.cells #[u] t)) w') : w'.cell? ⟨w.heap.size, 0, none⟩ = some u := by
  rw [hb.cell (by simp), World.cell?_alloc_at _ _ _ _ rfl]; rfl
theorem shift_in (x : Int) (k : Nat) (mode : Int) (C : Int) (h1 : -C ≤ x) (h2 : x ≤ C) (hk : k ≤ 20) : -(C + 524289) ≤ shiftI x k mode ∧ shiftI x k mode ≤ C + 524289 := by
  have hp := pow20 k hk
  have a := div_bounds x (2 ^ k) (by omega)
  have b := div_bounds (x + 2 ^ k / 2) (2 ^ k) (by omega)
  have c := Int.natAbs_tdiv_le_natAbs x (2 ^ k)
  unfold shiftI
  split
  · omega
  · split <;> omega
/-- what a filter's numbers are -/
def FoOk (a : Int) (k : Nat) (mode : Int) (n : Nat) : Prop := (-1024 ≤ a ∧ a ≤ 1024) ∧ k ≤ 10 ∧ (0 ≤ mode ∧ mode ≤ 2) ∧ 2 ≤ n ∧ n ≤ 16
def rawI (a : Int) (k : Nat) (mode y x : Int) : Int := shiftI (a * y) k mode + x
def stepI (a : Int) (k : Nat) (mode : Int) (n : Nat) (wr : Bool) (x y : Int) : Int := fitI n wr (rawI a k mode y x)
theorem ay_in {a y : Int} (a1 : -1024 ≤ a) (a2 : a ≤ 1024) (y1 : -100000 ≤ y) (y2 : y ≤ 100000) : -102400000 ≤ a * y ∧ a * y ≤ 102400000 := by
  have := mul_in a1 a2 y1 y2 (by omega); omega
theorem raw_in {a : Int} {k : Nat} {mode y x : Int} {n : Nat} (h : FoOk a k mode n) (y1 : -100000 ≤ y) (y2 : y ≤ 100000) (x1 : -100000 ≤ x) (x2 : x ≤ 100000) : -200000000 ≤ rawI a k mode y x ∧ rawI a k mode y x ≤ 200000000 := by
  obtain ⟨⟨a1, a2⟩, k1, _, _⟩ := h
  have m := ay_in a1 a2 y1 y2
  have s := shift_in (a * y) k mode 102400000 (by omega) (by omega) (by omega)
  unfold rawI; omega
theorem step_in {a : Int} {k : Nat} {mode y x : Int} {n : Nat} {wr : Bool} (h : FoOk a k mode n) : -100000 ≤ stepI a k mode n wr x y ∧ stepI a k mode n wr x y ≤ 100000 := by
  obtain ⟨_, _, _, n1, n2⟩ := h
  exact fitI_s2 n wr _ (by omega) n2


set_option maxHeartbeats 1000000 in
theorem foRaw_any (a : Int) (k : Nat) (mode : Int) (n : Nat) (wr : Bool) (y x : Int) (w : World) (h : FoOk a k mode n) (y1 : -100000 ≤ y) (y2 : y ≤ 100000) (x1 : -100000 ≤ x) (x2 : x ≤ 100000) :
    Calls Try.prog 58 #[.agg #[.int .i64 a, .int .i64 (k : Int), .int .i64 mode, .int .i64 (n : Int), .bool wr], .int .i64 y, .int .i64 x] w fun e w' => e = .returned (.int .i64 (rawI a k mode y x)) ∧ Below w.heap.size w w' := by
  obtain ⟨⟨a1, a2⟩, k1, ⟨m1, m2⟩, _⟩ := h
  obtain ⟨p1, p2⟩ := ay_in a1 a2 y1 y2
  obtain ⟨s1, s2⟩ := shift_in (a * y) k mode 102400000 (by omega) (by omega) (by omega)
  have hmo : mode = 0 ∨ mode = 1 ∨ mode = 2 := by omega
  have Hmo := hid hmo
  have e1 : IntKind.i64.wrap (a * y) = a * y := IntWalk.i64_in _ (by omega)
  clear hmo
  go_enter Try.func58, Try.ntmps58
  go_wp2_with fail
  refine (wdShift_any _ k mode _ (by omega) (by omega) (by omega) Hmo.out).mono ?_
  rintro e w' ⟨rfl, rfl⟩
  go_wp2_with fail
  go_ret
  exact ⟨ret_i rfl, bel_alloc _ _⟩

theorem cells4 {w W : World} {g0 g1 g2 : Nat} {a0 a1 a2 a3 : Value} (hb : Below w.heap.size w W) (h : w.cell? ⟨g0, 3, none⟩ = some a0 ∧ w.cell? ⟨g0, 4, none⟩ = some a1 ∧ w.cell? ⟨g1, 0, none⟩ = some a2 ∧ w.cell? ⟨g2, 0, none⟩ = some a3) :
    W.cell? ⟨g0, 3, none⟩ = some a0 ∧ W.cell? ⟨g0, 4, none⟩ = some a1 ∧ W.cell? ⟨g1, 0, none⟩ = some a2 ∧ W.cell? ⟨g2, 0, none⟩ = some a3 :=
  ⟨by rw [hb.cell (by exact block_lt_of_cell h.1)]; exact h.1, by rw [hb.cell (by exact block_lt_of_cell h.2.1)]; exact h.2.1, by rw [hb.cell (by exact block_lt_of_cell h.2.2.1)]; exact h.2.2.1, by rw [hb.cell (by exact block_lt_of_cell h.2.2.2)]; exact h.2.2.2⟩


/-- a function value with captured variables that makes the number ahead of fitting -/
def RawAt (P : Program) (g : Nat) (lb : Array Value) (a : Int) (k : Nat) (mode : Int) (w : World) : Prop :=
  ∀ (W : World) (y x : Int), Below w.heap.size w W → -100000 ≤ y → y ≤ 100000 → -100000 ≤ x → x ≤ 100000 → Calls P g (#[.int .i64 y, .int .i64 x] ++ lb) W fun e w' => e = .returned (.int .i64 (rawI a k mode y x)) ∧ Below W.heap.size W w'
/-- a function value with captured variables that goes from each number to F of it -/
def NextAt (P : Program) (g : Nat) (lb : Array Value) (F : Int → Int) (w : World) : Prop :=
  ∀ (W : World) (y : Int), Below w.heap.size w W → -100000 ≤ y → y ≤ 100000 → Calls P g (#[.int .i64 y] ++ lb) W fun e w' => e = .returned (.int .i64 (F y)) ∧ Below W.heap.size W w'
theorem RawAt.later {P : Program} {g : Nat} {lb : Array Value} {a : Int} {k : Nat} {mode : Int} {w W : World} (h : RawAt P g lb a k mode w) (hb : Below w.heap.size w W) : RawAt P g lb a k mode W :=
  fun W' y x hb' => h W' y x (hb.trans (hb'.mono hb.size))
theorem NextAt.later {P : Program} {g : Nat} {lb : Array Value} {F : Int → Int} {w W : World} (h : NextAt P g lb F w) (hb : Below w.heap.size w W) : NextAt P g lb F W :=
  fun W' y hb' => h W' y (hb.trans (hb'.mono hb.size))
theorem enterU1 : Go.Proofs.Enters Try.prog 74 := enters_of Try.func74 (by kernel_rfl) rfl
theorem enterT1 : Go.Proofs.Enters Try.prog 71 := enters_of Try.func71 (by kernel_rfl) rfl

set_option maxHeartbeats 1000000 in
theorem raw_clo (gf gr : Nat) (a : Int) (k : Nat) (mode : Int) (n : Nat) (wr : Bool) (rf : Nat) (y x : Int) (w : World) (c0 : w.cell? ⟨gf, 0, none⟩ = some (.int .i64 a)) (c1 : w.cell? ⟨gf, 1, none⟩ = some (.int .i64 (k : Int))) (cr : w.cell? ⟨gr, 0, none⟩ = some (.func (.func rf) #[] #[]))
    (hsh : ShAt Try.prog rf k mode) (h : FoOk a k mode n) (y1 : -100000 ≤ y) (y2 : y ≤ 100000) (x1 : -100000 ≤ x) (x2 : x ≤ 100000) :
    Calls Try.prog 74 #[.int .i64 y, .int .i64 x, .pointer (some ⟨gr, 0, none⟩), .pointer (some ⟨gf, 0, none⟩)] w fun e w' => e = .returned (.int .i64 (rawI a k mode y x)) ∧ Below w.heap.size w w' := by
  obtain ⟨⟨a1, a2⟩, k1, _, _⟩ := h
  obtain ⟨p1, p2⟩ := ay_in a1 a2 y1 y2
  obtain ⟨s1, s2⟩ := shift_in (a * y) k mode 102400000 (by omega) (by omega) (by omega)
  have Hs := hid hsh
  have eg := hsh.1
  have e1 : IntKind.i64.wrap (a * y) = a * y := IntWalk.i64_in _ (by omega)
  clear hsh
  go_enter Try.func74, Try.ntmps74
  go_wp2_with (go_at_fn rf; refine (Hs.out.2 _ _ (by omega) (by omega)).mono ?_; rintro e w' ⟨rfl, rfl⟩)
  go_ret
  exact ⟨ret_i rfl, Below.refl _ _⟩

set_option maxHeartbeats 1000000 in
theorem unfitted_any (a : Int) (k : Nat) (mode : Int) (n : Nat) (wr : Bool) (w : World) (h : FoOk a k mode n) :
    Calls Try.prog 70 #[.agg #[.int .i64 a, .int .i64 (k : Int), .int .i64 mode, .int .i64 (n : Int), .bool wr]] w fun e w' => (∃ lb, e = .returned (.func (.func 74) #[] lb) ∧ RawAt Try.prog 74 lb a k mode w') ∧ Below w.heap.size w w' := by
  have H := hid h
  obtain ⟨_, k1, ⟨m1, m2⟩, _⟩ := h
  have hmf := mkFunc
  go_enter Try.func70, Try.ntmps70
  go_wp2_with fail
  refine (rounding_is k mode _ (by omega) m1 m2).mono ?_
  rintro e w' ⟨⟨rf, rfl, hsh⟩, rfl⟩
  have Hsh := hid hsh
  clear hsh
  go_wp2
  go_ret
  have B1 := bel_alloc w (.cells #[.int .i64 a, .int .i64 (k : Int), .int .i64 mode, .int .i64 (n : Int), .bool wr] 49)
  have z1 : (w.alloc (.cells #[.int .i64 a, .int .i64 (k : Int), .int .i64 mode, .int .i64 (n : Int), .bool wr] 49)).heap.size = w.heap.size + 1 := by simp
  obtain ⟨c0, c1, c2, c3, c4⟩ := box5_cells (Below.refl (w.alloc (.cells #[.int .i64 a, .int .i64 (k : Int), .int .i64 mode, .int .i64 (n : Int), .bool wr] 49)).heap.size (w.alloc (.cells #[.int .i64 a, .int .i64 (k : Int), .int .i64 mode, .int .i64 (n : Int), .bool wr] 49)))
  generalize w.alloc (.cells #[.int .i64 a, .int .i64 (k : Int), .int .i64 mode, .int .i64 (n : Int), .bool wr] 49) = w1 at *
  refine ⟨⟨_, rfl, fun W y x hb y1 y2 x1 x2 => ?_⟩, bel_step B1 (bel_alloc _ _)⟩
  have B2 := bel_step (bel_alloc _ _) hb
  have q0 := c0
  rw [← B2.cell (by exact block_lt_of_cell c0)] at q0
  have q1 := c1
  rw [← B2.cell (by exact block_lt_of_cell c1)] at q1
  have q2 := box1_cell hb
  rw [z1] at q2
  exact raw_clo _ _ a k mode n wr rf y x W q0 q1 q2 Hsh.out H.out y1 y2 x1 x2

set_option maxHeartbeats 2000000 in
theorem step_clo (gf gm gx g : Nat) (lb : Array Value) (eg : ∀ (args : Array Value) (w : World), (callFunc g args).run Try.prog w = .ok (.enter g args) w) (a : Int) (k : Nat) (mode : Int) (n : Nat) (wr : Bool) (y x : Int) (w : World)
    (c3 : w.cell? ⟨gf, 3, none⟩ = some (.int .i64 (n : Int))) (c4 : w.cell? ⟨gf, 4, none⟩ = some (.bool wr)) (cm : w.cell? ⟨gm, 0, none⟩ = some (.func (.func g) #[] lb)) (cx : w.cell? ⟨gx, 0, none⟩ = some (.int .i64 x))
    (hr : RawAt Try.prog g lb a k mode w) (h : FoOk a k mode n) (y1 : -100000 ≤ y) (y2 : y ≤ 100000) (x1 : -100000 ≤ x) (x2 : x ≤ 100000) :
    Calls Try.prog 71 #[.int .i64 y, .pointer (some ⟨gf, 0, none⟩), .pointer (some ⟨gm, 0, none⟩), .pointer (some ⟨gx, 0, none⟩)] w fun e w' => e = .returned (.int .i64 (stepI a k mode n wr x y)) ∧ Below w.heap.size w w' := by
  obtain ⟨r1, r2⟩ := raw_in h y1 y2 x1 x2
  have n1 := h.2.2.2.1
  have n2 := h.2.2.2.2
  have Hr := hid hr
  have Hs := hid (show fitI n wr (rawI a k mode y x) = stepI a k mode n wr x y from rfl)
  have Hcl := hid (And.intro c3 (And.intro c4 (And.intro cm cx)))
  clear hr h
  go_enter Try.func71, Try.ntmps71
  go_wp2_with fail
  go_region_held3 (fun W => W.cell? ⟨gf, 3, none⟩ = some (.int .i64 (n : Int)) ∧ W.cell? ⟨gf, 4, none⟩ = some (.bool wr) ∧ W.cell? ⟨gm, 0, none⟩ = some (.func (.func g) #[] lb) ∧ W.cell? ⟨gx, 0, none⟩ = some (.int .i64 x)) (first | exact hS | assumption | go_keep) (first | (go_at_call 72; refine (fit_any n wr (rawI a k mode y x) _ (by omega) n2 (by omega) (by omega)).mono ?_; rintro e w2 ⟨rfl, hb2⟩; have hB2 := hB.trans (hb2.mono hB.size); have hS := cells4 hB2 Hcl.out) | (go_at_fn g; refine (Hr.out _ y x (Below.refl _ _).drew y1 y2 x1 x2).mono ?_; rintro e w1 ⟨rfl, hb⟩; have hB := (Below.refl _ w).drew.trans (hb.mono (Nat.le_refl _)); have hS := cells4 hB Hcl.out))
  all_goals go_wp2
  all_goals go_ret
  all_goals exact ⟨ret_i Hs.out, hB2⟩

set_option maxHeartbeats 1000000 in
theorem stepWith_any (a : Int) (k : Nat) (mode : Int) (n : Nat) (wr : Bool) (x : Int) (w : World) (h : FoOk a k mode n) (x1 : -100000 ≤ x) (x2 : x ≤ 100000) :
    Calls Try.prog 60 #[.agg #[.int .i64 a, .int .i64 (k : Int), .int .i64 mode, .int .i64 (n : Int), .bool wr], .int .i64 x] w fun e w' => (∃ lb, e = .returned (.func (.func 71) #[] lb) ∧ NextAt Try.prog 71 lb (stepI a k mode n wr x) w') ∧ Below w.heap.size w w' := by
  have H := hid h
  have hmf := mkFunc
  clear h
  go_enter Try.func60, Try.ntmps60
  go_wp2_with fail
  refine (unfitted_any a k mode n wr _ H.out).mono ?_
  rintro e w3 ⟨⟨lb, rfl, hr⟩, hb⟩
  have Hr := hid hr
  clear hr
  go_wp2
  go_ret
  have z1 : (w.alloc (.cells #[.int .i64 a, .int .i64 (k : Int), .int .i64 mode, .int .i64 (n : Int), .bool wr] 49)).heap.size = w.heap.size + 1 := by simp
  obtain ⟨c0, c1, c2, c3, c4⟩ := box5_cells (bel_step (bel_alloc _ _) hb)
  have cx := box1_cell hb
  rw [z1] at cx
  have B3 := bel_step (bel_alloc _ _) (bel_step (bel_alloc _ _) hb)
  clear hb
  refine ⟨⟨_, rfl, fun W y hb y1 y2 => ?_⟩, bel_step B3 (bel_alloc _ _)⟩
  have B4 := bel_step (bel_alloc _ _) hb
  have cm := box1_cell hb
  rw [← B4.cell (by exact block_lt_of_cell c3)] at c3
  rw [← B4.cell (by exact block_lt_of_cell c4)] at c4
  rw [← B4.cell (by exact block_lt_of_cell cx)] at cx
  exact step_clo _ _ _ _ lb enterU1 a k mode n wr y x W c3 c4 cm cx (Hr.out.later B4) H.out y1 y2 x1 x2
end Go.Proofs.Ytkpfcaipbhfgkaa
