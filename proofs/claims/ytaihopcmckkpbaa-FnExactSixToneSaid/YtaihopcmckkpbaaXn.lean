
import Derived.Test.YtaihopcmckkpbaaXj
import Derived.Test.YtaihopcmckkpbaaXo
namespace Go.Proofs.Ytaihopcmckkpbaa
open Go.RowKit BitX Go.MemX Go.Ch6 Go.Ch9 FltX
set_option linter.unusedVariables false
theorem onII9_no {x y : Int} {b : Bool} (h : b = false) : Ending.returned (.tuple #[.int .i64 0, .int .i64 0, .bool false]) = .returned (.tuple #[.int .i64 (onI b x), .int .i64 (onI b y), .bool b]) := by subst h; rfl
theorem onII9_yes {x y x' y' : Int} {b : Bool} (h : b = true) (e : x' = x) (e2 : y' = y) : Ending.returned (.tuple #[.int .i64 x', .int .i64 y', .bool true]) = .returned (.tuple #[.int .i64 (onI b x), .int .i64 (onI b y), .bool b]) := by subst h e e2; rfl
theorem onI9_no {x : Int} {b : Bool} (h : b = false) : Ending.returned (.tuple #[.int .i64 0, .bool false]) = .returned (.tuple #[.int .i64 (onI b x), .bool b]) := by subst h; rfl
theorem onI9_yes {x y : Int} {b : Bool} (h : b = true) (e : y = x) : Ending.returned (.tuple #[.int .i64 y, .bool true]) = .returned (.tuple #[.int .i64 (onI b x), .bool b]) := by subst h e; rfl
def ftB (p : Int) (s : List Int) (k : Int) : Bool := sigB s && toneB k p
theorem ft_n1 {s : List Int} {p k : Int} (h : sigB s = false) : ftB p s k = false := by unfold ftB; rw [h]; rfl
theorem ft_n2 {s : List Int} {p k : Int} (h : toneB k p = false) : ftB p s k = false := by unfold ftB; rw [h, Bool.and_false]
theorem ft_t {s : List Int} {p k : Int} (h : sigB s = true) (h2 : toneB k p = true) : ftB p s k = true := by unfold ftB; rw [h, h2]; rfl
theorem t4_in {k : Int} {b : Bool} (h : toneB k 4 = b) : decide (0 ≤ k ∧ k ≤ 3) = b := by
  rw [← h]; unfold toneB; exact decide_eq_decide.2 ⟨fun q => ⟨.inl rfl, q.1, by omega⟩, fun q => ⟨q.2.1, by omega⟩⟩
theorem t6_in {k : Int} {b : Bool} (h : toneB k 6 = b) : decide (0 ≤ k ∧ k ≤ 5) = b := by
  rw [← h]; unfold toneB; exact decide_eq_decide.2 ⟨fun q => ⟨.inr rfl, q.1, by omega⟩, fun q => ⟨q.2.1, by omega⟩⟩
theorem mn4 (re im : Nat) (w : World) : (method 178 56 (.complex .f64 re im) "loop.example/g01198/impl.numbers").run Try.prog w = .ok (55, .complex .f64 re im) w := by kernel_rfl
theorem mn6 (x y : Int) (w : World) : (method 178 58 (.agg #[.int .i64 x, .int .i64 y]) "loop.example/g01198/impl.numbers").run Try.prog w = .ok (59, .agg #[.int .i64 x, .int .i64 y]) w := by kernel_rfl
theorem mp4 (re im : Nat) (w : World) : (method 178 56 (.complex .f64 re im) "loop.example/g01198/impl.power").run Try.prog w = .ok (56, .complex .f64 re im) w := by kernel_rfl
theorem mp6 (x y : Int) (w : World) : (method 178 58 (.agg #[.int .i64 x, .int .i64 y]) "loop.example/g01198/impl.power").run Try.prog w = .ok (60, .agg #[.int .i64 x, .int .i64 y]) w := by kernel_rfl
set_option maxHeartbeats 1000000 in
theorem fnumbers_any (re im : Nat) (x y : Int) (w : World) (hre : RepE Ieee.double re x 0) (him : RepE Ieee.double im y 0) (x1 : -6400000 ≤ x) (x2 : x ≤ 6400000) (y1 : -6400000 ≤ y) (y2 : y ≤ 6400000) :
    Calls Try.prog 55 #[.complex .f64 re im] w fun e w' => e = .returned (.tuple #[.int .i64 x, .int .i64 y]) ∧ Below w.heap.size w w' := by
  have b1 := back64' (P := Try.prog) 74 3 hre.rep (by omega) (by kernel_rfl) (by kernel_rfl)
  have b2 := back64' (P := Try.prog) 74 3 him.rep (by omega) (by kernel_rfl) (by kernel_rfl)
  clear hre him
  go_enter Try.func55, Try.ntmps55
  go_wp2
  go_ret2
  exact ⟨rfl, Below.refl _ _⟩
set_option maxHeartbeats 1000000 in
theorem snumbers_any (x y : Int) (w : World) :
    Calls Try.prog 59 #[.agg #[.int .i64 x, .int .i64 y]] w fun e w' => e = .returned (.tuple #[.int .i64 x, .int .i64 y]) ∧ Below w.heap.size w w' := by
  go_enter Try.func59, Try.ntmps59
  go_wp2_with fail
  go_quiet (fail)
  go_wp2
  go_ret2
  exact ⟨rfl, below_drewN (bel_alloc _ _) _⟩
set_option maxHeartbeats 1000000 in
theorem fpower_any (re im : Nat) (x y : Int) (w : World) (hre : RepE Ieee.double re x 0) (him : RepE Ieee.double im y 0) (x1 : -6400000 ≤ x) (x2 : x ≤ 6400000) (y1 : -6400000 ≤ y) (y2 : y ≤ 6400000) :
    Calls Try.prog 56 #[.complex .f64 re im] w fun e w' => e = .returned (.int .i64 (poI 4 x y)) ∧ Below w.heap.size w w' := by
  obtain ⟨p1, p2, p3⟩ := prods_in x1 x2 y1 y2
  have q1 : y * -y = -(y * y) := Int.mul_neg _ _
  have q2 : x * -y = -(x * y) := Int.mul_neg _ _
  have q3 : y * x = x * y := Int.mul_comm _ _
  obtain ⟨a, b, hm, ra, rb⟩ := cmul_gen hre him hre (repE_neg him) (by omega) (by omega) (by omega) (by omega)
  have hM := fun w => run_complex_mul (P := Try.prog) w 56 _ _ _ _ _ _ hm
  have hx : x * x - y * -y = poI 4 x y := by unfold poI; rw [if_pos rfl, q1]; omega
  rw [hx] at ra
  have hpo : poI 4 x y = x * x + y * y := if_pos rfl
  have b1 := back64' (P := Try.prog) 74 3 ra.rep (by omega) (by kernel_rfl) (by kernel_rfl)
  have hng : ∀ (b : Nat) (w : World), (Op.unary .neg (.float .f64 b)).run Try.prog w = .ok (.float .f64 (Op.negFloat .f64 b)) w := fun _ _ => rfl
  clear hre him hm ra rb p1 p2 p3 q1 q2 q3 hx hpo
  go_enter Try.func56, Try.ntmps56
  go_wp2
  go_ret
  exact ⟨rfl, Below.refl _ _⟩
set_option maxHeartbeats 1000000 in
theorem spower_any (x y : Int) (w : World) (x1 : -6400000 ≤ x) (x2 : x ≤ 6400000) (y1 : -6400000 ≤ y) (y2 : y ≤ 6400000) :
    Calls Try.prog 60 #[.agg #[.int .i64 x, .int .i64 y]] w fun e w' => e = .returned (.int .i64 (poI 6 x y)) ∧ Below w.heap.size w w' := by
  obtain ⟨p1, p2, p3⟩ := prods_in x1 x2 y1 y2
  have e1 : ∀ [Inhabited Unit], wrap64 (x * x) = x * x := IntWalk.wrap64_in _ (by omega)
  have e2 : ∀ [Inhabited Unit], wrap64 (y * y) = y * y := IntWalk.wrap64_in _ (by omega)
  have e3 : ∀ [Inhabited Unit], wrap64 (x * y) = x * y := IntWalk.wrap64_in _ (by omega)
  have e5 : ∀ [Inhabited Unit], wrap64 (x * x + x * y) = x * x + x * y := IntWalk.wrap64_in _ (by omega)
  have e6 : ∀ [Inhabited Unit], wrap64 (x * x + x * y + y * y) = x * x + x * y + y * y := IntWalk.wrap64_in _ (by omega)
  have HP := hid (show wrap64 (x * x + x * y + y * y) = poI 6 x y from IntWalk.wrap64_in _ (by omega))
  clear p1 p2 p3
  go_enter Try.func60, Try.ntmps60
  go_wp2
  go_ret
  exact ⟨by first | exact ret_i HP.out | rfl, bel_alloc _ _⟩


set_option maxHeartbeats 1000000 in
theorem numbersOfTone_4 (v : Value) (s : List Int) (k : Int) (w : World) (hs : Sl w v s) :
    Calls Try.prog 25 #[v, .int .i64 k, .int .i64 4] w fun e w' => e = .returned (.tuple #[.int .i64 (onI (ftB 4 s k) (toX s 4 k.toNat s.length)), .int .i64 (onI (ftB 4 s k) (toY s 4 k.toNat s.length)), .bool (ftB 4 s k)]) ∧ Below w.heap.size w w' := by
  have HS := hid hs
  clear hs
  cases h0 : sigB s
  · have HB0 := hid h0
    clear h0
    go_enter Try.func25, Try.ntmps25
    go_wp2_with fail
    refine (impl_IsSignal_is v s false _ HS.out HB0.out).mono ?_
    rintro e w' ⟨rfl, rfl⟩
    go_wp2_with fail
    go_ret3
    exact ⟨onII9_no (ft_n1 HB0.out), Below.refl _ _⟩
  · have HB0 := hid h0
    clear h0
    cases h1 : toneB k 4
    · have HB1 := hid h1
      clear h1
      go_enter Try.func25, Try.ntmps25
      go_wp2_with fail
      refine (impl_IsSignal_is v s true _ HS.out HB0.out).mono ?_
      rintro e w' ⟨rfl, rfl⟩
      go_wp2_with fail
      refine (isTone_is _ 4 false _ HB1.out).mono ?_
      rintro e w' ⟨rfl, rfl⟩
      go_wp2_with fail
      go_ret3
      exact ⟨onII9_no (ft_n2 HB1.out), Below.refl _ _⟩
    · have HB1 := hid h1
      clear h1
      obtain ⟨_, k0, k1⟩ := tone_t HB1.out
      obtain ⟨K, rfl⟩ : ∃ K : Nat, k = K := ⟨k.toNat, by omega⟩
      have hK : K < 4 := by omega
      have HG := hid (sigB_t HB0.out)
      obtain ⟨⟨X1, X2⟩, ⟨Y1, Y2⟩⟩ := to_in (sig_at0 HG.out) 4 K s.length
      have hl64 := HG.out.1
      have xb : -6400000 ≤ toX s 4 K s.length ∧ toX s 4 K s.length ≤ 6400000 := by omega
      have yb : -6400000 ≤ toY s 4 K s.length ∧ toY s 4 K s.length ≤ 6400000 := by omega
      clear X1 X2 Y1 Y2 hl64
      go_enter Try.func25, Try.ntmps25
      go_wp2_with fail
      refine (impl_IsSignal_is v s true _ HS.out HB0.out).mono ?_
      rintro e w' ⟨rfl, rfl⟩
      go_wp2_with fail
      refine (isTone_is _ 4 true _ HB1.out).mono ?_
      rintro e w' ⟨rfl, rfl⟩
      have mn := mn4
      go_wp2_with fail
      refine (toneOf_4 v s K _ HS.out HG.out hK).mono ?_
      rintro e w1 ⟨⟨re, im, rfl, r1, r2⟩, hb⟩
      have R := hid (And.intro r1 r2)
      clear r1 r2
      go_wp2_with fail
      refine (fnumbers_any re im _ _ _ R.out.1 R.out.2 xb.1 xb.2 yb.1 yb.2).mono ?_
      rintro e w2 ⟨rfl, hb2⟩
      have HB2 := bel_step hb hb2
      go_wp2
      go_ret3
      exact ⟨onII9_yes (ft_t HB0.out HB1.out) rfl rfl, HB2⟩


set_option maxHeartbeats 400000 in
theorem impl_FourTone_any (v : Value) (s : List Int) (k : Int) (w : World) (hs : Sl w v s) :
    Calls Try.prog 10 #[v, .int .i64 k] w fun e w' => e = .returned (.tuple #[.int .i64 (onI (ftB 4 s k) (toX s 4 k.toNat s.length)), .int .i64 (onI (ftB 4 s k) (toY s 4 k.toNat s.length)), .bool (ftB 4 s k)]) ∧ Below w.heap.size w w' := by
  go_enter Try.func10, Try.ntmps10
  go_wp2_with fail
  refine (numbersOfTone_4 v s k _ hs).mono ?_
  rintro e w2 ⟨rfl, hb⟩
  go_wp2
  go_ret3
  exact ⟨rfl, hb⟩


set_option maxHeartbeats 1000000 in
theorem spec_FourTone_any (v : Value) (s : List Int) (k : Int) (w : World) (hs : Sl w v s) :
    Calls Try.prog 8 #[v, .int .i64 k] w fun e w' => e = .returned (.tuple #[.int .i64 (onI (ftB 4 s k) (toX s 4 k.toNat s.length)), .int .i64 (onI (ftB 4 s k) (toY s 4 k.toNat s.length)), .bool (ftB 4 s k)]) ∧ Below w.heap.size w w' := by
  have HS := hid hs
  clear hs
  cases h0 : sigB s
  · have HB0 := hid h0
    clear h0
    go_enter Try.func8, Try.ntmps8
    go_wp2_with fail
    refine (wdSignal_is v s false _ HS.out HB0.out).mono ?_
    rintro e w' ⟨rfl, rfl⟩
    go_wp2_with fail
    go_ret3
    exact ⟨onII9_no (ft_n1 HB0.out), Below.refl _ _⟩
  · have HB0 := hid h0
    clear h0
    cases h1 : toneB k 4
    · have HB1 := hid h1
      clear h1
      go_enter Try.func8, Try.ntmps8
      go_wp2_with fail
      refine (wdSignal_is v s true _ HS.out HB0.out).mono ?_
      rintro e w' ⟨rfl, rfl⟩
      go_wp2_with fail
      refine (l1In_is _ _ _ false _ (t4_in HB1.out)).mono ?_
      rintro e w' ⟨rfl, rfl⟩
      go_wp2_with fail
      go_ret3
      exact ⟨onII9_no (ft_n2 HB1.out), Below.refl _ _⟩
    · have HB1 := hid h1
      clear h1
      obtain ⟨_, k0, k1⟩ := tone_t HB1.out
      obtain ⟨K, rfl⟩ : ∃ K : Nat, k = K := ⟨k.toNat, by omega⟩
      have hK : K < 4 := by omega
      have HG := hid (sigB_t HB0.out)
      obtain ⟨⟨X1, X2⟩, ⟨Y1, Y2⟩⟩ := to_in (sig_at0 HG.out) 4 K s.length
      have hl64 := HG.out.1
      have xb : -6400000 ≤ toX s 4 K s.length ∧ toX s 4 K s.length ≤ 6400000 := by omega
      have yb : -6400000 ≤ toY s 4 K s.length ∧ toY s 4 K s.length ≤ 6400000 := by omega
      clear X1 X2 Y1 Y2 hl64
      go_enter Try.func8, Try.ntmps8
      go_wp2_with fail
      refine (wdSignal_is v s true _ HS.out HB0.out).mono ?_
      rintro e w' ⟨rfl, rfl⟩
      go_wp2_with fail
      refine (l1In_is _ _ _ true _ (t4_in HB1.out)).mono ?_
      rintro e w' ⟨rfl, rfl⟩
      go_wp2_with fail
      refine (tnTone_4 v s K _ HS.out HG.out hK).mono ?_
      rintro e w1 ⟨rfl, hb⟩
      go_wp2_with fail
      go_quiet (fail)
      go_wp2
      go_ret3
      exact ⟨onII9_yes (ft_t HB0.out HB1.out) rfl rfl, below_drewN (bel_step hb (bel_alloc _ _)) _⟩


set_option maxHeartbeats 1000000 in
theorem numbersOfTone_6 (v : Value) (s : List Int) (k : Int) (w : World) (hs : Sl w v s) :
    Calls Try.prog 25 #[v, .int .i64 k, .int .i64 6] w fun e w' => e = .returned (.tuple #[.int .i64 (onI (ftB 6 s k) (toX s 6 k.toNat s.length)), .int .i64 (onI (ftB 6 s k) (toY s 6 k.toNat s.length)), .bool (ftB 6 s k)]) ∧ Below w.heap.size w w' := by
  have HS := hid hs
  clear hs
  cases h0 : sigB s
  · have HB0 := hid h0
    clear h0
    go_enter Try.func25, Try.ntmps25
    go_wp2_with fail
    refine (impl_IsSignal_is v s false _ HS.out HB0.out).mono ?_
    rintro e w' ⟨rfl, rfl⟩
    go_wp2_with fail
    go_ret3
    exact ⟨onII9_no (ft_n1 HB0.out), Below.refl _ _⟩
  · have HB0 := hid h0
    clear h0
    cases h1 : toneB k 6
    · have HB1 := hid h1
      clear h1
      go_enter Try.func25, Try.ntmps25
      go_wp2_with fail
      refine (impl_IsSignal_is v s true _ HS.out HB0.out).mono ?_
      rintro e w' ⟨rfl, rfl⟩
      go_wp2_with fail
      refine (isTone_is _ 6 false _ HB1.out).mono ?_
      rintro e w' ⟨rfl, rfl⟩
      go_wp2_with fail
      go_ret3
      exact ⟨onII9_no (ft_n2 HB1.out), Below.refl _ _⟩
    · have HB1 := hid h1
      clear h1
      obtain ⟨_, k0, k1⟩ := tone_t HB1.out
      obtain ⟨K, rfl⟩ : ∃ K : Nat, k = K := ⟨k.toNat, by omega⟩
      have hK : K < 6 := by omega
      have HG := hid (sigB_t HB0.out)
      obtain ⟨⟨X1, X2⟩, ⟨Y1, Y2⟩⟩ := to_in (sig_at0 HG.out) 6 K s.length
      have hl64 := HG.out.1
      have xb : -6400000 ≤ toX s 6 K s.length ∧ toX s 6 K s.length ≤ 6400000 := by omega
      have yb : -6400000 ≤ toY s 6 K s.length ∧ toY s 6 K s.length ≤ 6400000 := by omega
      clear X1 X2 Y1 Y2 hl64
      go_enter Try.func25, Try.ntmps25
      go_wp2_with fail
      refine (impl_IsSignal_is v s true _ HS.out HB0.out).mono ?_
      rintro e w' ⟨rfl, rfl⟩
      go_wp2_with fail
      refine (isTone_is _ 6 true _ HB1.out).mono ?_
      rintro e w' ⟨rfl, rfl⟩
      have mn := mn6
      go_wp2_with fail
      refine (toneOf_6 v s K _ HS.out HG.out hK).mono ?_
      rintro e w1 ⟨rfl, hb⟩
      go_wp2_with fail
      refine (snumbers_any _ _ _).mono ?_
      rintro e w2 ⟨rfl, hb2⟩
      have HB2 := bel_step hb hb2
      go_wp2
      go_ret3
      exact ⟨onII9_yes (ft_t HB0.out HB1.out) rfl rfl, HB2⟩


set_option maxHeartbeats 400000 in
theorem impl_SixTone_any (v : Value) (s : List Int) (k : Int) (w : World) (hs : Sl w v s) :
    Calls Try.prog 13 #[v, .int .i64 k] w fun e w' => e = .returned (.tuple #[.int .i64 (onI (ftB 6 s k) (toX s 6 k.toNat s.length)), .int .i64 (onI (ftB 6 s k) (toY s 6 k.toNat s.length)), .bool (ftB 6 s k)]) ∧ Below w.heap.size w w' := by
  go_enter Try.func13, Try.ntmps13
  go_wp2_with fail
  refine (numbersOfTone_6 v s k _ hs).mono ?_
  rintro e w2 ⟨rfl, hb⟩
  go_wp2
  go_ret3
  exact ⟨rfl, hb⟩


set_option maxHeartbeats 1000000 in
theorem spec_SixTone_any (v : Value) (s : List Int) (k : Int) (w : World) (hs : Sl w v s) :
    Calls Try.prog 12 #[v, .int .i64 k] w fun e w' => e = .returned (.tuple #[.int .i64 (onI (ftB 6 s k) (toX s 6 k.toNat s.length)), .int .i64 (onI (ftB 6 s k) (toY s 6 k.toNat s.length)), .bool (ftB 6 s k)]) ∧ Below w.heap.size w w' := by
  have HS := hid hs
  clear hs
  cases h0 : sigB s
  · have HB0 := hid h0
    clear h0
    go_enter Try.func12, Try.ntmps12
    go_wp2_with fail
    refine (wdSignal_is v s false _ HS.out HB0.out).mono ?_
    rintro e w' ⟨rfl, rfl⟩
    go_wp2_with fail
    go_ret3
    exact ⟨onII9_no (ft_n1 HB0.out), Below.refl _ _⟩
  · have HB0 := hid h0
    clear h0
    cases h1 : toneB k 6
    · have HB1 := hid h1
      clear h1
      go_enter Try.func12, Try.ntmps12
      go_wp2_with fail
      refine (wdSignal_is v s true _ HS.out HB0.out).mono ?_
      rintro e w' ⟨rfl, rfl⟩
      go_wp2_with fail
      refine (l1In_is _ _ _ false _ (t6_in HB1.out)).mono ?_
      rintro e w' ⟨rfl, rfl⟩
      go_wp2_with fail
      go_ret3
      exact ⟨onII9_no (ft_n2 HB1.out), Below.refl _ _⟩
    · have HB1 := hid h1
      clear h1
      obtain ⟨_, k0, k1⟩ := tone_t HB1.out
      obtain ⟨K, rfl⟩ : ∃ K : Nat, k = K := ⟨k.toNat, by omega⟩
      have hK : K < 6 := by omega
      have HG := hid (sigB_t HB0.out)
      obtain ⟨⟨X1, X2⟩, ⟨Y1, Y2⟩⟩ := to_in (sig_at0 HG.out) 6 K s.length
      have hl64 := HG.out.1
      have xb : -6400000 ≤ toX s 6 K s.length ∧ toX s 6 K s.length ≤ 6400000 := by omega
      have yb : -6400000 ≤ toY s 6 K s.length ∧ toY s 6 K s.length ≤ 6400000 := by omega
      clear X1 X2 Y1 Y2 hl64
      go_enter Try.func12, Try.ntmps12
      go_wp2_with fail
      refine (wdSignal_is v s true _ HS.out HB0.out).mono ?_
      rintro e w' ⟨rfl, rfl⟩
      go_wp2_with fail
      refine (l1In_is _ _ _ true _ (t6_in HB1.out)).mono ?_
      rintro e w' ⟨rfl, rfl⟩
      go_wp2_with fail
      refine (tnTone_6 v s K _ HS.out HG.out hK).mono ?_
      rintro e w1 ⟨rfl, hb⟩
      go_wp2_with fail
      go_quiet (fail)
      go_wp2
      go_ret3
      exact ⟨onII9_yes (ft_t HB0.out HB1.out) rfl rfl, below_drewN (bel_step hb (bel_alloc _ _)) _⟩


set_option maxHeartbeats 1600000 in
theorem gen_FnExactFourTone (s : List Int) (k : Int) (u_s : Option Addr) (l_s c_s : Nat) (r0 : Int) (r1 : Int) (r2 : Bool) (w : World) (hs_s : Sl w (.slice u_s l_s c_s) s) (ll_s : l_s ≤ 1048576) (hl_s : s.length ≤ 1048576) (hspec : ∀ (w : World) (v_s : Value), Sl w v_s s → Calls Try.prog 8 #[v_s, .int .i64 k] w fun e w' => e = .returned (.tuple #[.int .i64 r0, .int .i64 r1, .bool r2]) ∧ Below w.heap.size w w') (himpl : ∀ (w : World) (v_s : Value), Sl w v_s s → Calls Try.prog 10 #[v_s, .int .i64 k] w fun e w' => e = .returned (.tuple #[.int .i64 r0, .int .i64 r1, .bool r2]) ∧ Below w.heap.size w w') :
    Calls Try.prog 3 #[.slice u_s l_s c_s, .int .i64 k] w fun e w' => e = .returned (.bool true) ∧ Below w.heap.size w w' := by
  have HSs := hid hs_s
  clear hs_s
  have HSP := hid hspec
  have HIM := hid himpl
  clear hspec himpl
  all_goals cases r2
  all_goals
    go_enter Try.func3, Try.ntmps3
    go_wp2_with fail
    refine (toIntS_any _ s _ HSs.out (by omega)).mono ?_
    rintro e w1 ⟨g_As0, hg_As0, rfl, K_As0, hb⟩
    have B1 := hb
    have hz1 : w.heap.size ≤ w1.heap.size := by first | exact hb.size | (have := hb.size; simp at this; omega)
    have As0 := K_As0.res hg_As0
    go_wp2_with fail
    refine (HSP.out _ _ As0.sl).mono ?_
    rintro e w2 ⟨rfl, hb⟩
    have B2 := bel_step B1 hb
    have hz2 : w1.heap.size ≤ w2.heap.size := hb.size
    have As0_2 := As0.kept hb
    go_wp2_with fail
    refine (toIntS_any _ s _ (HSs.out.kept B2) (by omega)).mono ?_
    rintro e w3 ⟨g_Xs, hg_Xs, rfl, K_Xs, hb⟩
    have B3 := bel_step B2 hb
    have hz3 : w2.heap.size ≤ w3.heap.size := hb.size
    have Xs := K_Xs.res hg_Xs
    have hlt_Xs := K_Xs.lt
    have hxl_Xs : g_Xs < w3.heap.size := Xs.lt rfl
    go_wp2_with fail
    refine (HIM.out _ _ Xs.sl).mono ?_
    rintro e w4 ⟨rfl, hb⟩
    have B4 := bel_step B3 hb
    have hz4 : w3.heap.size ≤ w4.heap.size := hb.size
    have Xs_4 := Xs.kept hb
    go_wp2_with fail
    refine (toIntS_any _ s _ (HSs.out.kept B4) (by omega)).mono ?_
    rintro e w5 ⟨g_TXs, hg_TXs, rfl, K_TXs, hb⟩
    have B5 := bel_step B4 hb
    have hz5 : w4.heap.size ≤ w5.heap.size := hb.size
    have Xs_5 := Xs_4.kept hb
    have TXs := K_TXs.res hg_TXs
    go_wp2_with fail
    refine (eqIntS_same _ _ s _ Xs_5.sl TXs.sl (by omega)).mono ?_
    rintro e w6 ⟨rfl, hb⟩
    have B6 := bel_step B5 hb
    have hz6 : w5.heap.size ≤ w6.heap.size := hb.size
    have Xs_6 := Xs_5.kept hb
    have TXs_6 := TXs.kept hb
    go_wp2_with fail
    go_ret
    exact ⟨rfl, B6⟩


set_option maxHeartbeats 1600000 in
theorem walk_FnExactFourTone (w : World) (u_s : Option Addr) (l_s c_s : Nat) (z_s : List Int) (hr_s : IsRow .i64 w u_s l_s c_s z_s) (k : Int) (w_k : (Lit.int .i64 k).wf = true) :
    Calls Try.prog 3 #[.slice u_s l_s c_s, .int .i64 k] w fun e w' => e = .returned (.bool true) ∧ Below w.heap.size w w' := by
  obtain ⟨hs_s, hlen_s, hin_s⟩ := hr_s.sl
  generalize z_s.take l_s = s at hs_s hlen_s hin_s
  clear hr_s
  obtain ⟨k_1, k_2⟩ := bounds_i64 w_k
  by_cases hbig_s : 1048576 < l_s
  · clear hs_s hlen_s hin_s
    go_enter Try.func3, Try.ntmps3
    go_wp2
    go_ret
    exact ⟨rfl, Below.refl _ _⟩
  · have hq_s : l_s ≤ 1048576 := by omega
    exact gen_FnExactFourTone s k _ _ _ _ _ _ w hs_s (by omega) (by omega)  (fun w v_s h_s => spec_FourTone_any v_s s k w h_s) (fun w v_s h_s => impl_FourTone_any v_s s k w h_s)


set_option maxHeartbeats 1600000 in
theorem gen_FnExactSixTone (s : List Int) (k : Int) (u_s : Option Addr) (l_s c_s : Nat) (r0 : Int) (r1 : Int) (r2 : Bool) (w : World) (hs_s : Sl w (.slice u_s l_s c_s) s) (ll_s : l_s ≤ 1048576) (hl_s : s.length ≤ 1048576) (hspec : ∀ (w : World) (v_s : Value), Sl w v_s s → Calls Try.prog 12 #[v_s, .int .i64 k] w fun e w' => e = .returned (.tuple #[.int .i64 r0, .int .i64 r1, .bool r2]) ∧ Below w.heap.size w w') (himpl : ∀ (w : World) (v_s : Value), Sl w v_s s → Calls Try.prog 13 #[v_s, .int .i64 k] w fun e w' => e = .returned (.tuple #[.int .i64 r0, .int .i64 r1, .bool r2]) ∧ Below w.heap.size w w') :
    Calls Try.prog 4 #[.slice u_s l_s c_s, .int .i64 k] w fun e w' => e = .returned (.bool true) ∧ Below w.heap.size w w' := by
  have HSs := hid hs_s
  clear hs_s
  have HSP := hid hspec
  have HIM := hid himpl
  clear hspec himpl
  all_goals cases r2
  all_goals
    go_enter Try.func4, Try.ntmps4
    go_wp2_with fail
    refine (toIntS_any _ s _ HSs.out (by omega)).mono ?_
    rintro e w1 ⟨g_As0, hg_As0, rfl, K_As0, hb⟩
    have B1 := hb
    have hz1 : w.heap.size ≤ w1.heap.size := by first | exact hb.size | (have := hb.size; simp at this; omega)
    have As0 := K_As0.res hg_As0
    go_wp2_with fail
    refine (HSP.out _ _ As0.sl).mono ?_
    rintro e w2 ⟨rfl, hb⟩
    have B2 := bel_step B1 hb
    have hz2 : w1.heap.size ≤ w2.heap.size := hb.size
    have As0_2 := As0.kept hb
    go_wp2_with fail
    refine (toIntS_any _ s _ (HSs.out.kept B2) (by omega)).mono ?_
    rintro e w3 ⟨g_Xs, hg_Xs, rfl, K_Xs, hb⟩
    have B3 := bel_step B2 hb
    have hz3 : w2.heap.size ≤ w3.heap.size := hb.size
    have Xs := K_Xs.res hg_Xs
    have hlt_Xs := K_Xs.lt
    have hxl_Xs : g_Xs < w3.heap.size := Xs.lt rfl
    go_wp2_with fail
    refine (HIM.out _ _ Xs.sl).mono ?_
    rintro e w4 ⟨rfl, hb⟩
    have B4 := bel_step B3 hb
    have hz4 : w3.heap.size ≤ w4.heap.size := hb.size
    have Xs_4 := Xs.kept hb
    go_wp2_with fail
    refine (toIntS_any _ s _ (HSs.out.kept B4) (by omega)).mono ?_
    rintro e w5 ⟨g_TXs, hg_TXs, rfl, K_TXs, hb⟩
    have B5 := bel_step B4 hb
    have hz5 : w4.heap.size ≤ w5.heap.size := hb.size
    have Xs_5 := Xs_4.kept hb
    have TXs := K_TXs.res hg_TXs
    go_wp2_with fail
    refine (eqIntS_same _ _ s _ Xs_5.sl TXs.sl (by omega)).mono ?_
    rintro e w6 ⟨rfl, hb⟩
    have B6 := bel_step B5 hb
    have hz6 : w5.heap.size ≤ w6.heap.size := hb.size
    have Xs_6 := Xs_5.kept hb
    have TXs_6 := TXs.kept hb
    go_wp2_with fail
    go_ret
    exact ⟨rfl, B6⟩


set_option maxHeartbeats 1600000 in
theorem walk_FnExactSixTone (w : World) (u_s : Option Addr) (l_s c_s : Nat) (z_s : List Int) (hr_s : IsRow .i64 w u_s l_s c_s z_s) (k : Int) (w_k : (Lit.int .i64 k).wf = true) :
    Calls Try.prog 4 #[.slice u_s l_s c_s, .int .i64 k] w fun e w' => e = .returned (.bool true) ∧ Below w.heap.size w w' := by
  obtain ⟨hs_s, hlen_s, hin_s⟩ := hr_s.sl
  generalize z_s.take l_s = s at hs_s hlen_s hin_s
  clear hr_s
  obtain ⟨k_1, k_2⟩ := bounds_i64 w_k
  by_cases hbig_s : 1048576 < l_s
  · clear hs_s hlen_s hin_s
    go_enter Try.func4, Try.ntmps4
    go_wp2
    go_ret
    exact ⟨rfl, Below.refl _ _⟩
  · have hq_s : l_s ≤ 1048576 := by omega
    exact gen_FnExactSixTone s k _ _ _ _ _ _ w hs_s (by omega) (by omega)  (fun w v_s h_s => spec_SixTone_any v_s s k w h_s) (fun w v_s h_s => impl_SixTone_any v_s s k w h_s)

end Go.Proofs.Ytaihopcmckkpbaa
