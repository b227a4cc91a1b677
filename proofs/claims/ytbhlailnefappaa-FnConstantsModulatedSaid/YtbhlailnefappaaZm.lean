
import Derived.Test.YtbhlailnefappaaKh
import Derived.Test.YtbhlailnefappaaZl
import Derived.Test.YtbhlailnefappaaQo
import Derived.Test.YtbhlailnefappaaQn
import Derived.Test.YtbhlailnefappaaEt
import Derived.Deep.RegionHeld3
namespace Go.Proofs.Ytbhlailnefappaa
open Go.RowKit BitX Go.MemX Go.ChV
set_option linter.unusedVariables false
theorem sumL_tk (xs : List Int) (k : Nat) (hk : k ≤ xs.length) : sumL (xs.take k) = sumF k (at0 xs) := by
  induction k with
  | zero => rfl
  | succ k ih =>
    obtain ⟨x, hx⟩ := get_lt xs k (by omega)
    rw [sumL_step xs k x hx, ih (by omega), sumF_succ, at0_of hx]
theorem rep_at {x : Int} {L i : Nat} (h : i < L) : (List.replicate L x)[i]? = some x := by simp [h]
theorem rep_in9 {m x : Int} {L : Nat} (x1 : -m ≤ x) (x2 : x ≤ m) : InP (-m) m (List.replicate L x) := fun y hy => by rw [List.eq_of_mem_replicate hy]; exact ⟨x1, x2⟩
theorem bl_bits {m x : Int} {L : Nat} (hL : L ≤ 200) : BitP (moBL m (List.replicate L x)) := by
  refine ⟨by rw [moBL, tab_len, List.length_replicate]; exact hL, fun y hy => ?_⟩
  unfold moBL tab at hy
  obtain ⟨i, _, rfl⟩ := List.mem_map.1 hy
  exact biI_in _
theorem bl_len (m x : Int) (L : Nat) : (moBL m (List.replicate L x)).length = L := by rw [moBL, tab_len, List.length_replicate]
/-- sums of the first bits of equal samples lie in a band -/
theorem bl_band {m x : Int} {L : Nat} (hm : 1 ≤ m) (x1 : -m ≤ x) (x2 : x ≤ m) (hL : L ≤ 200) (i : Nat) (hi : i ≤ L) :
    -m ≤ (i : Int) * x - m * suB (moBL m (List.replicate L x)) i ∧ (i : Int) * x - m * suB (moBL m (List.replicate L x)) i ≤ m - 1 := by
  cases i with
  | zero => rw [suB_zero]; simp; omega
  | succ j =>
    have h := (mo_rep hm x1 x2 (bl_len m x L).symm (bl_bits hL)).1 rfl j (by omega)
    rwa [show ((j + 1 : Nat) : Int) = (j : Int) + 1 from by omega]
theorem bl_near {m x : Int} {L : Nat} (hm : 1 ≤ m) (x1 : -m ≤ x) (x2 : x ≤ m) (hL : L ≤ 200) (k t u : Nat) (ht : t + k ≤ L) (hu : u + k ≤ L) :
    wiO (moBL m (List.replicate L x)) k t ≤ wiO (moBL m (List.replicate L x)) k u + 1 := by
  have hb := bl_bits (m := m) (x := x) hL
  have e1 := wn_wi hb (k := k) (i := t) (by rw [bl_len]; exact ht)
  have e2 := wn_wi hb (k := k) (i := u) (by rw [bl_len]; exact hu)
  have a1 := bl_band hm x1 x2 hL t (by omega)
  have a2 := bl_band hm x1 x2 hL (t + k) ht
  have a3 := bl_band hm x1 x2 hL u (by omega)
  have a4 := bl_band hm x1 x2 hL (u + k) hu
  unfold wnI at e1 e2
  rw [Int.natCast_add, Int.add_mul] at a2 a4
  generalize hA : wiO (moBL m (List.replicate L x)) k t = A at *
  generalize hB : wiO (moBL m (List.replicate L x)) k u = B at *
  have f1 : suB (moBL m (List.replicate L x)) (t + k) = suB (moBL m (List.replicate L x)) t + (2 * A - k) := by omega
  have f2 : suB (moBL m (List.replicate L x)) (u + k) = suB (moBL m (List.replicate L x)) u + (2 * B - k) := by omega
  rw [f1, Int.mul_add] at a2
  rw [f2, Int.mul_add] at a4
  generalize m * suB (moBL m (List.replicate L x)) t = p at *
  generalize m * suB (moBL m (List.replicate L x)) u = q at *
  generalize (t : Int) * x = r at *
  generalize (u : Int) * x = s at *
  generalize (k : Int) * x = v at *
  have g : m * (2 * A - k) - m * (2 * B - k) = 2 * (m * (A - B)) := by
    rw [Int.mul_sub, Int.mul_sub, Int.mul_sub, ← Int.mul_assoc, ← Int.mul_assoc, Int.mul_comm m 2, Int.mul_assoc, Int.mul_assoc]; omega
  generalize m * (2 * A - k) = X at *
  generalize m * (2 * B - k) = Y at *
  by_cases h : A ≤ B + 1
  · exact h
  · exfalso
    have h2 : m * 2 ≤ m * (A - B) := Int.mul_le_mul_of_nonneg_left (by omega) (by omega)
    generalize m * (A - B) = Z at *
    omega
theorem mx_is {bs : List Int} (hb : BitP bs) {k : Nat} (T : Nat) (h1 : 1 ≤ T) (hT : T + k ≤ bs.length + 1) : ∃ t, t < T ∧ mxO bs k T = wiO bs k t := by
  induction T with
  | zero => omega
  | succ T ih =>
    rw [mxO_succ]
    have hw := wi_in hb (k := k) (t := T) (by omega)
    by_cases h0 : T = 0
    · subst h0
      exact ⟨0, by omega, by show mostI 0 _ = _; unfold mostI; split <;> omega⟩
    · obtain ⟨t, ht, e⟩ := ih (by omega) (by omega)
      rw [e]
      unfold mostI
      split
      · exact ⟨t, by omega, rfl⟩
      · exact ⟨T, by omega, rfl⟩
theorem mn_is {bs : List Int} (hb : BitP bs) {k : Nat} (T : Nat) (h1 : 1 ≤ T) (hT : T + k ≤ bs.length + 1) : ∃ t, t < T ∧ mnO bs k T = wiO bs k t := by
  induction T with
  | zero => omega
  | succ T ih =>
    rw [mnO_succ]
    have hw := wi_in hb (k := k) (t := T) (by omega)
    by_cases h0 : T = 0
    · subst h0
      exact ⟨0, by omega, by show leastI (k : Int) _ = _; unfold leastI; split <;> omega⟩
    · obtain ⟨t, ht, e⟩ := ih (by omega) (by omega)
      rw [e]
      unfold leastI
      split
      · exact ⟨t, by omega, rfl⟩
      · exact ⟨T, by omega, rfl⟩
theorem bl_bal {m x : Int} {L : Nat} (hm : 1 ≤ m) (x1 : -m ≤ x) (x2 : x ≤ m) (hL : L ≤ 200) : isB (moBL m (List.replicate L x)) = true ∧ bitB (moBL m (List.replicate L x)) = true := by
  have hb := bl_bits (m := m) (x := x) hL
  have h1 : bitB (moBL m (List.replicate L x)) = true := by
    unfold bitB
    rw [Bool.and_eq_true, List.all_eq_true]
    exact ⟨decide_eq_true hb.1, fun y hy => decide_eq_true (hb.2 y hy)⟩
  refine ⟨?_, h1⟩
  unfold isB
  rw [h1, Bool.true_and]
  refine decide_eq_true fun k hk => ?_
  rw [bl_len] at hk
  unfold gapO
  rw [bl_len]
  obtain ⟨t, ht, e1⟩ := mx_is hb (k := k + 1) (L + 1 - (k + 1)) (by omega) (by rw [bl_len]; omega)
  obtain ⟨u, hu, e2⟩ := mn_is hb (k := k + 1) (L + 1 - (k + 1)) (by omega) (by rw [bl_len]; omega)
  rw [e1, e2]
  have := bl_near hm x1 x2 hL (k + 1) t u (by omega) (by omega)
  omega
/-- equal samples: the state by either definition -/
theorem mo_dp {m x : Int} {L : Nat} (i : Nat) (hi : i ≤ L) : moS m (List.replicate L x) i = dpS m x i := by
  induction i with
  | zero => rfl
  | succ i ih =>
    have ih := ih (by omega)
    have hx : at0 (List.replicate L x) i = x := at0_of (rep_at (by omega))
    by_cases h : 0 ≤ dpS m x i + x
    · rw [moS_t (by rw [ih, hx]; exact h), (dp_t h).1, ih, hx]
    · rw [moS_f (by rw [ih, hx]; omega), (dp_f (by omega)).1, ih, hx]
theorem dp_again {m x : Int} {p : Nat} (h0 : dpS m x p = 0) (i : Nat) : dpS m x (p + i) = dpS m x i := by
  induction i with
  | zero => rw [Nat.add_zero, h0]; rfl
  | succ i ih =>
    by_cases h : 0 ≤ dpS m x i + x
    · rw [(dp_t h).1, show p + (i + 1) = (p + i) + 1 from rfl, (dp_t (by rw [ih]; exact h)).1, ih]
    · rw [(dp_f (by omega)).1, show p + (i + 1) = (p + i) + 1 from rfl, (dp_f (by rw [ih]; omega)).1, ih]
theorem bl_again {m x : Int} {L p i : Nat} (h0 : dpS m x p = 0) (hi : i < L) (hp : p ≤ i) : Go.ChV.moB m (List.replicate L x) i = Go.ChV.moB m (List.replicate L x) (i - p) := by
  unfold Go.ChV.moB
  rw [mo_dp i (by omega), mo_dp (i - p) (by omega), show i = p + (i - p) from by omega, dp_again h0, show p + (i - p) - p = i - p from by omega, ← show i = p + (i - p) from by omega]
  congr 2
  rw [at0_of (x := x) (rep_at (by omega)), at0_of (x := x) (rep_at (by omega))]
/-- those that a test lets through that holds between any two of them -/
theorem wh_next {F : Int → Bool} (lo : Int) (hF : ∀ a b c : Int, a ≤ b → b ≤ c → F a = true → F c = true → F b = true) (c : Nat) :
    whV lo F c = [] ∨ ∃ (a : Int) (k : Nat), whV lo F c = tab k (fun i => a + (i : Int)) ∧ 1 ≤ k ∧ lo ≤ a ∧ a + k ≤ lo + c ∧ ∀ y, a ≤ y → y < a + k → F y = true := by
  induction c with
  | zero => left; rfl
  | succ c ih =>
    cases h : F (lo + c)
    · rw [whV_f h]
      rcases ih with ih | ⟨a, k, e, h1, h2, h3, h4⟩
      · left; exact ih
      · right; exact ⟨a, k, e, h1, h2, by omega, h4⟩
    · rw [whV_t h]
      right
      rcases ih with ih | ⟨a, k, e, h1, h2, h3, h4⟩
      · refine ⟨lo + c, 1, by rw [ih]; simp [tab], by omega, by omega, by omega, fun y hy1 hy2 => ?_⟩
        rw [show y = lo + c from by omega]; exact h
      · have hend : a + k = lo + c := by
          by_cases he : a + k = lo + c
          · exact he
          · exfalso
            have hin : F (a + k) = true := hF a (a + k) (lo + c) (by omega) (by omega) (h4 a (by omega) (by omega)) h
            -- then it was let through
            have hmem : a + k ∈ whV lo F c := by
              have : ∀ n : Nat, ∀ y, lo ≤ y → y < lo + n → F y = true → y ∈ whV lo F n := by
                intro n
                induction n with
                | zero => intro y h1 h2 _; omega
                | succ n ihn =>
                  intro y h1 h2 h3
                  by_cases hy : y = lo + n
                  · subst hy; rw [whV_t h3]; simp
                  · have := ihn y h1 (by omega) h3
                    cases hn : F (lo + n)
                    · rw [whV_f hn]; exact this
                    · rw [whV_t hn]; exact List.mem_append_left _ this
              exact this c (a + k) (by omega) (by omega) hin
            rw [e] at hmem
            unfold tab at hmem
            obtain ⟨i, hi, he2⟩ := List.mem_map.1 hmem
            rw [List.mem_range] at hi
            omega
        refine ⟨a, k + 1, ?_, by omega, h2, by omega, fun y hy1 hy2 => ?_⟩
        · rw [e, tab_step, hend]
        · by_cases hy : y = lo + c
          · rw [hy]; exact h
          · exact h4 y hy1 (by omega)
theorem co_mid {m : Int} {bs : List Int} (hm : 1 ≤ m) (hb : BitP bs) {a b c : Int} (h1 : a ≤ b) (h2 : b ≤ c) (a1 : -m ≤ a) (c1 : c ≤ m) (ha : coF m bs a = true) (hc : coF m bs c = true) : coF m bs b = true := by
  have ha := (mo_rep hm a1 (by omega) rfl hb).1 (of_decide_eq_true ha)
  have hc := (mo_rep hm (by omega) c1 rfl hb).1 (of_decide_eq_true hc)
  refine decide_eq_true ((mo_rep hm (by omega) (by omega) rfl hb).2 fun j hj => ?_)
  have := ha j hj
  have := hc j hj
  have := up_mono (i := j) h1
  have := up_mono (i := j) h2
  omega
/-- the constants of a list, one by one -/
theorem co_row {m : Int} {bs : List Int} (hm : 1 ≤ m) (hb : BitP bs) : ∃ (a : Int) (k : Nat), whV (-m) (coF m bs) (2 * m + 1).toNat = tab k (fun i => a + (i : Int)) ∧ k ≤ 2 * m + 1 ∧ ∀ i, i < k → (-m ≤ a + (i : Int) ∧ a + (i : Int) ≤ m) ∧ moBL m (List.replicate bs.length (a + (i : Int))) = bs := by
  have hF : ∀ a b c : Int, a ≤ b → b ≤ c → (fun y => decide (-m ≤ y ∧ y ≤ m) && coF m bs y) a = true → (fun y => decide (-m ≤ y ∧ y ≤ m) && coF m bs y) c = true → (fun y => decide (-m ≤ y ∧ y ≤ m) && coF m bs y) b = true := by
    intro a b c h1 h2 ha hc
    simp only [Bool.and_eq_true, decide_eq_true_eq] at ha hc ⊢
    exact ⟨by omega, co_mid hm hb h1 h2 ha.1.1 hc.1.2 ha.2 hc.2⟩
  have hsame : ∀ c : Nat, (c : Int) ≤ 2 * m + 1 → whV (-m) (coF m bs) c = whV (-m) (fun y => decide (-m ≤ y ∧ y ≤ m) && coF m bs y) c := by
    intro c
    induction c with
    | zero => intro _; rfl
    | succ c ih =>
      intro hc
      have hd : decide (-m ≤ -m + (c : Int) ∧ -m + (c : Int) ≤ m) = true := decide_eq_true (by omega)
      cases h : coF m bs (-m + c)
      · rw [whV_f h, whV_f (by show (decide _ && _) = false; rw [h, Bool.and_false]), ih (by omega)]
      · rw [whV_t h, whV_t (by show (decide _ && _) = true; rw [h, hd]; rfl), ih (by omega)]
  rw [hsame _ (by omega)]
  rcases wh_next (-m) hF (2 * m + 1).toNat with h | ⟨a, k, e, h1, h2, h3, h4⟩
  · exact ⟨0, 0, by rw [h]; rfl, by omega, fun i hi => by omega⟩
  · refine ⟨a, k, e, by omega, fun i hi => ?_⟩
    have h5 := h4 (a + i) (by omega) (by omega)
    simp only [Bool.and_eq_true, decide_eq_true_eq] at h5
    exact ⟨h5.1, of_decide_eq_true h5.2⟩
theorem wn_sum {bs : List Int} {k i : Nat} (h : i + k ≤ bs.length) : wnI bs k i = sumL ((bs.take (i + k)).drop i) := by
  have e : sumL (bs.take (i + k)) = sumL ((bs.take (i + k)).take i) + sumL ((bs.take (i + k)).drop i) := by rw [← sumL_append, List.take_append_drop]
  rw [List.take_take, Nat.min_eq_left (by omega), sumL_tk _ _ (by omega), sumL_tk _ _ (by omega)] at e
  unfold wnI suB
  omega

/-- lists of the call's own, as they can grow -/
def GivesOO (w : World) (xs : List Int) (e : Ending) (w' : World) : Prop :=
  ∃ v u, e = .returned (.tuple #[v, u]) ∧ w'.ownsRow w.heap.size 3 1 v xs.length (xs.map (Value.int .i64)) ∧ Below w.heap.size w w'
def GivesOw (w : World) (xs : List Int) (e : Ending) (w' : World) : Prop :=
  ∃ v, e = .returned v ∧ w'.ownsRow w.heap.size 3 1 v xs.length (xs.map (Value.int .i64)) ∧ Below w.heap.size w w'
theorem owns_mono {w : World} {B C : Nat} {E : TypeId} {size : Nat} {v : Value} {n : Nat} {xs : List Value} (h : w.ownsRow B E size v n xs) (hC : C ≤ B) : w.ownsRow C E size v n xs := by
  obtain ⟨h1, h2⟩ := h
  refine ⟨h1, ?_⟩
  rcases h2 with h2 | ⟨g, cap, cur, hv, hg, r⟩
  · exact .inl h2
  · exact .inr ⟨g, cap, cur, hv, Nat.le_trans hC hg, r⟩
theorem Gets.undrew {g : Nat} {X w : World} (h : Gets g X.drew w) : Gets g X w := ⟨((Below.refl g X).drew).trans h.1, h.2⟩
theorem Cur.dr {g K : Nat} {w : World} (h : Cur g K w) : Cur g K w.drew := h
theorem own_shape {w : World} {base : Nat} {e : TypeId} {size : Nat} {v : Value} {n : Nat} {xs : List Value} (h : w.ownsRow base e size v n xs) : ∃ a cap, v = .slice a n cap := by
  obtain ⟨_, ⟨rfl, rfl⟩ | ⟨g, cap, cur, hv, _⟩⟩ := h
  · exact ⟨none, 0, rfl⟩
  · exact ⟨_, cap, hv⟩
def lnV : Value → Nat
  | .slice _ n _ => n
  | _ => 0
/-- what a call leaves that draws a scale and a number -/
def DrawsC (g K : Nat) (w : World) (e : Ending) (w' : World) : Prop := (∃ m x, e = .returned (.tuple #[.int .i64 m, .int .i64 x]) ∧ (0 ≤ m ∧ m ≤ 1001) ∧ -4611686018427387904 ≤ x ∧ x ≤ 4611686018427387904) ∧ Cur g K w' ∧ Gets g w w'
theorem tm_d {t M : Int} (t1 : 0 ≤ t) (t2 : t ≤ 40) (s1 : 3 ≤ M) (s2 : M ≤ 41) : ∃ d, (∀ [Inhabited Unit], t.tmod M = d) ∧ (∀ [Inhabited Unit], t % M = d) ∧ 0 ≤ d ∧ d ≤ 40 := by
  have h := Int.emod_nonneg t (show M ≠ 0 by omega)
  have h2 := Int.emod_lt_of_pos t (show 0 < M by omega)
  refine ⟨t % M, fun {_} => Int.tmod_eq_emod_of_nonneg t1, fun {_} => rfl, h, by omega⟩
theorem wr_d {d s : Int} (d1 : 0 ≤ d) (d2 : d ≤ 40) (s1 : 1 ≤ s) (s2 : s ≤ 20) : (∀ [Inhabited Unit], IntKind.i64.wrap d = d) ∧ (∀ [Inhabited Unit], IntKind.i64.wrap (d - s) = d - s) := ⟨fun {_} => IntWalk.i64_in _ (by omega), fun {_} => IntWalk.i64_in _ (by omega)⟩
theorem ls_at (m : Int) : ∃ s : Int, leastI 20 (mostI 1 m) = s ∧ 1 ≤ s ∧ s ≤ 20 := by
  refine ⟨_, rfl, ?_, ?_⟩
  · unfold leastI mostI; split <;> split <;> omega
  · unfold leastI mostI; split <;> split <;> omega
set_option maxHeartbeats 1000000 in
set_option maxHeartbeats 1000000 in
theorem iCommon_any (x y : Nat) (w : World) (hx : x ≤ 5000) (hy : y ≤ 5000) :
    Calls Try.prog 31 #[.int .i64 (x : Int), .int .i64 (y : Int)] w fun e w' => e = .returned (.int .i64 ((Nat.gcd x y : Nat) : Int)) ∧ Below w.heap.size w w' := by
  obtain ⟨G, hG⟩ : ∃ G, G = Nat.gcd x y := ⟨_, rfl⟩
  have HG := hid hG.symm
  rw [← hG]
  clear hG
  go_enter Try.func31, Try.ntmps31
  go_wp2_with fail
  go_loopw [0, 1] (fun aa bb wr => ∃ x' y' : Nat, aa = .int .i64 (x' : Int) ∧ bb = .int .i64 (y' : Int) ∧ Hid (Nat.gcd x' y' = G) ∧ x' ≤ 5000 ∧ y' ≤ 5000 ∧ Below w.heap.size w wr)
    (fun _ bb _ => (intOf bb).toNat)
  case atStart => exact ⟨x, y, rfl, rfl, HG, hx, hy, Below.refl _ _⟩
  case round =>
    clear HG hx hy
    obtain ⟨x, y, rfl, rfl, HG, hx, hy, hb⟩ := hrel
    by_cases h0 : y = 0
    · subst h0
      have hg : x = G := by rw [← HG.out, Nat.gcd_zero_right]
      have Hg := hid hg
      clear HG hg
      go_wp2
      go_ret
      exact ⟨ret_i (by rw [Hg.out]), hb⟩
    · have hy1 : (1 : Int) ≤ (y : Int) := by omega
      have hst := gcd_step x y
      rw [HG.out] at hst
      have hm := tmod_nat x y
      have hlt : x % y < y := Nat.mod_lt _ (by omega)
      generalize x % y = z at *
      have Hst := hid hst
      have e1 : IntKind.i64.wrap ((x : Int).tmod (y : Int)) = (z : Int) := by rw [hm]; exact IntWalk.i64_in _ (by omega)
      have e2 : IntKind.i64.wrap (z : Int) = (z : Int) := IntWalk.i64_in _ (by omega)
      have hy0 : (y : Int) ≠ 0 := by omega
      have hyb : ((y : Int) == 0) = false := by rw [beq_eq_false_iff_ne]; exact hy0
      clear hst h0
      go_wp2_with fail
      go_quiet (fail)
      go_wp2
      go_roundw
      case rel => exact ⟨y, z, rfl, rfl, Hst, by omega, by omega, below_drewN hb _⟩
      case measure => simp [intOf]; omega



set_option maxHeartbeats 1000000 in
theorem dmOneO_any (m : Int) (v : Value) (s : List Int) (w : World) (hs : Sl w v s) (hl : s.length ≤ 1000) (hi : InP (-m) m s) (m1 : 1 ≤ m) (m2 : m ≤ 1000) :
    Calls Try.prog 47 #[.int .i64 m, v] w (GivesOO w (moBL m s)) := by
  obtain ⟨aa, n, cap, rfl, hn, hrd⟩ := id hs.rd
  have Hn := hid hn
  have Hrd := hid hrd
  have HJ := hid hi
  have hl' : n ≤ 1000 := by omega
  obtain ⟨i0, hi0, hz0, hz1, hz2⟩ := info_parts iint
  clear hs hn hrd hi hl
  go_enter Try.func47, Try.ntmps47
  go_wp2_with fail
  go_loopw [6, 7, 8, 15] (fun v u st i wr => ∃ c : Nat, c ≤ n ∧ st = .int .i64 (moS m s c) ∧ i = .int .i64 c ∧ wr.ownsRow w.heap.size 3 1 v c ((tab c (Go.ChV.moB m s)).map (Value.int .i64)) ∧ wr.ownsRow w.heap.size 3 1 u c ((tab c (fun i => moS m s (i + 1))).map (Value.int .i64)) ∧ Apart v u ∧ Below w.heap.size w wr)
    (fun _ _ _ i _ => n - (intOf i).toNat)
  case atStart => exact ⟨0, by omega, rfl, rfl, World.ownsRow_nil _ _ _ _, World.ownsRow_nil _ _ _ _, Apart.nil _, Below.refl _ _⟩
  case round =>
    obtain ⟨c, hc, rfl, rfl, hown1, hown2, hap, hb⟩ := hrel
    have hsz : w.heap.size ≤ wr.heap.size := hb.size
    by_cases hlk : c < n
    · obtain ⟨x, hkx⟩ := get_lt s c (by rw [← Hn.out]; exact hlk)
      obtain ⟨bb, oo, hix, hbb, hce⟩ := (Hrd.out.kept hb).at (P := Try.prog) (T := 24) n cap uslice sone hkx hlk
      obtain ⟨x1, x2⟩ := HJ.out.at hkx
      obtain ⟨s1, s2⟩ := moS_in (s := s) m1 (at0_inp HJ.out (by omega)) c
      have hst1 := tab_step c (Go.ChV.moB m s)
      have hst2 : tab (c + 1) (fun i => moS m s (i + 1)) = tab c (fun i => moS m s (i + 1)) ++ [moS m s (c + 1)] := tab_step c (fun i => moS m s (i + 1))
      have hax := at0_of hkx
      by_cases hs0 : 0 ≤ moS m s c + x
      · have hsn := moS_t (m := m) (s := s) (i := c) (by rw [hax]; exact hs0)
        have hbt : Go.ChV.moB m s c = 1 := by unfold Go.ChV.moB; rw [hax]; exact biI_t hs0
        rw [hax] at hsn
        rw [hbt] at hst1
        rw [hsn] at hst2
        generalize hz : moS m s c = z at *
        generalize tab c (Go.ChV.moB m s) = ys at hst1 hown1
        generalize tab c (fun i => moS m s (i + 1)) = zs at hst2 hown2
        have Hob1 := hid (ownsRow_base hown1)
        have Hob2 := hid (ownsRow_base hown2)
        have Hsn := hid hsn
        have Hst1 := hid hst1
        have Hst2 := hid hst2
        have Hown1 := hid hown1
        have Hown2 := hid hown2
        have Hap := hid hap
        clear hkx hsn hst1 hst2 hown1 hown2 hap hz hax hbt
        go_wp2_with (at_builtin; refine wpList_append_own2 _ rfl _ _ 24 rfl w.heap.size 3 i0 (.int .i64 0) 1 8 uslice hi0 hz0 hz1 hz2 rfl (by decide) _ _ _ rfl (Hown1.out.alloc _) ⟨wr.heap.size, 0, none⟩ 1 1 [.int .i64 (1)] rfl rfl ?c1 ?c2 ?c3 ?c4 ?c5 ?_)
        case c1 => exact cell_one_new _ _ _
        case c2 => intro u hu; simp at hu; subst hu; rfl
        case c3 => unfold maxLen; omega
        case c4 => omega
        case c5 => simp; omega
        intro v' w3 hown3 hgrow hnew
        have hb3 : Below w.heap.size w w3 := (hb.alloc hsz _).grown hgrow (by simp; omega) (fun j hj => Hob1.out j hj)
        have hsz3 := hb3.size
        have hu3 := owns_other (Hown2.out.alloc _) hgrow Hap.out
        have hap3 := Apart.grown Hap.out hnew (fun j hj => by have := (Hown2.out.lt j hj).2; omega)
        have Hown3 := hid hown3
        have Hu3 := hid hu3
        have Hap3 := hid hap3
        clear hown3 hgrow hnew hu3 hap3
        go_wp2_with (at_builtin; refine wpList_append_own2 _ rfl _ _ 24 rfl w.heap.size 3 i0 (.int .i64 0) 1 8 uslice hi0 hz0 hz1 hz2 rfl (by decide) _ _ _ rfl (Hu3.out.alloc _) ⟨w3.heap.size, 0, none⟩ 1 1 [.int .i64 (z + x - m)] rfl rfl ?c1 ?c2 ?c3 ?c4 ?c5 ?_)
        case c1 => exact cell_one_new _ _ _
        case c2 => intro u hu; simp at hu; subst hu; rfl
        case c3 => unfold maxLen; omega
        case c4 => omega
        case c5 => simp; omega
        intro u' w4 hown4 hgrow hnew
        have hb4 : Below w.heap.size w w4 := (hb3.alloc hsz3 _).grown hgrow (by simp; omega) (fun j hj => Hob2.out j hj)
        have hv4 := owns_other (Hown3.out.alloc _) hgrow Hap3.out.symm
        have hap4 := (Apart.grown Hap3.out.symm hnew (fun j hj => by have := (Hown3.out.lt j hj).2; omega)).symm
        have Hown4 := hid hown4
        have Hv4 := hid hv4
        have Hap4 := hid hap4
        clear hown4 hgrow hnew hv4 hap4
        go_wp2
        go_roundw
        case rel => exact ⟨c + 1, by omega, by rw [Hsn.out], by go_num, by rw [Hst1.out, List.map_append]; exact Hv4.out, by rw [Hst2.out, List.map_append]; exact Hown4.out, Hap4.out, hb4⟩
        case measure => simp [intOf]; omega
      · replace hs0 : moS m s c + x < 0 := by omega
        have hsn := moS_f (m := m) (s := s) (i := c) (by rw [hax]; exact hs0)
        have hbt : Go.ChV.moB m s c = -1 := by unfold Go.ChV.moB; rw [hax]; exact biI_f hs0
        rw [hax] at hsn
        rw [hbt] at hst1
        rw [hsn] at hst2
        generalize hz : moS m s c = z at *
        have e0 : z + x - -m = z + x + m := by omega
        generalize tab c (Go.ChV.moB m s) = ys at hst1 hown1
        generalize tab c (fun i => moS m s (i + 1)) = zs at hst2 hown2
        have Hob1 := hid (ownsRow_base hown1)
        have Hob2 := hid (ownsRow_base hown2)
        have Hsn := hid hsn
        have Hst1 := hid hst1
        have Hst2 := hid hst2
        have Hown1 := hid hown1
        have Hown2 := hid hown2
        have Hap := hid hap
        clear hkx hsn hst1 hst2 hown1 hown2 hap hz hax hbt
        go_wp2_with (at_builtin; refine wpList_append_own2 _ rfl _ _ 24 rfl w.heap.size 3 i0 (.int .i64 0) 1 8 uslice hi0 hz0 hz1 hz2 rfl (by decide) _ _ _ rfl (Hown1.out.alloc _) ⟨wr.heap.size, 0, none⟩ 1 1 [.int .i64 (-1)] rfl rfl ?c1 ?c2 ?c3 ?c4 ?c5 ?_)
        case c1 => exact cell_one_new _ _ _
        case c2 => intro u hu; simp at hu; subst hu; rfl
        case c3 => unfold maxLen; omega
        case c4 => omega
        case c5 => simp; omega
        intro v' w3 hown3 hgrow hnew
        have hb3 : Below w.heap.size w w3 := (hb.alloc hsz _).grown hgrow (by simp; omega) (fun j hj => Hob1.out j hj)
        have hsz3 := hb3.size
        have hu3 := owns_other (Hown2.out.alloc _) hgrow Hap.out
        have hap3 := Apart.grown Hap.out hnew (fun j hj => by have := (Hown2.out.lt j hj).2; omega)
        have Hown3 := hid hown3
        have Hu3 := hid hu3
        have Hap3 := hid hap3
        clear hown3 hgrow hnew hu3 hap3
        go_wp2_with (at_builtin; refine wpList_append_own2 _ rfl _ _ 24 rfl w.heap.size 3 i0 (.int .i64 0) 1 8 uslice hi0 hz0 hz1 hz2 rfl (by decide) _ _ _ rfl (Hu3.out.alloc _) ⟨w3.heap.size, 0, none⟩ 1 1 [.int .i64 (z + x + m)] rfl rfl ?c1 ?c2 ?c3 ?c4 ?c5 ?_)
        case c1 => exact cell_one_new _ _ _
        case c2 => intro u hu; simp at hu; subst hu; rfl
        case c3 => unfold maxLen; omega
        case c4 => omega
        case c5 => simp; omega
        intro u' w4 hown4 hgrow hnew
        have hb4 : Below w.heap.size w w4 := (hb3.alloc hsz3 _).grown hgrow (by simp; omega) (fun j hj => Hob2.out j hj)
        have hv4 := owns_other (Hown3.out.alloc _) hgrow Hap3.out.symm
        have hap4 := (Apart.grown Hap3.out.symm hnew (fun j hj => by have := (Hown3.out.lt j hj).2; omega)).symm
        have Hown4 := hid hown4
        have Hv4 := hid hv4
        have Hap4 := hid hap4
        clear hown4 hgrow hnew hv4 hap4
        go_wp2
        go_roundw
        case rel => exact ⟨c + 1, by omega, by rw [Hsn.out], by go_num, by rw [Hst1.out, List.map_append]; exact Hv4.out, by rw [Hst2.out, List.map_append]; exact Hown4.out, Hap4.out, hb4⟩
        case measure => simp [intOf]; omega
    · have hge : (n : Int) ≤ (c : Int) := by omega
      have hkn : c = s.length := by rw [← Hn.out]; omega
      have Hk := hid hkn
      have Hown1 := hid hown1
      have Hown2 := hid hown2
      clear hkn hlk hown1 hown2 hap
      go_wp2
      go_ret2
      have ho1 := Hown1.out
      have ho2 := Hown2.out
      rw [Hk.out] at ho1 ho2
      exact ⟨_, _, rfl, by rw [moBL, tab_len]; exact ho1, hb⟩

set_option maxHeartbeats 1000000 in
theorem dmConstantO_any (m x : Int) (L : Nat) (w : World) (hL : L ≤ 200) (m1 : 1 ≤ m) (m2 : m ≤ 1000) (x1 : -m ≤ x) (x2 : x ≤ m) :
    Calls Try.prog 64 #[.int .i64 m, .int .i64 x, .int .i64 (L : Int)] w (GivesOw w (moBL m (List.replicate L x))) := by
  have hmk := run_make_ints (P := Try.prog) 24 3 uslice iint L (by omega)
  obtain ⟨R, hR⟩ : ∃ R, R = List.replicate L x := ⟨_, rfl⟩
  have hRl : R.length = L := by rw [hR]; simp
  have hRat : ∀ c, c < L → R[c]? = some x := fun c hc => by rw [hR]; simp [hc]
  have hRin : InP (-m) m R := by rw [hR]; exact rep_in9 x1 x2
  rw [← hR]
  have HRat := hid hRat
  have HRl := hid hRl
  have HRin := hid hRin
  clear hRat hRl hRin hR
  go_enter Try.func64, Try.ntmps64
  go_wp2_with fail
  go_loopw [15] (fun i wr => ∃ c : Nat, c ≤ L ∧ i = .int .i64 c ∧ Blk 3 wr w.heap.size (upTo R c) ∧ Below w.heap.size w wr)
    (fun i _ => L - (intOf i).toNat)
  case atStart => exact ⟨0, by omega, rfl, by rw [upTo_zero, HRl.out]; exact heap_alloc_new _ _, bel_alloc _ _⟩
  case round =>
    obtain ⟨c, hc, rfl, hblk, hb⟩ := hrel
    have hsz : w.heap.size ≤ wr.heap.size := hb.size
    by_cases hlk : c < L
    · have hcd := hblk.cell (upTo_get R c (by rw [HRl.out]; exact hlk))
      have hfd := hblk.free c
      have Hblk := hid hblk
      clear hblk
      go_wp2
      go_roundw
      case rel => exact ⟨c + 1, by omega, by go_num, by rw [← upTo_step R c x (HRat.out c hlk)]; exact Hblk.out.set c _, hb.setCell (Nat.le_refl _) _⟩
      case measure => simp [intOf]; omega
    · have hge : (L : Int) ≤ (c : Int) := by omega
      have hkn : c = R.length := by rw [HRl.out]; omega
      rw [hkn, upTo_full] at hblk
      have hsl := hblk.sl
      rw [HRl.out] at hsl
      have Hsl := hid hsl
      have HB := hid hb
      clear hkn hlk hblk hsl hb
      go_wp2_with fail
      refine (dmOneO_any m _ R _ Hsl.out (by rw [HRl.out]; omega) HRin.out m1 m2).mono ?_
      rintro e w2 ⟨u1, u2, rfl, hr1, hb2⟩
      go_wp2_with fail
      go_ret
      exact ⟨_, rfl, owns_mono hr1 HB.out.size, bel_step HB.out hb2⟩





set_option maxHeartbeats 4000000 in
theorem constant_any (g K : Nat) (w : World) (hc : Cur g K w) (hK : K ≤ 999970000) :
    Calls Try.prog 56 #[.pointer (some ⟨g, 0, none⟩)] w (DrawsC g (K + 20) w) := by
  have HC0 := hid hc
  have HB0 := hid (Gets.refl g w)
  have hgl := hc.lt
  clear hc
  go_enter Try.func56, Try.ntmps56
  go_wp2_with fail
  refine (pick_any g (K) 20 _ HC0.out (by omega) (by omega) (by omega)).mono ?_
  rintro e w1 ⟨⟨r, rfl, r1, r2⟩, hc1, hb1⟩
  have HC1 := hid hc1
  have HB1 := hid (HB0.out.trans hb1)
  clear hc1 hb1
  have e1 : IntKind.i64.wrap (1 + r) = 1 + r := (w64s (by omega) (by omega)).1
  have e2 : wrap64 (1 + r) = 1 + r := (w64s (by omega) (by omega)).2
  go_wp2_with fail
  refine (one_any g (K + 2) 12 _ HC1.out (by omega) (by omega) (by omega)).mono ?_
  rintro e w2 ⟨⟨q, rfl⟩, hc2, hb2⟩
  have HC2 := hid hc2
  have HB2 := hid (HB1.out.trans hb2)
  clear hc2 hb2
  cases q
  · skip
    go_wp2_with fail
    refine (pick_any g (K + 2 + 2) 10 _ HC2.out (by omega) (by omega) (by omega)).mono ?_
    rintro e w3 ⟨⟨c, rfl, c1, c2⟩, hc3, hb3⟩
    have HC3 := hid hc3
    have HB3 := hid (HB2.out.trans hb3)
    clear hc3 hb3
    by_cases hc0 : c = 0
    · have q0 : (c == 0) = true := beq_iff_eq.2 hc0
      go_wp2_with fail
      refine (among_any g (K + 2 + 2 + 2) w3.heap.size [1 + r, -(1 + r), 1 + r + 1, -(1 + r) - 1, 4611686018427387904] (-1003) 4611686018427387904 _ (HC3.out.kept (bel_alloc _ _)) (by omega) (heap_alloc_new _ _) (Nat.ne_of_gt HC3.out.lt) (by simp) (by simp) (by intro z hz; simp at hz; omega)).mono ?_
      rintro e w4 ⟨⟨x, rfl, x1, x2⟩, hc4, hb4'⟩
      have HB4 := hid (HB3.out.trans (((Gets.refl g w3).alloc HC3.out.lt (.cells (intsA [1 + r, -(1 + r), 1 + r + 1, -(1 + r) - 1, 4611686018427387904]) 3)).trans hb4'))
      have HC4 := hid hc4
      clear hc4 hb4'
      go_wp2
      go_ret2
      exact ⟨⟨_, _, rfl, ⟨by omega, by omega⟩, by omega, by omega⟩, HC4.out.mono (by omega), HB4.out⟩
    · have q0 : (c == 0) = false := beq_eq_false_iff_ne.2 hc0
      by_cases hc1 : c = 1
      · have q1 : (c == 1) = true := beq_iff_eq.2 hc1
        clear hc0
        go_wp2
        go_ret2
        exact ⟨⟨_, _, rfl, ⟨by omega, by omega⟩, by omega, by omega⟩, HC3.out.mono (by omega), HB3.out⟩
      · have q1 : (c == 1) = false := beq_eq_false_iff_ne.2 hc1
        obtain ⟨s, hs, s1, s2⟩ := ls_at (1 + r)
        have KL := fun (W : World) => l1Least_any 20 (mostI 1 (1 + r)) W
        rw [hs] at KL
        have KL := hid KL
        obtain ⟨Mo, hMo⟩ : ∃ Mo, Mo = 2 * s + 1 := ⟨_, rfl⟩
        have mo1 : 3 ≤ Mo := by omega
        have mo2 : Mo ≤ 41 := by omega
        have nb : (Mo == 0) = false := beq_eq_false_iff_ne.2 (by omega)
        have nz : Mo ≠ 0 := by omega
        have D0 : ∀ [Inhabited Unit], 2 * s + 1 = Mo := fun {_} => hMo.symm
        have D3 : ∀ [Inhabited Unit], IntKind.i64.wrap (2 * s) = 2 * s := fun {_} => IntWalk.i64_in _ (by omega)
        have D4 : ∀ [Inhabited Unit], IntKind.i64.wrap Mo = Mo := fun {_} => IntWalk.i64_in _ (by omega)
        clear hMo
        clear hs hc0 hc1
        go_wp2_with fail
        go_region_held3 (fun W => True ∧ True) (first | exact hS | assumption | exact ⟨trivial, trivial⟩) (first | (go_at_call 76; refine (l1Most_any 1 (1 + r) _).mono ?_; rintro e w' ⟨rfl, rfl⟩) | (go_at_call 75; refine (KL.out _).mono ?_; rintro e w' ⟨rfl, rfl⟩) | (go_at_call 59; (first | refine (pick_any g (K + 2 + 2 + 2) 41 _ (Cur.dr HC3.out) (by omega) (by omega) (by omega)).mono ?_ | refine (pick_any g (K + 2 + 2 + 2) 41 _ HC3.out (by omega) (by omega) (by omega)).mono ?_); rintro e w4 ⟨⟨t, rfl, t1, t2⟩, hc4, hb4⟩; obtain ⟨d, D1, D2, d1, d2⟩ := tm_d t1 t2 mo1 mo2; obtain ⟨D5, D6⟩ := wr_d d1 d2 s1 s2; have HC4 := hid hc4; (first | have HB4 := hid (HB3.out.trans hb4) | have HB4 := hid (HB3.out.trans (Gets.undrew hb4))); clear hc4 hb4))
        go_wp2
        go_ret2
        exact ⟨⟨_, _, rfl, ⟨by omega, by omega⟩, by omega, by omega⟩, HC4.out.mono (by omega), HB4.out⟩
  · skip
    go_wp2_with fail
    refine (among_any g (K + 2 + 2) w2.heap.size [0, 1, 1000, 1001] (0) (1001) _ (HC2.out.kept (bel_alloc _ _)) (by omega) (heap_alloc_new _ _) (Nat.ne_of_gt HC2.out.lt) (by decide) (by decide) (by decide)).mono ?_
    rintro e w3 ⟨⟨m, rfl, m1, m2⟩, hc3, hb3'⟩
    have hb3 : Gets g w2 w3 := ((Gets.refl g w2).alloc HC2.out.lt (.cells (intsA [0, 1, 1000, 1001]) 3)).trans hb3'
    clear hb3'
    have HC3 := hid hc3
    have HB3 := hid (HB2.out.trans hb3)
    clear hc3 hb3
    go_wp2_with fail
    refine (pick_any g (K + 2 + 2 + 2) 10 _ HC3.out (by omega) (by omega) (by omega)).mono ?_
    rintro e w4 ⟨⟨c, rfl, c1, c2⟩, hc4, hb4⟩
    have HC4 := hid hc4
    have HB4 := hid (HB3.out.trans hb4)
    clear hc4 hb4
    by_cases hc0 : c = 0
    · have q0 : (c == 0) = true := beq_iff_eq.2 hc0
      go_wp2_with fail
      refine (among_any g (K + 2 + 2 + 2 + 2) w4.heap.size [m, -(m), m + 1, -(m) - 1, 4611686018427387904] (-1003) 4611686018427387904 _ (HC4.out.kept (bel_alloc _ _)) (by omega) (heap_alloc_new _ _) (Nat.ne_of_gt HC4.out.lt) (by simp) (by simp) (by intro z hz; simp at hz; omega)).mono ?_
      rintro e w5 ⟨⟨x, rfl, x1, x2⟩, hc5, hb5'⟩
      have HB5 := hid (HB4.out.trans (((Gets.refl g w4).alloc HC4.out.lt (.cells (intsA [m, -(m), m + 1, -(m) - 1, 4611686018427387904]) 3)).trans hb5'))
      have HC5 := hid hc5
      clear hc5 hb5'
      go_wp2
      go_ret2
      exact ⟨⟨_, _, rfl, ⟨by omega, by omega⟩, by omega, by omega⟩, HC5.out.mono (by omega), HB5.out⟩
    · have q0 : (c == 0) = false := beq_eq_false_iff_ne.2 hc0
      by_cases hc1 : c = 1
      · have q1 : (c == 1) = true := beq_iff_eq.2 hc1
        clear hc0
        go_wp2
        go_ret2
        exact ⟨⟨_, _, rfl, ⟨by omega, by omega⟩, by omega, by omega⟩, HC4.out.mono (by omega), HB4.out⟩
      · have q1 : (c == 1) = false := beq_eq_false_iff_ne.2 hc1
        obtain ⟨s, hs, s1, s2⟩ := ls_at (m)
        have KL := fun (W : World) => l1Least_any 20 (mostI 1 (m)) W
        rw [hs] at KL
        have KL := hid KL
        obtain ⟨Mo, hMo⟩ : ∃ Mo, Mo = 2 * s + 1 := ⟨_, rfl⟩
        have mo1 : 3 ≤ Mo := by omega
        have mo2 : Mo ≤ 41 := by omega
        have nb : (Mo == 0) = false := beq_eq_false_iff_ne.2 (by omega)
        have nz : Mo ≠ 0 := by omega
        have D0 : ∀ [Inhabited Unit], 2 * s + 1 = Mo := fun {_} => hMo.symm
        have D3 : ∀ [Inhabited Unit], IntKind.i64.wrap (2 * s) = 2 * s := fun {_} => IntWalk.i64_in _ (by omega)
        have D4 : ∀ [Inhabited Unit], IntKind.i64.wrap Mo = Mo := fun {_} => IntWalk.i64_in _ (by omega)
        clear hMo
        clear hs hc0 hc1
        go_wp2_with fail
        go_region_held3 (fun W => True ∧ True) (first | exact hS | assumption | exact ⟨trivial, trivial⟩) (first | (go_at_call 76; refine (l1Most_any 1 (m) _).mono ?_; rintro e w' ⟨rfl, rfl⟩) | (go_at_call 75; refine (KL.out _).mono ?_; rintro e w' ⟨rfl, rfl⟩) | (go_at_call 59; (first | refine (pick_any g (K + 2 + 2 + 2 + 2) 41 _ (Cur.dr HC4.out) (by omega) (by omega) (by omega)).mono ?_ | refine (pick_any g (K + 2 + 2 + 2 + 2) 41 _ HC4.out (by omega) (by omega) (by omega)).mono ?_); rintro e w5 ⟨⟨t, rfl, t1, t2⟩, hc5, hb5⟩; obtain ⟨d, D1, D2, d1, d2⟩ := tm_d t1 t2 mo1 mo2; obtain ⟨D5, D6⟩ := wr_d d1 d2 s1 s2; have HC5 := hid hc5; (first | have HB5 := hid (HB4.out.trans hb5) | have HB5 := hid (HB4.out.trans (Gets.undrew hb5))); clear hc5 hb5))
        go_wp2
        go_ret2
        exact ⟨⟨_, _, rfl, ⟨by omega, by omega⟩, by omega, by omega⟩, HC5.out.mono (by omega), HB5.out⟩


/-- what is left of a function's code behind its first k statements, and the statement there -/
def cRest : Nat → Code → Code
  | 0, c => c
  | k + 1, .seq _ b => cRest k b
  | _ + 1, c => c
def cHead : Nat → Code → Code
  | 0, .seq a _ => a
  | 0, c => c
  | k + 1, .seq _ b => cHead k b
  | _ + 1, c => c
def cThen : Code → Code
  | .cond _ t _ => t
  | .seq _ b => cThen b
  | c => c
def bodyOf (f : Func) : Code := f.body.getD .skip
def qB (g K : Nat) (w0 : World) : Exit → Act → World → Prop := bodyPost Try.prog Try.f69 (DrawsL g K 203 w0)

set_option maxRecDepth 20000 in
set_option maxHeartbeats 8000000 in
theorem bits_tail (g J K : Nat) (w wa : World) (hgl : g < w.heap.size) (hJ : J + 410 ≤ K) (hK : K ≤ 999980000) (v : Value) (n : Nat) (xs : List Int) (hn : n ≤ 20) (hxl : xs.length = n) (hown : wa.ownsRow w.heap.size 3 1 v n (xs.map (Value.int .i64))) (hc : Cur g J wa) (hb : Gets g w wa) (x1 x2 x4 x5 x6 x7 x8 x9 x10 x11 x12 x13 x14 x15 x16 x17 x18 x19 x20 x21 x22 x23 x24 x25 x26 x27 x28 x29 x30 x31 x32 x33 x34 x35 x36 x37 x38 x39 x40 x41 x42 x43 x44 x45 x46 x47 x48 x49 x50 x51 x52 x53 x54 x55 x56 : Value) :
    Code.wp Try.prog (cRest 3 (bodyOf Try.f69)) (qB g K w) { tmps := List.toArray ((.pointer (some ⟨g, 0, none⟩)) :: x1 :: x2 :: (v) :: x4 :: x5 :: x6 :: x7 :: x8 :: x9 :: x10 :: x11 :: x12 :: x13 :: x14 :: x15 :: x16 :: x17 :: x18 :: x19 :: x20 :: x21 :: x22 :: x23 :: x24 :: x25 :: x26 :: x27 :: x28 :: x29 :: x30 :: x31 :: x32 :: x33 :: x34 :: x35 :: x36 :: x37 :: x38 :: x39 :: x40 :: x41 :: x42 :: x43 :: x44 :: x45 :: x46 :: x47 :: x48 :: x49 :: x50 :: x51 :: x52 :: x53 :: x54 :: x55 :: x56 :: []), defers := [] } wa := by
  simp only [bodyOf, Try.f69, Option.getD_some, cRest]
  obtain ⟨i0, hi0, hz0, hz1, hz2⟩ := info_parts iint
  have HCA := hid hc
  have HBA := hid hb
  have Hxl := hid hxl
  have Hown1 := hid hown
  have hsz : w.heap.size ≤ wa.heap.size := hb.1.size
  clear hc hb hxl hown
  go_wp2_with fail
  refine (pick_any g J 14 _ HCA.out (by omega) (by omega) (by omega)).mono ?_
  rintro e w2 ⟨⟨q, rfl, q1, q2⟩, hc2, hb2⟩
  have hs2 : wa.heap.size ≤ w2.heap.size := hb2.1.size
  have HC2 := hid hc2
  have HB2 := hid (HBA.out.trans hb2)
  have Hown2 := hid (ownsRow_gets Hown1.out hb2 hgl)
  clear hc2 hb2 Hown1 HCA HBA
  by_cases h0 : q = 0
  · have hq0 : (q == 0) = true := beq_iff_eq.2 h0
    go_wp2_with fail
    refine (among_any g (J + 2) w2.heap.size [0, 2, (-1)] (-1) 2 _ (HC2.out.kept (bel_alloc _ _)) (by omega) (heap_alloc_new _ _) (Nat.ne_of_gt HC2.out.lt) (by decide) (by decide) (by decide)).mono ?_
    rintro e w3 ⟨⟨x, rfl, x1, x2⟩, hc3, hb3⟩
    have hs3 : w2.heap.size ≤ w3.heap.size := by have h1 := hb3.1.size; have h2 := (bel_alloc w2 (.cells (intsA [0, 2, (-1)]) 3)).size; exact Nat.le_trans h2 h1
    have hb4 : Gets g w2 w3 := ((Gets.refl g w2).alloc HC2.out.lt (.cells (intsA [0, 2, (-1)]) 3)).trans hb3
    have HC9 := hid hc3
    have HB9 := hid (HB2.out.trans hb4)
    have Hown := hid (ownsRow_gets Hown2.out hb4 hgl)
    have Hob := hid (ownsRow_base Hown.out)
    clear hc3 hb3 hb4 HC2 HB2 Hown2
    go_wp2_with (at_builtin; refine wpList_append_own _ rfl _ _ 24 rfl w.heap.size 3 i0 (.int .i64 0) 1 8 uslice hi0 hz0 hz1 hz2 rfl (by decide) _ _ _ rfl (Hown.out.alloc _) ⟨w3.heap.size, 0, none⟩ 1 1 [.int .i64 (x)] rfl rfl ?c1 ?c2 ?c3 ?c4 ?c5 ?_)
    case c1 => exact cell_one_new _ _ _
    case c2 => intro u hu; simp at hu; subst hu; rfl
    case c3 => unfold maxLen; omega
    case c4 => omega
    case c5 => simp; omega
    intro v' w9 hown9 hgrow _
    have hb9 : Below w.heap.size w3 w9 := ((Below.refl w.heap.size w3).alloc (by omega) _).grown hgrow (by simp; omega) (fun j hj => Hob.out j hj)
    have Hc9 := hid (HC9.out.over hb9 hgl)
    have Hb9 := hid (HB9.out.over hb9 (Nat.le_refl _) hgl)
    have Hown9 := hid hown9
    clear hown9 hgrow hb9
    have ho := Hown9.out
    go_wp2
    unfold qB
    go_ret
    exact ⟨⟨_, xs ++ [x], rfl, Res.owns (by rw [List.length_append, Hxl.out, List.map_append]; exact ho), by rw [List.length_append, Hxl.out]; show n + 1 ≤ 203; omega⟩, Hc9.out.mono (by omega), Hb9.out⟩
  · have hq0 : (q == 0) = false := beq_eq_false_iff_ne.2 h0
    by_cases h1 : q = 1
    · have hq1 : (q == 1) = true := beq_iff_eq.2 h1
      clear h0
      go_wp2_with fail
      go_loopw [3] (fun v wr => ∃ (a : Option Addr) (n c : Nat) (xs : List Int), v = .slice a n c ∧ n ≤ 201 ∧ wr.ownsRow w.heap.size 3 1 (.slice a n c) n (xs.map (Value.int .i64)) ∧ xs.length = n ∧ Cur g (J + 2 + 2 * n) wr ∧ Gets g w wr)
        (fun v _ => 202 - lnV v)
      case atStart =>
        obtain ⟨a, c, rfl⟩ := own_shape Hown2.out
        exact ⟨a, n, c, xs, rfl, by omega, Hown2.out, Hxl.out, HC2.out.mono (by omega), HB2.out⟩
      case round =>
        obtain ⟨a, n, c, xs, rfl, hn65, hown, hxl, hcr, hbr⟩ := hrel
        have hsz : w.heap.size ≤ wr.heap.size := hbr.1.size
        have HCR := hid hcr
        have HBR := hid hbr
        have Hxl := hid hxl
        have Hown1 := hid hown
        clear hcr hbr hxl hown
        go_wp2_with fail
        refine (pick_any g (J + 2 + 2 * n) 2 _ HCR.out (by omega) (by omega) (by omega)).mono ?_
        rintro e w3 ⟨⟨t, rfl, t1, t2⟩, hc3, hb3⟩
        have hs3 : wr.heap.size ≤ w3.heap.size := hb3.1.size
        have HC9 := hid (hc3.mono (show J + 2 + 2 * n + 2 ≤ J + 2 + 2 * (n + 1) by omega))
        have HB9 := hid (HBR.out.trans hb3)
        have Hown := hid (ownsRow_gets Hown1.out hb3 hgl)
        have Hob := hid (ownsRow_base Hown.out)
        clear hc3 hb3 Hown1 HCR HBR
        by_cases hlt : (n : Int) < 200 + t
        · skip
          go_wp2_with (at_builtin; refine wpList_append_own _ rfl _ _ 24 rfl w.heap.size 3 i0 (.int .i64 0) 1 8 uslice hi0 hz0 hz1 hz2 rfl (by decide) _ _ _ rfl (Hown.out.alloc _) ⟨w3.heap.size, 0, none⟩ 1 1 [.int .i64 (1)] rfl rfl ?c1 ?c2 ?c3 ?c4 ?c5 ?_)
          case c1 => exact cell_one_new _ _ _
          case c2 => intro u hu; simp at hu; subst hu; rfl
          case c3 => unfold maxLen; omega
          case c4 => omega
          case c5 => simp; omega
          intro v' w9 hown9 hgrow _
          have hb9 : Below w.heap.size w3 w9 := ((Below.refl w.heap.size w3).alloc (by omega) _).grown hgrow (by simp; omega) (fun j hj => Hob.out j hj)
          have Hc9 := hid (HC9.out.over hb9 hgl)
          have Hb9 := hid (HB9.out.over hb9 (Nat.le_refl _) hgl)
          have Hown9 := hid hown9
          clear hown9 hgrow hb9
          go_wp2
          have ho := Hown9.out
          obtain ⟨a9, c9, rfl⟩ := own_shape ho
          go_roundw
          case rel => exact ⟨a9, n + 1, c9, xs ++ [1], rfl, by omega, by rw [List.map_append]; exact ho, by rw [List.length_append, Hxl.out]; rfl, Hc9.out, Hb9.out⟩
          case measure => simp [lnV]; omega
        · have hge : 200 + t ≤ (n : Int) := by omega
          clear hlt
          go_wp2
          unfold qB
          go_ret
          exact ⟨⟨_, xs, rfl, Res.owns (by rw [Hxl.out]; exact Hown.out), by rw [Hxl.out]; omega⟩, HC9.out.mono (by omega), HB9.out⟩
    · have hq1 : (q == 1) = false := beq_eq_false_iff_ne.2 h1
      clear h0 h1
      go_wp2
      unfold qB
      go_ret
      exact ⟨⟨_, xs, rfl, Res.owns (by rw [Hxl.out]; exact Hown2.out), by rw [Hxl.out]; omega⟩, HC2.out.mono (by omega), HB2.out⟩

set_option maxRecDepth 20000 in
set_option maxHeartbeats 8000000 in
theorem bits_head (g J K : Nat) (w : World) (hgl : g < w.heap.size) (hJ : J + 500 ≤ K) (hK : K ≤ 999970000) (hc : Cur g J w) (x1 x2 x3 x4 x5 x6 x7 x8 x9 x10 x11 x12 x13 x14 x15 x16 x17 x18 x19 x20 x21 x22 x23 x24 x25 x26 x27 x28 x29 x30 x31 x32 x33 x34 x35 x36 x37 x38 x39 x40 x41 x42 x43 x44 x45 x46 x47 x48 x49 x50 x51 x52 x53 x54 x55 x56 : Value) :
    Code.wp Try.prog (bodyOf Try.f69) (qB g K w) { tmps := List.toArray ((.pointer (some ⟨g, 0, none⟩)) :: x1 :: x2 :: x3 :: x4 :: x5 :: x6 :: x7 :: x8 :: x9 :: x10 :: x11 :: x12 :: x13 :: x14 :: x15 :: x16 :: x17 :: x18 :: x19 :: x20 :: x21 :: x22 :: x23 :: x24 :: x25 :: x26 :: x27 :: x28 :: x29 :: x30 :: x31 :: x32 :: x33 :: x34 :: x35 :: x36 :: x37 :: x38 :: x39 :: x40 :: x41 :: x42 :: x43 :: x44 :: x45 :: x46 :: x47 :: x48 :: x49 :: x50 :: x51 :: x52 :: x53 :: x54 :: x55 :: x56 :: []), defers := [] } w := by
  rw [show bodyOf Try.f69 = .seq (cHead 0 (bodyOf Try.f69)) (.seq (cHead 1 (bodyOf Try.f69)) (.seq (cHead 2 (bodyOf Try.f69)) (cRest 3 (bodyOf Try.f69)))) from by kernel_rfl]
  generalize hR : cRest 3 (bodyOf Try.f69) = R
  have HR := hid hR
  clear hR
  simp only [bodyOf, Try.f69, Option.getD_some, cHead]
  obtain ⟨i0, hi0, hz0, hz1, hz2⟩ := info_parts iint
  have HC0 := hid hc
  have HB0 := hid (Gets.refl g w)
  clear hc
  go_wp2_with fail
  refine (one_any g (J) 2 _ HC0.out (by omega) (by omega) (by omega)).mono ?_
  rintro e w1 ⟨⟨q, rfl⟩, hc1, hb1⟩
  have HC1 := hid hc1
  have HB1 := hid (HB0.out.trans hb1)
  clear hc1 hb1
  cases q
  · go_wp2_with fail
    refine (pick_any g (J + 2) 12 _ HC1.out (by omega) (by omega) (by omega)).mono ?_
    rintro e w2 ⟨⟨r, rfl, r1, r2⟩, hc2, hb2⟩
    have HC2 := hid hc2
    have HB2 := hid (HB1.out.trans hb2)
    clear hc2 hb2
    go_wp2_with fail
    go_loopw [3, 6] (fun v i wr => ∃ (z : Int) (n : Nat) (xs : List Int), i = .int .i64 z ∧ 0 ≤ z ∧ z + n ≤ 11 ∧ wr.ownsRow w.heap.size 3 1 v n (xs.map (Value.int .i64)) ∧ xs.length = n ∧ Cur g (J + 4 + 2 * n) wr ∧ Gets g w wr)
      (fun _ i _ => (intOf i).toNat)
    case atStart => exact ⟨r, 0, [], rfl, r1, by omega, World.ownsRow_nil _ _ _ _, rfl, HC2.out.mono (by omega), HB2.out⟩
    case round =>
      obtain ⟨z, n, xs, rfl, hz, hzn, hown, hxl, hcr, hbr⟩ := hrel
      have hsz : w.heap.size ≤ wr.heap.size := hbr.1.size
      have HCR := hid hcr
      have HBR := hid hbr
      have Hxl := hid hxl
      have Hown1 := hid hown
      clear hcr hbr hxl hown
      by_cases hz0' : 0 < z
      · go_wp2_with fail
        refine (pick_any g (J + 4 + 2 * n) 2 _ HCR.out (by omega) (by omega) (by omega)).mono ?_
        rintro e w3 ⟨⟨t, rfl, t1, t2⟩, hc3, hb3⟩
        have hs3 : wr.heap.size ≤ w3.heap.size := hb3.1.size
        have HC9 := hid (hc3.mono (show J + 4 + 2 * n + 2 ≤ J + 4 + 2 * (n + 1) by omega))
        have HB9 := hid (HBR.out.trans hb3)
        have Hown := hid (ownsRow_gets Hown1.out hb3 hgl)
        have Hob := hid (ownsRow_base Hown.out)
        clear hc3 hb3 Hown1 HCR HBR
        go_wp2_with (at_builtin; refine wpList_append_own _ rfl _ _ 24 rfl w.heap.size 3 i0 (.int .i64 0) 1 8 uslice hi0 hz0 hz1 hz2 rfl (by decide) _ _ _ rfl (Hown.out.alloc _) ⟨w3.heap.size, 0, none⟩ 1 1 [.int .i64 (1 - 2 * t)] rfl rfl ?c1 ?c2 ?c3 ?c4 ?c5 ?_)
        case c1 => exact cell_one_new _ _ _
        case c2 => intro u hu; simp at hu; subst hu; rfl
        case c3 => unfold maxLen; omega
        case c4 => omega
        case c5 => simp; omega
        intro v' w9 hown9 hgrow _
        have hb9 : Below w.heap.size w3 w9 := ((Below.refl w.heap.size w3).alloc (by omega) _).grown hgrow (by simp; omega) (fun j hj => Hob.out j hj)
        have Hc9 := hid (HC9.out.over hb9 hgl)
        have Hb9 := hid (HB9.out.over hb9 (Nat.le_refl _) hgl)
        have Hown9 := hid hown9
        clear hown9 hgrow hb9
        go_wp2
        go_roundw
        case rel => exact ⟨z - 1, n + 1, xs ++ [1 - 2 * t], by go_num, by omega, by omega, by rw [List.map_append]; exact Hown9.out, by rw [List.length_append, Hxl.out]; rfl, Hc9.out, Hb9.out⟩
        case measure => simp [intOf]; omega
      · have hzz : z ≤ 0 := by omega
        clear hz0'
        go_wp2_with fail
        rw [← HR.out]
        exact bits_tail g (J + 4 + 2 * n) K w wr hgl (by omega) (by omega) _ (n) (xs) (by omega) (Hxl.out) (Hown1.out) (HCR.out) (HBR.out) _ _ _ _ _ _ _ _ _ _ _ _ _ _ _ _ _ _ _ _ _ _ _ _ _ _ _ _ _ _ _ _ _ _ _ _ _ _ _ _ _ _ _ _ _ _ _ _ _ _ _ _ _ _ _
  · go_wp2_with fail
    refine (constant_any g (J + 2) _ HC1.out (by omega)).mono ?_
    rintro e w2 ⟨⟨m, x, rfl, ⟨m1, m2⟩, x1, x2⟩, hc2, hb2⟩
    have HC2 := hid hc2
    have HB2 := hid (HB1.out.trans hb2)
    clear hc2 hb2
    obtain ⟨nb, hnb⟩ : ∃ nb, nb = nuB m x := ⟨_, rfl⟩
    have KN := fun (W : World) => dmNumber_is m x W
    rw [← hnb] at KN
    have KN := hid KN
    have Hnb := hid hnb
    clear hnb
    go_wp2_with fail
    refine (KN.out _).mono ?_
    rintro e w' ⟨rfl, rfl⟩
    cases nb
    · skip
      go_wp2_with fail
      rw [← HR.out]
      exact bits_tail g (J + 2 + 20) K w w2 hgl (by omega) (by omega) _ (0) ([]) (by omega) (rfl) (World.ownsRow_nil _ _ _ _) (HC2.out) (HB2.out) _ _ _ _ _ _ _ _ _ _ _ _ _ _ _ _ _ _ _ _ _ _ _ _ _ _ _ _ _ _ _ _ _ _ _ _ _ _ _ _ _ _ _ _ _ _ _ _ _ _ _ _ _ _ _
    · obtain ⟨⟨g1, g2⟩, g3, g4⟩ := nuB_t Hnb.out.symm
      go_wp2_with fail
      refine (pick_any g (J + 2 + 20) 20 _ HC2.out (by omega) (by omega) (by omega)).mono ?_
      rintro e w3 ⟨⟨t, rfl, t1, t2⟩, hc3, hb3⟩
      obtain ⟨tn, rfl⟩ : ∃ tn : Nat, t = tn := ⟨t.toNat, by omega⟩
      have HC3 := hid hc3
      have HB3 := hid (HB2.out.trans hb3)
      clear hc3 hb3
      go_wp2_with fail
      refine (dmConstantO_any m x tn _ (by omega) g1 g2 g3 g4).mono ?_
      rintro e w4 ⟨v4, rfl, hown, hb4⟩
      have hs3 : w.heap.size ≤ w3.heap.size := HB3.out.1.size
      have HC4 := hid (HC3.out.over hb4 HC3.out.lt)
      have HB4 := hid (HB3.out.over hb4 hs3 (by omega))
      have Hown := hid (owns_mono hown hs3)
      have hl4 := bl_len m x tn
      rw [hl4] at Hown
      clear hown hb4
      go_wp2_with fail
      rw [← HR.out]
      exact bits_tail g (J + 2 + 20 + 2) K w w4 hgl (by omega) (by omega) _ (tn) (moBL m (List.replicate tn x)) (by omega) (hl4) (Hown.out) (HC4.out) (HB4.out) _ _ _ _ _ _ _ _ _ _ _ _ _ _ _ _ _ _ _ _ _ _ _ _ _ _ _ _ _ _ _ _ _ _ _ _ _ _ _ _ _ _ _ _ _ _ _ _ _ _ _ _ _ _ _

theorem bits_any (g J : Nat) (w : World) (hc : Cur g J w) (hK : J ≤ 999960000) :
    Calls Try.prog 69 #[.pointer (some ⟨g, 0, none⟩)] w (DrawsL g (J + 500) 203 w) := by
  have hgl := hc.lt
  go_enter Try.func69, Try.ntmps69
  exact bits_head g J (J + 500) w hgl (by omega) (by omega) hc _ _ _ _ _ _ _ _ _ _ _ _ _ _ _ _ _ _ _ _ _ _ _ _ _ _ _ _ _ _ _ _ _ _ _ _ _ _ _ _ _ _ _ _ _ _ _ _ _ _ _ _ _ _ _ _

set_option maxHeartbeats 2000000 in
theorem DrawPeriodOfConstant_any (a : Option Addr) (len cap : Nat) (w : World) (hb : By w.heap.size w a len) (hl : len ≤ 1048576) :
    Calls Try.prog 35 #[.slice a len cap] w fun e w' => (∃ m x, e = .returned (.tuple #[.int .i64 m, .int .i64 x]) ∧ (0 ≤ m ∧ m ≤ 1001) ∧ -4611686018427387904 ≤ x ∧ x ≤ 4611686018427387904) ∧ Below w.heap.size w w' := by
  have hc0 := Cur.new (cap := cap) hb hl
  have hb0 := bel_alloc w (.cells #[.slice a len cap, .int .i64 0, .int .u64 0] 63)
  clear hb
  go_enter Try.func35, Try.ntmps35
  go_wp2_with fail
  generalize hw0 : w.alloc (.cells #[.slice a len cap, .int .i64 0, .int .u64 0] 63) = w0 at *
  have hz0 : w.heap.size + 1 ≤ w0.heap.size := by rw [← hw0]; simp
  have HC0 := hid hc0
  have HB0 := hid (Gets.refl w.heap.size w0)
  have HA := hid hb0
  have hgl := hc0.lt
  clear hw0 hc0 hb0
  refine (constant_any w.heap.size (0) _ HC0.out (by omega)).mono ?_
  rintro e w1 ⟨⟨m, x, rfl, ⟨m1, m2⟩, x1, x2⟩, hc1, hb1⟩
  have HC1 := hid hc1
  have HB1 := hid (HB0.out.trans hb1)
  clear hc1 hb1
  go_wp2
  go_ret2
  exact ⟨⟨m, x, rfl, ⟨m1, m2⟩, x1, x2⟩, HA.out.trans HB1.out.1⟩

set_option maxHeartbeats 2000000 in
theorem DrawConstantBits_any (a : Option Addr) (len cap : Nat) (w : World) (hb : By w.heap.size w a len) (hl : len ≤ 1048576) :
    Calls Try.prog 25 #[.slice a len cap] w fun e w' => (∃ m x n, e = .returned (.tuple #[.int .i64 m, .int .i64 x, .int .i64 n]) ∧ -1 ≤ n ∧ n ≤ 201) ∧ Below w.heap.size w w' := by
  have hc0 := Cur.new (cap := cap) hb hl
  have hb0 := bel_alloc w (.cells #[.slice a len cap, .int .i64 0, .int .u64 0] 63)
  clear hb
  go_enter Try.func25, Try.ntmps25
  go_wp2_with fail
  generalize hw0 : w.alloc (.cells #[.slice a len cap, .int .i64 0, .int .u64 0] 63) = w0 at *
  have hz0 : w.heap.size + 1 ≤ w0.heap.size := by rw [← hw0]; simp
  have HC0 := hid hc0
  have HB0 := hid (Gets.refl w.heap.size w0)
  have HA := hid hb0
  have hgl := hc0.lt
  clear hw0 hc0 hb0
  refine (constant_any w.heap.size (0) _ HC0.out (by omega)).mono ?_
  rintro e w1 ⟨⟨m, x, rfl, ⟨m1, m2⟩, x1, x2⟩, hc1, hb1⟩
  have HC1 := hid hc1
  have HB1 := hid (HB0.out.trans hb1)
  clear hc1 hb1
  go_wp2_with fail
  refine (one_any w.heap.size (0 + 20) 10 _ HC1.out (by omega) (by omega) (by omega)).mono ?_
  rintro e w2 ⟨⟨q, rfl⟩, hc2, hb2⟩
  have HC2 := hid hc2
  have HB2 := hid (HB1.out.trans hb2)
  clear hc2 hb2
  cases q
  · skip
    go_wp2_with fail
    refine (pick_any w.heap.size (0 + 20 + 2) 40 _ HC2.out (by omega) (by omega) (by omega)).mono ?_
    rintro e w3 ⟨⟨n, rfl, n1, n2⟩, hc3, hb3⟩
    have HC3 := hid hc3
    have HB3 := hid (HB2.out.trans hb3)
    clear hc3 hb3
    go_wp2
    go_ret3
    exact ⟨⟨m, x, n, rfl, by omega, by omega⟩, HA.out.trans HB3.out.1⟩
  · skip
    go_wp2_with fail
    refine (among_any w.heap.size (0 + 20 + 2) w2.heap.size [(-1), 0, 200, 201] (-1) (201) _ (HC2.out.kept (bel_alloc _ _)) (by omega) (heap_alloc_new _ _) (Nat.ne_of_gt HC2.out.lt) (by decide) (by decide) (by decide)).mono ?_
    rintro e w3 ⟨⟨n, rfl, n1, n2⟩, hc3, hb3'⟩
    have hb3 : Gets w.heap.size w2 w3 := ((Gets.refl w.heap.size w2).alloc HC2.out.lt (.cells (intsA [(-1), 0, 200, 201]) 3)).trans hb3'
    clear hb3'
    have HC3 := hid hc3
    have HB3 := hid (HB2.out.trans hb3)
    clear hc3 hb3
    go_wp2
    go_ret3
    exact ⟨⟨m, x, n, rfl, by omega, by omega⟩, HA.out.trans HB3.out.1⟩

set_option maxHeartbeats 2000000 in
theorem DrawIsBalancedList_any (a : Option Addr) (len cap : Nat) (w : World) (hb : By w.heap.size w a len) (hl : len ≤ 1048576) :
    Calls Try.prog 38 #[.slice a len cap] w fun e w' => (∃ v xs, e = .returned v ∧ Res 3 (w.heap.size + 1) w' v xs ∧ xs.length ≤ 203) ∧ Below w.heap.size w w' := by
  have hc0 := Cur.new (cap := cap) hb hl
  have hb0 := bel_alloc w (.cells #[.slice a len cap, .int .i64 0, .int .u64 0] 63)
  clear hb
  go_enter Try.func38, Try.ntmps38
  go_wp2_with fail
  generalize hw0 : w.alloc (.cells #[.slice a len cap, .int .i64 0, .int .u64 0] 63) = w0 at *
  have hz0 : w.heap.size + 1 ≤ w0.heap.size := by rw [← hw0]; simp
  have HC0 := hid hc0
  have HB0 := hid (Gets.refl w.heap.size w0)
  have HA := hid hb0
  have hgl := hc0.lt
  clear hw0 hc0 hb0
  refine (bits_any w.heap.size (0) _ HC0.out (by omega)).mono ?_
  rintro e w1 ⟨⟨v, xs, rfl, hres, hxs⟩, hc1, hb1⟩
  have HC1 := hid hc1
  have HB1 := hid (HB0.out.trans hb1)
  have HR1 := hid (hres.mono (show w.heap.size + 1 ≤ w0.heap.size from HC0.out.lt))
  clear hc1 hb1 hres
  go_wp2
  go_ret
  exact ⟨⟨v, xs, rfl, HR1.out, hxs⟩, HA.out.trans HB1.out.1⟩

set_option maxHeartbeats 2000000 in
theorem DrawMovingSums_any (a : Option Addr) (len cap : Nat) (w : World) (hb : By w.heap.size w a len) (hl : len ≤ 1048576) :
    Calls Try.prog 41 #[.slice a len cap] w fun e w' => (∃ v xs k, e = .returned (.tuple #[v, .int .i64 k]) ∧ Res 3 (w.heap.size + 1) w' v xs ∧ xs.length ≤ 203 ∧ 0 ≤ k ∧ k ≤ 8) ∧ Below w.heap.size w w' := by
  have hc0 := Cur.new (cap := cap) hb hl
  have hb0 := bel_alloc w (.cells #[.slice a len cap, .int .i64 0, .int .u64 0] 63)
  clear hb
  go_enter Try.func41, Try.ntmps41
  go_wp2_with fail
  generalize hw0 : w.alloc (.cells #[.slice a len cap, .int .i64 0, .int .u64 0] 63) = w0 at *
  have hz0 : w.heap.size + 1 ≤ w0.heap.size := by rw [← hw0]; simp
  have HC0 := hid hc0
  have HB0 := hid (Gets.refl w.heap.size w0)
  have HA := hid hb0
  have hgl := hc0.lt
  clear hw0 hc0 hb0
  refine (bits_any w.heap.size (0) _ HC0.out (by omega)).mono ?_
  rintro e w1 ⟨⟨v, xs, rfl, hres, hxs⟩, hc1, hb1⟩
  have HC1 := hid hc1
  have HB1 := hid (HB0.out.trans hb1)
  have HR1 := hid (hres.mono (show w.heap.size + 1 ≤ w0.heap.size from HC0.out.lt))
  clear hc1 hb1 hres
  go_wp2_with fail
  refine (pick_any w.heap.size (0 + 500) 9 _ HC1.out (by omega) (by omega) (by omega)).mono ?_
  rintro e w2 ⟨⟨k, rfl, k1, k2⟩, hc2, hb2⟩
  have HR2 := hid (Res.gets HR1.out hb2 (by omega))
  have HB2 := hid (HB1.out.trans hb2)
  clear hc2 hb2
  go_wp2
  go_ret2
  exact ⟨⟨v, xs, k, rfl, HR2.out, hxs, k1, by omega⟩, HA.out.trans HB2.out.1⟩

set_option maxHeartbeats 2000000 in
theorem DrawConstantsOf_any (a : Option Addr) (len cap : Nat) (w : World) (hb : By w.heap.size w a len) (hl : len ≤ 1048576) :
    Calls Try.prog 32 #[.slice a len cap] w fun e w' => (∃ m v xs, e = .returned (.tuple #[.int .i64 m, v]) ∧ Res 3 (w.heap.size + 1) w' v xs ∧ xs.length ≤ 203 ∧ 0 ≤ m ∧ m ≤ 1001) ∧ Below w.heap.size w w' := by
  have hc0 := Cur.new (cap := cap) hb hl
  have hb0 := bel_alloc w (.cells #[.slice a len cap, .int .i64 0, .int .u64 0] 63)
  clear hb
  go_enter Try.func32, Try.ntmps32
  go_wp2_with fail
  generalize hw0 : w.alloc (.cells #[.slice a len cap, .int .i64 0, .int .u64 0] 63) = w0 at *
  have hz0 : w.heap.size + 1 ≤ w0.heap.size := by rw [← hw0]; simp
  have HC0 := hid hc0
  have HB0 := hid (Gets.refl w.heap.size w0)
  have HA := hid hb0
  have hgl := hc0.lt
  clear hw0 hc0 hb0
  refine (constant_any w.heap.size (0) _ HC0.out (by omega)).mono ?_
  rintro e w1 ⟨⟨m, x, rfl, ⟨m1, m2⟩, x1, x2⟩, hc1, hb1⟩
  have HC1 := hid hc1
  have HB1 := hid (HB0.out.trans hb1)
  clear hc1 hb1
  obtain ⟨nb, hnb⟩ : ∃ nb, nb = nuB m x := ⟨_, rfl⟩
  have KN := fun (W : World) => dmNumber_is m x W
  rw [← hnb] at KN
  have KN := hid KN
  have Hnb := hid hnb
  clear hnb
  go_wp2_with fail
  refine (KN.out _).mono ?_
  rintro e w' ⟨rfl, rfl⟩
  cases nb
  · skip
    go_wp2_with fail
    refine (bits_any w.heap.size (0 + 20) _ HC1.out (by omega)).mono ?_
    rintro e w2 ⟨⟨v, xs, rfl, hres, hxs⟩, hc2, hb2⟩
    have HC2 := hid hc2
    have HB2 := hid (HB1.out.trans hb2)
    have HR2 := hid (hres.mono (show w.heap.size + 1 ≤ w1.heap.size from HC1.out.lt))
    clear hc2 hb2 hres
    go_wp2
    go_ret2
    exact ⟨⟨m, v, xs, rfl, HR2.out, hxs, m1, m2⟩, HA.out.trans HB2.out.1⟩
  · obtain ⟨⟨g1, g2⟩, g3, g4⟩ := nuB_t Hnb.out.symm
    go_wp2_with fail
    refine (one_any w.heap.size (0 + 20) 4 _ HC1.out (by omega) (by omega) (by omega)).mono ?_
    rintro e w2 ⟨⟨q, rfl⟩, hc2, hb2⟩
    have HC2 := hid hc2
    have HB2 := hid (HB1.out.trans hb2)
    clear hc2 hb2
    cases q
    · go_wp2_with fail
      refine (pick_any w.heap.size (0 + 20 + 2) 10 _ HC2.out (by omega) (by omega) (by omega)).mono ?_
      rintro e w3 ⟨⟨t, rfl, t1, t2⟩, hc3, hb3⟩
      obtain ⟨tn, rfl⟩ : ∃ tn : Nat, t = tn := ⟨t.toNat, by omega⟩
      have HC3 := hid hc3
      have HB3 := hid (HB2.out.trans hb3)
      clear hc3 hb3
      go_wp2_with fail
      refine (dmConstant_any m x tn _ (by omega) g1 g2 g3 g4).mono ?_
      rintro e w4 ⟨v4, rfl, hres, hb4⟩
      have hs3 := HC3.out.lt
      have hr4 := hres.mono (show w.heap.size + 1 ≤ w3.heap.size from hs3)
      have HB4 := hid ((HA.out.trans HB3.out.1).trans (hb4.mono (by omega)))
      go_wp2
      go_ret2
      exact ⟨⟨m, v4, _, rfl, hr4, by rw [bl_len]; omega, m1, m2⟩, HB4.out⟩
    · go_wp2_with fail
      refine (bits_any w.heap.size (0 + 20 + 2) _ HC2.out (by omega)).mono ?_
      rintro e w3 ⟨⟨v, xs, rfl, hres, hxs⟩, hc3, hb3⟩
      have HC3 := hid hc3
      have HB3 := hid (HB2.out.trans hb3)
      have HR3 := hid (hres.mono (show w.heap.size + 1 ≤ w2.heap.size from HC2.out.lt))
      clear hc3 hb3 hres
      go_wp2
      go_ret2
      exact ⟨⟨m, v, xs, rfl, HR3.out, hxs, m1, m2⟩, HA.out.trans HB3.out.1⟩

end Go.Proofs.Ytbhlailnefappaa
