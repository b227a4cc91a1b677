
import Derived.Test.YthkfjoonkkmgiaaQj
import Derived.Test.YthkfjoonkkmgiaaEb
import Derived.Test.YthkfjoonkkmgiaaQa
import Derived.Deep.RegionHeld3
namespace Go.Ch9
open Go Go.RowKit Go.MemX
set_option linter.unusedVariables false
/-- the step behind another one -/
def adI (t : Int) (same : Bool) : Int := if same = true then min (2 * t) 4096 else max (t / 2) 1
def fxI (t : Int) (_ : Bool) : Int := t
theorem adI_t (t : Int) : adI t true = min (2 * t) 4096 := rfl
theorem adI_f (t : Int) : adI t false = max (t / 2) 1 := rfl
/-- steps stay steps -/
def Keeps (nx : Int → Bool → Int) : Prop := ∀ t b, 1 ≤ t → t ≤ 4096 → 1 ≤ nx t b ∧ nx t b ≤ 4096
theorem ad_keeps : Keeps adI := fun t b h1 h2 => by
  cases b
  · rw [adI_f]; omega
  · rw [adI_t]; omega
theorem fx_keeps : Keeps fxI := fun t b h1 h2 => ⟨h1, h2⟩
/-- the last bit, the step and the value behind so many bits; B tells a bit by its number and the value ahead of it -/
def skP (nx : Int → Bool → Int) (B : Nat → Int → Int) (f : Int) : Nat → Int × Int × Int
  | 0 => (0, f, 0)
  | k + 1 =>
    let p := skP nx B f k
    let t := if k = 0 then p.2.1 else nx p.2.1 (decide (B k p.2.2 = p.1))
    (B k p.2.2, t, p.2.2 + t * B k p.2.2)
def skB (nx : Int → Bool → Int) (B : Nat → Int → Int) (f : Int) (k : Nat) : Int := (skP nx B f (k + 1)).1
def skT (nx : Int → Bool → Int) (B : Nat → Int → Int) (f : Int) (k : Nat) : Int := (skP nx B f k).2.1
def skV (nx : Int → Bool → Int) (B : Nat → Int → Int) (f : Int) (k : Nat) : Int := (skP nx B f k).2.2
def skU (nx : Int → Bool → Int) (B : Nat → Int → Int) (f : Int) (k : Nat) : Int := (skP nx B f k).1
section
variable (nx : Int → Bool → Int) (B : Nat → Int → Int) (f : Int)
theorem skB_eq (k : Nat) : skB nx B f k = B k (skV nx B f k) := rfl
theorem skU_zero : skU nx B f 0 = 0 := rfl
theorem skU_succ (k : Nat) : skU nx B f (k + 1) = skB nx B f k := rfl
theorem skT_zero : skT nx B f 0 = f := rfl
theorem skT_one : skT nx B f 1 = f := rfl
theorem skT_succ (k : Nat) : skT nx B f (k + 1) = if k = 0 then f else nx (skT nx B f k) (decide (skB nx B f k = skU nx B f k)) := by
  by_cases h : k = 0
  · subst h; rfl
  · rw [if_neg h]
    show (if k = 0 then _ else _) = _
    rw [if_neg h]; rfl
theorem skT_more (k : Nat) : skT nx B f (k + 1 + 1) = nx (skT nx B f (k + 1)) (decide (skB nx B f (k + 1) = skB nx B f k)) := by
  rw [skT_succ, if_neg (by omega)]; rfl
theorem skV_zero : skV nx B f 0 = 0 := rfl
theorem skV_succ (k : Nat) : skV nx B f (k + 1) = skV nx B f k + skT nx B f (k + 1) * skB nx B f k := rfl
variable {nx B f}
theorem skT_in (hk : Keeps nx) (h1 : 1 ≤ f) (h2 : f ≤ 4096) (k : Nat) : 1 ≤ skT nx B f k ∧ skT nx B f k ≤ 4096 := by
  induction k with
  | zero => exact ⟨h1, h2⟩
  | succ k ih =>
    rw [skT_succ]
    split
    · exact ⟨h1, h2⟩
    · exact hk _ _ ih.1 ih.2
theorem skV_in (hk : Keeps nx) (h1 : 1 ≤ f) (h2 : f ≤ 4096) {n : Nat} (hB : ∀ k v, k < n → B k v = 1 ∨ B k v = -1) (k : Nat) (hn : k ≤ n) : -(4096 * (k : Int)) ≤ skV nx B f k ∧ skV nx B f k ≤ 4096 * (k : Int) := by
  induction k with
  | zero => rw [skV_zero]; omega
  | succ k ih =>
    have ih := ih (by omega)
    have ht := skT_in (B := B) hk h1 h2 (k + 1)
    rw [skV_succ, skB_eq]
    rcases hB k (skV nx B f k) (by omega) with h | h <;> (rw [h]; omega)
theorem skB_in {n : Nat} (hB : ∀ k v, k < n → B k v = 1 ∨ B k v = -1) (k : Nat) (hn : k < n) : skB nx B f k = 1 ∨ skB nx B f k = -1 := hB k _ hn
end
/-- the bits of a coder, and those that are told -/
def cdB (s : List Int) (k : Nat) (v : Int) : Int := if v ≤ at0 s k then 1 else -1
def tlB (bs : List Int) (k : Nat) (_ : Int) : Int := at0 bs k
theorem cdB_t {s : List Int} {k : Nat} {v : Int} (h : v ≤ at0 s k) : cdB s k v = 1 := if_pos h
theorem cdB_f {s : List Int} {k : Nat} {v : Int} (h : at0 s k < v) : cdB s k v = -1 := if_neg (by omega)
theorem cdB_in (s : List Int) (n k : Nat) (v : Int) (_ : k < n) : cdB s k v = 1 ∨ cdB s k v = -1 := by unfold cdB; split <;> simp
def skBL (nx : Int → Bool → Int) (B : Nat → Int → Int) (f : Int) (n : Nat) : List Int := tab n (skB nx B f)
def skTL (nx : Int → Bool → Int) (B : Nat → Int → Int) (f : Int) (n : Nat) : List Int := tab n fun k => skT nx B f (k + 1)
def skVL (nx : Int → Bool → Int) (B : Nat → Int → Int) (f : Int) (n : Nat) : List Int := tab n fun k => skV nx B f (k + 1)
/-- samples less the values -/
def gpL (s : List Int) (f : Int) : List Int := tab s.length fun k => at0 s k - skV adI (cdB s) f (k + 1)
theorem fxT (B : Nat → Int → Int) (f : Int) (k : Nat) : skT fxI B f k = f := by
  induction k with
  | zero => rfl
  | succ k ih => 
    rw [skT_succ]
    split
    · rfl
    · exact ih
theorem fxV_succ (B : Nat → Int → Int) (f : Int) (k : Nat) : skV fxI B f (k + 1) = skV fxI B f k + f * skB fxI B f k := by rw [skV_succ, fxT]
def stB (f : Int) : Bool := decide (1 ≤ f ∧ f ≤ 4096)
theorem stB_t {f : Int} (h : stB f = true) : 1 ≤ f ∧ f ≤ 4096 := of_decide_eq_true h

def bI (x v : Int) : Int := if v ≤ x then 1 else -1
theorem cdB_at {s : List Int} {k : Nat} {x : Int} (h : s[k]? = some x) (v : Int) : cdB s k v = bI x v := by unfold cdB bI; rw [at0_of h]
theorem bI_in (x v : Int) : bI x v = 1 ∨ bI x v = -1 := by unfold bI; split <;> simp
theorem tlB_at {s : List Int} {k : Nat} {x : Int} (h : s[k]? = some x) (v : Int) : tlB s k v = x := at0_of h
theorem sk_next {B : Nat → Int → Int} {f : Int} {n k : Nat} (hB : ∀ k v, k < n → B k v = 1 ∨ B k v = -1) (hk : k < n) :
    (skU adI B f k = 0 ∧ skT adI B f (k + 1) = skT adI B f k) ∨ ((skU adI B f k = 1 ∨ skU adI B f k = -1) ∧ skT adI B f (k + 1) = adI (skT adI B f k) (decide (skB adI B f k = skU adI B f k))) := by
  cases k with
  | zero => exact .inl ⟨rfl, rfl⟩
  | succ k => exact .inr ⟨hB k _ (by omega), skT_more adI B f k⟩
theorem skV_in' {nx : Int → Bool → Int} {B : Nat → Int → Int} {f : Int} (hk : Keeps nx) (h1 : 1 ≤ f) (h2 : f ≤ 4096) {n : Nat} (hB : ∀ k v, k < n → B k v = 1 ∨ B k v = -1) (k : Nat) (hn : k ≤ n) (h200 : n ≤ 200) : -820000 ≤ skV nx B f k ∧ skV nx B f k ≤ 820000 := by
  have := skV_in hk h1 h2 hB k hn
  omega
end Go.Ch9
namespace Go.Proofs.Ythkfjoonkkmgiaa
open Go.RowKit BitX Go.MemX Go.Ch6 Go.Ch9 Go.ChV
set_option linter.unusedVariables false
theorem ownsRow_same9 {w w' : World} {base : Nat} {e : TypeId} {size : Nat} {v : Value} {n : Nat} {xs : List Value} (h : w.ownsRow base e size v n xs) (hb : ∀ j, base ≤ j → w'.heap[j]? = w.heap[j]?) : w'.ownsRow base e size v n xs := by
  obtain ⟨h1, h2⟩ := h
  refine ⟨h1, ?_⟩
  rcases h2 with h2 | ⟨g, cap, cur, hv, hg, hh, r⟩
  · exact .inl h2
  · exact .inr ⟨g, cap, cur, hv, hg, by rw [hb g hg]; exact hh, r⟩


set_option maxHeartbeats 400000 in
theorem isStep_is (x : Int) (q : Bool) (w : World) (h : stB x = q) :
    Calls Try.prog 27 #[.int .i64 x] w fun e w' => e = .returned (.bool (q)) ∧ w = w' := by
  cases q
  · have h := of_decide_eq_false h
    by_cases h1 : x < 1
    · clear h
      go_enter Try.func27, Try.ntmps27
      go_wp2
      go_ret
      exact ⟨by first | rfl | exact ret_b (decide_eq_false (by omega)) | exact ret_b (decide_eq_true (by omega)), rfl⟩
    · have h2 : 4096 < x := by omega
      have h3 : 1 ≤ x := by omega
      clear h h1
      go_enter Try.func27, Try.ntmps27
      go_wp2
      go_ret
      exact ⟨by first | rfl | exact ret_b (decide_eq_false (by omega)) | exact ret_b (decide_eq_true (by omega)), rfl⟩
  · have h := of_decide_eq_true h
    obtain ⟨h1, h2⟩ := h
    go_enter Try.func27, Try.ntmps27
    go_wp2
    go_ret
    exact ⟨by first | rfl | exact ret_b (decide_eq_false (by omega)) | exact ret_b (decide_eq_true (by omega)), rfl⟩


set_option maxHeartbeats 400000 in
theorem tnStep_is (x : Int) (q : Bool) (w : World) (h : stB x = q) :
    Calls Try.prog 31 #[.int .i64 x] w fun e w' => e = .returned (.bool (q)) ∧ w = w' := by
  have H := hid (show decide (1 ≤ x ∧ x ≤ 4096) = q from h)
  clear h
  go_enter Try.func31, Try.ntmps31
  go_wp2_with fail
  refine (l1In_is _ _ _ q _ H.out).mono ?_
  rintro e w' ⟨rfl, rfl⟩
  go_wp2
  go_ret
  exact ⟨rfl, rfl⟩


set_option maxHeartbeats 1000000 in
theorem tnBits_is (v : Value) (bs : List Int) (w : World) (hs : Sl w v bs) :
    Calls Try.prog 44 #[v] w fun e w' => e = .returned (.bool (bitB bs)) ∧ w = w' := by
  obtain ⟨aa, n, cap, rfl, hn, hrd⟩ := id hs.rd
  have Hn := hid hn
  have Hrd := hid hrd
  clear hs hrd
  by_cases hbig : 200 < n
  · have HR := hid (show bitB bs = false from bitB_f fun h => by have := h.1; omega)
    clear hn
    go_enter Try.func44, Try.ntmps44
    go_wp2
    go_ret
    exact ⟨ret_b HR.out.symm, rfl⟩
  · have hl' : n ≤ 200 := by omega
    clear hn hbig
    go_enter Try.func44, Try.ntmps44
    go_wp2_with fail
    go_loop [10] (fun i => ∃ k : Nat, k ≤ n ∧ Hid (GoodTo bs k) ∧ i = .int .i64 k)
      (fun i => n - (intOf i).toNat)
    case atStart => exact ⟨0, by omega, hid fun i x hi => by omega, rfl⟩
    case round =>
      obtain ⟨k, hk, HG, rfl⟩ := hrel
      by_cases hlk : k < n
      · obtain ⟨x, hkx⟩ := get_lt bs k (by rw [← Hn.out]; exact hlk)
        obtain ⟨bb, oo, hix, hbb, hce⟩ := Hrd.out.at (P := Try.prog) (T := 24) n cap uslice sone hkx hlk
        by_cases hx1 : x = 1
        · have HG2 := hid (HG.out.step hkx (.inl hx1))
          subst hx1
          clear hkx
          go_wp2
          go_round
          case rel => exact ⟨k + 1, by omega, HG2.out, by go_num⟩
          case measure => simp [intOf]; omega
        · by_cases hx2 : x = -1
          · have HG2 := hid (HG.out.step hkx (.inr hx2))
            subst hx2
            clear hkx hx1
            go_wp2
            go_round
            case rel => exact ⟨k + 1, by omega, HG2.out, by go_num⟩
            case measure => simp [intOf]; omega
          · have HR := hid (show bitB bs = false from bitB_f fun h => by have := bit_get h hkx; omega)
            have hy1 : (x != 1) = true := bne_iff_ne.2 hx1
            have hy2 : (x != -1) = true := bne_iff_ne.2 hx2
            clear hkx
            go_wp2
            go_ret
            exact ⟨ret_b HR.out.symm, rfl⟩
      · have hge : (n : Int) ≤ (k : Int) := by omega
        have hkn : k = bs.length := by rw [← Hn.out]; omega
        have HR := hid (show bitB bs = true from bitB_of (GoodTo.all (by rw [← hkn]; exact HG.out) (by rw [← Hn.out]; exact hl')))
        clear hkn hlk
        go_wp2
        go_ret
        exact ⟨ret_b HR.out.symm, rfl⟩
theorem tnBits_q (v : Value) (bs : List Int) (q : Bool) (w : World) (hs : Sl w v bs) (h : bitB bs = q) : Calls Try.prog 44 #[v] w fun e w' => e = .returned (.bool (q)) ∧ w = w' := h ▸ tnBits_is v bs w hs


set_option maxHeartbeats 400000 in
theorem tnBit_any (x v : Int) (w : World) :
    Calls Try.prog 40 #[.int .i64 x, .int .i64 v] w fun e w' => e = .returned (.int .i64 (bI x v)) ∧ w = w' := by
  by_cases h : v ≤ x
  · have H := hid (show bI x v = 1 from if_pos h)
    rw [H.out]
    go_enter Try.func40, Try.ntmps40
    go_wp2
    go_ret
    exact ⟨rfl, rfl⟩
  · have H := hid (show bI x v = -1 from if_neg h)
    rw [H.out]
    have h2 : x < v := by omega
    clear h
    go_enter Try.func40, Try.ntmps40
    go_wp2
    go_ret
    exact ⟨rfl, rfl⟩
set_option maxHeartbeats 400000 in
theorem l1Least_m (x y m : Int) (w : World) (e : min y x = m) : Calls Try.prog 59 #[.int .i64 x, .int .i64 y] w fun e w' => e = .returned (.int .i64 m) ∧ w = w' := by
  by_cases h : x < y
  · have HE := hid (show x = m from by omega)
    clear e
    go_enter Try.func59, Try.ntmps59
    go_wp2
    go_ret
    exact ⟨ret_i HE.out, rfl⟩
  · have hi : y ≤ x := by omega
    have HE := hid (show y = m from by omega)
    clear h e
    go_enter Try.func59, Try.ntmps59
    go_wp2
    go_ret
    exact ⟨ret_i HE.out, rfl⟩
set_option maxHeartbeats 400000 in
theorem l1Most_m (x y m : Int) (w : World) (e : max x y = m) : Calls Try.prog 55 #[.int .i64 x, .int .i64 y] w fun e w' => e = .returned (.int .i64 m) ∧ w = w' := by
  by_cases h : y < x
  · have HE := hid (show x = m from by omega)
    clear e
    go_enter Try.func55, Try.ntmps55
    go_wp2
    go_ret
    exact ⟨ret_i HE.out, rfl⟩
  · have hi : x ≤ y := by omega
    have HE := hid (show y = m from by omega)
    clear h e
    go_enter Try.func55, Try.ntmps55
    go_wp2
    go_ret
    exact ⟨ret_i HE.out, rfl⟩
def Box9 (g : Nat) (v st last : Int) (w : World) : Prop := w.heap[g]? = some (.cells #[.int .i64 v, .int .i64 st, .int .i64 last] 56 (0, 0))
theorem Box9.cells {g : Nat} {v st last : Int} {w : World} (h : Box9 g v st last w) : w.cell? ⟨g, 0, none⟩ = some (.int .i64 v) ∧ w.cell? ⟨g, 1, none⟩ = some (.int .i64 st) ∧ w.cell? ⟨g, 2, none⟩ = some (.int .i64 last) :=
  ⟨by rw [cell_of_row w g 0 _ _ _ h]; rfl, by rw [cell_of_row w g 1 _ _ _ h]; rfl, by rw [cell_of_row w g 2 _ _ _ h]; rfl⟩
theorem Box9.free {g : Nat} {v st last : Int} {w : World} (h : Box9 g v st last w) (i : Nat) : w.frozen? ⟨g, i, none⟩ = false := frozen_of_row w g i _ _ h
theorem Box9.lt {g : Nat} {v st last : Int} {w : World} (h : Box9 g v st last w) : g < w.heap.size := lt_of_block h
theorem Box9.same {g : Nat} {v st last : Int} {w w' : World} (h : Box9 g v st last w) (hb : w'.heap[g]? = w.heap[g]?) : Box9 g v st last w' := by unfold Box9; rw [hb]; exact h
theorem Box9.set0 {g : Nat} {v st last x : Int} {w : World} (h : Box9 g v st last w) : Box9 g x st last (w.setCell ⟨g, 0, none⟩ (.int .i64 x)) := by unfold Box9; rw [heap_setCell_same _ _ _ _ _ _ h]; rfl
theorem Box9.set1 {g : Nat} {v st last x : Int} {w : World} (h : Box9 g v st last w) : Box9 g v x last (w.setCell ⟨g, 1, none⟩ (.int .i64 x)) := by unfold Box9; rw [heap_setCell_same _ _ _ _ _ _ h]; rfl
theorem Box9.set2 {g : Nat} {v st last x : Int} {w : World} (h : Box9 g v st last w) : Box9 g v st x (w.setCell ⟨g, 2, none⟩ (.int .i64 x)) := by unfold Box9; rw [heap_setCell_same _ _ _ _ _ _ h]; rfl
theorem Box9.new {v st last : Int} (w : World) : Box9 w.heap.size v st last (w.alloc (.cells #[.int .i64 v, .int .i64 st, .int .i64 last] 56)) := by
  show (w.heap.push _)[w.heap.size]? = some _
  simp
/-- only block g has changed, no block is new -/
def Only9 (g : Nat) (w w' : World) : Prop := Below g w w' ∧ w'.heap.size = w.heap.size ∧ ∀ b, b ≠ g → w'.heap[b]? = w.heap[b]?
theorem Only9.refl (g : Nat) (w : World) : Only9 g w w := ⟨Below.refl _ _, rfl, fun _ _ => rfl⟩
theorem Only9.set {g : Nat} {w w' : World} (h : Only9 g w w') (i : Nat) (x : Value) : Only9 g w (w'.setCell ⟨g, i, none⟩ x) :=
  ⟨h.1.setCell (by exact Nat.le_refl g) _, by rw [World.size_setCell]; exact h.2.1, fun b hne => by rw [heap_setCell_other _ _ _ _ hne]; exact h.2.2 b hne⟩
theorem Only9.drew {g : Nat} {w w' : World} (h : Only9 g w w') : Only9 g w w'.drew := ⟨h.1.drew, h.2.1, fun b hb => h.2.2 b hb⟩


set_option maxHeartbeats 2000000 in
theorem take_0p (g : Nat) (v st ns nv : Int) (w : World) (hB : Box9 g v st (0) w) (v1 : -1000000 ≤ v) (v2 : v ≤ 1000000) (s1 : 1 ≤ st) (s2 : st ≤ 4096) (hn : ns = st) (hnv : nv = v + (1) * ns) :
    Calls Try.prog 54 #[.pointer (some ⟨g, 0, none⟩), .int .i64 (1)] w fun e w' => e = .returned (.tuple #[]) ∧ Box9 g nv ns (1) w' ∧ Only9 g w w' := by
  obtain ⟨c0, c1, c2⟩ := hB.cells
  have f0 := hB.free 0
  have f1 := hB.free 1
  have f2 := hB.free 2
  obtain ⟨n1, n2⟩ : 1 ≤ ns ∧ ns ≤ 4096 := by omega
  have HB := hid hB
  subst hn
  have HNV := hid (show nv = v + ns from by omega)
  rw [HNV.out]
  clear hB hnv
  go_enter Try.func54, Try.ntmps54
  go_wp2_with fail
  have hh : Box9 g v ns (1) (w.setCell ⟨g, 2, none⟩ (.int .i64 (1))) := HB.out.set2
  have ho : Only9 g w (w.setCell ⟨g, 2, none⟩ (.int .i64 (1))) := (Only9.refl g w).set _ _
  generalize (w.setCell ⟨g, 2, none⟩ (.int .i64 (1))) = W at *
  obtain ⟨d0, d1, d2⟩ := hh.cells
  have k0 := hh.free 0
  have HH := hid hh
  have e1 : ∀ [Inhabited Unit], IntKind.i64.wrap ns = ns := IntWalk.i64_in _ (by omega)
  have e2 : ∀ [Inhabited Unit], IntKind.i64.wrap (-ns) = -ns := IntWalk.i64_in _ (by omega)
  have e3 : ∀ [Inhabited Unit], IntKind.i64.wrap (v + ns) = v + ns := IntWalk.i64_in _ (by omega)
  have e4 : ∀ [Inhabited Unit], IntKind.i64.wrap (v + -ns) = v - ns := IntWalk.i64_in _ (by omega)
  clear hh c0 c1 c2 f0 f1 f2
  go_region_with fail
  all_goals go_wp2
  all_goals show _ ∧ ∃ v, _ ∧ _
  all_goals refine ⟨rfl, .tuple #[], (by first | rfl | kernel_rfl), rfl, ?_, ho.drew.set _ _⟩
  all_goals exact (HH.out.same (w' := W.drew) rfl).set0


set_option maxHeartbeats 2000000 in
theorem take_pp (g : Nat) (v st ns nv : Int) (w : World) (hB : Box9 g v st (1) w) (v1 : -1000000 ≤ v) (v2 : v ≤ 1000000) (s1 : 1 ≤ st) (s2 : st ≤ 4096) (hn : ns = min (2 * st) 4096) (hnv : nv = v + (1) * ns) :
    Calls Try.prog 54 #[.pointer (some ⟨g, 0, none⟩), .int .i64 (1)] w fun e w' => e = .returned (.tuple #[]) ∧ Box9 g nv ns (1) w' ∧ Only9 g w w' := by
  obtain ⟨c0, c1, c2⟩ := hB.cells
  have f0 := hB.free 0
  have f1 := hB.free 1
  have f2 := hB.free 2
  obtain ⟨n1, n2⟩ : 1 ≤ ns ∧ ns ≤ 4096 := by omega
  have HB := hid hB
  have HM := hid (show min 4096 (2 * st) = ns from by omega)
  clear hn
  have HNV := hid (show nv = v + ns from by omega)
  rw [HNV.out]
  clear hB hnv
  go_enter Try.func54, Try.ntmps54
  go_wp2_with fail
  refine (l1Least_m _ _ ns _ HM.out).mono ?_
  rintro e w' ⟨rfl, rfl⟩
  go_wp2_with fail
  have hh : Box9 g v ns (1) ((w.setCell ⟨g, 1, none⟩ (.int .i64 ns)).setCell ⟨g, 2, none⟩ (.int .i64 (1))) := HB.out.set1.set2
  have ho : Only9 g w ((w.setCell ⟨g, 1, none⟩ (.int .i64 ns)).setCell ⟨g, 2, none⟩ (.int .i64 (1))) := ((Only9.refl g w).set _ _).set _ _
  generalize ((w.setCell ⟨g, 1, none⟩ (.int .i64 ns)).setCell ⟨g, 2, none⟩ (.int .i64 (1))) = W at *
  obtain ⟨d0, d1, d2⟩ := hh.cells
  have k0 := hh.free 0
  have HH := hid hh
  have e1 : ∀ [Inhabited Unit], IntKind.i64.wrap ns = ns := IntWalk.i64_in _ (by omega)
  have e2 : ∀ [Inhabited Unit], IntKind.i64.wrap (-ns) = -ns := IntWalk.i64_in _ (by omega)
  have e3 : ∀ [Inhabited Unit], IntKind.i64.wrap (v + ns) = v + ns := IntWalk.i64_in _ (by omega)
  have e4 : ∀ [Inhabited Unit], IntKind.i64.wrap (v + -ns) = v - ns := IntWalk.i64_in _ (by omega)
  clear hh c0 c1 c2 f0 f1 f2
  go_region_with fail
  all_goals go_wp2
  all_goals show _ ∧ ∃ v, _ ∧ _
  all_goals refine ⟨rfl, .tuple #[], (by first | rfl | kernel_rfl), rfl, ?_, ho.drew.set _ _⟩
  all_goals exact (HH.out.same (w' := W.drew) rfl).set0


set_option maxHeartbeats 2000000 in
theorem take_mp (g : Nat) (v st ns nv : Int) (w : World) (hB : Box9 g v st (-1) w) (v1 : -1000000 ≤ v) (v2 : v ≤ 1000000) (s1 : 1 ≤ st) (s2 : st ≤ 4096) (hn : ns = max (st / 2) 1) (hnv : nv = v + (1) * ns) :
    Calls Try.prog 54 #[.pointer (some ⟨g, 0, none⟩), .int .i64 (1)] w fun e w' => e = .returned (.tuple #[]) ∧ Box9 g nv ns (1) w' ∧ Only9 g w w' := by
  obtain ⟨c0, c1, c2⟩ := hB.cells
  have f0 := hB.free 0
  have f1 := hB.free 1
  have f2 := hB.free 2
  obtain ⟨n1, n2⟩ : 1 ≤ ns ∧ ns ≤ 4096 := by omega
  have HB := hid hB
  have e2 : st.tdiv 2 = st / 2 := Int.tdiv_eq_ediv_of_nonneg (by omega)
  obtain ⟨q, hq⟩ : ∃ q, q = st / 2 := ⟨_, rfl⟩
  rw [← hq] at e2
  have HM := hid (show max q 1 = ns from by omega)
  have q1 : 0 ≤ q ∧ q ≤ 2048 := by omega
  clear hq
  clear hn
  have HNV := hid (show nv = v + ns from by omega)
  rw [HNV.out]
  clear hB hnv
  go_enter Try.func54, Try.ntmps54
  go_wp2_with fail
  refine (l1Most_m _ _ ns _ HM.out).mono ?_
  rintro e w' ⟨rfl, rfl⟩
  go_wp2_with fail
  have hh : Box9 g v ns (1) ((w.setCell ⟨g, 1, none⟩ (.int .i64 ns)).setCell ⟨g, 2, none⟩ (.int .i64 (1))) := HB.out.set1.set2
  have ho : Only9 g w ((w.setCell ⟨g, 1, none⟩ (.int .i64 ns)).setCell ⟨g, 2, none⟩ (.int .i64 (1))) := ((Only9.refl g w).set _ _).set _ _
  generalize ((w.setCell ⟨g, 1, none⟩ (.int .i64 ns)).setCell ⟨g, 2, none⟩ (.int .i64 (1))) = W at *
  obtain ⟨d0, d1, d2⟩ := hh.cells
  have k0 := hh.free 0
  have HH := hid hh
  have e1 : ∀ [Inhabited Unit], IntKind.i64.wrap ns = ns := IntWalk.i64_in _ (by omega)
  have e2 : ∀ [Inhabited Unit], IntKind.i64.wrap (-ns) = -ns := IntWalk.i64_in _ (by omega)
  have e3 : ∀ [Inhabited Unit], IntKind.i64.wrap (v + ns) = v + ns := IntWalk.i64_in _ (by omega)
  have e4 : ∀ [Inhabited Unit], IntKind.i64.wrap (v + -ns) = v - ns := IntWalk.i64_in _ (by omega)
  clear hh c0 c1 c2 f0 f1 f2
  go_region_with fail
  all_goals go_wp2
  all_goals show _ ∧ ∃ v, _ ∧ _
  all_goals refine ⟨rfl, .tuple #[], (by first | rfl | kernel_rfl), rfl, ?_, ho.drew.set _ _⟩
  all_goals exact (HH.out.same (w' := W.drew) rfl).set0


set_option maxHeartbeats 2000000 in
theorem take_0m (g : Nat) (v st ns nv : Int) (w : World) (hB : Box9 g v st (0) w) (v1 : -1000000 ≤ v) (v2 : v ≤ 1000000) (s1 : 1 ≤ st) (s2 : st ≤ 4096) (hn : ns = st) (hnv : nv = v + (-1) * ns) :
    Calls Try.prog 54 #[.pointer (some ⟨g, 0, none⟩), .int .i64 (-1)] w fun e w' => e = .returned (.tuple #[]) ∧ Box9 g nv ns (-1) w' ∧ Only9 g w w' := by
  obtain ⟨c0, c1, c2⟩ := hB.cells
  have f0 := hB.free 0
  have f1 := hB.free 1
  have f2 := hB.free 2
  obtain ⟨n1, n2⟩ : 1 ≤ ns ∧ ns ≤ 4096 := by omega
  have HB := hid hB
  subst hn
  have HNV := hid (show nv = v - ns from by omega)
  rw [HNV.out]
  clear hB hnv
  go_enter Try.func54, Try.ntmps54
  go_wp2_with fail
  have hh : Box9 g v ns (-1) (w.setCell ⟨g, 2, none⟩ (.int .i64 (-1))) := HB.out.set2
  have ho : Only9 g w (w.setCell ⟨g, 2, none⟩ (.int .i64 (-1))) := (Only9.refl g w).set _ _
  generalize (w.setCell ⟨g, 2, none⟩ (.int .i64 (-1))) = W at *
  obtain ⟨d0, d1, d2⟩ := hh.cells
  have k0 := hh.free 0
  have HH := hid hh
  have e1 : ∀ [Inhabited Unit], IntKind.i64.wrap ns = ns := IntWalk.i64_in _ (by omega)
  have e2 : ∀ [Inhabited Unit], IntKind.i64.wrap (-ns) = -ns := IntWalk.i64_in _ (by omega)
  have e3 : ∀ [Inhabited Unit], IntKind.i64.wrap (v + ns) = v + ns := IntWalk.i64_in _ (by omega)
  have e4 : ∀ [Inhabited Unit], IntKind.i64.wrap (v + -ns) = v - ns := IntWalk.i64_in _ (by omega)
  clear hh c0 c1 c2 f0 f1 f2
  go_region_with fail
  all_goals go_wp2
  all_goals show _ ∧ ∃ v, _ ∧ _
  all_goals refine ⟨rfl, .tuple #[], (by first | rfl | kernel_rfl), rfl, ?_, ho.drew.set _ _⟩
  all_goals exact (HH.out.same (w' := W.drew) rfl).set0


set_option maxHeartbeats 2000000 in
theorem take_pm (g : Nat) (v st ns nv : Int) (w : World) (hB : Box9 g v st (1) w) (v1 : -1000000 ≤ v) (v2 : v ≤ 1000000) (s1 : 1 ≤ st) (s2 : st ≤ 4096) (hn : ns = max (st / 2) 1) (hnv : nv = v + (-1) * ns) :
    Calls Try.prog 54 #[.pointer (some ⟨g, 0, none⟩), .int .i64 (-1)] w fun e w' => e = .returned (.tuple #[]) ∧ Box9 g nv ns (-1) w' ∧ Only9 g w w' := by
  obtain ⟨c0, c1, c2⟩ := hB.cells
  have f0 := hB.free 0
  have f1 := hB.free 1
  have f2 := hB.free 2
  obtain ⟨n1, n2⟩ : 1 ≤ ns ∧ ns ≤ 4096 := by omega
  have HB := hid hB
  have e2 : st.tdiv 2 = st / 2 := Int.tdiv_eq_ediv_of_nonneg (by omega)
  obtain ⟨q, hq⟩ : ∃ q, q = st / 2 := ⟨_, rfl⟩
  rw [← hq] at e2
  have HM := hid (show max q 1 = ns from by omega)
  have q1 : 0 ≤ q ∧ q ≤ 2048 := by omega
  clear hq
  clear hn
  have HNV := hid (show nv = v - ns from by omega)
  rw [HNV.out]
  clear hB hnv
  go_enter Try.func54, Try.ntmps54
  go_wp2_with fail
  refine (l1Most_m _ _ ns _ HM.out).mono ?_
  rintro e w' ⟨rfl, rfl⟩
  go_wp2_with fail
  have hh : Box9 g v ns (-1) ((w.setCell ⟨g, 1, none⟩ (.int .i64 ns)).setCell ⟨g, 2, none⟩ (.int .i64 (-1))) := HB.out.set1.set2
  have ho : Only9 g w ((w.setCell ⟨g, 1, none⟩ (.int .i64 ns)).setCell ⟨g, 2, none⟩ (.int .i64 (-1))) := ((Only9.refl g w).set _ _).set _ _
  generalize ((w.setCell ⟨g, 1, none⟩ (.int .i64 ns)).setCell ⟨g, 2, none⟩ (.int .i64 (-1))) = W at *
  obtain ⟨d0, d1, d2⟩ := hh.cells
  have k0 := hh.free 0
  have HH := hid hh
  have e1 : ∀ [Inhabited Unit], IntKind.i64.wrap ns = ns := IntWalk.i64_in _ (by omega)
  have e2 : ∀ [Inhabited Unit], IntKind.i64.wrap (-ns) = -ns := IntWalk.i64_in _ (by omega)
  have e3 : ∀ [Inhabited Unit], IntKind.i64.wrap (v + ns) = v + ns := IntWalk.i64_in _ (by omega)
  have e4 : ∀ [Inhabited Unit], IntKind.i64.wrap (v + -ns) = v - ns := IntWalk.i64_in _ (by omega)
  clear hh c0 c1 c2 f0 f1 f2
  go_region_with fail
  all_goals go_wp2
  all_goals show _ ∧ ∃ v, _ ∧ _
  all_goals refine ⟨rfl, .tuple #[], (by first | rfl | kernel_rfl), rfl, ?_, ho.drew.set _ _⟩
  all_goals exact (HH.out.same (w' := W.drew) rfl).set0


set_option maxHeartbeats 2000000 in
theorem take_mm (g : Nat) (v st ns nv : Int) (w : World) (hB : Box9 g v st (-1) w) (v1 : -1000000 ≤ v) (v2 : v ≤ 1000000) (s1 : 1 ≤ st) (s2 : st ≤ 4096) (hn : ns = min (2 * st) 4096) (hnv : nv = v + (-1) * ns) :
    Calls Try.prog 54 #[.pointer (some ⟨g, 0, none⟩), .int .i64 (-1)] w fun e w' => e = .returned (.tuple #[]) ∧ Box9 g nv ns (-1) w' ∧ Only9 g w w' := by
  obtain ⟨c0, c1, c2⟩ := hB.cells
  have f0 := hB.free 0
  have f1 := hB.free 1
  have f2 := hB.free 2
  obtain ⟨n1, n2⟩ : 1 ≤ ns ∧ ns ≤ 4096 := by omega
  have HB := hid hB
  have HM := hid (show min 4096 (2 * st) = ns from by omega)
  clear hn
  have HNV := hid (show nv = v - ns from by omega)
  rw [HNV.out]
  clear hB hnv
  go_enter Try.func54, Try.ntmps54
  go_wp2_with fail
  refine (l1Least_m _ _ ns _ HM.out).mono ?_
  rintro e w' ⟨rfl, rfl⟩
  go_wp2_with fail
  have hh : Box9 g v ns (-1) ((w.setCell ⟨g, 1, none⟩ (.int .i64 ns)).setCell ⟨g, 2, none⟩ (.int .i64 (-1))) := HB.out.set1.set2
  have ho : Only9 g w ((w.setCell ⟨g, 1, none⟩ (.int .i64 ns)).setCell ⟨g, 2, none⟩ (.int .i64 (-1))) := ((Only9.refl g w).set _ _).set _ _
  generalize ((w.setCell ⟨g, 1, none⟩ (.int .i64 ns)).setCell ⟨g, 2, none⟩ (.int .i64 (-1))) = W at *
  obtain ⟨d0, d1, d2⟩ := hh.cells
  have k0 := hh.free 0
  have HH := hid hh
  have e1 : ∀ [Inhabited Unit], IntKind.i64.wrap ns = ns := IntWalk.i64_in _ (by omega)
  have e2 : ∀ [Inhabited Unit], IntKind.i64.wrap (-ns) = -ns := IntWalk.i64_in _ (by omega)
  have e3 : ∀ [Inhabited Unit], IntKind.i64.wrap (v + ns) = v + ns := IntWalk.i64_in _ (by omega)
  have e4 : ∀ [Inhabited Unit], IntKind.i64.wrap (v + -ns) = v - ns := IntWalk.i64_in _ (by omega)
  clear hh c0 c1 c2 f0 f1 f2
  go_region_with fail
  all_goals go_wp2
  all_goals show _ ∧ ∃ v, _ ∧ _
  all_goals refine ⟨rfl, .tuple #[], (by first | rfl | kernel_rfl), rfl, ?_, ho.drew.set _ _⟩
  all_goals exact (HH.out.same (w' := W.drew) rfl).set0


theorem take_any (g : Nat) (v st last bit ns nv : Int) (w : World) (hB : Box9 g v st last w) (v1 : -1000000 ≤ v) (v2 : v ≤ 1000000) (s1 : 1 ≤ st) (s2 : st ≤ 4096) (hb : bit = 1 ∨ bit = -1)
    (hk : (last = 0 ∧ ns = st) ∨ ((last = 1 ∨ last = -1) ∧ ns = adI st (decide (bit = last)))) (hnv : nv = v + bit * ns) :
    Calls Try.prog 54 #[.pointer (some ⟨g, 0, none⟩), .int .i64 bit] w fun e w' => e = .returned (.tuple #[]) ∧ Box9 g nv ns bit w' ∧ Only9 g w w' := by
  rcases hb with rfl | rfl
  · rcases hk with ⟨rfl, h⟩ | ⟨rfl | rfl, h⟩
    · exact take_0p g v st ns nv w hB v1 v2 s1 s2 h hnv
    · exact take_pp g v st ns nv w hB v1 v2 s1 s2 h hnv
    · exact take_mp g v st ns nv w hB v1 v2 s1 s2 h hnv
  · rcases hk with ⟨rfl, h⟩ | ⟨rfl | rfl, h⟩
    · exact take_0m g v st ns nv w hB v1 v2 s1 s2 h hnv
    · exact take_pm g v st ns nv w hB v1 v2 s1 s2 h hnv
    · exact take_mm g v st ns nv w hB v1 v2 s1 s2 h hnv

end Go.Proofs.Ythkfjoonkkmgiaa
