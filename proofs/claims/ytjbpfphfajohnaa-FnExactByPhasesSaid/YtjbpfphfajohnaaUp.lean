
import Derived.Test.YtjbpfphfajohnaaUb
import Derived.Test.YtjbpfphfajohnaaEg
import Derived.Test.YtjbpfphfajohnaaVb
import Derived.Test.YtjbpfphfajohnaaQa
import Derived.Deep.RegionLaw
namespace Go.Ch8
open Go Go.RowKit Go.MemX Go.Ch6
set_option linter.unusedVariables false
theorem eq_of_lt_iff {a b : Nat} (h : ∀ m, m < a ↔ m < b) : a = b := by
  have h1 := h a; have h2 := h b; omega
theorem drN_keep {p j k : Nat} (hp : 1 ≤ p) (hj : j < p) (hne : j ≠ k % p) : drN (k + 1) p j = drN k p j := eq_of_lt_iff fun m => by
  rw [drN_lt hp, drN_lt hp]
  have : j + m * p ≠ k := fun e => hne (by rw [← e, Nat.add_mul_mod_self_right, Nat.mod_eq_of_lt hj])
  omega
theorem drN_here {p k : Nat} (hp : 1 ≤ p) : drN k p (k % p) = k / p := eq_of_lt_iff fun m => by
  rw [drN_lt hp]
  have h := Nat.mod_add_div k p
  have h2 : m < k / p ↔ m * p < k / p * p := (Nat.mul_lt_mul_right (by omega)).symm
  rw [h2, Nat.mul_comm (k / p)]
  omega
theorem drN_next {p k : Nat} (hp : 1 ≤ p) : drN (k + 1) p (k % p) = k / p + 1 := eq_of_lt_iff fun m => by
  rw [drN_lt hp]
  have h := Nat.mod_add_div k p
  have h2 : m ≤ k / p ↔ m * p ≤ k / p * p := ⟨fun h => Nat.mul_le_mul_right _ h, fun h => Nat.le_of_mul_le_mul_right h (by omega)⟩
  have h3 : m < k / p + 1 ↔ m ≤ k / p := Nat.lt_succ_iff
  rw [h3, h2, Nat.mul_comm (k / p)]
  omega
/-- the phases of the first k weights -/
def phK (h : List Int) (p k j : Nat) : List Int := tab (drN k p j) (fun m => at0 h (j + m * p))
def phA (h : List Int) (p k : Nat) : List (List Int) := (List.range p).map (phK h p k)
def phL (h : List Int) (p : Nat) : List (List Int) := (List.range p).map (fun j => dropL p j h)
theorem phA_full (h : List Int) (p : Nat) : phA h p h.length = phL h p := rfl
theorem phK_zero (h : List Int) (p j : Nat) : phK h p 0 j = [] := by unfold phK drN; rw [if_neg (by omega)]; rfl
theorem phA_len (h : List Int) (p k : Nat) : (phA h p k).length = p := by simp [phA]
theorem phA_at {h : List Int} {p k j : Nat} (hj : j < p) : (phA h p k)[j]? = some (phK h p k j) := by
  unfold phA; rw [List.getElem?_map, List.getElem?_range hj]; rfl
theorem phA_step {h : List Int} {p k : Nat} (hp : 1 ≤ p) : (phA h p k).set (k % p) (phK h p k (k % p) ++ [at0 h k]) = phA h p (k + 1) := by
  have hi : k % p < p := Nat.mod_lt _ hp
  refine List.ext_getElem? fun j => ?_
  by_cases hj : j < p
  · rw [phA_at hj]
    by_cases he : k % p = j
    · subst he
      rw [List.getElem?_set_self (by rw [phA_len]; exact hi)]
      unfold phK
      rw [drN_here hp, drN_next hp, tab_step]
      congr 3
      have := Nat.mod_add_div k p
      rw [Nat.mul_comm] at this
      rw [this]
    · rw [List.getElem?_set_ne he, phA_at hj]
      unfold phK
      rw [drN_keep hp hj (fun e => he e.symm)]
  · rw [List.getElem?_eq_none (by rw [List.length_set, phA_len]; omega), List.getElem?_eq_none (by rw [phA_len]; omega)]
/-- the first k of the phases, empty ones behind -/
def phI (h : List Int) (p k : Nat) : List (List Int) := (List.range p).map (fun j => if j < k then dropL p j h else [])
theorem phI_len (h : List Int) (p k : Nat) : (phI h p k).length = p := by simp [phI]
theorem phI_at {h : List Int} {p k j : Nat} (hj : j < p) : (phI h p k)[j]? = some (if j < k then dropL p j h else []) := by
  unfold phI; rw [List.getElem?_map, List.getElem?_range hj]; rfl
theorem phI_full (h : List Int) (p : Nat) : phI h p p = phL h p := by
  unfold phI phL
  refine List.map_congr_left fun j hj => ?_
  rw [if_pos (List.mem_range.1 hj)]
theorem phI_step {h : List Int} {p k : Nat} (hk : k < p) : (phI h p k).set k (dropL p k h) = phI h p (k + 1) := by
  refine List.ext_getElem? fun j => ?_
  by_cases hj : j < p
  · rw [phI_at hj]
    by_cases he : k = j
    · subst he
      rw [List.getElem?_set_self (by rw [phI_len]; exact hk), if_pos (by omega)]
    · rw [List.getElem?_set_ne he, phI_at hj]
      congr 1
      by_cases h1 : j < k
      · rw [if_pos h1, if_pos (by omega)]
      · rw [if_neg h1, if_neg (by omega)]
  · rw [List.getElem?_eq_none (by rw [List.length_set, phI_len]; omega), List.getElem?_eq_none (by rw [phI_len]; omega)]
theorem lenS_ph {h : List Int} {p : Nat} (hp : 1 ≤ p) (hp8 : p ≤ 8) (hl : h.length ≤ 64) : lenS (phL h p) ≤ 2000000 := by
  unfold lenS phL
  rw [List.map_map]
  have hb : ∀ n, ((List.range n).map (List.length ∘ fun j => dropL p j h)).sum ≤ n * 64 := by
    intro n
    induction n with
    | zero => simp
    | succ n ih =>
      rw [List.range_succ, List.map_append, List.sum_append]
      have : (dropL p n h).length ≤ 64 := Nat.le_trans (dropL_le p n h hp) hl
      simp only [List.map_cons, List.map_nil, List.sum_cons, List.sum_nil, Function.comp]
      omega
  have := hb p
  omega
end Go.Ch8
namespace Go.MemX
open Go Go.RowKit
set_option linter.unusedVariables false
/-- a block that holds slices, each with numbers of its own -/
structure PhS (F : TypeId) (R : World → Value → List Int → Prop) (g : Nat) (w : World) (vs : List Value) (xss : List (List Int)) : Prop where
  blk : w.heap[g]? = some (.cells vs.toArray F (0, 0))
  len : vs.length = xss.length
  each : ∀ (i : Nat) (u : Value) (xs : List Int), vs[i]? = some u → xss[i]? = some xs → R w u xs
  apart : ∀ (i j : Nat) (u u' : Value), vs[i]? = some u → vs[j]? = some u' → i ≠ j → Apart u u'
theorem PhS.glt {F : TypeId} {R : World → Value → List Int → Prop} {g : Nat} {w : World} {vs : List Value} {xss : List (List Int)} (h : PhS F R g w vs xss) : g < w.heap.size := lt_of_block h.blk
theorem PhS.cell {F : TypeId} {R : World → Value → List Int → Prop} {g : Nat} {w : World} {vs : List Value} {xss : List (List Int)} (h : PhS F R g w vs xss) {i : Nat} {u : Value} (hi : vs[i]? = some u) : w.cell? ⟨g, i, none⟩ = some u := by
  rw [cell_of_row w g i _ _ _ h.blk]; simpa using hi
theorem PhS.free {F : TypeId} {R : World → Value → List Int → Prop} {g : Nat} {w : World} {vs : List Value} {xss : List (List Int)} (h : PhS F R g w vs xss) (i : Nat) : w.frozen? ⟨g, i, none⟩ = false := frozen_of_row w g i _ _ h.blk
theorem PhS.get {F : TypeId} {R : World → Value → List Int → Prop} {g : Nat} {w : World} {vs : List Value} {xss : List (List Int)} (h : PhS F R g w vs xss) {i : Nat} (hi : i < xss.length) : ∃ u, vs[i]? = some u := ⟨_, List.getElem?_eq_getElem (by rw [h.len]; exact hi)⟩
theorem PhS.store {F : TypeId} {R : World → Value → List Int → Prop} {g i : Nat} {w w2 : World} {v' : Value} {vs : List Value} {xss : List (List Int)} {ys : List Int} (h : PhS F R g w vs xss) (hw : w2.heap[g]? = w.heap[g]?)
    (hk : ∀ (j : Nat) (u : Value) (xs : List Int), j ≠ i → vs[j]? = some u → xss[j]? = some xs → R w2 u xs) (hn : R w2 v' ys) (hap : ∀ (j : Nat) (u : Value), j ≠ i → vs[j]? = some u → Apart v' u)
    (hset : ∀ (u : Value) (xs : List Int), R w2 u xs → R (w2.setCell ⟨g, i, none⟩ v') u xs) : PhS F R g (w2.setCell ⟨g, i, none⟩ v') (vs.set i v') (xss.set i ys) := by
  refine ⟨?_, by rw [List.length_set, List.length_set]; exact h.len, fun j u xs hj hx => ?_, fun j l u u' hj hl hne => ?_⟩
  · rw [heap_setCell_same _ _ _ _ _ _ (hw.trans h.blk)]; simp
  · by_cases hij : i = j
    · subst hij
      have h1 : i < vs.length := by have := (List.getElem?_eq_some_iff.1 hj).1; simpa using this
      rw [List.getElem?_set_self h1] at hj
      rw [List.getElem?_set_self (by rw [← h.len]; exact h1)] at hx
      cases hj; cases hx
      exact hset _ _ hn
    · rw [List.getElem?_set_ne hij] at hj hx
      exact hset _ _ (hk j u xs (fun e => hij e.symm) hj hx)
  · by_cases hij : i = j
    · subst hij
      have h1 : i < vs.length := by have := (List.getElem?_eq_some_iff.1 hj).1; simpa using this
      rw [List.getElem?_set_self h1] at hj
      rw [List.getElem?_set_ne hne] at hl
      cases hj
      exact hap l u' (fun e => hne e.symm) hl
    · rw [List.getElem?_set_ne hij] at hj
      by_cases hil : i = l
      · subst hil
        have h1 : i < vs.length := by have := (List.getElem?_eq_some_iff.1 hl).1; simpa using this
        rw [List.getElem?_set_self h1] at hl
        cases hl
        exact (hap j u (fun e => hij e.symm) hj).symm
      · rw [List.getElem?_set_ne hil] at hl
        exact h.apart j l u u' hj hl hne
theorem own_set8 {w : World} {B : Nat} {E : TypeId} {k n g i : Nat} {v u : Value} {xs : List Value} (h : w.ownsRow B E k v n xs) (hg : g < B) : (w.setCell ⟨g, i, none⟩ u).ownsRow B E k v n xs := by
  obtain ⟨h1, h2⟩ := h
  refine ⟨h1, ?_⟩
  rcases h2 with h2 | ⟨g2, cap, cur, hv, hB, hh, r⟩
  · exact .inl h2
  · exact .inr ⟨g2, cap, cur, hv, hB, by rw [heap_setCell_other _ _ _ _ (by simp; omega)]; exact hh, r⟩
theorem own_slice8 {w : World} {B : Nat} {E : TypeId} {k n : Nat} {v : Value} {xs : List Value} (h : w.ownsRow B E k v n xs) : ∃ a m c, v = .slice a m c := by
  rcases h.2 with ⟨rfl, _⟩ | ⟨g, cap, cur, rfl, _⟩
  · exact ⟨none, 0, 0, rfl⟩
  · exact ⟨_, _, _, rfl⟩
theorem res_set8 {E : TypeId} {B : Nat} {w : World} {v u : Value} {xs : List Int} {g i : Nat} (h : Res E B w v xs) (hg : g < B) : Res E B (w.setCell ⟨g, i, none⟩ u) v xs := h.same fun k hk => heap_setCell_other _ _ _ _ (by have := h.ge hk; simp; omega)
theorem PhS.ss {E F : TypeId} {B g : Nat} {w : World} {vs : List Value} {xss : List (List Int)} (h : PhS F (fun w u xs => Res E B w u xs) g w vs xss) (hg : g < B) : SSr E F g w (.slice (some ⟨g, 0, none⟩) vs.length vs.length) vs xss :=
  ⟨h.len, fun i u xs hi hx => (h.each i u xs hi hx).mono (Nat.le_of_lt hg), fun i j u u' hi hj hne k hk => h.apart i j u u' hi hj hne k hk, .inr ⟨g, vs.length, rfl, Nat.le_refl _, ⟨vs.toArray, h.blk, by simp, Nat.le_refl _, by simp⟩, fun i u hi e => by
    have hil : i < vs.length := (List.getElem?_eq_some_iff.1 hi).1
    obtain ⟨xs, hx⟩ : ∃ xs, xss[i]? = some xs := ⟨_, List.getElem?_eq_getElem (by rw [← h.len]; exact hil)⟩
    have := (h.each i u xs hi hx).ge e
    omega⟩⟩
theorem PhS.imp {F : TypeId} {R S : World → Value → List Int → Prop} {g : Nat} {w : World} {vs : List Value} {xss : List (List Int)} (h : PhS F R g w vs xss) (hi : ∀ u xs, R w u xs → S w u xs) : PhS F S g w vs xss := ⟨h.blk, h.len, fun i u xs a b => hi u xs (h.each i u xs a b), h.apart⟩
end Go.MemX
namespace Go.Proofs.Ytjbpfphfajohnaa
open Go.RowKit BitX Go.MemX Go.Ch6 Go.Ch8
set_option linter.unusedVariables false

theorem step_append_own2 {P : Program} {ops : Array Oper} {o : Oper} {a : Act} {w : World} {K : Act → World → Prop} {Q : Exit → Act → World → Prop} {E : Prop} (hgd : o.guard = none) (s x : Operand) (t : TypeId)
    (ho : o.op = .call { callee := .builtin .append, args := #[s, x], argTypes := #[t, t] })
    (base : Nat) (e : TypeId) (i : TypeInfo) (z : Value) (size bytes : Nat) (ht : P.underlying t = some (.slice e)) (hi : P.info? e = some i) (hz : i.zero = some z)
    (hsize : i.size = size) (hby : i.bytes = bytes) (hzs : z.cells.size = size) (hsz : 0 < size)
    (v : Value) (n : Nat) (xs : List Value) (hs : a.eval s = v) (hown : w.ownsRow base e size v n xs)
    (ad : Addr) (m c : Nat) (news : List Value) (hx : a.eval x = .slice (some ad) m c) (hl : news.length = m * size) (hnews : ∀ j u, news[j]? = some u → w.cell? (ad.add j) = some u) (h1 : ∀ u ∈ news, u.oneCell' = true)
    (h63 : n + m ≤ maxLen) (hbytes : (n + m) * bytes ≤ 140737488355328) (hbase : base ≤ w.heap.size)
    (h : ∀ v' w', w'.ownsRow base e size v' (n + m) (xs ++ news) → w.grownBy w' v.ownBlock → (∀ k, v'.ownBlock = some k → v.ownBlock = some k ∨ w.heap.size ≤ k) → K (a.put o.dst v') w') :
    if Region.wanted o (yielded ops a.tmps) = true then Oper.wp P o a w K Q else E := by
  rw [if_pos (by simp [Region.wanted, hgd])]
  obtain ⟨v', w', hr, h2, h3, h4⟩ := run_append_own2 (P := P) w base t o.type e i z size bytes ht hi hz hsize hby hzs hsz v n xs hown ad m c news hl hnews h1 h63 hbytes hbase
  unfold Oper.wp execOp
  simp only [ho, resolve, invoke, builtin, Sem.run_bind, Sem.run_pure, Result.andThen_ok, List.map_toArray, List.map_cons, List.map_nil, hs, hx, hr]
  exact h v' w' h2 h3 h4


theorem owns_lt {w : World} {B : Nat} {E : TypeId} {sz n : Nat} {v : Value} {xs : List Value} (h : w.ownsRow B E sz v n xs) {k : Nat} (hk : v.ownBlock = some k) : k < w.heap.size := by
  rcases h.2 with ⟨rfl, _⟩ | ⟨g, cap, cur, rfl, _, hh, _⟩
  · cases hk
  · cases hk; exact lt_of_block hh




theorem madeCells_nil (n : Nat) : madeCells #[Value.slice none 0 0] n = (List.replicate n (Value.slice none 0 0)).toArray := by
  apply Array.toList_inj.1
  rw [toList_madeCells_one]
theorem run_make_ss (n : Nat) (hn : n ≤ 64) (w : World) :
    (Instr.makeSlice 43 (.int .i64 (n : Int)) (.int .i64 (n : Int))).run Try.prog w = .ok (.slice (some ⟨w.heap.size, 0, none⟩) n n) (w.alloc (.cells (List.replicate n (Value.slice none 0 0)).toArray 22)) := by
  obtain ⟨i0, h1, h2, h3, h4⟩ : ∃ i0, Try.prog.info? 22 = some i0 ∧ i0.zero = some (.slice none 0 0) ∧ i0.size = 1 ∧ i0.bytes = 24 := by
    have h : (Try.prog.info? 22).map (fun i => (i.zero, i.size, i.bytes)) = some (some (.slice none 0 0), 1, 24) := by kernel_rfl
    cases hi : Try.prog.info? 22 with
    | none => rw [hi] at h; simp at h
    | some i => rw [hi] at h; simp at h; exact ⟨i, rfl, h.1, h.2.1, h.2.2⟩
  have hr := run_make (P := Try.prog) w 43 22 i0 _ uslice2 h1 h2 .i64 .i64 n n (by omega) (Int.le_refl _) (by rw [h4]; omega) (by omega)
  rw [hr, h3]
  simp only [Int.toNat_natCast, Nat.mul_one, Value.cells, madeCells_nil]
theorem ph_start (R : World → Value → List Int → Prop) (w : World) (p : Nat) (xss : List (List Int)) (hl : xss.length = p) (hR : ∀ (i : Nat) (xs : List Int), xss[i]? = some xs → R (w.alloc (.cells (List.replicate p (Value.slice none 0 0)).toArray 22)) (.slice none 0 0) xs) :
    PhS 22 R w.heap.size (w.alloc (.cells (List.replicate p (Value.slice none 0 0)).toArray 22)) (List.replicate p (Value.slice none 0 0)) xss :=
  ⟨Array.getElem?_push_size, by rw [List.length_replicate, hl], fun i u xs hi hx => by rw [List.eq_of_mem_replicate (List.mem_of_getElem? hi)]; exact hR i xs hx, fun i j u u' hi hj _ => by rw [List.eq_of_mem_replicate (List.mem_of_getElem? hi)]; exact Apart.nil _⟩
theorem sone3 (w : World) : (sizeOf (Try.prog.elem 43)).run Try.prog w = .ok 1 w := by kernel_rfl
theorem ixO (g n k : Nat) (hk : k < n) : ∀ w : World, (Instr.indexAt 43 (.slice (some ⟨g, 0, none⟩) n n) (.int .i64 (k : Int))).run Try.prog w = .ok (.pointer (some ⟨g, k, none⟩)) w := fun w => by
  rw [run_indexAt_slice _ _ _ _ _ _ _ uslice2, if_pos (by omega), sone3]
  simp [Addr.add]
  try (intro h0; omega)


/-- what a call leaves that hands back a new list of lists alone -/
def GivesPh (w : World) (xss : List (List Int)) (e : Ending) (w' : World) : Prop :=
  ∃ g vs, e = .returned (.slice (some ⟨g, 0, none⟩) vs.length vs.length) ∧ PhS 22 (fun W u xs => Res 3 (g + 1) W u xs) g w' vs xss ∧ w.heap.size ≤ g ∧ Below w.heap.size w w'
set_option maxHeartbeats 1000000 in
theorem phasesOf_any (v : Value) (h : List Int) (p : Nat) (w : World) (hs : Sl w v h) (hl : h.length ≤ 64) (p1 : 1 ≤ p) (p8 : p ≤ 8) :
    Calls Try.prog 30 #[v, .int .i64 (p : Int)] w (GivesPh w (phL h p)) := by
  have HS := hid hs
  have HL := hid hl
  have hmk := run_make_ss p (by omega)
  clear hs hl
  go_enter Try.func30, Try.ntmps30
  go_wp2_with fail
  go_loopw [11] (fun i wr => ∃ (k : Nat) (vs : List Value), k ≤ p ∧ i = .int .i64 (k : Int) ∧ PhS 22 (fun W u xs => Res 3 (w.heap.size + 1) W u xs) w.heap.size wr vs (phI h p k) ∧ Below w.heap.size w wr)
    (fun i _ => p - (intOf i).toNat)
  case atStart => exact ⟨0, _, by omega, rfl, ph_start _ w p (phI h p 0) (phI_len _ _ _) (fun i xs hx => by
    have hi : i < p := by have := (List.getElem?_eq_some_iff.1 hx).1; rwa [phI_len] at this
    rw [phI_at hi] at hx; simp at hx; subst hx; exact Res.nil _ _ _), bel_alloc _ _⟩
  case round =>
    obtain ⟨k, vs, hk, rfl, hph, hb⟩ := hrel
    have hsz : w.heap.size ≤ wr.heap.size := hb.size
    have hsz1 : w.heap.size + 1 ≤ wr.heap.size := hph.glt
    by_cases hlk : k < p
    · have hix := ixO w.heap.size p k hlk
      have Hph := hid hph
      clear hph
      go_wp2_with fail
      refine (dropFrom_any _ h p k _ (HS.out.kept hb) HL.out p1 p8 (by omega)).mono ?_
      rintro e w2 ⟨v2, rfl, R2, hb2⟩
      obtain ⟨u, hu⟩ := Hph.out.get (i := k) (by rw [phI_len]; exact hlk)
      have hw2 : w2.heap[w.heap.size]? = wr.heap[w.heap.size]? := hb2.block _ (by omega)
      have hc2 : w2.cell? ⟨w.heap.size, k, none⟩ = some u := by
        rw [cell_of_row w2 _ k _ _ _ (hw2.trans Hph.out.blk)]; simpa using hu
      have hf2 : w2.frozen? ⟨w.heap.size, k, none⟩ = false := frozen_of_row w2 _ k _ _ (hw2.trans Hph.out.blk)
      have hst := Hph.out.store (w2 := w2) (v' := v2) (i := k) (ys := dropL p k h) hw2 (fun j u' xs hne hj hx => (Hph.out.each j u' xs hj hx).kept hb2) (R2.mono hsz1) (fun j u' hne hj k1 hk1 e => by
        have h1 := R2.ge hk1
        have hjl : j < p := by have := (List.getElem?_eq_some_iff.1 hj).1; rw [Hph.out.len, phI_len] at this; exact this
        have h2 := (Hph.out.each j u' _ hj (phI_at hjl)).lt e
        omega) (fun u' xs hr => res_set8 hr (Nat.lt_succ_self _))
      rw [phI_step hlk] at hst
      have Hst := hid hst
      obtain ⟨a3, n3, c3, rfl, _⟩ : ∃ a n c, v2 = .slice a n c ∧ True := by
        rcases R2 with ⟨_, rfl⟩ | ⟨g, cap, rfl, _⟩
        · exact ⟨none, 0, 0, rfl, trivial⟩
        · exact ⟨_, _, _, rfl, trivial⟩
      have hb3 := hb.trans (hb2.mono hsz)
      clear hst R2 hb2 hw2 hu
      go_wp2
      go_roundw
      case rel => exact ⟨k + 1, _, by omega, by go_num, Hst.out, hb3.setCell (by simp) _⟩
      case measure => simp [intOf]; omega
    · have hge : (p : Int) ≤ (k : Int) := by omega
      have hkn : k = p := by omega
      have Hk := hid hkn
      have Hph := hid hph
      clear hlk hkn hph
      go_wp2
      go_ret
      have h1 := Hph.out
      rw [Hk.out, phI_full] at h1
      have hl : vs.length = p := by rw [h1.len]; simp [phL]
      exact ⟨w.heap.size, vs, by rw [hl]; rfl, h1, Nat.le_refl _, hb⟩


set_option maxHeartbeats 1000000 in
theorem rsPhases_any (v : Value) (h : List Int) (p : Nat) (w : World) (hs : Sl w v h) (hl : h.length ≤ 64) (p1 : 1 ≤ p) (p8 : p ≤ 8) :
    Calls Try.prog 45 #[v, .int .i64 (p : Int)] w (GivesPh w (phL h p)) := by
  obtain ⟨a, n, cap, rfl, hn, hrd⟩ := hs.rd
  have Hn := hid hn
  have Hrd := hid hrd
  have hn64 : n ≤ 64 := by omega
  have hmk := run_make_ss p (by omega)
  obtain ⟨i0, hi0, hz0, hz1, hz2⟩ := info_parts iint
  have hp0 : ((p : Int) == 0) = false := by rw [beq_eq_false_iff_ne]; omega
  have hp1 : (1 : Int) ≤ (p : Int) := by omega
  have hp2 : p ≠ 0 := by omega
  clear hs hn hrd hl
  go_enter Try.func45, Try.ntmps45
  go_wp2_with fail
  go_loopw [12] (fun i wr => ∃ (k : Nat) (vs : List Value), k ≤ n ∧ i = .int .i64 (k : Int) ∧ PhS 22 (fun W u xs => W.ownsRow (w.heap.size + 1) 3 1 u xs.length (xs.map (Value.int .i64))) w.heap.size wr vs (phA h p k) ∧ Below w.heap.size w wr)
    (fun i _ => n - (intOf i).toNat)
  case atStart => exact ⟨0, _, by omega, rfl, ph_start _ w p (phA h p 0) (phA_len _ _ _) (fun i xs hx => by
    have hi : i < p := by have := (List.getElem?_eq_some_iff.1 hx).1; rwa [phA_len] at this
    rw [phA_at hi, phK_zero] at hx; simp at hx; subst hx; exact World.ownsRow_nil _ _ _ _), bel_alloc _ _⟩
  case round =>
    obtain ⟨k, vs, hk, rfl, hph, hb⟩ := hrel
    have hsz : w.heap.size ≤ wr.heap.size := hb.size
    have hsz1 : w.heap.size + 1 ≤ wr.heap.size := hph.glt
    by_cases hlk : k < n
    · obtain ⟨x, hkx⟩ := get_lt h k (by rw [← Hn.out]; exact hlk)
      obtain ⟨bb, oo, hix0, hbb, hce⟩ := (Hrd.out.kept hb).at (P := Try.prog) (T := 22) n cap uslice sone hkx hlk
      obtain ⟨r, hr⟩ : ∃ r, r = k % p := ⟨_, rfl⟩
      have hrp : r < p := by rw [hr]; exact Nat.mod_lt _ p1
      have hix := ixO w.heap.size p r hrp
      have hrb : -9223372036854775808 ≤ (r : Int) ∧ (r : Int) ≤ 9223372036854775807 := by omega
      have ht : (k : Int).tmod (p : Int) = (r : Int) := by rw [Int.tmod_eq_emod_of_nonneg (by omega), hr]; rfl
      have ht2 : (k : Int) % (p : Int) = (r : Int) := by rw [hr]; rfl
      have c3 : ∀ [Inhabited Unit], IntKind.i64.wrap ((k : Int).tmod (p : Int)) = (r : Int) := by rw [ht]; exact IntWalk.i64_in _ hrb
      have c5 : ∀ [Inhabited Unit], (k : Int).tmod (p : Int) = (r : Int) := ht
      have c4 : ∀ [Inhabited Unit], IntKind.i64.wrap ((k : Int) % (p : Int)) = (r : Int) := by rw [ht2]; exact IntWalk.i64_in _ hrb
      clear ht ht2 hrb
      obtain ⟨u, hu⟩ := hph.get (i := r) (by rw [phA_len]; exact hrp)
      have hx := phA_at (h := h) (k := k) hrp
      have hown := hph.each r u _ hu hx
      obtain ⟨a3, n3, c3', rfl⟩ := own_slice8 hown
      have hst := phA_step (h := h) (k := k) p1
      rw [← hr, at0_of hkx] at hst
      have hlen : (phK h p k r).length ≤ 64 := by unfold phK; rw [tab_len]; exact Nat.le_trans (drN_le _ _ _ p1) (by omega)
      generalize hys : phK h p k r = ys at hst hown hlen hx
      have Hys := hid hys
      have Hown := hid hown
      have Hob := hid (ownsRow_base hown)
      have Hph := hid hph
      have Hst := hid hst
      have Hu := hid hu
      have hcd : wr.drew.cell? ⟨w.heap.size, r, none⟩ = some (.slice a3 n3 c3') := hph.cell hu
      have hca : (wr.alloc (.cells #[.int .i64 x] 3)).cell? ⟨w.heap.size, r, none⟩ = some (.slice a3 n3 c3') := by rw [(bel_alloc wr _).cell (by exact Nat.lt_of_succ_le hsz1)]; exact hph.cell hu
      clear hys hst hown hph hx hkx hr hu
      go_wp2_with fail
      go_region_law (first | (refine step_append_own2 rfl _ _ 22 rfl (w.heap.size + 1) 3 i0 (.int .i64 0) 1 8 uslice hi0 hz0 hz1 hz2 rfl (by decide) _ ys.length _ rfl ((ownsRow_below Hown.out (Below.refl _ _).drew).alloc _) ⟨wr.heap.size, 0, none⟩ 1 1 [.int .i64 x] rfl rfl (cell_one_new _ _ _) (by intro u hu; simp at hu; subst hu; rfl) (by unfold maxLen; omega) (by omega) (by simp; omega) ?_; intro av aw aown agrow anew; obtain ⟨a5, n5, c5, rfl⟩ := own_slice8 aown; have hb3 : Below (w.heap.size + 1) wr aw := ((Below.refl (w.heap.size + 1) wr).drew.alloc hsz1 _).grown agrow (by simp; omega) (fun j hj => Hob.out j hj); have hw3 : aw.heap[w.heap.size]? = wr.heap[w.heap.size]? := hb3.block _ (Nat.lt_succ_self _); have hc3 : aw.cell? ⟨w.heap.size, r, none⟩ = some (.slice a3 n3 c3') := (by rw [cell_of_row aw _ r _ _ _ (hw3.trans Hph.out.blk)]; simpa using Hu.out); have hf3 : aw.frozen? ⟨w.heap.size, r, none⟩ = false := frozen_of_row aw _ r _ _ (hw3.trans Hph.out.blk)))
      all_goals go_wp2
      all_goals go_roundw
      all_goals first
        | exact ⟨k + 1, _, by omega, by go_num, by
            have h5 := Hph.out.store (w2 := aw) (v' := .slice a5 n5 c5) (i := r) (ys := ys ++ [x]) hw3 (fun j u' xs hne hj hx => owns_other ((ownsRow_below (Hph.out.each j u' xs hj hx) (Below.refl _ _).drew).alloc _) agrow (Hph.out.apart r j _ u' Hu.out hj (fun e => hne e.symm))) (by rw [List.length_append, List.map_append]; exact aown) (fun j u' hne hj => (Hph.out.apart r j _ u' Hu.out hj (fun e => hne e.symm)).grown anew (fun k1 hk1 => by
                have hjl : j < p := by have := (List.getElem?_eq_some_iff.1 hj).1; rw [Hph.out.len, phA_len] at this; exact this
                have := owns_lt (Hph.out.each j u' _ hj (phA_at hjl)) hk1
                simp; omega)) (fun u' xs hr => own_set8 hr (Nat.lt_succ_self _))
            rw [Hst.out] at h5
            exact h5, (hb.trans (hb3.mono (Nat.le_succ _))).setCell (by simp) _⟩
        | (simp [intOf]; omega)
    · have hge : (n : Int) ≤ (k : Int) := by omega
      have hkn : k = h.length := by rw [← Hn.out]; omega
      have Hk := hid hkn
      have Hph := hid hph
      clear hlk hkn hph
      go_wp2
      go_ret
      have h1 := Hph.out
      rw [Hk.out, phA_full] at h1
      have hl : vs.length = p := by rw [h1.len]; simp [phL]
      exact ⟨w.heap.size, vs, by rw [hl]; rfl, h1.imp (fun u xs hr => Res.owns hr), Nat.le_refl _, hb⟩

end Go.Proofs.Ytjbpfphfajohnaa
