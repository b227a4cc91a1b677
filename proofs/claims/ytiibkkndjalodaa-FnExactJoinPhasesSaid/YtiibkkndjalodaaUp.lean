
import Derived.Test.YtiibkkndjalodaaUb
import Derived.Test.YtiibkkndjalodaaQa
import Derived.Test.YtiibkkndjalodaaVb
import Derived.Test.YtiibkkndjalodaaQa
import Derived.Deep.RegionLaw
namespace Go.Ch8
open Go Go.RowKit Go.MemX Go.Ch6
set_option linter.unusedVariables false
theorem eq_of_lt_iff {a b : Nat} (h : ∀ m, m < a ↔ m < b) : a = b := by
  have h1 := h a; have h2 := h b; omega
theorem drN_keep {p j k : Nat} (hp : 1 ≤ p) (hj : j < p) (hne : j ≠ k % p) : drN (k + 1) p j = drN k p j := eq_of_lt_iff fun m => by
  rw [drN_lt hp, drN_lt hp]
  have : j + m * p ≠ k := fun e => hne (by rw [← e, Nat.add_mul_mod_self_right, Nat.mod_eq_of_lt hj])
  omega
theorem drN_here {p k : Nat} (hp : 1 ≤ p) : drN k p (k % p) = k / p := eq_of_lt_iff fun m => by
  rw [drN_lt hp]
  have h := Nat.mod_add_div k p
  have h2 : m < k / p ↔ m * p < k / p * p := (Nat.mul_lt_mul_right (by omega)).symm
  rw [h2, Nat.mul_comm (k / p)]
  omega
theorem drN_next {p k : Nat} (hp : 1 ≤ p) : drN (k + 1) p (k % p) = k / p + 1 := eq_of_lt_iff fun m => by
  rw [drN_lt hp]
  have h := Nat.mod_add_div k p
  have h2 : m ≤ k / p ↔ m * p ≤ k / p * p := ⟨fun h => Nat.mul_le_mul_right _ h, fun h => Nat.le_of_mul_le_mul_right h (by omega)⟩
  have h3 : m < k / p + 1 ↔ m ≤ k / p := Nat.lt_succ_iff
  rw [h3, h2, Nat.mul_comm (k / p)]
  omega
/-- the phases of the first k weights -/
def phK (h : List Int) (p k j : Nat) : List Int := tab (drN k p j) (fun m => at0 h (j + m * p))
def phA (h : List Int) (p k : Nat) : List (List Int) := (List.range p).map (phK h p k)
def phL (h : List Int) (p : Nat) : List (List Int) := (List.range p).map (fun j => dropL p j h)
theorem phA_full (h : List Int) (p : Nat) : phA h p h.length = phL h p := rfl
theorem phK_zero (h : List Int) (p j : Nat) : phK h p 0 j = [] := by unfold phK drN; rw [if_neg (by omega)]; rfl
theorem phA_len (h : List Int) (p k : Nat) : (phA h p k).length = p := by simp [phA]
theorem phA_at {h : List Int} {p k j : Nat} (hj : j < p) : (phA h p k)[j]? = some (phK h p k j) := by
  unfold phA; rw [List.getElem?_map, List.getElem?_range hj]; rfl
theorem phA_step {h : List Int} {p k : Nat} (hp : 1 ≤ p) : (phA h p k).set (k % p) (phK h p k (k % p) ++ [at0 h k]) = phA h p (k + 1) := by
  have hi : k % p < p := Nat.mod_lt _ hp
  refine List.ext_getElem? fun j => ?_
  by_cases hj : j < p
  · rw [phA_at hj]
    by_cases he : k % p = j
    · subst he
      rw [List.getElem?_set_self (by rw [phA_len]; exact hi)]
      unfold phK
      rw [drN_here hp, drN_next hp, tab_step]
      congr 3
      have := Nat.mod_add_div k p
      rw [Nat.mul_comm] at this
      rw [this]
    · rw [List.getElem?_set_ne he, phA_at hj]
      unfold phK
      rw [drN_keep hp hj (fun e => he e.symm)]
  · rw [List.getElem?_eq_none (by rw [List.length_set, phA_len]; omega), List.getElem?_eq_none (by rw [phA_len]; omega)]
/-- the first k of the phases, empty ones behind -/
def phI (h : List Int) (p k : Nat) : List (List Int) := (List.range p).map (fun j => if j < k then dropL p j h else [])
theorem phI_len (h : List Int) (p k : Nat) : (phI h p k).length = p := by simp [phI]
theorem phI_at {h : List Int} {p k j : Nat} (hj : j < p) : (phI h p k)[j]? = some (if j < k then dropL p j h else []) := by
  unfold phI; rw [List.getElem?_map, List.getElem?_range hj]; rfl
theorem phI_full (h : List Int) (p : Nat) : phI h p p = phL h p := by
  unfold phI phL
  refine List.map_congr_left fun j hj => ?_
  rw [if_pos (List.mem_range.1 hj)]
theorem phI_step {h : List Int} {p k : Nat} (hk : k < p) : (phI h p k).set k (dropL p k h) = phI h p (k + 1) := by
  refine List.ext_getElem? fun j => ?_
  by_cases hj : j < p
  · rw [phI_at hj]
    by_cases he : k = j
    · subst he
      rw [List.getElem?_set_self (by rw [phI_len]; exact hk), if_pos (by omega)]
    · rw [List.getElem?_set_ne he, phI_at hj]
      congr 1
      by_cases h1 : j < k
      · rw [if_pos h1, if_pos (by omega)]
      · rw [if_neg h1, if_neg (by omega)]
  · rw [List.getElem?_eq_none (by rw [List.length_set, phI_len]; omega), List.getElem?_eq_none (by rw [phI_len]; omega)]
theorem lenS_ph {h : List Int} {p : Nat} (hp : 1 ≤ p) (hp8 : p ≤ 8) (hl : h.length ≤ 64) : lenS (phL h p) ≤ 2000000 := by
  unfold lenS phL
  rw [List.map_map]
  have hb : ∀ n, ((List.range n).map (List.length ∘ fun j => dropL p j h)).sum ≤ n * 64 := by
    intro n
    induction n with
    | zero => simp
    | succ n ih =>
      rw [List.range_succ, List.map_append, List.sum_append]
      have : (dropL p n h).length ≤ 64 := Nat.le_trans (dropL_le p n h hp) hl
      simp only [List.map_cons, List.map_nil, List.sum_cons, List.sum_nil, Function.comp]
      omega
  have := hb p
  omega
end Go.Ch8
namespace Go.MemX
open Go Go.RowKit
set_option linter.unusedVariables false
/-- a block that holds slices, each with numbers of its own -/
structure PhS (F : TypeId) (R : World → Value → List Int → Prop) (g : Nat) (w : World) (vs : List Value) (xss : List (List Int)) : Prop where
  blk : w.heap[g]? = some (.cells vs.toArray F (0, 0))
  len : vs.length = xss.length
  each : ∀ (i : Nat) (u : Value) (xs : List Int), vs[i]? = some u → xss[i]? = some xs → R w u xs
  apart : ∀ (i j : Nat) (u u' : Value), vs[i]? = some u → vs[j]? = some u' → i ≠ j → Apart u u'
theorem PhS.glt {F : TypeId} {R : World → Value → List Int → Prop} {g : Nat} {w : World} {vs : List Value} {xss : List (List Int)} (h : PhS F R g w vs xss) : g < w.heap.size := lt_of_block h.blk
theorem PhS.cell {F : TypeId} {R : World → Value → List Int → Prop} {g : Nat} {w : World} {vs : List Value} {xss : List (List Int)} (h : PhS F R g w vs xss) {i : Nat} {u : Value} (hi : vs[i]? = some u) : w.cell? ⟨g, i, none⟩ = some u := by
  rw [cell_of_row w g i _ _ _ h.blk]; simpa using hi
theorem PhS.free {F : TypeId} {R : World → Value → List Int → Prop} {g : Nat} {w : World} {vs : List Value} {xss : List (List Int)} (h : PhS F R g w vs xss) (i : Nat) : w.frozen? ⟨g, i, none⟩ = false := frozen_of_row w g i _ _ h.blk
theorem PhS.get {F : TypeId} {R : World → Value → List Int → Prop} {g : Nat} {w : World} {vs : List Value} {xss : List (List Int)} (h : PhS F R g w vs xss) {i : Nat} (hi : i < xss.length) : ∃ u, vs[i]? = some u := ⟨_, List.getElem?_eq_getElem (by rw [h.len]; exact hi)⟩
theorem PhS.store {F : TypeId} {R : World → Value → List Int → Prop} {g i : Nat} {w w2 : World} {v' : Value} {vs : List Value} {xss : List (List Int)} {ys : List Int} (h : PhS F R g w vs xss) (hw : w2.heap[g]? = w.heap[g]?)
    (hk : ∀ (j : Nat) (u : Value) (xs : List Int), j ≠ i → vs[j]? = some u → xss[j]? = some xs → R w2 u xs) (hn : R w2 v' ys) (hap : ∀ (j : Nat) (u : Value), j ≠ i → vs[j]? = some u → Apart v' u)
    (hset : ∀ (u : Value) (xs : List Int), R w2 u xs → R (w2.setCell ⟨g, i, none⟩ v') u xs) : PhS F R g (w2.setCell ⟨g, i, none⟩ v') (vs.set i v') (xss.set i ys) := by
  refine ⟨?_, by rw [List.length_set, List.length_set]; exact h.len, fun j u xs hj hx => ?_, fun j l u u' hj hl hne => ?_⟩
  · rw [heap_setCell_same _ _ _ _ _ _ (hw.trans h.blk)]; simp
  · by_cases hij : i = j
    · subst hij
      have h1 : i < vs.length := by have := (List.getElem?_eq_some_iff.1 hj).1; simpa using this
      rw [List.getElem?_set_self h1] at hj
      rw [List.getElem?_set_self (by rw [← h.len]; exact h1)] at hx
      cases hj; cases hx
      exact hset _ _ hn
    · rw [List.getElem?_set_ne hij] at hj hx
      exact hset _ _ (hk j u xs (fun e => hij e.symm) hj hx)
  · by_cases hij : i = j
    · subst hij
      have h1 : i < vs.length := by have := (List.getElem?_eq_some_iff.1 hj).1; simpa using this
      rw [List.getElem?_set_self h1] at hj
      rw [List.getElem?_set_ne hne] at hl
      cases hj
      exact hap l u' (fun e => hne e.symm) hl
    · rw [List.getElem?_set_ne hij] at hj
      by_cases hil : i = l
      · subst hil
        have h1 : i < vs.length := by have := (List.getElem?_eq_some_iff.1 hl).1; simpa using this
        rw [List.getElem?_set_self h1] at hl
        cases hl
        exact (hap j u (fun e => hij e.symm) hj).symm
      · rw [List.getElem?_set_ne hil] at hl
        exact h.apart j l u u' hj hl hne
theorem own_set8 {w : World} {B : Nat} {E : TypeId} {k n g i : Nat} {v u : Value} {xs : List Value} (h : w.ownsRow B E k v n xs) (hg : g < B) : (w.setCell ⟨g, i, none⟩ u).ownsRow B E k v n xs := by
  obtain ⟨h1, h2⟩ := h
  refine ⟨h1, ?_⟩
  rcases h2 with h2 | ⟨g2, cap, cur, hv, hB, hh, r⟩
  · exact .inl h2
  · exact .inr ⟨g2, cap, cur, hv, hB, by rw [heap_setCell_other _ _ _ _ (by simp; omega)]; exact hh, r⟩
theorem own_slice8 {w : World} {B : Nat} {E : TypeId} {k n : Nat} {v : Value} {xs : List Value} (h : w.ownsRow B E k v n xs) : ∃ a m c, v = .slice a m c := by
  rcases h.2 with ⟨rfl, _⟩ | ⟨g, cap, cur, rfl, _⟩
  · exact ⟨none, 0, 0, rfl⟩
  · exact ⟨_, _, _, rfl⟩
theorem res_set8 {E : TypeId} {B : Nat} {w : World} {v u : Value} {xs : List Int} {g i : Nat} (h : Res E B w v xs) (hg : g < B) : Res E B (w.setCell ⟨g, i, none⟩ u) v xs := h.same fun k hk => heap_setCell_other _ _ _ _ (by have := h.ge hk; simp; omega)
theorem PhS.ss {E F : TypeId} {B g : Nat} {w : World} {vs : List Value} {xss : List (List Int)} (h : PhS F (fun w u xs => Res E B w u xs) g w vs xss) (hg : g < B) : SSr E F g w (.slice (some ⟨g, 0, none⟩) vs.length vs.length) vs xss :=
  ⟨h.len, fun i u xs hi hx => (h.each i u xs hi hx).mono (Nat.le_of_lt hg), fun i j u u' hi hj hne k hk => h.apart i j u u' hi hj hne k hk, .inr ⟨g, vs.length, rfl, Nat.le_refl _, ⟨vs.toArray, h.blk, by simp, Nat.le_refl _, by simp⟩, fun i u hi e => by
    have hil : i < vs.length := (List.getElem?_eq_some_iff.1 hi).1
    obtain ⟨xs, hx⟩ : ∃ xs, xss[i]? = some xs := ⟨_, List.getElem?_eq_getElem (by rw [← h.len]; exact hil)⟩
    have := (h.each i u xs hi hx).ge e
    omega⟩⟩
theorem PhS.imp {F : TypeId} {R S : World → Value → List Int → Prop} {g : Nat} {w : World} {vs : List Value} {xss : List (List Int)} (h : PhS F R g w vs xss) (hi : ∀ u xs, R w u xs → S w u xs) : PhS F S g w vs xss := ⟨h.blk, h.len, fun i u xs a b => hi u xs (h.each i u xs a b), h.apart⟩
end Go.MemX
namespace Go.Proofs.Ytiibkkndjalodaa
open Go.RowKit BitX Go.MemX Go.Ch6 Go.Ch8
set_option linter.unusedVariables false

theorem step_append_own2 {P : Program} {ops : Array Oper} {o : Oper} {a : Act} {w : World} {K : Act → World → Prop} {Q : Exit → Act → World → Prop} {E : Prop} (hgd : o.guard = none) (s x : Operand) (t : TypeId)
    (ho : o.op = .call { callee := .builtin .append, args := #[s, x], argTypes := #[t, t] })
    (base : Nat) (e : TypeId) (i : TypeInfo) (z : Value) (size bytes : Nat) (ht : P.underlying t = some (.slice e)) (hi : P.info? e = some i) (hz : i.zero = some z)
    (hsize : i.size = size) (hby : i.bytes = bytes) (hzs : z.cells.size = size) (hsz : 0 < size)
    (v : Value) (n : Nat) (xs : List Value) (hs : a.eval s = v) (hown : w.ownsRow base e size v n xs)
    (ad : Addr) (m c : Nat) (news : List Value) (hx : a.eval x = .slice (some ad) m c) (hl : news.length = m * size) (hnews : ∀ j u, news[j]? = some u → w.cell? (ad.add j) = some u) (h1 : ∀ u ∈ news, u.oneCell' = true)
    (h63 : n + m ≤ maxLen) (hbytes : (n + m) * bytes ≤ 140737488355328) (hbase : base ≤ w.heap.size)
    (h : ∀ v' w', w'.ownsRow base e size v' (n + m) (xs ++ news) → w.grownBy w' v.ownBlock → (∀ k, v'.ownBlock = some k → v.ownBlock = some k ∨ w.heap.size ≤ k) → K (a.put o.dst v') w') :
    if Region.wanted o (yielded ops a.tmps) = true then Oper.wp P o a w K Q else E := by
  rw [if_pos (by simp [Region.wanted, hgd])]
  obtain ⟨v', w', hr, h2, h3, h4⟩ := run_append_own2 (P := P) w base t o.type e i z size bytes ht hi hz hsize hby hzs hsz v n xs hown ad m c news hl hnews h1 h63 hbytes hbase
  unfold Oper.wp execOp
  simp only [ho, resolve, invoke, builtin, Sem.run_bind, Sem.run_pure, Result.andThen_ok, List.map_toArray, List.map_cons, List.map_nil, hs, hx, hr]
  exact h v' w' h2 h3 h4


theorem owns_lt {w : World} {B : Nat} {E : TypeId} {sz n : Nat} {v : Value} {xs : List Value} (h : w.ownsRow B E sz v n xs) {k : Nat} (hk : v.ownBlock = some k) : k < w.heap.size := by
  rcases h.2 with ⟨rfl, _⟩ | ⟨g, cap, cur, rfl, _, hh, _⟩
  · cases hk
  · cases hk; exact lt_of_block hh




theorem madeCells_nil (n : Nat) : madeCells #[Value.slice none 0 0] n = (List.replicate n (Value.slice none 0 0)).toArray := by
  apply Array.toList_inj.1
  rw [toList_madeCells_one]
theorem run_make_ss (n : Nat) (hn : n ≤ 2000000) (w : World) :
    (Instr.makeSlice 22 (.int .i64 (n : Int)) (.int .i64 (n : Int))).run Try.prog w = .ok (.slice (some ⟨w.heap.size, 0, none⟩) n n) (w.alloc (.cells (List.replicate n (Value.slice none 0 0)).toArray 24)) := by
  obtain ⟨i0, h1, h2, h3, h4⟩ : ∃ i0, Try.prog.info? 24 = some i0 ∧ i0.zero = some (.slice none 0 0) ∧ i0.size = 1 ∧ i0.bytes = 24 := by
    have h : (Try.prog.info? 24).map (fun i => (i.zero, i.size, i.bytes)) = some (some (.slice none 0 0), 1, 24) := by kernel_rfl
    cases hi : Try.prog.info? 24 with
    | none => rw [hi] at h; simp at h
    | some i => rw [hi] at h; simp at h; exact ⟨i, rfl, h.1, h.2.1, h.2.2⟩
  have hr := run_make (P := Try.prog) w 22 24 i0 _ uslice2 h1 h2 .i64 .i64 n n (by omega) (Int.le_refl _) (by rw [h4]; omega) (by omega)
  rw [hr, h3]
  simp only [Int.toNat_natCast, Nat.mul_one, Value.cells, madeCells_nil]
theorem ph_start (R : World → Value → List Int → Prop) (w : World) (p : Nat) (xss : List (List Int)) (hl : xss.length = p) (hR : ∀ (i : Nat) (xs : List Int), xss[i]? = some xs → R (w.alloc (.cells (List.replicate p (Value.slice none 0 0)).toArray 24)) (.slice none 0 0) xs) :
    PhS 24 R w.heap.size (w.alloc (.cells (List.replicate p (Value.slice none 0 0)).toArray 24)) (List.replicate p (Value.slice none 0 0)) xss :=
  ⟨Array.getElem?_push_size, by rw [List.length_replicate, hl], fun i u xs hi hx => by rw [List.eq_of_mem_replicate (List.mem_of_getElem? hi)]; exact hR i xs hx, fun i j u u' hi hj _ => by rw [List.eq_of_mem_replicate (List.mem_of_getElem? hi)]; exact Apart.nil _⟩
theorem sone3 (w : World) : (sizeOf (Try.prog.elem 22)).run Try.prog w = .ok 1 w := by kernel_rfl
theorem ixO (g n k : Nat) (hk : k < n) : ∀ w : World, (Instr.indexAt 22 (.slice (some ⟨g, 0, none⟩) n n) (.int .i64 (k : Int))).run Try.prog w = .ok (.pointer (some ⟨g, k, none⟩)) w := fun w => by
  rw [run_indexAt_slice _ _ _ _ _ _ _ uslice2, if_pos (by omega), sone3]
  simp [Addr.add]
  try (intro h0; omega)


/-- what a call leaves that hands back a new list of lists alone -/
def GivesPh (w : World) (xss : List (List Int)) (e : Ending) (w' : World) : Prop :=
  ∃ g vs, e = .returned (.slice (some ⟨g, 0, none⟩) vs.length vs.length) ∧ PhS 24 (fun W u xs => Res 3 (g + 1) W u xs) g w' vs xss ∧ w.heap.size ≤ g ∧ Below w.heap.size w w'
end Go.Proofs.Ytiibkkndjalodaa
