
import Derived.Test.YtbhlailnefappaaRm
namespace Go.MemX
open Go Go.RowKit
set_option linter.unusedVariables false
theorem bel_undrew2 {X w : World} (h : Below X.drew.heap.size X.drew w) : Below X.heap.size X w := (Below.refl _ X).drew.trans h
/-- block g begins with the values; it has cap cells -/
def RowV (E : TypeId) (w : World) (g cap : Nat) (vs : List Value) : Prop :=
  ∃ cur, w.heap[g]? = some (.cells cur E (0, 0)) ∧ cur.size = cap ∧ vs.length ≤ cap ∧ cur.toList.take vs.length = vs
section
variable {E F : TypeId} {w w' : World} {g cap B : Nat} {vs : List Value} {xss : List (List Int)} {v : Value}
theorem RowV.lt (h : RowV E w g cap vs) : g < w.heap.size := by obtain ⟨_, h, _⟩ := h; exact lt_of_block h
theorem RowV.cell (h : RowV E w g cap vs) {i : Nat} {x : Value} (hi : vs[i]? = some x) : w.cell? ⟨g, i, none⟩ = some x := by
  obtain ⟨cur, h1, h2, h3, h4⟩ := h
  rw [cell_of_row w g i _ _ _ h1]
  have hil : i < vs.length := (List.getElem?_eq_some_iff.1 hi).1
  have a : (cur.toList.take vs.length)[i]? = some x := by rw [h4]; exact hi
  rw [List.getElem?_take_of_lt hil] at a
  simpa using a
theorem RowV.same (h : RowV E w g cap vs) (hb : w'.heap[g]? = w.heap[g]?) : RowV E w' g cap vs := by
  obtain ⟨cur, h1, h⟩ := h; exact ⟨cur, by rw [hb]; exact h1, h⟩
/-- v is a list of lists of the call's own, made from block B on: the lists lie in vs, each in a block of its own -/
structure SSr (E F : TypeId) (B : Nat) (w : World) (v : Value) (vs : List Value) (xss : List (List Int)) : Prop where
  len : vs.length = xss.length
  each : ∀ (i : Nat) (u : Value) (xs : List Int), vs[i]? = some u → xss[i]? = some xs → Res E B w u xs
  apart : ∀ (i j : Nat) (u u' : Value), vs[i]? = some u → vs[j]? = some u' → i ≠ j → ∀ g, u.ownBlock = some g → u'.ownBlock ≠ some g
  row : (v = .slice none 0 0 ∧ vs = []) ∨ ∃ g cap, v = .slice (some ⟨g, 0, none⟩) vs.length cap ∧ B ≤ g ∧ RowV F w g cap vs ∧ ∀ (i : Nat) (u : Value), vs[i]? = some u → u.ownBlock ≠ some g
/-- the blocks of these lists alone may have turned; no block is new -/
structure OnlyVs (vs : List Value) (w w' : World) : Prop where
  os : w'.os = w.os
  tape : w'.tape = w.tape
  output : w'.output = w.output
  size : w'.heap.size = w.heap.size
  block : ∀ k, (∀ u ∈ vs, u.ownBlock ≠ some k) → w'.heap[k]? = w.heap[k]?
theorem OnlyVs.refl (vs : List Value) (w : World) : OnlyVs vs w w := ⟨rfl, rfl, rfl, rfl, fun _ _ => rfl⟩
theorem OnlyVs.step {u : Value} {w2 : World} (h : OnlyVs vs w w') (o : OnlyV u w' w2) (hu : u ∈ vs) : OnlyVs vs w w2 :=
  ⟨o.os.trans h.os, o.tape.trans h.tape, o.output.trans h.output, o.size.trans h.size, fun k hk => (o.block k (hk u hu)).trans (h.block k hk)⟩
theorem OnlyVs.below (h : OnlyVs vs w w') (hg : ∀ u ∈ vs, ∀ g, u.ownBlock = some g → B ≤ g) : Below B w w' :=
  ⟨h.os, h.tape, h.output, by rw [h.size]; exact Nat.le_refl _, fun k hk => h.block k (fun u hu e => by have := hg u hu k e; omega)⟩
theorem SSr.same (h : SSr E F B w v vs xss) (hb : ∀ k, k < w.heap.size → w'.heap[k]? = w.heap[k]?) : SSr E F B w' v vs xss :=
  ⟨h.len, fun i u xs hi hx => (h.each i u xs hi hx).same fun g hg => hb g ((h.each i u xs hi hx).lt hg), h.apart, by
    rcases h.row with h0 | ⟨g, cap, h1, h2, h3, h4⟩
    · exact .inl h0
    · exact .inr ⟨g, cap, h1, h2, h3.same (hb g h3.lt), h4⟩⟩
theorem SSr.kept (h : SSr E F B w v vs xss) (hb : Below w.heap.size w w') : SSr E F B w' v vs xss := h.same fun k hk => hb.block k hk
theorem SSr.form (h : SSr E F B w v vs xss) : ∃ a cap, v = .slice a xss.length cap := by
  rcases h.row with ⟨rfl, h0⟩ | ⟨g, cap, rfl, _⟩
  · have : xss.length = 0 := by rw [← h.len, h0]; rfl
    exact ⟨none, 0, by rw [this]⟩
  · exact ⟨_, cap, by rw [h.len]⟩
/-- the place and the cell of a list that lies in the list -/
theorem SSr.at {P : Program} {T : TypeId} {a : Option Addr} {n cap : Nat} (h : SSr E F B w (.slice a n cap) vs xss) (hT : P.underlying T = some (.slice (P.elem T))) (hE : ∀ w : World, (sizeOf (P.elem T)).run P w = .ok 1 w) {k : Nat} {u : Value} (hk : vs[k]? = some u) (hn : k < n) :
    ∃ b off, (∀ w : World, (Instr.indexAt T (.slice a n cap) (.int .i64 (k : Int))).run P w = .ok (.pointer (some ⟨b, off, none⟩)) w) ∧ b < w.heap.size ∧ w.cell? ⟨b, off, none⟩ = some u := by
  rcases h.row with ⟨_, h0⟩ | ⟨g, cap2, hv, _, hr, _⟩
  · rw [h0] at hk; simp at hk
  · cases hv
    refine ⟨g, 0 + k, fun w => ?_, hr.lt, by rw [Nat.zero_add]; exact hr.cell hk⟩
    rw [run_indexAt_slice _ _ _ _ _ _ _ hT, if_pos (by omega), hE]
    simp [Addr.add]
    try (intro h0; omega)
/-- one list marked anew -/
theorem SSr.turn {u : Value} {xs ys : List Int} {i : Nat} (h : SSr E F B w v vs xss) (hi : vs[i]? = some u) (hx : xss[i]? = some xs) (o : OnlyV u w w') (hr : Res E B w' u ys) : SSr E F B w' v vs (xss.set i ys) := by
  have hil : i < xss.length := (List.getElem?_eq_some_iff.1 hx).1
  refine ⟨by rw [List.length_set]; exact h.len, fun j u' zs hj hz => ?_, h.apart, ?_⟩
  · by_cases hij : i = j
    · subst hij
      rw [hi] at hj; cases hj
      rw [List.getElem?_set_self hil] at hz; cases hz
      exact hr
    · rw [List.getElem?_set_ne hij] at hz
      exact (h.each j u' zs hj hz).only o fun g hg => h.apart j i u' u hj hi (fun e => hij e.symm) g hg
  · rcases h.row with h0 | ⟨g, cap, h1, h2, h3, h4⟩
    · exact .inl h0
    · exact .inr ⟨g, cap, h1, h2, h3.same (o.block g (h4 i u hi)), h4⟩
end
/-- all lists marked, from k on -/
def mkL (k : Nat) : List (List Int) → List (List Int)
  | [] => []
  | xs :: r => marks k xs.length :: mkL (k + xs.length) r
def lenS (xss : List (List Int)) : Nat := (xss.map List.length).sum
theorem mkL_len (k : Nat) (xss : List (List Int)) : (mkL k xss).length = xss.length := by
  induction xss generalizing k with
  | nil => rfl
  | cons xs r ih => simp [mkL, ih]
theorem mkL_at (xss : List (List Int)) : ∀ (k i : Nat) (xs : List Int), xss[i]? = some xs → (mkL k xss)[i]? = some (marks (k + lenS (xss.take i)) xs.length) := by
  induction xss with
  | nil => intro k i xs h; simp at h
  | cons x r ih =>
    intro k i xs h
    cases i with
    | zero => simp at h; subst h; simp [mkL, lenS]
    | succ i =>
      have := ih (k + x.length) i xs (by simpa using h)
      simp only [mkL, List.getElem?_cons_succ, this]
      congr 2
      simp [lenS, Nat.add_assoc]
theorem lenS_step {xss : List (List Int)} {i : Nat} {xs : List Int} (h : xss[i]? = some xs) : lenS (xss.take (i + 1)) = lenS (xss.take i) + xs.length := by
  have hi : i < xss.length := (List.getElem?_eq_some_iff.1 h).1
  have : xss.take (i + 1) = xss.take i ++ [xs] := by rw [List.take_add_one, h]; rfl
  rw [this]; simp [lenS]
theorem lenS_full (xss : List (List Int)) : lenS (xss.take xss.length) = lenS xss := by rw [List.take_length]
theorem lenS_app (a b : List (List Int)) : lenS (a ++ b) = lenS a + lenS b := by simp [lenS]
theorem lenS_le {xss : List (List Int)} {i : Nat} : lenS (xss.take i) ≤ lenS xss := by
  have h := lenS_app (xss.take i) (xss.drop i)
  rw [List.take_append_drop] at h
  omega
theorem lenS_one {xss : List (List Int)} {i : Nat} {xs : List Int} (h : xss[i]? = some xs) : xs.length ≤ lenS xss := by
  have a := lenS_step h
  have b := lenS_le (xss := xss) (i := i + 1)
  omega
/-- marked up to i, the old lists behind -/
def mkTo (k : Nat) (xss : List (List Int)) (i : Nat) : List (List Int) := (mkL k xss).take i ++ xss.drop i
theorem mkTo_zero (k : Nat) (xss : List (List Int)) : mkTo k xss 0 = xss := by simp [mkTo]
theorem mkTo_full (k : Nat) (xss : List (List Int)) : mkTo k xss xss.length = mkL k xss := by
  unfold mkTo; rw [List.take_of_length_le (by rw [mkL_len]; exact Nat.le_refl _), List.drop_length, List.append_nil]
theorem mkTo_at {k i : Nat} {xss : List (List Int)} {xs : List Int} (h : xss[i]? = some xs) : (mkTo k xss i)[i]? = some xs := by
  have hi : i < xss.length := (List.getElem?_eq_some_iff.1 h).1
  unfold mkTo
  rw [List.getElem?_append_right (by rw [List.length_take, mkL_len]; omega), List.length_take, mkL_len, Nat.min_eq_left (by omega), Nat.sub_self, List.getElem?_drop]
  exact h
theorem mkTo_step {k i : Nat} {xss : List (List Int)} {xs : List Int} (h : xss[i]? = some xs) : (mkTo k xss i).set i (marks (k + lenS (xss.take i)) xs.length) = mkTo k xss (i + 1) := by
  have hi : i < xss.length := (List.getElem?_eq_some_iff.1 h).1
  unfold mkTo
  rw [List.set_append_right _ _ (by rw [List.length_take, mkL_len]; omega), List.length_take, mkL_len, Nat.min_eq_left (by omega), Nat.sub_self]
  rw [List.take_add_one, mkL_at xss k i xs h, List.append_assoc]
  congr 1
  rw [List.drop_eq_getElem_cons hi]; rfl
end Go.MemX
namespace Go.Proofs.Ytbhlailnefappaa
open Go.RowKit BitX Go.MemX
set_option linter.unusedVariables false
theorem uslice2 : Try.prog.underlying 36 = some (.slice 24) := by kernel_rfl
theorem sone2 (w : World) : (sizeOf 24).run Try.prog w = .ok 1 w := by kernel_rfl
abbrev SSi (B : Nat) (w : World) (v : Value) (vs : List Value) (xss : List (List Int)) : Prop := SSr 3 24 B w v vs xss


end Go.Proofs.Ytbhlailnefappaa
