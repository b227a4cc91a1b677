
import Derived.Test.YtdedifgpbehpoaaWg
import Derived.Lib.AppendZerosOnto
namespace Go.Proofs.Ytdedifgpbehpoaa
open Go.RowKit BitX Go.MemX
set_option linter.unusedVariables false


/-- what a call leaves that hands back an empty list of its own, with room or not -/
def GivesO (w : World) (xs : List Int) (e : Ending) (w' : World) : Prop := ∃ v, e = .returned v ∧ w'.ownsRow w.heap.size 3 1 v xs.length (xs.map (Value.int .i64)) ∧ Below w.heap.size w w'
theorem news_of {w : World} {b off n cap : Nat} {xs : List Int} (hx : ∀ i x, xs[i]? = some x → w.cell? ⟨b, off + i, none⟩ = some (.int .i64 x)) : ∀ (j : Nat) (u : Value), (xs.map (Value.int .i64))[j]? = some u → w.cell? ((⟨b, off, none⟩ : Addr).add j) = some u := fun j u hu => by
  rw [List.getElem?_map] at hu
  cases hj : xs[j]? with
  | none => rw [hj] at hu; cases hu
  | some x => rw [hj] at hu; cases hu; rw [Addr.add_lit]; exact hx j x hj
theorem one_of (xs : List Int) : ∀ u ∈ xs.map (Value.int .i64), u.oneCell' = true := fun u hu => by
  obtain ⟨x, _, rfl⟩ := List.mem_map.1 hu; rfl
theorem wpList_append_run {P : Program} {w w2 : World} {ops : Array Oper} {rest : List Oper} {o : Oper} {a : Act} {Q : Exit → Act → World → Prop} (hgd : o.guard = none) (s x : Operand) (t t2 : TypeId)
    (ho : o.op = .call { callee := .builtin .append, args := #[s, x], argTypes := #[t, t2] }) (u v r : Value) (hs : a.eval s = u) (hx : a.eval x = v)
    (hrun : ∀ ty, (Builtin.append_ #[t, t2] ty #[u, v]).run P w = .ok r w2) (h : wpList P ops Q rest (a.put o.dst r) w2) : wpList P ops Q (o :: rest) a w := by
  refine wpList_plain hgd fun K hK => ?_
  unfold Oper.wp
  simp [execOp, ho, resolve, invoke, builtin, hs, hx, hrun, Result.andThen]
  exact hK _ _ h
theorem own_cut {w : World} {B : Nat} {E : TypeId} {g n cap : Nat} {xs : List Value} (h : w.ownsRow B E 1 (.slice (some ⟨g, 0, none⟩) n cap) n xs) : w.ownsRow B E 1 (.slice (some ⟨g, 0, none⟩) 0 cap) 0 [] := by
  obtain ⟨_, h | ⟨g2, cap2, cur, hv, hB, hh, hn, hm, hs, _⟩⟩ := h
  · cases h.1
  · cases hv
    exact ⟨rfl, .inr ⟨g, cap, cur, rfl, hB, hh, by omega, hm, hs, by simp⟩⟩


set_option maxHeartbeats 1000000 in
theorem slGrow_any (n : Nat) (w : World) (h1 : 1 ≤ n) (h2 : n ≤ 2000000) :
    Calls Try.prog 83 #[.slice none 0 0, .int .i64 (n : Int)] w (GivesO w []) := by
  obtain ⟨i0, hi0, hz0, hz1, hz2⟩ := info_parts iint
  have hold : (Builtin.firstCells i0.size 0 (.slice none 0 0)).run Try.prog w.drew = .ok (#[] : Array Value) w.drew := run_firstCells_none w.drew i0.size 0 0 0
  have hrz : ∀ ty, (Builtin.append_ #[24, 3] ty #[.slice none 0 0, .int .i64 (n : Int)]).run Try.prog w = _ := fun ty =>
    Lib.run_append_grow_zeros w 24 3 ty 3 i0 (.int .i64 0) .i64 .i64 uslice (by kernel_rfl) hi0 hz0 none 0 0 [] hold n h1 (by omega) (by omega) (by omega) (by rw [hz2]; omega) (growslice_fits (by omega) (by rw [hz2]; omega))
  have hG1 : n ≤ grownCap w (0 + n) 0 3 := Nat.le_trans (Nat.le_of_eq (Nat.zero_add n).symm) (grownCap_ge w _ _ _)
  have hG2 : grownCap w (0 + n) 0 3 ≤ maxLen := grownCap_le_maxLen w _ _ _ (by unfold maxLen; omega)
  rw [Nat.zero_add] at hrz hG1 hG2
  generalize grownCap w n 0 3 = G at hrz hG1 hG2
  have hsz : (([] : List Value).toArray ++ Builtin.zeroCells (Value.cells (.int .i64 0)) n ++ Builtin.zeroCells (Value.cells (.int .i64 0)) (G - n)).size = G := by
    rw [Array.size_append, Array.size_append, size_zeroCells, size_zeroCells]
    simp [Value.cells]; omega
  generalize hcs : ([] : List Value).toArray ++ Builtin.zeroCells (Value.cells (.int .i64 0)) n ++ Builtin.zeroCells (Value.cells (.int .i64 0)) (G - n) = cs at hrz hsz
  have hown : (w.drew.alloc (.cells cs 3)).ownsRow w.heap.size 3 1 (.slice (some ⟨w.heap.size, 0, none⟩) 0 G) 0 [] :=
    ⟨rfl, .inr ⟨w.heap.size, G, cs, rfl, Nat.le_refl _, heap_alloc_new _ _, by omega, hG2, by omega, by simp⟩⟩
  have Hown := hid hown
  unfold maxLen at hG2
  have Hrz := hid hrz
  clear hown hcs hsz hold hrz
  go_enter Try.func83, Try.ntmps83
  go_wp2_with (at_builtin; refine wpList_append_run rfl _ _ 24 3 rfl (.slice none 0 0) (.int .i64 (n : Int)) _ rfl rfl Hrz.out ?_)
  go_ret
  exact ⟨_, rfl, Hown.out, (Below.refl _ w).drew.alloc (Nat.le_refl _) _⟩


set_option maxHeartbeats 1600000 in
theorem slConcat_two (gb b1 o1 n1 c1 b2 o2 n2 c2 cp : Nat) (xs ys : List Int) (w : World) (hc1 : w.cell? ⟨gb, 0, none⟩ = some (.slice (some ⟨b1, o1, none⟩) n1 c1)) (hc2 : w.cell? ⟨gb, 1, none⟩ = some (.slice (some ⟨b2, o2, none⟩) n2 c2))
    (hl1 : n1 = xs.length) (hl2 : n2 = ys.length) (h1 : 1 ≤ n1) (hm1 : n1 ≤ 1000000) (hm2 : n2 ≤ 1000000) (hb1 : b1 < w.heap.size) (hb2 : b2 < w.heap.size)
    (hx : ∀ i x, xs[i]? = some x → w.cell? ⟨b1, o1 + i, none⟩ = some (.int .i64 x)) (hy : ∀ i x, ys[i]? = some x → w.cell? ⟨b2, o2 + i, none⟩ = some (.int .i64 x)) :
    Calls Try.prog 79 #[.slice (some ⟨gb, 0, none⟩) 2 cp] w (GivesL w (xs ++ ys)) := by
  have hg0 : gb < w.heap.size := block_lt_of_cell hc1
  have HL1 := hid hl1
  have HL2 := hid hl2
  have HX := hid hx
  have HY := hid hy
  clear hl1 hl2 hx hy
  obtain ⟨i0, hi0, hz0, hz1, hz2⟩ := info_parts iint
  go_enter Try.func79, Try.ntmps79
  go_wp2_with fail
  refine wp_loop_rounds 3 ?_
  rw [rounds_succ]
  go_wp2_with fail
  rw [rounds_succ]
  go_wp2_with fail
  rw [rounds_succ]
  go_wp2_with fail
  have hnn : ((n1 : Int) + n2) = ((n1 + n2 : Nat) : Int) := by omega
  rw [hnn]
  refine (slGrow_any (n1 + n2) _ (by omega) (by omega)).mono ?_
  rintro e w1 ⟨v0, rfl, hown0, B1⟩
  clear hnn
  have k1 : w1.cell? ⟨gb, 0, none⟩ = some (.slice (some ⟨b1, o1, none⟩) n1 c1) := by rw [B1.cell (by exact hg0)]; exact hc1
  have k2 : w1.cell? ⟨gb, 1, none⟩ = some (.slice (some ⟨b2, o2, none⟩) n2 c2) := by rw [B1.cell (by exact hg0)]; exact hc2
  have Hown0 := hid hown0
  clear hown0 hc1 hc2
  go_wp2_with fail
  refine wp_loop_rounds 3 ?_
  rw [rounds_succ]
  go_wp2_with (at_builtin; refine wpList_append_own _ rfl _ _ 24 rfl w.heap.size 3 i0 (.int .i64 0) 1 8 uslice hi0 hz0 hz1 hz2 rfl (by decide) _ 0 [] rfl Hown0.out ⟨b1, o1, none⟩ n1 c1 (xs.map (Value.int .i64)) rfl ?d0 ?d1 ?d2 ?d3 ?d4 ?d5 ?_)
  case d0 => simp; exact HL1.out.symm
  case d1 => exact news_of (n := n1) (cap := c1) fun i x hi => by rw [B1.cell (by exact hb1)]; exact HX.out i x hi
  case d2 => exact one_of _
  case d3 => unfold maxLen; omega
  case d4 => omega
  case d5 => exact B1.size
  · intro v1 w2 hown1 hgrow1 _
    have hz1' : w.heap.size ≤ w1.heap.size := B1.size
    have B2 : Below w.heap.size w w2 := B1.grown hgrow1 B1.size (fun j hj => ownsRow_base Hown0.out j hj)
    have l1 : w2.cell? ⟨gb, 0, none⟩ = some (.slice (some ⟨b1, o1, none⟩) n1 c1) := by rw [← k1, B2.cell (by exact hg0), B1.cell (by exact hg0)]
    have l2 : w2.cell? ⟨gb, 1, none⟩ = some (.slice (some ⟨b2, o2, none⟩) n2 c2) := by rw [← k2, B2.cell (by exact hg0), B1.cell (by exact hg0)]
    try simp only [Nat.zero_add, List.nil_append] at hown1
    have Hown1 := hid hown1
    clear hown1 hgrow1 k1 k2
    go_wp2
    rw [rounds_succ]
    go_wp2_with (at_builtin; refine wpList_append_own _ rfl _ _ 24 rfl w.heap.size 3 i0 (.int .i64 0) 1 8 uslice hi0 hz0 hz1 hz2 rfl (by decide) _ n1 (xs.map (Value.int .i64)) rfl Hown1.out ⟨b2, o2, none⟩ n2 c2 (ys.map (Value.int .i64)) rfl ?e0 ?e1 ?e2 ?e3 ?e4 ?e5 ?_)
    case e0 => simp; exact HL2.out.symm
    case e1 => exact news_of (n := n2) (cap := c2) fun i x hi => by rw [B2.cell (by exact hb2)]; exact HY.out i x hi
    case e2 => exact one_of _
    case e3 => unfold maxLen; omega
    case e4 => omega
    case e5 => exact B2.size
    · intro v2 w3 hown2 hgrow2 _
      have B3 : Below w.heap.size w w3 := B2.grown hgrow2 B2.size (fun j hj => ownsRow_base Hown1.out j hj)
      have Hown2 := hid hown2
      clear hown2 hgrow2
      go_wp2
      rw [rounds_succ]
      go_wp2
      go_ret
      refine ⟨_, rfl, Res.owns ?_, B3⟩
      have h := Hown2.out
      rw [List.length_append, ← HL1.out, ← HL2.out, List.map_append]
      simpa using h

end Go.Proofs.Ytdedifgpbehpoaa
