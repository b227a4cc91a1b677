
import Derived.Test.YthkfjoonkkmgiaaXb
import Derived.Test.YthkfjoonkkmgiaaXk
import Derived.Shelf.Abstract
import Derived.Deep.DeepCutAuto
import Derived.Deep.CutRange
namespace Go.Ch9
open Go Go.RowKit Go.MemX
set_option linter.unusedVariables false
theorem ownsRow_sameT {w w' : World} {base : Nat} {e : TypeId} {size : Nat} {v : Value} {n : Nat} {xs : List Value} (h : w.ownsRow base e size v n xs) (hb : ∀ j, base ≤ j → w'.heap[j]? = w.heap[j]?) : w'.ownsRow base e size v n xs := by
  obtain ⟨h1, h2⟩ := h
  refine ⟨h1, ?_⟩
  rcases h2 with h2 | ⟨g, cap, cur, hv, hg, hh, r⟩
  · exact .inl h2
  · exact .inr ⟨g, cap, cur, hv, hg, by rw [hb g hg]; exact hh, r⟩
/-- three lists of the call's own, apart; the blocks of the result and of the track -/
structure Three (E T : TypeId) (base : Nat) (w0 : World) (g8 g9 : Nat) (z8 : Array Value) (v0 u0 t0 v u t : Value) (nv nu nt : Nat) (xs ys zs : List Int) (W : World) : Prop where
  r1 : W.ownsRow base E 1 v nv (xs.map (Value.int .i64))
  r2 : W.ownsRow base E 1 u nu (ys.map (Value.int .i64))
  r3 : W.ownsRow base E 1 t nt (zs.map (Value.int .i64))
  a12 : Apart v u
  a13 : Apart v t
  a23 : Apart u t
  h8 : W.heap[g8]? = some (.cells z8 T (0, 0))
  h9 : W.heap[g9]? = some (.cells #[v0, u0, t0] T (0, 0))
  lo : base ≤ W.heap.size
  s8 : g8 < base
  s9 : g9 < base
  s0 : w0.heap.size ≤ base
  l9 : w0.heap.size ≤ g9
  bel : Below w0.heap.size w0 W
section
variable {E T : TypeId} {base : Nat} {w0 W w' : World} {g8 g9 : Nat} {z8 : Array Value} {v0 u0 t0 v u t v' : Value} {nv nu nt : Nat} {xs ys zs : List Int} {x : Int}
theorem Three.alloc (h : Three E T base w0 g8 g9 z8 v0 u0 t0 v u t nv nu nt xs ys zs W) (o : Obj) : Three E T base w0 g8 g9 z8 v0 u0 t0 v u t nv nu nt xs ys zs (W.alloc o) :=
  ⟨h.r1.alloc o, h.r2.alloc o, h.r3.alloc o, h.a12, h.a13, h.a23, (Below.heap_alloc _ _ _ (Nat.lt_of_lt_of_le h.s8 h.lo)).trans h.h8, (Below.heap_alloc _ _ _ (Nat.lt_of_lt_of_le h.s9 h.lo)).trans h.h9,
    Nat.le_trans h.lo (by simp), h.s8, h.s9, h.s0, h.l9, h.bel.alloc (Nat.le_trans h.s0 h.lo) o⟩
theorem Three.drew (h : Three E T base w0 g8 g9 z8 v0 u0 t0 v u t nv nu nt xs ys zs W) : Three E T base w0 g8 g9 z8 v0 u0 t0 v u t nv nu nt xs ys zs W.drew :=
  ⟨h.r1, h.r2, h.r3, h.a12, h.a13, h.a23, h.h8, h.h9, h.lo, h.s8, h.s9, h.s0, h.l9, h.bel.drew⟩
theorem Three.c9 (h : Three E T base w0 g8 g9 z8 v0 u0 t0 v u t nv nu nt xs ys zs W) : W.cell? ⟨g9, 0, none⟩ = some v0 ∧ W.cell? ⟨g9, 1, none⟩ = some u0 ∧ W.cell? ⟨g9, 2, none⟩ = some t0 :=
  ⟨by rw [cell_of_row W g9 0 _ _ _ h.h9]; rfl, by rw [cell_of_row W g9 1 _ _ _ h.h9]; rfl, by rw [cell_of_row W g9 2 _ _ _ h.h9]; rfl⟩
theorem Three.f9 (h : Three E T base w0 g8 g9 z8 v0 u0 t0 v u t nv nu nt xs ys zs W) (i : Nat) : W.frozen? ⟨g9, i, none⟩ = false := frozen_of_row W g9 i _ _ h.h9
theorem grown_kept {g : Nat} {o : Obj} {row : Option Nat} (h : W.heap[g]? = some o) (hg : W.grownBy w' row) (hl : g < W.heap.size) (hne : some g ≠ row) : w'.heap[g]? = some o := (hg.block g hl hne).trans h
/-- a list grows: the news about a fourth block -/
structure News (b : Nat) (x : Int) (v u t : Value) (W : World) : Prop where
  cell : W.cell? ⟨b, 0, none⟩ = some (.int .i64 x)
  n1 : v.ownBlock ≠ some b
  n2 : u.ownBlock ≠ some b
  n3 : t.ownBlock ≠ some b
  lt : b < W.heap.size
theorem News.at {b : Nat} (h : News b x v u t W) : ∀ (j : Nat) (y : Value), [Value.int .i64 x][j]? = some y → W.cell? ((⟨b, 0, none⟩ : Addr).add j) = some y := fun j y hj => by
  match j, hj with
  | 0, hj => simp at hj; subst hj; exact h.cell
theorem News.alloc {b : Nat} (h : News b x v u t W) (o : Obj) : News b x v u t (W.alloc o) := ⟨by rw [World.cell?_alloc_lt _ _ _ h.lt]; exact h.cell, h.n1, h.n2, h.n3, Nat.lt_of_lt_of_le h.lt (by simp)⟩
theorem News.new (h : Three E T base w0 g8 g9 z8 v0 u0 t0 v u t nv nu nt xs ys zs W) (x : Int) : News W.heap.size x v u t (W.alloc (.cells #[.int .i64 x] E)) :=
  ⟨by rw [World.cell?_alloc_at _ _ _ _ rfl]; rfl, fun e => Nat.lt_irrefl _ (h.r1.lt _ e).2, fun e => Nat.lt_irrefl _ (h.r2.lt _ e).2, fun e => Nat.lt_irrefl _ (h.r3.lt _ e).2, by simp⟩

theorem Three.app1 (h : Three E T base w0 g8 g9 z8 v0 u0 t0 v u t nv nu nt xs ys zs W) (hown : w'.ownsRow base E 1 v' (nv + 1) (xs.map (Value.int .i64) ++ [.int .i64 x])) (hg : W.grownBy w' v.ownBlock)
    (hnew : ∀ k, v'.ownBlock = some k → v.ownBlock = some k ∨ W.heap.size ≤ k) : Three E T base w0 g8 g9 z8 v0 u0 t0 v' u t (nv + 1) nu nt (xs ++ [x]) ys zs w' :=
  have hob : ∀ k, v.ownBlock = some k → base ≤ k := fun k hk => (h.r1.lt k hk).1
  have hs : W.heap.size ≤ w'.heap.size := hg.size
  ⟨(by rw [List.map_append]; exact hown), (owns_other h.r2 hg h.a12), (owns_other h.r3 hg h.a13), (Apart.grown h.a12 hnew (fun k hk => (h.r2.lt k hk).2)), (Apart.grown h.a13 hnew (fun k hk => (h.r3.lt k hk).2)), h.a23,
    grown_kept h.h8 hg (Nat.lt_of_lt_of_le h.s8 h.lo) (fun e => Nat.lt_irrefl _ (Nat.lt_of_lt_of_le h.s8 (hob _ e.symm))), grown_kept h.h9 hg (Nat.lt_of_lt_of_le h.s9 h.lo) (fun e => Nat.lt_irrefl _ (Nat.lt_of_lt_of_le h.s9 (hob _ e.symm))),
    Nat.le_trans h.lo hs, h.s8, h.s9, h.s0, h.l9, h.bel.grown hg (Nat.le_trans h.s0 h.lo) (fun k hk => Nat.le_trans h.s0 (hob k hk))⟩
theorem News.app1 {b : Nat} {y : Int} (h : News b y v u t W) (hg : W.grownBy w' v.ownBlock) (hnew : ∀ k, v'.ownBlock = some k → v.ownBlock = some k ∨ W.heap.size ≤ k) : News b y v' u t w' :=
  ⟨by rw [World.cell?_of_block (hg.block b h.lt (fun e => h.n1 e.symm))]; exact h.cell, (fun e => (hnew b e).elim (fun h1 => h.n1 h1) (fun h1 => Nat.lt_irrefl _ (Nat.lt_of_lt_of_le h.lt h1))), h.n2, h.n3, Nat.lt_of_lt_of_le h.lt hg.size⟩

theorem Three.app2 (h : Three E T base w0 g8 g9 z8 v0 u0 t0 v u t nv nu nt xs ys zs W) (hown : w'.ownsRow base E 1 v' (nu + 1) (ys.map (Value.int .i64) ++ [.int .i64 x])) (hg : W.grownBy w' u.ownBlock)
    (hnew : ∀ k, v'.ownBlock = some k → u.ownBlock = some k ∨ W.heap.size ≤ k) : Three E T base w0 g8 g9 z8 v0 u0 t0 v v' t nv (nu + 1) nt xs (ys ++ [x]) zs w' :=
  have hob : ∀ k, u.ownBlock = some k → base ≤ k := fun k hk => (h.r2.lt k hk).1
  have hs : W.heap.size ≤ w'.heap.size := hg.size
  ⟨(owns_other h.r1 hg h.a12.symm), (by rw [List.map_append]; exact hown), (owns_other h.r3 hg h.a23), (Apart.grown h.a12.symm hnew (fun k hk => (h.r1.lt k hk).2)).symm, h.a13, (Apart.grown h.a23 hnew (fun k hk => (h.r3.lt k hk).2)),
    grown_kept h.h8 hg (Nat.lt_of_lt_of_le h.s8 h.lo) (fun e => Nat.lt_irrefl _ (Nat.lt_of_lt_of_le h.s8 (hob _ e.symm))), grown_kept h.h9 hg (Nat.lt_of_lt_of_le h.s9 h.lo) (fun e => Nat.lt_irrefl _ (Nat.lt_of_lt_of_le h.s9 (hob _ e.symm))),
    Nat.le_trans h.lo hs, h.s8, h.s9, h.s0, h.l9, h.bel.grown hg (Nat.le_trans h.s0 h.lo) (fun k hk => Nat.le_trans h.s0 (hob k hk))⟩
theorem News.app2 {b : Nat} {y : Int} (h : News b y v u t W) (hg : W.grownBy w' u.ownBlock) (hnew : ∀ k, v'.ownBlock = some k → u.ownBlock = some k ∨ W.heap.size ≤ k) : News b y v v' t w' :=
  ⟨by rw [World.cell?_of_block (hg.block b h.lt (fun e => h.n2 e.symm))]; exact h.cell, h.n1, (fun e => (hnew b e).elim (fun h1 => h.n2 h1) (fun h1 => Nat.lt_irrefl _ (Nat.lt_of_lt_of_le h.lt h1))), h.n3, Nat.lt_of_lt_of_le h.lt hg.size⟩

theorem Three.app3 (h : Three E T base w0 g8 g9 z8 v0 u0 t0 v u t nv nu nt xs ys zs W) (hown : w'.ownsRow base E 1 v' (nt + 1) (zs.map (Value.int .i64) ++ [.int .i64 x])) (hg : W.grownBy w' t.ownBlock)
    (hnew : ∀ k, v'.ownBlock = some k → t.ownBlock = some k ∨ W.heap.size ≤ k) : Three E T base w0 g8 g9 z8 v0 u0 t0 v u v' nv nu (nt + 1) xs ys (zs ++ [x]) w' :=
  have hob : ∀ k, t.ownBlock = some k → base ≤ k := fun k hk => (h.r3.lt k hk).1
  have hs : W.heap.size ≤ w'.heap.size := hg.size
  ⟨(owns_other h.r1 hg h.a13.symm), (owns_other h.r2 hg h.a23.symm), (by rw [List.map_append]; exact hown), h.a12, (Apart.grown h.a13.symm hnew (fun k hk => (h.r1.lt k hk).2)).symm, (Apart.grown h.a23.symm hnew (fun k hk => (h.r2.lt k hk).2)).symm,
    grown_kept h.h8 hg (Nat.lt_of_lt_of_le h.s8 h.lo) (fun e => Nat.lt_irrefl _ (Nat.lt_of_lt_of_le h.s8 (hob _ e.symm))), grown_kept h.h9 hg (Nat.lt_of_lt_of_le h.s9 h.lo) (fun e => Nat.lt_irrefl _ (Nat.lt_of_lt_of_le h.s9 (hob _ e.symm))),
    Nat.le_trans h.lo hs, h.s8, h.s9, h.s0, h.l9, h.bel.grown hg (Nat.le_trans h.s0 h.lo) (fun k hk => Nat.le_trans h.s0 (hob k hk))⟩
theorem News.app3 {b : Nat} {y : Int} (h : News b y v u t W) (hg : W.grownBy w' t.ownBlock) (hnew : ∀ k, v'.ownBlock = some k → t.ownBlock = some k ∨ W.heap.size ≤ k) : News b y v u v' w' :=
  ⟨by rw [World.cell?_of_block (hg.block b h.lt (fun e => h.n3 e.symm))]; exact h.cell, h.n1, h.n2, (fun e => (hnew b e).elim (fun h1 => h.n3 h1) (fun h1 => Nat.lt_irrefl _ (Nat.lt_of_lt_of_le h.lt h1))), Nat.lt_of_lt_of_le h.lt hg.size⟩

theorem Three.set (h : Three E T base w0 g8 g9 z8 v0 u0 t0 v u t nv nu nt xs ys zs W) (h89 : g8 ≠ g9) : Three E T base w0 g8 g9 z8 v u t v u t nv nu nt xs ys zs (((W.setCell ⟨g9, 0, none⟩ v).setCell ⟨g9, 1, none⟩ u).setCell ⟨g9, 2, none⟩ t) := by
  have hb : ∀ j, j ≠ g9 → (((W.setCell ⟨g9, 0, none⟩ v).setCell ⟨g9, 1, none⟩ u).setCell ⟨g9, 2, none⟩ t).heap[j]? = W.heap[j]? := fun j hj => by
    rw [heap_setCell_other _ _ _ _ hj, heap_setCell_other _ _ _ _ hj, heap_setCell_other _ _ _ _ hj]
  have hs9 := h.s9
  refine ⟨ownsRow_sameT h.r1 fun j hj => hb j (by omega), ownsRow_sameT h.r2 fun j hj => hb j (by omega), ownsRow_sameT h.r3 fun j hj => hb j (by omega), h.a12, h.a13, h.a23, (hb g8 h89).trans h.h8, ?_, ?_, h.s8, h.s9, h.s0, h.l9, ?_⟩
  · rw [heap_setCell_same _ _ _ _ _ _ (heap_setCell_same _ _ _ _ _ _ (heap_setCell_same _ _ _ _ _ _ h.h9))]; rfl
  · rw [World.size_setCell, World.size_setCell, World.size_setCell]; exact h.lo
  · exact ((h.bel.setCell (by exact h.l9) _).setCell (by exact h.l9) _).setCell (by exact h.l9) _
theorem Three.cs (h : Three E T base w0 g8 g9 z8 v0 u0 t0 v u t nv nu nt xs ys zs W) : ((W.setCell ⟨g9, 0, none⟩ v).cell? ⟨g9, 1, none⟩ = some u0 ∧ (W.setCell ⟨g9, 0, none⟩ v).frozen? ⟨g9, 1, none⟩ = false) ∧
    (((W.setCell ⟨g9, 0, none⟩ v).setCell ⟨g9, 1, none⟩ u).cell? ⟨g9, 2, none⟩ = some t0 ∧ ((W.setCell ⟨g9, 0, none⟩ v).setCell ⟨g9, 1, none⟩ u).frozen? ⟨g9, 2, none⟩ = false) := by
  have h1 : (W.setCell ⟨g9, 0, none⟩ v).heap[g9]? = some (.cells #[v, u0, t0] T (0, 0)) := by rw [heap_setCell_same _ _ _ _ _ _ h.h9]; rfl
  have h2 : ((W.setCell ⟨g9, 0, none⟩ v).setCell ⟨g9, 1, none⟩ u).heap[g9]? = some (.cells #[v, u, t0] T (0, 0)) := by rw [heap_setCell_same _ _ _ _ _ _ h1]; rfl
  exact ⟨⟨by rw [cell_of_row _ g9 1 _ _ _ h1]; rfl, frozen_of_row _ g9 1 _ _ h1⟩, ⟨by rw [cell_of_row _ g9 2 _ _ _ h2]; rfl, frozen_of_row _ g9 2 _ _ h2⟩⟩
end
theorem step_append_own2 {P : Program} {o : Oper} {a : Act} {w : World} {K : Act → World → Prop} {Q : Exit → Act → World → Prop} {C E : Prop} [Decidable C] (hgd : C) (s x : Operand) (t : TypeId)
    (ho : o.op = .call { callee := .builtin .append, args := #[s, x], argTypes := #[t, t] })
    (base : Nat) (e : TypeId) (i : TypeInfo) (z : Value) (size bytes : Nat) (ht : P.underlying t = some (.slice e)) (hi : P.info? e = some i) (hz : i.zero = some z)
    (hsize : i.size = size) (hby : i.bytes = bytes) (hzs : z.cells.size = size) (hsz : 0 < size)
    (v : Value) (n : Nat) (xs : List Value) (hs : a.eval s = v) (hown : w.ownsRow base e size v n xs)
    (ad : Addr) (m c : Nat) (news : List Value) (hx : a.eval x = .slice (some ad) m c) (hl : news.length = m * size) (hnews : ∀ j u, news[j]? = some u → w.cell? (ad.add j) = some u) (h1 : ∀ u ∈ news, u.oneCell' = true)
    (h63 : n + m ≤ maxLen) (hbytes : (n + m) * bytes ≤ 140737488355328) (hbase : base ≤ w.heap.size)
    (h : ∀ v' w', w'.ownsRow base e size v' (n + m) (xs ++ news) → w.grownBy w' v.ownBlock → (∀ k, v'.ownBlock = some k → v.ownBlock = some k ∨ w.heap.size ≤ k) → K (a.put o.dst v') w') :
    if C then Oper.wp P o a w K Q else E := by
  rw [if_pos hgd]
  obtain ⟨v', w', hr, h2, h3, h4⟩ := run_append_own2 (P := P) w base t o.type e i z size bytes ht hi hz hsize hby hzs hsz v n xs hown ad m c news hl hnews h1 h63 hbytes hbase
  unfold Oper.wp execOp
  simp only [ho, resolve, invoke, builtin, Sem.run_bind, Sem.run_pure, Result.andThen_ok, List.map_toArray, List.map_cons, List.map_nil, hs, hx, hr]
  exact h _ _ h2 h3 h4
/-- a function value tells bits -/
def BitIs (P : Program) (g : Nat) (lb : Array Value) (B : Nat → Int → Int) (n : Nat) (w : World) : Prop :=
  ∀ (W : World) (k : Nat) (v : Int), k < n → Below w.heap.size w W → Calls P g (#[.int .i64 (k : Int), .int .i64 v] ++ lb) W fun e W' => e = .returned (.int .i64 (B k v)) ∧ W = W'
/-- a function value tells steps -/
def NextIs (P : Program) (g : Nat) (nx : Int → Bool → Int) : Prop :=
  ∀ (W : World) (t : Int) (b : Bool), 1 ≤ t → t ≤ 4096 → Calls P g #[.int .i64 t, .bool b] W fun e W' => e = .returned (.int .i64 (nx t b)) ∧ W = W'
end Go.Ch9
namespace Go.Proofs.Ythkfjoonkkmgiaa
open Go.RowKit BitX Go.MemX Go.Ch6 Go.Ch9 Go.ChV
set_option linter.unusedVariables false
def Gives3 (w : World) (xs ys zs : List Int) (e : Ending) (w' : World) : Prop :=
  ∃ v u t, e = .returned (.agg #[v, u, t]) ∧ Res 3 w.heap.size w' v xs ∧ Res 3 w.heap.size w' u ys ∧ Res 3 w.heap.size w' t zs ∧ Below w.heap.size w w'


set_option maxHeartbeats 400000 in
theorem adapted_is (t : Int) (b : Bool) (w : World) (t1 : 1 ≤ t) (t2 : t ≤ 4096) :
    Calls Try.prog 29 #[.int .i64 t, .bool b] w fun e w' => e = .returned (.int .i64 (adI t b)) ∧ w = w' := by
  cases b
  · have e2 : t.tdiv 2 = t / 2 := Int.tdiv_eq_ediv_of_nonneg (by omega)
    obtain ⟨q, hq⟩ : ∃ q, q = t / 2 := ⟨_, rfl⟩
    have HQ := hid (show max q 1 = adI t false from by rw [hq]; rfl)
    rw [← hq] at e2
    have q1 : 0 ≤ q ∧ q ≤ 2048 := by omega
    clear hq
    go_enter Try.func29, Try.ntmps29
    go_wp2
    all_goals go_ret
    all_goals exact ⟨ret_i (by rw [← HQ.out]; first | rfl | omega), rfl⟩
  · have HQ := hid (show min (2 * t) 4096 = adI t true from rfl)
    go_enter Try.func29, Try.ntmps29
    go_wp2
    all_goals go_ret
    all_goals exact ⟨ret_i (by rw [← HQ.out]; first | rfl | omega), rfl⟩


set_option maxHeartbeats 400000 in
theorem fixed_is (t : Int) (b : Bool) (w : World) (t1 : 1 ≤ t) (t2 : t ≤ 4096) :
    Calls Try.prog 39 #[.int .i64 t, .bool b] w fun e w' => e = .returned (.int .i64 (fxI t b)) ∧ w = w' := by
  go_enter Try.func39, Try.ntmps39
  go_wp2
  go_ret
  exact ⟨rfl, rfl⟩


theorem enterCC : Go.Proofs.Enters Try.prog 51 := enters_of Try.func51 (by kernel_rfl) rfl
theorem enterDC : Go.Proofs.Enters Try.prog 57 := enters_of Try.func57 (by kernel_rfl) rfl
theorem enterAD : Go.Proofs.Enters Try.prog 29 := enters_of Try.func29 (by kernel_rfl) rfl
theorem enterFX : Go.Proofs.Enters Try.prog 39 := enters_of Try.func39 (by kernel_rfl) rfl
set_option maxHeartbeats 400000 in
theorem codC_any (gs k : Nat) (y : Int) (v : Value) (s : List Int) (w : World) (hc : w.cell? ⟨gs, 0, none⟩ = some v) (hs : Sl w v s) (hl : s.length ≤ 200) (hk : k < s.length) :
    Calls Try.prog 51 #[.int .i64 (k : Int), .int .i64 y, .pointer (some ⟨gs, 0, none⟩)] w fun e w' => e = .returned (.int .i64 (cdB s k y)) ∧ w = w' := by
  obtain ⟨a, n, cap, rfl, hn, hrd⟩ := hs.rd
  rw [← hn] at hl hk
  obtain ⟨x, hkx⟩ := get_lt s k (by rw [← hn]; exact hk)
  obtain ⟨bb, oo, hix, hbb, hce⟩ := hrd.at (P := Try.prog) (T := 24) n cap uslice sone hkx hk
  by_cases hyx : y ≤ x
  · have HB := hid (show cdB s k y = 1 from (cdB_at hkx y).trans (if_pos hyx))
    clear hs hn hrd hkx
    go_enter Try.func51, Try.ntmps51
    go_wp2
    go_ret
    exact ⟨ret_i HB.out.symm, rfl⟩
  · have HB := hid (show cdB s k y = -1 from (cdB_at hkx y).trans (if_neg hyx))
    have hxy : x < y := by omega
    clear hs hn hrd hkx hyx
    go_enter Try.func51, Try.ntmps51
    go_wp2
    go_ret
    exact ⟨ret_i HB.out.symm, rfl⟩
set_option maxHeartbeats 400000 in
theorem decC_any (gs k : Nat) (y : Int) (v : Value) (s : List Int) (w : World) (hc : w.cell? ⟨gs, 0, none⟩ = some v) (hs : Sl w v s) (hl : s.length ≤ 200) (hk : k < s.length) :
    Calls Try.prog 57 #[.int .i64 (k : Int), .int .i64 y, .pointer (some ⟨gs, 0, none⟩)] w fun e w' => e = .returned (.int .i64 (tlB s k y)) ∧ w = w' := by
  obtain ⟨a, n, cap, rfl, hn, hrd⟩ := hs.rd
  rw [← hn] at hl hk
  obtain ⟨x, hkx⟩ := get_lt s k (by rw [← hn]; exact hk)
  obtain ⟨bb, oo, hix, hbb, hce⟩ := hrd.at (P := Try.prog) (T := 24) n cap uslice sone hkx hk
  have HB := hid (show tlB s k y = x from tlB_at hkx y)
  clear hs hn hrd hkx
  go_enter Try.func57, Try.ntmps57
  go_wp2
  go_ret
  exact ⟨ret_i HB.out.symm, rfl⟩

end Go.Proofs.Ythkfjoonkkmgiaa
