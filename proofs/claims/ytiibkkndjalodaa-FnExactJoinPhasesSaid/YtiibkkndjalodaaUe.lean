
import Derived.Test.YtiibkkndjalodaaUb
import Derived.Test.YtiibkkndjalodaaOa
import Derived.Defers
import Derived.Recover
import Derived.Deep.RegionWith
import Derived.Deep.RegionLaw
import Derived.Shelf.Abstract
import Derived.Deep.RegionHeld3
import Derived.WalkLawsBesides
namespace Go.MemX
open Go Go.RowKit
set_option linter.unusedVariables false
/-- a variable of the call's own that holds this value -/
def Var1 (E : TypeId) (w : World) (g : Nat) (v : Value) : Prop := w.heap[g]? = some (.cells #[v] E (0, 0))
section
variable {E : TypeId} {w w' : World} {g : Nat} {v u : Value}
theorem Var1.lt (h : Var1 E w g v) : g < w.heap.size := lt_of_block h
theorem Var1.cell (h : Var1 E w g v) : w.cell? ⟨g, 0, none⟩ = some v := by rw [cell_of_row w g 0 _ _ _ h]; rfl
theorem Var1.free (h : Var1 E w g v) : w.frozen? ⟨g, 0, none⟩ = false := frozen_of_row w g 0 _ _ h
theorem Var1.kept {B : Nat} (h : Var1 E w g v) (hb : Below B w w') (hg : g < B) : Var1 E w' g v := by unfold Var1; rw [hb.block g hg]; exact h
theorem Var1.set (h : Var1 E w g v) (u : Value) : Var1 E (w.setCell ⟨g, 0, none⟩ u) g u := by unfold Var1; rw [heap_setCell_same _ _ _ _ _ _ h]; rfl
theorem Var1.new (w : World) (v : Value) (E : TypeId) : Var1 E (w.alloc (.cells #[v] E)) w.heap.size v := by unfold Var1; exact Array.getElem?_push_size
end
/-- what a frame's deferred calls leave hangs on the frame's results alone -/
theorem leaves_results {P : Program} {fn : Func} {t t' : Array Value} {R : Ending → World → Prop} (h : ∀ w, (results fn t).run P w = (results fn t').run P w) :
    ∀ (ds : List Deferred) (u : FrameMode) (w : World), Leaves P fn t R ds u w → Leaves P fn t' R ds u w := by
  intro ds
  induction ds with
  | nil =>
    intro u w hl
    cases u with
    | run => exact hl
    | returning => obtain ⟨v, h1, h2⟩ := hl; exact ⟨v, by rw [← h]; exact h1, h2⟩
    | panicking c => exact hl
  | cons d ds ih =>
    intro u w hl
    obtain ⟨h1, fv, cap, f, args, h2, h3, h4⟩ := hl
    refine ⟨h1, fv, cap, f, args, h2, h3, h4.mono fun e u' w' he => ?_⟩
    cases e with
    | returned v => exact ih _ _ he
    | panicked c => exact ih _ _ he
    | outgrown => exact he
end Go.MemX
namespace Go.Proofs.Ytiibkkndjalodaa
open Go.RowKit BitX Go.MemX Go.Ch6 Go.Ch8
set_option linter.unusedVariables false

theorem step_append_own {P : Program} {ops : Array Oper} {o : Oper} {a : Act} {w : World} {K : Act → World → Prop} {Q : Exit → Act → World → Prop} {E : Prop} (hgd : o.guard = none) (s x : Operand) (t : TypeId)
    (ho : o.op = .call { callee := .builtin .append, args := #[s, x], argTypes := #[t, t] })
    (base : Nat) (e : TypeId) (i : TypeInfo) (z : Value) (size bytes : Nat) (ht : P.underlying t = some (.slice e)) (hi : P.info? e = some i) (hz : i.zero = some z)
    (hsize : i.size = size) (hby : i.bytes = bytes) (hzs : z.cells.size = size) (hsz : 0 < size)
    (v : Value) (n : Nat) (xs : List Value) (hs : a.eval s = v) (hown : w.ownsRow base e size v n xs)
    (ad : Addr) (m c : Nat) (news : List Value) (hx : a.eval x = .slice (some ad) m c) (hl : news.length = m * size) (hnews : ∀ j u, news[j]? = some u → w.cell? (ad.add j) = some u) (h1 : ∀ u ∈ news, u.oneCell' = true)
    (h63 : n + m ≤ maxLen) (hbytes : (n + m) * bytes ≤ 140737488355328) (hbase : base ≤ w.heap.size)
    (h : ∀ v' w', w'.ownsRow base e size v' (n + m) (xs ++ news) → w.grownBy w' v.ownBlock → (v' = .slice none 0 0 ↔ v = .slice none 0 0 ∧ m = 0) → K (a.put o.dst v') w') :
    if Region.wanted o (yielded ops a.tmps) = true then Oper.wp P o a w K Q else E := by
  rw [if_pos (by simp [Region.wanted, hgd])]
  exact wp_append_own w s x t ho base e i z size bytes ht hi hz hsize hby hzs hsz v n xs hs hown ad m c news hx hl hnews h1 h63 hbytes hbase h




/-- a panic of placed's body does not hang on its scratch -/
theorem placed_put {R : Ending → World → Prop} {d : Nat} {v : Value} {a : Act} (h4 : d ≠ 4) (h5 : d ≠ 5) (c : List PanicEntry) (w : World) (h : bodyPostD Try.prog Try.f18 R (.panic c) (a.put (some d) v) w) :
    bodyPostD Try.prog Try.f18 R (.panic c) a w := by
  refine leaves_results (fun w => ?_) _ _ _ h
  have e : (Try.f18).results = #[.cell 4 24, .tmp 5] := by kernel_rfl
  have g4 : (a.put (some d) v).tmps.getD 4 undef = a.tmps.getD 4 undef := by
    simp [Act.put, Array.getD_eq_getD_getElem?, h4]
  have g5 : (a.put (some d) v).tmps.getD 5 undef = a.tmps.getD 5 undef := by
    simp [Act.put, Array.getD_eq_getD_getElem?, h5]
  unfold results
  rw [e]
  simp only [List.mapM_toArray, List.mapM_cons, List.mapM_nil, g4, g5]

set_option maxHeartbeats 400000 in
theorem inPlace_ok (i : Nat) (x : Int) (w : World) (hi : i < 64) (hx : smB x = true) :
    Calls Try.prog 23 #[.int .i64 (i : Int), .int .i64 x] w fun e w' => e = .returned (.int .i64 x) ∧ w = w' := by
  have HX := hid hx
  have h1 : (i : Int) < 64 := by omega
  clear hx hi
  go_enter Try.func23, Try.ntmps23
  go_wp2_with fail
  refine (isSample_q _ true _ HX.out).mono ?_
  rintro e w' ⟨rfl, rfl⟩
  go_wp2
  go_ret
  exact ⟨rfl, rfl⟩
def noPlaceP (x : Int) : PanicEntry := { v := .iface 37 (.int .i64 x), recovered := false }
set_option maxHeartbeats 400000 in
theorem inPlace_far (i : Nat) (x : Int) (w : World) (hi : 64 ≤ i) :
    Calls Try.prog 23 #[.int .i64 (i : Int), .int .i64 x] w fun e w' => e = .panicked [noPlaceP x] ∧ w = w' := by
  have h1 : (64 : Int) ≤ (i : Int) := by omega
  clear hi
  go_enter Try.func23, Try.ntmps23
  go_wp2
  exact ⟨rfl, rfl, rfl⟩
set_option maxHeartbeats 400000 in
theorem inPlace_no (i : Nat) (x : Int) (w : World) (hi : i < 64) (hx : smB x = false) :
    Calls Try.prog 23 #[.int .i64 (i : Int), .int .i64 x] w fun e w' => e = .panicked [noPlaceP x] ∧ w = w' := by
  have HX := hid hx
  have h1 : (i : Int) < 64 := by omega
  clear hx hi
  go_enter Try.func23, Try.ntmps23
  go_wp2_with fail
  refine (isSample_q _ false _ HX.out).mono ?_
  rintro e w' ⟨rfl, rfl⟩
  go_wp2
  exact ⟨rfl, rfl, rfl⟩
theorem inPlace_bad (i : Nat) (x : Int) (w : World) (h : ¬ (i < 64 ∧ smB x = true)) :
    Calls Try.prog 23 #[.int .i64 (i : Int), .int .i64 x] w fun e w' => e = .panicked [noPlaceP x] ∧ w = w' := by
  by_cases hi : i < 64
  · cases hx : smB x
    · exact inPlace_no i x w hi hx
    · exact absurd ⟨hi, hx⟩ h
  · exact inPlace_far i x w (by omega)


theorem assert_nil (w : World) : (Instr.typeAssert .nilIface 20 37 true).run Try.prog w = .ok (.tuple #[.int .i64 0, .bool false]) w := by kernel_rfl
theorem assert_place (x : Int) (w : World) : (Instr.typeAssert (.iface 37 (.int .i64 x)) 20 37 true).run Try.prog w = .ok (.tuple #[.int .i64 x, .bool true]) w := by kernel_rfl
set_option maxHeartbeats 1000000 in
theorem door_idle (p : Addr) (w : World) :
    CallsD Try.prog 22 #[.pointer (some p)] .returning w fun e u' w' => e = .returned (.tuple #[]) ∧ u' = .returning ∧ w' = w := by
  refine callsD_of_wpS Try.func22 rfl fun c₀ cs hu => ?_
  apply wpS_seq
  apply wpS_region
  simp [wpOpsS, go_sem, recoverD, hu, Try.ntmps22, Exit.thenS, assert_nil]
  apply wpS_seq
  apply wpS_region
  simp [wpOpsS, go_sem, Exit.thenS]
  refine wpS_cond (t := false) (by simp [Act.eval, Array.replicate]) ?_
  simp only [Bool.false_eq_true, if_false]
  refine wpS_of_wp (wp_skip ?_)
  cases c₀
  simp_all [bodyPostS, results, Try.results22]
set_option maxHeartbeats 1000000 in
theorem door_caught (p : Addr) (x : Int) (old : Value) (older : List PanicEntry) (w : World) (hc : w.cell? p = some old) (hz : w.frozen? p = false) :
    CallsD Try.prog 22 #[.pointer (some p)] (.panicking (noPlaceP x :: older)) w fun e u' w' =>
      e = .returned (.tuple #[]) ∧ u' = .panicking ({ v := .iface 37 (.int .i64 x), recovered := true } :: older) ∧ w' = w.setCell p (.slice none 0 0) := by
  refine callsD_of_wpS Try.func22 rfl fun c₀ cs hu => ?_
  unfold noPlaceP at hu
  apply wpS_seq
  apply wpS_region
  simp [wpOpsS, go_sem, recoverD, hu, Try.ntmps22, Exit.thenS, assert_place]
  apply wpS_seq
  apply wpS_region
  simp [wpOpsS, go_sem, Exit.thenS]
  refine wpS_cond (t := true) (by simp [Act.eval, Array.replicate]) ?_
  simp only [if_true]
  apply wpS_region
  simp [wpOpsS, go_sem, hc, hz, bodyPostS, results, Try.results22]


theorem placed_res (tm : Array Value) (w : World) {g : Nat} {v : Value} {b : Bool} (hv : Var1 24 w g v) (h4 : tm.getD 4 undef = .pointer (some ⟨g, 0, none⟩)) (h5 : tm.getD 5 undef = .bool b) (hs : ∃ a n c, v = .slice a n c) :
    (results Try.f18 tm).run Try.prog w = .ok (.tuple #[v, .bool b]) w := by
  have e : (Try.f18).results = #[.cell 4 24, .tmp 5] := by kernel_rfl
  have hc := hv.cell
  obtain ⟨a, n, c, rfl⟩ := hs
  rw [Array.getD_eq_getD_getElem?] at h4 h5
  unfold results
  rw [e]
  simp [h4, h5, go_sem, hc]
theorem placed_fails {R : Ending → World → Prop} (tm : Array Value) {g : Nat} {x : Int} {w : World} {v : Value} (hv : Var1 24 w g v) (h4 : tm.getD 4 undef = .pointer (some ⟨g, 0, none⟩)) (h5 : tm.getD 5 undef = .bool false)
    (hR : R (.returned (.tuple #[.slice none 0 0, .bool false])) (w.setCell ⟨g, 0, none⟩ (.slice none 0 0))) :
    Leaves Try.prog Try.f18 tm R [{ target := Target.fn (Fn.func 22) #[.pointer (some ⟨g, 0, none⟩)], args := #[] }] (.panicking [noPlaceP x]) w := by
  refine leaves_cons (f := 22) (args := #[.pointer (some ⟨g, 0, none⟩)]) (by simp) (by simp [go_sem]) ?_
  refine (door_caught ⟨g, 0, none⟩ x v [] w hv.cell hv.free).mono ?_
  rintro e u' w'' ⟨rfl, rfl, rfl⟩
  exact ⟨_, placed_res tm _ (hv.set _) h4 h5 ⟨none, 0, 0, rfl⟩, hR⟩
theorem placed_ends {R : Ending → World → Prop} (tm : Array Value) {g : Nat} {w : World} {v : Value} (hv : Var1 24 w g v) (hs : ∃ a n c, v = .slice a n c) (h4 : tm.getD 4 undef = .pointer (some ⟨g, 0, none⟩)) (h5 : tm.getD 5 undef = .bool true)
    (hR : R (.returned (.tuple #[v, .bool true])) w) :
    Leaves Try.prog Try.f18 tm R [{ target := Target.fn (Fn.func 22) #[.pointer (some ⟨g, 0, none⟩)], args := #[] }] .returning w := by
  refine leaves_cons (f := 22) (args := #[.pointer (some ⟨g, 0, none⟩)]) (by simp) (by simp [go_sem]) ?_
  refine (door_idle ⟨g, 0, none⟩ w).mono ?_
  rintro e u' w'' ⟨rfl, rfl, rfl⟩
  exact ⟨_, placed_res tm _ hv h4 h5 hs, hR⟩


theorem own_slice {w : World} {B : Nat} {E : TypeId} {k n : Nat} {v : Value} {xs : List Value} (h : w.ownsRow B E k v n xs) : ∃ a m c, v = .slice a m c := by
  rcases h.2 with ⟨rfl, _⟩ | ⟨g, cap, cur, rfl, _⟩
  · exact ⟨none, 0, 0, rfl⟩
  · exact ⟨_, _, _, rfl⟩
theorem own_set {w : World} {B : Nat} {E : TypeId} {k n g : Nat} {v u : Value} {xs : List Value} (h : w.ownsRow B E k v n xs) (hg : g < B) : (w.setCell ⟨g, 0, none⟩ u).ownsRow B E k v n xs := by
  obtain ⟨h1, h2⟩ := h
  refine ⟨h1, ?_⟩
  rcases h2 with h2 | ⟨g2, cap, cur, hv, hB, hh, r⟩
  · exact .inl h2
  · exact .inr ⟨g2, cap, cur, hv, hB, by rw [heap_setCell_other _ _ _ _ (by simp; omega)]; exact hh, r⟩
/-- a function value makes a number at each index, or finds that it has no place -/
def MadeAt (P : Program) (g : Nat) (lb : Array Value) (L : Nat) (H : Nat → Bool) (G : Nat → Int) (w : World) : Prop :=
  ∀ (W : World) (k : Nat), k < L → Below w.heap.size w W → Calls P g (#[.int .i64 (k : Int)] ++ lb) W fun e W' => (match H k with | true => e = .returned (.int .i64 (G k)) | false => ∃ x, e = .panicked [noPlaceP x]) ∧ Below W.heap.size W W'
def goodB (H : Nat → Bool) (G : Nat → Int) (k : Nat) : Bool := H k && (decide (k < 64) && smB (G k))
def plB (L : Nat) (H : Nat → Bool) (G : Nat → Int) : Bool := (List.range L).all (goodB H G)
theorem plB_t {L : Nat} {H : Nat → Bool} {G : Nat → Int} (h : ∀ j, j < L → goodB H G j = true) : plB L H G = true := by
  unfold plB; rw [List.all_eq_true]; intro x hx; exact h x (List.mem_range.1 hx)
theorem plB_f {L k : Nat} {H : Nat → Bool} {G : Nat → Int} (hk : k < L) (h : goodB H G k = false) : plB L H G = false := by
  unfold plB; rw [List.all_eq_false]; exact ⟨k, List.mem_range.2 hk, by rw [h]; decide⟩


set_option maxHeartbeats 1000000 in
theorem placed_any (g : Nat) (lb : Array Value) (eg : ∀ (args : Array Value) (w : World), (callFunc g args).run Try.prog w = .ok (.enter g args) w) (L : Nat) (hL : L ≤ 2000000) (H : Nat → Bool) (G : Nat → Int) (w : World) (hm : MadeAt Try.prog g lb L H G w) :
    Calls Try.prog 18 #[.int .i64 (L : Int), .func (.func g) #[] lb] w (Gives w (onL (plB L H G) (tab L G)) (plB L H G)) := by
  have HM := hid hm
  clear hm
  have hmf : ∀ (fn : Fn) (first cap : Array Value) (w : World), (Instr.makeFunc fn first cap).run Try.prog w = .ok (.func fn first cap) w := fun _ _ _ _ => rfl
  obtain ⟨i0, hi0, hz0, hz1, hz2⟩ := info_parts iint
  go_enter_defers Try.func18, Try.ntmps18
  go_wp2_with fail
  go_loopw [9] (fun i wr => ∃ (k : Nat) (v : Value), k ≤ L ∧ i = .int .i64 (k : Int) ∧ Hid (∀ j, j < k → goodB H G j = true) ∧ Var1 24 wr w.heap.size v ∧ wr.ownsRow (w.heap.size + 1) 3 1 v k ((tab k G).map (Value.int .i64)) ∧ Below w.heap.size w wr)
    (fun i _ => L - (intOf i).toNat)
  case atStart => exact ⟨0, _, by omega, rfl, hid (fun j hj => absurd hj (Nat.not_lt_zero j)), Var1.new _ _ _, World.ownsRow_nil _ _ _ _, bel_alloc _ _⟩
  case round =>
    obtain ⟨k, v, hk, rfl, HGd, hv, hown, hb⟩ := hrel
    have hsz : w.heap.size ≤ wr.heap.size := hb.size
    have hsz1 : w.heap.size + 1 ≤ wr.heap.size := hv.lt
    by_cases hlk : k < L
    · by_cases hH : H k = true
      · by_cases hg : k < 64 ∧ smB (G k) = true
        · have hgood : goodB H G k = true := by unfold goodB; rw [hH, decide_eq_true hg.1, hg.2]; rfl
          obtain ⟨hg1, hg2⟩ := hg
          have HGd2 := hid (fun j (hj : j < k + 1) => if h : j < k then HGd.out j h else (show j = k by omega) ▸ hgood)
          have hC : ∀ W, Below w.heap.size w W → Calls Try.prog g (#[.int .i64 (k : Int)] ++ lb) W fun e W' => e = .returned (.int .i64 (G k)) ∧ Below W.heap.size W W' := fun W hW => (HM.out W k hlk hW).mono fun e W' he => by rw [hH] at he; exact he
          have HC := hid hC
          have HS := hid hg2
          have hst := tab_step k G
          generalize hys : tab k G = ys at hst hown
          generalize hx : G k = x at *
          have Hob := hid (ownsRow_base hown)
          have Hst := hid hst
          have Hown := hid hown
          have Hv := hid hv
          have hcd : wr.drew.cell? ⟨w.heap.size, 0, none⟩ = some v := hv.cell
          have hlt2 : w.heap.size < wr.heap.size := hv.lt
          clear hst hown hys hx hC hg2 hgood hH hv HGd HM
          go_wp2_with fail
          refine wp_region_noPanic ?_
          go_region_law (first | (refine step_append_own rfl _ _ 24 rfl (w.heap.size + 1) 3 i0 (.int .i64 0) 1 8 uslice hi0 hz0 hz1 hz2 rfl (by decide) _ _ _ rfl ((ownsRow_below Hown.out hB2).alloc _) ⟨w2.heap.size, 0, none⟩ 1 1 [.int .i64 x] rfl rfl (cell_one_new _ _ _) (by intro u hu; simp at hu; subst hu; rfl) (by unfold maxLen; omega) (by omega) (by have := hB2.size; simp; omega) ?_; intro v' w3 hown3 hgrow _; obtain ⟨a3, n3, c3, rfl⟩ := own_slice hown3; have hb3 : Below (w.heap.size + 1) w2 w3 := ((Below.refl (w.heap.size + 1) w2).alloc (by have := hB2.size; omega) _).grown hgrow (by have := hB2.size; simp; omega) (fun j hj => Hob.out j hj); have hv3 := hv2.kept hb3 (Nat.lt_succ_self _); have hc3 := hv3.cell; have hf3 := hv3.free; have Hown3 := hid hown3; clear hown3 hgrow) | (go_simp; go_at_fn g; refine (HC.out _ hb.drew).mono ?_; rintro e w2 ⟨rfl, hb2⟩; have hB2 : Below wr.heap.size wr w2 := bel_undrew hb2; have hv2 := Hv.out.kept hB2 Hv.out.lt; have hc2 := hv2.cell; have hlt2 := hv2.lt) | (go_simp; go_at_call 23; refine (inPlace_ok k x _ hg1 HS.out).mono ?_; rintro e w' ⟨rfl, rfl⟩))
          all_goals refine NoPanic.normal ?_
          all_goals go_wp2
          all_goals go_roundw
          all_goals first | exact ⟨k + 1, _, by omega, by go_num, HGd2, hv3.set _, by rw [Hst.out, List.map_append]; exact own_set Hown3.out (Nat.lt_succ_self _), (hb.trans ((hB2.mono hsz).trans (hb3.mono (Nat.le_succ _)))).setCell (by simp) _⟩ | (simp [intOf]; omega)
        · have HBad := hid (show goodB H G k = false from by unfold goodB; cases h : H k && (decide (k < 64) && smB (G k)) <;> simp_all)
          have HX := hid hg
          have hC : ∀ W, Below w.heap.size w W → Calls Try.prog g (#[.int .i64 (k : Int)] ++ lb) W fun e W' => e = .returned (.int .i64 (G k)) ∧ Below W.heap.size W W' := fun W hW => (HM.out W k hlk hW).mono fun e W' he => by rw [hH] at he; exact he
          have HC := hid hC
          generalize hx : G k = x at *
          have Hv := hid hv
          have hcd : wr.drew.cell? ⟨w.heap.size, 0, none⟩ = some v := hv.cell
          have hlt2 : w.heap.size < wr.heap.size := hv.lt
          clear hown hx hC hg hH hv HGd HM
          go_wp2_with fail
          refine wp_region_any (by kernel_rfl) ?_
          change wpAny _ _ _ _ _ _ _ (World.drew _)
          refine wpAny_take (i := 1) (oi := { dst := some 13, op := _, type := _, pos := _, after := _, guard := _ }) (v := .int .i64 (k : Int)) rfl (by kernel_rfl) (by kernel_rfl) (by kernel_rfl) (fun c a w h => placed_put (d := 13) (by decide) (by decide) c w h) (Or.inl ⟨by kernel_rfl, ?_⟩) ?_
          · intro w; go_simp
          try simp only [Act.put, List.setIfInBounds_toArray, List.set_cons_zero, List.set_cons_succ]
          refine wpAny_take (i := 2) (oi := { dst := some 14, op := _, type := _, pos := _, after := _, guard := _ }) (v := .func (.func g) #[] lb) rfl (by kernel_rfl) (by kernel_rfl) (by kernel_rfl) (fun c a w h => placed_put (d := 14) (by decide) (by decide) c w h) (Or.inl ⟨by kernel_rfl, ?_⟩) ?_
          · intro w; go_simp
          try simp only [Act.put, List.setIfInBounds_toArray, List.set_cons_zero, List.set_cons_succ]
          refine wpAny_take (i := 3) (oi := { dst := some 15, op := _, type := _, pos := _, after := _, guard := _ }) (v := .int .i64 (k : Int)) rfl (by kernel_rfl) (by kernel_rfl) (by kernel_rfl) (fun c a w h => placed_put (d := 15) (by decide) (by decide) c w h) (Or.inl ⟨by kernel_rfl, ?_⟩) ?_
          · intro w; go_simp
          try simp only [Act.put, List.setIfInBounds_toArray, List.set_cons_zero, List.set_cons_succ]
          refine wpAny_ready (rs := [0, 4]) (by kernel_rfl) (by simp) ?_
          refine AllReady.cons rfl (fun K hK => ?_) (AllReady.cons rfl (fun K hK => ?_) AllReady.nil)
          · go_simp
            refine hK _ _ ?_
            clear hK K
            refine wpAny_ready (rs := [4]) (by kernel_rfl) (by simp) ?_
            refine AllReady.cons rfl (fun K hK => ?_) AllReady.nil
            go_simp
            go_at_fn g
            refine (HC.out _ hb.drew).mono ?_
            rintro e w2 ⟨rfl, hb2⟩
            have hB2 : Below wr.heap.size wr w2 := bel_undrew hb2
            have hv2 := Hv.out.kept hB2 Hv.out.lt
            have hc2 := hv2.cell
            refine hK _ _ ?_
            clear hK K
            refine wpAny_ready (rs := [5]) (by kernel_rfl) (by simp) ?_
            refine AllReady.cons rfl (fun K hK => ?_) AllReady.nil
            go_simp
            go_at_call 23
            refine (inPlace_bad k x _ HX.out).mono ?_
            rintro e w' ⟨rfl, rfl⟩
            exact placed_fails _ hv2 rfl rfl (gives_no (plB_f hlk HBad.out) ((hb.trans (hB2.mono hsz)).setCell (by simp) _))
          · go_simp
            go_at_fn g
            refine (HC.out _ hb.drew).mono ?_
            rintro e w2 ⟨rfl, hb2⟩
            have hB2 : Below wr.heap.size wr w2 := bel_undrew hb2
            have hv2 := Hv.out.kept hB2 Hv.out.lt
            have hc2 := hv2.cell
            refine hK _ _ ?_
            clear hK K
            refine wpAny_ready (rs := [0, 5]) (by kernel_rfl) (by simp) ?_
            refine AllReady.cons rfl (fun K hK => ?_) (AllReady.cons rfl (fun K hK => ?_) AllReady.nil)
            · go_simp
              refine hK _ _ ?_
              clear hK K
              refine wpAny_ready (rs := [5]) (by kernel_rfl) (by simp) ?_
              refine AllReady.cons rfl (fun K hK => ?_) AllReady.nil
              go_simp
              go_at_call 23
              refine (inPlace_bad k x _ HX.out).mono ?_
              rintro e w' ⟨rfl, rfl⟩
              exact placed_fails _ hv2 rfl rfl (gives_no (plB_f hlk HBad.out) ((hb.trans (hB2.mono hsz)).setCell (by simp) _))
            · go_simp
              go_at_call 23
              refine (inPlace_bad k x _ HX.out).mono ?_
              rintro e w' ⟨rfl, rfl⟩
              exact placed_fails _ hv2 rfl rfl (gives_no (plB_f hlk HBad.out) ((hb.trans (hB2.mono hsz)).setCell (by simp) _))
      · have hH2 : H k = false := by cases h : H k <;> simp_all
        have HBad := hid (show goodB H G k = false from by unfold goodB; rw [hH2]; rfl)
        have hC : ∀ W, Below w.heap.size w W → Calls Try.prog g (#[.int .i64 (k : Int)] ++ lb) W fun e W' => (∃ x, e = .panicked [noPlaceP x]) ∧ Below W.heap.size W W' := fun W hW => (HM.out W k hlk hW).mono fun e W' he => by rw [hH2] at he; exact he
        have HC := hid hC
        have Hv := hid hv
        have hcd : wr.drew.cell? ⟨w.heap.size, 0, none⟩ = some v := hv.cell
        have hlt2 : w.heap.size < wr.heap.size := hv.lt
        clear hown hC hH hH2 hv HGd HM
        go_wp2_with fail
        refine wp_region_any (by kernel_rfl) ?_
        change wpAny _ _ _ _ _ _ _ (World.drew _)
        refine wpAny_take (i := 1) (oi := { dst := some 13, op := _, type := _, pos := _, after := _, guard := _ }) (v := .int .i64 (k : Int)) rfl (by kernel_rfl) (by kernel_rfl) (by kernel_rfl) (fun c a w h => placed_put (d := 13) (by decide) (by decide) c w h) (Or.inl ⟨by kernel_rfl, ?_⟩) ?_
        · intro w; go_simp
        try simp only [Act.put, List.setIfInBounds_toArray, List.set_cons_zero, List.set_cons_succ]
        refine wpAny_take (i := 2) (oi := { dst := some 14, op := _, type := _, pos := _, after := _, guard := _ }) (v := .func (.func g) #[] lb) rfl (by kernel_rfl) (by kernel_rfl) (by kernel_rfl) (fun c a w h => placed_put (d := 14) (by decide) (by decide) c w h) (Or.inl ⟨by kernel_rfl, ?_⟩) ?_
        · intro w; go_simp
        try simp only [Act.put, List.setIfInBounds_toArray, List.set_cons_zero, List.set_cons_succ]
        refine wpAny_take (i := 3) (oi := { dst := some 15, op := _, type := _, pos := _, after := _, guard := _ }) (v := .int .i64 (k : Int)) rfl (by kernel_rfl) (by kernel_rfl) (by kernel_rfl) (fun c a w h => placed_put (d := 15) (by decide) (by decide) c w h) (Or.inl ⟨by kernel_rfl, ?_⟩) ?_
        · intro w; go_simp
        try simp only [Act.put, List.setIfInBounds_toArray, List.set_cons_zero, List.set_cons_succ]
        refine wpAny_ready (rs := [0, 4]) (by kernel_rfl) (by simp) ?_
        refine AllReady.cons rfl (fun K hK => ?_) (AllReady.cons rfl (fun K hK => ?_) AllReady.nil)
        · go_simp
          refine hK _ _ ?_
          clear hK K
          refine wpAny_ready (rs := [4]) (by kernel_rfl) (by simp) ?_
          refine AllReady.cons rfl (fun K hK => ?_) AllReady.nil
          go_simp
          go_at_fn g
          refine (HC.out _ hb.drew).mono ?_
          rintro e w2 ⟨⟨x, rfl⟩, hb2⟩
          have hB2 : Below wr.heap.size wr w2 := bel_undrew hb2
          have hv2 := Hv.out.kept hB2 Hv.out.lt
          exact placed_fails _ hv2 rfl rfl (gives_no (plB_f hlk HBad.out) ((hb.trans (hB2.mono hsz)).setCell (by simp) _))
        · go_simp
          go_at_fn g
          refine (HC.out _ hb.drew).mono ?_
          rintro e w2 ⟨⟨x, rfl⟩, hb2⟩
          have hB2 : Below wr.heap.size wr w2 := bel_undrew hb2
          have hv2 := Hv.out.kept hB2 Hv.out.lt
          exact placed_fails _ hv2 rfl rfl (gives_no (plB_f hlk HBad.out) ((hb.trans (hB2.mono hsz)).setCell (by simp) _))
    · have hge : (L : Int) ≤ (k : Int) := by omega
      have hkL : k = L := by omega
      have HT := hid (show plB L H G = true from plB_t (fun j hj => HGd.out j (by omega)))
      have Hk := hid hkL
      obtain ⟨a3, n3, c3, rfl⟩ := own_slice hown
      have Hown := hid hown
      have Hv := hid hv
      have hc := hv.cell
      have hf := hv.free
      clear hlk hkL HGd HM hown hv
      go_wp2
      have hr : Res 3 w.heap.size (wr.setCell ⟨w.heap.size, 0, none⟩ (.slice a3 n3 c3)) (.slice a3 n3 c3) (tab L G) := by
        have h1 := own_set (g := w.heap.size) (u := .slice a3 n3 c3) Hown.out (Nat.lt_succ_self _)
        rw [Hk.out] at h1
        exact (Res.owns (by rw [tab_len]; exact h1)).mono (Nat.le_succ _)
      exact placed_ends _ (Hv.out.set _) ⟨_, _, _, rfl⟩ rfl rfl (gives_yes HT.out hr (hb.setCell (by simp) _))

end Go.Proofs.Ytiibkkndjalodaa
