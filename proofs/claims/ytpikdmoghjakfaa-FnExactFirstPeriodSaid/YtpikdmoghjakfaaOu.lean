
import Derived.Test.YtpikdmoghjakfaaOr
import Derived.Test.YtpikdmoghjakfaaOs
import Derived.WalkMore
import Derived.ScopeJumps
namespace Go
/-- by a goto to label l: J l; else as Q -/
def Exit.jumps (J : Nat → Act → World → Prop) (Q : Exit → Act → World → Prop) : Exit → Act → World → Prop
  | .goto l, a, w => J l a w
  | e, a, w => Q e a w
theorem wp_scope_many {P : Program} {a : Act} {w : World} {Q : Exit → Act → World → Prop} {c : Code} (J : Nat → Nat → Act → World → Prop)
    (first : c.wp P (Exit.jumps (fun l a' w' => ∃ m, J l m a' w') Q) a w)
    (pass : ∀ l m a w, J l m a w → ∃ rest, findLabel c l = some rest ∧ rest.wp P (Exit.jumps (fun l' a' w' => ∃ m', m' < m ∧ J l' m' a' w') Q) a w) : (Code.scope c).wp P Q a w := by
  intro b k cs
  have key : ∀ m l a w, J l m a w → ∃ rest, findLabel c l = some rest ∧ ∃ e a' w', Q e a' w' ∧ Arrives P (lone (b.at a (.code rest :: .inScope c :: k)) cs w) b k cs e a' w' := by
    intro m
    induction m using Nat.strongRecOn with
    | _ m ih =>
      intro l a w hJ
      obtain ⟨rest, hf, hp⟩ := pass l m a w hJ
      refine ⟨rest, hf, ?_⟩
      obtain ⟨e, a₁, w₁, hq, harr⟩ := hp b (.inScope c :: k) cs
      cases e with
      | normal => exact ⟨.normal, a₁, w₁, hq, Steps.trans harr (.one step_inScope)⟩
      | exit id => exact ⟨.exit id, a₁, w₁, hq, fun k' hk => harr k' (by simp [exitTo, hk])⟩
      | goto l' =>
        obtain ⟨m', hlt, hJ'⟩ := hq
        obtain ⟨rest', hf', e₂, a₂, w₂, hq₂, harr₂⟩ := ih m' hlt l' a₁ w₁ hJ'
        exact ⟨e₂, a₂, w₂, hq₂, .of_steps (harr _ (by simp [gotoIn, hf'])) harr₂⟩
      | ret => exact ⟨_, a₁, w₁, hq, harr⟩
      | panic ch => exact ⟨_, a₁, w₁, hq, harr⟩
      | outgrown => exact ⟨_, a₁, w₁, hq, harr⟩
  obtain ⟨e, a₁, w₁, hq, harr⟩ := first b (.inScope c :: k) cs
  cases e with
  | normal => exact ⟨.normal, a₁, w₁, hq, .head step_scope (Steps.trans harr (.one step_inScope))⟩
  | exit id => exact ⟨.exit id, a₁, w₁, hq, fun k' hk => .head step_scope (harr k' (by simp [exitTo, hk]))⟩
  | goto l' =>
    obtain ⟨m, hJ'⟩ := hq
    obtain ⟨rest', hf', e₂, a₂, w₂, hq₂, harr₂⟩ := key m l' a₁ w₁ hJ'
    exact ⟨e₂, a₂, w₂, hq₂, .of_steps (.head step_scope (harr _ (by simp [gotoIn, hf']))) harr₂⟩
  | ret => exact ⟨_, a₁, w₁, hq, .of_steps (.one step_scope) harr⟩
  | panic ch => exact ⟨_, a₁, w₁, hq, .of_steps (.one step_scope) harr⟩
  | outgrown => exact ⟨_, a₁, w₁, hq, .of_steps (.one step_scope) harr⟩
end Go
namespace Go.Proofs.Ytpikdmoghjakfaa
open Go.RowKit BitX Go.MemX Go.ShX
set_option linter.unusedVariables false
theorem i64_pow {n M : Nat} (h0 : M = 2 ^ n) (h : M ≤ 65536) : IntKind.i64.wrap ((2 : Int) ^ n) = (M : Int) := by
  have e : (2 : Int) ^ n = (M : Int) := by rw [h0]; norm_cast
  rw [e]; exact IntWalk.i64_in _ (by omega)
theorem ownsRow_same {w w' : World} {base : Nat} {e : TypeId} {size : Nat} {v : Value} {n : Nat} {xs : List Value} (h : w.ownsRow base e size v n xs) (hb : ∀ j, base ≤ j → w'.heap[j]? = w.heap[j]?) : w'.ownsRow base e size v n xs := by
  obtain ⟨h1, h2⟩ := h
  refine ⟨h1, ?_⟩
  rcases h2 with h2 | ⟨g, cap, cur, hv, hg, hh, r⟩
  · exact .inl h2
  · exact .inr ⟨g, cap, cur, hv, hg, by rw [hb g hg]; exact hh, r⟩
theorem ownsRow_form {w : World} {base : Nat} {e : TypeId} {size : Nat} {v : Value} {n : Nat} {xs : List Value} (h : w.ownsRow base e size v n xs) : ∃ a cap, v = .slice a n cap := by
  obtain ⟨_, ⟨rfl, rfl⟩ | ⟨g, cap, cur, hv, _⟩⟩ := h
  · exact ⟨none, 0, rfl⟩
  · exact ⟨_, cap, hv⟩


theorem wf_A {w w2 : World} {u v : Value} {t E : TypeId} {xs : List Int} (hb : Below (((w.alloc (.cells #[u, v] t)).alloc (.cells (intsA xs) E)).drew).heap.size (((w.alloc (.cells #[u, v] t)).alloc (.cells (intsA xs) E)).drew) w2) :
    Blk E w2 (w.heap.size + 1) xs ∧ w.heap.size < w.heap.size + 1 ∧ w.heap.size + 1 + 1 ≤ w2.heap.size ∧ Below w.heap.size w w2 := by
  have h := bel_undrew hb
  have hz : (w.alloc (.cells #[u, v] t)).heap.size = w.heap.size + 1 := by simp
  have hk : Blk E ((w.alloc (.cells #[u, v] t)).alloc (.cells (intsA xs) E)) (w.heap.size + 1) xs := by rw [← hz]; exact heap_alloc_new _ _
  refine ⟨hk.kept h hk.lt, by omega, ?_, bel_step (bel_alloc _ _) (bel_step (bel_alloc _ _) h)⟩
  have := h.size
  simp at this; omega
theorem wf_B {w w2 : World} {u v : Value} {t E : TypeId} {xs : List Int} (hb : Below ((w.alloc (.cells #[u, v] t)).drew).heap.size ((w.alloc (.cells #[u, v] t)).drew) w2) :
    Blk E (w2.alloc (.cells (intsA xs) E)) w2.heap.size xs ∧ w.heap.size < w2.heap.size ∧ w2.heap.size + 1 ≤ (w2.alloc (.cells (intsA xs) E)).heap.size ∧ Below w.heap.size w (w2.alloc (.cells (intsA xs) E)) := by
  have h := bel_undrew hb
  refine ⟨heap_alloc_new _ _, ?_, by simp, bel_step (bel_step (bel_alloc _ _) h) (bel_alloc _ _)⟩
  have := h.size
  simp at this; omega


set_option maxHeartbeats 4000000 in
theorem wayFrom_any (a0 : Int) (k : Nat) (mode : Int) (n : Nat) (wd : Bool) (gf : Nat) (lb : Array Value) (eg : ∀ (args : Array Value) (w : World), (callFunc gf args).run Try.prog w = .ok (.enter gf args) w) (x y : Int) (w : World) (C : Nat) (hnx : NextAt Try.prog gf lb (stepI a0 k mode n wd x) w) (hst : StopC (stepI a0 k mode n wd x) y (-(2 : Int) ^ (n - 1)) (2 ^ n) C) (n1 : 2 ≤ n) (n2 : n ≤ 16) (hw : inW n y = true) :
    Calls Try.prog 35 #[.agg #[.int .i64 (n : Int), .bool wd], .int .i64 y, .func (.func gf) #[] lb] w fun e w' => ∃ a cap, e = .returned (.tuple #[.slice a C cap, .int .i64 (metAt (stepI a0 k mode n wd x) y (-(2 : Int) ^ (n - 1)) (2 ^ n) C - 1)]) ∧ Below w.heap.size w w' := by
  obtain ⟨M, hM0, hM, hM4, hM6⟩ := pow_two_n n n1 n2
  have hpw := pow_small n (by omega) n2
  obtain ⟨L, hL⟩ : ∃ L, -(2 : Int) ^ (n - 1) = L := ⟨_, rfl⟩
  have hL1 : -32768 ≤ L := by omega
  have hLM : L + M ≤ 32768 := by omega
  obtain ⟨F, hFd⟩ : ∃ F : Int → Int, F = stepI a0 k mode n wd x := ⟨_, rfl⟩
  have hin : ∀ c, L ≤ orb F y c ∧ orb F y c < L + M := fun c => by
    have := orb_in a0 k mode n wd x y (by omega) n2 hw c
    rw [hFd]; omega
  have Hin := hid hin
  have HFd := hid hFd
  have hlo := fun (W : World) => leastOf_any n wd W (by omega) n2
  rw [hL] at hlo hst
  rw [hL, ← hM0]
  rw [← hM0] at hst
  rw [← hFd] at hst hnx
  rw [← hFd]
  have Hlo := hid hlo
  have Hst := hid hst
  have Hn := hid hnx
  have hCM := hst.2.2.2
  have hC1 : 1 ≤ C := by
    rcases Nat.eq_zero_or_pos C with h0 | h0
    · have h1 := hst.2.1
      have h2 := hst.2.2.1
      omega
    · exact h0
  have hwM : wrap64 ((2 : Int) ^ n) = (M : Int) := w64_pow hM0 hM6
  have hwM2 : wrap64 ((2 : Int) ^ min n 64) = (M : Int) := by rw [Nat.min_eq_left (by omega)]; exact hwM
  have hwM3 : IntKind.i64.wrap ((2 : Int) ^ n) = (M : Int) := i64_pow hM0 hM6
  have hmk := run_make_ints (P := Try.prog) 26 3 uslice iint M (by omega)
  obtain ⟨i0, hi0, hz0, hz1, hz2⟩ := info_parts iint
  clear hst hin hFd hM hM0 hpw hL hlo hw hnx
  go_enter Try.func35, Try.ntmps35
  go_wp2
  refine wp_scope_many (fun l m a' wq => ∃ (c g : Nat) (yy : Int) (v : Value) (ys : List Int) (u11 u12 u13 u14 u15 u16 u17 u18 u19 u20 u21 u22 u23 u24 u25 u26 u27 u28 u29 u30 u31 u32 u33 u34 u35 u36 u37 u38 u39 u40 u41 u42 u43 u44 u45 : Value), a' = { tmps := #[.agg #[.int .i64 (n : Int), .bool wd], .int .i64 yy, .func (.func gf) #[] lb, .pointer (some ⟨w.heap.size, 0, none⟩), undef, undef, .slice none 0 0, .int .i64 0, v, .slice (some ⟨g, 0, none⟩) M M, .int .i64 L, u11, u12, u13, u14, u15, u16, u17, u18, u19, u20, u21, u22, u23, u24, u25, u26, u27, u28, u29, u30, u31, u32, u33, u34, u35, u36, u37, u38, u39, u40, u41, u42, u43, u44, u45], defers := [] } ∧ orb F y c = yy ∧ c ≤ C ∧ m = 2 * (C - c) + l ∧ (l = 0 → c = C) ∧ (l = 0 ∨ l = 1) ∧ w.heap.size < g ∧ g + 1 ≤ wq.heap.size ∧ Blk 3 wq g (tbl F y L M c) ∧ wq.ownsRow (g + 1) 3 1 v c (ys.map (Value.int .i64)) ∧ Below w.heap.size w wq) ?_ ?_
  · go_wp2_with fail
    go_region_with (go_at_call 52; refine (Hlo.out _).mono ?_; rintro e w2 ⟨rfl, hb⟩; (first | obtain ⟨r0, r1⟩ := box2_cells (bel_undrew hb) | obtain ⟨r0, r1⟩ := box2_cells (bel_step (bel_alloc _ _) (bel_undrew hb))))
    all_goals clear r0 r1 hwM hwM2 hwM3 hmk
    all_goals first
      | (obtain ⟨hblk, hwg, hgs, hbel⟩ := wf_A (E := 3) (xs := List.replicate M 0) hb; obtain ⟨wq, hwq⟩ : ∃ wq, wq = w2 := ⟨_, rfl⟩; subst hwq; clear hb; generalize w.heap.size + 1 = g at hblk hwg hgs ⊢)
      | (obtain ⟨hblk, hwg, hgs, hbel⟩ := wf_B (E := 3) (xs := List.replicate M 0) hb; clear hb; generalize w2.alloc (.cells (intsA (List.replicate M 0)) 3) = wq at hblk hgs hbel ⊢; generalize w2.heap.size = g at hblk hwg hgs ⊢)
    all_goals
      go_wp2
      go_step3
      obtain ⟨c, hc0⟩ : ∃ c : Nat, c = 0 := ⟨_, rfl⟩
      have hyc : orb F y c = y := by rw [hc0]; rfl
      have hlk : c < C := by omega
      have hown : wq.ownsRow (g + 1) 3 1 (.slice none 0 0) c (([] : List Int).map (Value.int .i64)) := by rw [hc0]; exact World.ownsRow_nil _ _ _ _
      have hblk : Blk 3 wq g (tbl F y L M c) := by rw [hc0]; exact hblk
      clear hc0
      have hz12 := Hin.out c
      rw [hyc] at hz12
      obtain ⟨z1, z2⟩ := hz12
      obtain ⟨i, hi⟩ : ∃ i : Nat, i = (y - L).toNat := ⟨_, rfl⟩
      have hiv : y - L = (i : Int) := by omega
      have hiM : i < M := by omega
      have hget := met_get (F := F) (y := y) (lo := L) (m := M) Hin.out c
      rw [hyc, ← hi] at hget
      have hcd := hblk.cell hget
      have hts := tbl_succ F y L M c
      rw [hyc, ← hi] at hts
      obtain ⟨vm, hvm⟩ : ∃ v, v = metAt F y L M c := ⟨_, rfl⟩
      rw [← hvm] at hcd
      have horb : orb F y (c + 1) = F y := by show F (orb F y c) = F y; rw [hyc]
      have e1 : IntKind.i64.wrap (y - L) = (i : Int) := by rw [hiv]; exact IntWalk.i64_in _ (by omega)
      have e2 : wrap64 (y - L) = (i : Int) := by rw [hiv]; exact IntWalk.wrap64_in _ (by omega)
      have hv0 : vm = 0 := by rw [hvm]; exact Hst.out.1 c hlk
      have hm0 : metAt F y L M c = 0 := Hst.out.1 c hlk
      subst hv0
      have Hblk := hid hblk
      have Hown := hid hown
      have Hob := hid (ownsRow_base hown)
      have Hts := hid hts
      have Horb := hid horb
      rw [hm0] at hget
      have Hget := hid hget
      have Hyc := hid hyc
      have hcM : c ≤ M := by omega
      have Hbel := hid hbel
      clear hblk hown hts hget hi hvm horb hm0 hyc hbel
      go_wp2_with (at_builtin; refine wpList_append_own _ rfl _ _ 26 rfl (g + 1) 3 i0 (.int .i64 0) 1 8 uslice hi0 hz0 hz1 hz2 rfl (by decide) _ _ _ rfl (Hown.out.alloc _) ⟨wq.heap.size, 0, none⟩ 1 1 [.int .i64 y] rfl rfl ?c1 ?c2 ?c3 ?c4 ?c5 ?_)
      case c1 => exact cell_one_new _ _ _
      case c2 => intro u hu; simp at hu; subst hu; rfl
      case c3 => unfold maxLen; omega
      case c4 => omega
      case c5 => simp; omega
      intro v' w4 hown4 hgrow _
      have hb4 : Below (g + 1) wq w4 := ((Below.refl _ _).alloc hgs _).grown hgrow (by simp; omega) (fun j hj => Hob.out j hj)
      have hblk4 := Hblk.out.kept hb4 (Nat.lt_succ_self g)
      have hcd4 := hblk4.cell Hget.out
      have hfd4 := hblk4.free i
      obtain ⟨a4, cap4, rfl⟩ := ownsRow_form hown4
      have Hown4 := hid hown4
      have hset := hblk4.set i ((c : Int) + 1)
      rw [← Hts.out] at hset
      have Hset := hid hset
      have hbw4 := Hbel.out.trans (hb4.mono (by omega))
      have hgw4 : g < w4.heap.size := hblk4.lt
      clear hown4 hgrow hset hblk4
      go_wp2_with (go_at_fn gf; refine (Hn.out _ y (hbw4.setCell (p := ⟨g, i, none⟩) (by show w.heap.size ≤ g; omega) (.int .i64 ((c : Int) + 1))) (by omega) (by omega)).mono ?_; rintro e w5 ⟨rfl, hb5⟩)
      go_step3
      have hz5 := hb5.size
      simp at hz5
      exact ⟨_, ⟨c + 1, g, _, _, ([] : List Int) ++ [y], _, _, _, _, _, _, _, _, _, _, _, _, _, _, _, _, _, _, _, _, _, _, _, _, _, _, _, _, _, _, _, _, _, _, _, rfl, Horb.out, by omega, rfl, fun h => absurd h (by decide), .inr rfl, by assumption, by omega, Hset.out.kept hb5 (by simpa using hgw4), by rw [List.map_append]; exact ownsRow_below (ownsRow_same Hown4.out fun j hj => Below.heap_setCell _ _ _ _ (by show j ≠ g; omega)) hb5, (hbw4.setCell (p := ⟨g, i, none⟩) (by show w.heap.size ≤ g; omega) _).trans (hb5.mono (by simpa using hbw4.size))⟩⟩
  · rintro l m a' wq ⟨c, g, yy, v, ys, u11, u12, u13, u14, u15, u16, u17, u18, u19, u20, u21, u22, u23, u24, u25, u26, u27, u28, u29, u30, u31, u32, u33, u34, u35, u36, u37, u38, u39, u40, u41, u42, u43, u44, u45, rfl, hyc, hc, hm, hl0, hl, hwg, hgs, hblk, hown, hbel⟩
    rcases hl with rfl | rfl
    · have hcC := hl0 rfl
      refine ⟨_, rfl, ?_⟩
      subst hcC
      clear hwM hwM2 hwM3 hmk hl0 hm hc
      have hz12 := Hin.out c
      rw [hyc] at hz12
      obtain ⟨z1, z2⟩ := hz12
      obtain ⟨i, hi⟩ : ∃ i : Nat, i = (yy - L).toNat := ⟨_, rfl⟩
      have hiv : yy - L = (i : Int) := by omega
      have hiM : i < M := by omega
      have hget := met_get (F := F) (y := y) (lo := L) (m := M) Hin.out c
      rw [hyc, ← hi] at hget
      have hcd := hblk.cell hget
      have hts := tbl_succ F y L M c
      rw [hyc, ← hi] at hts
      obtain ⟨vm, hvm⟩ : ∃ v, v = metAt F y L M c := ⟨_, rfl⟩
      rw [← hvm] at hcd
      have horb : orb F y (c + 1) = F yy := by show F (orb F y c) = F yy; rw [hyc]
      have e1 : IntKind.i64.wrap (yy - L) = (i : Int) := by rw [hiv]; exact IntWalk.i64_in _ (by omega)
      have e2 : wrap64 (yy - L) = (i : Int) := by rw [hiv]; exact IntWalk.wrap64_in _ (by omega)
      obtain ⟨av, cap, rfl⟩ := ownsRow_form hown
      have hvb := Hst.out.2
      rw [← hvm] at hvb
      have HV := hid hvm
      obtain ⟨hv1, hv2, _⟩ := hvb
      have e3 : IntKind.i64.wrap (vm - 1) = vm - 1 := IntWalk.i64_in _ (by omega)
      have e4 : wrap64 (vm - 1) = vm - 1 := IntWalk.wrap64_in _ (by omega)
      have Hbel := hid hbel
      clear hts horb hget hi hvm hblk hown hyc hbel
      go_wp2_with fail
      go_quiet (fail)
      go_wp2
      simp only [Exit.jumps]
      go_ret2
      exact ⟨_, _, ret_vc (by rw [← HV.out]), below_drewN Hbel.out _⟩
    · refine ⟨_, rfl, ?_⟩
      clear hwM hwM2 hwM3 hmk hl0
      by_cases hlk : c < C
      · have hz12 := Hin.out c
        rw [hyc] at hz12
        obtain ⟨z1, z2⟩ := hz12
        obtain ⟨i, hi⟩ : ∃ i : Nat, i = (yy - L).toNat := ⟨_, rfl⟩
        have hiv : yy - L = (i : Int) := by omega
        have hiM : i < M := by omega
        have hget := met_get (F := F) (y := y) (lo := L) (m := M) Hin.out c
        rw [hyc, ← hi] at hget
        have hcd := hblk.cell hget
        have hts := tbl_succ F y L M c
        rw [hyc, ← hi] at hts
        obtain ⟨vm, hvm⟩ : ∃ v, v = metAt F y L M c := ⟨_, rfl⟩
        rw [← hvm] at hcd
        have horb : orb F y (c + 1) = F yy := by show F (orb F y c) = F yy; rw [hyc]
        have e1 : IntKind.i64.wrap (yy - L) = (i : Int) := by rw [hiv]; exact IntWalk.i64_in _ (by omega)
        have e2 : wrap64 (yy - L) = (i : Int) := by rw [hiv]; exact IntWalk.wrap64_in _ (by omega)
        have hv0 : vm = 0 := by rw [hvm]; exact Hst.out.1 c hlk
        have hm0 : metAt F y L M c = 0 := Hst.out.1 c hlk
        subst hv0
        have Hblk := hid hblk
        have Hown := hid hown
        have Hob := hid (ownsRow_base hown)
        have Hts := hid hts
        have Horb := hid horb
        rw [hm0] at hget
        have Hget := hid hget
        have Hyc := hid hyc
        have hcM : c ≤ M := by omega
        have Hbel := hid hbel
        clear hblk hown hts hget hi hvm horb hm0 hyc hbel
        go_wp2_with (at_builtin; refine wpList_append_own _ rfl _ _ 26 rfl (g + 1) 3 i0 (.int .i64 0) 1 8 uslice hi0 hz0 hz1 hz2 rfl (by decide) _ _ _ rfl (Hown.out.alloc _) ⟨wq.heap.size, 0, none⟩ 1 1 [.int .i64 yy] rfl rfl ?c1 ?c2 ?c3 ?c4 ?c5 ?_)
        case c1 => exact cell_one_new _ _ _
        case c2 => intro u hu; simp at hu; subst hu; rfl
        case c3 => unfold maxLen; omega
        case c4 => omega
        case c5 => simp; omega
        intro v' w4 hown4 hgrow _
        have hb4 : Below (g + 1) wq w4 := ((Below.refl _ _).alloc hgs _).grown hgrow (by simp; omega) (fun j hj => Hob.out j hj)
        have hblk4 := Hblk.out.kept hb4 (Nat.lt_succ_self g)
        have hcd4 := hblk4.cell Hget.out
        have hfd4 := hblk4.free i
        obtain ⟨a4, cap4, rfl⟩ := ownsRow_form hown4
        have Hown4 := hid hown4
        have hset := hblk4.set i ((c : Int) + 1)
        rw [← Hts.out] at hset
        have Hset := hid hset
        have hbw4 := Hbel.out.trans (hb4.mono (by omega))
        have hgw4 : g < w4.heap.size := hblk4.lt
        clear hown4 hgrow hset hblk4
        go_wp2_with (go_at_fn gf; refine (Hn.out _ yy (hbw4.setCell (p := ⟨g, i, none⟩) (by show w.heap.size ≤ g; omega) (.int .i64 ((c : Int) + 1))) (by omega) (by omega)).mono ?_; rintro e w5 ⟨rfl, hb5⟩)
        go_step3
        have hz5 := hb5.size
        simp at hz5
        exact ⟨_, (by omega : 2 * (C - (c + 1)) + 1 < m), ⟨c + 1, g, _, _, ys ++ [yy], _, _, _, _, _, _, _, _, _, _, _, _, _, _, _, _, _, _, _, _, _, _, _, _, _, _, _, _, _, _, _, _, _, _, _, rfl, Horb.out, by omega, rfl, fun h => absurd h (by decide), .inr rfl, by assumption, by omega, Hset.out.kept hb5 (by simpa using hgw4), by rw [List.map_append]; exact ownsRow_below (ownsRow_same Hown4.out fun j hj => Below.heap_setCell _ _ _ _ (by show j ≠ g; omega)) hb5, (hbw4.setCell (p := ⟨g, i, none⟩) (by show w.heap.size ≤ g; omega) _).trans (hb5.mono (by simpa using hbw4.size))⟩⟩
      · have hcC : c = C := by omega
        have hz12 := Hin.out c
        rw [hyc] at hz12
        obtain ⟨z1, z2⟩ := hz12
        obtain ⟨i, hi⟩ : ∃ i : Nat, i = (yy - L).toNat := ⟨_, rfl⟩
        have hiv : yy - L = (i : Int) := by omega
        have hiM : i < M := by omega
        have hget := met_get (F := F) (y := y) (lo := L) (m := M) Hin.out c
        rw [hyc, ← hi] at hget
        have hcd := hblk.cell hget
        have hts := tbl_succ F y L M c
        rw [hyc, ← hi] at hts
        obtain ⟨vm, hvm⟩ : ∃ v, v = metAt F y L M c := ⟨_, rfl⟩
        rw [← hvm] at hcd
        have horb : orb F y (c + 1) = F yy := by show F (orb F y c) = F yy; rw [hyc]
        have e1 : IntKind.i64.wrap (yy - L) = (i : Int) := by rw [hiv]; exact IntWalk.i64_in _ (by omega)
        have e2 : wrap64 (yy - L) = (i : Int) := by rw [hiv]; exact IntWalk.wrap64_in _ (by omega)
        have hv1 : 1 ≤ vm := by rw [hvm, hcC]; exact Hst.out.2.1
        have Hblk := hid hblk
        have Hown := hid hown
        have Hyc := hid hyc
        have Hbel := hid hbel
        clear hts horb hget hi hvm hblk hown hyc hbel hlk
        go_wp2
        go_step3
        exact ⟨0, by omega, c, g, yy, _, ys, _, _, _, _, _, _, _, _, _, _, _, _, _, _, _, _, _, _, _, _, _, _, _, _, _, _, _, _, _, _, _, _, _, _, _, rfl, Hyc.out, by omega, by omega, fun _ => hcC, .inl rfl, hwg, hgs, Hblk.out, Hown.out, Hbel.out⟩


set_option maxHeartbeats 4000000 in
theorem impl_FirstPeriod_is (a k mode b : Int) (wd : Bool) (y x : Int) (w : World) (C : Nat) (hC : fpS a k mode b wd y x C) (y1 : -9223372036854775808 ≤ y) (y2 : y ≤ 9223372036854775807) :
    Calls Try.prog 18 #[.agg #[.int .i64 a, .int .i64 k, .int .i64 mode, .int .i64 b, .bool wd], .int .i64 y, .int .i64 x] w fun e w' => e = .returned (.tuple #[.int .i64 (fpA a k mode b wd y x C), .int .i64 (fpB a k mode b wd y x C), .bool (asB a k mode b y x)]) ∧ Below w.heap.size w w' := by
  cases hq : asB a k mode b y x
  · have HA := hid (show fpA a k mode b wd y x C = 0 from by unfold fpA; rw [hq]; rfl)
    have HB := hid (show fpB a k mode b wd y x C = 0 from by unfold fpB; rw [hq]; rfl)
    have HQ := hid hq
    clear hq hC
    go_enter Try.func18, Try.ntmps18
    go_wp2_with fail
    refine (canStep_q _ _ _ _ _ _ _ false _ y1 y2 HQ.out).mono ?_
    rintro e w1 ⟨rfl, hb⟩
    have B1 := hb
    obtain ⟨c0, c1, c2, c3, c4⟩ := box5_cells B1
    go_wp2_with fail
    go_ret3
    exact ⟨ret_iib HA.out.symm HB.out.symm rfl, bel_step (bel_alloc _ _) B1⟩
  · have hst := hC hq
    have ha0 : fpA a k mode b wd y x C = fpV a k mode b wd y x C - 1 := by unfold fpA; rw [hq]; rfl
    have hb0 : fpB a k mode b wd y x C = C + 1 - fpV a k mode b wd y x C := by unfold fpB; rw [hq]; rfl
    obtain ⟨k, n, rfl, rfl, ho, ⟨hw, yy1, yy2⟩, x1, x2⟩ := asB_n hq
    have hv0 : fpV a k mode n wd y x C = metAt (stepI a k mode n wd x) y (-(2 : Int) ^ (n - 1)) (2 ^ n) C := rfl
    simp only [Int.toNat_natCast] at hst
    obtain ⟨vv, hvv⟩ : ∃ v, v = metAt (stepI a k mode n wd x) y (-(2 : Int) ^ (n - 1)) (2 ^ n) C := ⟨_, rfl⟩
    rw [← hvv] at hv0
    rw [hv0] at ha0 hb0
    have hvl := hst.2.1
    have hvr := hst.2.2.1
    rw [← hvv] at hvl hvr
    have hCM := hst.2.2.2
    have hC6 : C ≤ 65536 := Nat.le_trans hCM (Nat.pow_le_pow_right (by decide) ho.2.2.2.2)
    have HQ := hid hq
    have HO := hid ho
    have HA := hid ha0
    have HB := hid hb0
    have Hst := hid hst
    have Hvv := hid hvv
    have Hw := hid hw
    have n1 := ho.2.2.2.1
    have n2 := ho.2.2.2.2
    have e1 : IntKind.i64.wrap ((C : Int) - (vv - 1)) = (C : Int) - (vv - 1) := IntWalk.i64_in _ (by omega)
    clear hq hC hst ho ha0 hb0 hv0 hvv hw hCM
    go_enter Try.func18, Try.ntmps18
    go_wp2_with fail
    refine (canStep_q _ _ _ _ _ _ _ true _ y1 y2 HQ.out).mono ?_
    rintro e w1 ⟨rfl, hb⟩
    have B1 := hb
    have HS1 := hid (box5_cells B1)
    have hS := HS1.out
    obtain ⟨c0, c1, c2, c3, c4⟩ := box5_cells B1
    go_wp2_with fail
    go_region_held3 (fun W => W.cell? ⟨w.heap.size, 0, none⟩ = some (.int .i64 a) ∧ W.cell? ⟨w.heap.size, 1, none⟩ = some (.int .i64 (k : Int)) ∧ W.cell? ⟨w.heap.size, 2, none⟩ = some (.int .i64 mode) ∧ W.cell? ⟨w.heap.size, 3, none⟩ = some (.int .i64 (n : Int)) ∧ W.cell? ⟨w.heap.size, 4, none⟩ = some (.bool wd)) (first | exact hS | assumption | go_keep) (first | (go_at_call 36; refine (stepWith_any a k mode n wd x _ HO.out x1 x2).mono ?_; rintro e w3 ⟨⟨lb, rfl, hn3⟩, hb3⟩; have B3 := bel_step B1 (bel_undrew hb3); have Hn3 := hid hn3; have hS := box5_cells B3; obtain ⟨d0, d1, d2, d3, d4⟩ := box5_cells B3; have eg3 := enterT1) | (go_at_call 35; refine (wayFrom_any a k mode n wd _ lb enterT1 x y _ C Hn3.out Hst.out n1 n2 Hw.out).mono ?_; rintro e w4 ⟨av, cap, rfl, hb4⟩; rw [← Hvv.out]; have B4 := bel_step B3 hb4; have hS := box5_cells B4))
    all_goals go_wp2
    all_goals go_ret3
    all_goals exact ⟨ret_iib HA.out.symm (by rw [HB.out]; omega) rfl, bel_step (bel_alloc _ _) B4⟩


set_option maxHeartbeats 1600000 in
theorem gen_FnExactFirstPeriod (a k mode b : Int) (wr : Bool) (y : Int) (x : Int)  (r0 : Int) (r1 : Int) (r2 : Bool) (w : World)  (hspec : ∀ (w : World) , Calls Try.prog 17 #[.agg #[.int .i64 a, .int .i64 k, .int .i64 mode, .int .i64 b, .bool wr], .int .i64 y, .int .i64 x] w fun e w' => e = .returned (.tuple #[.int .i64 r0, .int .i64 r1, .bool r2]) ∧ Below w.heap.size w w') (himpl : ∀ (w : World) , Calls Try.prog 18 #[.agg #[.int .i64 a, .int .i64 k, .int .i64 mode, .int .i64 b, .bool wr], .int .i64 y, .int .i64 x] w fun e w' => e = .returned (.tuple #[.int .i64 r0, .int .i64 r1, .bool r2]) ∧ Below w.heap.size w w') :
    Calls Try.prog 5 #[.agg #[.int .i64 a, .int .i64 k, .int .i64 mode, .int .i64 b, .bool wr], .int .i64 y, .int .i64 x] w fun e w' => e = .returned (.bool true) ∧ Below w.heap.size w w' := by
  have HSP := hid hspec
  have HIM := hid himpl
  clear hspec himpl
  all_goals cases r2
  all_goals
    go_enter Try.func5, Try.ntmps5
    go_wp2_with fail
    refine (toFirst_any _ _ _ _ _ _).mono ?_
    rintro e w1 ⟨rfl, hb⟩
    have B1 := hb
    have hz1 : w.heap.size ≤ w1.heap.size := by first | exact hb.size | (have := hb.size; simp at this; omega)
    obtain ⟨ca1, cb1, cc1, cd1, ce1⟩ := box5_cells B1
    go_wp2_with fail
    refine (HSP.out _).mono ?_
    rintro e w2 ⟨rfl, hb⟩
    have B2 := bel_step B1 hb
    have hz2 : w1.heap.size ≤ w2.heap.size := hb.size
    obtain ⟨ca2, cb2, cc2, cd2, ce2⟩ := box5_cells B2
    go_wp2_with fail
    refine (toFirst_any _ _ _ _ _ _).mono ?_
    rintro e w3 ⟨rfl, hb⟩
    have B3 := bel_step B2 hb
    have hz3 : w2.heap.size ≤ w3.heap.size := hb.size
    obtain ⟨ca3, cb3, cc3, cd3, ce3⟩ := box5_cells B3
    go_wp2_with fail
    refine (HIM.out _).mono ?_
    rintro e w4 ⟨rfl, hb⟩
    have B4 := bel_step B3 hb
    have hz4 : w3.heap.size ≤ w4.heap.size := hb.size
    obtain ⟨ca4, cb4, cc4, cd4, ce4⟩ := box5_cells B4
    go_wp2_with fail
    go_ret
    exact ⟨rfl, bel_step (bel_alloc _ _) B4⟩


set_option maxHeartbeats 1600000 in
theorem walk_FnExactFirstPeriod (w : World) (a k mode b : Int) (wr : Bool) (wa : (Lit.int .i64 a).wf = true) (wk : (Lit.int .i64 k).wf = true) (wm : (Lit.int .i64 mode).wf = true) (wb : (Lit.int .i64 b).wf = true) (y : Int) (w_y : (Lit.int .i64 y).wf = true) (x : Int) (w_x : (Lit.int .i64 x).wf = true) :
    Calls Try.prog 5 #[.agg #[.int .i64 a, .int .i64 k, .int .i64 mode, .int .i64 b, .bool wr], .int .i64 y, .int .i64 x] w fun e w' => e = .returned (.bool true) ∧ Below w.heap.size w w' := by
  obtain ⟨y_1, y_2⟩ := bounds_i64 w_y
  obtain ⟨x_1, x_2⟩ := bounds_i64 w_x
  obtain ⟨C, hC⟩ := fp_ex a k mode b wr y x
  exact gen_FnExactFirstPeriod a k mode b wr y x (fpA a k mode b wr y x C) (fpB a k mode b wr y x C) (asB a k mode b y x) w  (fun w  => spec_FirstPeriod_is _ _ _ _ _ _ _ _ C hC) (fun w  => impl_FirstPeriod_is _ _ _ _ _ _ _ _ C hC y_1 y_2)

end Go.Proofs.Ytpikdmoghjakfaa
