
import Derived.Test.YthkfjoonkkmgiaaXc
namespace Go.Ch9
open Go Go.RowKit Go.MemX
set_option linter.unusedVariables false
section
variable {E T : TypeId} {base : Nat} {w0 W w' : World} {g8 g9 : Nat} {a b c x y z : Value} {v0 u0 t0 v u t v' : Value} {nv nu nt : Nat} {xs ys zs : List Int}
theorem Three.c8 (h : Three E T base w0 g8 g9 #[a, b, c] v0 u0 t0 v u t nv nu nt xs ys zs W) : W.cell? ⟨g8, 0, none⟩ = some a ∧ W.cell? ⟨g8, 1, none⟩ = some b ∧ W.cell? ⟨g8, 2, none⟩ = some c :=
  ⟨by rw [cell_of_row W g8 0 _ _ _ h.h8]; rfl, by rw [cell_of_row W g8 1 _ _ _ h.h8]; rfl, by rw [cell_of_row W g8 2 _ _ _ h.h8]; rfl⟩
theorem Three.f8 (h : Three E T base w0 g8 g9 #[a, b, c] v0 u0 t0 v u t nv nu nt xs ys zs W) (i : Nat) : W.frozen? ⟨g8, i, none⟩ = false := frozen_of_row W g8 i _ _ h.h8
theorem Three.set8 (h : Three E T base w0 g8 g9 #[a, b, c] v0 u0 t0 v u t nv nu nt xs ys zs W) (l8 : w0.heap.size ≤ g8) (h89 : g8 ≠ g9) : Three E T base w0 g8 g9 #[x, y, z] v0 u0 t0 v u t nv nu nt xs ys zs (((W.setCell ⟨g8, 0, none⟩ x).setCell ⟨g8, 1, none⟩ y).setCell ⟨g8, 2, none⟩ z) := by
  have hb : ∀ j, j ≠ g8 → (((W.setCell ⟨g8, 0, none⟩ x).setCell ⟨g8, 1, none⟩ y).setCell ⟨g8, 2, none⟩ z).heap[j]? = W.heap[j]? := fun j hj => by
    rw [heap_setCell_other _ _ _ _ hj, heap_setCell_other _ _ _ _ hj, heap_setCell_other _ _ _ _ hj]
  have hs8 := h.s8
  refine ⟨ownsRow_sameT h.r1 fun j hj => hb j (by omega), ownsRow_sameT h.r2 fun j hj => hb j (by omega), ownsRow_sameT h.r3 fun j hj => hb j (by omega), h.a12, h.a13, h.a23, ?_, (hb g9 (Ne.symm h89)).trans h.h9, ?_, h.s8, h.s9, h.s0, h.l9, ?_⟩
  · rw [heap_setCell_same _ _ _ _ _ _ (heap_setCell_same _ _ _ _ _ _ (heap_setCell_same _ _ _ _ _ _ h.h8))]; rfl
  · rw [World.size_setCell, World.size_setCell, World.size_setCell]; exact h.lo
  · exact ((h.bel.setCell (by exact l8) _).setCell (by exact l8) _).setCell (by exact l8) _
end
end Go.Ch9
namespace Go.Proofs.Ythkfjoonkkmgiaa
open Go.RowKit BitX Go.MemX Go.Ch6 Go.Ch9 Go.ChV
set_option linter.unusedVariables false
theorem alloc_last9 (w : World) (o : Obj) : (w.alloc o).heap[w.heap.size]? = some o := by
  show (w.heap.push o)[w.heap.size]? = some o
  simp
theorem ownsRow_form9 {w : World} {base : Nat} {e : TypeId} {size : Nat} {v : Value} {n : Nat} {xs : List Value} (h : w.ownsRow base e size v n xs) : ∃ a cap, v = .slice a n cap := by
  obtain ⟨_, ⟨rfl, rfl⟩ | ⟨g, cap, cur, hv, _⟩⟩ := h
  · exact ⟨none, 0, rfl⟩
  · exact ⟨_, cap, hv⟩
theorem new8 (w : World) : ((w.alloc (.cells #[.slice none 0 0, .slice none 0 0, .slice none 0 0] 42)).alloc (.cells #[.slice none 0 0, .slice none 0 0, .slice none 0 0] 42)).heap[w.heap.size]? = some (.cells #[.slice none 0 0, .slice none 0 0, .slice none 0 0] 42 (0, 0)) := by
  rw [Below.heap_alloc _ _ _ (by simp)]
  show (w.heap.push _)[w.heap.size]? = some _
  simp
theorem new9 (w : World) : ((w.alloc (.cells #[.slice none 0 0, .slice none 0 0, .slice none 0 0] 42)).alloc (.cells #[.slice none 0 0, .slice none 0 0, .slice none 0 0] 42)).heap[w.heap.size + 1]? = some (.cells #[.slice none 0 0, .slice none 0 0, .slice none 0 0] 42 (0, 0)) := by
  have h : (w.alloc (.cells #[.slice none 0 0, .slice none 0 0, .slice none 0 0] 42)).heap.size = w.heap.size + 1 := by simp
  have hl := alloc_last9 (w.alloc (.cells #[.slice none 0 0, .slice none 0 0, .slice none 0 0] 42)) (.cells #[.slice none 0 0, .slice none 0 0, .slice none 0 0] 42)
  rw [h] at hl
  exact hl

set_option maxHeartbeats 16000000 in
theorem stepThrough_any (gn gb : Nat) (lb : Array Value) (en : ∀ (args : Array Value) (w : World), (callFunc gn args).run Try.prog w = .ok (.enter gn args) w) (eb : ∀ (args : Array Value) (w : World), (callFunc gb args).run Try.prog w = .ok (.enter gb args) w) (nx : Int → Bool → Int) (B : Nat → Int → Int) (f : Int) (n : Nat) (w : World) (hn : n ≤ 200) (f1 : 1 ≤ f) (f2 : f ≤ 4096) (hk : Keeps nx) (hB : ∀ k v, k < n → B k v = 1 ∨ B k v = -1) (hN : NextIs Try.prog gn nx) (hI : BitIs Try.prog gb lb B n w) :
    Calls Try.prog 50 #[.int .i64 (n : Int), .int .i64 f, .func (.func gn) #[] #[], .func (.func gb) #[] lb] w (Gives3 w (tab n (skB nx B f)) (tab n (fun k => skT nx B f (k + 1))) (tab n (fun k => skV nx B f (k + 1)))) := by
  have HK := hid hk
  have HB := hid hB
  have HN := hid hN
  have HI := hid hI
  obtain ⟨i0, hi0, hz0, hz1, hz2⟩ := info_parts iint
  clear hk hB hN hI
  go_enter Try.func50, Try.ntmps50
  go_wp2_with fail
  go_loopw [10, 11, 16] (fun vv st i wr => ∃ (c : Nat) (v u t : Value), c ≤ n ∧ vv = .int .i64 (skV nx B f c) ∧ st = .int .i64 (skT nx B f c) ∧ i = .int .i64 c ∧ Three 3 42 (w.heap.size + 2) w w.heap.size (w.heap.size + 1) #[.slice none 0 0, .slice none 0 0, .slice none 0 0] v u t v u t c c c (tab c (skB nx B f)) (tab c (fun k => skT nx B f (k + 1))) (tab c (fun k => skV nx B f (k + 1))) wr)
    (fun _ _ i _ => n - (intOf i).toNat)
  case atStart => exact ⟨0, _, _, _, by omega, rfl, rfl, rfl, ⟨World.ownsRow_nil _ _ _ _, World.ownsRow_nil _ _ _ _, World.ownsRow_nil _ _ _ _, Apart.nil _, Apart.nil _, Apart.nil _, new8 w, new9 w, by simp, by omega, by omega, by omega, by omega, bel_step (bel_alloc _ _) (bel_alloc _ _)⟩⟩
  case round =>
    obtain ⟨c, v, u, t, hc, rfl, rfl, rfl, hT⟩ := hrel
    by_cases hlk : c < n
    · have hbt := skB_in (nx := nx) (f := f) HB.out c hlk
      have hnv := skV_succ nx B f c
      obtain ⟨t1, t2⟩ := skT_in (B := B) HK.out f1 f2 c
      obtain ⟨m1, m2⟩ := skT_in (B := B) HK.out f1 f2 (c + 1)
      obtain ⟨z1, z2⟩ := skV_in' HK.out f1 f2 HB.out c (by omega) hn
      have hcall := HI.out wr c (skV nx B f c) hlk hT.bel
      have hbe : B c (skV nx B f c) = skB nx B f c := rfl
      rw [hbe] at hcall
      have Hcall := hid hcall
      have Hst1 := hid (tab_step c (skB nx B f))
      have Hst2 := hid (show tab (c + 1) (fun k => skT nx B f (k + 1)) = tab c (fun k => skT nx B f (k + 1)) ++ [skT nx B f (c + 1)] from tab_step c (fun k => skT nx B f (k + 1)))
      have Hst3 := hid (show tab (c + 1) (fun k => skV nx B f (k + 1)) = tab c (fun k => skV nx B f (k + 1)) ++ [skV nx B f (c + 1)] from tab_step c (fun k => skV nx B f (k + 1)))
      have hT0 : c = 0 → skT nx B f (c + 1) = skT nx B f c := fun e => by subst e; rfl
      have hT1 : ∀ d, c = d + 1 → skT nx B f (c + 1) = nx (skT nx B f c) (skB nx B f c == skB nx B f d) := fun d e => by subst e; exact skT_more nx B f d
      have hget : ∀ d, d < c → (tab c (skB nx B f))[d]? = some (skB nx B f d) := fun d hd => tab_get c (skB nx B f) d hd
      have HT0 := hid hT0
      have HT1 := hid hT1
      have Hget := hid hget
      have hi63 : (n : Int) ≤ 200 := by omega
      clear hcall hbe hT0 hT1 hget
      generalize hntt : skT nx B f (c + 1) = nt at *
      generalize htt : skT nx B f c = st at *
      generalize hnvv : skV nx B f (c + 1) = nz at *
      generalize hzz : skV nx B f c = z at *
      generalize hbb : skB nx B f c = bt at *
      have hp : nt * bt = nt ∨ nt * bt = -nt := by rcases hbt with h | h <;> (rw [h]; omega)
      have e1 : ∀ [Inhabited Unit], wrap64 (nt * bt) = nt * bt := IntWalk.wrap64_in _ (by omega)
      have e2 : ∀ [Inhabited Unit], wrap64 (z + nt * bt) = nz := by rw [hnv]; exact IntWalk.wrap64_in _ (by omega)
      have e3 : ∀ [Inhabited Unit], z + nt * bt = nz := hnv.symm
      have e4 : ∀ [Inhabited Unit], wrap64 nz = nz := IntWalk.wrap64_in _ (by omega)
      have Hnv := hid hnvv
      have Hnt := hid hntt
      obtain ⟨c0, c1, c2⟩ := hT.c9
      have HTT := hid hT
      clear hntt htt hnvv hzz hbb hnv hp hT hbt
      go_upto_if 24 with (go_at_fn gb; refine Hcall.out.mono ?_; rintro e w' ⟨rfl, rfl⟩)
      go_cut [11] from 24 to 35 (fun s wx => s = .int .i64 nt ∧ wr = wx)
      case first =>
        by_cases hc0 : c = 0
        · have hci : (c : Int) ≤ 0 := by omega
          have Hn0 := hid (HT0.out hc0)
          clear hc0
          go_wp2
          go_meet
          exact ⟨by rw [Hn0.out], rfl⟩
        · obtain ⟨d, hd⟩ : ∃ d, c = d + 1 := ⟨c - 1, by omega⟩
          have hci : 0 < (c : Int) := by omega
          have Hn1 := hid (HT1.out d hd)
          have hkd := Hget.out d (by omega)
          obtain ⟨av, cv, hv, hrv⟩ := own_read HTT.out.r1
          subst hv
          obtain ⟨b2, o2, hix2, hbb2, hce2⟩ := hrv.at (P := Try.prog) (T := 24) c cv uslice sone hkd (by omega)
          have hdc : ((d : Nat) : Int) = (c : Int) - 1 := by omega
          rw [hdc] at hix2
          clear hc0 hd hkd hrv hdc
          generalize skB nx B f d = pb at *
          go_wp2_with (go_at_fn gn; refine (HN.out _ _ _ t1 t2).mono ?_; rintro e w' ⟨rfl, rfl⟩)
          go_meet
          exact ⟨by rw [Hn1.out], rfl⟩
      case rest =>
        obtain ⟨rfl, hwx⟩ := hcut
        subst hwx
        clear c0 c1 c2
        go_wp2_with fail
        have hT := HTT.out
        clear HTT Hcall Hget HT0 HT1
        refine wp_region_K (S := (fun W => W.cell? ⟨w.heap.size + 1, 0, none⟩ = some v ∧ W.cell? ⟨w.heap.size + 1, 1, none⟩ = some u ∧ W.cell? ⟨w.heap.size + 1, 2, none⟩ = some t)) (K := 16) (by kernel_rfl) ?_
        have T0 := hT.drew
        clear hT
        have hS0 := T0.c9
        refine wpAnyK_take0 (i := 0) (oi := { dst := some 41, op := _, type := _, pos := _, after := _, guard := _ }) (v := .pointer (some ⟨w.heap.size + 1, 0, none⟩)) rfl (by kernel_rfl) (by kernel_rfl) (by kernel_rfl) (by decide) (fun _ _ _ h => h) (Or.inl ⟨by kernel_rfl, ?_⟩) (fun _ => hS0) ?_
        · intro w hSw; go_simp
        try simp only [Act.put, List.setIfInBounds_toArray, List.set_cons_zero, List.set_cons_succ]
        refine wpAnyK_take (i := 1) (oi := { dst := some 42, op := _, type := _, pos := _, after := _, guard := _ }) (v := v) rfl (by kernel_rfl) (by kernel_rfl) (by kernel_rfl) (by kernel_rfl) (by kernel_rfl) (fun _ _ _ h => h) (Or.inl ⟨by kernel_rfl, ?_⟩) hS0 ?_
        · intro w hSw; (try dsimp only at hSw); go_simp
        try simp only [Act.put, List.setIfInBounds_toArray, List.set_cons_zero, List.set_cons_succ]
        refine wpAnyK_take0 (i := 2) (oi := { dst := some 43, op := _, type := _, pos := _, after := _, guard := _ }) (v := .int .i64 bt) rfl (by kernel_rfl) (by kernel_rfl) (by kernel_rfl) (by decide) (fun _ _ _ h => h) (Or.inl ⟨by kernel_rfl, ?_⟩) (fun _ => hS0) ?_
        · intro w hSw; go_simp
        try simp only [Act.put, List.setIfInBounds_toArray, List.set_cons_zero, List.set_cons_succ]
        refine wpAnyK_take0 (i := 5) (oi := { dst := some 46, op := _, type := _, pos := _, after := _, guard := _ }) (v := .pointer (some ⟨w.heap.size + 1, 1, none⟩)) rfl (by kernel_rfl) (by kernel_rfl) (by kernel_rfl) (by decide) (fun _ _ _ h => h) (Or.inl ⟨by kernel_rfl, ?_⟩) (fun _ => hS0) ?_
        · intro w hSw; go_simp
        try simp only [Act.put, List.setIfInBounds_toArray, List.set_cons_zero, List.set_cons_succ]
        refine wpAnyK_take (i := 6) (oi := { dst := some 47, op := _, type := _, pos := _, after := _, guard := _ }) (v := u) rfl (by kernel_rfl) (by kernel_rfl) (by kernel_rfl) (by kernel_rfl) (by kernel_rfl) (fun _ _ _ h => h) (Or.inl ⟨by kernel_rfl, ?_⟩) hS0 ?_
        · intro w hSw; (try dsimp only at hSw); go_simp
        try simp only [Act.put, List.setIfInBounds_toArray, List.set_cons_zero, List.set_cons_succ]
        refine wpAnyK_take0 (i := 7) (oi := { dst := some 48, op := _, type := _, pos := _, after := _, guard := _ }) (v := .int .i64 nt) rfl (by kernel_rfl) (by kernel_rfl) (by kernel_rfl) (by decide) (fun _ _ _ h => h) (Or.inl ⟨by kernel_rfl, ?_⟩) (fun _ => hS0) ?_
        · intro w hSw; go_simp
        try simp only [Act.put, List.setIfInBounds_toArray, List.set_cons_zero, List.set_cons_succ]
        refine wpAnyK_take0 (i := 10) (oi := { dst := some 51, op := _, type := _, pos := _, after := _, guard := _ }) (v := .pointer (some ⟨w.heap.size + 1, 2, none⟩)) rfl (by kernel_rfl) (by kernel_rfl) (by kernel_rfl) (by decide) (fun _ _ _ h => h) (Or.inl ⟨by kernel_rfl, ?_⟩) (fun _ => hS0) ?_
        · intro w hSw; go_simp
        try simp only [Act.put, List.setIfInBounds_toArray, List.set_cons_zero, List.set_cons_succ]
        refine wpAnyK_take (i := 11) (oi := { dst := some 52, op := _, type := _, pos := _, after := _, guard := _ }) (v := t) rfl (by kernel_rfl) (by kernel_rfl) (by kernel_rfl) (by kernel_rfl) (by kernel_rfl) (fun _ _ _ h => h) (Or.inl ⟨by kernel_rfl, ?_⟩) hS0 ?_
        · intro w hSw; (try dsimp only at hSw); go_simp
        try simp only [Act.put, List.setIfInBounds_toArray, List.set_cons_zero, List.set_cons_succ]
        refine wpAnyK_take0 (i := 12) (oi := { dst := some 53, op := _, type := _, pos := _, after := _, guard := _ }) (v := .int .i64 nz) rfl (by kernel_rfl) (by kernel_rfl) (by kernel_rfl) (by decide) (fun _ _ _ h => h) (Or.inl ⟨by kernel_rfl, ?_⟩) (fun _ => hS0) ?_
        · intro w hSw; go_simp
        try simp only [Act.put, List.setIfInBounds_toArray, List.set_cons_zero, List.set_cons_succ]
        clear hS0
        generalize wr.drew = W0 at *
        refine wpAnyK_ready (rs := [3, 8, 13]) (by kernel_rfl) (by simp) ?_
        refine (AllReadyK.cons (o := { dst := some 44, op := _, type := _, pos := _, after := _, guard := _ }) rfl (fun K' hK' => ?_) (AllReadyK.cons (o := { dst := some 49, op := _, type := _, pos := _, after := _, guard := _ }) rfl (fun K' hK' => ?_) (AllReadyK.cons (o := { dst := some 54, op := _, type := _, pos := _, after := _, guard := _ }) rfl (fun K' hK' => ?_) AllReadyK.nil)))
        · go_simp
          have T1 := T0.alloc (.cells #[.int .i64 bt] 3)
          have N1_0 := News.new T0 bt
          refine hK'.out _ _ (fun _ => T1.c9) ?_
          clear hK' K' T0 
          try simp only [Act.put, List.setIfInBounds_toArray, List.set_cons_zero, List.set_cons_succ]
          generalize W0.alloc (.cells #[.int .i64 bt] 3) = W1 at *
          generalize W0.heap.size = b1 at *
          refine wpAnyK_ready (rs := [4, 8, 13]) (by kernel_rfl) (by simp) ?_
          refine (AllReadyK.cons (o := { dst := some 45, op := _, type := _, pos := _, after := _, guard := _ }) rfl (fun K' hK' => ?_) (AllReadyK.cons (o := { dst := some 49, op := _, type := _, pos := _, after := _, guard := _ }) rfl (fun K' hK' => ?_) (AllReadyK.cons (o := { dst := some 54, op := _, type := _, pos := _, after := _, guard := _ }) rfl (fun K' hK' => ?_) AllReadyK.nil)))
          · refine step_append_own2 (by kernel_rfl) _ _ 24 rfl (w.heap.size + 2) 3 i0 (.int .i64 0) 1 8 uslice hi0 hz0 hz1 hz2 rfl (by decide) _ c _ rfl T1.r1 ⟨_, 0, none⟩ 1 1 [.int .i64 bt] rfl rfl N1_0.at (by intro y hy; simp at hy; subst hy; rfl) (by unfold maxLen; omega) (by omega) T1.lo ?_
            intro v' W2 hown hg hnew
            have T2 := T1.app1 hown hg hnew
            refine hK'.out _ _ (fun _ => T2.c9) ?_
            clear hK' K' hown hg hnew T1 N1_0
            try simp only [Act.put, List.setIfInBounds_toArray, List.set_cons_zero, List.set_cons_succ]
            refine wpAnyK_take0 (i := 15) (oi := { dst := some 56, op := _, type := _, pos := _, after := _, guard := _ }) (v := .pointer (some ⟨w.heap.size + 1, 0, none⟩)) rfl (by kernel_rfl) (by kernel_rfl) (by kernel_rfl) (by decide) (fun _ _ _ h => h) (Or.inl ⟨by kernel_rfl, ?_⟩) (fun _ => T2.c9) ?_
            · intro w hSw; go_simp
            try simp only [Act.put, List.setIfInBounds_toArray, List.set_cons_zero, List.set_cons_succ]
            refine wpAnyK_ready (rs := [8, 13]) (by kernel_rfl) (by simp) ?_
            refine (AllReadyK.cons (o := { dst := some 49, op := _, type := _, pos := _, after := _, guard := _ }) rfl (fun K' hK' => ?_) (AllReadyK.cons (o := { dst := some 54, op := _, type := _, pos := _, after := _, guard := _ }) rfl (fun K' hK' => ?_) AllReadyK.nil))
            · go_simp
              have T3 := T2.alloc (.cells #[.int .i64 nt] 3)
              have N3_1 := News.new T2 nt
              refine hK'.out _ _ (fun _ => T3.c9) ?_
              clear hK' K' T2 
              try simp only [Act.put, List.setIfInBounds_toArray, List.set_cons_zero, List.set_cons_succ]
              generalize W2.alloc (.cells #[.int .i64 nt] 3) = W3 at *
              generalize W2.heap.size = b3 at *
              refine wpAnyK_ready (rs := [9, 13]) (by kernel_rfl) (by simp) ?_
              refine (AllReadyK.cons (o := { dst := some 50, op := _, type := _, pos := _, after := _, guard := _ }) rfl (fun K' hK' => ?_) (AllReadyK.cons (o := { dst := some 54, op := _, type := _, pos := _, after := _, guard := _ }) rfl (fun K' hK' => ?_) AllReadyK.nil))
              · refine step_append_own2 (by kernel_rfl) _ _ 24 rfl (w.heap.size + 2) 3 i0 (.int .i64 0) 1 8 uslice hi0 hz0 hz1 hz2 rfl (by decide) _ c _ rfl T3.r2 ⟨_, 0, none⟩ 1 1 [.int .i64 nt] rfl rfl N3_1.at (by intro y hy; simp at hy; subst hy; rfl) (by unfold maxLen; omega) (by omega) T3.lo ?_
                intro u' W4 hown hg hnew
                have T4 := T3.app2 hown hg hnew
                refine hK'.out _ _ (fun _ => T4.c9) ?_
                clear hK' K' hown hg hnew T3 N3_1
                try simp only [Act.put, List.setIfInBounds_toArray, List.set_cons_zero, List.set_cons_succ]
                refine wpAnyK_ready (rs := [13]) (by kernel_rfl) (by simp) ?_
                refine (AllReadyK.cons (o := { dst := some 54, op := _, type := _, pos := _, after := _, guard := _ }) rfl (fun K' hK' => ?_) AllReadyK.nil)
                go_simp
                have T5 := T4.alloc (.cells #[.int .i64 nz] 3)
                have N5_2 := News.new T4 nz
                refine hK'.out _ _ (fun _ => T5.c9) ?_
                clear hK' K' T4 
                try simp only [Act.put, List.setIfInBounds_toArray, List.set_cons_zero, List.set_cons_succ]
                generalize W4.alloc (.cells #[.int .i64 nz] 3) = W5 at *
                generalize W4.heap.size = b5 at *
                refine wpAnyK_ready (rs := [14]) (by kernel_rfl) (by simp) ?_
                refine (AllReadyK.cons (o := { dst := some 55, op := _, type := _, pos := _, after := _, guard := _ }) rfl (fun K' hK' => ?_) AllReadyK.nil)
                refine step_append_own2 (by kernel_rfl) _ _ 24 rfl (w.heap.size + 2) 3 i0 (.int .i64 0) 1 8 uslice hi0 hz0 hz1 hz2 rfl (by decide) _ c _ rfl T5.r3 ⟨_, 0, none⟩ 1 1 [.int .i64 nz] rfl rfl N5_2.at (by intro y hy; simp at hy; subst hy; rfl) (by unfold maxLen; omega) (by omega) T5.lo ?_
                intro t' W6 hown hg hnew
                have T6 := T5.app3 hown hg hnew
                refine hK'.out _ _ (fun _ => T6.c9) ?_
                clear hK' K' hown hg hnew T5 N5_2
                try simp only [Act.put, List.setIfInBounds_toArray, List.set_cons_zero, List.set_cons_succ]
                obtain ⟨fa1, fc1, rfl⟩ := ownsRow_form9 T6.r1
                obtain ⟨fa2, fc2, rfl⟩ := ownsRow_form9 T6.r2
                obtain ⟨fa3, fc3, rfl⟩ := ownsRow_form9 T6.r3
                obtain ⟨⟨s1, s2⟩, s3, s4⟩ := T6.cs
                obtain ⟨s5, _, _⟩ := T6.c9
                have s6 := T6.f9 0
                have Hfin := hid (T6.set (by omega))
                clear T6
                refine wpAnyK_ready (rs := [16]) (by kernel_rfl) (by simp) ?_
                refine AllReadyK.cons (o := { dst := none, op := _, type := _, pos := _, after := _, guard := _ }) rfl (fun K' hK' => ?_) AllReadyK.nil
                go_simp
                refine hK'.out _ _ (fun h => Bool.noConfusion (Eq.trans (show true = _ from by kernel_rfl) h)) ?_
                clear hK' K'
                try simp only [Act.put, List.setIfInBounds_toArray, List.set_cons_zero, List.set_cons_succ]
                refine wpAnyK_take0 (i := 17) (oi := { dst := some 57, op := _, type := _, pos := _, after := _, guard := _ }) (v := .pointer (some ⟨w.heap.size + 1, 1, none⟩)) rfl (by kernel_rfl) (by kernel_rfl) (by kernel_rfl) (by decide) (fun _ _ _ h => h) (Or.inl ⟨by kernel_rfl, ?_⟩) (fun h => Bool.noConfusion (Eq.trans (show true = _ from by kernel_rfl) h)) ?_
                · intro w hSw; go_simp
                try simp only [Act.put, List.setIfInBounds_toArray, List.set_cons_zero, List.set_cons_succ]
                refine wpAnyK_ready (rs := [18]) (by kernel_rfl) (by simp) ?_
                refine AllReadyK.cons (o := { dst := none, op := _, type := _, pos := _, after := _, guard := _ }) rfl (fun K' hK' => ?_) AllReadyK.nil
                go_simp
                refine hK'.out _ _ (fun h => Bool.noConfusion (Eq.trans (show true = _ from by kernel_rfl) h)) ?_
                clear hK' K'
                try simp only [Act.put, List.setIfInBounds_toArray, List.set_cons_zero, List.set_cons_succ]
                refine wpAnyK_take0 (i := 19) (oi := { dst := some 58, op := _, type := _, pos := _, after := _, guard := _ }) (v := .pointer (some ⟨w.heap.size + 1, 2, none⟩)) rfl (by kernel_rfl) (by kernel_rfl) (by kernel_rfl) (by decide) (fun _ _ _ h => h) (Or.inl ⟨by kernel_rfl, ?_⟩) (fun h => Bool.noConfusion (Eq.trans (show true = _ from by kernel_rfl) h)) ?_
                · intro w hSw; go_simp
                try simp only [Act.put, List.setIfInBounds_toArray, List.set_cons_zero, List.set_cons_succ]
                refine wpAnyK_ready (rs := [20]) (by kernel_rfl) (by simp) ?_
                refine AllReadyK.cons (o := { dst := none, op := _, type := _, pos := _, after := _, guard := _ }) rfl (fun K' hK' => ?_) AllReadyK.nil
                go_simp
                refine hK'.out _ _ (fun h => Bool.noConfusion (Eq.trans (show true = _ from by kernel_rfl) h)) ?_
                clear hK' K'
                try simp only [Act.put, List.setIfInBounds_toArray, List.set_cons_zero, List.set_cons_succ]
                refine wpAnyK_done (by kernel_rfl) ?_ _
                go_wp2
                go_roundw
                case rel => exact ⟨c + 1, _, _, _, by omega, by rw [Hnv.out], by rw [Hnt.out], by go_num, by rw [Hst1.out, Hst2.out, Hst3.out]; exact Hfin.out⟩
                case measure => simp [intOf]; omega
              · go_simp
                have T7 := T3.alloc (.cells #[.int .i64 nz] 3)
                have N7_2 := News.new T3 nz
                have N7_1 := N3_1.alloc (.cells #[.int .i64 nz] 3)
                refine hK'.out _ _ (fun _ => T7.c9) ?_
                clear hK' K' T3 N3_1
                try simp only [Act.put, List.setIfInBounds_toArray, List.set_cons_zero, List.set_cons_succ]
                generalize W3.alloc (.cells #[.int .i64 nz] 3) = W7 at *
                generalize W3.heap.size = b7 at *
                refine wpAnyK_ready (rs := [9]) (by kernel_rfl) (by simp) ?_
                refine (AllReadyK.cons (o := { dst := some 50, op := _, type := _, pos := _, after := _, guard := _ }) rfl (fun K' hK' => ?_) AllReadyK.nil)
                refine step_append_own2 (by kernel_rfl) _ _ 24 rfl (w.heap.size + 2) 3 i0 (.int .i64 0) 1 8 uslice hi0 hz0 hz1 hz2 rfl (by decide) _ c _ rfl T7.r2 ⟨_, 0, none⟩ 1 1 [.int .i64 nt] rfl rfl N7_1.at (by intro y hy; simp at hy; subst hy; rfl) (by unfold maxLen; omega) (by omega) T7.lo ?_
                intro u' W8 hown hg hnew
                have T8 := T7.app2 hown hg hnew
                have N8_2 := N7_2.app2 hg hnew
                refine hK'.out _ _ (fun _ => T8.c9) ?_
                clear hK' K' hown hg hnew T7 N7_1 N7_2
                try simp only [Act.put, List.setIfInBounds_toArray, List.set_cons_zero, List.set_cons_succ]
                refine wpAnyK_ready (rs := [14]) (by kernel_rfl) (by simp) ?_
                refine (AllReadyK.cons (o := { dst := some 55, op := _, type := _, pos := _, after := _, guard := _ }) rfl (fun K' hK' => ?_) AllReadyK.nil)
                refine step_append_own2 (by kernel_rfl) _ _ 24 rfl (w.heap.size + 2) 3 i0 (.int .i64 0) 1 8 uslice hi0 hz0 hz1 hz2 rfl (by decide) _ c _ rfl T8.r3 ⟨_, 0, none⟩ 1 1 [.int .i64 nz] rfl rfl N8_2.at (by intro y hy; simp at hy; subst hy; rfl) (by unfold maxLen; omega) (by omega) T8.lo ?_
                intro t' W9 hown hg hnew
                have T9 := T8.app3 hown hg hnew
                refine hK'.out _ _ (fun _ => T9.c9) ?_
                clear hK' K' hown hg hnew T8 N8_2
                try simp only [Act.put, List.setIfInBounds_toArray, List.set_cons_zero, List.set_cons_succ]
                obtain ⟨fa1, fc1, rfl⟩ := ownsRow_form9 T9.r1
                obtain ⟨fa2, fc2, rfl⟩ := ownsRow_form9 T9.r2
                obtain ⟨fa3, fc3, rfl⟩ := ownsRow_form9 T9.r3
                obtain ⟨⟨s1, s2⟩, s3, s4⟩ := T9.cs
                obtain ⟨s5, _, _⟩ := T9.c9
                have s6 := T9.f9 0
                have Hfin := hid (T9.set (by omega))
                clear T9
                refine wpAnyK_ready (rs := [16]) (by kernel_rfl) (by simp) ?_
                refine AllReadyK.cons (o := { dst := none, op := _, type := _, pos := _, after := _, guard := _ }) rfl (fun K' hK' => ?_) AllReadyK.nil
                go_simp
                refine hK'.out _ _ (fun h => Bool.noConfusion (Eq.trans (show true = _ from by kernel_rfl) h)) ?_
                clear hK' K'
                try simp only [Act.put, List.setIfInBounds_toArray, List.set_cons_zero, List.set_cons_succ]
                refine wpAnyK_take0 (i := 17) (oi := { dst := some 57, op := _, type := _, pos := _, after := _, guard := _ }) (v := .pointer (some ⟨w.heap.size + 1, 1, none⟩)) rfl (by kernel_rfl) (by kernel_rfl) (by kernel_rfl) (by decide) (fun _ _ _ h => h) (Or.inl ⟨by kernel_rfl, ?_⟩) (fun h => Bool.noConfusion (Eq.trans (show true = _ from by kernel_rfl) h)) ?_
                · intro w hSw; go_simp
                try simp only [Act.put, List.setIfInBounds_toArray, List.set_cons_zero, List.set_cons_succ]
                refine wpAnyK_ready (rs := [18]) (by kernel_rfl) (by simp) ?_
                refine AllReadyK.cons (o := { dst := none, op := _, type := _, pos := _, after := _, guard := _ }) rfl (fun K' hK' => ?_) AllReadyK.nil
                go_simp
                refine hK'.out _ _ (fun h => Bool.noConfusion (Eq.trans (show true = _ from by kernel_rfl) h)) ?_
                clear hK' K'
                try simp only [Act.put, List.setIfInBounds_toArray, List.set_cons_zero, List.set_cons_succ]
                refine wpAnyK_take0 (i := 19) (oi := { dst := some 58, op := _, type := _, pos := _, after := _, guard := _ }) (v := .pointer (some ⟨w.heap.size + 1, 2, none⟩)) rfl (by kernel_rfl) (by kernel_rfl) (by kernel_rfl) (by decide) (fun _ _ _ h => h) (Or.inl ⟨by kernel_rfl, ?_⟩) (fun h => Bool.noConfusion (Eq.trans (show true = _ from by kernel_rfl) h)) ?_
                · intro w hSw; go_simp
                try simp only [Act.put, List.setIfInBounds_toArray, List.set_cons_zero, List.set_cons_succ]
                refine wpAnyK_ready (rs := [20]) (by kernel_rfl) (by simp) ?_
                refine AllReadyK.cons (o := { dst := none, op := _, type := _, pos := _, after := _, guard := _ }) rfl (fun K' hK' => ?_) AllReadyK.nil
                go_simp
                refine hK'.out _ _ (fun h => Bool.noConfusion (Eq.trans (show true = _ from by kernel_rfl) h)) ?_
                clear hK' K'
                try simp only [Act.put, List.setIfInBounds_toArray, List.set_cons_zero, List.set_cons_succ]
                refine wpAnyK_done (by kernel_rfl) ?_ _
                go_wp2
                go_roundw
                case rel => exact ⟨c + 1, _, _, _, by omega, by rw [Hnv.out], by rw [Hnt.out], by go_num, by rw [Hst1.out, Hst2.out, Hst3.out]; exact Hfin.out⟩
                case measure => simp [intOf]; omega
            · go_simp
              have T10 := T2.alloc (.cells #[.int .i64 nz] 3)
              have N10_2 := News.new T2 nz
              refine hK'.out _ _ (fun _ => T10.c9) ?_
              clear hK' K' T2 
              try simp only [Act.put, List.setIfInBounds_toArray, List.set_cons_zero, List.set_cons_succ]
              generalize W2.alloc (.cells #[.int .i64 nz] 3) = W10 at *
              generalize W2.heap.size = b10 at *
              refine wpAnyK_ready (rs := [8]) (by kernel_rfl) (by simp) ?_
              refine (AllReadyK.cons (o := { dst := some 49, op := _, type := _, pos := _, after := _, guard := _ }) rfl (fun K' hK' => ?_) AllReadyK.nil)
              go_simp
              have T11 := T10.alloc (.cells #[.int .i64 nt] 3)
              have N11_1 := News.new T10 nt
              have N11_2 := N10_2.alloc (.cells #[.int .i64 nt] 3)
              refine hK'.out _ _ (fun _ => T11.c9) ?_
              clear hK' K' T10 N10_2
              try simp only [Act.put, List.setIfInBounds_toArray, List.set_cons_zero, List.set_cons_succ]
              generalize W10.alloc (.cells #[.int .i64 nt] 3) = W11 at *
              generalize W10.heap.size = b11 at *
              refine wpAnyK_ready (rs := [9]) (by kernel_rfl) (by simp) ?_
              refine (AllReadyK.cons (o := { dst := some 50, op := _, type := _, pos := _, after := _, guard := _ }) rfl (fun K' hK' => ?_) AllReadyK.nil)
              refine step_append_own2 (by kernel_rfl) _ _ 24 rfl (w.heap.size + 2) 3 i0 (.int .i64 0) 1 8 uslice hi0 hz0 hz1 hz2 rfl (by decide) _ c _ rfl T11.r2 ⟨_, 0, none⟩ 1 1 [.int .i64 nt] rfl rfl N11_1.at (by intro y hy; simp at hy; subst hy; rfl) (by unfold maxLen; omega) (by omega) T11.lo ?_
              intro u' W12 hown hg hnew
              have T12 := T11.app2 hown hg hnew
              have N12_2 := N11_2.app2 hg hnew
              refine hK'.out _ _ (fun _ => T12.c9) ?_
              clear hK' K' hown hg hnew T11 N11_2 N11_1
              try simp only [Act.put, List.setIfInBounds_toArray, List.set_cons_zero, List.set_cons_succ]
              refine wpAnyK_ready (rs := [14]) (by kernel_rfl) (by simp) ?_
              refine (AllReadyK.cons (o := { dst := some 55, op := _, type := _, pos := _, after := _, guard := _ }) rfl (fun K' hK' => ?_) AllReadyK.nil)
              refine step_append_own2 (by kernel_rfl) _ _ 24 rfl (w.heap.size + 2) 3 i0 (.int .i64 0) 1 8 uslice hi0 hz0 hz1 hz2 rfl (by decide) _ c _ rfl T12.r3 ⟨_, 0, none⟩ 1 1 [.int .i64 nz] rfl rfl N12_2.at (by intro y hy; simp at hy; subst hy; rfl) (by unfold maxLen; omega) (by omega) T12.lo ?_
              intro t' W13 hown hg hnew
              have T13 := T12.app3 hown hg hnew
              refine hK'.out _ _ (fun _ => T13.c9) ?_
              clear hK' K' hown hg hnew T12 N12_2
              try simp only [Act.put, List.setIfInBounds_toArray, List.set_cons_zero, List.set_cons_succ]
              obtain ⟨fa1, fc1, rfl⟩ := ownsRow_form9 T13.r1
              obtain ⟨fa2, fc2, rfl⟩ := ownsRow_form9 T13.r2
              obtain ⟨fa3, fc3, rfl⟩ := ownsRow_form9 T13.r3
              obtain ⟨⟨s1, s2⟩, s3, s4⟩ := T13.cs
              obtain ⟨s5, _, _⟩ := T13.c9
              have s6 := T13.f9 0
              have Hfin := hid (T13.set (by omega))
              clear T13
              refine wpAnyK_ready (rs := [16]) (by kernel_rfl) (by simp) ?_
              refine AllReadyK.cons (o := { dst := none, op := _, type := _, pos := _, after := _, guard := _ }) rfl (fun K' hK' => ?_) AllReadyK.nil
              go_simp
              refine hK'.out _ _ (fun h => Bool.noConfusion (Eq.trans (show true = _ from by kernel_rfl) h)) ?_
              clear hK' K'
              try simp only [Act.put, List.setIfInBounds_toArray, List.set_cons_zero, List.set_cons_succ]
              refine wpAnyK_take0 (i := 17) (oi := { dst := some 57, op := _, type := _, pos := _, after := _, guard := _ }) (v := .pointer (some ⟨w.heap.size + 1, 1, none⟩)) rfl (by kernel_rfl) (by kernel_rfl) (by kernel_rfl) (by decide) (fun _ _ _ h => h) (Or.inl ⟨by kernel_rfl, ?_⟩) (fun h => Bool.noConfusion (Eq.trans (show true = _ from by kernel_rfl) h)) ?_
              · intro w hSw; go_simp
              try simp only [Act.put, List.setIfInBounds_toArray, List.set_cons_zero, List.set_cons_succ]
              refine wpAnyK_ready (rs := [18]) (by kernel_rfl) (by simp) ?_
              refine AllReadyK.cons (o := { dst := none, op := _, type := _, pos := _, after := _, guard := _ }) rfl (fun K' hK' => ?_) AllReadyK.nil
              go_simp
              refine hK'.out _ _ (fun h => Bool.noConfusion (Eq.trans (show true = _ from by kernel_rfl) h)) ?_
              clear hK' K'
              try simp only [Act.put, List.setIfInBounds_toArray, List.set_cons_zero, List.set_cons_succ]
              refine wpAnyK_take0 (i := 19) (oi := { dst := some 58, op := _, type := _, pos := _, after := _, guard := _ }) (v := .pointer (some ⟨w.heap.size + 1, 2, none⟩)) rfl (by kernel_rfl) (by kernel_rfl) (by kernel_rfl) (by decide) (fun _ _ _ h => h) (Or.inl ⟨by kernel_rfl, ?_⟩) (fun h => Bool.noConfusion (Eq.trans (show true = _ from by kernel_rfl) h)) ?_
              · intro w hSw; go_simp
              try simp only [Act.put, List.setIfInBounds_toArray, List.set_cons_zero, List.set_cons_succ]
              refine wpAnyK_ready (rs := [20]) (by kernel_rfl) (by simp) ?_
              refine AllReadyK.cons (o := { dst := none, op := _, type := _, pos := _, after := _, guard := _ }) rfl (fun K' hK' => ?_) AllReadyK.nil
              go_simp
              refine hK'.out _ _ (fun h => Bool.noConfusion (Eq.trans (show true = _ from by kernel_rfl) h)) ?_
              clear hK' K'
              try simp only [Act.put, List.setIfInBounds_toArray, List.set_cons_zero, List.set_cons_succ]
              refine wpAnyK_done (by kernel_rfl) ?_ _
              go_wp2
              go_roundw
              case rel => exact ⟨c + 1, _, _, _, by omega, by rw [Hnv.out], by rw [Hnt.out], by go_num, by rw [Hst1.out, Hst2.out, Hst3.out]; exact Hfin.out⟩
              case measure => simp [intOf]; omega
          · go_simp
            have T14 := T1.alloc (.cells #[.int .i64 nt] 3)
            have N14_1 := News.new T1 nt
            have N14_0 := N1_0.alloc (.cells #[.int .i64 nt] 3)
            refine hK'.out _ _ (fun _ => T14.c9) ?_
            clear hK' K' T1 N1_0
            try simp only [Act.put, List.setIfInBounds_toArray, List.set_cons_zero, List.set_cons_succ]
            generalize W1.alloc (.cells #[.int .i64 nt] 3) = W14 at *
            generalize W1.heap.size = b14 at *
            refine wpAnyK_ready (rs := [4, 13]) (by kernel_rfl) (by simp) ?_
            refine (AllReadyK.cons (o := { dst := some 45, op := _, type := _, pos := _, after := _, guard := _ }) rfl (fun K' hK' => ?_) (AllReadyK.cons (o := { dst := some 54, op := _, type := _, pos := _, after := _, guard := _ }) rfl (fun K' hK' => ?_) AllReadyK.nil))
            · refine step_append_own2 (by kernel_rfl) _ _ 24 rfl (w.heap.size + 2) 3 i0 (.int .i64 0) 1 8 uslice hi0 hz0 hz1 hz2 rfl (by decide) _ c _ rfl T14.r1 ⟨_, 0, none⟩ 1 1 [.int .i64 bt] rfl rfl N14_0.at (by intro y hy; simp at hy; subst hy; rfl) (by unfold maxLen; omega) (by omega) T14.lo ?_
              intro v' W15 hown hg hnew
              have T15 := T14.app1 hown hg hnew
              have N15_1 := N14_1.app1 hg hnew
              refine hK'.out _ _ (fun _ => T15.c9) ?_
              clear hK' K' hown hg hnew T14 N14_0 N14_1
              try simp only [Act.put, List.setIfInBounds_toArray, List.set_cons_zero, List.set_cons_succ]
              refine wpAnyK_take0 (i := 15) (oi := { dst := some 56, op := _, type := _, pos := _, after := _, guard := _ }) (v := .pointer (some ⟨w.heap.size + 1, 0, none⟩)) rfl (by kernel_rfl) (by kernel_rfl) (by kernel_rfl) (by decide) (fun _ _ _ h => h) (Or.inl ⟨by kernel_rfl, ?_⟩) (fun _ => T15.c9) ?_
              · intro w hSw; go_simp
              try simp only [Act.put, List.setIfInBounds_toArray, List.set_cons_zero, List.set_cons_succ]
              refine wpAnyK_ready (rs := [9, 13]) (by kernel_rfl) (by simp) ?_
              refine (AllReadyK.cons (o := { dst := some 50, op := _, type := _, pos := _, after := _, guard := _ }) rfl (fun K' hK' => ?_) (AllReadyK.cons (o := { dst := some 54, op := _, type := _, pos := _, after := _, guard := _ }) rfl (fun K' hK' => ?_) AllReadyK.nil))
              · refine step_append_own2 (by kernel_rfl) _ _ 24 rfl (w.heap.size + 2) 3 i0 (.int .i64 0) 1 8 uslice hi0 hz0 hz1 hz2 rfl (by decide) _ c _ rfl T15.r2 ⟨_, 0, none⟩ 1 1 [.int .i64 nt] rfl rfl N15_1.at (by intro y hy; simp at hy; subst hy; rfl) (by unfold maxLen; omega) (by omega) T15.lo ?_
                intro u' W16 hown hg hnew
                have T16 := T15.app2 hown hg hnew
                refine hK'.out _ _ (fun _ => T16.c9) ?_
                clear hK' K' hown hg hnew T15 N15_1
                try simp only [Act.put, List.setIfInBounds_toArray, List.set_cons_zero, List.set_cons_succ]
                refine wpAnyK_ready (rs := [13]) (by kernel_rfl) (by simp) ?_
                refine (AllReadyK.cons (o := { dst := some 54, op := _, type := _, pos := _, after := _, guard := _ }) rfl (fun K' hK' => ?_) AllReadyK.nil)
                go_simp
                have T17 := T16.alloc (.cells #[.int .i64 nz] 3)
                have N17_2 := News.new T16 nz
                refine hK'.out _ _ (fun _ => T17.c9) ?_
                clear hK' K' T16 
                try simp only [Act.put, List.setIfInBounds_toArray, List.set_cons_zero, List.set_cons_succ]
                generalize W16.alloc (.cells #[.int .i64 nz] 3) = W17 at *
                generalize W16.heap.size = b17 at *
                refine wpAnyK_ready (rs := [14]) (by kernel_rfl) (by simp) ?_
                refine (AllReadyK.cons (o := { dst := some 55, op := _, type := _, pos := _, after := _, guard := _ }) rfl (fun K' hK' => ?_) AllReadyK.nil)
                refine step_append_own2 (by kernel_rfl) _ _ 24 rfl (w.heap.size + 2) 3 i0 (.int .i64 0) 1 8 uslice hi0 hz0 hz1 hz2 rfl (by decide) _ c _ rfl T17.r3 ⟨_, 0, none⟩ 1 1 [.int .i64 nz] rfl rfl N17_2.at (by intro y hy; simp at hy; subst hy; rfl) (by unfold maxLen; omega) (by omega) T17.lo ?_
                intro t' W18 hown hg hnew
                have T18 := T17.app3 hown hg hnew
                refine hK'.out _ _ (fun _ => T18.c9) ?_
                clear hK' K' hown hg hnew T17 N17_2
                try simp only [Act.put, List.setIfInBounds_toArray, List.set_cons_zero, List.set_cons_succ]
                obtain ⟨fa1, fc1, rfl⟩ := ownsRow_form9 T18.r1
                obtain ⟨fa2, fc2, rfl⟩ := ownsRow_form9 T18.r2
                obtain ⟨fa3, fc3, rfl⟩ := ownsRow_form9 T18.r3
                obtain ⟨⟨s1, s2⟩, s3, s4⟩ := T18.cs
                obtain ⟨s5, _, _⟩ := T18.c9
                have s6 := T18.f9 0
                have Hfin := hid (T18.set (by omega))
                clear T18
                refine wpAnyK_ready (rs := [16]) (by kernel_rfl) (by simp) ?_
                refine AllReadyK.cons (o := { dst := none, op := _, type := _, pos := _, after := _, guard := _ }) rfl (fun K' hK' => ?_) AllReadyK.nil
                go_simp
                refine hK'.out _ _ (fun h => Bool.noConfusion (Eq.trans (show true = _ from by kernel_rfl) h)) ?_
                clear hK' K'
                try simp only [Act.put, List.setIfInBounds_toArray, List.set_cons_zero, List.set_cons_succ]
                refine wpAnyK_take0 (i := 17) (oi := { dst := some 57, op := _, type := _, pos := _, after := _, guard := _ }) (v := .pointer (some ⟨w.heap.size + 1, 1, none⟩)) rfl (by kernel_rfl) (by kernel_rfl) (by kernel_rfl) (by decide) (fun _ _ _ h => h) (Or.inl ⟨by kernel_rfl, ?_⟩) (fun h => Bool.noConfusion (Eq.trans (show true = _ from by kernel_rfl) h)) ?_
                · intro w hSw; go_simp
                try simp only [Act.put, List.setIfInBounds_toArray, List.set_cons_zero, List.set_cons_succ]
                refine wpAnyK_ready (rs := [18]) (by kernel_rfl) (by simp) ?_
                refine AllReadyK.cons (o := { dst := none, op := _, type := _, pos := _, after := _, guard := _ }) rfl (fun K' hK' => ?_) AllReadyK.nil
                go_simp
                refine hK'.out _ _ (fun h => Bool.noConfusion (Eq.trans (show true = _ from by kernel_rfl) h)) ?_
                clear hK' K'
                try simp only [Act.put, List.setIfInBounds_toArray, List.set_cons_zero, List.set_cons_succ]
                refine wpAnyK_take0 (i := 19) (oi := { dst := some 58, op := _, type := _, pos := _, after := _, guard := _ }) (v := .pointer (some ⟨w.heap.size + 1, 2, none⟩)) rfl (by kernel_rfl) (by kernel_rfl) (by kernel_rfl) (by decide) (fun _ _ _ h => h) (Or.inl ⟨by kernel_rfl, ?_⟩) (fun h => Bool.noConfusion (Eq.trans (show true = _ from by kernel_rfl) h)) ?_
                · intro w hSw; go_simp
                try simp only [Act.put, List.setIfInBounds_toArray, List.set_cons_zero, List.set_cons_succ]
                refine wpAnyK_ready (rs := [20]) (by kernel_rfl) (by simp) ?_
                refine AllReadyK.cons (o := { dst := none, op := _, type := _, pos := _, after := _, guard := _ }) rfl (fun K' hK' => ?_) AllReadyK.nil
                go_simp
                refine hK'.out _ _ (fun h => Bool.noConfusion (Eq.trans (show true = _ from by kernel_rfl) h)) ?_
                clear hK' K'
                try simp only [Act.put, List.setIfInBounds_toArray, List.set_cons_zero, List.set_cons_succ]
                refine wpAnyK_done (by kernel_rfl) ?_ _
                go_wp2
                go_roundw
                case rel => exact ⟨c + 1, _, _, _, by omega, by rw [Hnv.out], by rw [Hnt.out], by go_num, by rw [Hst1.out, Hst2.out, Hst3.out]; exact Hfin.out⟩
                case measure => simp [intOf]; omega
              · go_simp
                have T19 := T15.alloc (.cells #[.int .i64 nz] 3)
                have N19_2 := News.new T15 nz
                have N19_1 := N15_1.alloc (.cells #[.int .i64 nz] 3)
                refine hK'.out _ _ (fun _ => T19.c9) ?_
                clear hK' K' T15 N15_1
                try simp only [Act.put, List.setIfInBounds_toArray, List.set_cons_zero, List.set_cons_succ]
                generalize W15.alloc (.cells #[.int .i64 nz] 3) = W19 at *
                generalize W15.heap.size = b19 at *
                refine wpAnyK_ready (rs := [9]) (by kernel_rfl) (by simp) ?_
                refine (AllReadyK.cons (o := { dst := some 50, op := _, type := _, pos := _, after := _, guard := _ }) rfl (fun K' hK' => ?_) AllReadyK.nil)
                refine step_append_own2 (by kernel_rfl) _ _ 24 rfl (w.heap.size + 2) 3 i0 (.int .i64 0) 1 8 uslice hi0 hz0 hz1 hz2 rfl (by decide) _ c _ rfl T19.r2 ⟨_, 0, none⟩ 1 1 [.int .i64 nt] rfl rfl N19_1.at (by intro y hy; simp at hy; subst hy; rfl) (by unfold maxLen; omega) (by omega) T19.lo ?_
                intro u' W20 hown hg hnew
                have T20 := T19.app2 hown hg hnew
                have N20_2 := N19_2.app2 hg hnew
                refine hK'.out _ _ (fun _ => T20.c9) ?_
                clear hK' K' hown hg hnew T19 N19_1 N19_2
                try simp only [Act.put, List.setIfInBounds_toArray, List.set_cons_zero, List.set_cons_succ]
                refine wpAnyK_ready (rs := [14]) (by kernel_rfl) (by simp) ?_
                refine (AllReadyK.cons (o := { dst := some 55, op := _, type := _, pos := _, after := _, guard := _ }) rfl (fun K' hK' => ?_) AllReadyK.nil)
                refine step_append_own2 (by kernel_rfl) _ _ 24 rfl (w.heap.size + 2) 3 i0 (.int .i64 0) 1 8 uslice hi0 hz0 hz1 hz2 rfl (by decide) _ c _ rfl T20.r3 ⟨_, 0, none⟩ 1 1 [.int .i64 nz] rfl rfl N20_2.at (by intro y hy; simp at hy; subst hy; rfl) (by unfold maxLen; omega) (by omega) T20.lo ?_
                intro t' W21 hown hg hnew
                have T21 := T20.app3 hown hg hnew
                refine hK'.out _ _ (fun _ => T21.c9) ?_
                clear hK' K' hown hg hnew T20 N20_2
                try simp only [Act.put, List.setIfInBounds_toArray, List.set_cons_zero, List.set_cons_succ]
                obtain ⟨fa1, fc1, rfl⟩ := ownsRow_form9 T21.r1
                obtain ⟨fa2, fc2, rfl⟩ := ownsRow_form9 T21.r2
                obtain ⟨fa3, fc3, rfl⟩ := ownsRow_form9 T21.r3
                obtain ⟨⟨s1, s2⟩, s3, s4⟩ := T21.cs
                obtain ⟨s5, _, _⟩ := T21.c9
                have s6 := T21.f9 0
                have Hfin := hid (T21.set (by omega))
                clear T21
                refine wpAnyK_ready (rs := [16]) (by kernel_rfl) (by simp) ?_
                refine AllReadyK.cons (o := { dst := none, op := _, type := _, pos := _, after := _, guard := _ }) rfl (fun K' hK' => ?_) AllReadyK.nil
                go_simp
                refine hK'.out _ _ (fun h => Bool.noConfusion (Eq.trans (show true = _ from by kernel_rfl) h)) ?_
                clear hK' K'
                try simp only [Act.put, List.setIfInBounds_toArray, List.set_cons_zero, List.set_cons_succ]
                refine wpAnyK_take0 (i := 17) (oi := { dst := some 57, op := _, type := _, pos := _, after := _, guard := _ }) (v := .pointer (some ⟨w.heap.size + 1, 1, none⟩)) rfl (by kernel_rfl) (by kernel_rfl) (by kernel_rfl) (by decide) (fun _ _ _ h => h) (Or.inl ⟨by kernel_rfl, ?_⟩) (fun h => Bool.noConfusion (Eq.trans (show true = _ from by kernel_rfl) h)) ?_
                · intro w hSw; go_simp
                try simp only [Act.put, List.setIfInBounds_toArray, List.set_cons_zero, List.set_cons_succ]
                refine wpAnyK_ready (rs := [18]) (by kernel_rfl) (by simp) ?_
                refine AllReadyK.cons (o := { dst := none, op := _, type := _, pos := _, after := _, guard := _ }) rfl (fun K' hK' => ?_) AllReadyK.nil
                go_simp
                refine hK'.out _ _ (fun h => Bool.noConfusion (Eq.trans (show true = _ from by kernel_rfl) h)) ?_
                clear hK' K'
                try simp only [Act.put, List.setIfInBounds_toArray, List.set_cons_zero, List.set_cons_succ]
                refine wpAnyK_take0 (i := 19) (oi := { dst := some 58, op := _, type := _, pos := _, after := _, guard := _ }) (v := .pointer (some ⟨w.heap.size + 1, 2, none⟩)) rfl (by kernel_rfl) (by kernel_rfl) (by kernel_rfl) (by decide) (fun _ _ _ h => h) (Or.inl ⟨by kernel_rfl, ?_⟩) (fun h => Bool.noConfusion (Eq.trans (show true = _ from by kernel_rfl) h)) ?_
                · intro w hSw; go_simp
                try simp only [Act.put, List.setIfInBounds_toArray, List.set_cons_zero, List.set_cons_succ]
                refine wpAnyK_ready (rs := [20]) (by kernel_rfl) (by simp) ?_
                refine AllReadyK.cons (o := { dst := none, op := _, type := _, pos := _, after := _, guard := _ }) rfl (fun K' hK' => ?_) AllReadyK.nil
                go_simp
                refine hK'.out _ _ (fun h => Bool.noConfusion (Eq.trans (show true = _ from by kernel_rfl) h)) ?_
                clear hK' K'
                try simp only [Act.put, List.setIfInBounds_toArray, List.set_cons_zero, List.set_cons_succ]
                refine wpAnyK_done (by kernel_rfl) ?_ _
                go_wp2
                go_roundw
                case rel => exact ⟨c + 1, _, _, _, by omega, by rw [Hnv.out], by rw [Hnt.out], by go_num, by rw [Hst1.out, Hst2.out, Hst3.out]; exact Hfin.out⟩
                case measure => simp [intOf]; omega
            · go_simp
              have T22 := T14.alloc (.cells #[.int .i64 nz] 3)
              have N22_2 := News.new T14 nz
              have N22_0 := N14_0.alloc (.cells #[.int .i64 nz] 3)
              have N22_1 := N14_1.alloc (.cells #[.int .i64 nz] 3)
              refine hK'.out _ _ (fun _ => T22.c9) ?_
              clear hK' K' T14 N14_0 N14_1
              try simp only [Act.put, List.setIfInBounds_toArray, List.set_cons_zero, List.set_cons_succ]
              generalize W14.alloc (.cells #[.int .i64 nz] 3) = W22 at *
              generalize W14.heap.size = b22 at *
              refine wpAnyK_ready (rs := [4]) (by kernel_rfl) (by simp) ?_
              refine (AllReadyK.cons (o := { dst := some 45, op := _, type := _, pos := _, after := _, guard := _ }) rfl (fun K' hK' => ?_) AllReadyK.nil)
              refine step_append_own2 (by kernel_rfl) _ _ 24 rfl (w.heap.size + 2) 3 i0 (.int .i64 0) 1 8 uslice hi0 hz0 hz1 hz2 rfl (by decide) _ c _ rfl T22.r1 ⟨_, 0, none⟩ 1 1 [.int .i64 bt] rfl rfl N22_0.at (by intro y hy; simp at hy; subst hy; rfl) (by unfold maxLen; omega) (by omega) T22.lo ?_
              intro v' W23 hown hg hnew
              have T23 := T22.app1 hown hg hnew
              have N23_1 := N22_1.app1 hg hnew
              have N23_2 := N22_2.app1 hg hnew
              refine hK'.out _ _ (fun _ => T23.c9) ?_
              clear hK' K' hown hg hnew T22 N22_0 N22_1 N22_2
              try simp only [Act.put, List.setIfInBounds_toArray, List.set_cons_zero, List.set_cons_succ]
              refine wpAnyK_take0 (i := 15) (oi := { dst := some 56, op := _, type := _, pos := _, after := _, guard := _ }) (v := .pointer (some ⟨w.heap.size + 1, 0, none⟩)) rfl (by kernel_rfl) (by kernel_rfl) (by kernel_rfl) (by decide) (fun _ _ _ h => h) (Or.inl ⟨by kernel_rfl, ?_⟩) (fun _ => T23.c9) ?_
              · intro w hSw; go_simp
              try simp only [Act.put, List.setIfInBounds_toArray, List.set_cons_zero, List.set_cons_succ]
              refine wpAnyK_ready (rs := [9]) (by kernel_rfl) (by simp) ?_
              refine (AllReadyK.cons (o := { dst := some 50, op := _, type := _, pos := _, after := _, guard := _ }) rfl (fun K' hK' => ?_) AllReadyK.nil)
              refine step_append_own2 (by kernel_rfl) _ _ 24 rfl (w.heap.size + 2) 3 i0 (.int .i64 0) 1 8 uslice hi0 hz0 hz1 hz2 rfl (by decide) _ c _ rfl T23.r2 ⟨_, 0, none⟩ 1 1 [.int .i64 nt] rfl rfl N23_1.at (by intro y hy; simp at hy; subst hy; rfl) (by unfold maxLen; omega) (by omega) T23.lo ?_
              intro u' W24 hown hg hnew
              have T24 := T23.app2 hown hg hnew
              have N24_2 := N23_2.app2 hg hnew
              refine hK'.out _ _ (fun _ => T24.c9) ?_
              clear hK' K' hown hg hnew T23 N23_1 N23_2
              try simp only [Act.put, List.setIfInBounds_toArray, List.set_cons_zero, List.set_cons_succ]
              refine wpAnyK_ready (rs := [14]) (by kernel_rfl) (by simp) ?_
              refine (AllReadyK.cons (o := { dst := some 55, op := _, type := _, pos := _, after := _, guard := _ }) rfl (fun K' hK' => ?_) AllReadyK.nil)
              refine step_append_own2 (by kernel_rfl) _ _ 24 rfl (w.heap.size + 2) 3 i0 (.int .i64 0) 1 8 uslice hi0 hz0 hz1 hz2 rfl (by decide) _ c _ rfl T24.r3 ⟨_, 0, none⟩ 1 1 [.int .i64 nz] rfl rfl N24_2.at (by intro y hy; simp at hy; subst hy; rfl) (by unfold maxLen; omega) (by omega) T24.lo ?_
              intro t' W25 hown hg hnew
              have T25 := T24.app3 hown hg hnew
              refine hK'.out _ _ (fun _ => T25.c9) ?_
              clear hK' K' hown hg hnew T24 N24_2
              try simp only [Act.put, List.setIfInBounds_toArray, List.set_cons_zero, List.set_cons_succ]
              obtain ⟨fa1, fc1, rfl⟩ := ownsRow_form9 T25.r1
              obtain ⟨fa2, fc2, rfl⟩ := ownsRow_form9 T25.r2
              obtain ⟨fa3, fc3, rfl⟩ := ownsRow_form9 T25.r3
              obtain ⟨⟨s1, s2⟩, s3, s4⟩ := T25.cs
              obtain ⟨s5, _, _⟩ := T25.c9
              have s6 := T25.f9 0
              have Hfin := hid (T25.set (by omega))
              clear T25
              refine wpAnyK_ready (rs := [16]) (by kernel_rfl) (by simp) ?_
              refine AllReadyK.cons (o := { dst := none, op := _, type := _, pos := _, after := _, guard := _ }) rfl (fun K' hK' => ?_) AllReadyK.nil
              go_simp
              refine hK'.out _ _ (fun h => Bool.noConfusion (Eq.trans (show true = _ from by kernel_rfl) h)) ?_
              clear hK' K'
              try simp only [Act.put, List.setIfInBounds_toArray, List.set_cons_zero, List.set_cons_succ]
              refine wpAnyK_take0 (i := 17) (oi := { dst := some 57, op := _, type := _, pos := _, after := _, guard := _ }) (v := .pointer (some ⟨w.heap.size + 1, 1, none⟩)) rfl (by kernel_rfl) (by kernel_rfl) (by kernel_rfl) (by decide) (fun _ _ _ h => h) (Or.inl ⟨by kernel_rfl, ?_⟩) (fun h => Bool.noConfusion (Eq.trans (show true = _ from by kernel_rfl) h)) ?_
              · intro w hSw; go_simp
              try simp only [Act.put, List.setIfInBounds_toArray, List.set_cons_zero, List.set_cons_succ]
              refine wpAnyK_ready (rs := [18]) (by kernel_rfl) (by simp) ?_
              refine AllReadyK.cons (o := { dst := none, op := _, type := _, pos := _, after := _, guard := _ }) rfl (fun K' hK' => ?_) AllReadyK.nil
              go_simp
              refine hK'.out _ _ (fun h => Bool.noConfusion (Eq.trans (show true = _ from by kernel_rfl) h)) ?_
              clear hK' K'
              try simp only [Act.put, List.setIfInBounds_toArray, List.set_cons_zero, List.set_cons_succ]
              refine wpAnyK_take0 (i := 19) (oi := { dst := some 58, op := _, type := _, pos := _, after := _, guard := _ }) (v := .pointer (some ⟨w.heap.size + 1, 2, none⟩)) rfl (by kernel_rfl) (by kernel_rfl) (by kernel_rfl) (by decide) (fun _ _ _ h => h) (Or.inl ⟨by kernel_rfl, ?_⟩) (fun h => Bool.noConfusion (Eq.trans (show true = _ from by kernel_rfl) h)) ?_
              · intro w hSw; go_simp
              try simp only [Act.put, List.setIfInBounds_toArray, List.set_cons_zero, List.set_cons_succ]
              refine wpAnyK_ready (rs := [20]) (by kernel_rfl) (by simp) ?_
              refine AllReadyK.cons (o := { dst := none, op := _, type := _, pos := _, after := _, guard := _ }) rfl (fun K' hK' => ?_) AllReadyK.nil
              go_simp
              refine hK'.out _ _ (fun h => Bool.noConfusion (Eq.trans (show true = _ from by kernel_rfl) h)) ?_
              clear hK' K'
              try simp only [Act.put, List.setIfInBounds_toArray, List.set_cons_zero, List.set_cons_succ]
              refine wpAnyK_done (by kernel_rfl) ?_ _
              go_wp2
              go_roundw
              case rel => exact ⟨c + 1, _, _, _, by omega, by rw [Hnv.out], by rw [Hnt.out], by go_num, by rw [Hst1.out, Hst2.out, Hst3.out]; exact Hfin.out⟩
              case measure => simp [intOf]; omega
          · go_simp
            have T26 := T1.alloc (.cells #[.int .i64 nz] 3)
            have N26_2 := News.new T1 nz
            have N26_0 := N1_0.alloc (.cells #[.int .i64 nz] 3)
            refine hK'.out _ _ (fun _ => T26.c9) ?_
            clear hK' K' T1 N1_0
            try simp only [Act.put, List.setIfInBounds_toArray, List.set_cons_zero, List.set_cons_succ]
            generalize W1.alloc (.cells #[.int .i64 nz] 3) = W26 at *
            generalize W1.heap.size = b26 at *
            refine wpAnyK_ready (rs := [4, 8]) (by kernel_rfl) (by simp) ?_
            refine (AllReadyK.cons (o := { dst := some 45, op := _, type := _, pos := _, after := _, guard := _ }) rfl (fun K' hK' => ?_) (AllReadyK.cons (o := { dst := some 49, op := _, type := _, pos := _, after := _, guard := _ }) rfl (fun K' hK' => ?_) AllReadyK.nil))
            · refine step_append_own2 (by kernel_rfl) _ _ 24 rfl (w.heap.size + 2) 3 i0 (.int .i64 0) 1 8 uslice hi0 hz0 hz1 hz2 rfl (by decide) _ c _ rfl T26.r1 ⟨_, 0, none⟩ 1 1 [.int .i64 bt] rfl rfl N26_0.at (by intro y hy; simp at hy; subst hy; rfl) (by unfold maxLen; omega) (by omega) T26.lo ?_
              intro v' W27 hown hg hnew
              have T27 := T26.app1 hown hg hnew
              have N27_2 := N26_2.app1 hg hnew
              refine hK'.out _ _ (fun _ => T27.c9) ?_
              clear hK' K' hown hg hnew T26 N26_0 N26_2
              try simp only [Act.put, List.setIfInBounds_toArray, List.set_cons_zero, List.set_cons_succ]
              refine wpAnyK_take0 (i := 15) (oi := { dst := some 56, op := _, type := _, pos := _, after := _, guard := _ }) (v := .pointer (some ⟨w.heap.size + 1, 0, none⟩)) rfl (by kernel_rfl) (by kernel_rfl) (by kernel_rfl) (by decide) (fun _ _ _ h => h) (Or.inl ⟨by kernel_rfl, ?_⟩) (fun _ => T27.c9) ?_
              · intro w hSw; go_simp
              try simp only [Act.put, List.setIfInBounds_toArray, List.set_cons_zero, List.set_cons_succ]
              refine wpAnyK_ready (rs := [8]) (by kernel_rfl) (by simp) ?_
              refine (AllReadyK.cons (o := { dst := some 49, op := _, type := _, pos := _, after := _, guard := _ }) rfl (fun K' hK' => ?_) AllReadyK.nil)
              go_simp
              have T28 := T27.alloc (.cells #[.int .i64 nt] 3)
              have N28_1 := News.new T27 nt
              have N28_2 := N27_2.alloc (.cells #[.int .i64 nt] 3)
              refine hK'.out _ _ (fun _ => T28.c9) ?_
              clear hK' K' T27 N27_2
              try simp only [Act.put, List.setIfInBounds_toArray, List.set_cons_zero, List.set_cons_succ]
              generalize W27.alloc (.cells #[.int .i64 nt] 3) = W28 at *
              generalize W27.heap.size = b28 at *
              refine wpAnyK_ready (rs := [9]) (by kernel_rfl) (by simp) ?_
              refine (AllReadyK.cons (o := { dst := some 50, op := _, type := _, pos := _, after := _, guard := _ }) rfl (fun K' hK' => ?_) AllReadyK.nil)
              refine step_append_own2 (by kernel_rfl) _ _ 24 rfl (w.heap.size + 2) 3 i0 (.int .i64 0) 1 8 uslice hi0 hz0 hz1 hz2 rfl (by decide) _ c _ rfl T28.r2 ⟨_, 0, none⟩ 1 1 [.int .i64 nt] rfl rfl N28_1.at (by intro y hy; simp at hy; subst hy; rfl) (by unfold maxLen; omega) (by omega) T28.lo ?_
              intro u' W29 hown hg hnew
              have T29 := T28.app2 hown hg hnew
              have N29_2 := N28_2.app2 hg hnew
              refine hK'.out _ _ (fun _ => T29.c9) ?_
              clear hK' K' hown hg hnew T28 N28_2 N28_1
              try simp only [Act.put, List.setIfInBounds_toArray, List.set_cons_zero, List.set_cons_succ]
              refine wpAnyK_ready (rs := [14]) (by kernel_rfl) (by simp) ?_
              refine (AllReadyK.cons (o := { dst := some 55, op := _, type := _, pos := _, after := _, guard := _ }) rfl (fun K' hK' => ?_) AllReadyK.nil)
              refine step_append_own2 (by kernel_rfl) _ _ 24 rfl (w.heap.size + 2) 3 i0 (.int .i64 0) 1 8 uslice hi0 hz0 hz1 hz2 rfl (by decide) _ c _ rfl T29.r3 ⟨_, 0, none⟩ 1 1 [.int .i64 nz] rfl rfl N29_2.at (by intro y hy; simp at hy; subst hy; rfl) (by unfold maxLen; omega) (by omega) T29.lo ?_
              intro t' W30 hown hg hnew
              have T30 := T29.app3 hown hg hnew
              refine hK'.out _ _ (fun _ => T30.c9) ?_
              clear hK' K' hown hg hnew T29 N29_2
              try simp only [Act.put, List.setIfInBounds_toArray, List.set_cons_zero, List.set_cons_succ]
              obtain ⟨fa1, fc1, rfl⟩ := ownsRow_form9 T30.r1
              obtain ⟨fa2, fc2, rfl⟩ := ownsRow_form9 T30.r2
              obtain ⟨fa3, fc3, rfl⟩ := ownsRow_form9 T30.r3
              obtain ⟨⟨s1, s2⟩, s3, s4⟩ := T30.cs
              obtain ⟨s5, _, _⟩ := T30.c9
              have s6 := T30.f9 0
              have Hfin := hid (T30.set (by omega))
              clear T30
              refine wpAnyK_ready (rs := [16]) (by kernel_rfl) (by simp) ?_
              refine AllReadyK.cons (o := { dst := none, op := _, type := _, pos := _, after := _, guard := _ }) rfl (fun K' hK' => ?_) AllReadyK.nil
              go_simp
              refine hK'.out _ _ (fun h => Bool.noConfusion (Eq.trans (show true = _ from by kernel_rfl) h)) ?_
              clear hK' K'
              try simp only [Act.put, List.setIfInBounds_toArray, List.set_cons_zero, List.set_cons_succ]
              refine wpAnyK_take0 (i := 17) (oi := { dst := some 57, op := _, type := _, pos := _, after := _, guard := _ }) (v := .pointer (some ⟨w.heap.size + 1, 1, none⟩)) rfl (by kernel_rfl) (by kernel_rfl) (by kernel_rfl) (by decide) (fun _ _ _ h => h) (Or.inl ⟨by kernel_rfl, ?_⟩) (fun h => Bool.noConfusion (Eq.trans (show true = _ from by kernel_rfl) h)) ?_
              · intro w hSw; go_simp
              try simp only [Act.put, List.setIfInBounds_toArray, List.set_cons_zero, List.set_cons_succ]
              refine wpAnyK_ready (rs := [18]) (by kernel_rfl) (by simp) ?_
              refine AllReadyK.cons (o := { dst := none, op := _, type := _, pos := _, after := _, guard := _ }) rfl (fun K' hK' => ?_) AllReadyK.nil
              go_simp
              refine hK'.out _ _ (fun h => Bool.noConfusion (Eq.trans (show true = _ from by kernel_rfl) h)) ?_
              clear hK' K'
              try simp only [Act.put, List.setIfInBounds_toArray, List.set_cons_zero, List.set_cons_succ]
              refine wpAnyK_take0 (i := 19) (oi := { dst := some 58, op := _, type := _, pos := _, after := _, guard := _ }) (v := .pointer (some ⟨w.heap.size + 1, 2, none⟩)) rfl (by kernel_rfl) (by kernel_rfl) (by kernel_rfl) (by decide) (fun _ _ _ h => h) (Or.inl ⟨by kernel_rfl, ?_⟩) (fun h => Bool.noConfusion (Eq.trans (show true = _ from by kernel_rfl) h)) ?_
              · intro w hSw; go_simp
              try simp only [Act.put, List.setIfInBounds_toArray, List.set_cons_zero, List.set_cons_succ]
              refine wpAnyK_ready (rs := [20]) (by kernel_rfl) (by simp) ?_
              refine AllReadyK.cons (o := { dst := none, op := _, type := _, pos := _, after := _, guard := _ }) rfl (fun K' hK' => ?_) AllReadyK.nil
              go_simp
              refine hK'.out _ _ (fun h => Bool.noConfusion (Eq.trans (show true = _ from by kernel_rfl) h)) ?_
              clear hK' K'
              try simp only [Act.put, List.setIfInBounds_toArray, List.set_cons_zero, List.set_cons_succ]
              refine wpAnyK_done (by kernel_rfl) ?_ _
              go_wp2
              go_roundw
              case rel => exact ⟨c + 1, _, _, _, by omega, by rw [Hnv.out], by rw [Hnt.out], by go_num, by rw [Hst1.out, Hst2.out, Hst3.out]; exact Hfin.out⟩
              case measure => simp [intOf]; omega
            · go_simp
              have T31 := T26.alloc (.cells #[.int .i64 nt] 3)
              have N31_1 := News.new T26 nt
              have N31_0 := N26_0.alloc (.cells #[.int .i64 nt] 3)
              have N31_2 := N26_2.alloc (.cells #[.int .i64 nt] 3)
              refine hK'.out _ _ (fun _ => T31.c9) ?_
              clear hK' K' T26 N26_0 N26_2
              try simp only [Act.put, List.setIfInBounds_toArray, List.set_cons_zero, List.set_cons_succ]
              generalize W26.alloc (.cells #[.int .i64 nt] 3) = W31 at *
              generalize W26.heap.size = b31 at *
              refine wpAnyK_ready (rs := [4]) (by kernel_rfl) (by simp) ?_
              refine (AllReadyK.cons (o := { dst := some 45, op := _, type := _, pos := _, after := _, guard := _ }) rfl (fun K' hK' => ?_) AllReadyK.nil)
              refine step_append_own2 (by kernel_rfl) _ _ 24 rfl (w.heap.size + 2) 3 i0 (.int .i64 0) 1 8 uslice hi0 hz0 hz1 hz2 rfl (by decide) _ c _ rfl T31.r1 ⟨_, 0, none⟩ 1 1 [.int .i64 bt] rfl rfl N31_0.at (by intro y hy; simp at hy; subst hy; rfl) (by unfold maxLen; omega) (by omega) T31.lo ?_
              intro v' W32 hown hg hnew
              have T32 := T31.app1 hown hg hnew
              have N32_2 := N31_2.app1 hg hnew
              have N32_1 := N31_1.app1 hg hnew
              refine hK'.out _ _ (fun _ => T32.c9) ?_
              clear hK' K' hown hg hnew T31 N31_0 N31_2 N31_1
              try simp only [Act.put, List.setIfInBounds_toArray, List.set_cons_zero, List.set_cons_succ]
              refine wpAnyK_take0 (i := 15) (oi := { dst := some 56, op := _, type := _, pos := _, after := _, guard := _ }) (v := .pointer (some ⟨w.heap.size + 1, 0, none⟩)) rfl (by kernel_rfl) (by kernel_rfl) (by kernel_rfl) (by decide) (fun _ _ _ h => h) (Or.inl ⟨by kernel_rfl, ?_⟩) (fun _ => T32.c9) ?_
              · intro w hSw; go_simp
              try simp only [Act.put, List.setIfInBounds_toArray, List.set_cons_zero, List.set_cons_succ]
              refine wpAnyK_ready (rs := [9]) (by kernel_rfl) (by simp) ?_
              refine (AllReadyK.cons (o := { dst := some 50, op := _, type := _, pos := _, after := _, guard := _ }) rfl (fun K' hK' => ?_) AllReadyK.nil)
              refine step_append_own2 (by kernel_rfl) _ _ 24 rfl (w.heap.size + 2) 3 i0 (.int .i64 0) 1 8 uslice hi0 hz0 hz1 hz2 rfl (by decide) _ c _ rfl T32.r2 ⟨_, 0, none⟩ 1 1 [.int .i64 nt] rfl rfl N32_1.at (by intro y hy; simp at hy; subst hy; rfl) (by unfold maxLen; omega) (by omega) T32.lo ?_
              intro u' W33 hown hg hnew
              have T33 := T32.app2 hown hg hnew
              have N33_2 := N32_2.app2 hg hnew
              refine hK'.out _ _ (fun _ => T33.c9) ?_
              clear hK' K' hown hg hnew T32 N32_2 N32_1
              try simp only [Act.put, List.setIfInBounds_toArray, List.set_cons_zero, List.set_cons_succ]
              refine wpAnyK_ready (rs := [14]) (by kernel_rfl) (by simp) ?_
              refine (AllReadyK.cons (o := { dst := some 55, op := _, type := _, pos := _, after := _, guard := _ }) rfl (fun K' hK' => ?_) AllReadyK.nil)
              refine step_append_own2 (by kernel_rfl) _ _ 24 rfl (w.heap.size + 2) 3 i0 (.int .i64 0) 1 8 uslice hi0 hz0 hz1 hz2 rfl (by decide) _ c _ rfl T33.r3 ⟨_, 0, none⟩ 1 1 [.int .i64 nz] rfl rfl N33_2.at (by intro y hy; simp at hy; subst hy; rfl) (by unfold maxLen; omega) (by omega) T33.lo ?_
              intro t' W34 hown hg hnew
              have T34 := T33.app3 hown hg hnew
              refine hK'.out _ _ (fun _ => T34.c9) ?_
              clear hK' K' hown hg hnew T33 N33_2
              try simp only [Act.put, List.setIfInBounds_toArray, List.set_cons_zero, List.set_cons_succ]
              obtain ⟨fa1, fc1, rfl⟩ := ownsRow_form9 T34.r1
              obtain ⟨fa2, fc2, rfl⟩ := ownsRow_form9 T34.r2
              obtain ⟨fa3, fc3, rfl⟩ := ownsRow_form9 T34.r3
              obtain ⟨⟨s1, s2⟩, s3, s4⟩ := T34.cs
              obtain ⟨s5, _, _⟩ := T34.c9
              have s6 := T34.f9 0
              have Hfin := hid (T34.set (by omega))
              clear T34
              refine wpAnyK_ready (rs := [16]) (by kernel_rfl) (by simp) ?_
              refine AllReadyK.cons (o := { dst := none, op := _, type := _, pos := _, after := _, guard := _ }) rfl (fun K' hK' => ?_) AllReadyK.nil
              go_simp
              refine hK'.out _ _ (fun h => Bool.noConfusion (Eq.trans (show true = _ from by kernel_rfl) h)) ?_
              clear hK' K'
              try simp only [Act.put, List.setIfInBounds_toArray, List.set_cons_zero, List.set_cons_succ]
              refine wpAnyK_take0 (i := 17) (oi := { dst := some 57, op := _, type := _, pos := _, after := _, guard := _ }) (v := .pointer (some ⟨w.heap.size + 1, 1, none⟩)) rfl (by kernel_rfl) (by kernel_rfl) (by kernel_rfl) (by decide) (fun _ _ _ h => h) (Or.inl ⟨by kernel_rfl, ?_⟩) (fun h => Bool.noConfusion (Eq.trans (show true = _ from by kernel_rfl) h)) ?_
              · intro w hSw; go_simp
              try simp only [Act.put, List.setIfInBounds_toArray, List.set_cons_zero, List.set_cons_succ]
              refine wpAnyK_ready (rs := [18]) (by kernel_rfl) (by simp) ?_
              refine AllReadyK.cons (o := { dst := none, op := _, type := _, pos := _, after := _, guard := _ }) rfl (fun K' hK' => ?_) AllReadyK.nil
              go_simp
              refine hK'.out _ _ (fun h => Bool.noConfusion (Eq.trans (show true = _ from by kernel_rfl) h)) ?_
              clear hK' K'
              try simp only [Act.put, List.setIfInBounds_toArray, List.set_cons_zero, List.set_cons_succ]
              refine wpAnyK_take0 (i := 19) (oi := { dst := some 58, op := _, type := _, pos := _, after := _, guard := _ }) (v := .pointer (some ⟨w.heap.size + 1, 2, none⟩)) rfl (by kernel_rfl) (by kernel_rfl) (by kernel_rfl) (by decide) (fun _ _ _ h => h) (Or.inl ⟨by kernel_rfl, ?_⟩) (fun h => Bool.noConfusion (Eq.trans (show true = _ from by kernel_rfl) h)) ?_
              · intro w hSw; go_simp
              try simp only [Act.put, List.setIfInBounds_toArray, List.set_cons_zero, List.set_cons_succ]
              refine wpAnyK_ready (rs := [20]) (by kernel_rfl) (by simp) ?_
              refine AllReadyK.cons (o := { dst := none, op := _, type := _, pos := _, after := _, guard := _ }) rfl (fun K' hK' => ?_) AllReadyK.nil
              go_simp
              refine hK'.out _ _ (fun h => Bool.noConfusion (Eq.trans (show true = _ from by kernel_rfl) h)) ?_
              clear hK' K'
              try simp only [Act.put, List.setIfInBounds_toArray, List.set_cons_zero, List.set_cons_succ]
              refine wpAnyK_done (by kernel_rfl) ?_ _
              go_wp2
              go_roundw
              case rel => exact ⟨c + 1, _, _, _, by omega, by rw [Hnv.out], by rw [Hnt.out], by go_num, by rw [Hst1.out, Hst2.out, Hst3.out]; exact Hfin.out⟩
              case measure => simp [intOf]; omega
        · go_simp
          have T35 := T0.alloc (.cells #[.int .i64 nt] 3)
          have N35_1 := News.new T0 nt
          refine hK'.out _ _ (fun _ => T35.c9) ?_
          clear hK' K' T0 
          try simp only [Act.put, List.setIfInBounds_toArray, List.set_cons_zero, List.set_cons_succ]
          generalize W0.alloc (.cells #[.int .i64 nt] 3) = W35 at *
          generalize W0.heap.size = b35 at *
          refine wpAnyK_ready (rs := [3, 13]) (by kernel_rfl) (by simp) ?_
          refine (AllReadyK.cons (o := { dst := some 44, op := _, type := _, pos := _, after := _, guard := _ }) rfl (fun K' hK' => ?_) (AllReadyK.cons (o := { dst := some 54, op := _, type := _, pos := _, after := _, guard := _ }) rfl (fun K' hK' => ?_) AllReadyK.nil))
          · go_simp
            have T36 := T35.alloc (.cells #[.int .i64 bt] 3)
            have N36_0 := News.new T35 bt
            have N36_1 := N35_1.alloc (.cells #[.int .i64 bt] 3)
            refine hK'.out _ _ (fun _ => T36.c9) ?_
            clear hK' K' T35 N35_1
            try simp only [Act.put, List.setIfInBounds_toArray, List.set_cons_zero, List.set_cons_succ]
            generalize W35.alloc (.cells #[.int .i64 bt] 3) = W36 at *
            generalize W35.heap.size = b36 at *
            refine wpAnyK_ready (rs := [4, 13]) (by kernel_rfl) (by simp) ?_
            refine (AllReadyK.cons (o := { dst := some 45, op := _, type := _, pos := _, after := _, guard := _ }) rfl (fun K' hK' => ?_) (AllReadyK.cons (o := { dst := some 54, op := _, type := _, pos := _, after := _, guard := _ }) rfl (fun K' hK' => ?_) AllReadyK.nil))
            · refine step_append_own2 (by kernel_rfl) _ _ 24 rfl (w.heap.size + 2) 3 i0 (.int .i64 0) 1 8 uslice hi0 hz0 hz1 hz2 rfl (by decide) _ c _ rfl T36.r1 ⟨_, 0, none⟩ 1 1 [.int .i64 bt] rfl rfl N36_0.at (by intro y hy; simp at hy; subst hy; rfl) (by unfold maxLen; omega) (by omega) T36.lo ?_
              intro v' W37 hown hg hnew
              have T37 := T36.app1 hown hg hnew
              have N37_1 := N36_1.app1 hg hnew
              refine hK'.out _ _ (fun _ => T37.c9) ?_
              clear hK' K' hown hg hnew T36 N36_1 N36_0
              try simp only [Act.put, List.setIfInBounds_toArray, List.set_cons_zero, List.set_cons_succ]
              refine wpAnyK_take0 (i := 15) (oi := { dst := some 56, op := _, type := _, pos := _, after := _, guard := _ }) (v := .pointer (some ⟨w.heap.size + 1, 0, none⟩)) rfl (by kernel_rfl) (by kernel_rfl) (by kernel_rfl) (by decide) (fun _ _ _ h => h) (Or.inl ⟨by kernel_rfl, ?_⟩) (fun _ => T37.c9) ?_
              · intro w hSw; go_simp
              try simp only [Act.put, List.setIfInBounds_toArray, List.set_cons_zero, List.set_cons_succ]
              refine wpAnyK_ready (rs := [9, 13]) (by kernel_rfl) (by simp) ?_
              refine (AllReadyK.cons (o := { dst := some 50, op := _, type := _, pos := _, after := _, guard := _ }) rfl (fun K' hK' => ?_) (AllReadyK.cons (o := { dst := some 54, op := _, type := _, pos := _, after := _, guard := _ }) rfl (fun K' hK' => ?_) AllReadyK.nil))
              · refine step_append_own2 (by kernel_rfl) _ _ 24 rfl (w.heap.size + 2) 3 i0 (.int .i64 0) 1 8 uslice hi0 hz0 hz1 hz2 rfl (by decide) _ c _ rfl T37.r2 ⟨_, 0, none⟩ 1 1 [.int .i64 nt] rfl rfl N37_1.at (by intro y hy; simp at hy; subst hy; rfl) (by unfold maxLen; omega) (by omega) T37.lo ?_
                intro u' W38 hown hg hnew
                have T38 := T37.app2 hown hg hnew
                refine hK'.out _ _ (fun _ => T38.c9) ?_
                clear hK' K' hown hg hnew T37 N37_1
                try simp only [Act.put, List.setIfInBounds_toArray, List.set_cons_zero, List.set_cons_succ]
                refine wpAnyK_ready (rs := [13]) (by kernel_rfl) (by simp) ?_
                refine (AllReadyK.cons (o := { dst := some 54, op := _, type := _, pos := _, after := _, guard := _ }) rfl (fun K' hK' => ?_) AllReadyK.nil)
                go_simp
                have T39 := T38.alloc (.cells #[.int .i64 nz] 3)
                have N39_2 := News.new T38 nz
                refine hK'.out _ _ (fun _ => T39.c9) ?_
                clear hK' K' T38 
                try simp only [Act.put, List.setIfInBounds_toArray, List.set_cons_zero, List.set_cons_succ]
                generalize W38.alloc (.cells #[.int .i64 nz] 3) = W39 at *
                generalize W38.heap.size = b39 at *
                refine wpAnyK_ready (rs := [14]) (by kernel_rfl) (by simp) ?_
                refine (AllReadyK.cons (o := { dst := some 55, op := _, type := _, pos := _, after := _, guard := _ }) rfl (fun K' hK' => ?_) AllReadyK.nil)
                refine step_append_own2 (by kernel_rfl) _ _ 24 rfl (w.heap.size + 2) 3 i0 (.int .i64 0) 1 8 uslice hi0 hz0 hz1 hz2 rfl (by decide) _ c _ rfl T39.r3 ⟨_, 0, none⟩ 1 1 [.int .i64 nz] rfl rfl N39_2.at (by intro y hy; simp at hy; subst hy; rfl) (by unfold maxLen; omega) (by omega) T39.lo ?_
                intro t' W40 hown hg hnew
                have T40 := T39.app3 hown hg hnew
                refine hK'.out _ _ (fun _ => T40.c9) ?_
                clear hK' K' hown hg hnew T39 N39_2
                try simp only [Act.put, List.setIfInBounds_toArray, List.set_cons_zero, List.set_cons_succ]
                obtain ⟨fa1, fc1, rfl⟩ := ownsRow_form9 T40.r1
                obtain ⟨fa2, fc2, rfl⟩ := ownsRow_form9 T40.r2
                obtain ⟨fa3, fc3, rfl⟩ := ownsRow_form9 T40.r3
                obtain ⟨⟨s1, s2⟩, s3, s4⟩ := T40.cs
                obtain ⟨s5, _, _⟩ := T40.c9
                have s6 := T40.f9 0
                have Hfin := hid (T40.set (by omega))
                clear T40
                refine wpAnyK_ready (rs := [16]) (by kernel_rfl) (by simp) ?_
                refine AllReadyK.cons (o := { dst := none, op := _, type := _, pos := _, after := _, guard := _ }) rfl (fun K' hK' => ?_) AllReadyK.nil
                go_simp
                refine hK'.out _ _ (fun h => Bool.noConfusion (Eq.trans (show true = _ from by kernel_rfl) h)) ?_
                clear hK' K'
                try simp only [Act.put, List.setIfInBounds_toArray, List.set_cons_zero, List.set_cons_succ]
                refine wpAnyK_take0 (i := 17) (oi := { dst := some 57, op := _, type := _, pos := _, after := _, guard := _ }) (v := .pointer (some ⟨w.heap.size + 1, 1, none⟩)) rfl (by kernel_rfl) (by kernel_rfl) (by kernel_rfl) (by decide) (fun _ _ _ h => h) (Or.inl ⟨by kernel_rfl, ?_⟩) (fun h => Bool.noConfusion (Eq.trans (show true = _ from by kernel_rfl) h)) ?_
                · intro w hSw; go_simp
                try simp only [Act.put, List.setIfInBounds_toArray, List.set_cons_zero, List.set_cons_succ]
                refine wpAnyK_ready (rs := [18]) (by kernel_rfl) (by simp) ?_
                refine AllReadyK.cons (o := { dst := none, op := _, type := _, pos := _, after := _, guard := _ }) rfl (fun K' hK' => ?_) AllReadyK.nil
                go_simp
                refine hK'.out _ _ (fun h => Bool.noConfusion (Eq.trans (show true = _ from by kernel_rfl) h)) ?_
                clear hK' K'
                try simp only [Act.put, List.setIfInBounds_toArray, List.set_cons_zero, List.set_cons_succ]
                refine wpAnyK_take0 (i := 19) (oi := { dst := some 58, op := _, type := _, pos := _, after := _, guard := _ }) (v := .pointer (some ⟨w.heap.size + 1, 2, none⟩)) rfl (by kernel_rfl) (by kernel_rfl) (by kernel_rfl) (by decide) (fun _ _ _ h => h) (Or.inl ⟨by kernel_rfl, ?_⟩) (fun h => Bool.noConfusion (Eq.trans (show true = _ from by kernel_rfl) h)) ?_
                · intro w hSw; go_simp
                try simp only [Act.put, List.setIfInBounds_toArray, List.set_cons_zero, List.set_cons_succ]
                refine wpAnyK_ready (rs := [20]) (by kernel_rfl) (by simp) ?_
                refine AllReadyK.cons (o := { dst := none, op := _, type := _, pos := _, after := _, guard := _ }) rfl (fun K' hK' => ?_) AllReadyK.nil
                go_simp
                refine hK'.out _ _ (fun h => Bool.noConfusion (Eq.trans (show true = _ from by kernel_rfl) h)) ?_
                clear hK' K'
                try simp only [Act.put, List.setIfInBounds_toArray, List.set_cons_zero, List.set_cons_succ]
                refine wpAnyK_done (by kernel_rfl) ?_ _
                go_wp2
                go_roundw
                case rel => exact ⟨c + 1, _, _, _, by omega, by rw [Hnv.out], by rw [Hnt.out], by go_num, by rw [Hst1.out, Hst2.out, Hst3.out]; exact Hfin.out⟩
                case measure => simp [intOf]; omega
              · go_simp
                have T41 := T37.alloc (.cells #[.int .i64 nz] 3)
                have N41_2 := News.new T37 nz
                have N41_1 := N37_1.alloc (.cells #[.int .i64 nz] 3)
                refine hK'.out _ _ (fun _ => T41.c9) ?_
                clear hK' K' T37 N37_1
                try simp only [Act.put, List.setIfInBounds_toArray, List.set_cons_zero, List.set_cons_succ]
                generalize W37.alloc (.cells #[.int .i64 nz] 3) = W41 at *
                generalize W37.heap.size = b41 at *
                refine wpAnyK_ready (rs := [9]) (by kernel_rfl) (by simp) ?_
                refine (AllReadyK.cons (o := { dst := some 50, op := _, type := _, pos := _, after := _, guard := _ }) rfl (fun K' hK' => ?_) AllReadyK.nil)
                refine step_append_own2 (by kernel_rfl) _ _ 24 rfl (w.heap.size + 2) 3 i0 (.int .i64 0) 1 8 uslice hi0 hz0 hz1 hz2 rfl (by decide) _ c _ rfl T41.r2 ⟨_, 0, none⟩ 1 1 [.int .i64 nt] rfl rfl N41_1.at (by intro y hy; simp at hy; subst hy; rfl) (by unfold maxLen; omega) (by omega) T41.lo ?_
                intro u' W42 hown hg hnew
                have T42 := T41.app2 hown hg hnew
                have N42_2 := N41_2.app2 hg hnew
                refine hK'.out _ _ (fun _ => T42.c9) ?_
                clear hK' K' hown hg hnew T41 N41_1 N41_2
                try simp only [Act.put, List.setIfInBounds_toArray, List.set_cons_zero, List.set_cons_succ]
                refine wpAnyK_ready (rs := [14]) (by kernel_rfl) (by simp) ?_
                refine (AllReadyK.cons (o := { dst := some 55, op := _, type := _, pos := _, after := _, guard := _ }) rfl (fun K' hK' => ?_) AllReadyK.nil)
                refine step_append_own2 (by kernel_rfl) _ _ 24 rfl (w.heap.size + 2) 3 i0 (.int .i64 0) 1 8 uslice hi0 hz0 hz1 hz2 rfl (by decide) _ c _ rfl T42.r3 ⟨_, 0, none⟩ 1 1 [.int .i64 nz] rfl rfl N42_2.at (by intro y hy; simp at hy; subst hy; rfl) (by unfold maxLen; omega) (by omega) T42.lo ?_
                intro t' W43 hown hg hnew
                have T43 := T42.app3 hown hg hnew
                refine hK'.out _ _ (fun _ => T43.c9) ?_
                clear hK' K' hown hg hnew T42 N42_2
                try simp only [Act.put, List.setIfInBounds_toArray, List.set_cons_zero, List.set_cons_succ]
                obtain ⟨fa1, fc1, rfl⟩ := ownsRow_form9 T43.r1
                obtain ⟨fa2, fc2, rfl⟩ := ownsRow_form9 T43.r2
                obtain ⟨fa3, fc3, rfl⟩ := ownsRow_form9 T43.r3
                obtain ⟨⟨s1, s2⟩, s3, s4⟩ := T43.cs
                obtain ⟨s5, _, _⟩ := T43.c9
                have s6 := T43.f9 0
                have Hfin := hid (T43.set (by omega))
                clear T43
                refine wpAnyK_ready (rs := [16]) (by kernel_rfl) (by simp) ?_
                refine AllReadyK.cons (o := { dst := none, op := _, type := _, pos := _, after := _, guard := _ }) rfl (fun K' hK' => ?_) AllReadyK.nil
                go_simp
                refine hK'.out _ _ (fun h => Bool.noConfusion (Eq.trans (show true = _ from by kernel_rfl) h)) ?_
                clear hK' K'
                try simp only [Act.put, List.setIfInBounds_toArray, List.set_cons_zero, List.set_cons_succ]
                refine wpAnyK_take0 (i := 17) (oi := { dst := some 57, op := _, type := _, pos := _, after := _, guard := _ }) (v := .pointer (some ⟨w.heap.size + 1, 1, none⟩)) rfl (by kernel_rfl) (by kernel_rfl) (by kernel_rfl) (by decide) (fun _ _ _ h => h) (Or.inl ⟨by kernel_rfl, ?_⟩) (fun h => Bool.noConfusion (Eq.trans (show true = _ from by kernel_rfl) h)) ?_
                · intro w hSw; go_simp
                try simp only [Act.put, List.setIfInBounds_toArray, List.set_cons_zero, List.set_cons_succ]
                refine wpAnyK_ready (rs := [18]) (by kernel_rfl) (by simp) ?_
                refine AllReadyK.cons (o := { dst := none, op := _, type := _, pos := _, after := _, guard := _ }) rfl (fun K' hK' => ?_) AllReadyK.nil
                go_simp
                refine hK'.out _ _ (fun h => Bool.noConfusion (Eq.trans (show true = _ from by kernel_rfl) h)) ?_
                clear hK' K'
                try simp only [Act.put, List.setIfInBounds_toArray, List.set_cons_zero, List.set_cons_succ]
                refine wpAnyK_take0 (i := 19) (oi := { dst := some 58, op := _, type := _, pos := _, after := _, guard := _ }) (v := .pointer (some ⟨w.heap.size + 1, 2, none⟩)) rfl (by kernel_rfl) (by kernel_rfl) (by kernel_rfl) (by decide) (fun _ _ _ h => h) (Or.inl ⟨by kernel_rfl, ?_⟩) (fun h => Bool.noConfusion (Eq.trans (show true = _ from by kernel_rfl) h)) ?_
                · intro w hSw; go_simp
                try simp only [Act.put, List.setIfInBounds_toArray, List.set_cons_zero, List.set_cons_succ]
                refine wpAnyK_ready (rs := [20]) (by kernel_rfl) (by simp) ?_
                refine AllReadyK.cons (o := { dst := none, op := _, type := _, pos := _, after := _, guard := _ }) rfl (fun K' hK' => ?_) AllReadyK.nil
                go_simp
                refine hK'.out _ _ (fun h => Bool.noConfusion (Eq.trans (show true = _ from by kernel_rfl) h)) ?_
                clear hK' K'
                try simp only [Act.put, List.setIfInBounds_toArray, List.set_cons_zero, List.set_cons_succ]
                refine wpAnyK_done (by kernel_rfl) ?_ _
                go_wp2
                go_roundw
                case rel => exact ⟨c + 1, _, _, _, by omega, by rw [Hnv.out], by rw [Hnt.out], by go_num, by rw [Hst1.out, Hst2.out, Hst3.out]; exact Hfin.out⟩
                case measure => simp [intOf]; omega
            · go_simp
              have T44 := T36.alloc (.cells #[.int .i64 nz] 3)
              have N44_2 := News.new T36 nz
              have N44_1 := N36_1.alloc (.cells #[.int .i64 nz] 3)
              have N44_0 := N36_0.alloc (.cells #[.int .i64 nz] 3)
              refine hK'.out _ _ (fun _ => T44.c9) ?_
              clear hK' K' T36 N36_1 N36_0
              try simp only [Act.put, List.setIfInBounds_toArray, List.set_cons_zero, List.set_cons_succ]
              generalize W36.alloc (.cells #[.int .i64 nz] 3) = W44 at *
              generalize W36.heap.size = b44 at *
              refine wpAnyK_ready (rs := [4]) (by kernel_rfl) (by simp) ?_
              refine (AllReadyK.cons (o := { dst := some 45, op := _, type := _, pos := _, after := _, guard := _ }) rfl (fun K' hK' => ?_) AllReadyK.nil)
              refine step_append_own2 (by kernel_rfl) _ _ 24 rfl (w.heap.size + 2) 3 i0 (.int .i64 0) 1 8 uslice hi0 hz0 hz1 hz2 rfl (by decide) _ c _ rfl T44.r1 ⟨_, 0, none⟩ 1 1 [.int .i64 bt] rfl rfl N44_0.at (by intro y hy; simp at hy; subst hy; rfl) (by unfold maxLen; omega) (by omega) T44.lo ?_
              intro v' W45 hown hg hnew
              have T45 := T44.app1 hown hg hnew
              have N45_1 := N44_1.app1 hg hnew
              have N45_2 := N44_2.app1 hg hnew
              refine hK'.out _ _ (fun _ => T45.c9) ?_
              clear hK' K' hown hg hnew T44 N44_1 N44_0 N44_2
              try simp only [Act.put, List.setIfInBounds_toArray, List.set_cons_zero, List.set_cons_succ]
              refine wpAnyK_take0 (i := 15) (oi := { dst := some 56, op := _, type := _, pos := _, after := _, guard := _ }) (v := .pointer (some ⟨w.heap.size + 1, 0, none⟩)) rfl (by kernel_rfl) (by kernel_rfl) (by kernel_rfl) (by decide) (fun _ _ _ h => h) (Or.inl ⟨by kernel_rfl, ?_⟩) (fun _ => T45.c9) ?_
              · intro w hSw; go_simp
              try simp only [Act.put, List.setIfInBounds_toArray, List.set_cons_zero, List.set_cons_succ]
              refine wpAnyK_ready (rs := [9]) (by kernel_rfl) (by simp) ?_
              refine (AllReadyK.cons (o := { dst := some 50, op := _, type := _, pos := _, after := _, guard := _ }) rfl (fun K' hK' => ?_) AllReadyK.nil)
              refine step_append_own2 (by kernel_rfl) _ _ 24 rfl (w.heap.size + 2) 3 i0 (.int .i64 0) 1 8 uslice hi0 hz0 hz1 hz2 rfl (by decide) _ c _ rfl T45.r2 ⟨_, 0, none⟩ 1 1 [.int .i64 nt] rfl rfl N45_1.at (by intro y hy; simp at hy; subst hy; rfl) (by unfold maxLen; omega) (by omega) T45.lo ?_
              intro u' W46 hown hg hnew
              have T46 := T45.app2 hown hg hnew
              have N46_2 := N45_2.app2 hg hnew
              refine hK'.out _ _ (fun _ => T46.c9) ?_
              clear hK' K' hown hg hnew T45 N45_1 N45_2
              try simp only [Act.put, List.setIfInBounds_toArray, List.set_cons_zero, List.set_cons_succ]
              refine wpAnyK_ready (rs := [14]) (by kernel_rfl) (by simp) ?_
              refine (AllReadyK.cons (o := { dst := some 55, op := _, type := _, pos := _, after := _, guard := _ }) rfl (fun K' hK' => ?_) AllReadyK.nil)
              refine step_append_own2 (by kernel_rfl) _ _ 24 rfl (w.heap.size + 2) 3 i0 (.int .i64 0) 1 8 uslice hi0 hz0 hz1 hz2 rfl (by decide) _ c _ rfl T46.r3 ⟨_, 0, none⟩ 1 1 [.int .i64 nz] rfl rfl N46_2.at (by intro y hy; simp at hy; subst hy; rfl) (by unfold maxLen; omega) (by omega) T46.lo ?_
              intro t' W47 hown hg hnew
              have T47 := T46.app3 hown hg hnew
              refine hK'.out _ _ (fun _ => T47.c9) ?_
              clear hK' K' hown hg hnew T46 N46_2
              try simp only [Act.put, List.setIfInBounds_toArray, List.set_cons_zero, List.set_cons_succ]
              obtain ⟨fa1, fc1, rfl⟩ := ownsRow_form9 T47.r1
              obtain ⟨fa2, fc2, rfl⟩ := ownsRow_form9 T47.r2
              obtain ⟨fa3, fc3, rfl⟩ := ownsRow_form9 T47.r3
              obtain ⟨⟨s1, s2⟩, s3, s4⟩ := T47.cs
              obtain ⟨s5, _, _⟩ := T47.c9
              have s6 := T47.f9 0
              have Hfin := hid (T47.set (by omega))
              clear T47
              refine wpAnyK_ready (rs := [16]) (by kernel_rfl) (by simp) ?_
              refine AllReadyK.cons (o := { dst := none, op := _, type := _, pos := _, after := _, guard := _ }) rfl (fun K' hK' => ?_) AllReadyK.nil
              go_simp
              refine hK'.out _ _ (fun h => Bool.noConfusion (Eq.trans (show true = _ from by kernel_rfl) h)) ?_
              clear hK' K'
              try simp only [Act.put, List.setIfInBounds_toArray, List.set_cons_zero, List.set_cons_succ]
              refine wpAnyK_take0 (i := 17) (oi := { dst := some 57, op := _, type := _, pos := _, after := _, guard := _ }) (v := .pointer (some ⟨w.heap.size + 1, 1, none⟩)) rfl (by kernel_rfl) (by kernel_rfl) (by kernel_rfl) (by decide) (fun _ _ _ h => h) (Or.inl ⟨by kernel_rfl, ?_⟩) (fun h => Bool.noConfusion (Eq.trans (show true = _ from by kernel_rfl) h)) ?_
              · intro w hSw; go_simp
              try simp only [Act.put, List.setIfInBounds_toArray, List.set_cons_zero, List.set_cons_succ]
              refine wpAnyK_ready (rs := [18]) (by kernel_rfl) (by simp) ?_
              refine AllReadyK.cons (o := { dst := none, op := _, type := _, pos := _, after := _, guard := _ }) rfl (fun K' hK' => ?_) AllReadyK.nil
              go_simp
              refine hK'.out _ _ (fun h => Bool.noConfusion (Eq.trans (show true = _ from by kernel_rfl) h)) ?_
              clear hK' K'
              try simp only [Act.put, List.setIfInBounds_toArray, List.set_cons_zero, List.set_cons_succ]
              refine wpAnyK_take0 (i := 19) (oi := { dst := some 58, op := _, type := _, pos := _, after := _, guard := _ }) (v := .pointer (some ⟨w.heap.size + 1, 2, none⟩)) rfl (by kernel_rfl) (by kernel_rfl) (by kernel_rfl) (by decide) (fun _ _ _ h => h) (Or.inl ⟨by kernel_rfl, ?_⟩) (fun h => Bool.noConfusion (Eq.trans (show true = _ from by kernel_rfl) h)) ?_
              · intro w hSw; go_simp
              try simp only [Act.put, List.setIfInBounds_toArray, List.set_cons_zero, List.set_cons_succ]
              refine wpAnyK_ready (rs := [20]) (by kernel_rfl) (by simp) ?_
              refine AllReadyK.cons (o := { dst := none, op := _, type := _, pos := _, after := _, guard := _ }) rfl (fun K' hK' => ?_) AllReadyK.nil
              go_simp
              refine hK'.out _ _ (fun h => Bool.noConfusion (Eq.trans (show true = _ from by kernel_rfl) h)) ?_
              clear hK' K'
              try simp only [Act.put, List.setIfInBounds_toArray, List.set_cons_zero, List.set_cons_succ]
              refine wpAnyK_done (by kernel_rfl) ?_ _
              go_wp2
              go_roundw
              case rel => exact ⟨c + 1, _, _, _, by omega, by rw [Hnv.out], by rw [Hnt.out], by go_num, by rw [Hst1.out, Hst2.out, Hst3.out]; exact Hfin.out⟩
              case measure => simp [intOf]; omega
          · go_simp
            have T48 := T35.alloc (.cells #[.int .i64 nz] 3)
            have N48_2 := News.new T35 nz
            have N48_1 := N35_1.alloc (.cells #[.int .i64 nz] 3)
            refine hK'.out _ _ (fun _ => T48.c9) ?_
            clear hK' K' T35 N35_1
            try simp only [Act.put, List.setIfInBounds_toArray, List.set_cons_zero, List.set_cons_succ]
            generalize W35.alloc (.cells #[.int .i64 nz] 3) = W48 at *
            generalize W35.heap.size = b48 at *
            refine wpAnyK_ready (rs := [3]) (by kernel_rfl) (by simp) ?_
            refine (AllReadyK.cons (o := { dst := some 44, op := _, type := _, pos := _, after := _, guard := _ }) rfl (fun K' hK' => ?_) AllReadyK.nil)
            go_simp
            have T49 := T48.alloc (.cells #[.int .i64 bt] 3)
            have N49_0 := News.new T48 bt
            have N49_1 := N48_1.alloc (.cells #[.int .i64 bt] 3)
            have N49_2 := N48_2.alloc (.cells #[.int .i64 bt] 3)
            refine hK'.out _ _ (fun _ => T49.c9) ?_
            clear hK' K' T48 N48_1 N48_2
            try simp only [Act.put, List.setIfInBounds_toArray, List.set_cons_zero, List.set_cons_succ]
            generalize W48.alloc (.cells #[.int .i64 bt] 3) = W49 at *
            generalize W48.heap.size = b49 at *
            refine wpAnyK_ready (rs := [4]) (by kernel_rfl) (by simp) ?_
            refine (AllReadyK.cons (o := { dst := some 45, op := _, type := _, pos := _, after := _, guard := _ }) rfl (fun K' hK' => ?_) AllReadyK.nil)
            refine step_append_own2 (by kernel_rfl) _ _ 24 rfl (w.heap.size + 2) 3 i0 (.int .i64 0) 1 8 uslice hi0 hz0 hz1 hz2 rfl (by decide) _ c _ rfl T49.r1 ⟨_, 0, none⟩ 1 1 [.int .i64 bt] rfl rfl N49_0.at (by intro y hy; simp at hy; subst hy; rfl) (by unfold maxLen; omega) (by omega) T49.lo ?_
            intro v' W50 hown hg hnew
            have T50 := T49.app1 hown hg hnew
            have N50_1 := N49_1.app1 hg hnew
            have N50_2 := N49_2.app1 hg hnew
            refine hK'.out _ _ (fun _ => T50.c9) ?_
            clear hK' K' hown hg hnew T49 N49_1 N49_2 N49_0
            try simp only [Act.put, List.setIfInBounds_toArray, List.set_cons_zero, List.set_cons_succ]
            refine wpAnyK_take0 (i := 15) (oi := { dst := some 56, op := _, type := _, pos := _, after := _, guard := _ }) (v := .pointer (some ⟨w.heap.size + 1, 0, none⟩)) rfl (by kernel_rfl) (by kernel_rfl) (by kernel_rfl) (by decide) (fun _ _ _ h => h) (Or.inl ⟨by kernel_rfl, ?_⟩) (fun _ => T50.c9) ?_
            · intro w hSw; go_simp
            try simp only [Act.put, List.setIfInBounds_toArray, List.set_cons_zero, List.set_cons_succ]
            refine wpAnyK_ready (rs := [9]) (by kernel_rfl) (by simp) ?_
            refine (AllReadyK.cons (o := { dst := some 50, op := _, type := _, pos := _, after := _, guard := _ }) rfl (fun K' hK' => ?_) AllReadyK.nil)
            refine step_append_own2 (by kernel_rfl) _ _ 24 rfl (w.heap.size + 2) 3 i0 (.int .i64 0) 1 8 uslice hi0 hz0 hz1 hz2 rfl (by decide) _ c _ rfl T50.r2 ⟨_, 0, none⟩ 1 1 [.int .i64 nt] rfl rfl N50_1.at (by intro y hy; simp at hy; subst hy; rfl) (by unfold maxLen; omega) (by omega) T50.lo ?_
            intro u' W51 hown hg hnew
            have T51 := T50.app2 hown hg hnew
            have N51_2 := N50_2.app2 hg hnew
            refine hK'.out _ _ (fun _ => T51.c9) ?_
            clear hK' K' hown hg hnew T50 N50_1 N50_2
            try simp only [Act.put, List.setIfInBounds_toArray, List.set_cons_zero, List.set_cons_succ]
            refine wpAnyK_ready (rs := [14]) (by kernel_rfl) (by simp) ?_
            refine (AllReadyK.cons (o := { dst := some 55, op := _, type := _, pos := _, after := _, guard := _ }) rfl (fun K' hK' => ?_) AllReadyK.nil)
            refine step_append_own2 (by kernel_rfl) _ _ 24 rfl (w.heap.size + 2) 3 i0 (.int .i64 0) 1 8 uslice hi0 hz0 hz1 hz2 rfl (by decide) _ c _ rfl T51.r3 ⟨_, 0, none⟩ 1 1 [.int .i64 nz] rfl rfl N51_2.at (by intro y hy; simp at hy; subst hy; rfl) (by unfold maxLen; omega) (by omega) T51.lo ?_
            intro t' W52 hown hg hnew
            have T52 := T51.app3 hown hg hnew
            refine hK'.out _ _ (fun _ => T52.c9) ?_
            clear hK' K' hown hg hnew T51 N51_2
            try simp only [Act.put, List.setIfInBounds_toArray, List.set_cons_zero, List.set_cons_succ]
            obtain ⟨fa1, fc1, rfl⟩ := ownsRow_form9 T52.r1
            obtain ⟨fa2, fc2, rfl⟩ := ownsRow_form9 T52.r2
            obtain ⟨fa3, fc3, rfl⟩ := ownsRow_form9 T52.r3
            obtain ⟨⟨s1, s2⟩, s3, s4⟩ := T52.cs
            obtain ⟨s5, _, _⟩ := T52.c9
            have s6 := T52.f9 0
            have Hfin := hid (T52.set (by omega))
            clear T52
            refine wpAnyK_ready (rs := [16]) (by kernel_rfl) (by simp) ?_
            refine AllReadyK.cons (o := { dst := none, op := _, type := _, pos := _, after := _, guard := _ }) rfl (fun K' hK' => ?_) AllReadyK.nil
            go_simp
            refine hK'.out _ _ (fun h => Bool.noConfusion (Eq.trans (show true = _ from by kernel_rfl) h)) ?_
            clear hK' K'
            try simp only [Act.put, List.setIfInBounds_toArray, List.set_cons_zero, List.set_cons_succ]
            refine wpAnyK_take0 (i := 17) (oi := { dst := some 57, op := _, type := _, pos := _, after := _, guard := _ }) (v := .pointer (some ⟨w.heap.size + 1, 1, none⟩)) rfl (by kernel_rfl) (by kernel_rfl) (by kernel_rfl) (by decide) (fun _ _ _ h => h) (Or.inl ⟨by kernel_rfl, ?_⟩) (fun h => Bool.noConfusion (Eq.trans (show true = _ from by kernel_rfl) h)) ?_
            · intro w hSw; go_simp
            try simp only [Act.put, List.setIfInBounds_toArray, List.set_cons_zero, List.set_cons_succ]
            refine wpAnyK_ready (rs := [18]) (by kernel_rfl) (by simp) ?_
            refine AllReadyK.cons (o := { dst := none, op := _, type := _, pos := _, after := _, guard := _ }) rfl (fun K' hK' => ?_) AllReadyK.nil
            go_simp
            refine hK'.out _ _ (fun h => Bool.noConfusion (Eq.trans (show true = _ from by kernel_rfl) h)) ?_
            clear hK' K'
            try simp only [Act.put, List.setIfInBounds_toArray, List.set_cons_zero, List.set_cons_succ]
            refine wpAnyK_take0 (i := 19) (oi := { dst := some 58, op := _, type := _, pos := _, after := _, guard := _ }) (v := .pointer (some ⟨w.heap.size + 1, 2, none⟩)) rfl (by kernel_rfl) (by kernel_rfl) (by kernel_rfl) (by decide) (fun _ _ _ h => h) (Or.inl ⟨by kernel_rfl, ?_⟩) (fun h => Bool.noConfusion (Eq.trans (show true = _ from by kernel_rfl) h)) ?_
            · intro w hSw; go_simp
            try simp only [Act.put, List.setIfInBounds_toArray, List.set_cons_zero, List.set_cons_succ]
            refine wpAnyK_ready (rs := [20]) (by kernel_rfl) (by simp) ?_
            refine AllReadyK.cons (o := { dst := none, op := _, type := _, pos := _, after := _, guard := _ }) rfl (fun K' hK' => ?_) AllReadyK.nil
            go_simp
            refine hK'.out _ _ (fun h => Bool.noConfusion (Eq.trans (show true = _ from by kernel_rfl) h)) ?_
            clear hK' K'
            try simp only [Act.put, List.setIfInBounds_toArray, List.set_cons_zero, List.set_cons_succ]
            refine wpAnyK_done (by kernel_rfl) ?_ _
            go_wp2
            go_roundw
            case rel => exact ⟨c + 1, _, _, _, by omega, by rw [Hnv.out], by rw [Hnt.out], by go_num, by rw [Hst1.out, Hst2.out, Hst3.out]; exact Hfin.out⟩
            case measure => simp [intOf]; omega
        · go_simp
          have T53 := T0.alloc (.cells #[.int .i64 nz] 3)
          have N53_2 := News.new T0 nz
          refine hK'.out _ _ (fun _ => T53.c9) ?_
          clear hK' K' T0 
          try simp only [Act.put, List.setIfInBounds_toArray, List.set_cons_zero, List.set_cons_succ]
          generalize W0.alloc (.cells #[.int .i64 nz] 3) = W53 at *
          generalize W0.heap.size = b53 at *
          refine wpAnyK_ready (rs := [3, 8]) (by kernel_rfl) (by simp) ?_
          refine (AllReadyK.cons (o := { dst := some 44, op := _, type := _, pos := _, after := _, guard := _ }) rfl (fun K' hK' => ?_) (AllReadyK.cons (o := { dst := some 49, op := _, type := _, pos := _, after := _, guard := _ }) rfl (fun K' hK' => ?_) AllReadyK.nil))
          · go_simp
            have T54 := T53.alloc (.cells #[.int .i64 bt] 3)
            have N54_0 := News.new T53 bt
            have N54_2 := N53_2.alloc (.cells #[.int .i64 bt] 3)
            refine hK'.out _ _ (fun _ => T54.c9) ?_
            clear hK' K' T53 N53_2
            try simp only [Act.put, List.setIfInBounds_toArray, List.set_cons_zero, List.set_cons_succ]
            generalize W53.alloc (.cells #[.int .i64 bt] 3) = W54 at *
            generalize W53.heap.size = b54 at *
            refine wpAnyK_ready (rs := [4, 8]) (by kernel_rfl) (by simp) ?_
            refine (AllReadyK.cons (o := { dst := some 45, op := _, type := _, pos := _, after := _, guard := _ }) rfl (fun K' hK' => ?_) (AllReadyK.cons (o := { dst := some 49, op := _, type := _, pos := _, after := _, guard := _ }) rfl (fun K' hK' => ?_) AllReadyK.nil))
            · refine step_append_own2 (by kernel_rfl) _ _ 24 rfl (w.heap.size + 2) 3 i0 (.int .i64 0) 1 8 uslice hi0 hz0 hz1 hz2 rfl (by decide) _ c _ rfl T54.r1 ⟨_, 0, none⟩ 1 1 [.int .i64 bt] rfl rfl N54_0.at (by intro y hy; simp at hy; subst hy; rfl) (by unfold maxLen; omega) (by omega) T54.lo ?_
              intro v' W55 hown hg hnew
              have T55 := T54.app1 hown hg hnew
              have N55_2 := N54_2.app1 hg hnew
              refine hK'.out _ _ (fun _ => T55.c9) ?_
              clear hK' K' hown hg hnew T54 N54_2 N54_0
              try simp only [Act.put, List.setIfInBounds_toArray, List.set_cons_zero, List.set_cons_succ]
              refine wpAnyK_take0 (i := 15) (oi := { dst := some 56, op := _, type := _, pos := _, after := _, guard := _ }) (v := .pointer (some ⟨w.heap.size + 1, 0, none⟩)) rfl (by kernel_rfl) (by kernel_rfl) (by kernel_rfl) (by decide) (fun _ _ _ h => h) (Or.inl ⟨by kernel_rfl, ?_⟩) (fun _ => T55.c9) ?_
              · intro w hSw; go_simp
              try simp only [Act.put, List.setIfInBounds_toArray, List.set_cons_zero, List.set_cons_succ]
              refine wpAnyK_ready (rs := [8]) (by kernel_rfl) (by simp) ?_
              refine (AllReadyK.cons (o := { dst := some 49, op := _, type := _, pos := _, after := _, guard := _ }) rfl (fun K' hK' => ?_) AllReadyK.nil)
              go_simp
              have T56 := T55.alloc (.cells #[.int .i64 nt] 3)
              have N56_1 := News.new T55 nt
              have N56_2 := N55_2.alloc (.cells #[.int .i64 nt] 3)
              refine hK'.out _ _ (fun _ => T56.c9) ?_
              clear hK' K' T55 N55_2
              try simp only [Act.put, List.setIfInBounds_toArray, List.set_cons_zero, List.set_cons_succ]
              generalize W55.alloc (.cells #[.int .i64 nt] 3) = W56 at *
              generalize W55.heap.size = b56 at *
              refine wpAnyK_ready (rs := [9]) (by kernel_rfl) (by simp) ?_
              refine (AllReadyK.cons (o := { dst := some 50, op := _, type := _, pos := _, after := _, guard := _ }) rfl (fun K' hK' => ?_) AllReadyK.nil)
              refine step_append_own2 (by kernel_rfl) _ _ 24 rfl (w.heap.size + 2) 3 i0 (.int .i64 0) 1 8 uslice hi0 hz0 hz1 hz2 rfl (by decide) _ c _ rfl T56.r2 ⟨_, 0, none⟩ 1 1 [.int .i64 nt] rfl rfl N56_1.at (by intro y hy; simp at hy; subst hy; rfl) (by unfold maxLen; omega) (by omega) T56.lo ?_
              intro u' W57 hown hg hnew
              have T57 := T56.app2 hown hg hnew
              have N57_2 := N56_2.app2 hg hnew
              refine hK'.out _ _ (fun _ => T57.c9) ?_
              clear hK' K' hown hg hnew T56 N56_2 N56_1
              try simp only [Act.put, List.setIfInBounds_toArray, List.set_cons_zero, List.set_cons_succ]
              refine wpAnyK_ready (rs := [14]) (by kernel_rfl) (by simp) ?_
              refine (AllReadyK.cons (o := { dst := some 55, op := _, type := _, pos := _, after := _, guard := _ }) rfl (fun K' hK' => ?_) AllReadyK.nil)
              refine step_append_own2 (by kernel_rfl) _ _ 24 rfl (w.heap.size + 2) 3 i0 (.int .i64 0) 1 8 uslice hi0 hz0 hz1 hz2 rfl (by decide) _ c _ rfl T57.r3 ⟨_, 0, none⟩ 1 1 [.int .i64 nz] rfl rfl N57_2.at (by intro y hy; simp at hy; subst hy; rfl) (by unfold maxLen; omega) (by omega) T57.lo ?_
              intro t' W58 hown hg hnew
              have T58 := T57.app3 hown hg hnew
              refine hK'.out _ _ (fun _ => T58.c9) ?_
              clear hK' K' hown hg hnew T57 N57_2
              try simp only [Act.put, List.setIfInBounds_toArray, List.set_cons_zero, List.set_cons_succ]
              obtain ⟨fa1, fc1, rfl⟩ := ownsRow_form9 T58.r1
              obtain ⟨fa2, fc2, rfl⟩ := ownsRow_form9 T58.r2
              obtain ⟨fa3, fc3, rfl⟩ := ownsRow_form9 T58.r3
              obtain ⟨⟨s1, s2⟩, s3, s4⟩ := T58.cs
              obtain ⟨s5, _, _⟩ := T58.c9
              have s6 := T58.f9 0
              have Hfin := hid (T58.set (by omega))
              clear T58
              refine wpAnyK_ready (rs := [16]) (by kernel_rfl) (by simp) ?_
              refine AllReadyK.cons (o := { dst := none, op := _, type := _, pos := _, after := _, guard := _ }) rfl (fun K' hK' => ?_) AllReadyK.nil
              go_simp
              refine hK'.out _ _ (fun h => Bool.noConfusion (Eq.trans (show true = _ from by kernel_rfl) h)) ?_
              clear hK' K'
              try simp only [Act.put, List.setIfInBounds_toArray, List.set_cons_zero, List.set_cons_succ]
              refine wpAnyK_take0 (i := 17) (oi := { dst := some 57, op := _, type := _, pos := _, after := _, guard := _ }) (v := .pointer (some ⟨w.heap.size + 1, 1, none⟩)) rfl (by kernel_rfl) (by kernel_rfl) (by kernel_rfl) (by decide) (fun _ _ _ h => h) (Or.inl ⟨by kernel_rfl, ?_⟩) (fun h => Bool.noConfusion (Eq.trans (show true = _ from by kernel_rfl) h)) ?_
              · intro w hSw; go_simp
              try simp only [Act.put, List.setIfInBounds_toArray, List.set_cons_zero, List.set_cons_succ]
              refine wpAnyK_ready (rs := [18]) (by kernel_rfl) (by simp) ?_
              refine AllReadyK.cons (o := { dst := none, op := _, type := _, pos := _, after := _, guard := _ }) rfl (fun K' hK' => ?_) AllReadyK.nil
              go_simp
              refine hK'.out _ _ (fun h => Bool.noConfusion (Eq.trans (show true = _ from by kernel_rfl) h)) ?_
              clear hK' K'
              try simp only [Act.put, List.setIfInBounds_toArray, List.set_cons_zero, List.set_cons_succ]
              refine wpAnyK_take0 (i := 19) (oi := { dst := some 58, op := _, type := _, pos := _, after := _, guard := _ }) (v := .pointer (some ⟨w.heap.size + 1, 2, none⟩)) rfl (by kernel_rfl) (by kernel_rfl) (by kernel_rfl) (by decide) (fun _ _ _ h => h) (Or.inl ⟨by kernel_rfl, ?_⟩) (fun h => Bool.noConfusion (Eq.trans (show true = _ from by kernel_rfl) h)) ?_
              · intro w hSw; go_simp
              try simp only [Act.put, List.setIfInBounds_toArray, List.set_cons_zero, List.set_cons_succ]
              refine wpAnyK_ready (rs := [20]) (by kernel_rfl) (by simp) ?_
              refine AllReadyK.cons (o := { dst := none, op := _, type := _, pos := _, after := _, guard := _ }) rfl (fun K' hK' => ?_) AllReadyK.nil
              go_simp
              refine hK'.out _ _ (fun h => Bool.noConfusion (Eq.trans (show true = _ from by kernel_rfl) h)) ?_
              clear hK' K'
              try simp only [Act.put, List.setIfInBounds_toArray, List.set_cons_zero, List.set_cons_succ]
              refine wpAnyK_done (by kernel_rfl) ?_ _
              go_wp2
              go_roundw
              case rel => exact ⟨c + 1, _, _, _, by omega, by rw [Hnv.out], by rw [Hnt.out], by go_num, by rw [Hst1.out, Hst2.out, Hst3.out]; exact Hfin.out⟩
              case measure => simp [intOf]; omega
            · go_simp
              have T59 := T54.alloc (.cells #[.int .i64 nt] 3)
              have N59_1 := News.new T54 nt
              have N59_2 := N54_2.alloc (.cells #[.int .i64 nt] 3)
              have N59_0 := N54_0.alloc (.cells #[.int .i64 nt] 3)
              refine hK'.out _ _ (fun _ => T59.c9) ?_
              clear hK' K' T54 N54_2 N54_0
              try simp only [Act.put, List.setIfInBounds_toArray, List.set_cons_zero, List.set_cons_succ]
              generalize W54.alloc (.cells #[.int .i64 nt] 3) = W59 at *
              generalize W54.heap.size = b59 at *
              refine wpAnyK_ready (rs := [4]) (by kernel_rfl) (by simp) ?_
              refine (AllReadyK.cons (o := { dst := some 45, op := _, type := _, pos := _, after := _, guard := _ }) rfl (fun K' hK' => ?_) AllReadyK.nil)
              refine step_append_own2 (by kernel_rfl) _ _ 24 rfl (w.heap.size + 2) 3 i0 (.int .i64 0) 1 8 uslice hi0 hz0 hz1 hz2 rfl (by decide) _ c _ rfl T59.r1 ⟨_, 0, none⟩ 1 1 [.int .i64 bt] rfl rfl N59_0.at (by intro y hy; simp at hy; subst hy; rfl) (by unfold maxLen; omega) (by omega) T59.lo ?_
              intro v' W60 hown hg hnew
              have T60 := T59.app1 hown hg hnew
              have N60_2 := N59_2.app1 hg hnew
              have N60_1 := N59_1.app1 hg hnew
              refine hK'.out _ _ (fun _ => T60.c9) ?_
              clear hK' K' hown hg hnew T59 N59_2 N59_0 N59_1
              try simp only [Act.put, List.setIfInBounds_toArray, List.set_cons_zero, List.set_cons_succ]
              refine wpAnyK_take0 (i := 15) (oi := { dst := some 56, op := _, type := _, pos := _, after := _, guard := _ }) (v := .pointer (some ⟨w.heap.size + 1, 0, none⟩)) rfl (by kernel_rfl) (by kernel_rfl) (by kernel_rfl) (by decide) (fun _ _ _ h => h) (Or.inl ⟨by kernel_rfl, ?_⟩) (fun _ => T60.c9) ?_
              · intro w hSw; go_simp
              try simp only [Act.put, List.setIfInBounds_toArray, List.set_cons_zero, List.set_cons_succ]
              refine wpAnyK_ready (rs := [9]) (by kernel_rfl) (by simp) ?_
              refine (AllReadyK.cons (o := { dst := some 50, op := _, type := _, pos := _, after := _, guard := _ }) rfl (fun K' hK' => ?_) AllReadyK.nil)
              refine step_append_own2 (by kernel_rfl) _ _ 24 rfl (w.heap.size + 2) 3 i0 (.int .i64 0) 1 8 uslice hi0 hz0 hz1 hz2 rfl (by decide) _ c _ rfl T60.r2 ⟨_, 0, none⟩ 1 1 [.int .i64 nt] rfl rfl N60_1.at (by intro y hy; simp at hy; subst hy; rfl) (by unfold maxLen; omega) (by omega) T60.lo ?_
              intro u' W61 hown hg hnew
              have T61 := T60.app2 hown hg hnew
              have N61_2 := N60_2.app2 hg hnew
              refine hK'.out _ _ (fun _ => T61.c9) ?_
              clear hK' K' hown hg hnew T60 N60_2 N60_1
              try simp only [Act.put, List.setIfInBounds_toArray, List.set_cons_zero, List.set_cons_succ]
              refine wpAnyK_ready (rs := [14]) (by kernel_rfl) (by simp) ?_
              refine (AllReadyK.cons (o := { dst := some 55, op := _, type := _, pos := _, after := _, guard := _ }) rfl (fun K' hK' => ?_) AllReadyK.nil)
              refine step_append_own2 (by kernel_rfl) _ _ 24 rfl (w.heap.size + 2) 3 i0 (.int .i64 0) 1 8 uslice hi0 hz0 hz1 hz2 rfl (by decide) _ c _ rfl T61.r3 ⟨_, 0, none⟩ 1 1 [.int .i64 nz] rfl rfl N61_2.at (by intro y hy; simp at hy; subst hy; rfl) (by unfold maxLen; omega) (by omega) T61.lo ?_
              intro t' W62 hown hg hnew
              have T62 := T61.app3 hown hg hnew
              refine hK'.out _ _ (fun _ => T62.c9) ?_
              clear hK' K' hown hg hnew T61 N61_2
              try simp only [Act.put, List.setIfInBounds_toArray, List.set_cons_zero, List.set_cons_succ]
              obtain ⟨fa1, fc1, rfl⟩ := ownsRow_form9 T62.r1
              obtain ⟨fa2, fc2, rfl⟩ := ownsRow_form9 T62.r2
              obtain ⟨fa3, fc3, rfl⟩ := ownsRow_form9 T62.r3
              obtain ⟨⟨s1, s2⟩, s3, s4⟩ := T62.cs
              obtain ⟨s5, _, _⟩ := T62.c9
              have s6 := T62.f9 0
              have Hfin := hid (T62.set (by omega))
              clear T62
              refine wpAnyK_ready (rs := [16]) (by kernel_rfl) (by simp) ?_
              refine AllReadyK.cons (o := { dst := none, op := _, type := _, pos := _, after := _, guard := _ }) rfl (fun K' hK' => ?_) AllReadyK.nil
              go_simp
              refine hK'.out _ _ (fun h => Bool.noConfusion (Eq.trans (show true = _ from by kernel_rfl) h)) ?_
              clear hK' K'
              try simp only [Act.put, List.setIfInBounds_toArray, List.set_cons_zero, List.set_cons_succ]
              refine wpAnyK_take0 (i := 17) (oi := { dst := some 57, op := _, type := _, pos := _, after := _, guard := _ }) (v := .pointer (some ⟨w.heap.size + 1, 1, none⟩)) rfl (by kernel_rfl) (by kernel_rfl) (by kernel_rfl) (by decide) (fun _ _ _ h => h) (Or.inl ⟨by kernel_rfl, ?_⟩) (fun h => Bool.noConfusion (Eq.trans (show true = _ from by kernel_rfl) h)) ?_
              · intro w hSw; go_simp
              try simp only [Act.put, List.setIfInBounds_toArray, List.set_cons_zero, List.set_cons_succ]
              refine wpAnyK_ready (rs := [18]) (by kernel_rfl) (by simp) ?_
              refine AllReadyK.cons (o := { dst := none, op := _, type := _, pos := _, after := _, guard := _ }) rfl (fun K' hK' => ?_) AllReadyK.nil
              go_simp
              refine hK'.out _ _ (fun h => Bool.noConfusion (Eq.trans (show true = _ from by kernel_rfl) h)) ?_
              clear hK' K'
              try simp only [Act.put, List.setIfInBounds_toArray, List.set_cons_zero, List.set_cons_succ]
              refine wpAnyK_take0 (i := 19) (oi := { dst := some 58, op := _, type := _, pos := _, after := _, guard := _ }) (v := .pointer (some ⟨w.heap.size + 1, 2, none⟩)) rfl (by kernel_rfl) (by kernel_rfl) (by kernel_rfl) (by decide) (fun _ _ _ h => h) (Or.inl ⟨by kernel_rfl, ?_⟩) (fun h => Bool.noConfusion (Eq.trans (show true = _ from by kernel_rfl) h)) ?_
              · intro w hSw; go_simp
              try simp only [Act.put, List.setIfInBounds_toArray, List.set_cons_zero, List.set_cons_succ]
              refine wpAnyK_ready (rs := [20]) (by kernel_rfl) (by simp) ?_
              refine AllReadyK.cons (o := { dst := none, op := _, type := _, pos := _, after := _, guard := _ }) rfl (fun K' hK' => ?_) AllReadyK.nil
              go_simp
              refine hK'.out _ _ (fun h => Bool.noConfusion (Eq.trans (show true = _ from by kernel_rfl) h)) ?_
              clear hK' K'
              try simp only [Act.put, List.setIfInBounds_toArray, List.set_cons_zero, List.set_cons_succ]
              refine wpAnyK_done (by kernel_rfl) ?_ _
              go_wp2
              go_roundw
              case rel => exact ⟨c + 1, _, _, _, by omega, by rw [Hnv.out], by rw [Hnt.out], by go_num, by rw [Hst1.out, Hst2.out, Hst3.out]; exact Hfin.out⟩
              case measure => simp [intOf]; omega
          · go_simp
            have T63 := T53.alloc (.cells #[.int .i64 nt] 3)
            have N63_1 := News.new T53 nt
            have N63_2 := N53_2.alloc (.cells #[.int .i64 nt] 3)
            refine hK'.out _ _ (fun _ => T63.c9) ?_
            clear hK' K' T53 N53_2
            try simp only [Act.put, List.setIfInBounds_toArray, List.set_cons_zero, List.set_cons_succ]
            generalize W53.alloc (.cells #[.int .i64 nt] 3) = W63 at *
            generalize W53.heap.size = b63 at *
            refine wpAnyK_ready (rs := [3]) (by kernel_rfl) (by simp) ?_
            refine (AllReadyK.cons (o := { dst := some 44, op := _, type := _, pos := _, after := _, guard := _ }) rfl (fun K' hK' => ?_) AllReadyK.nil)
            go_simp
            have T64 := T63.alloc (.cells #[.int .i64 bt] 3)
            have N64_0 := News.new T63 bt
            have N64_2 := N63_2.alloc (.cells #[.int .i64 bt] 3)
            have N64_1 := N63_1.alloc (.cells #[.int .i64 bt] 3)
            refine hK'.out _ _ (fun _ => T64.c9) ?_
            clear hK' K' T63 N63_2 N63_1
            try simp only [Act.put, List.setIfInBounds_toArray, List.set_cons_zero, List.set_cons_succ]
            generalize W63.alloc (.cells #[.int .i64 bt] 3) = W64 at *
            generalize W63.heap.size = b64 at *
            refine wpAnyK_ready (rs := [4]) (by kernel_rfl) (by simp) ?_
            refine (AllReadyK.cons (o := { dst := some 45, op := _, type := _, pos := _, after := _, guard := _ }) rfl (fun K' hK' => ?_) AllReadyK.nil)
            refine step_append_own2 (by kernel_rfl) _ _ 24 rfl (w.heap.size + 2) 3 i0 (.int .i64 0) 1 8 uslice hi0 hz0 hz1 hz2 rfl (by decide) _ c _ rfl T64.r1 ⟨_, 0, none⟩ 1 1 [.int .i64 bt] rfl rfl N64_0.at (by intro y hy; simp at hy; subst hy; rfl) (by unfold maxLen; omega) (by omega) T64.lo ?_
            intro v' W65 hown hg hnew
            have T65 := T64.app1 hown hg hnew
            have N65_2 := N64_2.app1 hg hnew
            have N65_1 := N64_1.app1 hg hnew
            refine hK'.out _ _ (fun _ => T65.c9) ?_
            clear hK' K' hown hg hnew T64 N64_2 N64_1 N64_0
            try simp only [Act.put, List.setIfInBounds_toArray, List.set_cons_zero, List.set_cons_succ]
            refine wpAnyK_take0 (i := 15) (oi := { dst := some 56, op := _, type := _, pos := _, after := _, guard := _ }) (v := .pointer (some ⟨w.heap.size + 1, 0, none⟩)) rfl (by kernel_rfl) (by kernel_rfl) (by kernel_rfl) (by decide) (fun _ _ _ h => h) (Or.inl ⟨by kernel_rfl, ?_⟩) (fun _ => T65.c9) ?_
            · intro w hSw; go_simp
            try simp only [Act.put, List.setIfInBounds_toArray, List.set_cons_zero, List.set_cons_succ]
            refine wpAnyK_ready (rs := [9]) (by kernel_rfl) (by simp) ?_
            refine (AllReadyK.cons (o := { dst := some 50, op := _, type := _, pos := _, after := _, guard := _ }) rfl (fun K' hK' => ?_) AllReadyK.nil)
            refine step_append_own2 (by kernel_rfl) _ _ 24 rfl (w.heap.size + 2) 3 i0 (.int .i64 0) 1 8 uslice hi0 hz0 hz1 hz2 rfl (by decide) _ c _ rfl T65.r2 ⟨_, 0, none⟩ 1 1 [.int .i64 nt] rfl rfl N65_1.at (by intro y hy; simp at hy; subst hy; rfl) (by unfold maxLen; omega) (by omega) T65.lo ?_
            intro u' W66 hown hg hnew
            have T66 := T65.app2 hown hg hnew
            have N66_2 := N65_2.app2 hg hnew
            refine hK'.out _ _ (fun _ => T66.c9) ?_
            clear hK' K' hown hg hnew T65 N65_2 N65_1
            try simp only [Act.put, List.setIfInBounds_toArray, List.set_cons_zero, List.set_cons_succ]
            refine wpAnyK_ready (rs := [14]) (by kernel_rfl) (by simp) ?_
            refine (AllReadyK.cons (o := { dst := some 55, op := _, type := _, pos := _, after := _, guard := _ }) rfl (fun K' hK' => ?_) AllReadyK.nil)
            refine step_append_own2 (by kernel_rfl) _ _ 24 rfl (w.heap.size + 2) 3 i0 (.int .i64 0) 1 8 uslice hi0 hz0 hz1 hz2 rfl (by decide) _ c _ rfl T66.r3 ⟨_, 0, none⟩ 1 1 [.int .i64 nz] rfl rfl N66_2.at (by intro y hy; simp at hy; subst hy; rfl) (by unfold maxLen; omega) (by omega) T66.lo ?_
            intro t' W67 hown hg hnew
            have T67 := T66.app3 hown hg hnew
            refine hK'.out _ _ (fun _ => T67.c9) ?_
            clear hK' K' hown hg hnew T66 N66_2
            try simp only [Act.put, List.setIfInBounds_toArray, List.set_cons_zero, List.set_cons_succ]
            obtain ⟨fa1, fc1, rfl⟩ := ownsRow_form9 T67.r1
            obtain ⟨fa2, fc2, rfl⟩ := ownsRow_form9 T67.r2
            obtain ⟨fa3, fc3, rfl⟩ := ownsRow_form9 T67.r3
            obtain ⟨⟨s1, s2⟩, s3, s4⟩ := T67.cs
            obtain ⟨s5, _, _⟩ := T67.c9
            have s6 := T67.f9 0
            have Hfin := hid (T67.set (by omega))
            clear T67
            refine wpAnyK_ready (rs := [16]) (by kernel_rfl) (by simp) ?_
            refine AllReadyK.cons (o := { dst := none, op := _, type := _, pos := _, after := _, guard := _ }) rfl (fun K' hK' => ?_) AllReadyK.nil
            go_simp
            refine hK'.out _ _ (fun h => Bool.noConfusion (Eq.trans (show true = _ from by kernel_rfl) h)) ?_
            clear hK' K'
            try simp only [Act.put, List.setIfInBounds_toArray, List.set_cons_zero, List.set_cons_succ]
            refine wpAnyK_take0 (i := 17) (oi := { dst := some 57, op := _, type := _, pos := _, after := _, guard := _ }) (v := .pointer (some ⟨w.heap.size + 1, 1, none⟩)) rfl (by kernel_rfl) (by kernel_rfl) (by kernel_rfl) (by decide) (fun _ _ _ h => h) (Or.inl ⟨by kernel_rfl, ?_⟩) (fun h => Bool.noConfusion (Eq.trans (show true = _ from by kernel_rfl) h)) ?_
            · intro w hSw; go_simp
            try simp only [Act.put, List.setIfInBounds_toArray, List.set_cons_zero, List.set_cons_succ]
            refine wpAnyK_ready (rs := [18]) (by kernel_rfl) (by simp) ?_
            refine AllReadyK.cons (o := { dst := none, op := _, type := _, pos := _, after := _, guard := _ }) rfl (fun K' hK' => ?_) AllReadyK.nil
            go_simp
            refine hK'.out _ _ (fun h => Bool.noConfusion (Eq.trans (show true = _ from by kernel_rfl) h)) ?_
            clear hK' K'
            try simp only [Act.put, List.setIfInBounds_toArray, List.set_cons_zero, List.set_cons_succ]
            refine wpAnyK_take0 (i := 19) (oi := { dst := some 58, op := _, type := _, pos := _, after := _, guard := _ }) (v := .pointer (some ⟨w.heap.size + 1, 2, none⟩)) rfl (by kernel_rfl) (by kernel_rfl) (by kernel_rfl) (by decide) (fun _ _ _ h => h) (Or.inl ⟨by kernel_rfl, ?_⟩) (fun h => Bool.noConfusion (Eq.trans (show true = _ from by kernel_rfl) h)) ?_
            · intro w hSw; go_simp
            try simp only [Act.put, List.setIfInBounds_toArray, List.set_cons_zero, List.set_cons_succ]
            refine wpAnyK_ready (rs := [20]) (by kernel_rfl) (by simp) ?_
            refine AllReadyK.cons (o := { dst := none, op := _, type := _, pos := _, after := _, guard := _ }) rfl (fun K' hK' => ?_) AllReadyK.nil
            go_simp
            refine hK'.out _ _ (fun h => Bool.noConfusion (Eq.trans (show true = _ from by kernel_rfl) h)) ?_
            clear hK' K'
            try simp only [Act.put, List.setIfInBounds_toArray, List.set_cons_zero, List.set_cons_succ]
            refine wpAnyK_done (by kernel_rfl) ?_ _
            go_wp2
            go_roundw
            case rel => exact ⟨c + 1, _, _, _, by omega, by rw [Hnv.out], by rw [Hnt.out], by go_num, by rw [Hst1.out, Hst2.out, Hst3.out]; exact Hfin.out⟩
            case measure => simp [intOf]; omega

    · have hge : (n : Int) ≤ (c : Int) := by omega
      have hkn : c = n := by omega
      have Hk := hid hkn
      obtain ⟨fa1, fc1, rfl⟩ := ownsRow_form9 hT.r1
      obtain ⟨fa2, fc2, rfl⟩ := ownsRow_form9 hT.r2
      obtain ⟨fa3, fc3, rfl⟩ := ownsRow_form9 hT.r3
      obtain ⟨c0, c1, c2⟩ := hT.c9
      obtain ⟨q0, q1, q2⟩ := hT.c8
      have p0 := hT.f8 0
      have p1 := hT.f8 1
      have p2 := hT.f8 2
      have hF := hT.set8 (x := .slice fa1 c fc1) (y := .slice fa2 c fc2) (z := .slice fa3 c fc3) (Nat.le_refl _) (by omega)
      obtain ⟨g0, g1, g2⟩ := hF.c8
      have HTT := hid hF
      clear hkn hlk hT hF
      go_wp2
      refine bodyPost_ret (v := .agg #[.slice fa1 c fc1, .slice fa2 c fc2, .slice fa3 c fc3]) (by simp [results, Try.results50, go_sem, g0, g1, g2]) rfl ?_
      obtain rfl : c = n := Hk.out
      have ho1 := HTT.out.r1
      have ho2 := HTT.out.r2
      have ho3 := HTT.out.r3
      have hsz : w.heap.size ≤ w.heap.size + 2 := by omega
      exact ⟨_, _, _, rfl, (Res.owns (by rw [tab_len]; exact ho1)).mono hsz, (Res.owns (by rw [tab_len]; exact ho2)).mono hsz, (Res.owns (by rw [tab_len]; exact ho3)).mono hsz, HTT.out.bel⟩

end Go.Proofs.Ythkfjoonkkmgiaa
