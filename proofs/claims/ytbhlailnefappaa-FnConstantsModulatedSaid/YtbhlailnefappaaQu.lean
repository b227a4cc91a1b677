
import Derived.Test.YtbhlailnefappaaQt
import Derived.Test.YtbhlailnefappaaQb
import Derived.Deep.RegionHeld3
import Derived.Shelf.Abstract
import Derived.Laws.EntriesVeiled
namespace Go.Proofs.Ytbhlailnefappaa
open Go.RowKit BitX Go.MemX Go.Conc Go.ChV
set_option linter.unusedVariables false
/-- what a modulator's closures do: Inv i holds behind i samples; blocks B0, B0 + 1, B0 + 2 are the machine's own -/
structure Mod (P : Program) (wb : World) (B0 : Nat) (gl gs : Nat) (ll ls : Array Value) (s : List Int) (L : Nat → Int) (Inv : Nat → World → Prop) : Prop where
  keep : ∀ i w w', Inv i w → (∀ b, ¬ (B0 ≤ b ∧ b < B0 + 3) → w'.heap[b]? = w.heap[b]?) → Inv i w'
  level : ∀ i x w, Inv i w → s[i]? = some x → Calls P gl (#[.int .i64 x] ++ ll) w fun e w' => e = .returned (.int .i64 (L i)) ∧ w = w'
  settle : ∀ i x w, Inv i w → s[i]? = some x → B0 + 3 ≤ w.heap.size → Calls P gs (#[.int .i64 x, .int .i64 (biI (L i))] ++ ls) w fun e w' => e = .returned (.tuple #[]) ∧ Inv (i + 1) w' ∧ (∀ b, B0 ≤ b → b < B0 + 3 → w'.heap[b]? = w.heap[b]?) ∧ Below wb.heap.size w w'
/-- how the machine stands -/
structure MSt (wb : World) (B0 c1 c2 n cb ci : Nat) (bits : Nat → Int) (Inv : Nat → World → Prop) (b1 b2 : Array Value) (wq : World) : Prop where
  ch1 : ∃ s r, wq.heap[c1]? = some (.chan 1 b1 false s r false)
  ch2 : ∃ s r, wq.heap[c2]? = some (.chan 1 b2 false s r false)
  cc : (c1 = B0 ∧ c2 = B0 + 1) ∨ (c1 = B0 + 1 ∧ c2 = B0)
  blk : Blk 3 wq (B0 + 2) (upTo (tab n bits) cb)
  inv : Inv ci wq
  bel : Below wb.heap.size wb wq
  size : B0 + 3 ≤ wq.heap.size
  le : wb.heap.size ≤ B0
theorem setChan_heap (w : World) (c cap : Nat) (buf : Array Value) (cl : Bool) (s r : Nat) (tm : Bool) : ∀ b, b ≠ c → (w.setChan c cap buf cl s r tm).heap[b]? = w.heap[b]? := fun b hb => setChan_other w c b cap buf cl s r tm (Ne.symm hb)
section
variable {P : Program} {wb : World} {B0 gl gs : Nat} {ll ls : Array Value} {s : List Int} {L : Nat → Int} {Inv : Nat → World → Prop} {c1 c2 n cb ci : Nat} {bits : Nat → Int} {b1 b2 : Array Value} {wq : World}
theorem MSt.chan1 (M : Mod P wb B0 gl gs ll ls s L Inv) (h : MSt wb B0 c1 c2 n cb ci bits Inv b1 b2 wq) (b1' : Array Value) (s' r' : Nat) : MSt wb B0 c1 c2 n cb ci bits Inv b1' b2 (wq.setChan c1 1 b1' false s' r' false) := by
  have hcc := h.cc
  have hsz := h.size
  have hle := h.le
  refine ⟨⟨s', r', heap_setChan _ _ _ _ _ _ _ _ (by omega)⟩, ?_, h.cc, ?_, M.keep _ _ _ h.inv fun b hb => setChan_heap _ _ _ _ _ _ _ _ b (by omega), below_setChan h.bel (by omega) _ _ _ _ _ _, by rw [size_setChan]; exact hsz, h.le⟩
  · obtain ⟨s2, r2, h2⟩ := h.ch2
    exact ⟨s2, r2, by rw [setChan_heap _ _ _ _ _ _ _ _ _ (by omega)]; exact h2⟩
  · have hb := h.blk
    unfold Blk at *
    rw [setChan_heap _ _ _ _ _ _ _ _ _ (by omega)]; exact hb
theorem MSt.chan2 (M : Mod P wb B0 gl gs ll ls s L Inv) (h : MSt wb B0 c1 c2 n cb ci bits Inv b1 b2 wq) (b2' : Array Value) (s' r' : Nat) : MSt wb B0 c1 c2 n cb ci bits Inv b1 b2' (wq.setChan c2 1 b2' false s' r' false) := by
  have hcc := h.cc
  have hsz := h.size
  have hle := h.le
  refine ⟨?_, ⟨s', r', heap_setChan _ _ _ _ _ _ _ _ (by omega)⟩, h.cc, ?_, M.keep _ _ _ h.inv fun b hb => setChan_heap _ _ _ _ _ _ _ _ b (by omega), below_setChan h.bel (by omega) _ _ _ _ _ _, by rw [size_setChan]; exact hsz, h.le⟩
  · obtain ⟨s2, r2, h2⟩ := h.ch1
    exact ⟨s2, r2, by rw [setChan_heap _ _ _ _ _ _ _ _ _ (by omega)]; exact h2⟩
  · have hb := h.blk
    unfold Blk at *
    rw [setChan_heap _ _ _ _ _ _ _ _ _ (by omega)]; exact hb
theorem MSt.store (M : Mod P wb B0 gl gs ll ls s L Inv) (h : MSt wb B0 c1 c2 n cb ci bits Inv b1 b2 wq) (hn : cb < n) {x : Int} (hx : x = bits cb) : MSt wb B0 c1 c2 n (cb + 1) ci bits Inv b1 b2 (wq.setCell ⟨B0 + 2, cb, none⟩ (.int .i64 x)) := by
  have hcc := h.cc
  have hsz := h.size
  have hle := h.le
  have ho : ∀ b, b ≠ B0 + 2 → (wq.setCell ⟨B0 + 2, cb, none⟩ (.int .i64 x)).heap[b]? = wq.heap[b]? := fun b hb => Below.heap_setCell _ _ _ _ (by exact hb)
  refine ⟨?_, ?_, h.cc, ?_, M.keep _ _ _ h.inv fun b hb => ho b (by omega), h.bel.setCell (p := ⟨B0 + 2, cb, none⟩) (by show wb.heap.size ≤ B0 + 2; omega) _, by simpa using hsz, h.le⟩
  · obtain ⟨s2, r2, h2⟩ := h.ch1
    exact ⟨s2, r2, by rw [ho _ (by omega)]; exact h2⟩
  · obtain ⟨s2, r2, h2⟩ := h.ch2
    exact ⟨s2, r2, by rw [ho _ (by omega)]; exact h2⟩
  · rw [← upTo_step (tab n bits) cb x (by rw [hx]; exact tab_get n bits cb hn)]; exact h.blk.set cb x
theorem MSt.drew (M : Mod P wb B0 gl gs ll ls s L Inv) (h : MSt wb B0 c1 c2 n cb ci bits Inv b1 b2 wq) : MSt wb B0 c1 c2 n cb ci bits Inv b1 b2 wq.drew :=
  ⟨h.ch1, h.ch2, h.cc, h.blk, M.keep _ _ _ h.inv fun _ _ => rfl, h.bel.drew, h.size, h.le⟩
theorem MSt.after {w' : World} (h : MSt wb B0 c1 c2 n cb ci bits Inv b1 b2 wq) (hi : Inv (ci + 1) w') (hb : ∀ b, B0 ≤ b → b < B0 + 3 → w'.heap[b]? = wq.heap[b]?) (hl : Below wb.heap.size wq w') : MSt wb B0 c1 c2 n cb (ci + 1) bits Inv b1 b2 w' := by
  have hcc := h.cc
  refine ⟨?_, ?_, h.cc, ?_, hi, h.bel.trans hl, Nat.le_trans h.size hl.size, h.le⟩
  · obtain ⟨s2, r2, h2⟩ := h.ch1
    exact ⟨s2, r2, by rw [hb _ (by omega) (by omega)]; exact h2⟩
  · obtain ⟨s2, r2, h2⟩ := h.ch2
    exact ⟨s2, r2, by rw [hb _ (by omega) (by omega)]; exact h2⟩
  · have := h.blk
    unfold Blk at *
    rw [hb _ (by omega) (by omega)]; exact this
end
theorem uchan : ∃ d, Try.prog.underlying 81 = some (.chan d 3) := ⟨.both, by kernel_rfl⟩
theorem mkChan (w : World) : (Instr.makeChan 81 (.int .i64 1)).run Try.prog w = .ok (.chan (some w.heap.size)) (w.alloc (.chan 1 #[] false 0 0 false)) := by
  obtain ⟨i, hi, hz, hs, hb⟩ := info_parts iint
  obtain ⟨d, hd⟩ := uchan
  simpa using run_makeChan (P := Try.prog) (w := w) hd hi .i64 1 (by omega) (by rw [hb]; omega)
theorem two_chans (w : World) : (((w.alloc (.chan 1 #[] false 0 0 false)).alloc (.chan 1 #[] false 0 0 false))).heap[w.heap.size]? = some (.chan 1 #[] false 0 0 false) ∧ (((w.alloc (.chan 1 #[] false 0 0 false)).alloc (.chan 1 #[] false 0 0 false))).heap[w.heap.size + 1]? = some (.chan 1 #[] false 0 0 false) := by
  constructor
  · rw [Below.heap_alloc _ _ _ (by simp)]; exact heap_alloc_new w _
  · have := heap_alloc_new (w.alloc (.chan 1 #[] false 0 0 false)) (.chan 1 #[] false 0 0 false)
    simpa only [World.size_alloc] using this
theorem upTo_at (n c : Nat) (f : Nat → Int) (h : c < n) : (upTo (tab n f) (c + 1))[c]? = some (f c) := by
  have h1 := upTo_step (tab n f) c (f c) (tab_get n f c h)
  rw [← h1]
  exact List.getElem?_set_self (by simp [upTo, tab_len]; omega)
/-- the machine as it begins -/
theorem MSt.start {P : Program} {wb w w2 : World} {gl gs : Nat} {ll ls : Array Value} {s : List Int} {L : Nat → Int} {Inv : Nat → World → Prop} {c1 c2 n : Nat} {bits : Nat → Int}
    (hcc : (c1 = w.heap.size ∧ c2 = w.heap.size + 1) ∨ (c1 = w.heap.size + 1 ∧ c2 = w.heap.size)) (hw2 : w2 = (((w.alloc (.chan 1 #[] false 0 0 false)).alloc (.chan 1 #[] false 0 0 false)).drew).alloc (.cells (intsA (List.replicate n 0)) 3))
    (hb : Below wb.heap.size wb w) (h0 : ∀ w1 : World, (∀ b, b < w.heap.size → w1.heap[b]? = w.heap[b]?) → Inv 0 w1) : MSt wb w.heap.size c1 c2 n 0 0 bits Inv #[] #[] w2 := by
  obtain ⟨t1, t2⟩ := two_chans w
  have hz : (((w.alloc (.chan 1 #[] false 0 0 false)).alloc (.chan 1 #[] false 0 0 false)).drew).heap.size = w.heap.size + 2 := by simp
  have hb2 : Below w.heap.size w w2 := by rw [hw2]; exact bel_step (bel_step (bel_alloc _ _) (bel_alloc _ _)).drew (bel_alloc _ _)
  have hk : ∀ j, j < w.heap.size + 2 → w2.heap[j]? = (((w.alloc (.chan 1 #[] false 0 0 false)).alloc (.chan 1 #[] false 0 0 false)).drew).heap[j]? := fun j hj => by
    rw [hw2]; exact heap_alloc_old _ _ (by rw [hz]; exact hj)
  have e1 : w2.heap[w.heap.size]? = some (.chan 1 #[] false 0 0 false) := (hk _ (by omega)).trans t1
  have e2 : w2.heap[w.heap.size + 1]? = some (.chan 1 #[] false 0 0 false) := (hk _ (by omega)).trans t2
  refine ⟨?_, ?_, hcc, ?_, h0 _ fun b hbb => hb2.block b hbb, bel_step hb hb2, ?_, hb.size⟩
  · rcases hcc with ⟨rfl, rfl⟩ | ⟨rfl, rfl⟩
    · exact ⟨_, _, e1⟩
    · exact ⟨_, _, e2⟩
  · rcases hcc with ⟨rfl, rfl⟩ | ⟨rfl, rfl⟩
    · exact ⟨_, _, e2⟩
    · exact ⟨_, _, e1⟩
  · rw [upTo_zero, tab_len, ← hz, hw2]; exact heap_alloc_new _ _
  · rw [hw2]; simp


def innerOf : Code → Code
  | .seq _ c => c
  | c => c
set_option maxHeartbeats 8000000 in
theorem modulate_scope (gl gs : Nat) (ll ls : Array Value) (el : ∀ (args : Array Value) (w : World), (callFunc gl args).run Try.prog w = .ok (.enter gl args) w) (es : ∀ (args : Array Value) (w : World), (callFunc gs args).run Try.prog w = .ok (.enter gs args) w) (wb w : World) (aa : Option Addr) (n cap : Nat) (s : List Int) (hn : n = s.length) (hrd : Rd wb aa s) (hl' : n ≤ 200) (L : Nat → Int) (Inv : Nat → World → Prop) (M : Mod Try.prog wb w.heap.size gl gs ll ls s L Inv) (hbw : Below wb.heap.size wb w) (h0 : ∀ w1 : World, (∀ b, b < w.heap.size → w1.heap[b]? = w.heap[b]?) → Inv 0 w1) :
    wpN Try.prog (innerOf (Try.f80.body.getD .skip)) (bodyPost Try.prog Try.f80 fun e w' => e = .returned (.slice (some ⟨w.heap.size + 2, 0, none⟩) s.length s.length) ∧ Blk 3 w' (w.heap.size + 2) (tab s.length (fun i => biI (L i))) ∧ Inv s.length w' ∧ Below wb.heap.size wb w') { tmps := #[.slice aa n cap, .func (.func gl) #[] ll, .func (.func gs) #[] ls, undef, undef, undef, .slice none 0 0, undef, undef, undef, undef, undef, undef, undef, undef, undef, undef, undef, undef, undef, undef, undef, undef, undef, undef, undef, undef, undef, undef, undef, undef, undef, undef, undef, undef, undef, undef, undef, undef, undef, undef, undef, undef, undef, undef, undef, undef, undef], defers := [] } w := by
  have Hn := hid hn
  have Hrd := hid hrd
  have HMod := hid M
  have Hbw := hid hbw
  have H0 := hid h0
  have hmc := mkChan
  have hmk := run_make_ints (P := Try.prog) 24 3 uslice iint n (by omega)
  clear hn hrd M hbw h0
  conv => arg 2; simp only [innerOf, Try.f80, Option.getD]
  refine wpN_scope_many (fun l m a' wq => ∃ (ci : Int) (c c1 c2 : Nat) (u11 u12 u13 u14 u15 u16 u17 u18 u19 u20 u21 u22 u23 u24 u25 u26 u27 u28 u29 u30 u31 u32 u33 u34 u35 u36 u37 u38 u39 u40 u41 u42 u43 u44 u45 u46 u47 : Value), a' = { tmps := #[.slice aa n cap, .func (.func gl) #[] ll, .func (.func gs) #[] ls, undef, undef, undef, .slice none 0 0, .chan (some c1), .chan (some c2), .slice (some ⟨w.heap.size + 2, 0, none⟩) n n, .int .i64 ci, u11, u12, u13, u14, u15, u16, u17, u18, u19, u20, u21, u22, u23, u24, u25, u26, u27, u28, u29, u30, u31, u32, u33, u34, u35, u36, u37, u38, u39, u40, u41, u42, u43, u44, u45, u46, u47], defers := [] } ∧ ci = (c : Int) ∧ c ≤ n ∧
    ((l = 1 ∧ m = 4 * (n - c) + 3 ∧ MSt wb w.heap.size c1 c2 n c c (fun i => biI (L i)) Inv #[] #[] wq) ∨
     (l = 3 ∧ m = 4 * (n - c) + 2 ∧ c < n ∧ 0 ≤ L c ∧ MSt wb w.heap.size c1 c2 n c c (fun i => biI (L i)) Inv #[] #[] wq) ∨
     (l = 2 ∧ m = 4 * (n - c) + 2 ∧ c < n ∧ L c < 0 ∧ MSt wb w.heap.size c1 c2 n c c (fun i => biI (L i)) Inv #[] #[] wq) ∨
     (l = 4 ∧ m = 4 * (n - c) + 1 ∧ c < n ∧ 0 ≤ L c ∧ MSt wb w.heap.size c1 c2 n c c (fun i => biI (L i)) Inv #[.int .i64 1] #[] wq) ∨
     (l = 4 ∧ m = 4 * (n - c) + 1 ∧ c < n ∧ L c < 0 ∧ MSt wb w.heap.size c1 c2 n c c (fun i => biI (L i)) Inv #[] #[.int .i64 (-1)] wq) ∨
     (l = 0 ∧ m = 0 ∧ c = n ∧ MSt wb w.heap.size c1 c2 n c c (fun i => biI (L i)) Inv #[] #[] wq))) ?_ ?_
  · refine wpN_of ?_
    go_wp2_with fail
    go_region
    · obtain ⟨c1, hc1⟩ : ∃ c1, c1 = w.heap.size := ⟨_, rfl⟩
      obtain ⟨c2, hc2⟩ : ∃ c2, c2 = w.heap.size + 1 := ⟨_, rfl⟩
      have hM := MSt.start (c1 := c1) (c2 := c2) (n := n) (bits := fun i => biI (L i)) (.inl ⟨hc1, hc2⟩) rfl Hbw.out H0.out (P := Try.prog) (gl := gl) (gs := gs) (ll := ll) (ls := ls) (s := s) (L := L)
      have hWz : (((w.alloc (.chan 1 #[] false 0 0 false)).alloc (.chan 1 #[] false 0 0 false)).drew).heap.size = w.heap.size + 2 := by simp
      rw [← hc2, ← hc1]
      generalize ((w.alloc (.chan 1 #[] false 0 0 false)).alloc (.chan 1 #[] false 0 0 false)).drew = W at hM hWz ⊢
      have HM := hid hM
      clear hM hc1 hc2 hmc
      go_wp2
      go_step3
      by_cases hcn : 0 = n
      · have hcn2 : (0 : Int) = (n : Int) := by omega
        have hq : ((0 : Int) == (n : Int)) = true := by rw [beq_iff_eq]; exact hcn2
        have Hcn := hid hcn
        clear hcn2 hcn
        go_wp2
        go_step3
        exact ⟨0, (0 : Int), 0, c1, c2, _, _, _, _, _, _, _, _, _, _, _, _, _, _, _, _, _, _, _, _, _, _, _, _, _, _, _, _, _, _, _, _, _, _, _, _, _, rfl, by omega, by omega, .inr (.inr (.inr (.inr (.inr (⟨rfl, rfl, Hcn.out, HM.out⟩)))))⟩
      · have hlk : 0 < n := by omega
        obtain ⟨x, hkx⟩ := get_lt s 0 (by rw [← Hn.out]; exact hlk)
        obtain ⟨bb, oo, hix, hbb, hce⟩ := (Hrd.out.kept HM.out.bel).at (P := Try.prog) (T := 24) n cap uslice sone hkx hlk
        rw [show ((0 : Nat) : Int) = 0 from rfl] at hix
        have hcn2 : (0 : Int) ≠ (n : Int) := by omega
        have hq : ((0 : Int) == (n : Int)) = false := by rw [beq_eq_false_iff_ne]; exact hcn2
        have Hkx := hid hkx
        have hlv := fun W (hI : Inv 0 W) => HMod.out.level 0 x W hI Hkx.out
        have Hlv := hid hlv
        clear hkx hcn hcn2 hlv
        by_cases hL : 0 ≤ L 0
        · have HL := hid hL
          generalize hLc : L 0 = lc at Hlv hL ⊢
          clear hLc
          go_wp2_with (go_at_fn gl; refine (Hlv.out _ HM.out.inv).mono ?_; rintro e w' ⟨rfl, rfl⟩)
          go_step3
          exact ⟨4 * (n - 0) + 2, (0 : Int), 0, c1, c2, _, _, _, _, _, _, _, _, _, _, _, _, _, _, _, _, _, _, _, _, _, _, _, _, _, _, _, _, _, _, _, _, _, _, _, _, _, rfl, by omega, by omega, .inr (.inl ⟨rfl, rfl, hlk, HL.out, HM.out⟩)⟩
        · have hL2 : L 0 < 0 := by omega
          have HL := hid hL2
          clear hL
          generalize hLc : L 0 = lc at Hlv hL2 ⊢
          clear hLc
          go_wp2_with (go_at_fn gl; refine (Hlv.out _ HM.out.inv).mono ?_; rintro e w' ⟨rfl, rfl⟩)
          go_step3
          exact ⟨4 * (n - 0) + 2, (0 : Int), 0, c1, c2, _, _, _, _, _, _, _, _, _, _, _, _, _, _, _, _, _, _, _, _, _, _, _, _, _, _, _, _, _, _, _, _, _, _, _, _, _, rfl, by omega, by omega, .inr (.inr (.inl ⟨rfl, rfl, hlk, HL.out, HM.out⟩))⟩
    · obtain ⟨c1, hc1⟩ : ∃ c1, c1 = w.heap.size + 1 := ⟨_, rfl⟩
      obtain ⟨c2, hc2⟩ : ∃ c2, c2 = w.heap.size := ⟨_, rfl⟩
      have hM := MSt.start (c1 := c1) (c2 := c2) (n := n) (bits := fun i => biI (L i)) (.inr ⟨hc1, hc2⟩) rfl Hbw.out H0.out (P := Try.prog) (gl := gl) (gs := gs) (ll := ll) (ls := ls) (s := s) (L := L)
      have hWz : (((w.alloc (.chan 1 #[] false 0 0 false)).alloc (.chan 1 #[] false 0 0 false)).drew).heap.size = w.heap.size + 2 := by simp
      rw [← hc1, ← hc2]
      generalize ((w.alloc (.chan 1 #[] false 0 0 false)).alloc (.chan 1 #[] false 0 0 false)).drew = W at hM hWz ⊢
      have HM := hid hM
      clear hM hc1 hc2 hmc
      go_wp2
      go_step3
      by_cases hcn : 0 = n
      · have hcn2 : (0 : Int) = (n : Int) := by omega
        have hq : ((0 : Int) == (n : Int)) = true := by rw [beq_iff_eq]; exact hcn2
        have Hcn := hid hcn
        clear hcn2 hcn
        go_wp2
        go_step3
        exact ⟨0, (0 : Int), 0, c1, c2, _, _, _, _, _, _, _, _, _, _, _, _, _, _, _, _, _, _, _, _, _, _, _, _, _, _, _, _, _, _, _, _, _, _, _, _, _, rfl, by omega, by omega, .inr (.inr (.inr (.inr (.inr (⟨rfl, rfl, Hcn.out, HM.out⟩)))))⟩
      · have hlk : 0 < n := by omega
        obtain ⟨x, hkx⟩ := get_lt s 0 (by rw [← Hn.out]; exact hlk)
        obtain ⟨bb, oo, hix, hbb, hce⟩ := (Hrd.out.kept HM.out.bel).at (P := Try.prog) (T := 24) n cap uslice sone hkx hlk
        rw [show ((0 : Nat) : Int) = 0 from rfl] at hix
        have hcn2 : (0 : Int) ≠ (n : Int) := by omega
        have hq : ((0 : Int) == (n : Int)) = false := by rw [beq_eq_false_iff_ne]; exact hcn2
        have Hkx := hid hkx
        have hlv := fun W (hI : Inv 0 W) => HMod.out.level 0 x W hI Hkx.out
        have Hlv := hid hlv
        clear hkx hcn hcn2 hlv
        by_cases hL : 0 ≤ L 0
        · have HL := hid hL
          generalize hLc : L 0 = lc at Hlv hL ⊢
          clear hLc
          go_wp2_with (go_at_fn gl; refine (Hlv.out _ HM.out.inv).mono ?_; rintro e w' ⟨rfl, rfl⟩)
          go_step3
          exact ⟨4 * (n - 0) + 2, (0 : Int), 0, c1, c2, _, _, _, _, _, _, _, _, _, _, _, _, _, _, _, _, _, _, _, _, _, _, _, _, _, _, _, _, _, _, _, _, _, _, _, _, _, rfl, by omega, by omega, .inr (.inl ⟨rfl, rfl, hlk, HL.out, HM.out⟩)⟩
        · have hL2 : L 0 < 0 := by omega
          have HL := hid hL2
          clear hL
          generalize hLc : L 0 = lc at Hlv hL2 ⊢
          clear hLc
          go_wp2_with (go_at_fn gl; refine (Hlv.out _ HM.out.inv).mono ?_; rintro e w' ⟨rfl, rfl⟩)
          go_step3
          exact ⟨4 * (n - 0) + 2, (0 : Int), 0, c1, c2, _, _, _, _, _, _, _, _, _, _, _, _, _, _, _, _, _, _, _, _, _, _, _, _, _, _, _, _, _, _, _, _, _, _, _, _, _, rfl, by omega, by omega, .inr (.inr (.inl ⟨rfl, rfl, hlk, HL.out, HM.out⟩))⟩
  rintro l m a' wq ⟨ci, c, c1, c2, u11, u12, u13, u14, u15, u16, u17, u18, u19, u20, u21, u22, u23, u24, u25, u26, u27, u28, u29, u30, u31, u32, u33, u34, u35, u36, u37, u38, u39, u40, u41, u42, u43, u44, u45, u46, u47, rfl, rfl, hc, hd⟩
  clear hmk hmc
  rcases hd with ⟨rfl, rfl, hM⟩ | ⟨rfl, rfl, hlk, hL, hM⟩ | ⟨rfl, rfl, hlk, hL, hM⟩ | ⟨rfl, rfl, hlk, hL, hM⟩ | ⟨rfl, rfl, hlk, hL, hM⟩ | ⟨rfl, rfl, hcn, hM⟩
  · have HM := hid hM
    clear hM
    refine ⟨_, rfl, wpN_of ?_⟩
    by_cases hcn : c = n
    · have hcn2 : (c : Int) = (n : Int) := by omega
      have hq : ((c : Int) == (n : Int)) = true := by rw [beq_iff_eq]; exact hcn2
      have Hcn := hid hcn
      clear hcn2 hcn
      go_wp2
      go_step3
      exact ⟨0, by omega, (c : Int), c, c1, c2, _, _, _, _, _, _, _, _, _, _, _, _, _, _, _, _, _, _, _, _, _, _, _, _, _, _, _, _, _, _, _, _, _, _, _, _, _, rfl, by omega, by omega, .inr (.inr (.inr (.inr (.inr (⟨rfl, rfl, Hcn.out, HM.out⟩)))))⟩
    · have hlk : c < n := by omega
      obtain ⟨x, hkx⟩ := get_lt s c (by rw [← Hn.out]; exact hlk)
      obtain ⟨bb, oo, hix, hbb, hce⟩ := (Hrd.out.kept HM.out.bel).at (P := Try.prog) (T := 24) n cap uslice sone hkx hlk
      have hcn2 : (c : Int) ≠ (n : Int) := by omega
      have hq : ((c : Int) == (n : Int)) = false := by rw [beq_eq_false_iff_ne]; exact hcn2
      have Hkx := hid hkx
      have hlv := fun W (hI : Inv c W) => HMod.out.level c x W hI Hkx.out
      have Hlv := hid hlv
      clear hkx hcn hcn2 hlv
      by_cases hL : 0 ≤ L c
      · have HL := hid hL
        generalize hLc : L c = lc at Hlv hL ⊢
        clear hLc
        go_wp2_with (go_at_fn gl; refine (Hlv.out _ HM.out.inv).mono ?_; rintro e w' ⟨rfl, rfl⟩)
        go_step3
        exact ⟨4 * (n - c) + 2, by omega, (c : Int), c, c1, c2, _, _, _, _, _, _, _, _, _, _, _, _, _, _, _, _, _, _, _, _, _, _, _, _, _, _, _, _, _, _, _, _, _, _, _, _, _, rfl, by omega, by omega, .inr (.inl ⟨rfl, rfl, hlk, HL.out, HM.out⟩)⟩
      · have hL2 : L c < 0 := by omega
        have HL := hid hL2
        clear hL
        generalize hLc : L c = lc at Hlv hL2 ⊢
        clear hLc
        go_wp2_with (go_at_fn gl; refine (Hlv.out _ HM.out.inv).mono ?_; rintro e w' ⟨rfl, rfl⟩)
        go_step3
        exact ⟨4 * (n - c) + 2, by omega, (c : Int), c, c1, c2, _, _, _, _, _, _, _, _, _, _, _, _, _, _, _, _, _, _, _, _, _, _, _, _, _, _, _, _, _, _, _, _, _, _, _, _, _, rfl, by omega, by omega, .inr (.inr (.inl ⟨rfl, rfl, hlk, HL.out, HM.out⟩))⟩
  · have HM := hid hM
    clear hM
    have HL := hid hL
    clear hL
    refine ⟨_, rfl, ?_⟩
    obtain ⟨s1, r1, hch⟩ := HM.out.ch1
    refine wpN_seq (wpN_of ?_)
    go_wp2
    refine wpN_seq (wpN_region ?_)
    show opsN _ _ _ [0, 1] _ _
    refine opsN_valD 27 (.chan (some c1)) rfl rfl rfl (by simp [go_sem, execOp, Act.eval]) ?_
    refine opsN_sendD (c := c1) (v := .int .i64 1) (z := .tuple #[]) (cap := 1) (buf := #[]) (s := s1) (r := r1) (tm := false) rfl rfl rfl (by simp [go_sem, execOp, Act.eval, scase]) hch (by decide) ?_
    refine opsN_nil ?_
    simp only [Exit.then, List.setIfInBounds_toArray]
    refine wpN_of ?_
    have hM2 := HM.out.chan1 HMod.out #[.int .i64 1] (s1 + 1) r1
    have HM2 := hid hM2
    clear hM2 hch
    go_wp2
    go_step3
    exact ⟨4 * (n - c) + 1, by omega, (c : Int), c, c1, c2, _, _, _, _, _, _, _, _, _, _, _, _, _, _, _, _, _, _, _, _, _, _, _, _, _, _, _, _, _, _, _, _, _, _, _, _, _, rfl, by omega, by omega, .inr (.inr (.inr (.inl ⟨rfl, rfl, hlk, HL.out, HM2.out⟩)))⟩
  · have HM := hid hM
    clear hM
    have HL := hid hL
    clear hL
    refine ⟨_, rfl, ?_⟩
    obtain ⟨s1, r1, hch⟩ := HM.out.ch2
    refine wpN_seq (wpN_of ?_)
    go_wp2
    refine wpN_seq (wpN_region ?_)
    show opsN _ _ _ [0, 1] _ _
    refine opsN_valD 28 (.chan (some c2)) rfl rfl rfl (by simp [go_sem, execOp, Act.eval]) ?_
    refine opsN_sendD (c := c2) (v := .int .i64 (-1)) (z := .tuple #[]) (cap := 1) (buf := #[]) (s := s1) (r := r1) (tm := false) rfl rfl rfl (by simp [go_sem, execOp, Act.eval, scase]) hch (by decide) ?_
    refine opsN_nil ?_
    simp only [Exit.then, List.setIfInBounds_toArray]
    refine wpN_of ?_
    have hM2 := HM.out.chan2 HMod.out #[.int .i64 (-1)] (s1 + 1) r1
    have HM2 := hid hM2
    clear hM2 hch
    go_wp2
    go_step3
    exact ⟨4 * (n - c) + 1, by omega, (c : Int), c, c1, c2, _, _, _, _, _, _, _, _, _, _, _, _, _, _, _, _, _, _, _, _, _, _, _, _, _, _, _, _, _, _, _, _, _, _, _, _, _, rfl, by omega, by omega, .inr (.inr (.inr (.inr (.inl ⟨rfl, rfl, hlk, HL.out, HM2.out⟩))))⟩
  · have HM := hid hM
    clear hM
    have HL := hid hL
    clear hL
    refine ⟨_, rfl, wpN_of ?_⟩
    obtain ⟨s1, r1, h1⟩ := HM.out.ch1
    obtain ⟨s2, r2, h2⟩ := HM.out.ch2
    have hne : c1 ≠ c2 := by have := HM.out.cc; omega
    obtain ⟨x, hkx⟩ := get_lt s c (by rw [← Hn.out]; exact hlk)
    have hbit : biI (L c) = 1 := biI_t HL.out
    have hst := fun W (hI : Inv c W) (hz : w.heap.size + 3 ≤ W.heap.size) => HMod.out.settle c x W hI hkx hz
    rw [hbit] at hst
    have Hst := hid hst
    have Hbit := hid hbit
    have Hkx := hid hkx
    have H1 := hid h1
    have H2 := hid h2
    clear hkx hst hbit h1 h2
    go_wp2_with (go_at_call 89; refine (bitOf_0 c1 c2 s1 r1 s2 r2 _ hne H1.out H2.out).mono ?_; rintro e w4 ⟨rfl, hw4⟩; have hM4 := HM.out.chan1 HMod.out #[] s1 (r1 + 1); rw [← hw4] at hM4; have hcd : w4.cell? ⟨w.heap.size + 2, c, none⟩ = some (.int .i64 0) := hM4.blk.cell (upTo_get (tab n (fun i => biI (L i))) c (by rw [tab_len]; exact hlk)); have hfd := hM4.blk.free c; have HM4 := hid hM4; clear hM4 hw4)
    have hM5 := HM4.out.store HMod.out hlk (x := 1) Hbit.out.symm
    generalize w4.setCell ⟨w.heap.size + 2, c, none⟩ (.int .i64 1) = w5 at hM5 ⊢
    obtain ⟨bb, oo, hix, hbb, hce⟩ := (Hrd.out).at (P := Try.prog) (T := 24) n cap uslice sone Hkx.out hlk
    have hcb : ∀ W : World, MSt wb w.heap.size c1 c2 n (c + 1) c (fun i => biI (L i)) Inv #[] #[] W → W.cell? ⟨w.heap.size + 2, c, none⟩ = some (.int .i64 1) := fun W h => h.blk.cell (by rw [upTo_at n c _ hlk, Hbit.out])
    have Hcb := hid hcb
    have hce0 := hid hce
    have hS : w5.cell? ⟨bb, oo, none⟩ = some (.int .i64 x) ∧ w5.cell? ⟨w.heap.size + 2, c, none⟩ = some (.int .i64 1) := ⟨by rw [hM5.bel.cell (by exact hbb)]; exact hce, hcb _ hM5⟩
    have hz5 := hM5.size
    have HM5 := hid hM5
    clear hM5 hcd hfd hcb hce
    go_wp2_with fail
    go_region_held3 (fun W => W.cell? ⟨bb, oo, none⟩ = some (.int .i64 x) ∧ W.cell? ⟨w.heap.size + 2, c, none⟩ = some (.int .i64 1)) (first | exact hS | assumption | go_keep) (first | (go_at_fn gs; refine (Hst.out _ (HM5.out.drew HMod.out).inv hz5).mono ?_; rintro e w6 ⟨rfl, hi6, hb6, hl6⟩; have hM6 := (HM5.out.drew HMod.out).after hi6 hb6 hl6; have hS : w6.cell? ⟨bb, oo, none⟩ = some (.int .i64 x) ∧ w6.cell? ⟨w.heap.size + 2, c, none⟩ = some (.int .i64 1) := ⟨by rw [hM6.bel.cell (by exact hbb)]; exact hce0.out, by rw [show w6.cell? ⟨w.heap.size + 2, c, none⟩ = w5.cell? ⟨w.heap.size + 2, c, none⟩ from World.cell?_of_block (hb6 (w.heap.size + 2) (by omega) (by omega))]; exact hS.2⟩; have HM6 := hid hM6; clear hM6 hi6 hb6 hl6))
    all_goals go_wp2
    all_goals go_step3
    all_goals exact ⟨4 * (n - (c + 1)) + 3, by omega, ((c : Int) + 1), (c + 1), c1, c2, _, _, _, _, _, _, _, _, _, _, _, _, _, _, _, _, _, _, _, _, _, _, _, _, _, _, _, _, _, _, _, _, _, _, _, _, _, rfl, by omega, by omega, .inl ⟨rfl, rfl, HM6.out⟩⟩
  · have HM := hid hM
    clear hM
    have HL := hid hL
    clear hL
    refine ⟨_, rfl, wpN_of ?_⟩
    obtain ⟨s1, r1, h1⟩ := HM.out.ch1
    obtain ⟨s2, r2, h2⟩ := HM.out.ch2
    have hne : c1 ≠ c2 := by have := HM.out.cc; omega
    obtain ⟨x, hkx⟩ := get_lt s c (by rw [← Hn.out]; exact hlk)
    have hbit : biI (L c) = (-1) := biI_f HL.out
    have hst := fun W (hI : Inv c W) (hz : w.heap.size + 3 ≤ W.heap.size) => HMod.out.settle c x W hI hkx hz
    rw [hbit] at hst
    have Hst := hid hst
    have Hbit := hid hbit
    have Hkx := hid hkx
    have H1 := hid h1
    have H2 := hid h2
    clear hkx hst hbit h1 h2
    go_wp2_with (go_at_call 89; refine (bitOf_1 c1 c2 s1 r1 s2 r2 _ hne H1.out H2.out).mono ?_; rintro e w4 ⟨rfl, hw4⟩; have hM4 := HM.out.chan2 HMod.out #[] s2 (r2 + 1); rw [← hw4] at hM4; have hcd : w4.cell? ⟨w.heap.size + 2, c, none⟩ = some (.int .i64 0) := hM4.blk.cell (upTo_get (tab n (fun i => biI (L i))) c (by rw [tab_len]; exact hlk)); have hfd := hM4.blk.free c; have HM4 := hid hM4; clear hM4 hw4)
    have hM5 := HM4.out.store HMod.out hlk (x := (-1)) Hbit.out.symm
    generalize w4.setCell ⟨w.heap.size + 2, c, none⟩ (.int .i64 (-1)) = w5 at hM5 ⊢
    obtain ⟨bb, oo, hix, hbb, hce⟩ := (Hrd.out).at (P := Try.prog) (T := 24) n cap uslice sone Hkx.out hlk
    have hcb : ∀ W : World, MSt wb w.heap.size c1 c2 n (c + 1) c (fun i => biI (L i)) Inv #[] #[] W → W.cell? ⟨w.heap.size + 2, c, none⟩ = some (.int .i64 (-1)) := fun W h => h.blk.cell (by rw [upTo_at n c _ hlk, Hbit.out])
    have Hcb := hid hcb
    have hce0 := hid hce
    have hS : w5.cell? ⟨bb, oo, none⟩ = some (.int .i64 x) ∧ w5.cell? ⟨w.heap.size + 2, c, none⟩ = some (.int .i64 (-1)) := ⟨by rw [hM5.bel.cell (by exact hbb)]; exact hce, hcb _ hM5⟩
    have hz5 := hM5.size
    have HM5 := hid hM5
    clear hM5 hcd hfd hcb hce
    go_wp2_with fail
    go_region_held3 (fun W => W.cell? ⟨bb, oo, none⟩ = some (.int .i64 x) ∧ W.cell? ⟨w.heap.size + 2, c, none⟩ = some (.int .i64 (-1))) (first | exact hS | assumption | go_keep) (first | (go_at_fn gs; refine (Hst.out _ (HM5.out.drew HMod.out).inv hz5).mono ?_; rintro e w6 ⟨rfl, hi6, hb6, hl6⟩; have hM6 := (HM5.out.drew HMod.out).after hi6 hb6 hl6; have hS : w6.cell? ⟨bb, oo, none⟩ = some (.int .i64 x) ∧ w6.cell? ⟨w.heap.size + 2, c, none⟩ = some (.int .i64 (-1)) := ⟨by rw [hM6.bel.cell (by exact hbb)]; exact hce0.out, by rw [show w6.cell? ⟨w.heap.size + 2, c, none⟩ = w5.cell? ⟨w.heap.size + 2, c, none⟩ from World.cell?_of_block (hb6 (w.heap.size + 2) (by omega) (by omega))]; exact hS.2⟩; have HM6 := hid hM6; clear hM6 hi6 hb6 hl6))
    all_goals go_wp2
    all_goals go_step3
    all_goals exact ⟨4 * (n - (c + 1)) + 3, by omega, ((c : Int) + 1), (c + 1), c1, c2, _, _, _, _, _, _, _, _, _, _, _, _, _, _, _, _, _, _, _, _, _, _, _, _, _, _, _, _, _, _, _, _, _, _, _, _, _, rfl, by omega, by omega, .inl ⟨rfl, rfl, HM6.out⟩⟩
  · have HM := hid hM
    clear hM
    refine ⟨_, rfl, wpN_of ?_⟩
    have Hcn := hid hcn
    clear hcn
    go_wp2
    simp only [Exit.jumps]
    go_ret
    have hb := HM.out.blk
    have hi := HM.out.inv
    rw [Hcn.out] at hb hi
    rw [show upTo (tab n (fun i => biI (L i))) n = tab n (fun i => biI (L i)) from by have := upTo_full (tab n (fun i => biI (L i))); rwa [tab_len] at this] at hb
    have hbl := HM.out.bel
    rw [Hn.out] at hb hi
    exact ⟨by rw [Hn.out]; rfl, hb, hi, hbl⟩

set_option maxHeartbeats 2000000 in
theorem modulate_any (gl gs : Nat) (ll ls : Array Value) (el : ∀ (args : Array Value) (w : World), (callFunc gl args).run Try.prog w = .ok (.enter gl args) w) (es : ∀ (args : Array Value) (w : World), (callFunc gs args).run Try.prog w = .ok (.enter gs args) w) (wb w : World) (v : Value) (s : List Int) (hs : Sl wb v s) (hbw : Below wb.heap.size wb w) (hl : s.length ≤ 200) (L : Nat → Int) (Inv : Nat → World → Prop) (M : Mod Try.prog wb w.heap.size gl gs ll ls s L Inv) (h0 : ∀ w1 : World, (∀ b, b < w.heap.size → w1.heap[b]? = w.heap[b]?) → Inv 0 w1) :
    Calls Try.prog 80 #[v, .func (.func gl) #[] ll, .func (.func gs) #[] ls] w fun e w' => e = .returned (.slice (some ⟨w.heap.size + 2, 0, none⟩) s.length s.length) ∧ Blk 3 w' (w.heap.size + 2) (tab s.length (fun i => biI (L i))) ∧ Inv s.length w' ∧ Below wb.heap.size wb w' := by
  obtain ⟨aa, n, cap, rfl, hn, hrd⟩ := id hs.rd
  have Hn := hid hn
  have Hrd := hid hrd
  have Hbw := hid hbw
  have HMod := hid M
  have H0 := hid h0
  have hl' : n ≤ 200 := by omega
  have hmc := mkChan
  clear hs hn hrd hbw M h0 hl
  refine calls_of_wpN Try.func80 rfl ?_
  simp only [Try.ntmps80, List.size_toArray, List.length_cons, List.length_nil, Nat.reduceAdd, Nat.reduceSub, Array.replicate_succ,
     Array.replicate_zero, List.push_toArray, List.append_toArray, List.nil_append, List.cons_append]
  refine wpN_seq (wpN_of ?_)
  go_wp2
  exact modulate_scope gl gs ll ls el es wb w aa n cap s Hn.out Hrd.out hl' L Inv HMod.out Hbw.out H0.out

end Go.Proofs.Ytbhlailnefappaa
