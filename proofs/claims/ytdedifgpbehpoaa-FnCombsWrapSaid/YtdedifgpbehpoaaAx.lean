
import Derived.Test.YtdedifgpbehpoaaWg
import Derived.Test.YtdedifgpbehpoaaWin
import Derived.Shelf.Abstract
import Derived.Deep.QuietTactic
import Derived.BigQuiet
namespace Go.Proofs.Ytdedifgpbehpoaa
open Go.RowKit BitX Go.MemX
set_option linter.unusedVariables false


/-- what a call leaves that hands back a part of what is there -/
def GivesSl (w : World) (xs : List Int) (e : Ending) (w' : World) : Prop := ∃ v, e = .returned v ∧ Sl w v xs ∧ w = w'
/-- a function value with captured variables makes of the samples that so many weights reach at each place n the number G n -/
def FilAt (P : Program) (g : Nat) (lb : Array Value) (s : List Int) (m : Nat) (G : Nat → Int) (w : World) : Prop :=
  ∀ (W : World) (n : Nat) (v : Value), n < s.length → Below w.heap.size w W → Sl W v (win s n m) → Calls P g (#[v] ++ lb) W fun e w' => e = .returned (.int .i64 (G n)) ∧ Below W.heap.size W w'
theorem RowB.owns {E : TypeId} {w : World} {g cap B : Nat} {xs : List Int} (h : RowB E w g cap xs) (hB : B ≤ g) (hc : cap ≤ maxLen) : w.ownsRow B E 1 (.slice (some ⟨g, 0, none⟩) xs.length cap) xs.length (xs.map (Value.int .i64)) := by
  obtain ⟨cur, h1, h2, h3, h4⟩ := h
  exact ⟨by simp, .inr ⟨g, cap, cur, rfl, hB, h1, h3, hc, by omega, by simpa using h4⟩⟩
theorem enterEx : Go.Proofs.Enters Try.prog 75 := enters_of Try.func75 (by kernel_rfl) rfl
theorem mkFunc : ∀ (fn : Fn) (first cap : Array Value) (w : World), (Instr.makeFunc fn first cap).run Try.prog w = .ok (.func fn first cap) w := fun _ _ _ _ => rfl


set_option maxHeartbeats 1000000 in
theorem exact_clo (gh : Nat) (v hv : Value) (h r : List Int) (w : World) (hc : w.cell? ⟨gh, 0, none⟩ = some hv) (hh : Sl w hv h) (hr : Sl w v r) (hl : r.length ≤ h.length) (hl9 : h.length ≤ 9) (hi : InP (-1000) 1000 h) (hj : InP (-100000) 100000 r) :
    Calls Try.prog 75 #[v, .pointer (some ⟨gh, 0, none⟩)] w fun e w' => e = .returned (.int .i64 (filt h r)) ∧ Below w.heap.size w w' := by
  obtain ⟨a, n, cap, rfl, hn, hrd⟩ := hr.rd
  obtain ⟨a2, n2, cap2, rfl, hn2, hrd2⟩ := hh.rd
  have Hn := hid hn
  have Hn2 := hid hn2
  have Hrd := hid hrd
  have Hrd2 := hid hrd2
  have hl' : n ≤ 9 := by omega
  have hl2 : n ≤ n2 := by omega
  have hl3 : n2 ≤ 9 := by omega
  have Hi := hid hi
  have Hj := hid hj
  have Hc := hid hc
  have hg0 : gh < w.heap.size := block_lt_of_cell hc
  clear hn hn2 hrd hrd2 hr hh hl hl9 hi hj hc
  go_enter Try.func75, Try.ntmps75
  go_wp2_with fail
  go_loopw [4, 12] (fun s0 i wr => ∃ k : Nat, k ≤ n ∧ i = .int .i64 k ∧ s0 = .int .i64 (sumF k (fun k => at0 h k * at0 r (n - 1 - k))) ∧ Below w.heap.size w wr)
    (fun _ i _ => n - (intOf i).toNat)
  case atStart => exact ⟨0, by omega, rfl, rfl, Below.refl _ _⟩
  case round =>
    obtain ⟨k, hk, rfl, rfl, hb⟩ := hrel
    by_cases hlk : k < n
    · have hlj : n - 1 - k < n := by omega
      have hlk2 : k < n2 := by omega
      obtain ⟨x, hkx⟩ := get_lt r (n - 1 - k) (by rw [← Hn.out]; exact hlj)
      obtain ⟨y, hky⟩ := get_lt h k (by rw [← Hn2.out]; exact hlk2)
      obtain ⟨bb, oo, hix, hbb, hce⟩ := (Hrd.out.kept hb).at (P := Try.prog) (T := 24) n cap uslice sone hkx hlj
      obtain ⟨b2, o2, hix2, hbb2, hce2⟩ := (Hrd2.out.kept hb).at (P := Try.prog) (T := 24) n2 cap2 uslice sone hky hlk2
      have hch : wr.cell? ⟨gh, 0, none⟩ = some (.slice a2 n2 cap2) := by rw [hb.cell (by exact hg0)]; exact Hc.out
      obtain ⟨x1, x2⟩ := Hj.out.at hkx
      obtain ⟨y1, y2⟩ := Hi.out.at hky
      have hcast : ((n - 1 - k : Nat) : Int) = (n : Int) - 1 - k := by omega
      rw [hcast] at hix
      have hst := sumF_succ k (fun k => at0 h k * at0 r (n - 1 - k))
      rw [show at0 h k = y from at0_of hky, show at0 r (n - 1 - k) = x from at0_of hkx] at hst
      have hm := mul_in y1 y2 x1 x2 (by omega)
      have hsb := sumF_bound k (fun k => at0 h k * at0 r (n - 1 - k)) 100000000 fun i _ => by
        have a := at0_in Hi.out (by omega) (by omega) i
        have b := at0_in Hj.out (by omega) (by omega) (n - 1 - i)
        have := mul_in a.1 a.2 b.1 b.2 (by omega); omega
      have hm1 : -100000000 ≤ y * x := by omega
      have hm2 : y * x ≤ 100000000 := by omega
      generalize hz : sumF k (fun k => at0 h k * at0 r (n - 1 - k)) = z at *
      have hz1 : -900000000 ≤ z := by omega
      have hz2 : z ≤ 900000000 := by omega
      have Hst := hid hst
      clear hst hm hsb hz hkx hky hcast
      have e1 : IntKind.i64.wrap (y * x) = y * x := IntWalk.i64_in _ (by omega)
      have e2 : IntKind.i64.wrap (z + y * x) = z + y * x := IntWalk.i64_in _ (by omega)
      have e3 : IntKind.i64.wrap ((n : Int) - 1 - k) = (n : Int) - 1 - k := IntWalk.i64_in _ (by omega)
      have i1 : (0 : Int) ≤ (k : Int) := by omega
      have i2 : (k : Int) < (n : Int) := by omega
      go_wp2
      go_quiet (fail)
      clear e1 e2 e3
      go_wp2
      go_roundw
      case rel => exact ⟨k + 1, by omega, by go_num, by rw [Hst.out], below_drewN hb _⟩
      case measure => simp [intOf]; omega
    · have hge : (n : Int) ≤ (k : Int) := by omega
      have hkn : k = n := by omega
      have Hk := hid hkn
      clear hlk hkn
      go_wp2
      go_ret
      exact ⟨ret_i (by unfold filt; rw [Hk.out, ← Hn.out]), hb⟩


set_option maxHeartbeats 400000 in
theorem reached_short (v : Value) (s : List Int) (n m : Nat) (w : World) (hs : Sl w v s) (hn : n < s.length) (hls : s.length ≤ 2000000) (hm : 1 ≤ m) (hm9 : m ≤ 64) (h : n + 1 ≤ m) :
    Calls Try.prog 74 #[v, .int .i64 (n : Int), .int .i64 (m : Int)] w (GivesSl w (win s n m)) := by
  rcases hs with ⟨rfl, _⟩ | ⟨b, off, l, cap, rfl, hl, h0, hc, hlt, hx⟩
  · simp at hn
  have hsl := Sl.cut (w := w) (b := b) (off := off) (n := l) (cap := cap) (xs := s) (.inr ⟨b, off, l, cap, rfl, hl, h0, hc, hlt, hx⟩) (lo := 0) (hi := n + 1) (c2 := n + 1 - (0)) (by omega) (by omega) (Nat.le_refl _)
  have hw : win s n m = (s.take (n + 1)).drop (0) := by unfold win; congr 1; omega
  rw [← hw] at hsl
  have Hsl := hid hsl
  have hnl : n < l := by omega
  have hl6 : l ≤ 2000000 := by omega
  have f1 : (n : Int) + 1 - m ≤ 0 := by omega
  clear hsl hw hx hlt hl hn hls
  go_enter Try.func74, Try.ntmps74
  go_wp2
  go_ret
  exact ⟨_, rfl, by have := Hsl.out; simpa using this, rfl⟩


set_option maxHeartbeats 400000 in
theorem reached_long (v : Value) (s : List Int) (n m : Nat) (w : World) (hs : Sl w v s) (hn : n < s.length) (hls : s.length ≤ 2000000) (hm : 1 ≤ m) (hm9 : m ≤ 64) (h : m < n + 1) :
    Calls Try.prog 74 #[v, .int .i64 (n : Int), .int .i64 (m : Int)] w (GivesSl w (win s n m)) := by
  rcases hs with ⟨rfl, _⟩ | ⟨b, off, l, cap, rfl, hl, h0, hc, hlt, hx⟩
  · simp at hn
  have hsl := Sl.cut (w := w) (b := b) (off := off) (n := l) (cap := cap) (xs := s) (.inr ⟨b, off, l, cap, rfl, hl, h0, hc, hlt, hx⟩) (lo := n + 1 - m) (hi := n + 1) (c2 := n + 1 - (n + 1 - m)) (by omega) (by omega) (Nat.le_refl _)
  have hw : win s n m = (s.take (n + 1)).drop (n + 1 - m) := by unfold win; congr 1
  rw [← hw] at hsl
  have Hsl := hid hsl
  have hnl : n < l := by omega
  have hl6 : l ≤ 2000000 := by omega
  have f1 : 0 ≤ (n : Int) + 1 - m := by omega
  have f2 : (n : Int) + 1 - m ≤ n + 1 := by omega
  have f3 : ((n : Int) + 1 - m).toNat = n + 1 - m := by omega
  have f4 : ((n : Int) + 1).toNat = n + 1 := by omega
  clear hsl hw hx hlt hl hn hls
  go_enter Try.func74, Try.ntmps74
  go_wp2
  go_ret
  exact ⟨_, rfl, by have := Hsl.out; simpa using this, rfl⟩


theorem reached_any (v : Value) (s : List Int) (n m : Nat) (w : World) (hs : Sl w v s) (hn : n < s.length) (hls : s.length ≤ 2000000) (hm : 1 ≤ m) (hm9 : m ≤ 64) :
    Calls Try.prog 74 #[v, .int .i64 (n : Int), .int .i64 (m : Int)] w (GivesSl w (win s n m)) := by
  by_cases h : n + 1 ≤ m
  · exact reached_short v s n m w hs hn hls hm hm9 h
  · exact reached_long v s n m w hs hn hls hm hm9 (by omega)


set_option maxHeartbeats 400000 in
theorem exactFilter_any (v : Value) (h : List Int) (w : World) (hs : Sl w v h) :
    Calls Try.prog 62 #[v] w fun e w' => e = .returned (.func (.func 75) #[] #[.pointer (some ⟨w.heap.size, 0, none⟩)]) ∧ w' = w.alloc (.cells #[v] 24) := by
  obtain ⟨a, n, cap, rfl, hn, hr⟩ := hs.rd
  have hmf := mkFunc
  clear hs hn hr
  go_enter Try.func62, Try.ntmps62
  go_wp2
  go_ret
  exact ⟨rfl, rfl⟩


set_option maxHeartbeats 400000 in
theorem exactFilter_v (a : Option Addr) (n cap : Nat) (w : World) :
    Calls Try.prog 62 #[.slice a n cap] w fun e w' => e = .returned (.func (.func 75) #[] #[.pointer (some ⟨w.heap.size, 0, none⟩)]) ∧ w.alloc (.cells #[.slice a n cap] 24) = w' := by
  have hmf := mkFunc
  go_enter Try.func62, Try.ntmps62
  go_wp2
  go_ret
  exact ⟨rfl, rfl⟩


/-- the closure of a filter with these weights, seen from a world in which its variable lies -/
theorem exact_fil {gh : Nat} {hv : Value} {h s : List Int} {w : World} (hc : w.cell? ⟨gh, 0, none⟩ = some hv) (hh : Sl w hv h) (hw : WgtP h) (hj : InP (-100000) 100000 s) : FilAt Try.prog 75 #[.pointer (some ⟨gh, 0, none⟩)] s h.length (conv h s) w := by
  intro W n v hn hb hr
  have hg := block_lt_of_cell hc
  have := exact_clo gh v hv h (win s n h.length) W (by rw [hb.cell (by exact hg)]; exact hc) (hh.kept hb) hr (by rw [win_len _ _ _ hn]; omega) hw.1.2 hw.2 (fun x hx => hj x (by unfold win at hx; exact List.mem_of_mem_take (List.mem_of_mem_drop hx)))
  rw [filt_win h s n hn] at this
  exact this
theorem FilAt.later {P : Program} {g : Nat} {lb : Array Value} {s : List Int} {m : Nat} {G : Nat → Int} {w W : World} (h : FilAt P g lb s m G w) (hb : Below w.heap.size w W) : FilAt P g lb s m G W :=
  fun W' n v hn hb' => h W' n v hn (hb.trans (hb'.mono hb.size))
theorem Sl.two_two {w : World} {v : Value} {xs : List Int} (h : Sl w v xs) : ∃ a n cap, v = .slice a n cap ∧ n = xs.length := by
  obtain ⟨a, n, cap, h1, h2, _⟩ := h.rd; exact ⟨a, n, cap, h1, h2⟩


set_option maxHeartbeats 1000000 in
theorem runFilter_any (g : Nat) (lb : Array Value) (eg : ∀ (args : Array Value) (w : World), (callFunc g args).run Try.prog w = .ok (.enter g args) w) (v : Value) (s : List Int) (m : Nat) (G : Nat → Int) (w : World) (hs : Sl w v s) (hl : s.length ≤ 2000000) (hm : 1 ≤ m) (hm9 : m ≤ 64) (hf : FilAt Try.prog g lb s m G w) :
    Calls Try.prog 61 #[.func (.func g) #[] lb, .int .i64 (m : Int), v] w (GivesL w (tab s.length G)) := by
  have hs0 := hs
  obtain ⟨a, n, cap, rfl, hn, _⟩ := hs.rd
  have HS := hid hs0
  have Hn := hid hn
  have Hf := hid hf
  have hl' : n ≤ 2000000 := by omega
  have hls2 : s.length ≤ 2000000 := by omega
  have Hls := hid hls2
  have hmk := run_make_ints (P := Try.prog) 24 3 uslice iint n (by omega)
  clear hs hs0 hn hf hl hls2
  go_enter Try.func61, Try.ntmps61
  go_wp2
  go_loopw [14] (fun i wr => ∃ k : Nat, k ≤ n ∧ i = .int .i64 k ∧ Blk 3 wr w.heap.size (upTo (tab n G) k) ∧ Below w.heap.size w wr)
    (fun i _ => n - (intOf i).toNat)
  case atStart => exact ⟨0, by omega, rfl, by rw [upTo_zero, tab_len]; exact heap_alloc_new _ _, bel_alloc _ _⟩
  case round =>
    obtain ⟨k, hk, rfl, hblk, hb⟩ := hrel
    by_cases hlk : k < n
    · have hkx : (tab n G)[k]? = some (G k) := tab_get n G k hlk
      have Hkx := hid hkx
      have Hblk := hid hblk
      have hsl := HS.out.kept hb
      have Hsl := hid hsl
      have hkl : k < s.length := by rw [← Hn.out]; exact hlk
      have Hkl := hid hkl
      clear hkx hblk hsl hkl
      go_wp2_with (go_at_call 74; refine (reached_any _ s k m _ Hsl.out Hkl.out Hls.out hm hm9).mono ?_; rintro e w' ⟨v, rfl, hv, rfl⟩; have Hv := hid hv; clear hv)
      go_wp2_with (go_at_fn g; refine (Hf.out _ k v Hkl.out hb Hv.out).mono ?_; rintro e w2 ⟨rfl, hb2⟩; have hblk2 := Hblk.out.kept hb2 (Hblk.out.lt); have hcd : w2.cell? ⟨w.heap.size, k, none⟩ = some (.int .i64 0) := hblk2.cell (upTo_get (tab n G) k (by rw [tab_len]; exact hlk)); have hfd := hblk2.free k; have Hblk2 := hid hblk2; clear hblk2)
      go_wp2
      go_roundw
      case rel => exact ⟨k + 1, by omega, by go_num, by rw [← upTo_step (tab n G) k (G k) Hkx.out]; exact Hblk2.out.set k _, (hb.trans (hb2.mono hb.size)).setCell (by simp) _⟩
      case measure => simp [intOf]; omega
    · have hge : (n : Int) ≤ (k : Int) := by omega
      have hkn : k = n := by omega
      have Hk := hid hkn
      have Hblk := hid hblk
      clear hkn hlk hblk
      go_wp2
      go_ret
      refine ⟨_, rfl, ?_, hb⟩
      have := Hblk.out
      rw [Hk.out, show upTo (tab n G) n = tab n G from by have := upTo_full (tab n G); rwa [tab_len] at this] at this
      have h2 := this.res (Nat.le_refl _)
      rw [tab_len] at h2
      rw [← Hn.out]; exact h2

end Go.Proofs.Ytdedifgpbehpoaa
