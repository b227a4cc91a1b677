
import Derived.Test.YtjbpfphfajohnaaUe
import Derived.Test.YtjbpfphfajohnaaUc
namespace Go.Proofs.Ytjbpfphfajohnaa
open Go.RowKit BitX Go.MemX Go.Ch6 Go.Ch8
set_option linter.unusedVariables false
theorem gives_trans {w w3 w' : World} {xs : List Int} {ok : Bool} {e : Ending} (hb : Below w.heap.size w w3) (h : Gives w3 xs ok e w') : Gives w xs ok e w' := by
  obtain ⟨v, rfl, R, hb2⟩ := h
  exact ⟨v, rfl, R.mono hb.size, hb.trans (hb2.mono hb.size)⟩
theorem smB_def (x : Int) : smB x = decide (-100000 ≤ x ∧ x ≤ 100000) := rfl
theorem plB_sig (L : Nat) (F : Nat → Int) : plB L (fun _ => true) F = sigB (tab L F) := by
  cases h : sigB (tab L F)
  · have hn := sigB_f h
    have : ∃ k, k < L ∧ goodB (fun _ => true) F k = false := by
      refine Classical.byContradiction fun hc => hn ?_
      have hg : ∀ k, k < L → k < 64 ∧ (-100000 ≤ F k ∧ F k ≤ 100000) := fun k hk => by
        cases hb : goodB (fun _ => true) F k
        · exact absurd ⟨k, hk, hb⟩ hc
        · simpa [goodB, smB_def] using hb
      refine ⟨?_, fun x hx => ?_⟩
      · rw [tab_len]
        by_cases h0 : L ≤ 64
        · exact h0
        · have := (hg 64 (by omega)).1; omega
      · obtain ⟨k, hk⟩ := List.getElem?_of_mem hx
        have hkl : k < L := by have := (List.getElem?_eq_some_iff.1 hk).1; rwa [tab_len] at this
        rw [tab_get _ _ _ hkl] at hk
        cases hk
        exact (hg k hkl).2
    obtain ⟨k, hk, hb⟩ := this
    exact plB_f hk hb
  · have hs := sigB_t h
    refine plB_t fun j hj => ?_
    have h1 := hs.1
    rw [tab_len] at h1
    have h2 := hs.2 (F j) (List.mem_of_getElem? (tab_get L F j hj))
    simp only [goodB, smB_def, Bool.true_and, Bool.and_eq_true, decide_eq_true_eq]
    exact ⟨by omega, h2⟩
/-- a function value makes of sources and parts these numbers -/
def Made2 (P : Program) (g : Nat) (lb : Array Value) (n p q : Nat) (G : Nat → Int) (w : World) : Prop :=
  ∀ (W : World) (k : Nat), k < lenN n p q → Below w.heap.size w W → Calls P g (#[.int .i64 ((k * q / p : Nat) : Int), .int .i64 ((k * q % p : Nat) : Int)] ++ lb) W fun e W' => e = .returned (.int .i64 (G k)) ∧ Below W.heap.size W W'
theorem cell3 {w W : World} {a b c : Addr} {u v x : Value} (hb : Below w.heap.size w W) (h1 : w.cell? a = some u) (h2 : w.cell? b = some v) (h3 : w.cell? c = some x) : W.cell? a = some u ∧ W.cell? b = some v ∧ W.cell? c = some x := by
  rw [hb.cell (block_lt_of_cell h1), hb.cell (block_lt_of_cell h2), hb.cell (block_lt_of_cell h3)]
  exact ⟨h1, h2, h3⟩


theorem enterRs : Go.Proofs.Enters Try.prog 49 := enters_of Try.func49 (by kernel_rfl) rfl
set_option maxHeartbeats 1000000 in
theorem resC_any (g : Nat) (lb : Array Value) (eg : ∀ (args : Array Value) (w : World), (callFunc g args).run Try.prog w = .ok (.enter g args) w) (gm gp gq p q k : Nat) (x : Int) (w : World) (hk : k ≤ 1000) (p1 : 1 ≤ p) (p8 : p ≤ 8) (q1 : 1 ≤ q) (q8 : q ≤ 8)
    (hm : w.cell? ⟨gm, 0, none⟩ = some (.func (.func g) #[] lb)) (hp : w.cell? ⟨gp, 0, none⟩ = some (.int .i64 (p : Int))) (hq : w.cell? ⟨gq, 0, none⟩ = some (.int .i64 (q : Int)))
    (hM : ∀ W, Below w.heap.size w W → Calls Try.prog g (#[.int .i64 ((k * q / p : Nat) : Int), .int .i64 ((k * q % p : Nat) : Int)] ++ lb) W fun e W' => e = .returned (.int .i64 x) ∧ Below W.heap.size W W') :
    Calls Try.prog 49 #[.int .i64 (k : Int), .pointer (some ⟨gm, 0, none⟩), .pointer (some ⟨gp, 0, none⟩), .pointer (some ⟨gq, 0, none⟩)] w fun e w' => e = .returned (.int .i64 x) ∧ Below w.heap.size w w' := by
  have HM := hid hM
  have hS0 := fun W (hW : Below w.heap.size w W) => cell3 hW hm hp hq
  have HS := hid hS0
  have hS : w.drew.cell? ⟨gm, 0, none⟩ = some (.func (.func g) #[] lb) ∧ w.drew.cell? ⟨gp, 0, none⟩ = some (.int .i64 (p : Int)) ∧ w.drew.cell? ⟨gq, 0, none⟩ = some (.int .i64 (q : Int)) := ⟨hm, hp, hq⟩
  clear hM hS0
  go_enter Try.func49, Try.ntmps49
  go_wp2_with fail
  go_region_held3 (fun W => W.cell? ⟨gm, 0, none⟩ = some (.func (.func g) #[] lb) ∧ W.cell? ⟨gp, 0, none⟩ = some (.int .i64 (p : Int)) ∧ W.cell? ⟨gq, 0, none⟩ = some (.int .i64 (q : Int))) (first | exact hS | assumption | go_keep) (first | (go_at_call 50; refine (sourceOf_any k p q _ hk p1 p8 q1 q8).mono ?_; rintro e w2 ⟨rfl, hb2⟩; have hB : Below w.heap.size w w2 := bel_undrew hb2; have hS := HS.out _ hB) | (go_at_fn g; refine (HM.out _ hB).mono ?_; rintro e w3 ⟨rfl, hb3⟩; have hB3 := bel_step hB hb3; have hS := HS.out _ hB3))
  all_goals go_wp2
  all_goals go_ret
  all_goals exact ⟨rfl, hB3⟩


theorem alloc3_cells (w : World) (u1 u2 u3 : Value) (T1 T2 T3 : TypeId) : (((w.alloc (.cells #[u1] T1)).alloc (.cells #[u2] T2)).alloc (.cells #[u3] T3)).cell? ⟨w.heap.size, 0, none⟩ = some u1 ∧
    (((w.alloc (.cells #[u1] T1)).alloc (.cells #[u2] T2)).alloc (.cells #[u3] T3)).cell? ⟨w.heap.size + 1, 0, none⟩ = some u2 ∧ (((w.alloc (.cells #[u1] T1)).alloc (.cells #[u2] T2)).alloc (.cells #[u3] T3)).cell? ⟨w.heap.size + 1 + 1, 0, none⟩ = some u3 ∧
    Below w.heap.size w (((w.alloc (.cells #[u1] T1)).alloc (.cells #[u2] T2)).alloc (.cells #[u3] T3)) := by
  have a1 := Var1.new w u1 T1
  have a2 := Var1.new (w.alloc (.cells #[u1] T1)) u2 T2
  have a3 := Var1.new ((w.alloc (.cells #[u1] T1)).alloc (.cells #[u2] T2)) u3 T3
  have b1 := bel_alloc w (.cells #[u1] T1)
  have b2 := bel_alloc (w.alloc (.cells #[u1] T1)) (.cells #[u2] T2)
  have b3 := bel_alloc ((w.alloc (.cells #[u1] T1)).alloc (.cells #[u2] T2)) (.cells #[u3] T3)
  have c1 := (a1.kept b2 a1.lt)
  have c2 := c1.kept b3 c1.lt
  have c3 := a2.kept b3 a2.lt
  have e1 : (w.alloc (.cells #[u1] T1)).heap.size = w.heap.size + 1 := by simp
  have e2 : ((w.alloc (.cells #[u1] T1)).alloc (.cells #[u2] T2)).heap.size = w.heap.size + 1 + 1 := by simp
  rw [e1] at c3
  rw [e2] at a3
  exact ⟨c2.cell, c3.cell, a3.cell, bel_step (bel_step b1 b2) b3⟩
theorem made_of {w W : World} {g : Nat} {lb : Array Value} (eg : ∀ (args : Array Value) (w : World), (callFunc g args).run Try.prog w = .ok (.enter g args) w) {gm gp gq n p q : Nat} {G : Nat → Int} (hn : lenN n p q ≤ 512) (p1 : 1 ≤ p) (p8 : p ≤ 8) (q1 : 1 ≤ q) (q8 : q ≤ 8)
    (hb : Below w.heap.size w W) (hp : W.cell? ⟨gp, 0, none⟩ = some (.int .i64 (p : Int))) (hq : W.cell? ⟨gq, 0, none⟩ = some (.int .i64 (q : Int))) (hm : W.cell? ⟨gm, 0, none⟩ = some (.func (.func g) #[] lb)) (hM : Made2 Try.prog g lb n p q G w) :
    MadeAt Try.prog 49 #[.pointer (some ⟨gm, 0, none⟩), .pointer (some ⟨gp, 0, none⟩), .pointer (some ⟨gq, 0, none⟩)] (lenN n p q) (fun _ => true) G W := by
  intro V k hk hV
  obtain ⟨h1, h2, h3⟩ := cell3 hV hm hp hq
  exact resC_any g lb eg gm gp gq p q k (G k) V (by omega) p1 p8 q1 q8 h1 h2 h3 fun W' hW' => hM W' k hk (hb.trans ((hV.trans (hW'.mono hV.size)).mono hb.size))
set_option maxHeartbeats 1000000 in
theorem resampled_any (g : Nat) (lb : Array Value) (eg : ∀ (args : Array Value) (w : World), (callFunc g args).run Try.prog w = .ok (.enter g args) w) (n p q : Nat) (G : Nat → Int) (w : World) (hn : n ≤ 64) (p1 : 1 ≤ p) (p8 : p ≤ 8) (q1 : 1 ≤ q) (q8 : q ≤ 8) (hM : Made2 Try.prog g lb n p q G w) :
    Calls Try.prog 31 #[.int .i64 (n : Int), .int .i64 (p : Int), .int .i64 (q : Int), .func (.func g) #[] lb] w (Gives w (onL (sigB (tab (lenN n p q) G)) (tab (lenN n p q) G)) (sigB (tab (lenN n p q) G))) := by
  have HM := hid hM
  have hmf : ∀ (fn : Fn) (first cap : Array Value) (w : World), (Instr.makeFunc fn first cap).run Try.prog w = .ok (.func fn first cap) w := fun _ _ _ _ => rfl
  have hL := lenN_512 (n := n) (p := p) (q := q) hn p8 q1
  have HP := hid (plB_sig (lenN n p q) G)
  have hL2 : lenN n p q ≤ 2000 := by omega
  have HL := hid hL2
  have HL5 := hid hL
  clear hM hL hL2
  go_enter Try.func31, Try.ntmps31
  go_wp2_with fail
  refine (lengthAfter_any n p q _ hn p8 q1 q8).mono ?_
  rintro e w' ⟨rfl, rfl⟩
  obtain ⟨h1, h2, h3, hB⟩ := alloc3_cells w (.int .i64 (p : Int)) (.int .i64 (q : Int)) (.func (.func g) #[] lb) 3 3 46
  have HMd := hid (made_of eg HL5.out p1 p8 q1 q8 hB h1 h2 h3 HM.out)
  have HB := hid hB
  clear h1 h2 h3 hB HM
  go_wp2_with fail
  refine (placed_any _ _ enterRs (lenN n p q) HL.out (fun _ => true) G _ HMd.out).mono ?_
  intro e w4 hG
  rw [HP.out] at hG
  obtain ⟨v, rfl, R, hb⟩ := gives_trans HB.out hG
  clear hG
  go_wp2_with fail
  go_ret2
  exact ⟨v, rfl, R, hb⟩

end Go.Proofs.Ytjbpfphfajohnaa
