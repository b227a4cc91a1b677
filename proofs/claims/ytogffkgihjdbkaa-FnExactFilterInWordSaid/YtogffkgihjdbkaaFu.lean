
import Derived.Test.YtogffkgihjdbkaaFz
import Derived.Test.YtogffkgihjdbkaaAx
import Derived.Shelf.Abstract
import Derived.Laws.EntriesVeiled
namespace Go.Proofs.Ytogffkgihjdbkaa
open Go.RowKit BitX Go.MemX Go.ShX
set_option linter.unusedVariables false


/-- what is made in a word at a place -/
def wordG (n : Nat) (wd : Bool) (h s : List Int) (k : Nat) (mode : Int) (i : Nat) : Int := foldW n wd k mode (fun j => at0 h j * at0 s (i - j)) (min h.length (i + 1))
def MadeF (w : World) (g : Nat) (s : List Int) (m : Nat) (G : Nat → Int) (e : Ending) (w' : World) : Prop :=
  ∃ lb, e = .returned (.func (.func g) #[] lb) ∧ FilAt Try.prog g lb s m G w' ∧ Below w.heap.size w w'
theorem box1_cell {w w' : World} {u : Value} {t : TypeId} (hb : Below (w.alloc (.cells #[u] t)).heap.size (w.alloc (.cells #[u] t)) w') : w'.cell? ⟨w.heap.size, 0, none⟩ = some u := by
  rw [hb.cell (by simp), World.cell?_alloc_at _ _ _ _ rfl]; rfl
theorem four_cells (w : World) (a0 a1 b c d : Value) (t1 t2 t3 t4 : TypeId) :
    ((((w.alloc (.cells #[a0, a1] t1)).alloc (.cells #[b] t2)).alloc (.cells #[c] t3)).alloc (.cells #[d] t4)).cell? ⟨w.heap.size, 0, none⟩ = some a0 ∧
    ((((w.alloc (.cells #[a0, a1] t1)).alloc (.cells #[b] t2)).alloc (.cells #[c] t3)).alloc (.cells #[d] t4)).cell? ⟨w.heap.size, 1, none⟩ = some a1 ∧
    ((((w.alloc (.cells #[a0, a1] t1)).alloc (.cells #[b] t2)).alloc (.cells #[c] t3)).alloc (.cells #[d] t4)).cell? ⟨w.heap.size + 1, 0, none⟩ = some b ∧
    ((((w.alloc (.cells #[a0, a1] t1)).alloc (.cells #[b] t2)).alloc (.cells #[c] t3)).alloc (.cells #[d] t4)).cell? ⟨w.heap.size + 1 + 1, 0, none⟩ = some c ∧
    ((((w.alloc (.cells #[a0, a1] t1)).alloc (.cells #[b] t2)).alloc (.cells #[c] t3)).alloc (.cells #[d] t4)).cell? ⟨w.heap.size + 1 + 1 + 1, 0, none⟩ = some d ∧
    Below w.heap.size w ((((w.alloc (.cells #[a0, a1] t1)).alloc (.cells #[b] t2)).alloc (.cells #[c] t3)).alloc (.cells #[d] t4)) := by
  have B1 := bel_alloc w (.cells #[a0, a1] t1)
  have z1 : (w.alloc (.cells #[a0, a1] t1)).heap.size = w.heap.size + 1 := by simp
  generalize hw1 : w.alloc (.cells #[a0, a1] t1) = w1 at *
  have B2 := bel_alloc w1 (.cells #[b] t2)
  have z2 : (w1.alloc (.cells #[b] t2)).heap.size = w.heap.size + 1 + 1 := by simp [z1]
  have c2 := fun W (h : Below _ _ W) => box1_cell (w := w1) (u := b) (t := t2) (w' := W) h
  generalize hw2 : w1.alloc (.cells #[b] t2) = w2 at *
  have B3 := bel_alloc w2 (.cells #[c] t3)
  have z3 : (w2.alloc (.cells #[c] t3)).heap.size = w.heap.size + 1 + 1 + 1 := by simp [z2]
  have c3 := fun W (h : Below _ _ W) => box1_cell (w := w2) (u := c) (t := t3) (w' := W) h
  generalize hw3 : w2.alloc (.cells #[c] t3) = w3 at *
  have B4 := bel_alloc w3 (.cells #[d] t4)
  have c4 := box1_cell (Below.refl (w3.alloc (.cells #[d] t4)).heap.size (w3.alloc (.cells #[d] t4)))
  have c1 := box2_cells (w := w) (u := a0) (v := a1) (t := t1) (w' := w3.alloc (.cells #[d] t4)) (by rw [hw1]; exact bel_step B2 (bel_step B3 B4))
  rw [z1] at c2
  rw [z2] at c3
  rw [z3] at c4
  exact ⟨c1.1, c1.2, c2 _ (bel_step B3 B4), c3 _ B4, c4, bel_step B1 (bel_step B2 (bel_step B3 B4))⟩
theorem enterWF : Go.Proofs.Enters Try.prog 54 := enters_of Try.func54 (by kernel_rfl) rfl
theorem word_fil {gh gw gr gs : Nat} {hv : Value} {h s : List Int} {n : Nat} {wd : Bool} {rf k : Nat} {mode : Int} {w : World} (hc : w.cell? ⟨gh, 0, none⟩ = some hv) (hw0 : w.cell? ⟨gw, 0, none⟩ = some (.int .i64 (n : Int))) (hw1 : w.cell? ⟨gw, 1, none⟩ = some (.bool wd)) (hcr : w.cell? ⟨gr, 0, none⟩ = some (.func (.func rf) #[] #[])) (hcs : w.cell? ⟨gs, 0, none⟩ = some (.int .i64 (k : Int)))
    (n1 : 2 ≤ n) (n2 : n ≤ 16) (hk20 : k ≤ 20) (hsh : ShAt Try.prog rf k mode) (hh : Sl w hv h) (hw : WgtP h) (hj : InP (-100000) 100000 s) :
    FilAt Try.prog 54 #[.pointer (some ⟨gh, 0, none⟩), .pointer (some ⟨gw, 0, none⟩), .pointer (some ⟨gr, 0, none⟩), .pointer (some ⟨gs, 0, none⟩)] s h.length (wordG n wd h s k mode) w := by
  intro W i v hi hb hr
  obtain ⟨q0, q1, q2, q3⟩ := cl_kept hb hw0 hw1 hcr hcs
  have q4 : W.cell? ⟨gh, 0, none⟩ = some hv := by rw [hb.cell (by exact block_lt_of_cell hc)]; exact hc
  have := word_clo gh gw gr gs v hv h (win s i h.length) n wd rf k mode W q4 q0 q1 q2 q3 n1 n2 hk20 hsh (hh.kept hb) hr (by rw [win_len _ _ _ hi]; omega) hw.1.2 hw.2 (fun x hx => hj x (by unfold win at hx; exact List.mem_of_mem_take (List.mem_of_mem_drop hx)))
  rw [win_len _ _ _ hi, foldW_congr n wd k mode _ (fun j => at0 h j * at0 s (i - j)) _ fun j hj => by rw [win_at s i _ j hi hj]] at this
  exact this

set_option maxHeartbeats 1000000 in
theorem wordFilter_any (u : Value) (h s : List Int) (n : Nat) (wd : Bool) (k : Nat) (mode : Int) (w : World) (hu : Sl w u h) (hw : WgtP h) (hj : InP (-100000) 100000 s) (n1 : 2 ≤ n) (n2 : n ≤ 16) (hk : k ≤ 20) (m0 : 0 ≤ mode) (m2 : mode ≤ 2) :
    Calls Try.prog 34 #[.agg #[.int .i64 (n : Int), .bool wd], u, .int .i64 (k : Int), .int .i64 mode] w (MadeF w 54 s h.length (wordG n wd h s k mode)) := by
  obtain ⟨a, m, cap, rfl, hn, _⟩ := id hu.rd
  have HU := hid hu
  have HW := hid hw
  have HJ := hid hj
  have hmf := mkFunc
  clear hu hw hj hn
  go_enter Try.func34, Try.ntmps34
  go_wp2_with fail
  refine (rounding_is k mode _ hk m0 m2).mono ?_
  rintro e w' ⟨⟨rf, rfl, hsh⟩, rfl⟩
  have Hsh := hid hsh
  clear hsh
  go_wp2
  go_ret
  obtain ⟨c0, c1, c2, c3, c4, cb⟩ := four_cells w (.int .i64 (n : Int)) (.bool wd) (.slice a m cap) (.int .i64 (k : Int)) (.func (.func rf) #[] #[]) 31 22 3 _
  exact ⟨_, rfl, word_fil c2 c0 c1 c4 c3 n1 n2 hk Hsh.out (HU.out.kept cb) HW.out HJ.out, cb⟩

theorem gives_of {w w2 : World} {ys zs : List Int} {b c : Bool} {e : Ending} (h1 : b = c) (h2 : ys = zs) (h : Gives w zs c e w2) : Gives w ys b e w2 := by subst h1 h2; exact h
def fwY (b : Int) (wd : Bool) (h s : List Int) (k mode : Int) : List Int := onB (fiB b h s k mode) (tab s.length (wordG b.toNat wd h s k.toNat mode)) []
theorem fi_parts {b : Int} {h s : List Int} {k mode : Int} (hq : fiB b h s k mode = true) : (2 ≤ b ∧ b ≤ 16) ∧ (WgtP h ∧ SigP s) ∧ ((0 ≤ k ∧ k ≤ 20) ∧ (0 ≤ mode ∧ mode ≤ 2)) := by
  unfold fiB at hq
  simp only [Bool.and_eq_true] at hq
  obtain ⟨⟨⟨⟨h1, h2, h3⟩, h4, h5⟩, h6⟩, h7⟩ := hq
  exact ⟨wordB_t h1, ⟨wgtB_t h2, sigB_t h3⟩, shB_t h4, moB_t h5⟩


set_option maxHeartbeats 1000000 in
theorem impl_FilterInWord_any (u v : Value) (h s : List Int) (b k mode : Int) (wd : Bool) (w : World) (hu : Sl w u h) (hv : Sl w v s) (hl : h.length ≤ 2000000) (hls : s.length ≤ 2000000) :
    Calls Try.prog 17 #[.agg #[.int .i64 b, .bool wd], u, v, .int .i64 k, .int .i64 mode] w (Gives w (fwY b wd h s k mode) (fiB b h s k mode)) := by
  obtain ⟨a, m, cap, rfl, hm, _⟩ := id hu.rd
  cases hq : fiB b h s k mode
  · have HU := hid hu
    have HV := hid hv
    have HQ := hid hq
    clear hu hv hq hm
    go_enter Try.func17, Try.ntmps17
    go_wp2_with fail
    refine (canFilterIn_is _ _ h s _ _ _ _ _ (HU.out.kept (bel_alloc _ _)) (HV.out.kept (bel_alloc _ _)) hl hls).mono ?_
    rintro e w1 ⟨rfl, hb⟩
    rw [HQ.out]
    have B1 := bel_step (bel_alloc _ _) hb
    go_wp2_with fail
    go_ret2
    exact gives_of rfl (show fwY b wd h s k mode = [] from by unfold fwY; rw [HQ.out]; rfl) ⟨_, rfl, .inl ⟨rfl, rfl⟩, B1⟩
  · obtain ⟨⟨b1, b2⟩, ⟨hw, hsg⟩, ⟨k1, k2⟩, m1, m2⟩ := fi_parts hq
    obtain ⟨n, rfl⟩ : ∃ n : Nat, b = n := ⟨b.toNat, by omega⟩
    obtain ⟨k, rfl⟩ : ∃ c : Nat, k = c := ⟨k.toNat, by omega⟩
    have HU := hid hu
    have HV := hid hv
    have HQ := hid hq
    have HW := hid hw
    have HJ := hid (show InP (-100000) 100000 s from hsg.2)
    have hm1 : 1 ≤ m := by rw [hm]; exact hw.1.1
    have hm2 : m ≤ 64 := by have := hw.1.2; omega
    have Hm := hid hm
    clear hu hv hq hw hsg hm
    go_enter Try.func17, Try.ntmps17
    go_wp2_with fail
    refine (canFilterIn_is _ _ h s _ _ _ _ _ (HU.out.kept (bel_alloc _ _)) (HV.out.kept (bel_alloc _ _)) hl hls).mono ?_
    rintro e w1 ⟨rfl, hb⟩
    rw [HQ.out]
    obtain ⟨ca1, cb1⟩ := box2_cells hb
    have B1 := bel_step (bel_alloc _ _) hb
    go_wp2_with fail
    refine (wordFilter_any _ h s n wd k mode _ (HU.out.kept B1) HW.out HJ.out (by omega) (by omega) (by omega) m1 m2).mono ?_
    rintro e w2 ⟨lb, rfl, hf, hb2⟩
    have B2 := bel_step B1 hb2
    have Hf := hid hf
    clear hf
    go_wp2_with fail
    refine (runFilter_any 54 lb enterWF _ s m (wordG n wd h s k mode) _ (HV.out.kept B2) hls hm1 hm2 (by rw [Hm.out]; exact Hf.out)).mono ?_
    rintro e w3 ⟨vr, rfl, R, hb3⟩
    have B3 := bel_step B2 hb3
    go_wp2_with fail
    go_ret2
    exact gives_of rfl (show fwY n wd h s k mode = tab s.length (wordG n wd h s k mode) from by unfold fwY; rw [HQ.out]; rfl) ⟨_, rfl, R.mono B2.size, B3⟩

end Go.Proofs.Ytogffkgihjdbkaa
