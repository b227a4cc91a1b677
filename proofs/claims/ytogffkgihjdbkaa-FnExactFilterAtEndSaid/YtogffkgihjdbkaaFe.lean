
import Derived.Test.YtogffkgihjdbkaaFt
import Derived.Test.YtogffkgihjdbkaaAx
import Derived.Shelf.Abstract
import Derived.Laws.EntriesVeiled
import Derived.Deep.RegionHeld3
import Derived.Deep.QuietTactic
import Derived.BigQuiet
namespace Go.Proofs.Ytogffkgihjdbkaa
open Go.RowKit BitX Go.MemX Go.ShX
set_option linter.unusedVariables false


/-- what is made in a word at the end -/
def endG (n : Nat) (wd : Bool) (h s : List Int) (k : Nat) (mode : Int) (i : Nat) : Int := fitI n wd (shiftI (conv h s i) k mode)
def feY (b : Int) (wd : Bool) (h s : List Int) (k mode : Int) : List Int := onB (fiB b h s k mode) (tab s.length (endG b.toNat wd h s k.toNat mode)) []
theorem filt_in {h r : List Int} (hl : r.length ≤ 9) (hi : InP (-1000) 1000 h) (hj : InP (-100000) 100000 r) : -900000000 ≤ filt h r ∧ filt h r ≤ 900000000 := by
  have b := sumF_bound r.length (fun k => at0 h k * at0 r (r.length - 1 - k)) 100000000 fun i _ => by
    have a := at0_in hi (by omega) (by omega) i
    have b := at0_in hj (by omega) (by omega) (r.length - 1 - i)
    have := mul_in a.1 a.2 b.1 b.2 (by omega); omega
  unfold filt
  generalize sumF r.length (fun k => at0 h k * at0 r (r.length - 1 - k)) = u at *
  omega
theorem cells5 {w W : World} {p0 p1 p2 p3 p4 : Addr} {a0 a1 a2 a3 a4 : Value} (hb : Below w.heap.size w W) (h : w.cell? p0 = some a0 ∧ w.cell? p1 = some a1 ∧ w.cell? p2 = some a2 ∧ w.cell? p3 = some a3 ∧ w.cell? p4 = some a4) :
    W.cell? p0 = some a0 ∧ W.cell? p1 = some a1 ∧ W.cell? p2 = some a2 ∧ W.cell? p3 = some a3 ∧ W.cell? p4 = some a4 := by
  obtain ⟨h0, h1, h2, h3, h4⟩ := h
  obtain ⟨q0, q1, q2, q3⟩ := cells4 hb h0 h1 h2 h3
  exact ⟨q0, q1, q2, q3, by rw [hb.cell (by exact World.block_lt_of_cell? _ _ h4)]; exact h4⟩

set_option maxHeartbeats 2000000 in
theorem end_clo (gh gw gr gs ge : Nat) (v hv : Value) (h r : List Int) (n : Nat) (wd : Bool) (rf : Nat) (k : Nat) (mode : Int) (w : World) (hc : w.cell? ⟨gh, 0, none⟩ = some hv)
    (hcs : w.cell? ⟨gw, 0, none⟩ = some (.int .i64 (n : Int)) ∧ w.cell? ⟨gw, 1, none⟩ = some (.bool wd) ∧ w.cell? ⟨gr, 0, none⟩ = some (.func (.func rf) #[] #[]) ∧ w.cell? ⟨gs, 0, none⟩ = some (.int .i64 (k : Int)) ∧ w.cell? ⟨ge, 0, none⟩ = some (.func (.func 41) #[] #[.pointer (some ⟨gh, 0, none⟩)]))
    (n1 : 2 ≤ n) (n2 : n ≤ 16) (hk20 : k ≤ 20) (hsh : ShAt Try.prog rf k mode) (hh : Sl w hv h) (hr : Sl w v r) (hl : r.length ≤ h.length) (hl9 : h.length ≤ 9) (hi : InP (-1000) 1000 h) (hj : InP (-100000) 100000 r) :
    Calls Try.prog 56 #[v, .pointer (some ⟨gw, 0, none⟩), .pointer (some ⟨gr, 0, none⟩), .pointer (some ⟨ge, 0, none⟩), .pointer (some ⟨gs, 0, none⟩)] w fun e w' => e = .returned (.int .i64 (fitI n wd (shiftI (filt h r) k mode))) ∧ Below w.heap.size w w' := by
  obtain ⟨z1, z2⟩ := filt_in (h := h) (r := r) (by omega) hi hj
  obtain ⟨s1, s2⟩ := shift_s2 (filt h r) k mode (by omega) (by omega) hk20
  have Hx := hid (fun (W : World) (hb : Below w.heap.size w W) => exact_clo gh v hv h r W (by rw [hb.cell (by exact block_lt_of_cell hc)]; exact hc) (hh.kept hb) (hr.kept hb) hl hl9 hi hj)
  have Hs := hid hsh
  have eg := hsh.1
  have Hcl := hid hcs
  obtain ⟨k0, k1, k2, k3, k4⟩ := hcs
  generalize hz : filt h r = z at *
  clear hz hh hr hl hl9 hi hj hc hsh
  go_enter Try.func56, Try.ntmps56
  go_wp2_with fail
  go_region_held3 (fun W => W.cell? ⟨gw, 0, none⟩ = some (.int .i64 (n : Int)) ∧ W.cell? ⟨gw, 1, none⟩ = some (.bool wd) ∧ W.cell? ⟨gr, 0, none⟩ = some (.func (.func rf) #[] #[]) ∧ W.cell? ⟨gs, 0, none⟩ = some (.int .i64 (k : Int)) ∧ W.cell? ⟨ge, 0, none⟩ = some (.func (.func 41) #[] #[.pointer (some ⟨gh, 0, none⟩)])) (first | exact hS | assumption | go_keep) (first | (go_at_call 55; refine (fit_any n wd _ _ (by omega) n2 ?_ ?_).mono ?_; rotate_left 2; rintro e w2 ⟨rfl, hb2⟩; have hB := hB.trans (hb2.mono hB.size); have hS := cells5 hB Hcl.out; rotate_left; omega; omega) | (go_at_call 41; refine (Hx.out _ (Below.refl _ _).drew).mono ?_; rintro e w2 ⟨rfl, hb2⟩; have hB := (Below.refl _ w).drew.trans (hb2.mono (Nat.le_refl _)); have hS := cells5 hB Hcl.out) | (go_at_fn rf; refine (Hs.out.2 _ _ (by omega) (by omega)).mono ?_; rintro e w' ⟨rfl, rfl⟩))
  all_goals go_wp2
  all_goals go_ret
  all_goals exact ⟨rfl, hB⟩
theorem enterEF : Go.Proofs.Enters Try.prog 56 := enters_of Try.func56 (by kernel_rfl) rfl
theorem end_fil {gh gw gr gs ge : Nat} {hv : Value} {h s : List Int} {n : Nat} {wd : Bool} {rf k : Nat} {mode : Int} {w : World} (hc : w.cell? ⟨gh, 0, none⟩ = some hv)
    (hcs : w.cell? ⟨gw, 0, none⟩ = some (.int .i64 (n : Int)) ∧ w.cell? ⟨gw, 1, none⟩ = some (.bool wd) ∧ w.cell? ⟨gr, 0, none⟩ = some (.func (.func rf) #[] #[]) ∧ w.cell? ⟨gs, 0, none⟩ = some (.int .i64 (k : Int)) ∧ w.cell? ⟨ge, 0, none⟩ = some (.func (.func 41) #[] #[.pointer (some ⟨gh, 0, none⟩)]))
    (n1 : 2 ≤ n) (n2 : n ≤ 16) (hk20 : k ≤ 20) (hsh : ShAt Try.prog rf k mode) (hh : Sl w hv h) (hw : WgtP h) (hj : InP (-100000) 100000 s) :
    FilAt Try.prog 56 #[.pointer (some ⟨gw, 0, none⟩), .pointer (some ⟨gr, 0, none⟩), .pointer (some ⟨ge, 0, none⟩), .pointer (some ⟨gs, 0, none⟩)] s h.length (endG n wd h s k mode) w := by
  intro W i v hi hb hr
  have q4 : W.cell? ⟨gh, 0, none⟩ = some hv := by rw [hb.cell (by exact block_lt_of_cell hc)]; exact hc
  have := end_clo gh gw gr gs ge v hv h (win s i h.length) n wd rf k mode W q4 (cells5 hb hcs) n1 n2 hk20 hsh (hh.kept hb) hr (by rw [win_len _ _ _ hi]; omega) hw.1.2 hw.2 (fun x hx => hj x (by unfold win at hx; exact List.mem_of_mem_take (List.mem_of_mem_drop hx)))
  rw [filt_win h s i hi] at this
  exact this

theorem five_cells (w : World) (a0 a1 b c d e : Value) (t1 t2 t3 t4 t5 : TypeId) :
    (((((w.alloc (.cells #[a0, a1] t1)).alloc (.cells #[b] t2)).alloc (.cells #[c] t3)).alloc (.cells #[d] t4)).alloc (.cells #[e] t5)).cell? ⟨w.heap.size, 0, none⟩ = some a0 ∧
    (((((w.alloc (.cells #[a0, a1] t1)).alloc (.cells #[b] t2)).alloc (.cells #[c] t3)).alloc (.cells #[d] t4)).alloc (.cells #[e] t5)).cell? ⟨w.heap.size, 1, none⟩ = some a1 ∧
    (((((w.alloc (.cells #[a0, a1] t1)).alloc (.cells #[b] t2)).alloc (.cells #[c] t3)).alloc (.cells #[d] t4)).alloc (.cells #[e] t5)).cell? ⟨w.heap.size + 1, 0, none⟩ = some b ∧
    (((((w.alloc (.cells #[a0, a1] t1)).alloc (.cells #[b] t2)).alloc (.cells #[c] t3)).alloc (.cells #[d] t4)).alloc (.cells #[e] t5)).cell? ⟨w.heap.size + 1 + 1, 0, none⟩ = some c ∧
    (((((w.alloc (.cells #[a0, a1] t1)).alloc (.cells #[b] t2)).alloc (.cells #[c] t3)).alloc (.cells #[d] t4)).alloc (.cells #[e] t5)).cell? ⟨w.heap.size + 1 + 1 + 1, 0, none⟩ = some d ∧
    (((((w.alloc (.cells #[a0, a1] t1)).alloc (.cells #[b] t2)).alloc (.cells #[c] t3)).alloc (.cells #[d] t4)).alloc (.cells #[e] t5)).cell? ⟨w.heap.size + 1 + 1 + 1 + 1, 0, none⟩ = some e ∧
    Below w.heap.size w (((((w.alloc (.cells #[a0, a1] t1)).alloc (.cells #[b] t2)).alloc (.cells #[c] t3)).alloc (.cells #[d] t4)).alloc (.cells #[e] t5)) := by
  obtain ⟨c0, c1, c2, c3, c4, cb⟩ := four_cells w a0 a1 b c d t1 t2 t3 t4
  have hz : ((((w.alloc (.cells #[a0, a1] t1)).alloc (.cells #[b] t2)).alloc (.cells #[c] t3)).alloc (.cells #[d] t4)).heap.size = w.heap.size + 1 + 1 + 1 + 1 := by simp
  generalize (((w.alloc (.cells #[a0, a1] t1)).alloc (.cells #[b] t2)).alloc (.cells #[c] t3)).alloc (.cells #[d] t4) = w4 at *
  have b5 := bel_alloc w4 (.cells #[e] t5)
  obtain ⟨q0, q1, q2, q3, q4⟩ := cells5 b5 ⟨c0, c1, c2, c3, c4⟩
  have q5 := box1_cell (Below.refl (w4.alloc (.cells #[e] t5)).heap.size (w4.alloc (.cells #[e] t5)))
  rw [hz] at q5
  exact ⟨q0, q1, q2, q3, q4, q5, bel_step cb b5⟩
set_option maxHeartbeats 1000000 in
theorem endFilter_any (u : Value) (h s : List Int) (n : Nat) (wd : Bool) (k : Nat) (mode : Int) (w : World) (hu : Sl w u h) (hw : WgtP h) (hj : InP (-100000) 100000 s) (n1 : 2 ≤ n) (n2 : n ≤ 16) (hk : k ≤ 20) (m0 : 0 ≤ mode) (m2 : mode ≤ 2) :
    Calls Try.prog 35 #[.agg #[.int .i64 (n : Int), .bool wd], u, .int .i64 (k : Int), .int .i64 mode] w (MadeF w 56 s h.length (endG n wd h s k mode)) := by
  obtain ⟨a, m, cap, rfl, hn, _⟩ := id hu.rd
  have HU := hid hu
  have HW := hid hw
  have HJ := hid hj
  have hmf := mkFunc
  clear hu hw hj hn
  go_enter Try.func35, Try.ntmps35
  go_wp2_with fail
  refine (exactFilter_v _ _ _ _).mono ?_
  rintro e w1 ⟨rfl, rfl⟩
  go_wp2_with fail
  refine (rounding_is k mode _ hk m0 m2).mono ?_
  rintro e w' ⟨⟨rf, rfl, hsh⟩, rfl⟩
  have Hsh := hid hsh
  clear hsh
  go_wp2
  go_ret
  obtain ⟨c0, c1, c2, c3, c4, c5, cb⟩ := five_cells w (.int .i64 (n : Int)) (.bool wd) (.int .i64 (k : Int)) (.slice a m cap) (.func (.func 41) #[] #[.pointer (some ⟨w.heap.size + 1 + 1, 0, none⟩)]) (.func (.func rf) #[] #[]) 31 3 22 _ _
  exact ⟨_, rfl, end_fil c3 ⟨c0, c1, c5, c2, c4⟩ n1 n2 hk Hsh.out (HU.out.kept cb) HW.out HJ.out, cb⟩

set_option maxHeartbeats 1000000 in
theorem impl_FilterAtEnd_any (u v : Value) (h s : List Int) (b k mode : Int) (wd : Bool) (w : World) (hu : Sl w u h) (hv : Sl w v s) (hl : h.length ≤ 2000000) (hls : s.length ≤ 2000000) :
    Calls Try.prog 19 #[.agg #[.int .i64 b, .bool wd], u, v, .int .i64 k, .int .i64 mode] w (Gives w (feY b wd h s k mode) (fiB b h s k mode)) := by
  obtain ⟨a, m, cap, rfl, hm, _⟩ := id hu.rd
  cases hq : fiB b h s k mode
  · have HU := hid hu
    have HV := hid hv
    have HQ := hid hq
    clear hu hv hq hm
    go_enter Try.func19, Try.ntmps19
    go_wp2_with fail
    refine (canFilterIn_is _ _ h s _ _ _ _ _ (HU.out.kept (bel_alloc _ _)) (HV.out.kept (bel_alloc _ _)) hl hls).mono ?_
    rintro e w1 ⟨rfl, hb⟩
    rw [HQ.out]
    have B1 := bel_step (bel_alloc _ _) hb
    go_wp2_with fail
    go_ret2
    exact gives_of rfl (show feY b wd h s k mode = [] from by unfold feY; rw [HQ.out]; rfl) ⟨_, rfl, .inl ⟨rfl, rfl⟩, B1⟩
  · obtain ⟨⟨b1, b2⟩, ⟨hw, hsg⟩, ⟨k1, k2⟩, m1, m2⟩ := fi_parts hq
    obtain ⟨n, rfl⟩ : ∃ n : Nat, b = n := ⟨b.toNat, by omega⟩
    obtain ⟨k, rfl⟩ : ∃ c : Nat, k = c := ⟨k.toNat, by omega⟩
    have HU := hid hu
    have HV := hid hv
    have HQ := hid hq
    have HW := hid hw
    have HJ := hid (show InP (-100000) 100000 s from hsg.2)
    have hm1 : 1 ≤ m := by rw [hm]; exact hw.1.1
    have hm2 : m ≤ 64 := by have := hw.1.2; omega
    have Hm := hid hm
    clear hu hv hq hw hsg hm
    go_enter Try.func19, Try.ntmps19
    go_wp2_with fail
    refine (canFilterIn_is _ _ h s _ _ _ _ _ (HU.out.kept (bel_alloc _ _)) (HV.out.kept (bel_alloc _ _)) hl hls).mono ?_
    rintro e w1 ⟨rfl, hb⟩
    rw [HQ.out]
    obtain ⟨ca1, cb1⟩ := box2_cells hb
    have B1 := bel_step (bel_alloc _ _) hb
    go_wp2_with fail
    refine (endFilter_any _ h s n wd k mode _ (HU.out.kept B1) HW.out HJ.out (by omega) (by omega) (by omega) m1 m2).mono ?_
    rintro e w2 ⟨lb, rfl, hf, hb2⟩
    have B2 := bel_step B1 hb2
    have Hf := hid hf
    clear hf
    go_wp2_with fail
    refine (runFilter_any 56 lb enterEF _ s m (endG n wd h s k mode) _ (HV.out.kept B2) hls hm1 hm2 (by rw [Hm.out]; exact Hf.out)).mono ?_
    rintro e w3 ⟨vr, rfl, R, hb3⟩
    have B3 := bel_step B2 hb3
    go_wp2_with fail
    go_ret2
    exact gives_of rfl (show feY n wd h s k mode = tab s.length (endG n wd h s k mode) from by unfold feY; rw [HQ.out]; rfl) ⟨_, rfl, R.mono B2.size, B3⟩


end Go.Proofs.Ytogffkgihjdbkaa
