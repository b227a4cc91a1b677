
import Derived.Test.YtbbfigbfkhlddaaPs
namespace Go.Proofs.Ytbbfigbfkhlddaa
open Go.RowKit BitX Go.MemX Go.ShX
set_option linter.unusedVariables false


def cRest : Nat → Code → Code
  | 0, c => c
  | k + 1, .seq _ b => cRest k b
  | _ + 1, c => c
def cHead : Nat → Code → Code
  | 0, .seq a _ => a
  | 0, c => c
  | k + 1, .seq _ b => cHead k b
  | _ + 1, c => c
def bodyOf (f : Func) : Code := f.body.getD .skip
/-- what sdMeet hands back -/
noncomputable def mtV (o : Nat → Int × Int) : Value := .tuple #[.int .i64 (((perR o).1 : Nat) : Int), .agg #[.int .i64 (o (perR o).1).1, .int .i64 (o (perR o).1).2], .int .i64 (((perR o).2 : Nat) : Int)]
noncomputable def qM (w : World) (o : Nat → Int × Int) : Exit → Act → World → Prop := bodyPost Try.prog Try.f14 fun e w' => e = .returned (mtV o) ∧ Below w.heap.size w w'

/-- the world behind the first steps -/
def Two9 (w W : World) (a d : Int) (k : Nat) (mode : Int) (n : Nat) (wd : Bool) (p q1 q2 : Int × Int) (ga gb : Nat) : Prop :=
  FB 30 w.heap.size a d k mode n wd W ∧ PB 40 (w.heap.size + 1) p W ∧ PB 40 (w.heap.size + 2) (0, 0) W ∧ PB 40 ga q1 W ∧ PB 40 gb q2 W ∧ ga ≠ gb ∧ w.heap.size + 3 ≤ ga ∧ w.heap.size + 3 ≤ gb ∧ Below w.heap.size w W


set_option maxRecDepth 20000 in
set_option maxHeartbeats 8000000 in
theorem meet9 (a d : Int) (k : Nat) (mode : Int) (n : Nat) (wd : Bool) (y z x : Int) (w W : World) (ga gb : Nat) (H : Hid (SoOk a d k mode n)) (x1 : -100000 ≤ x) (x2 : x ≤ 100000) (o : Nat → Int × Int) (Ho : Hid (o = orb2 (nxP (stepS a d k mode n wd x)) (y, z))) (Hin : Hid (∀ i, (-100000 ≤ (o i).1 ∧ (o i).1 ≤ 100000) ∧ -100000 ≤ (o i).2 ∧ (o i).2 ≤ 100000)) (q2 : Int × Int) (m l : Nat) (hm : perR o = (m, l)) (T9 : Hid (Two9 w W a d k mode n wd (y, z) (o m) q2 ga gb)) (x5 x6 x8 x11 x14 x15 x16 x17 x18 x19 x20 x21 x22 x23 x24 x25 x26 x27 x28 x29 x30 x31 x32 x33 x34 x35 x36 x37 x38 x39 x40 x41 x42 x43 x44 x45 x46 x47 x48 x49 x50 x51 x52 x53 x54 x55 x56 x57 x58 x59 x60 x61 x62 x63 x64 x65 x66 x67 x68 x69 x70 x71 x72 x73 x74 x75 x76 x77 x78 x79 x80 x81 : Value) :
    Code.wp Try.prog (cRest 9 (bodyOf Try.f14)) (qM w o) { tmps := List.toArray ((.agg #[.int .i64 a, .int .i64 d, .int .i64 (k : Int), .int .i64 mode, .int .i64 (n : Int), .bool wd]) :: (.agg #[.int .i64 y, .int .i64 z]) :: (.int .i64 x) :: (.pointer (some ⟨w.heap.size, 0, none⟩)) :: (.pointer (some ⟨w.heap.size + 1, 0, none⟩)) :: x5 :: x6 :: (.pointer (some ⟨w.heap.size + 1 + 1, 0, none⟩)) :: x8 :: (.pointer (some ⟨ga, 0, none⟩)) :: (.pointer (some ⟨gb, 0, none⟩)) :: x11 :: (.int .i64 (m : Int)) :: (.int .i64 (l : Int)) :: x14 :: x15 :: x16 :: x17 :: x18 :: x19 :: x20 :: x21 :: x22 :: x23 :: x24 :: x25 :: x26 :: x27 :: x28 :: x29 :: x30 :: x31 :: x32 :: x33 :: x34 :: x35 :: x36 :: x37 :: x38 :: x39 :: x40 :: x41 :: x42 :: x43 :: x44 :: x45 :: x46 :: x47 :: x48 :: x49 :: x50 :: x51 :: x52 :: x53 :: x54 :: x55 :: x56 :: x57 :: x58 :: x59 :: x60 :: x61 :: x62 :: x63 :: x64 :: x65 :: x66 :: x67 :: x68 :: x69 :: x70 :: x71 :: x72 :: x73 :: x74 :: x75 :: x76 :: x77 :: x78 :: x79 :: x80 :: x81 :: []), defers := [] } W := by
  simp only [bodyOf, Try.f14, Option.getD_some, cRest]
  obtain ⟨hf, hp, hr, h1, h2, hne, hga, hgb, hB⟩ := T9.out
  have n1 : w.heap.size + 1 + 1 ≠ ga := by omega
  have n2 : w.heap.size + 1 + 1 ≠ gb := by omega
  have n3 : ga ≠ w.heap.size + 1 + 1 := by omega
  have n4 : gb ≠ w.heap.size + 1 + 1 := by omega
  have p0 := hp.c0
  have p1 := hp.c1
  have r0 := hr.c0
  have r1 := hr.c1
  have r2 := hr.free 0
  have r3 := hr.free 1
  have s0 := h1.c0
  have s1 := h1.c1
  have HB := hid hB
  have Hr := hid hr
  clear hf hp h1 h2 hne hga hgb hB hr
  go_wp2_with fail
  go_region
  generalize hV : ((W.setCell ⟨w.heap.size + 1 + 1, 0, none⟩ (.int .i64 (o m).1)).setCell ⟨w.heap.size + 1 + 1, 1, none⟩ (.int .i64 (o m).2)).drew = V
  have hq : PB 40 (w.heap.size + 1 + 1) (o m) V := by rw [← hV]; exact Hr.out.store (o m).1 (o m).2
  have hBV : Below w.heap.size w V := by rw [← hV]; exact ((HB.out.setCell (by show w.heap.size ≤ w.heap.size + 1 + 1; omega) _).setCell (by show w.heap.size ≤ w.heap.size + 1 + 1; omega) _).drew
  clear hV
  have q0 := hq.c0
  have q1 := hq.c1
  go_wp2_with fail
  unfold qM
  refine bodyPost_ret (v := mtV o) (by unfold mtV; rw [hm]; simp [results, Try.results14, go_sem, q0, q1]) rfl ⟨rfl, hBV⟩


theorem neqP : ∀ (a b c d : Int) (w : World), (binOp .neq 40 (.agg #[.int .i64 a, .int .i64 b]) (.agg #[.int .i64 c, .int .i64 d])).run Try.prog w = .ok (.bool (!((a == c) && (b == d)))) w := by
  intro a b c d w
  have e : (Op.equalIn 10000 40 (.agg #[.int .i64 a, .int .i64 b]) (.agg #[.int .i64 c, .int .i64 d])).run Try.prog w = .ok ((a == c) && (b == d)) w := by
    go_simp
    cases h1 : a == c <;> cases h2 : b == d <;> simp_all
  rw [run_neq_struct, e]
  rfl
theorem pr_eq {p q : Int × Int} (h : p = q) : (!((p.1 == q.1) && (p.2 == q.2))) = false := by subst h; simp
theorem pr_ne {p q : Int × Int} (h : p ≠ q) : (!((p.1 == q.1) && (p.2 == q.2))) = true := by
  cases e : ((p.1 == q.1) && (p.2 == q.2))
  · rfl
  · simp only [Bool.and_eq_true, beq_iff_eq] at e
    exact absurd (Prod.ext e.1 e.2) h

theorem Two9.kept {w W W' : World} {a d : Int} {k : Nat} {mode : Int} {n : Nat} {wd : Bool} {p q1 q2 : Int × Int} {ga gb : Nat} (h : Two9 w W a d k mode n wd p q1 q2 ga gb) (hb : Below W.heap.size W W') : Two9 w W' a d k mode n wd p q1 q2 ga gb := by
  obtain ⟨hf, hp, hr, h1, h2, hne, hga, hgb, hB⟩ := h
  exact ⟨hf.kept hb hf.lt, hp.kept hb hp.lt, hr.kept hb hr.lt, h1.kept hb h1.lt, h2.kept hb h2.lt, hne, hga, hgb, bel_step hB hb⟩
theorem Two9.setB {w W : World} {a d : Int} {k : Nat} {mode : Int} {n : Nat} {wd : Bool} {p q1 q2 : Int × Int} {ga gb : Nat} (h : Two9 w W a d k mode n wd p q1 q2 ga gb) (q : Int × Int) : Two9 w ((W.setCell ⟨gb, 0, none⟩ (.int .i64 q.1)).setCell ⟨gb, 1, none⟩ (.int .i64 q.2)) a d k mode n wd p q1 q ga gb := by
  obtain ⟨hf, hp, hr, h1, h2, hne, hga, hgb, hB⟩ := h
  have key : ∀ j, j ≠ gb → ((W.setCell ⟨gb, 0, none⟩ (.int .i64 q.1)).setCell ⟨gb, 1, none⟩ (.int .i64 q.2)).heap[j]? = W.heap[j]? := fun j h1 => by
    rw [heap_setCell_other _ _ _ _ (by exact h1), heap_setCell_other _ _ _ _ (by exact h1)]
  exact ⟨hf.same (key _ (by omega)), hp.same (key _ (by omega)), hr.same (key _ (by omega)), h1.same (key _ hne), h2.store q.1 q.2, hne, hga, hgb, (hB.setCell (by show w.heap.size ≤ gb; omega) _).setCell (by show w.heap.size ≤ gb; omega) _⟩
theorem Two9.setA {w W : World} {a d : Int} {k : Nat} {mode : Int} {n : Nat} {wd : Bool} {p q1 q2 : Int × Int} {ga gb : Nat} (h : Two9 w W a d k mode n wd p q1 q2 ga gb) (q : Int × Int) : Two9 w ((W.setCell ⟨ga, 0, none⟩ (.int .i64 q.1)).setCell ⟨ga, 1, none⟩ (.int .i64 q.2)) a d k mode n wd p q q2 ga gb := by
  obtain ⟨hf, hp, hr, h1, h2, hne, hga, hgb, hB⟩ := h
  have key : ∀ j, j ≠ ga → ((W.setCell ⟨ga, 0, none⟩ (.int .i64 q.1)).setCell ⟨ga, 1, none⟩ (.int .i64 q.2)).heap[j]? = W.heap[j]? := fun j h1 => by
    rw [heap_setCell_other _ _ _ _ (by exact h1), heap_setCell_other _ _ _ _ (by exact h1)]
  exact ⟨hf.same (key _ (by omega)), hp.same (key _ (by omega)), hr.same (key _ (by omega)), h1.store q.1 q.2, h2.same (key _ hne.symm), hne, hga, hgb, (hB.setCell (by show w.heap.size ≤ ga; omega) _).setCell (by show w.heap.size ≤ ga; omega) _⟩


set_option maxRecDepth 20000 in
set_option maxHeartbeats 8000000 in
theorem meet8 (a d : Int) (k : Nat) (mode : Int) (n : Nat) (wd : Bool) (y z x : Int) (w W : World) (ga gb : Nat) (H : Hid (SoOk a d k mode n)) (x1 : -100000 ≤ x) (x2 : x ≤ 100000) (o : Nat → Int × Int) (Ho : Hid (o = orb2 (nxP (stepS a d k mode n wd x)) (y, z))) (Hin : Hid (∀ i, (-100000 ≤ (o i).1 ∧ (o i).1 ≤ 100000) ∧ -100000 ≤ (o i).2 ∧ (o i).2 ≤ 100000)) (m l : Nat) (hr0 : Hid (Rp o m l)) (hm1 : m ≤ 50000) (hl1 : l ≤ 100000) (q2 : Int × Int) (T9 : Hid (Two9 w W a d k mode n wd (y, z) (o m) q2 ga gb)) (x5 x6 x8 x11 x14 x15 x16 x17 x18 x19 x20 x21 x22 x23 x24 x25 x26 x27 x28 x29 x30 x31 x32 x33 x34 x35 x36 x37 x38 x39 x40 x41 x42 x43 x44 x45 x46 x47 x48 x49 x50 x51 x52 x53 x54 x55 x56 x57 x58 x59 x60 x61 x62 x63 x64 x65 x66 x67 x68 x69 x70 x71 x72 x73 x74 x75 x76 x77 x78 x79 x80 x81 : Value) :
    Code.wp Try.prog (cRest 8 (bodyOf Try.f14)) (qM w o) { tmps := List.toArray ((.agg #[.int .i64 a, .int .i64 d, .int .i64 (k : Int), .int .i64 mode, .int .i64 (n : Int), .bool wd]) :: (.agg #[.int .i64 y, .int .i64 z]) :: (.int .i64 x) :: (.pointer (some ⟨w.heap.size, 0, none⟩)) :: (.pointer (some ⟨w.heap.size + 1, 0, none⟩)) :: x5 :: x6 :: (.pointer (some ⟨w.heap.size + 1 + 1, 0, none⟩)) :: x8 :: (.pointer (some ⟨ga, 0, none⟩)) :: (.pointer (some ⟨gb, 0, none⟩)) :: x11 :: (.int .i64 (m : Int)) :: (.int .i64 (l : Int)) :: x14 :: x15 :: x16 :: x17 :: x18 :: x19 :: x20 :: x21 :: x22 :: x23 :: x24 :: x25 :: x26 :: x27 :: x28 :: x29 :: x30 :: x31 :: x32 :: x33 :: x34 :: x35 :: x36 :: x37 :: x38 :: x39 :: x40 :: x41 :: x42 :: x43 :: x44 :: x45 :: x46 :: x47 :: x48 :: x49 :: x50 :: x51 :: x52 :: x53 :: x54 :: x55 :: x56 :: x57 :: x58 :: x59 :: x60 :: x61 :: x62 :: x63 :: x64 :: x65 :: x66 :: x67 :: x68 :: x69 :: x70 :: x71 :: x72 :: x73 :: x74 :: x75 :: x76 :: x77 :: x78 :: x79 :: x80 :: x81 :: []), defers := [] } W := by
  rw [show cRest 8 (bodyOf Try.f14) = .seq (cHead 8 (bodyOf Try.f14)) (cRest 9 (bodyOf Try.f14)) from by kernel_rfl]
  refine wp_seq_k ?_
  intro KK hK
  have HK := hid hK
  clear hK
  simp only [bodyOf, Try.f14, Option.getD_some, cHead]
  by_cases hml : m + l ≤ 20000
  · have hm := perR_yes hr0.out hml
    go_wp2_with fail
    exact HK.out _ _ (meet9 a d k mode n wd y z x w W ga gb H x1 x2 o Ho Hin q2 m l hm T9 _ _ _ _ _ _ _ _ _ _ _ _ _ _ _ _ _ _ _ _ _ _ _ _ _ _ _ _ _ _ _ _ _ _ _ _ _ _ _ _ _ _ _ _ _ _ _ _ _ _ _ _ _ _ _ _ _ _ _ _ _ _ _ _ _ _ _ _ _ _ _ _)
  · have hm : perR o = (0, 0) := perR_no fun m' l' hr => by have := hr0.out.unique hr; omega
    have hz0 : o 0 = (y, z) := by rw [Ho.out]; rfl
    have hmi : 20000 < (m : Int) + (l : Int) := by omega
    have Hm := hid hm
    have Hz0 := hid hz0
    clear hm hml hz0
    obtain ⟨hf, hp, hr, h1, h2, hne, hga, hgb, hB⟩ := T9.out
    have n1 : w.heap.size + 1 + 1 ≠ ga := by omega
    have n2 : w.heap.size + 1 + 1 ≠ gb := by omega
    have n3 : ga ≠ w.heap.size + 1 + 1 := by omega
    have n4 : gb ≠ w.heap.size + 1 + 1 := by omega
    have p0 := hp.c0
    have p1 := hp.c1
    have r0 := hr.c0
    have r1 := hr.c1
    have r2 := hr.free 0
    have r3 := hr.free 1
    have s0 := h1.c0
    have s1 := h1.c1
    have HB := hid hB
    have Hr := hid hr
    clear hf hp h1 h2 hne hga hgb hB hr
    go_wp2_with fail
    go_region
    generalize hV : ((W.setCell ⟨w.heap.size + 1 + 1, 0, none⟩ (.int .i64 ((y, z) : Int × Int).1)).setCell ⟨w.heap.size + 1 + 1, 1, none⟩ (.int .i64 ((y, z) : Int × Int).2)).drew = V
    have hq : PB 40 (w.heap.size + 1 + 1) ((y, z) : Int × Int) V := by rw [← hV]; exact Hr.out.store ((y, z) : Int × Int).1 ((y, z) : Int × Int).2
    have hBV : Below w.heap.size w V := by rw [← hV]; exact ((HB.out.setCell (by show w.heap.size ≤ w.heap.size + 1 + 1; omega) _).setCell (by show w.heap.size ≤ w.heap.size + 1 + 1; omega) _).drew
    clear hV
    have q0 := hq.c0
    have q1 := hq.c1
    go_wp2_with fail
    unfold qM
    refine bodyPost_ret (v := mtV o) (by unfold mtV; rw [Hm.out]; simp [Hz0.out, results, Try.results14, go_sem, q0, q1]) rfl ⟨rfl, hBV⟩


set_option maxRecDepth 20000 in
set_option maxHeartbeats 8000000 in
theorem meet7 (a d : Int) (k : Nat) (mode : Int) (n : Nat) (wd : Bool) (y z x : Int) (w W : World) (ga gb : Nat) (H : Hid (SoOk a d k mode n)) (x1 : -100000 ≤ x) (x2 : x ≤ 100000) (o : Nat → Int × Int) (Ho : Hid (o = orb2 (nxP (stepS a d k mode n wd x)) (y, z))) (Hin : Hid (∀ i, (-100000 ≤ (o i).1 ∧ (o i).1 ≤ 100000) ∧ -100000 ≤ (o i).2 ∧ (o i).2 ≤ 100000)) (m l : Nat) (hr0 : Hid (Rp o m l)) (hm1 : m ≤ 50000) (hl1 : l ≤ 100000) (q2 : Int × Int) (T9 : Hid (Two9 w W a d k mode n wd (y, z) (o m) q2 ga gb)) (x5 x6 x8 x11 x14 x15 x16 x17 x18 x19 x20 x21 x22 x23 x24 x25 x26 x27 x28 x29 x30 x31 x32 x33 x34 x35 x36 x37 x38 x39 x40 x41 x42 x43 x44 x45 x46 x47 x48 x49 x50 x51 x52 x53 x54 x55 x56 x57 x58 x59 x60 x61 x62 x63 x64 x65 x66 x67 x68 x69 x70 x71 x72 x73 x74 x75 x76 x77 x78 x79 x80 x81 : Value) :
    Code.wp Try.prog (cRest 7 (bodyOf Try.f14)) (qM w o) { tmps := List.toArray ((.agg #[.int .i64 a, .int .i64 d, .int .i64 (k : Int), .int .i64 mode, .int .i64 (n : Int), .bool wd]) :: (.agg #[.int .i64 y, .int .i64 z]) :: (.int .i64 x) :: (.pointer (some ⟨w.heap.size, 0, none⟩)) :: (.pointer (some ⟨w.heap.size + 1, 0, none⟩)) :: x5 :: x6 :: (.pointer (some ⟨w.heap.size + 1 + 1, 0, none⟩)) :: x8 :: (.pointer (some ⟨ga, 0, none⟩)) :: (.pointer (some ⟨gb, 0, none⟩)) :: x11 :: (.int .i64 (m : Int)) :: (.int .i64 1) :: x14 :: x15 :: x16 :: x17 :: x18 :: x19 :: x20 :: x21 :: x22 :: x23 :: x24 :: x25 :: x26 :: x27 :: x28 :: x29 :: x30 :: x31 :: x32 :: x33 :: x34 :: x35 :: x36 :: x37 :: x38 :: x39 :: x40 :: x41 :: x42 :: x43 :: x44 :: x45 :: x46 :: x47 :: x48 :: x49 :: x50 :: x51 :: x52 :: x53 :: x54 :: x55 :: x56 :: x57 :: x58 :: x59 :: x60 :: x61 :: x62 :: x63 :: x64 :: x65 :: x66 :: x67 :: x68 :: x69 :: x70 :: x71 :: x72 :: x73 :: x74 :: x75 :: x76 :: x77 :: x78 :: x79 :: x80 :: x81 :: []), defers := [] } W := by
  rw [show cRest 7 (bodyOf Try.f14) = .seq (cHead 7 (bodyOf Try.f14)) (cRest 8 (bodyOf Try.f14)) from by kernel_rfl]
  refine wp_seq_k ?_
  intro KK hK
  have HK := hid hK
  clear hK
  simp only [bodyOf, Try.f14, Option.getD_some, cHead]
  obtain ⟨hf, hp, hr, h1, h2, hne, hga, hgb, hB⟩ := T9.out
  obtain ⟨f0, f1, f2, f3, f4, f5⟩ := hf.cells
  have p0 := hp.c0
  have p1 := hp.c1
  have s0 := h1.c0
  have s1 := h1.c1
  have s2 := h1.free 0
  have s3 := h1.free 1
  have q0 := h2.c0
  have q1 := h2.c1
  have q2 := h2.free 0
  have q3 := h2.free 1
  clear hf hp hr h1 h2 hB
  have Hnx := hid (show ∀ c, (stepS a d k mode n wd x (o c).1 (o c).2, (o c).1) = o (c + 1) from fun c => by rw [Ho.out]; rfl)
  have n1 : ga ≠ gb := hne
  have n2 : gb ≠ ga := fun h => hne h.symm
  have hl0 := hr0.out.pos
  go_wp2_with fail
  obtain ⟨⟨b1, b2⟩, b3, b4⟩ := Hin.out (m)
  refine (sdNext_any a d k mode n wd _ _ x _ H.out b1 b2 b3 b4 x1 x2).mono ?_
  rintro e W1 ⟨rfl, hb⟩
  have T1 := hid (T9.out.kept hb)
  clear hb
  clear f0 f1 f2 f3 f4 f5 p0 p1 s0 s1 s2 s3 q0 q1 q2 q3
  obtain ⟨hf, hp, hr, h1, h2, hne, hga, hgb, hB⟩ := T1.out
  obtain ⟨f0, f1, f2, f3, f4, f5⟩ := hf.cells
  have p0 := hp.c0
  have p1 := hp.c1
  have s0 := h1.c0
  have s1 := h1.c1
  have s2 := h1.free 0
  have s3 := h1.free 1
  have q0 := h2.c0
  have q1 := h2.c1
  have q2 := h2.free 0
  have q3 := h2.free 1
  clear hf hp hr h1 h2 hB
  go_wp2_with fail
  have T2 := hid (show Two9 w ((W1.setCell ⟨gb, 0, none⟩ (.int .i64 (stepS a d k mode n wd x (o m).1 (o m).2))).setCell ⟨gb, 1, none⟩ (.int .i64 (o m).1)) a d k mode n wd (y, z) (o m) (o (m + 1)) ga gb from by rw [← Hnx.out m]; exact T1.out.setB (stepS a d k mode n wd x (o m).1 (o m).2, (o m).1))
  clear f0 f1 f2 f3 f4 f5 p0 p1 s0 s1 s2 s3 q0 q1 q2 q3
  go_loopw [13] (fun pd wr => ∃ kk : Nat, 1 ≤ kk ∧ kk ≤ l ∧ Hid (kk ≤ 20000) ∧ pd = .int .i64 kk ∧ Two9 w wr a d k mode n wd (y, z) (o m) (o (m + kk)) ga gb)
    (fun pd _ => l - (intOf pd).toNat)
  case atStart => exact ⟨1, by omega, by omega, hid (by omega), rfl, T2.out⟩
  case round =>
    obtain ⟨kk, hk1, hkl, HK2, rfl, hT⟩ := hrel
    have T := hid hT
    obtain ⟨hf, hp, hr, h1, h2, hne, hga, hgb, hB⟩ := hT
    obtain ⟨f0, f1, f2, f3, f4, f5⟩ := hf.cells
    have p0 := hp.c0
    have p1 := hp.c1
    have s0 := h1.c0
    have s1 := h1.c1
    have s2 := h1.free 0
    have s3 := h1.free 1
    have q0 := h2.c0
    have q1 := h2.c1
    have q2 := h2.free 0
    have q3 := h2.free 1
    clear hf hp hr h1 h2 hB
    by_cases hkl2 : kk = l
    · have e : o (m + kk) = o m := by rw [hkl2]; exact hr0.out.back
      rw [e] at q0 q1
      have hT2 : Two9 w wr a d k mode n wd (y, z) (o m) (o m) ga gb := by have h := T.out; rw [e] at h; exact h
      have T2 := hid hT2
      clear hT2
      subst hkl2
      clear e
      go_wp2_with fail
      exact HK.out _ _ (meet8 a d k mode n wd y z x w wr ga gb H x1 x2 o Ho Hin m kk hr0 hm1 hl1 (o m) T2 _ _ _ _ _ _ _ _ _ _ _ _ _ _ _ _ _ _ _ _ _ _ _ _ _ _ _ _ _ _ _ _ _ _ _ _ _ _ _ _ _ _ _ _ _ _ _ _ _ _ _ _ _ _ _ _ _ _ _ _ _ _ _ _ _ _ _ _ _ _ _ _)
    · have hne2 : o (m + kk) ≠ o m := fun h => hkl2 (by have hr := hr0.out; rw [Ho.out] at hr h; exact (hr.loop hk1 hkl).1 h.symm)
      by_cases hc1 : (o (m + kk)).1 = (o m).1
      · have c1 : ((o (m + kk)).1 == (o m).1) = true := beq_iff_eq.2 hc1
        have c2 : ((o (m + kk)).2 == (o m).2) = false := beq_eq_false_iff_ne.2 fun h => hne2 (Prod.ext hc1 h)
        clear hc1 hne2
        have hk2 := HK2.out
        by_cases hbig : 20000 < kk + 1
        · have hm : perR o = (0, 0) := perR_no fun m' l' hr => by have := hr0.out.unique hr; omega
          have hz0 : o 0 = (y, z) := by rw [Ho.out]; rfl
          have Hm := hid hm
          have Hz0 := hid hz0
          have hbI : 20000 < (kk : Int) + 1 := by omega
          clear hm hz0 hbig hk2
          obtain ⟨_, hpe, hre, _, _, _, _, _, hBe⟩ := T.out
          have p0 := hpe.c0
          have p1 := hpe.c1
          have r0 := hre.c0
          have r1 := hre.c1
          have r2 := hre.free 0
          have r3 := hre.free 1
          have HB := hid hBe
          have Hr := hid hre
          clear hpe hre hBe
          go_wp2_with fail
          go_region
          generalize hV : ((wr.setCell ⟨w.heap.size + 1 + 1, 0, none⟩ (.int .i64 ((y, z) : Int × Int).1)).setCell ⟨w.heap.size + 1 + 1, 1, none⟩ (.int .i64 ((y, z) : Int × Int).2)).drew = V
          have hq : PB 40 (w.heap.size + 1 + 1) ((y, z) : Int × Int) V := by rw [← hV]; exact Hr.out.store ((y, z) : Int × Int).1 ((y, z) : Int × Int).2
          have hBV : Below w.heap.size w V := by rw [← hV]; exact ((HB.out.setCell (by show w.heap.size ≤ w.heap.size + 1 + 1; omega) _).setCell (by show w.heap.size ≤ w.heap.size + 1 + 1; omega) _).drew
          clear hV
          have q0 := hq.c0
          have q1 := hq.c1
          go_wp2_with fail
          unfold qM
          refine bodyPost_ret (v := mtV o) (by unfold mtV; rw [Hm.out]; simp [Hz0.out, results, Try.results14, go_sem, q0, q1]) rfl ⟨rfl, hBV⟩
        · have cb : decide (20000 < (kk : Int) + 1) = false := decide_eq_false (by omega)
          have w1 : wrap64 ((kk : Int) + 1) = (kk : Int) + 1 := IntWalk.wrap64_in _ (by omega)
          have Hsm := hid (show kk + 1 ≤ 20000 from by omega)
          clear hbig hk2
          go_wp2_with fail
          obtain ⟨⟨b1, b2⟩, b3, b4⟩ := Hin.out (m + kk)
          refine (sdNext_any a d k mode n wd _ _ x _ H.out b1 b2 b3 b4 x1 x2).mono ?_
          rintro e W2 ⟨rfl, hb⟩
          have T3 := hid (T.out.kept hb)
          clear hb
          clear f0 f1 f2 f3 f4 f5 p0 p1 s0 s1 s2 s3 q0 q1 q2 q3
          obtain ⟨hf, hp, hr, h1, h2, hne, hga, hgb, hB⟩ := T3.out
          obtain ⟨f0, f1, f2, f3, f4, f5⟩ := hf.cells
          have p0 := hp.c0
          have p1 := hp.c1
          have s0 := h1.c0
          have s1 := h1.c1
          have s2 := h1.free 0
          have s3 := h1.free 1
          have q0 := h2.c0
          have q1 := h2.c1
          have q2 := h2.free 0
          have q3 := h2.free 1
          clear hf hp hr h1 h2 hB
          go_wp2_with fail
          go_roundw
          case rel =>
            refine ⟨kk + 1, by omega, by omega, Hsm, by go_num, ?_⟩
            rw [← Nat.add_assoc, ← Hnx.out (m + kk)]
            exact T3.out.setB (stepS a d k mode n wd x (o (m + kk)).1 (o (m + kk)).2, (o (m + kk)).1)
          case measure => simp [intOf]; omega
      · have c1 : ((o (m + kk)).1 == (o m).1) = false := beq_eq_false_iff_ne.2 hc1
        clear hc1 hne2
        have hk2 := HK2.out
        by_cases hbig : 20000 < kk + 1
        · have hm : perR o = (0, 0) := perR_no fun m' l' hr => by have := hr0.out.unique hr; omega
          have hz0 : o 0 = (y, z) := by rw [Ho.out]; rfl
          have Hm := hid hm
          have Hz0 := hid hz0
          have hbI : 20000 < (kk : Int) + 1 := by omega
          clear hm hz0 hbig hk2
          obtain ⟨_, hpe, hre, _, _, _, _, _, hBe⟩ := T.out
          have p0 := hpe.c0
          have p1 := hpe.c1
          have r0 := hre.c0
          have r1 := hre.c1
          have r2 := hre.free 0
          have r3 := hre.free 1
          have HB := hid hBe
          have Hr := hid hre
          clear hpe hre hBe
          go_wp2_with fail
          go_region
          generalize hV : ((wr.setCell ⟨w.heap.size + 1 + 1, 0, none⟩ (.int .i64 ((y, z) : Int × Int).1)).setCell ⟨w.heap.size + 1 + 1, 1, none⟩ (.int .i64 ((y, z) : Int × Int).2)).drew = V
          have hq : PB 40 (w.heap.size + 1 + 1) ((y, z) : Int × Int) V := by rw [← hV]; exact Hr.out.store ((y, z) : Int × Int).1 ((y, z) : Int × Int).2
          have hBV : Below w.heap.size w V := by rw [← hV]; exact ((HB.out.setCell (by show w.heap.size ≤ w.heap.size + 1 + 1; omega) _).setCell (by show w.heap.size ≤ w.heap.size + 1 + 1; omega) _).drew
          clear hV
          have q0 := hq.c0
          have q1 := hq.c1
          go_wp2_with fail
          unfold qM
          refine bodyPost_ret (v := mtV o) (by unfold mtV; rw [Hm.out]; simp [Hz0.out, results, Try.results14, go_sem, q0, q1]) rfl ⟨rfl, hBV⟩
        · have cb : decide (20000 < (kk : Int) + 1) = false := decide_eq_false (by omega)
          have w1 : wrap64 ((kk : Int) + 1) = (kk : Int) + 1 := IntWalk.wrap64_in _ (by omega)
          have Hsm := hid (show kk + 1 ≤ 20000 from by omega)
          clear hbig hk2
          go_wp2_with fail
          obtain ⟨⟨b1, b2⟩, b3, b4⟩ := Hin.out (m + kk)
          refine (sdNext_any a d k mode n wd _ _ x _ H.out b1 b2 b3 b4 x1 x2).mono ?_
          rintro e W2 ⟨rfl, hb⟩
          have T3 := hid (T.out.kept hb)
          clear hb
          clear f0 f1 f2 f3 f4 f5 p0 p1 s0 s1 s2 s3 q0 q1 q2 q3
          obtain ⟨hf, hp, hr, h1, h2, hne, hga, hgb, hB⟩ := T3.out
          obtain ⟨f0, f1, f2, f3, f4, f5⟩ := hf.cells
          have p0 := hp.c0
          have p1 := hp.c1
          have s0 := h1.c0
          have s1 := h1.c1
          have s2 := h1.free 0
          have s3 := h1.free 1
          have q0 := h2.c0
          have q1 := h2.c1
          have q2 := h2.free 0
          have q3 := h2.free 1
          clear hf hp hr h1 h2 hB
          go_wp2_with fail
          go_roundw
          case rel =>
            refine ⟨kk + 1, by omega, by omega, Hsm, by go_num, ?_⟩
            rw [← Nat.add_assoc, ← Hnx.out (m + kk)]
            exact T3.out.setB (stepS a d k mode n wd x (o (m + kk)).1 (o (m + kk)).2, (o (m + kk)).1)
          case measure => simp [intOf]; omega


set_option maxRecDepth 20000 in
set_option maxHeartbeats 8000000 in
theorem meet6 (a d : Int) (k : Nat) (mode : Int) (n : Nat) (wd : Bool) (y z x : Int) (w W : World) (ga gb : Nat) (H : Hid (SoOk a d k mode n)) (x1 : -100000 ≤ x) (x2 : x ≤ 100000) (o : Nat → Int × Int) (Ho : Hid (o = orb2 (nxP (stepS a d k mode n wd x)) (y, z))) (Hin : Hid (∀ i, (-100000 ≤ (o i).1 ∧ (o i).1 ≤ 100000) ∧ -100000 ≤ (o i).2 ∧ (o i).2 ≤ 100000)) (m l : Nat) (hr0 : Hid (Rp o m l)) (hm1 : m ≤ 50000) (hl1 : l ≤ 100000) (q2 : Int × Int) (T9 : Hid (Two9 w W a d k mode n wd (y, z) (o m) q2 ga gb)) (x5 x6 x8 x11 x13 x14 x15 x16 x17 x18 x19 x20 x21 x22 x23 x24 x25 x26 x27 x28 x29 x30 x31 x32 x33 x34 x35 x36 x37 x38 x39 x40 x41 x42 x43 x44 x45 x46 x47 x48 x49 x50 x51 x52 x53 x54 x55 x56 x57 x58 x59 x60 x61 x62 x63 x64 x65 x66 x67 x68 x69 x70 x71 x72 x73 x74 x75 x76 x77 x78 x79 x80 x81 : Value) :
    Code.wp Try.prog (cRest 6 (bodyOf Try.f14)) (qM w o) { tmps := List.toArray ((.agg #[.int .i64 a, .int .i64 d, .int .i64 (k : Int), .int .i64 mode, .int .i64 (n : Int), .bool wd]) :: (.agg #[.int .i64 y, .int .i64 z]) :: (.int .i64 x) :: (.pointer (some ⟨w.heap.size, 0, none⟩)) :: (.pointer (some ⟨w.heap.size + 1, 0, none⟩)) :: x5 :: x6 :: (.pointer (some ⟨w.heap.size + 1 + 1, 0, none⟩)) :: x8 :: (.pointer (some ⟨ga, 0, none⟩)) :: (.pointer (some ⟨gb, 0, none⟩)) :: x11 :: (.int .i64 (m : Int)) :: x13 :: x14 :: x15 :: x16 :: x17 :: x18 :: x19 :: x20 :: x21 :: x22 :: x23 :: x24 :: x25 :: x26 :: x27 :: x28 :: x29 :: x30 :: x31 :: x32 :: x33 :: x34 :: x35 :: x36 :: x37 :: x38 :: x39 :: x40 :: x41 :: x42 :: x43 :: x44 :: x45 :: x46 :: x47 :: x48 :: x49 :: x50 :: x51 :: x52 :: x53 :: x54 :: x55 :: x56 :: x57 :: x58 :: x59 :: x60 :: x61 :: x62 :: x63 :: x64 :: x65 :: x66 :: x67 :: x68 :: x69 :: x70 :: x71 :: x72 :: x73 :: x74 :: x75 :: x76 :: x77 :: x78 :: x79 :: x80 :: x81 :: []), defers := [] } W := by
  rw [show cRest 6 (bodyOf Try.f14) = .seq (cHead 6 (bodyOf Try.f14)) (cRest 7 (bodyOf Try.f14)) from by kernel_rfl]
  refine wp_seq_k ?_
  intro KK hK
  have HK := hid hK
  clear hK
  simp only [bodyOf, Try.f14, Option.getD_some, cHead]
  go_wp2_with fail
  exact HK.out _ _ (meet7 a d k mode n wd y z x w W ga gb H x1 x2 o Ho Hin m l hr0 hm1 hl1 q2 T9 _ _ _ _ _ _ _ _ _ _ _ _ _ _ _ _ _ _ _ _ _ _ _ _ _ _ _ _ _ _ _ _ _ _ _ _ _ _ _ _ _ _ _ _ _ _ _ _ _ _ _ _ _ _ _ _ _ _ _ _ _ _ _ _ _ _ _ _ _ _ _ _)


set_option maxRecDepth 20000 in
set_option maxHeartbeats 8000000 in
theorem meet5 (a d : Int) (k : Nat) (mode : Int) (n : Nat) (wd : Bool) (y z x : Int) (w W : World) (ga gb : Nat) (H : Hid (SoOk a d k mode n)) (x1 : -100000 ≤ x) (x2 : x ≤ 100000) (o : Nat → Int × Int) (Ho : Hid (o = orb2 (nxP (stepS a d k mode n wd x)) (y, z))) (Hin : Hid (∀ i, (-100000 ≤ (o i).1 ∧ (o i).1 ≤ 100000) ∧ -100000 ≤ (o i).2 ∧ (o i).2 ≤ 100000)) (m l : Nat) (hr0 : Hid (Rp o m l)) (hm1 : m ≤ 50000) (hl1 : l ≤ 100000) (c : Nat) (hc1 : 1 ≤ c) (hc2 : c ≤ 50000) (hdv : Hid (l ∣ 2 * c)) (T9 : Hid (Two9 w W a d k mode n wd (y, z) (o 0) (o (2 * c)) ga gb)) (x5 x6 x8 x11 x13 x14 x15 x16 x17 x18 x19 x20 x21 x22 x23 x24 x25 x26 x27 x28 x29 x30 x31 x32 x33 x34 x35 x36 x37 x38 x39 x40 x41 x42 x43 x44 x45 x46 x47 x48 x49 x50 x51 x52 x53 x54 x55 x56 x57 x58 x59 x60 x61 x62 x63 x64 x65 x66 x67 x68 x69 x70 x71 x72 x73 x74 x75 x76 x77 x78 x79 x80 x81 : Value) :
    Code.wp Try.prog (cRest 5 (bodyOf Try.f14)) (qM w o) { tmps := List.toArray ((.agg #[.int .i64 a, .int .i64 d, .int .i64 (k : Int), .int .i64 mode, .int .i64 (n : Int), .bool wd]) :: (.agg #[.int .i64 y, .int .i64 z]) :: (.int .i64 x) :: (.pointer (some ⟨w.heap.size, 0, none⟩)) :: (.pointer (some ⟨w.heap.size + 1, 0, none⟩)) :: x5 :: x6 :: (.pointer (some ⟨w.heap.size + 1 + 1, 0, none⟩)) :: x8 :: (.pointer (some ⟨ga, 0, none⟩)) :: (.pointer (some ⟨gb, 0, none⟩)) :: x11 :: (.int .i64 0) :: x13 :: x14 :: x15 :: x16 :: x17 :: x18 :: x19 :: x20 :: x21 :: x22 :: x23 :: x24 :: x25 :: x26 :: x27 :: x28 :: x29 :: x30 :: x31 :: x32 :: x33 :: x34 :: x35 :: x36 :: x37 :: x38 :: x39 :: x40 :: x41 :: x42 :: x43 :: x44 :: x45 :: x46 :: x47 :: x48 :: x49 :: x50 :: x51 :: x52 :: x53 :: x54 :: x55 :: x56 :: x57 :: x58 :: x59 :: x60 :: x61 :: x62 :: x63 :: x64 :: x65 :: x66 :: x67 :: x68 :: x69 :: x70 :: x71 :: x72 :: x73 :: x74 :: x75 :: x76 :: x77 :: x78 :: x79 :: x80 :: x81 :: []), defers := [] } W := by
  rw [show cRest 5 (bodyOf Try.f14) = .seq (cHead 5 (bodyOf Try.f14)) (cRest 6 (bodyOf Try.f14)) from by kernel_rfl]
  refine wp_seq_k ?_
  intro KK hK
  have HK := hid hK
  clear hK
  simp only [bodyOf, Try.f14, Option.getD_some, cHead]
  have Hnx := hid (show ∀ c, (stepS a d k mode n wd x (o c).1 (o c).2, (o c).1) = o (c + 1) from fun c => by rw [Ho.out]; rfl)
  have n1 : ga ≠ gb := T9.out.2.2.2.2.2.1
  have n2 : gb ≠ ga := fun h => n1 h.symm
  have hst : ∀ s, o s = o (2 * c + s) ↔ m ≤ s := fun s => by have hr := hr0.out; rw [Ho.out] at hr ⊢; exact hr.start (by omega) hdv.out
  have Hst := hid hst
  clear hst
  go_wp2_with fail
  go_loopw [12] (fun st wr => ∃ s : Nat, s ≤ m ∧ st = .int .i64 s ∧ Two9 w wr a d k mode n wd (y, z) (o s) (o (2 * c + s)) ga gb)
    (fun st _ => m - (intOf st).toNat)
  case atStart => exact ⟨0, by omega, rfl, T9.out⟩
  case round =>
    obtain ⟨s, hsm, rfl, hT⟩ := hrel
    have T := hid hT
    obtain ⟨hf, hp, hr, h1, h2, hne, hga, hgb, hB⟩ := hT
    obtain ⟨f0, f1, f2, f3, f4, f5⟩ := hf.cells
    have p0 := hp.c0
    have p1 := hp.c1
    have s0 := h1.c0
    have s1 := h1.c1
    have s2 := h1.free 0
    have s3 := h1.free 1
    have q0 := h2.c0
    have q1 := h2.c1
    have q2 := h2.free 0
    have q3 := h2.free 1
    clear hf hp hr h1 h2 hB
    by_cases hs2 : m ≤ s
    · have e := (Hst.out s).2 hs2
      rw [← e] at q0 q1
      have hsm2 : s = m := by omega
      have T2 := T
      clear e hs2
      subst hsm2
      go_wp2_with fail
      exact HK.out _ _ (meet6 a d k mode n wd y z x w wr ga gb H x1 x2 o Ho Hin s l hr0 hm1 hl1 (o (2 * c + s)) T2 _ _ _ _ _ _ _ _ _ _ _ _ _ _ _ _ _ _ _ _ _ _ _ _ _ _ _ _ _ _ _ _ _ _ _ _ _ _ _ _ _ _ _ _ _ _ _ _ _ _ _ _ _ _ _ _ _ _ _ _ _ _ _ _ _ _ _ _ _ _ _ _ _)
    · have hne2 : o s ≠ o (2 * c + s) := fun h => hs2 ((Hst.out s).1 h)
      by_cases hc : (o s).1 = (o (2 * c + s)).1
      · have c1 : ((o s).1 == (o (2 * c + s)).1) = true := beq_iff_eq.2 hc
        have c2 : ((o s).2 == (o (2 * c + s)).2) = false := beq_eq_false_iff_ne.2 fun h => hne2 (Prod.ext hc h)
        clear hc hne2
        go_wp2_with fail
        obtain ⟨⟨b1, b2⟩, b3, b4⟩ := Hin.out (s)
        refine (sdNext_any a d k mode n wd _ _ x _ H.out b1 b2 b3 b4 x1 x2).mono ?_
        rintro e W2 ⟨rfl, hb⟩
        have T3 := hid (T.out.kept hb)
        clear hb
        clear f0 f1 f2 f3 f4 f5 p0 p1 s0 s1 s2 s3 q0 q1 q2 q3
        obtain ⟨hf, hp, hr, h1, h2, hne, hga, hgb, hB⟩ := T3.out
        obtain ⟨f0, f1, f2, f3, f4, f5⟩ := hf.cells
        have p0 := hp.c0
        have p1 := hp.c1
        have s0 := h1.c0
        have s1 := h1.c1
        have s2 := h1.free 0
        have s3 := h1.free 1
        have q0 := h2.c0
        have q1 := h2.c1
        have q2 := h2.free 0
        have q3 := h2.free 1
        clear hf hp hr h1 h2 hB
        go_wp2_with fail
        have T4 := hid (show Two9 w ((W2.setCell ⟨ga, 0, none⟩ (.int .i64 (stepS a d k mode n wd x (o s).1 (o s).2))).setCell ⟨ga, 1, none⟩ (.int .i64 (o s).1)) a d k mode n wd (y, z) (o (s + 1)) (o (2 * c + s)) ga gb from by rw [← Hnx.out s]; exact T3.out.setA (stepS a d k mode n wd x (o s).1 (o s).2, (o s).1))
        generalize hW3 : (W2.setCell ⟨ga, 0, none⟩ (.int .i64 (stepS a d k mode n wd x (o s).1 (o s).2))).setCell ⟨ga, 1, none⟩ (.int .i64 (o s).1) = W3 at T4 ⊢
        clear hW3
        obtain ⟨⟨b1, b2⟩, b3, b4⟩ := Hin.out (2 * c + s)
        refine (sdNext_any a d k mode n wd _ _ x _ H.out b1 b2 b3 b4 x1 x2).mono ?_
        rintro e W4 ⟨rfl, hb⟩
        have T5 := hid (T4.out.kept hb)
        clear hb
        clear f0 f1 f2 f3 f4 f5 p0 p1 s0 s1 s2 s3 q0 q1 q2 q3
        obtain ⟨hf, hp, hr, h1, h2, hne, hga, hgb, hB⟩ := T5.out
        obtain ⟨f0, f1, f2, f3, f4, f5⟩ := hf.cells
        have p0 := hp.c0
        have p1 := hp.c1
        have s0 := h1.c0
        have s1 := h1.c1
        have s2 := h1.free 0
        have s3 := h1.free 1
        have q0 := h2.c0
        have q1 := h2.c1
        have q2 := h2.free 0
        have q3 := h2.free 1
        clear hf hp hr h1 h2 hB
        go_wp2_with fail
        go_roundw
        case rel =>
          refine ⟨s + 1, by omega, by go_num, ?_⟩
          rw [← Nat.add_assoc, ← Hnx.out (2 * c + s)]
          exact T5.out.setB (stepS a d k mode n wd x (o (2 * c + s)).1 (o (2 * c + s)).2, (o (2 * c + s)).1)
        case measure => simp [intOf]; omega
      · have c1 : ((o s).1 == (o (2 * c + s)).1) = false := beq_eq_false_iff_ne.2 hc
        clear hc hne2
        go_wp2_with fail
        obtain ⟨⟨b1, b2⟩, b3, b4⟩ := Hin.out (s)
        refine (sdNext_any a d k mode n wd _ _ x _ H.out b1 b2 b3 b4 x1 x2).mono ?_
        rintro e W2 ⟨rfl, hb⟩
        have T3 := hid (T.out.kept hb)
        clear hb
        clear f0 f1 f2 f3 f4 f5 p0 p1 s0 s1 s2 s3 q0 q1 q2 q3
        obtain ⟨hf, hp, hr, h1, h2, hne, hga, hgb, hB⟩ := T3.out
        obtain ⟨f0, f1, f2, f3, f4, f5⟩ := hf.cells
        have p0 := hp.c0
        have p1 := hp.c1
        have s0 := h1.c0
        have s1 := h1.c1
        have s2 := h1.free 0
        have s3 := h1.free 1
        have q0 := h2.c0
        have q1 := h2.c1
        have q2 := h2.free 0
        have q3 := h2.free 1
        clear hf hp hr h1 h2 hB
        go_wp2_with fail
        have T4 := hid (show Two9 w ((W2.setCell ⟨ga, 0, none⟩ (.int .i64 (stepS a d k mode n wd x (o s).1 (o s).2))).setCell ⟨ga, 1, none⟩ (.int .i64 (o s).1)) a d k mode n wd (y, z) (o (s + 1)) (o (2 * c + s)) ga gb from by rw [← Hnx.out s]; exact T3.out.setA (stepS a d k mode n wd x (o s).1 (o s).2, (o s).1))
        generalize hW3 : (W2.setCell ⟨ga, 0, none⟩ (.int .i64 (stepS a d k mode n wd x (o s).1 (o s).2))).setCell ⟨ga, 1, none⟩ (.int .i64 (o s).1) = W3 at T4 ⊢
        clear hW3
        obtain ⟨⟨b1, b2⟩, b3, b4⟩ := Hin.out (2 * c + s)
        refine (sdNext_any a d k mode n wd _ _ x _ H.out b1 b2 b3 b4 x1 x2).mono ?_
        rintro e W4 ⟨rfl, hb⟩
        have T5 := hid (T4.out.kept hb)
        clear hb
        clear f0 f1 f2 f3 f4 f5 p0 p1 s0 s1 s2 s3 q0 q1 q2 q3
        obtain ⟨hf, hp, hr, h1, h2, hne, hga, hgb, hB⟩ := T5.out
        obtain ⟨f0, f1, f2, f3, f4, f5⟩ := hf.cells
        have p0 := hp.c0
        have p1 := hp.c1
        have s0 := h1.c0
        have s1 := h1.c1
        have s2 := h1.free 0
        have s3 := h1.free 1
        have q0 := h2.c0
        have q1 := h2.c1
        have q2 := h2.free 0
        have q3 := h2.free 1
        clear hf hp hr h1 h2 hB
        go_wp2_with fail
        go_roundw
        case rel =>
          refine ⟨s + 1, by omega, by go_num, ?_⟩
          rw [← Nat.add_assoc, ← Hnx.out (2 * c + s)]
          exact T5.out.setB (stepS a d k mode n wd x (o (2 * c + s)).1 (o (2 * c + s)).2, (o (2 * c + s)).1)
        case measure => simp [intOf]; omega


set_option maxRecDepth 20000 in
set_option maxHeartbeats 8000000 in
theorem meet4 (a d : Int) (k : Nat) (mode : Int) (n : Nat) (wd : Bool) (y z x : Int) (w W : World) (ga gb : Nat) (H : Hid (SoOk a d k mode n)) (x1 : -100000 ≤ x) (x2 : x ≤ 100000) (o : Nat → Int × Int) (Ho : Hid (o = orb2 (nxP (stepS a d k mode n wd x)) (y, z))) (Hin : Hid (∀ i, (-100000 ≤ (o i).1 ∧ (o i).1 ≤ 100000) ∧ -100000 ≤ (o i).2 ∧ (o i).2 ≤ 100000)) (m l : Nat) (hr0 : Hid (Rp o m l)) (hm1 : m ≤ 50000) (hl1 : l ≤ 100000) (c : Nat) (hc1 : 1 ≤ c) (hc2 : c ≤ 50000) (hdv : Hid (l ∣ 2 * c)) (q1 : Int × Int) (T9 : Hid (Two9 w W a d k mode n wd (y, z) q1 (o (2 * c)) ga gb)) (x5 x6 x8 x11 x13 x14 x15 x16 x17 x18 x19 x20 x21 x22 x23 x24 x25 x26 x27 x28 x29 x30 x31 x32 x33 x34 x35 x36 x37 x38 x39 x40 x41 x42 x43 x44 x45 x46 x47 x48 x49 x50 x51 x52 x53 x54 x55 x56 x57 x58 x59 x60 x61 x62 x63 x64 x65 x66 x67 x68 x69 x70 x71 x72 x73 x74 x75 x76 x77 x78 x79 x80 x81 : Value) :
    Code.wp Try.prog (cRest 4 (bodyOf Try.f14)) (qM w o) { tmps := List.toArray ((.agg #[.int .i64 a, .int .i64 d, .int .i64 (k : Int), .int .i64 mode, .int .i64 (n : Int), .bool wd]) :: (.agg #[.int .i64 y, .int .i64 z]) :: (.int .i64 x) :: (.pointer (some ⟨w.heap.size, 0, none⟩)) :: (.pointer (some ⟨w.heap.size + 1, 0, none⟩)) :: x5 :: x6 :: (.pointer (some ⟨w.heap.size + 1 + 1, 0, none⟩)) :: x8 :: (.pointer (some ⟨ga, 0, none⟩)) :: (.pointer (some ⟨gb, 0, none⟩)) :: x11 :: (.int .i64 0) :: x13 :: x14 :: x15 :: x16 :: x17 :: x18 :: x19 :: x20 :: x21 :: x22 :: x23 :: x24 :: x25 :: x26 :: x27 :: x28 :: x29 :: x30 :: x31 :: x32 :: x33 :: x34 :: x35 :: x36 :: x37 :: x38 :: x39 :: x40 :: x41 :: x42 :: x43 :: x44 :: x45 :: x46 :: x47 :: x48 :: x49 :: x50 :: x51 :: x52 :: x53 :: x54 :: x55 :: x56 :: x57 :: x58 :: x59 :: x60 :: x61 :: x62 :: x63 :: x64 :: x65 :: x66 :: x67 :: x68 :: x69 :: x70 :: x71 :: x72 :: x73 :: x74 :: x75 :: x76 :: x77 :: x78 :: x79 :: x80 :: x81 :: []), defers := [] } W := by
  rw [show cRest 4 (bodyOf Try.f14) = .seq (cHead 4 (bodyOf Try.f14)) (cRest 5 (bodyOf Try.f14)) from by kernel_rfl]
  refine wp_seq_k ?_
  intro KK hK
  have HK := hid hK
  clear hK
  simp only [bodyOf, Try.f14, Option.getD_some, cHead]
  have hz0 : o 0 = (y, z) := by rw [Ho.out]; rfl
  have n1 : ga ≠ gb := T9.out.2.2.2.2.2.1
  have Hz0 := hid hz0
  clear hz0
  obtain ⟨hf, hp, hr, h1, h2, hne, hga, hgb, hB⟩ := T9.out
  obtain ⟨f0, f1, f2, f3, f4, f5⟩ := hf.cells
  have p0 := hp.c0
  have p1 := hp.c1
  have s0 := h1.c0
  have s1 := h1.c1
  have s2 := h1.free 0
  have s3 := h1.free 1
  have q0 := h2.c0
  have q1 := h2.c1
  have q2 := h2.free 0
  have q3 := h2.free 1
  clear hf hp hr h1 h2 hB
  go_wp2_with fail
  refine HK.out _ _ (meet5 a d k mode n wd y z x w _ ga gb H x1 x2 o Ho Hin m l hr0 hm1 hl1 c hc1 hc2 hdv (hid ?_) _ _ _ _ _ _ _ _ _ _ _ _ _ _ _ _ _ _ _ _ _ _ _ _ _ _ _ _ _ _ _ _ _ _ _ _ _ _ _ _ _ _ _ _ _ _ _ _ _ _ _ _ _ _ _ _ _ _ _ _ _ _ _ _ _ _ _ _ _ _ _ _ _)
  rw [Hz0.out]
  exact T9.out.setA (y, z)


set_option maxRecDepth 20000 in
set_option maxHeartbeats 8000000 in
theorem meet3 (a d : Int) (k : Nat) (mode : Int) (n : Nat) (wd : Bool) (y z x : Int) (w W : World) (ga gb : Nat) (H : Hid (SoOk a d k mode n)) (x1 : -100000 ≤ x) (x2 : x ≤ 100000) (o : Nat → Int × Int) (Ho : Hid (o = orb2 (nxP (stepS a d k mode n wd x)) (y, z))) (Hin : Hid (∀ i, (-100000 ≤ (o i).1 ∧ (o i).1 ≤ 100000) ∧ -100000 ≤ (o i).2 ∧ (o i).2 ≤ 100000)) (m l : Nat) (hr0 : Hid (Rp o m l)) (hm1 : m ≤ 50000) (hl1 : l ≤ 100000) (c : Nat) (hc1 : 1 ≤ c) (hc2 : c ≤ 50000) (hdv : Hid (l ∣ 2 * c)) (q1 : Int × Int) (T9 : Hid (Two9 w W a d k mode n wd (y, z) q1 (o (2 * c)) ga gb)) (x5 x6 x8 x11 x12 x13 x14 x15 x16 x17 x18 x19 x20 x21 x22 x23 x24 x25 x26 x27 x28 x29 x30 x31 x32 x33 x34 x35 x36 x37 x38 x39 x40 x41 x42 x43 x44 x45 x46 x47 x48 x49 x50 x51 x52 x53 x54 x55 x56 x57 x58 x59 x60 x61 x62 x63 x64 x65 x66 x67 x68 x69 x70 x71 x72 x73 x74 x75 x76 x77 x78 x79 x80 x81 : Value) :
    Code.wp Try.prog (cRest 3 (bodyOf Try.f14)) (qM w o) { tmps := List.toArray ((.agg #[.int .i64 a, .int .i64 d, .int .i64 (k : Int), .int .i64 mode, .int .i64 (n : Int), .bool wd]) :: (.agg #[.int .i64 y, .int .i64 z]) :: (.int .i64 x) :: (.pointer (some ⟨w.heap.size, 0, none⟩)) :: (.pointer (some ⟨w.heap.size + 1, 0, none⟩)) :: x5 :: x6 :: (.pointer (some ⟨w.heap.size + 1 + 1, 0, none⟩)) :: x8 :: (.pointer (some ⟨ga, 0, none⟩)) :: (.pointer (some ⟨gb, 0, none⟩)) :: x11 :: x12 :: x13 :: x14 :: x15 :: x16 :: x17 :: x18 :: x19 :: x20 :: x21 :: x22 :: x23 :: x24 :: x25 :: x26 :: x27 :: x28 :: x29 :: x30 :: x31 :: x32 :: x33 :: x34 :: x35 :: x36 :: x37 :: x38 :: x39 :: x40 :: x41 :: x42 :: x43 :: x44 :: x45 :: x46 :: x47 :: x48 :: x49 :: x50 :: x51 :: x52 :: x53 :: x54 :: x55 :: x56 :: x57 :: x58 :: x59 :: x60 :: x61 :: x62 :: x63 :: x64 :: x65 :: x66 :: x67 :: x68 :: x69 :: x70 :: x71 :: x72 :: x73 :: x74 :: x75 :: x76 :: x77 :: x78 :: x79 :: x80 :: x81 :: []), defers := [] } W := by
  rw [show cRest 3 (bodyOf Try.f14) = .seq (cHead 3 (bodyOf Try.f14)) (cRest 4 (bodyOf Try.f14)) from by kernel_rfl]
  refine wp_seq_k ?_
  intro KK hK
  have HK := hid hK
  clear hK
  simp only [bodyOf, Try.f14, Option.getD_some, cHead]
  go_wp2_with fail
  exact HK.out _ _ (meet4 a d k mode n wd y z x w W ga gb H x1 x2 o Ho Hin m l hr0 hm1 hl1 c hc1 hc2 hdv q1 T9 _ _ _ _ _ _ _ _ _ _ _ _ _ _ _ _ _ _ _ _ _ _ _ _ _ _ _ _ _ _ _ _ _ _ _ _ _ _ _ _ _ _ _ _ _ _ _ _ _ _ _ _ _ _ _ _ _ _ _ _ _ _ _ _ _ _ _ _ _ _ _ _ _)

theorem next9 {w W : World} {a d : Int} {k : Nat} {mode : Int} {n : Nat} {wd : Bool} {p : Int × Int} {x : Int} {o : Nat → Int × Int} {c ga gb : Nat} (Hnx : ∀ c, (stepS a d k mode n wd x (o c).1 (o c).2, (o c).1) = o (c + 1)) (h : Two9 w W a d k mode n wd p (o (c + 1)) (o (2 * c)) ga gb) :
    Two9 w ((W.setCell ⟨gb, 0, none⟩ (.int .i64 (stepS a d k mode n wd x (stepS a d k mode n wd x (o (2 * c)).1 (o (2 * c)).2) (o (2 * c)).1))).setCell ⟨gb, 1, none⟩ (.int .i64 (stepS a d k mode n wd x (o (2 * c)).1 (o (2 * c)).2))) a d k mode n wd p (o (c + 1)) (o (2 * (c + 1))) ga gb := by
  have e : o (2 * (c + 1)) = (stepS a d k mode n wd x (stepS a d k mode n wd x (o (2 * c)).1 (o (2 * c)).2) (o (2 * c)).1, stepS a d k mode n wd x (o (2 * c)).1 (o (2 * c)).2) := by
    have e1 := Hnx (2 * c)
    have e2 := Hnx (2 * c + 1)
    rw [← e1] at e2
    exact e2.symm
  rw [e]
  exact h.setB (stepS a d k mode n wd x (stepS a d k mode n wd x (o (2 * c)).1 (o (2 * c)).2) (o (2 * c)).1, stepS a d k mode n wd x (o (2 * c)).1 (o (2 * c)).2)


theorem ms9 {M c : Nat} (hM : M = 40002) (hc : c ≤ 40001) : M - (intOf (.int .i64 ((c : Int) + 1))).toNat < M - (intOf (.int .i64 (c : Int))).toNat := by
  simp [intOf]; omega


set_option maxRecDepth 20000 in
set_option maxHeartbeats 8000000 in
theorem meet2 (a d : Int) (k : Nat) (mode : Int) (n : Nat) (wd : Bool) (y z x : Int) (w W : World) (ga gb : Nat) (H : Hid (SoOk a d k mode n)) (x1 : -100000 ≤ x) (x2 : x ≤ 100000) (o : Nat → Int × Int) (Ho : Hid (o = orb2 (nxP (stepS a d k mode n wd x)) (y, z))) (Hin : Hid (∀ i, (-100000 ≤ (o i).1 ∧ (o i).1 ≤ 100000) ∧ -100000 ≤ (o i).2 ∧ (o i).2 ≤ 100000))(T9 : Hid (Two9 w W a d k mode n wd (y, z) (o 1) (o 2) ga gb)) (x5 x6 x8 x11 x12 x13 x14 x15 x16 x17 x18 x19 x20 x21 x22 x23 x24 x25 x26 x27 x28 x29 x30 x31 x32 x33 x34 x35 x36 x37 x38 x39 x40 x41 x42 x43 x44 x45 x46 x47 x48 x49 x50 x51 x52 x53 x54 x55 x56 x57 x58 x59 x60 x61 x62 x63 x64 x65 x66 x67 x68 x69 x70 x71 x72 x73 x74 x75 x76 x77 x78 x79 x80 x81 : Value) :
    Code.wp Try.prog (cRest 2 (bodyOf Try.f14)) (qM w o) { tmps := List.toArray ((.agg #[.int .i64 a, .int .i64 d, .int .i64 (k : Int), .int .i64 mode, .int .i64 (n : Int), .bool wd]) :: (.agg #[.int .i64 y, .int .i64 z]) :: (.int .i64 x) :: (.pointer (some ⟨w.heap.size, 0, none⟩)) :: (.pointer (some ⟨w.heap.size + 1, 0, none⟩)) :: x5 :: x6 :: (.pointer (some ⟨w.heap.size + 1 + 1, 0, none⟩)) :: x8 :: (.pointer (some ⟨ga, 0, none⟩)) :: (.pointer (some ⟨gb, 0, none⟩)) :: x11 :: x12 :: x13 :: x14 :: x15 :: x16 :: x17 :: x18 :: x19 :: x20 :: x21 :: x22 :: x23 :: x24 :: x25 :: x26 :: x27 :: x28 :: x29 :: x30 :: x31 :: x32 :: x33 :: x34 :: x35 :: x36 :: x37 :: x38 :: x39 :: x40 :: x41 :: x42 :: x43 :: x44 :: x45 :: x46 :: x47 :: x48 :: x49 :: x50 :: x51 :: x52 :: x53 :: x54 :: x55 :: x56 :: x57 :: x58 :: x59 :: x60 :: x61 :: x62 :: x63 :: x64 :: x65 :: x66 :: x67 :: x68 :: x69 :: x70 :: x71 :: x72 :: x73 :: x74 :: x75 :: x76 :: x77 :: x78 :: x79 :: x80 :: x81 :: []), defers := [] } W := by
  rw [show cRest 2 (bodyOf Try.f14) = .seq (cHead 2 (bodyOf Try.f14)) (cRest 3 (bodyOf Try.f14)) from by kernel_rfl]
  refine wp_seq_k ?_
  intro KK hK
  have HK := hid hK
  clear hK
  simp only [bodyOf, Try.f14, Option.getD_some, cHead]
  have Hnx := hid (show ∀ c, (stepS a d k mode n wd x (o c).1 (o c).2, (o c).1) = o (c + 1) from fun c => by rw [Ho.out]; rfl)
  have n1 : ga ≠ gb := T9.out.2.2.2.2.2.1
  have n2 : gb ≠ ga := fun h => n1 h.symm
  obtain ⟨M, hM⟩ : ∃ M, M = 40002 := ⟨_, rfl⟩
  have HM := hid hM
  clear hM
  go_wp2_with fail
  go_loopw [11] (fun nn wr => ∃ c : Nat, 1 ≤ c ∧ Hid (c ≤ 40001) ∧ nn = .int .i64 c ∧ Hid (∀ j, 1 ≤ j → j < c → o j ≠ o (2 * j)) ∧ Two9 w wr a d k mode n wd (y, z) (o c) (o (2 * c)) ga gb)
    (fun nn _ => M - (intOf nn).toNat)
  case atStart => exact ⟨1, by omega, hid (by omega), rfl, hid (fun j h1 h2 => by omega), T9.out⟩
  case round =>
    obtain ⟨c, hc0, HC, rfl, Hne, hT⟩ := hrel
    have T := hid hT
    obtain ⟨hf, hp, hr, h1, h2, hne, hga, hgb, hB⟩ := hT
    obtain ⟨f0, f1, f2, f3, f4, f5⟩ := hf.cells
    have p0 := hp.c0
    have p1 := hp.c1
    have s0 := h1.c0
    have s1 := h1.c1
    have s2 := h1.free 0
    have s3 := h1.free 1
    have q0 := h2.c0
    have q1 := h2.c1
    have q2 := h2.free 0
    have q3 := h2.free 1
    clear hf hp hr h1 h2 hB
    by_cases he : o c = o (2 * c)
    · have hx := rp_ex (show c < 2 * c from by omega) he
      obtain ⟨m, l, hr, hml⟩ := hx
      have hmt : m ≤ c ∧ l ∣ c := by
        have hr2 := hr
        have he2 := he
        rw [Ho.out] at hr2 he2
        exact (hr2.meet hc0).1 he2
      have Hr0 := hid hr
      have Hdv := hid (show l ∣ 2 * c from Nat.dvd_trans hmt.2 (Nat.dvd_mul_left c 2))
      have Hml := hid (show m ≤ 50000 ∧ l ≤ 100000 ∧ c ≤ 50000 from by have := HC.out; omega)
      rw [he] at s0 s1
      have e3 : o c = o (2 * c) := he
      clear hr hmt hml he
      have E3 := hid e3
      clear e3
      go_wp2_with fail
      exact HK.out _ _ (meet3 a d k mode n wd y z x w wr ga gb H x1 x2 o Ho Hin m l Hr0 Hml.out.1 Hml.out.2.1 c hc0 Hml.out.2.2 Hdv (o c) T _ _ _ _ _ _ _ _ _ _ _ _ _ _ _ _ _ _ _ _ _ _ _ _ _ _ _ _ _ _ _ _ _ _ _ _ _ _ _ _ _ _ _ _ _ _ _ _ _ _ _ _ _ _ _ _ _ _ _ _ _ _ _ _ _ _ _ _ _ _ _ _ _ _)
    · have hne2 : o c ≠ o (2 * c) := he
      have Hne2 := hid hne2
      by_cases hc1 : (o c).1 = (o (2 * c)).1
      · have c1 : ((o c).1 == (o (2 * c)).1) = true := beq_iff_eq.2 hc1
        have c2 : ((o c).2 == (o (2 * c)).2) = false := beq_eq_false_iff_ne.2 fun h => hne2 (Prod.ext hc1 h)
        clear hc1 hne2
        by_cases hbig : 40000 < c
        · have hm : perR o = (0, 0) := perR_no fun m' l' hr => by
            rcases Nat.lt_or_ge 20000 (m' + l') with q | q
            · exact q
            · exfalso
              have hr2 := hr
              rw [Ho.out] at hr2
              obtain ⟨n', e1, e2, e3, e4⟩ := hr2.meets
              refine Hne.out n' e1 (by omega) ?_
              rw [Ho.out]
              exact (hr2.meet e1).2 ⟨e3, e4⟩
          have hz0 : o 0 = (y, z) := by rw [Ho.out]; rfl
          have Hm := hid hm
          have Hz0 := hid hz0
          have hbI : 40000 < (c : Int) := by omega
          clear hm hz0 hbig
          obtain ⟨_, hpe, hre, _, _, _, _, _, hBe⟩ := T.out
          have p0 := hpe.c0
          have p1 := hpe.c1
          have r0 := hre.c0
          have r1 := hre.c1
          have r2 := hre.free 0
          have r3 := hre.free 1
          have HB := hid hBe
          have Hr := hid hre
          clear hpe hre hBe
          go_wp2_with fail
          go_region
          generalize hV : ((wr.setCell ⟨w.heap.size + 1 + 1, 0, none⟩ (.int .i64 ((y, z) : Int × Int).1)).setCell ⟨w.heap.size + 1 + 1, 1, none⟩ (.int .i64 ((y, z) : Int × Int).2)).drew = V
          have hq : PB 40 (w.heap.size + 1 + 1) ((y, z) : Int × Int) V := by rw [← hV]; exact Hr.out.store ((y, z) : Int × Int).1 ((y, z) : Int × Int).2
          have hBV : Below w.heap.size w V := by rw [← hV]; exact ((HB.out.setCell (by show w.heap.size ≤ w.heap.size + 1 + 1; omega) _).setCell (by show w.heap.size ≤ w.heap.size + 1 + 1; omega) _).drew
          clear hV
          have q0 := hq.c0
          have q1 := hq.c1
          go_wp2_with fail
          unfold qM
          refine bodyPost_ret (v := mtV o) (by unfold mtV; rw [Hm.out]; simp [Hz0.out, results, Try.results14, go_sem, q0, q1]) rfl ⟨rfl, hBV⟩
        · have cb : decide (40000 < (c : Int)) = false := decide_eq_false (by omega)
          have w1 : wrap64 ((c : Int) + 1) = (c : Int) + 1 := IntWalk.wrap64_in _ (by have := HC.out; omega)
          have Hsm := hid (show c + 1 ≤ 40001 from by omega)
          have hc9 : 1 ≤ c + 1 := by omega
          have Hne9 := hid (show ∀ j, 1 ≤ j → j < c + 1 → o j ≠ o (2 * j) from fun j h1 h2 => by
            rcases Nat.lt_or_ge j c with q | q
            · exact Hne.out j h1 q
            · rw [show j = c from by omega]; exact Hne2.out)
          clear hbig
          go_wp2_with fail
          obtain ⟨⟨b1, b2⟩, b3, b4⟩ := Hin.out (c)
          refine (sdNext_any a d k mode n wd _ _ x _ H.out b1 b2 b3 b4 x1 x2).mono ?_
          rintro e W2 ⟨rfl, hb⟩
          have T3 := hid (T.out.kept hb)
          clear hb
          clear f0 f1 f2 f3 f4 f5 p0 p1 s0 s1 s2 s3 q0 q1 q2 q3
          obtain ⟨hf, hp, hr, h1, h2, hne, hga, hgb, hB⟩ := T3.out
          obtain ⟨f0, f1, f2, f3, f4, f5⟩ := hf.cells
          have p0 := hp.c0
          have p1 := hp.c1
          have s0 := h1.c0
          have s1 := h1.c1
          have s2 := h1.free 0
          have s3 := h1.free 1
          have q0 := h2.c0
          have q1 := h2.c1
          have q2 := h2.free 0
          have q3 := h2.free 1
          clear hf hp hr h1 h2 hB
          go_wp2_with fail
          have T4 := hid (show Two9 w ((W2.setCell ⟨ga, 0, none⟩ (.int .i64 (stepS a d k mode n wd x (o c).1 (o c).2))).setCell ⟨ga, 1, none⟩ (.int .i64 (o c).1)) a d k mode n wd (y, z) (o (c + 1)) (o (2 * c)) ga gb from by rw [← Hnx.out c]; exact T3.out.setA (stepS a d k mode n wd x (o c).1 (o c).2, (o c).1))
          generalize hW3 : (W2.setCell ⟨ga, 0, none⟩ (.int .i64 (stepS a d k mode n wd x (o c).1 (o c).2))).setCell ⟨ga, 1, none⟩ (.int .i64 (o c).1) = W3 at T4 ⊢
          clear hW3
          obtain ⟨⟨b1, b2⟩, b3, b4⟩ := Hin.out (2 * c)
          obtain ⟨⟨d1, d2⟩, d3, d4⟩ := Hin.out (2 * c + 1)
          have e1 := congrArg Prod.fst (Hnx.out (2 * c))
          simp only at e1
          rw [← e1] at d1 d2
          have E1 := hid e1
          clear e1 d3 d4
          clear f0 f1 f2 f3 f4 f5 p0 p1 s0 s1 s2 s3 q0 q1 q2 q3
          have TT := T4
          obtain ⟨hf, hp, hr, h1, h2, hne, hga, hgb, hB⟩ := TT.out
          obtain ⟨f0, f1, f2, f3, f4, f5⟩ := hf.cells
          have p0 := hp.c0
          have p1 := hp.c1
          have s0 := h1.c0
          have s1 := h1.c1
          have s2 := h1.free 0
          have s3 := h1.free 1
          have q0 := h2.c0
          have q1 := h2.c1
          have q2 := h2.free 0
          have q3 := h2.free 1
          clear hf hp hr h1 h2 hB
          go_region_with (go_at_call 24; refine (sdNext_any a d k mode n wd _ _ x _ H.out (by assumption) (by assumption) (by assumption) (by assumption) x1 x2).mono ?_; rintro e w5 ⟨rfl, hb⟩; (first | have TT := hid (TT.out.kept (bel_undrew hb)) | have TT := hid (TT.out.kept hb)); clear hb; obtain ⟨hf, hp, hr, h1, h2, hne, hga, hgb, hB⟩ := TT.out; obtain ⟨f0, f1, f2, f3, f4, f5⟩ := hf.cells; have p0 := hp.c0; have p1 := hp.c1; have s0 := h1.c0; have s1 := h1.c1; have s2 := h1.free 0; have s3 := h1.free 1; have q0 := h2.c0; have q1 := h2.c1; have q2 := h2.free 0; have q3 := h2.free 1; clear hf hp hr h1 h2 hB)
          all_goals clear b1 b2 b3 b4 d1 d2
          all_goals
            go_wp2_with fail
            go_roundw
            case rel => exact ⟨c + 1, hc9, Hsm, by go_num, Hne9, by with_reducible exact next9 Hnx.out TT.out⟩
            case measure => rw [w1]; exact ms9 HM.out HC.out
      · have c1 : ((o c).1 == (o (2 * c)).1) = false := beq_eq_false_iff_ne.2 hc1
        clear hc1 hne2
        by_cases hbig : 40000 < c
        · have hm : perR o = (0, 0) := perR_no fun m' l' hr => by
            rcases Nat.lt_or_ge 20000 (m' + l') with q | q
            · exact q
            · exfalso
              have hr2 := hr
              rw [Ho.out] at hr2
              obtain ⟨n', e1, e2, e3, e4⟩ := hr2.meets
              refine Hne.out n' e1 (by omega) ?_
              rw [Ho.out]
              exact (hr2.meet e1).2 ⟨e3, e4⟩
          have hz0 : o 0 = (y, z) := by rw [Ho.out]; rfl
          have Hm := hid hm
          have Hz0 := hid hz0
          have hbI : 40000 < (c : Int) := by omega
          clear hm hz0 hbig
          obtain ⟨_, hpe, hre, _, _, _, _, _, hBe⟩ := T.out
          have p0 := hpe.c0
          have p1 := hpe.c1
          have r0 := hre.c0
          have r1 := hre.c1
          have r2 := hre.free 0
          have r3 := hre.free 1
          have HB := hid hBe
          have Hr := hid hre
          clear hpe hre hBe
          go_wp2_with fail
          go_region
          generalize hV : ((wr.setCell ⟨w.heap.size + 1 + 1, 0, none⟩ (.int .i64 ((y, z) : Int × Int).1)).setCell ⟨w.heap.size + 1 + 1, 1, none⟩ (.int .i64 ((y, z) : Int × Int).2)).drew = V
          have hq : PB 40 (w.heap.size + 1 + 1) ((y, z) : Int × Int) V := by rw [← hV]; exact Hr.out.store ((y, z) : Int × Int).1 ((y, z) : Int × Int).2
          have hBV : Below w.heap.size w V := by rw [← hV]; exact ((HB.out.setCell (by show w.heap.size ≤ w.heap.size + 1 + 1; omega) _).setCell (by show w.heap.size ≤ w.heap.size + 1 + 1; omega) _).drew
          clear hV
          have q0 := hq.c0
          have q1 := hq.c1
          go_wp2_with fail
          unfold qM
          refine bodyPost_ret (v := mtV o) (by unfold mtV; rw [Hm.out]; simp [Hz0.out, results, Try.results14, go_sem, q0, q1]) rfl ⟨rfl, hBV⟩
        · have cb : decide (40000 < (c : Int)) = false := decide_eq_false (by omega)
          have w1 : wrap64 ((c : Int) + 1) = (c : Int) + 1 := IntWalk.wrap64_in _ (by have := HC.out; omega)
          have Hsm := hid (show c + 1 ≤ 40001 from by omega)
          have hc9 : 1 ≤ c + 1 := by omega
          have Hne9 := hid (show ∀ j, 1 ≤ j → j < c + 1 → o j ≠ o (2 * j) from fun j h1 h2 => by
            rcases Nat.lt_or_ge j c with q | q
            · exact Hne.out j h1 q
            · rw [show j = c from by omega]; exact Hne2.out)
          clear hbig
          go_wp2_with fail
          obtain ⟨⟨b1, b2⟩, b3, b4⟩ := Hin.out (c)
          refine (sdNext_any a d k mode n wd _ _ x _ H.out b1 b2 b3 b4 x1 x2).mono ?_
          rintro e W2 ⟨rfl, hb⟩
          have T3 := hid (T.out.kept hb)
          clear hb
          clear f0 f1 f2 f3 f4 f5 p0 p1 s0 s1 s2 s3 q0 q1 q2 q3
          obtain ⟨hf, hp, hr, h1, h2, hne, hga, hgb, hB⟩ := T3.out
          obtain ⟨f0, f1, f2, f3, f4, f5⟩ := hf.cells
          have p0 := hp.c0
          have p1 := hp.c1
          have s0 := h1.c0
          have s1 := h1.c1
          have s2 := h1.free 0
          have s3 := h1.free 1
          have q0 := h2.c0
          have q1 := h2.c1
          have q2 := h2.free 0
          have q3 := h2.free 1
          clear hf hp hr h1 h2 hB
          go_wp2_with fail
          have T4 := hid (show Two9 w ((W2.setCell ⟨ga, 0, none⟩ (.int .i64 (stepS a d k mode n wd x (o c).1 (o c).2))).setCell ⟨ga, 1, none⟩ (.int .i64 (o c).1)) a d k mode n wd (y, z) (o (c + 1)) (o (2 * c)) ga gb from by rw [← Hnx.out c]; exact T3.out.setA (stepS a d k mode n wd x (o c).1 (o c).2, (o c).1))
          generalize hW3 : (W2.setCell ⟨ga, 0, none⟩ (.int .i64 (stepS a d k mode n wd x (o c).1 (o c).2))).setCell ⟨ga, 1, none⟩ (.int .i64 (o c).1) = W3 at T4 ⊢
          clear hW3
          obtain ⟨⟨b1, b2⟩, b3, b4⟩ := Hin.out (2 * c)
          obtain ⟨⟨d1, d2⟩, d3, d4⟩ := Hin.out (2 * c + 1)
          have e1 := congrArg Prod.fst (Hnx.out (2 * c))
          simp only at e1
          rw [← e1] at d1 d2
          have E1 := hid e1
          clear e1 d3 d4
          clear f0 f1 f2 f3 f4 f5 p0 p1 s0 s1 s2 s3 q0 q1 q2 q3
          have TT := T4
          obtain ⟨hf, hp, hr, h1, h2, hne, hga, hgb, hB⟩ := TT.out
          obtain ⟨f0, f1, f2, f3, f4, f5⟩ := hf.cells
          have p0 := hp.c0
          have p1 := hp.c1
          have s0 := h1.c0
          have s1 := h1.c1
          have s2 := h1.free 0
          have s3 := h1.free 1
          have q0 := h2.c0
          have q1 := h2.c1
          have q2 := h2.free 0
          have q3 := h2.free 1
          clear hf hp hr h1 h2 hB
          go_region_with (go_at_call 24; refine (sdNext_any a d k mode n wd _ _ x _ H.out (by assumption) (by assumption) (by assumption) (by assumption) x1 x2).mono ?_; rintro e w5 ⟨rfl, hb⟩; (first | have TT := hid (TT.out.kept (bel_undrew hb)) | have TT := hid (TT.out.kept hb)); clear hb; obtain ⟨hf, hp, hr, h1, h2, hne, hga, hgb, hB⟩ := TT.out; obtain ⟨f0, f1, f2, f3, f4, f5⟩ := hf.cells; have p0 := hp.c0; have p1 := hp.c1; have s0 := h1.c0; have s1 := h1.c1; have s2 := h1.free 0; have s3 := h1.free 1; have q0 := h2.c0; have q1 := h2.c1; have q2 := h2.free 0; have q3 := h2.free 1; clear hf hp hr h1 h2 hB)
          all_goals clear b1 b2 b3 b4 d1 d2
          all_goals
            go_wp2_with fail
            go_roundw
            case rel => exact ⟨c + 1, hc9, Hsm, by go_num, Hne9, by with_reducible exact next9 Hnx.out TT.out⟩
            case measure => rw [w1]; exact ms9 HM.out HC.out

end Go.Proofs.Ytbbfigbfkhlddaa
