
import Derived.Test.YtihoidejjljajaaDoorHd
import Derived.Test.YtihoidejjljajaaDoorTa
import Derived.Test.YtihoidejjljajaaDoorShj
import Derived.Lib.AppendIntMem
import Derived.Deep.RegionHeld3
namespace Go.Proofs.YtihoidejjljajaaDoor
open Go.RowKit BitX Go.MemX
set_option linter.unusedVariables false
theorem ret_sb {a b : ByteArray} {c d : Bool} (h : a = b) (h2 : c = d) : Ending.returned (.tuple #[.string a, .bool c]) = .returned (.tuple #[.string b, .bool d]) := by rw [h, h2]
/-- a part's text -/
def ctL (f : Fo) : List UInt8 := Lib.itoa f.a ++ [47] ++ Lib.itoa f.k
def ctS (f : Fo) : ByteArray := ⟨(ctL f).toArray⟩
/-- the texts of the first k parts -/
def acC (fs : List Fo) (k : Nat) : List UInt8 := Lib.join ((fs.take k).map ctL) [59]
def acS (fs : List Fo) (k : Nat) : ByteArray := ⟨(acC fs k).toArray⟩
theorem acC_one (fs : List Fo) (f : Fo) (h : fs[0]? = some f) : acC fs 1 = ctL f := by
  unfold acC
  cases fs with
  | nil => simp at h
  | cons y r => simp at h; subst h; simp [Lib.join_one]
theorem acC_step (fs : List Fo) (k : Nat) (f : Fo) (hk : 0 < k) (h : fs[k]? = some f) : acC fs (k + 1) = acC fs k ++ [59] ++ ctL f := by
  unfold acC
  cases fs with
  | nil => simp at h
  | cons y r =>
    obtain ⟨j, rfl⟩ : ∃ j, k = j + 1 := ⟨k - 1, by omega⟩
    simp only [List.getElem?_cons_succ] at h
    simp only [List.take_succ_cons, List.map_cons, Lib.join_cons]
    rw [List.map_take, List.map_take, Lib.joinTail_take_succ [59] (r.map ctL) j (ctL f) (by simp [h])]
    simp [List.append_assoc]
theorem foG_ak {f : Fo} (h : foG f = true) : (-1024 ≤ f.a ∧ f.a ≤ 1024) ∧ (0 ≤ f.k ∧ f.k ≤ 10) := ⟨(foB_t h).1, (foB_t h).2.1⟩
theorem ctL_len {f : Fo} (h : foG f = true) : (ctL f).length ≤ 15 := by
  obtain ⟨⟨a1, a2⟩, k1, k2⟩ := foG_ak h
  have := itoa_len f.a (by omega) (by omega)
  have := itoa_len f.k (by omega) (by omega)
  unfold ctL
  simp; omega
theorem acC_len {fs : List Fo} (h : ∀ (i : Nat) (f : Fo), fs[i]? = some f → foG f = true) : ∀ k, k ≤ fs.length → (acC fs k).length ≤ 16 * k
  | 0, _ => by simp [acC, Lib.join_nil]
  | k + 1, hk => by
    obtain ⟨f, hkf⟩ := get_lt fs k (by omega)
    have hi := ctL_len (h k f hkf)
    have ih := acC_len h k (by omega)
    by_cases h0 : k = 0
    · subst h0; rw [acC_one fs f hkf]; omega
    · rw [acC_step fs k f (by omega) hkf, List.length_append, List.length_append]
      simp; omega
theorem bsize (l : List UInt8) : ((⟨l.toArray⟩ : ByteArray).size : Int) = (l.length : Int) := by show ((l.toArray.size : Nat) : Int) = _; simp
/-- the strings that a part's text is made of -/
structure Cat (f : Fo) (s1 s2 : ByteArray) : Prop where
  c1 : ∀ W : World, (Op.stringOp .add (itoaS f.a) ⟨#[47]⟩).run Tryd.prog W = .ok (.string s1) W
  c2 : ∀ W : World, (Op.stringOp .add s1 (itoaS f.k)).run Tryd.prog W = .ok (.string s2) W
theorem cat_of {f : Fo} (h : foG f = true) : ∃ s1 s2, Cat f s1 s2 ∧ s2 = ctS f := by
  obtain ⟨⟨a1, a2⟩, k1, k2⟩ := foG_ak h
  have l1 := itoa_len f.a (by omega) (by omega)
  have hs1 : (((itoaS f.a) ++ ⟨#[47]⟩ : ByteArray).size : Int) ≤ 8388608 := by
    rw [show (itoaS f.a) ++ ⟨#[47]⟩ = (⟨(Lib.itoa f.a ++ [47]).toArray⟩ : ByteArray) from cat_str _ [47], bsize]; simp; omega
  refine ⟨itoaS f.a ++ ⟨#[47]⟩, itoaS f.a ++ ⟨#[47]⟩ ++ itoaS f.k, ⟨fun W => run_string_add W _ _ (itoaS_size f.a (by omega) (by omega)) (by show ((1 : Nat) : Int) ≤ 8388608; omega), fun W => run_string_add W _ _ hs1 (itoaS_size f.k (by omega) (by omega))⟩, ?_⟩
  unfold ctS ctL itoaS
  rw [show (⟨#[47]⟩ : ByteArray) = ⟨[47].toArray⟩ from rfl, cat_str, cat_str]
theorem box2c {w W : World} {u0 u1 u2 u3 u4 : Value} {t : TypeId} (hb : Below (w.alloc (.cells #[u0, u1, u2, u3, u4] t)).heap.size (w.alloc (.cells #[u0, u1, u2, u3, u4] t)) W) :
    W.cell? ⟨w.heap.size, 0, none⟩ = some u0 ∧ W.cell? ⟨w.heap.size, 1, none⟩ = some u1 := by
  refine ⟨?_, ?_⟩
  all_goals rw [hb.cell (by simp), World.cell?_alloc_at _ _ _ _ rfl]; rfl
theorem ctB_a {f : Fo} (h : foG f = true) : -100000 ≤ f.a ∧ f.a ≤ 100000 := by have := (foG_ak h).1; omega
theorem ctB_k {f : Fo} (h : foG f = true) : -100000 ≤ f.k ∧ f.k ≤ 100000 := by have := (foG_ak h).2; omega


set_option maxHeartbeats 4000000 in
theorem spec_ChainText_in (v : Value) (fs : List Fo) (w : World) (hs : FSl w v fs) (hg : fsB fs = true) :
    Calls Tryd.prog 5 #[v] w fun e w' => e = .returned (.tuple #[.string (acS fs fs.length), .bool true]) ∧ Below w.heap.size w w' := by
  have Hs := hid hs
  obtain ⟨a, n, cap, rfl, hn, hrd⟩ := hs
  have Hn := hid hn
  have Hrd := hid hrd
  have HG := hid hg
  have HE := hid (fsB_t hg).2
  have n4 : n ≤ 4 := by rw [hn]; exact (fsB_t hg).1.2
  have hl : fs.length ≤ 2000000 := by omega
  have hz : acS fs 0 = ⟨#[]⟩ := rfl
  have Hz := hid hz
  clear hn hrd hg hz
  go_enter Tryd.func5, Tryd.ntmps5
  go_wp2_with fail
  refine (chGood_is _ fs _ Hs.out hl).mono ?_
  rintro e w1 ⟨rfl, hb1⟩
  rw [HG.out]
  have HB1 := hid hb1
  clear hb1
  go_wp2_with fail
  go_loopw [4, 12] (fun s i wr => ∃ k : Nat, k ≤ n ∧ i = .int .i64 k ∧ s = .string (acS fs k) ∧ Below w1.heap.size w1 wr)
    (fun _ i _ => n - (intOf i).toNat)
  case atStart => exact ⟨0, by omega, rfl, by rw [Hz.out], Below.refl _ _⟩
  case round =>
    obtain ⟨k, hk, rfl, rfl, hb⟩ := hrel
    by_cases hlk : k < n
    · obtain ⟨f, hkf⟩ := get_lt fs k (by rw [← Hn.out]; exact hlk)
      have hgf := HE.out k f hkf
      obtain ⟨bb, oo, hix, hbb, h0, h1, h2, h3, h4⟩ := (Hrd.out.kept (bel_step HB1.out hb)).at (P := Tryd.prog) (T := 26) n cap usliceF sfiveF hkf hlk
      obtain ⟨s1, s2, hcat, hs2⟩ := cat_of hgf
      obtain ⟨hc1, hc2⟩ := hcat
      have Ha := hid (ctB_a hgf)
      have Hk := hid (ctB_k hgf)
      have hlen := acC_len HE.out k (by rw [← Hn.out]; exact hk)
      have hct := ctL_len hgf
      have hsz2 : (s2.size : Int) ≤ 8388608 := by rw [hs2]; unfold ctS; rw [bsize]; omega
      have hsza : ((acS fs k).size : Int) ≤ 512 := by unfold acS; rw [bsize]; omega
      have i1 : (0 : Int) ≤ (k : Int) := by omega
      have i2 : (k : Int) < (n : Int) := by omega
      by_cases hk0 : k = 0
      · have Hst := hid (show acS fs k ++ s2 = acS fs (k + 1) from by subst hk0; rw [hs2]; unfold acS ctS; rw [acC_one fs f hkf]; exact cat_str _ _)
        have hkz : (k : Int) ≤ 0 := by omega
        generalize acS fs k = t0 at hsza Hst ⊢
        have hc3 : ∀ W : World, (Op.stringOp .add t0 s2).run Tryd.prog W = .ok (.string (t0 ++ s2)) W := fun W => run_string_add W _ _ (by omega) hsz2
        clear hkf hgf hs2 hlen hct hsz2 hsza hk0
        go_wp2_with fail
        go_region_held3 (fun X => X.cell? ⟨wr.heap.size, 0, none⟩ = some (.int .i64 f.a) ∧ X.cell? ⟨wr.heap.size, 1, none⟩ = some (.int .i64 f.k)) (first | exact hS | assumption | go_keep) (first | (go_at_call 10; refine (wdInt_any _ (by first | exact Ha.out.1 | exact Hk.out.1) (by first | exact Ha.out.2 | exact Hk.out.2) _).mono ?_; rintro e w2 ⟨rfl, hb2⟩; (first | have hB := hB.trans (hb2.mono hB.size) | have hB := (Below.refl _ _).drew.trans hb2); have hS := box2c hB))
        all_goals
          clear hc1 hc2 hc3
          go_wp2
          go_roundw
          case rel => exact ⟨k + 1, by omega, by go_num, by rw [Hst.out], bel_step hb (bel_step (bel_alloc _ _) hB)⟩
          case measure => simp [intOf]; omega
      · have hk1 : 0 < (k : Int) := by omega
        obtain ⟨t1, ht1⟩ : ∃ t1 : ByteArray, acS fs k ++ ⟨#[59]⟩ = t1 := ⟨_, rfl⟩
        have Hst := hid (show t1 ++ s2 = acS fs (k + 1) from by rw [← ht1, hs2]; unfold acS ctS; rw [acC_step fs k f (by omega) hkf, show (⟨#[59]⟩ : ByteArray) = ⟨[59].toArray⟩ from rfl, cat_str, cat_str])
        have hsz1 : (t1.size : Int) ≤ 8388608 := by
          rw [← ht1, ByteArray.size_append]
          have : (⟨#[59]⟩ : ByteArray).size = 1 := rfl
          omega
        have hc0 : ∀ W : World, (Op.stringOp .add (acS fs k) ⟨#[59]⟩).run Tryd.prog W = .ok (.string t1) W := fun W => by
          rw [run_string_add W _ _ (by omega) (by show ((1 : Nat) : Int) ≤ 8388608; omega), ht1]
        have hc3 : ∀ W : World, (Op.stringOp .add t1 s2).run Tryd.prog W = .ok (.string (t1 ++ s2)) W := fun W => run_string_add W _ _ hsz1 hsz2
        generalize acS fs k = t0 at hc0 ⊢
        clear hkf hgf hs2 hlen hct hsz2 hsza hk0 hsz1 ht1
        go_wp2_with fail
        go_region_held3 (fun X => X.cell? ⟨wr.heap.size, 0, none⟩ = some (.int .i64 f.a) ∧ X.cell? ⟨wr.heap.size, 1, none⟩ = some (.int .i64 f.k)) (first | exact hS | assumption | go_keep) (first | (go_at_call 10; refine (wdInt_any _ (by first | exact Ha.out.1 | exact Hk.out.1) (by first | exact Ha.out.2 | exact Hk.out.2) _).mono ?_; rintro e w2 ⟨rfl, hb2⟩; (first | have hB := hB.trans (hb2.mono hB.size) | have hB := (Below.refl _ _).drew.trans hb2); have hS := box2c hB))
        all_goals
          clear hc0 hc1 hc2 hc3
          go_wp2
          go_roundw
          case rel => exact ⟨k + 1, by omega, by go_num, by rw [Hst.out], bel_step hb (bel_step (bel_alloc _ _) hB)⟩
          case measure => simp [intOf]; omega
    · have hge : (n : Int) ≤ (k : Int) := by omega
      have HK := hid (show k = fs.length from by rw [← Hn.out]; omega)
      clear hlk
      go_wp2
      go_ret2
      exact ⟨ret_sb (by rw [HK.out]) rfl, bel_step HB1.out hb⟩


theorem sto2 {W : World} {g b k : Nat} {u : Value} {x y : Option Value} (h : W.cell? ⟨b, 0, none⟩ = x ∧ W.cell? ⟨b, 1, none⟩ = y) (hne : g < b) :
    (W.setCell ⟨g, k, none⟩ u).cell? ⟨b, 0, none⟩ = x ∧ (W.setCell ⟨g, k, none⟩ u).cell? ⟨b, 1, none⟩ = y := by
  refine ⟨?_, ?_⟩
  · rw [World.cell?_setCell_other _ _ _ _ (by intro e; have := congrArg Addr.block e; simp at this; omega)]; exact h.1
  · rw [World.cell?_setCell_other _ _ _ _ (by intro e; have := congrArg Addr.block e; simp at this; omega)]; exact h.2

/-- a block that holds just these values -/
def BlkV (E : TypeId) (w : World) (g : Nat) (vs : List Value) : Prop := w.heap[g]? = some (.cells vs.toArray E (0, 0))

theorem BlkV.lt {E : TypeId} {w : World} {g : Nat} {vs : List Value} (h : BlkV E w g vs) : g < w.heap.size := lt_of_block h

theorem BlkV.cell {E : TypeId} {w : World} {g : Nat} {vs : List Value} (h : BlkV E w g vs) {i : Nat} {x : Value} (hi : vs[i]? = some x) : w.cell? ⟨g, i, none⟩ = some x := by
  rw [cell_of_row w g i _ _ _ h]; simpa using hi

theorem BlkV.free {E : TypeId} {w : World} {g : Nat} {vs : List Value} (h : BlkV E w g vs) (i : Nat) : w.frozen? ⟨g, i, none⟩ = false := frozen_of_row w g i _ _ h

theorem BlkV.kept {E : TypeId} {w w' : World} {g : Nat} {vs : List Value} {B : Nat} (h : BlkV E w g vs) (hb : Below B w w') (hg : g < B) : BlkV E w' g vs := by
  unfold BlkV; rw [hb.block g hg]; exact h

theorem BlkV.set {E : TypeId} {w : World} {g : Nat} {vs : List Value} (h : BlkV E w g vs) (i : Nat) (x : Value) : BlkV E (w.setCell ⟨g, i, none⟩ x) g (vs.set i x) := by
  unfold BlkV; rw [heap_setCell_same _ _ _ _ _ _ h]; simp

theorem run_make_strs (n : Nat) (hn : n ≤ 1000000) (w : World) :
    (Instr.makeSlice 40 (.int .i64 (n : Int)) (.int .i64 (n : Int))).run Tryd.prog w = .ok (.slice (some ⟨w.heap.size, 0, none⟩) n n) (w.alloc (.cells (List.replicate n (Value.string ⟨#[]⟩)).toArray 9)) := by
  have hi : (Tryd.prog.info? 9).map (fun i => (i.zero, i.size, i.bytes)) = some (some (.string ⟨#[]⟩), 1, 16) := by kernel_rfl
  obtain ⟨i0, hi0, hz0, hz1, hz2⟩ := info_parts hi
  have hr := run_make (P := Tryd.prog) w 40 9 i0 _ (by kernel_rfl) hi0 hz0 .i64 .i64 n n (by omega) (Int.le_refl _) (by rw [hz2]; omega) (by omega)
  rw [hr, hz1]
  have : madeCells (Value.string ⟨#[]⟩).cells n = (List.replicate n (Value.string ⟨#[]⟩)).toArray := by
    apply Array.toList_inj.1
    rw [show (Value.string ⟨#[]⟩).cells = #[Value.string ⟨#[]⟩] from rfl, toList_madeCells_one]
  simp only [Int.toNat_natCast, Nat.mul_one, this]


theorem Itoa_b (x : Int) (h1 : -100000 ≤ x) (h2 : x ≤ 100000) (w : World) (ht : Lib.TabIs Tryd.prog w "internal/strconv.uint64pow10" .u64 Lib.pow10Tab) :
    Calls Tryd.prog 13 #[.int .i64 x] w fun e w' => e = .returned (.string (itoaS x)) ∧ Below w.heap.size w w' :=
  (Tryd.strconv_Itoa x (by omega) (by omega) w ht).mono fun e w' ⟨he, kk, os, hw⟩ => ⟨he, by rw [hw]; exact Lib.below_grow _ _ (Nat.le_refl _) kk os⟩
/-- the texts of the first k parts, empty ones behind them -/
def txC (fs : List Fo) (k : Nat) : List Value := (fs.take k).map (fun f => Value.string (ctS f)) ++ List.replicate (fs.length - k) (Value.string ⟨#[]⟩)
theorem txC_zero (xs : List Fo) : txC xs 0 = List.replicate xs.length (Value.string ⟨#[]⟩) := by simp [txC]
theorem txC_full (xs : List Fo) : txC xs xs.length = xs.map (fun x => Value.string (ctS x)) := by simp [txC]
theorem txC_get (xs : List Fo) (k : Nat) (h : k < xs.length) : (txC xs k)[k]? = some (Value.string ⟨#[]⟩) := by
  have e : ((xs.take k).map (fun x => Value.string (ctS x))).length = k := by simp; omega
  unfold txC
  rw [List.getElem?_append_right (by rw [e]; exact Nat.le_refl _), e, Nat.sub_self, List.getElem?_replicate, if_pos (by omega)]
theorem txC_set (xs : List Fo) (k : Nat) (x : Fo) (h : xs[k]? = some x) : (txC xs k).set k (Value.string (ctS x)) = txC xs (k + 1) := by
  have hk : k < xs.length := (List.getElem?_eq_some_iff.1 h).1
  have e : ((xs.take k).map (fun x => Value.string (ctS x))).length = k := by simp; omega
  unfold txC
  rw [List.set_append_right _ _ (by rw [e]; exact Nat.le_refl _), List.take_add_one, h]
  rw [e, Nat.sub_self, show xs.length - k = (xs.length - (k + 1)) + 1 from by omega, List.replicate_succ, List.set_cons_zero]
  simp
theorem joinC (bk n c : Nat) (fs : List Fo) (w : World) (hn : n = fs.length) (hx : ∀ (i : Nat) (f : Fo), fs[i]? = some f → foG f = true) (hl : fs.length ≤ 4) (hc : n ≤ c) (hcells : BlkV 9 w bk (fs.map (fun x => Value.string (ctS x)))) :
    Calls Tryd.prog 14 #[.slice (some ⟨bk, 0, none⟩) n c, .string ⟨#[59]⟩] w fun e w' => e = .returned (.string (acS fs fs.length)) ∧ Below w.heap.size w w' := by
  have hn2 : n = (fs.map ctS).length := by simp [hn]
  subst hn2
  have e2 : Lib.join ((fs.map ctS).map (·.data.toList)) [59] = acC fs fs.length := by
    unfold acC; rw [List.take_length, List.map_map]; rfl
  have hlen : (Lib.join ((fs.map ctS).map (·.data.toList)) [59]).length ≤ 140737488355328 := by
    have e := acC_len hx fs.length (Nat.le_refl _)
    rw [e2]; omega
  have := Tryd.strings_Join bk 0 c (fs.map ctS) ⟨#[59]⟩ w (fun j x hj => by
    rw [Nat.zero_add]
    refine hcells.cell ?_
    rw [List.getElem?_map] at hj ⊢
    cases hxj : fs[j]? with
    | none => rw [hxj] at hj; cases hj
    | some y => rw [hxj] at hj; cases hj; rfl) hcells.lt (by simp; omega) hc hlen
  refine this.mono fun e w' ⟨he, hb⟩ => ⟨?_, hb⟩
  rw [he]
  exact congrArg (fun l : List UInt8 => Ending.returned (.string ⟨l.toArray⟩)) e2


set_option maxHeartbeats 4000000 in
theorem impl_ChainText_in (v : Value) (fs : List Fo) (w : World) (hs : FSl w v fs) (hg : fsB fs = true) (htab : Lib.TabIs Tryd.prog w "internal/strconv.uint64pow10" .u64 Lib.pow10Tab) :
    Calls Tryd.prog 7 #[v] w fun e w' => e = .returned (.tuple #[.string (acS fs fs.length), .bool true]) ∧ Below w.heap.size w w' := by
  have Hs := hid hs
  obtain ⟨a, n, cap, rfl, hn, hrd⟩ := hs
  have Hn := hid hn
  have Hrd := hid hrd
  have HG := hid hg
  have HE := hid (fsB_t hg).2
  have HT := hid (Lib.tabBelow_of_tabIs htab)
  have n4 : n ≤ 4 := by rw [hn]; exact (fsB_t hg).1.2
  have hl : fs.length ≤ 2000000 := by omega
  have hmk := run_make_strs n (by omega)
  clear hn hrd hg htab
  go_enter Tryd.func7, Tryd.ntmps7
  go_wp2_with fail
  refine (AreParts_is _ fs _ Hs.out hl).mono ?_
  rintro e w1 ⟨rfl, hb1⟩
  rw [HG.out]
  have HB1 := hid hb1
  clear hb1
  go_wp2_with fail
  go_loopw [15] (fun i wr => ∃ k : Nat, k ≤ n ∧ i = .int .i64 k ∧ BlkV 9 wr w1.heap.size (txC fs k) ∧ Below w1.heap.size w1 wr)
    (fun i _ => n - (intOf i).toNat)
  case atStart => exact ⟨0, by omega, rfl, by rw [txC_zero, ← Hn.out]; exact heap_alloc_new _ _, bel_alloc _ _⟩
  case round =>
    obtain ⟨k, hk, rfl, hblk, hb⟩ := hrel
    by_cases hlk : k < n
    · obtain ⟨f, hkf⟩ := get_lt fs k (by rw [← Hn.out]; exact hlk)
      have hgf := HE.out k f hkf
      have hbw := bel_step HB1.out hb
      obtain ⟨bb, oo, hix, hbb, h0, h1, h2, h3, h4⟩ := (Hrd.out.kept hbw).at (P := Tryd.prog) (T := 26) n cap usliceF sfiveF hkf hlk
      obtain ⟨s1, s2, hcat, hs2⟩ := cat_of hgf
      obtain ⟨hc1, hc2⟩ := hcat
      have Ha := hid (ctB_a hgf)
      have Hk := hid (ctB_k hgf)
      have Hset := hid (txC_set fs k f hkf)
      have Hget := hid (txC_get fs k (by rw [← Hn.out]; exact hlk))
      have hlt := hblk.lt
      have Hblk := hid hblk
      rw [← hs2] at Hset
      have HA := hid (show Below w.heap.size w (wr.alloc (.cells #[.int .i64 f.a, .int .i64 f.k, .int .i64 f.m, .int .i64 f.b, .bool f.r] 34)) from bel_step hbw (bel_alloc _ _))
      have HA1 := hid (show Below w1.heap.size w1 (wr.alloc (.cells #[.int .i64 f.a, .int .i64 f.k, .int .i64 f.m, .int .i64 f.b, .bool f.r] 34)) from bel_step hb (bel_alloc _ _))
      have HBl := hid (show BlkV 9 (wr.alloc (.cells #[.int .i64 f.a, .int .i64 f.k, .int .i64 f.m, .int .i64 f.b, .bool f.r] 34)) w1.heap.size (txC fs k) from hblk.kept (bel_alloc _ _) hlt)
      have i1 : (0 : Int) ≤ (k : Int) := by omega
      have i2 : (k : Int) < (n : Int) := by omega
      clear hkf hgf hs2 hblk
      go_wp2_with fail
      go_region_held3 (fun X => X.cell? ⟨wr.heap.size, 0, none⟩ = some (.int .i64 f.a) ∧ X.cell? ⟨wr.heap.size, 1, none⟩ = some (.int .i64 f.k)) (first | exact hS | exact sto2 hS hlt | assumption | go_keep) (first | (go_at_call 13; refine (Itoa_b _ (by first | exact Ha.out.1 | exact Hk.out.1) (by first | exact Ha.out.2 | exact Hk.out.2) _ (HT.out _ (by first | exact HA.out.trans (hB.mono HA.out.size) | exact HA.out.drew))).mono ?_; rintro e w2 ⟨rfl, hb2⟩; (first | have hB := hB.trans (hb2.mono hB.size) | have hB := (Below.refl _ _).drew.trans hb2); have hS := box2c hB; have HBl2 := hid (HBl.out.kept hB (Nat.lt_of_lt_of_le hlt (bel_alloc _ _).size)); have hcd := HBl2.out.cell Hget.out; have hfd := HBl2.out.free k))
      all_goals
        clear hc1 hc2
        go_wp2
        go_roundw
        case rel => exact ⟨k + 1, by omega, by go_num, by rw [← Hset.out]; exact HBl2.out.set k _, (HA1.out.trans (hB.mono HA1.out.size)).setCell (by exact Nat.le_refl _) _⟩
        case measure => simp [intOf]; omega
    · have hge : (n : Int) ≤ (k : Int) := by omega
      have hkn : k = fs.length := by rw [← Hn.out]; omega
      have Hblk := hid (show BlkV 9 wr w1.heap.size (fs.map (fun x => Value.string (ctS x))) from by rw [← txC_full, ← hkn]; exact hblk)
      have H4 := hid (show fs.length ≤ 4 from by omega)
      clear hlk hkn hblk
      go_wp2_with fail
      refine (joinC w1.heap.size n n fs _ Hn.out HE.out H4.out (Nat.le_refl _) Hblk.out).mono ?_
      rintro e w3 ⟨rfl, hb3⟩
      go_wp2_with fail
      go_ret2
      exact ⟨rfl, bel_step HB1.out (hb.trans (hb3.mono hb.size))⟩


/-- the cascade's text, none for none -/
def outC (fs : List Fo) : ByteArray := match fsB fs with | true => acS fs fs.length | false => ⟨#[]⟩


set_option maxHeartbeats 400000 in
theorem spec_ChainText_any (v : Value) (fs : List Fo) (w : World) (hs : FSl w v fs) (hl : fs.length ≤ 2000000) :
    Calls Tryd.prog 5 #[v] w fun e w' => e = .returned (.tuple #[.string (outC fs), .bool (fsB fs)]) ∧ Below w.heap.size w w' := by
  cases h0 : fsB fs
  · have HS := hid hs
    have H := hid h0
    have Ho := hid (show (⟨#[]⟩ : ByteArray) = outC fs from by unfold outC; rw [h0])
    clear h0 hs
    go_enter Tryd.func5, Tryd.ntmps5
    go_wp2_with fail
    refine (chGood_is _ fs _ HS.out hl).mono ?_
    rintro e w' ⟨rfl, hb⟩
    rw [H.out]
    go_wp2_with fail
    go_ret2
    exact ⟨ret_sb Ho.out rfl, hb⟩
  · have := spec_ChainText_in v fs w hs h0
    rw [show outC fs = acS fs fs.length from by unfold outC; rw [h0]]
    exact this


set_option maxHeartbeats 400000 in
theorem impl_ChainText_any (v : Value) (fs : List Fo) (w : World) (hs : FSl w v fs) (hl : fs.length ≤ 2000000) (htab : Lib.TabIs Tryd.prog w "internal/strconv.uint64pow10" .u64 Lib.pow10Tab) :
    Calls Tryd.prog 7 #[v] w fun e w' => e = .returned (.tuple #[.string (outC fs), .bool (fsB fs)]) ∧ Below w.heap.size w w' := by
  cases h0 : fsB fs
  · have HS := hid hs
    have H := hid h0
    have Ho := hid (show (⟨#[]⟩ : ByteArray) = outC fs from by unfold outC; rw [h0])
    clear h0 hs htab
    go_enter Tryd.func7, Tryd.ntmps7
    go_wp2_with fail
    refine (AreParts_is _ fs _ HS.out hl).mono ?_
    rintro e w' ⟨rfl, hb⟩
    rw [H.out]
    go_wp2_with fail
    go_ret2
    exact ⟨ret_sb Ho.out rfl, hb⟩
  · have := impl_ChainText_in v fs w hs h0 htab
    rw [show outC fs = acS fs fs.length from by unfold outC; rw [h0]]
    exact this


set_option maxHeartbeats 1600000 in
theorem walk_FnExactChainText (w : World) (u : Option Addr) (l c : Nat) (fs : List Fo) (hr : IsFs w u l c fs) (htab : Lib.TabIs Tryd.prog w "internal/strconv.uint64pow10" .u64 Lib.pow10Tab) :
    Calls Tryd.prog 3 #[.slice u l c] w fun e w' => e = .returned (.bool true) ∧ Below w.heap.size w w' := by
  obtain ⟨hs, hlen, _, hmx⟩ := hr
  by_cases hbig : 1048576 < l
  · have hm2 : l ≤ 9223372036854775807 := by unfold maxLen at hmx; omega
    clear hs hlen hmx htab
    go_enter Tryd.func3, Tryd.ntmps3
    go_wp2_with fail
    refine (szFirstS_gt _ _ _ _ hbig hm2).mono ?_
    rintro e w' ⟨rfl, rfl⟩
    go_wp2
    go_ret
    exact ⟨rfl, Below.refl _ _⟩
  · have hq : l ≤ 1048576 := by omega
    have HS := hid hs
    have HT := hid (Lib.tabBelow_of_tabIs htab)
    have hxl : fs.length ≤ 1048576 := by omega
    clear hs hlen hmx htab hbig
    cases hb0 : fsB fs
    all_goals
      have HB := hid hb0
      clear hb0
      generalize hos : outC fs = os
      go_enter Tryd.func3, Tryd.ntmps3
      go_wp2_with fail
      refine (szFirstS_le _ _ _ _ hq).mono ?_
      rintro e w' ⟨rfl, rfl⟩
      have hsz0 : ¬ (1048576 - (l : Int)) < 0 := by omega
      go_wp2_with fail
      refine (toFirstS_any _ fs _ HS.out (by omega)).mono ?_
      rintro e w1 ⟨v_A, rfl, A1, B1⟩
      go_wp2_with fail
      refine (spec_ChainText_any _ fs _ A1.sl (by omega)).mono ?_
      rintro e w2 ⟨rfl, hb⟩
      have B2 := bel_step B1 hb
      rw [HB.out]
      go_wp2_with fail
      refine (toFirstS_any _ fs _ (HS.out.kept B2) (by omega)).mono ?_
      rintro e w3 ⟨v_X, rfl, X3, hb⟩
      have B3 := bel_step B2 hb
      go_wp2_with fail
      refine (impl_ChainText_any _ fs _ X3.sl (by omega) (HT.out _ B3)).mono ?_
      rintro e w4 ⟨rfl, hb⟩
      have B4 := bel_step B3 hb
      have X4 := X3.kept hb
      rw [HB.out]
      go_wp2_with fail
      refine (toFirstS_any _ fs _ (HS.out.kept B4) (by omega)).mono ?_
      rintro e w5 ⟨v_T, rfl, T5, hb⟩
      have B5 := bel_step B4 hb
      have X5 := X4.kept hb
      go_wp2_with fail
      refine (eqFirstS_same _ _ fs _ X5.sl T5.sl (by omega)).mono ?_
      rintro e w6 ⟨rfl, hb⟩
      have B6 := bel_step B5 hb
      go_wp2_with fail
      go_ret
      exact ⟨rfl, B6⟩


end Go.Proofs.YtihoidejjljajaaDoor
