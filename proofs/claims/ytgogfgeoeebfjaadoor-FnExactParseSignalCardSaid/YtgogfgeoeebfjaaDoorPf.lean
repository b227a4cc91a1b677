
import Derived.Test.YtgogfgeoeebfjaaDoorPd
namespace Go.Proofs.YtgogfgeoeebfjaaDoor
open Go.RowKit BitX Go.MemX
set_option linter.unusedVariables false


theorem part_size (sep : ByteArray) : ∀ (k : Nat) (s p : ByteArray), p ∈ Lib.splitB sep 0 k s → p.size ≤ s.size
  | 0, s, p, h => by
    simp [Lib.splitB] at h; subst h; exact Nat.le_refl _
  | k + 1, s, p, h => by
    unfold Lib.splitB at h
    split at h
    · simp at h; subst h; exact Nat.le_refl _
    · rcases List.mem_cons.1 h with rfl | h2
      · rw [ByteArray.size_extract]; omega
      · have := part_size sep k _ p h2
        rw [ByteArray.size_extract] at this; omega
theorem split_n (s : ByteArray) (n : Nat) (w : World) (E : Env w) (hs : s.size ≤ 1048576) (hn : (parts s).length = n) :
    Calls Tryd.prog 27 #[.string s, .string ⟨#[44]⟩, .int .i64 65] w fun e w' => (∃ cap, e = .returned (.slice (some ⟨w.heap.size, 0, none⟩) n cap)) ∧ (∀ (i : Nat) (p : ByteArray), (parts s)[i]? = some p → w'.cell? ⟨w.heap.size, i, none⟩ = some (.string p)) ∧ w.heap.size < w'.heap.size ∧ Below w.heap.size w w' := hn ▸ split_is s w E hs
/-- the first k parts are read -/
def rdK (s : ByteArray) (k : Nat) (ys : List Int) : Prop := ys.length = k ∧ ∀ (i : Nat) (p : ByteArray), i < k → (parts s)[i]? = some p → ∃ v, ys[i]? = some v ∧ atoiR p.data.toList = some v
theorem rdK_step {s : ByteArray} {k : Nat} {ys : List Int} {p : ByteArray} {v : Int} (h : rdK s k ys) (hp : (parts s)[k]? = some p) (hv : atoiR p.data.toList = some v) : rdK s (k + 1) (ys ++ [v]) := by
  refine ⟨by simp [h.1], fun i q hi hq => ?_⟩
  by_cases e : i = k
  · subst e
    rw [hp] at hq; cases hq
    exact ⟨v, by rw [List.getElem?_append_right (by rw [h.1]; exact Nat.le_refl _), h.1]; simp, hv⟩
  · obtain ⟨u, h1, h2⟩ := h.2 i q (by omega) hq
    exact ⟨u, by rw [List.getElem?_append_left (by rw [h.1]; omega)]; exact h1, h2⟩
theorem set_next (ys : List Int) (n k : Nat) (v : Int) (h : ys.length = k) (hk : k < n) : (ys ++ List.replicate (n - k) 0).set k v = (ys ++ [v]) ++ List.replicate (n - (k + 1)) 0 := by
  rw [List.set_append_right _ _ (by rw [h]; exact Nat.le_refl _), h, Nat.sub_self, show n - k = (n - (k + 1)) + 1 from by omega, List.replicate_succ, List.set_cons_zero]
  simp
theorem get_next (ys : List Int) (n k : Nat) (h : ys.length = k) (hk : k < n) : (ys ++ List.replicate (n - k) 0)[k]? = some 0 := by
  rw [List.getElem?_append_right (by rw [h]; exact Nat.le_refl _), h, Nat.sub_self, List.getElem?_replicate, if_pos (by omega)]
def ReadPost (w : World) (s : ByteArray) (e : Ending) (w' : World) : Prop :=
  (∃ ys, isRead s ys ∧ Gives w ys true e w') ∨ ((∀ ys, ¬ isRead s ys) ∧ Gives w [] false e w')

set_option maxRecDepth 20000 in
set_option maxHeartbeats 4000000 in
theorem readSamples_any (s : ByteArray) (w : World) (E : Env w) (hs : s.size ≤ 1048576) :
    Calls Tryd.prog 19 #[.string s] w (ReadPost w s) := by
  by_cases hd : s.data.toList = [45]
  · have hs45 : (s.toList == [45]) = true := by rw [ByteArray.toList_eq, beq_iff_eq]; exact hd
    have Hd := hid hd
    clear hd
    go_enter Tryd.func19, Tryd.ntmps19
    go_wp2
    go_ret2
    exact .inl ⟨[], .inl ⟨Hd.out, rfl⟩, _, rfl, .inl ⟨rfl, rfl⟩, Below.refl _ _⟩
  · have hs45 : (s.toList == [45]) = false := by rw [ByteArray.toList_eq, beq_eq_false_iff_ne]; exact hd
    have Hd := hid hd
    have HE := hid E
    obtain ⟨p1, p2, p3⟩ := parts_len s
    obtain ⟨n, hn⟩ : ∃ n, (parts s).length = n := ⟨_, rfl⟩
    rw [hn] at p1 p3
    have Hn := hid hn
    have Hs := hid hs
    have hmk := run_make_ints (P := Tryd.prog) 22 3 uslice iint n (by omega)
    clear hd E p2 hn hs
    go_enter Tryd.func19, Tryd.ntmps19
    go_wp2_with fail
    refine (split_n s n _ HE.out Hs.out Hn.out).mono ?_
    rintro e w1 ⟨⟨cap, rfl⟩, hcells, hlt, B1⟩
    have Hcells := hid hcells
    clear hcells
    go_wp2_with fail
    go_loopw [19] (fun i wr => ∃ (k : Nat) (ys : List Int), k ≤ n ∧ i = .int .i64 (k : Int) ∧ Hid (rdK s k ys) ∧ Blk 3 wr w1.heap.size (ys ++ List.replicate (n - k) 0) ∧ Below w1.heap.size w1 wr)
      (fun i _ => n - (intOf i).toNat)
    case atStart => exact ⟨0, [], by omega, rfl, ⟨rfl, fun i p h => by omega⟩, by rw [Nat.sub_zero, List.nil_append]; exact heap_alloc_new _ _, bel_alloc _ _⟩
    case round =>
      obtain ⟨k, ys, hk, rfl, hrk, hblk, hb⟩ := hrel
      by_cases hlk : k < n
      · obtain ⟨p, hp⟩ : ∃ p, (parts s)[k]? = some p := ⟨(parts s)[k]'(by rw [Hn.out]; exact hlk), List.getElem?_eq_getElem _⟩
        have hcp : wr.cell? ⟨w.heap.size, k, none⟩ = some (.string p) := by rw [hb.cell (by exact hlt)]; exact Hcells.out k p hp
        have hps : p.size ≤ 281474976710656 := by
          have := part_size _ _ s p (List.mem_of_getElem? hp)
          have := Hs.out; omega
        have Hps := hid hps
        have hbw := bel_step B1 hb
        have Hp := hid hp
        have Hblk := hid hblk
        clear hp hps hblk
        cases hA : atoiR p.data.toList
        · have Hno := hid (show ∀ ys, ¬ isRead s ys from fun zs hz => by
            rcases hz with ⟨a, _⟩ | ⟨_, _, hz⟩
            · exact Hd.out a
            · obtain ⟨v, _, e2⟩ := hz k p Hp.out
              rw [hA] at e2; cases e2)
          have HA := hid hA
          clear hA
          go_wp2_with fail
          refine (atoi_no p Hps.out HA.out _ (HE.out.kept hbw)).mono ?_
          rintro e w2 ⟨⟨x, T, N, rfl⟩, hb2⟩
          have hbw2 := bel_step hbw hb2
          go_wp2_with fail
          go_ret2
          exact .inr ⟨Hno.out, _, rfl, .inl ⟨rfl, rfl⟩, hbw2⟩
        · rename_i v
          have Hst := hid (rdK_step hrk.out Hp.out hA)
          have Hset := hid (set_next ys n k v hrk.out.1 hlk)
          have Hget := hid (get_next ys n k hrk.out.1 hlk)
          have HA := hid hA
          clear hA
          go_wp2_with fail
          refine (atoi_yes p v Hps.out HA.out _).mono ?_
          rintro e w2 ⟨rfl, hb2⟩
          have hblk2 := Hblk.out.kept hb2 Hblk.out.lt
          have hcd : w2.cell? ⟨w1.heap.size, k, none⟩ = some (.int .i64 0) := hblk2.cell Hget.out
          have hfd := hblk2.free k
          have Hblk2 := hid hblk2
          clear hblk2
          go_wp2
          go_roundw
          case rel => exact ⟨k + 1, ys ++ [v], by omega, by go_num, Hst, by rw [← Hset.out]; exact Hblk2.out.set k _, (hb.trans (hb2.mono hb.size)).setCell (by simp) _⟩
          case measure => simp [intOf]; omega
      · have hge : (n : Int) ≤ (k : Int) := by omega
        have hkn : k = n := by omega
        have Hrd := hid (show isRead s ys from .inr ⟨Hd.out, by rw [hrk.out.1, Hn.out]; exact hkn, fun i p hp => hrk.out.2 i p (by
          have h1 := (List.getElem?_eq_some_iff.1 hp).1
          rw [Hn.out] at h1; omega) hp⟩)
        have Hres := hid (show Res 3 w.heap.size wr (.slice (some ⟨w1.heap.size, 0, none⟩) n n) ys by
          have h1 := hblk
          rw [hkn, Nat.sub_self, List.replicate_zero, List.append_nil] at h1
          have h2 := h1.res (Nat.le_refl _)
          rw [hrk.out.1, hkn] at h2
          exact h2.mono B1.size)
        have hbw := bel_step B1 hb
        clear hlk hkn hblk hrk
        go_wp2
        go_ret2
        exact .inl ⟨ys, Hrd.out, _, rfl, Hres.out, hbw⟩


set_option maxHeartbeats 1000000 in
theorem impl_ParseSignal_any (s : ByteArray) (w : World) (E : Env w) (hs : s.size ≤ 1048576) :
    Calls Tryd.prog 10 #[.string s] w (Gives w (sigL s.data.toList) (sigO s.data.toList)) := by
  have HE := hid E
  go_enter Tryd.func10, Tryd.ntmps10
  go_wp2_with fail
  refine (readSamples_any s _ HE.out hs).mono ?_
  rintro e w1 (⟨ys, hrd, v, rfl, R, B1⟩ | ⟨hno, v, rfl, R, B1⟩)
  · have Hrd := hid hrd
    clear hrd
    cases hq : sigB ys
    · have HF := hid (sig_no (t := s.data.toList) fun xs hx => by
        have := read_uniq (txt_read hx) Hrd.out
        subst this
        exact sigB_f hq hx.1)
      have Hq := hid hq
      clear hq
      go_wp2_with fail
      refine (impl_SignalText_any _ ys _ R.sl (Lib.tabBelow_of_tabIs HE.out.tab _ B1)).mono ?_
      rintro e w2 ⟨rfl, hb⟩
      rw [Hq.out]
      go_wp2_with fail
      go_ret2
      exact gives_of HF.out.1 HF.out.2 ⟨_, rfl, .inl ⟨rfl, rfl⟩, bel_step B1 hb⟩
    · have Hq := hid hq
      have Hos := hid (show outS ys = txtS ys by unfold outS; rw [hq])
      clear hq
      by_cases he : txtS ys = s
      · have HF := hid (sig_yes (xs := ys) (t := s.data.toList) ⟨sigB_t Hq.out, by rw [← he]; simp [txtS]⟩)
        have He := hid he
        clear he
        go_wp2_with fail
        refine (impl_SignalText_any _ ys _ R.sl (Lib.tabBelow_of_tabIs HE.out.tab _ B1)).mono ?_
        rintro e w2 ⟨rfl, hb⟩
        rw [Hq.out, Hos.out, He.out]
        have R2 := R.kept hb
        go_wp2_with fail
        go_ret2
        exact gives_of HF.out.1 HF.out.2 ⟨_, rfl, R2, bel_step B1 hb⟩
      · have HF := hid (sig_no (t := s.data.toList) fun xs hx => by
          have := read_uniq (txt_read hx) Hrd.out
          subst this
          exact he (ht_of hx.2 rfl).symm)
        obtain ⟨s1, hs1⟩ : ∃ s1, txtS ys = s1 := ⟨_, rfl⟩
        rw [hs1] at he
        have hbe : (s1.toList == s.toList) = false := by
          rw [ByteArray.toList_eq, ByteArray.toList_eq, beq_eq_false_iff_ne]
          intro a; exact he (ByteArray.ext (Array.toList_inj.1 a))
        have Hs1 := hid hs1
        clear he hs1
        go_wp2_with fail
        refine (impl_SignalText_any _ ys _ R.sl (Lib.tabBelow_of_tabIs HE.out.tab _ B1)).mono ?_
        rintro e w2 ⟨rfl, hb⟩
        rw [Hq.out, Hos.out, Hs1.out]
        go_wp2_with fail
        go_ret2
        exact gives_of HF.out.1 HF.out.2 ⟨_, rfl, .inl ⟨rfl, rfl⟩, bel_step B1 hb⟩
  · have HF := hid (sig_no (t := s.data.toList) fun xs hx => hno xs (txt_read hx))
    clear hno
    go_wp2_with fail
    go_ret2
    exact gives_of HF.out.1 HF.out.2 ⟨_, rfl, .inl ⟨rfl, rfl⟩, B1⟩


set_option maxHeartbeats 1000000 in
theorem wdParse_any (s : ByteArray) (w : World) :
    Calls Tryd.prog 18 #[.string s] w (Gives w (sigL s.data.toList) (sigO s.data.toList)) := by
  by_cases hd : s.data.toList = [45]
  · have hs45 : (s.toList == [45]) = true := by rw [ByteArray.toList_eq, beq_iff_eq]; exact hd
    have HF := hid (sig_yes (xs := []) (t := s.data.toList) ⟨⟨by simp, fun x hx => by simp at hx⟩, by rw [hd]; rfl⟩)
    clear hd
    go_enter Tryd.func18, Tryd.ntmps18
    go_wp2
    go_ret2
    exact gives_of HF.out.1 HF.out.2 ⟨_, rfl, .inl ⟨rfl, rfl⟩, Below.refl _ _⟩
  · by_cases hl : s.data.toList.length ≤ 512
    · exact wdParse_in s w hd hl
    · have hs45 : (s.toList == [45]) = false := by rw [ByteArray.toList_eq, beq_eq_false_iff_ne]; exact hd
      have HF := hid (sig_no (t := s.data.toList) fun xs hx => hl (txt_len hx))
      have hsz : 512 < s.size := by have := bytes_len s; omega
      clear hd hl
      go_enter Tryd.func18, Tryd.ntmps18
      go_wp2
      go_ret2
      exact gives_of HF.out.1 HF.out.2 ⟨_, rfl, .inl ⟨rfl, rfl⟩, Below.refl _ _⟩


set_option maxHeartbeats 1000000 in
theorem spec_ParseSignal_any (s : ByteArray) (w : World) :
    Calls Tryd.prog 9 #[.string s] w (Gives w (sigL s.data.toList) (sigO s.data.toList)) := by
  go_enter Tryd.func9, Tryd.ntmps9
  go_wp2_with fail
  refine (wdParse_any s _).mono ?_
  rintro e w1 ⟨v, rfl, R, B1⟩
  go_wp2_with fail
  go_ret2
  exact ⟨_, rfl, R, B1⟩

end Go.Proofs.YtgogfgeoeebfjaaDoor
