
import Derived.Test.YtgogfgeoeebfjaaDoorPe
import Derived.Test.YtgogfgeoeebfjaaDoorShj
import Derived.Shelf.Strconv.ErrVarAll
namespace Go.Proofs.YtgogfgeoeebfjaaDoor
open Go.RowKit BitX Go.MemX
set_option linter.unusedVariables false


/-- what the reading asks of the world: the tables and the variables of the library -/
structure Env (w : World) : Prop where
  len : ∃ m, w.cell? ⟨1, 0, none⟩ = some (.int .i64 m)
  syn : ∃ tp p, w.var? Tryd.prog "strconv.ErrSyntax" = some #[.iface tp p]
  rng : ∃ tp p, w.var? Tryd.prog "strconv.ErrRange" = some #[.iface tp p]
  tab : Lib.TabIs Tryd.prog w "internal/strconv.uint64pow10" .u64 Lib.pow10Tab
theorem var_kept {P : Program} {w w' : World} {name : String} {cs : Array Value} (h : w.var? P name = some cs) (hb : Below w.heap.size w w') : w'.var? P name = some cs := by
  unfold World.var? at *
  cases hg : P.globalNamed name with
  | none => simp [hg] at h
  | some g =>
    simp only [hg, Option.bind_some] at h ⊢
    have hlt : g < w.heap.size := by
      rcases Nat.lt_or_ge g w.heap.size with h' | h'
      · exact h'
      · rw [Array.getElem?_eq_none h'] at h; simp at h
    rw [hb.block g hlt]
    exact h
theorem Env.kept {w w' : World} (h : Env w) (hb : Below w.heap.size w w') : Env w' := by
  obtain ⟨m, hm⟩ := h.len
  obtain ⟨t1, p1, h1⟩ := h.syn
  obtain ⟨t2, p2, h2⟩ := h.rng
  exact ⟨⟨m, by rw [hb.cell (by exact World.block_lt_of_cell? _ _ hm)]; exact hm⟩, ⟨t1, p1, var_kept h1 hb⟩, ⟨t2, p2, var_kept h2 hb⟩, Lib.tabBelow_of_tabIs h.tab w' hb⟩
theorem atoi_yes (s : ByteArray) (v : Int) (hlim : s.size ≤ 281474976710656) (h : atoiR s.data.toList = some v) (w : World) :
    Calls Tryd.prog 28 #[.string s] w fun e w' => e = .returned (.tuple #[.int .i64 v, .nilIface]) ∧ Below w.heap.size w w' := by
  have hq : Lib.atoiAll s.data.toList = .ok v := by
    unfold atoiR at h
    split at h
    · rename_i u hu; cases h; exact hu
    · cases h
  refine (Tryd.strconv_Atoi_ok s (by omega) v hq w).mono fun e w' ⟨he, hw⟩ => ⟨he, ?_⟩
  rcases hw with rfl | ⟨t, rfl⟩
  · exact Below.refl _ _
  · exact Lib.bytesWorld_below _ _ _
theorem atoi_no (s : ByteArray) (hlim : s.size ≤ 281474976710656) (h : atoiR s.data.toList = none) (w : World) (E : Env w) :
    Calls Tryd.prog 28 #[.string s] w fun e w' => (∃ x T N, e = .returned (.tuple #[.int .i64 x, .iface T (.pointer (some ⟨N, 0, none⟩))])) ∧ Below w.heap.size w w' := by
  rcases hq : Lib.atoiAll s.data.toList with v | _ | _
  · unfold atoiR at h; rw [hq] at h; cases h
  · obtain ⟨tp, p, hv⟩ := E.syn
    exact (Any.strconv_Atoi_syntax_var Tryd.laysC172 s hlim hq tp p w hv).mono fun e w' ⟨N, he, _, _, hb⟩ => ⟨⟨_, _, N, he⟩, hb⟩
  · obtain ⟨tp, p, hv⟩ := E.rng
    exact (Any.strconv_Atoi_range_var Tryd.laysC172 s hlim hq tp p w hv).mono fun e w' ⟨N, he, _, _, hb⟩ => ⟨⟨_, _, N, he⟩, hb⟩
theorem parts_len (s : ByteArray) : 1 ≤ (parts s).length ∧ (parts s).length ≤ min 65 (s.size + 1) ∧ (parts s).length ≤ 65 := by
  have h := Lib.splitB_length_le ⟨#[44]⟩ 0 (min 65 (s.size + 1) - 1) s
  have h1 : 1 ≤ (parts s).length := by
    unfold parts
    cases (min 65 (s.size + 1) - 1) with
    | zero => simp [Lib.splitB]
    | succ k => unfold Lib.splitB; split <;> simp
  have h2 : (parts s).length ≤ min 65 (s.size + 1) - 1 + 1 := h
  omega
theorem split_is (s : ByteArray) (w : World) (E : Env w) (hs : s.size ≤ 1048576) :
    Calls Tryd.prog 27 #[.string s, .string ⟨#[44]⟩, .int .i64 65] w fun e w' => (∃ cap, e = .returned (.slice (some ⟨w.heap.size, 0, none⟩) (parts s).length cap)) ∧ (∀ (i : Nat) (p : ByteArray), (parts s)[i]? = some p → w'.cell? ⟨w.heap.size, i, none⟩ = some (.string p)) ∧ w.heap.size < w'.heap.size ∧ Below w.heap.size w w' := by
  obtain ⟨m, hm⟩ := E.len
  refine (Tryd.strings_SplitN s ⟨#[44]⟩ 65 m w (by omega) hm (by show 1 ≤ 1; omega) (by omega) (by omega)).mono fun e w' ⟨he, hw⟩ => ?_
  subst hw
  refine ⟨⟨_, he⟩, fun i p hp => ?_, by simp, bel_alloc _ _⟩
  rw [World.cell?_alloc_at _ _ _ _ rfl]
  have hi : i < (parts s).length := (List.getElem?_eq_some_iff.1 hp).1
  show (Lib.cellsOf (parts s) (min 65 (s.size + 1)))[i]? = some (.string p)
  unfold Lib.cellsOf
  rw [List.getElem?_toArray, List.getElem?_append_left (by simpa using hi), List.getElem?_map, hp]; rfl
end Go.Proofs.YtgogfgeoeebfjaaDoor
