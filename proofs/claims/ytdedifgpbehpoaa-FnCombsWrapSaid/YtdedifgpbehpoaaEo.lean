
import Derived.Test.YtdedifgpbehpoaaOa
import Derived.Test.YtdedifgpbehpoaaEb
import Derived.Test.YtdedifgpbehpoaaCt
import Derived.Laws.AppendOwnNone
namespace Go.Proofs.Ytdedifgpbehpoaa
open Go.RowKit BitX Go.MemX Go.Ch6
set_option linter.unusedVariables false

set_option maxHeartbeats 1000000 in
theorem l1Own_nil (w : World) : Calls Try.prog 47 #[.slice none 0 0] w (GivesL w []) := by
  obtain ⟨i0, hi0, hz0, hz1, hz2⟩ := info_parts iint
  have hown : (w.alloc (.cells #[] 3)).ownsRow w.heap.size 3 1 (.slice (some ⟨w.heap.size, 0, none⟩) 0 0) 0 [] := ⟨rfl, .inr ⟨w.heap.size, 0, #[], rfl, Nat.le_refl _, heap_alloc_new _ _, Nat.le_refl _, Nat.zero_le _, rfl, rfl⟩⟩
  have Hown := hid hown
  clear hown
  go_enter Try.func47, Try.ntmps47
  go_wp2_with (at_builtin; refine wpList_append_own_none rfl _ _ 24 rfl w.heap.size 3 i0 1 uslice hi0 _ 0 [] rfl Hown.out rfl ?_)
  go_ret
  exact ⟨_, rfl, Res.owns (xs := []) Hown.out, bel_alloc _ _⟩

set_option maxHeartbeats 1000000 in
theorem l1Own_some (b off n cap : Nat) (xs : List Int) (w : World) (hs : Sl w (.slice (some ⟨b, off, none⟩) n cap) xs) (hl : xs.length ≤ 1000000) : Calls Try.prog 47 #[.slice (some ⟨b, off, none⟩) n cap] w (GivesL w xs) := by
  have hn : n = xs.length := by
    obtain ⟨a2, n2, cap2, h1, h2, _⟩ := hs.rd
    cases h1; exact h2
  have hnews : ∀ (j : Nat) (u : Value), (xs.map (Value.int .i64))[j]? = some u → (w.alloc (.cells #[] 3)).cell? ((⟨b, off, none⟩ : Addr).add j) = some u := by
    rcases hs with ⟨rfl, _⟩ | ⟨b2, o2, n2, cap2, hv, _, _, _, hlt, hx⟩
    · intro j u hu; simp at hu
    · cases hv
      exact news_of (n := n) (cap := cap) fun i x hi => by rw [World.cell?_alloc_lt _ _ _ (by exact hlt)]; exact hx i x hi
  have Hn := hid hn
  have Hnews := hid hnews
  have hl' : n ≤ 1000000 := by omega
  obtain ⟨i0, hi0, hz0, hz1, hz2⟩ := info_parts iint
  have hown : (w.alloc (.cells #[] 3)).ownsRow w.heap.size 3 1 (.slice (some ⟨w.heap.size, 0, none⟩) 0 0) 0 [] := ⟨rfl, .inr ⟨w.heap.size, 0, #[], rfl, Nat.le_refl _, heap_alloc_new _ _, Nat.le_refl _, Nat.zero_le _, rfl, rfl⟩⟩
  have Hown := hid hown
  clear hown
  clear hs hn hnews hl
  go_enter Try.func47, Try.ntmps47
  go_wp2_with (at_builtin; refine wpList_append_own _ rfl _ _ 24 rfl w.heap.size 3 i0 (.int .i64 0) 1 8 uslice hi0 hz0 hz1 hz2 rfl (by decide) _ 0 [] rfl Hown.out ⟨b, off, none⟩ n cap (xs.map (Value.int .i64)) rfl ?c0 ?c1 ?c2 ?c3 ?c4 ?c5 ?_)
  case c0 => simp; exact Hn.out.symm
  case c1 => exact Hnews.out
  case c2 => exact one_of _
  case c3 => unfold maxLen; omega
  case c4 => omega
  case c5 => simp
  · intro v' w3 hown3 hgrow _
    have hb3 : Below w.heap.size w w3 := (bel_alloc w _).grown hgrow (by simp) (fun j hj => by cases hj; exact Nat.le_refl _)
    try simp only [Nat.zero_add, List.nil_append] at hown3
    have Hown3 := hid hown3
    clear hown3 hgrow
    go_wp2
    go_ret
    refine ⟨_, rfl, Res.owns ?_, hb3⟩
    have h := Hown3.out
    rw [Hn.out] at h
    exact h



theorem Res.form {E : TypeId} {B : Nat} {w : World} {v : Value} {xs : List Int} (h : Res E B w v xs) : (xs = [] ∧ v = .slice none 0 0) ∨ ∃ g L cap, v = .slice (some ⟨g, 0, none⟩) L cap ∧ L = xs.length ∧ L ≤ cap ∧ B ≤ g := by
  rcases h with h | ⟨g, cap, hv, hB, hr⟩
  · exact .inl h
  · exact .inr ⟨g, xs.length, cap, hv, rfl, by obtain ⟨_, _, _, h3, _⟩ := hr; exact h3, hB⟩


theorem l1Own_res (E : TypeId) (B : Nat) (v : Value) (xs : List Int) (w : World) (hs : Res E B w v xs) (hl : xs.length ≤ 1000000) : Calls Try.prog 47 #[v] w (GivesL w xs) := by
  have hsl := hs.sl
  rcases Res.form hs with ⟨rfl, rfl⟩ | ⟨g, L, cap, rfl, _, _, _⟩
  · exact l1Own_nil w
  · exact l1Own_some g 0 L cap xs w hsl hl

set_option maxHeartbeats 400000 in
theorem wdIf_is (v : Value) (ys : List Int) (b : Bool) (w : World) (hs : Sl w v ys) (h : sigB ys = b) :
    Calls Try.prog 34 #[v] w fun e w' => e = .returned (.tuple #[onB b v (.slice none 0 0), .bool b]) ∧ w = w' := by
  have H := hid h
  clear h
  have HS := hid hs
  clear hs
  cases b
  · go_enter Try.func34, Try.ntmps34
    go_wp2_with fail
    refine (wdSignal_is _ ys false _ HS.out H.out).mono ?_
    rintro e w' ⟨rfl, rfl⟩
    go_wp2
    go_ret2
    exact ⟨rfl, rfl⟩
  · go_enter Try.func34, Try.ntmps34
    go_wp2_with fail
    refine (wdSignal_is _ ys true _ HS.out H.out).mono ?_
    rintro e w' ⟨rfl, rfl⟩
    go_wp2
    go_ret2
    exact ⟨rfl, rfl⟩


set_option maxHeartbeats 400000 in
theorem onlySignal_is (v : Value) (ys : List Int) (b : Bool) (w : World) (hs : Sl w v ys) (h : sigB ys = b) :
    Calls Try.prog 31 #[v] w fun e w' => e = .returned (.tuple #[onB b v (.slice none 0 0), .bool b]) ∧ w = w' := by
  have H := hid h
  clear h
  have HS := hid hs
  clear hs
  cases b
  · go_enter Try.func31, Try.ntmps31
    go_wp2_with fail
    refine (impl_IsSignal_is _ ys false _ HS.out H.out).mono ?_
    rintro e w' ⟨rfl, rfl⟩
    go_wp2
    go_ret2
    exact ⟨rfl, rfl⟩
  · go_enter Try.func31, Try.ntmps31
    go_wp2_with fail
    refine (impl_IsSignal_is _ ys true _ HS.out H.out).mono ?_
    rintro e w' ⟨rfl, rfl⟩
    go_wp2
    go_ret2
    exact ⟨rfl, rfl⟩



end Go.Proofs.Ytdedifgpbehpoaa
