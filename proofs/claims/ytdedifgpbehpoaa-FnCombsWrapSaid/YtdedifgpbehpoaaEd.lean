
import Derived.Test.YtdedifgpbehpoaaEc
namespace Go.Proofs.Ytdedifgpbehpoaa
open Go.RowKit BitX Go.MemX Go.Ch6
set_option linter.unusedVariables false

def wrF (b : Nat) (xs : List Int) (i : Nat) : Int := wrI b (at0 xs i)
theorem wrF_at {b i : Nat} {xs : List Int} {x : Int} (h : xs[i]? = some x) : wrF b xs i = wrI b x := by unfold wrF; rw [at0_of h]
def ruS (xs : List Int) (i : Nat) : Int := sumF (i + 1) (at0 xs)
theorem ruS_at {i : Nat} {xs : List Int} {x : Int} (h : xs[i]? = some x) : ruS xs i = sumF i (at0 xs) + x := by unfold ruS; rw [sumF_succ, at0_of h]
def diS (xs : List Int) (i : Nat) : Int := at0 xs i - bef (at0 xs) i
theorem diS_at {i : Nat} {xs : List Int} {x : Int} (h : xs[i]? = some x) : diS xs i = x - bef (at0 xs) i := by unfold diS; rw [at0_of h]
theorem at0_in6 {lo hi : Int} {xs : List Int} (h : ∀ x ∈ xs, lo ≤ x ∧ x ≤ hi) (h0 : lo ≤ 0) (h1 : 0 ≤ hi) (i : Nat) : lo ≤ at0 xs i ∧ at0 xs i ≤ hi := by
  unfold at0
  rw [List.getD_eq_getElem?_getD]
  cases hx : xs[i]? with
  | none => exact ⟨h0, h1⟩
  | some x => exact h x (List.mem_of_getElem? hx)
theorem inp_at0 {B : Int} {xs : List Int} (h : InP (-B) B xs) (h0 : 0 ≤ B) (i : Nat) : -B ≤ at0 xs i ∧ at0 xs i ≤ B := at0_in6 h (by omega) h0 i
theorem tab_inp {n : Nat} {f : Nat → Int} {lo hi : Int} (h : ∀ i, i < n → lo ≤ f i ∧ f i ≤ hi) : InP lo hi (tab n f) := by
  intro x hx
  unfold tab at hx
  obtain ⟨i, hi', rfl⟩ := List.mem_map.1 hx
  exact h i (List.mem_range.1 hi')
theorem ruS_in {xs : List Int} (h : InP (-549755813888) 549755813888 xs) (k : Nat) (hk : k ≤ 64) : -35184372088832 ≤ sumF k (at0 xs) ∧ sumF k (at0 xs) ≤ 35184372088832 := by
  have := sumF_bound k (at0 xs) 549755813888 fun i _ => inp_at0 h (by omega) i
  omega
theorem sums_in {b k : Nat} {xs : List Int} (hb : b ≤ 40) (h : InP (-549755813888) 549755813888 xs) : InP (-549755813888) 549755813888 (sumsL b k xs) := tab_inp fun i _ => stS_in hb k _ (inp_at0 h (by omega)) i
theorem difs_in {b k : Nat} {xs : List Int} (hb : b ≤ 40) (h : InP (-549755813888) 549755813888 xs) : InP (-549755813888) 549755813888 (difsL b k xs) := tab_inp fun i _ => stD_in hb k _ (inp_at0 h (by omega)) i
theorem sums_turn (b k : Nat) (xs : List Int) : tab (tab (sumsL b k xs).length (ruS (sumsL b k xs))).length (wrF b (tab (sumsL b k xs).length (ruS (sumsL b k xs)))) = sumsL b (k + 1) xs := by
  rw [sumsL_succ, tab_len]
  refine tab_congr _ _ _ fun i hi => ?_
  unfold wrF; rw [at0_tab _ _ _ hi]; rfl
theorem difs_turn (b k : Nat) (xs : List Int) : tab (tab (difsL b k xs).length (diS (difsL b k xs))).length (wrF b (tab (difsL b k xs).length (diS (difsL b k xs)))) = difsL b (k + 1) xs := by
  rw [difsL_succ, tab_len]
  refine tab_congr _ _ _ fun i hi => ?_
  unfold wrF; rw [at0_tab _ _ _ hi]; rfl


set_option maxHeartbeats 1000000 in
theorem cbWrapAll_any (v : Value) (xs : List Int) (w : World) (hs : Sl w v xs) (hl : xs.length ≤ 64) (b : Nat) (hi : InP (-1125899906842624) 1125899906842624 xs) (h1 : 2 ≤ b) (h2 : b ≤ 40) :
    Calls Try.prog 69 #[v, .int .i64 (b : Int)] w (GivesL w (tab xs.length (wrF b xs))) := by
  obtain ⟨a, n, cap, rfl, hn, hrd⟩ := hs.rd
  have Hn := hid hn
  have Hrd := hid hrd
  have hl' : n ≤ 64 := by omega
  clear hn hrd
  have Hi := hid hi
  clear hi hl hs
  obtain ⟨i0, hi0, hz0, hz1, hz2⟩ := info_parts iint
  go_enter Try.func69, Try.ntmps69
  go_wp2_with fail
  go_loopw [5, 10] (fun v i wr => ∃ k : Nat, k ≤ n ∧ i = .int .i64 k ∧ wr.ownsRow w.heap.size 3 1 v k ((tab k (wrF b xs)).map (Value.int .i64)) ∧ Below w.heap.size w wr)
    (fun _ i _ => n - (intOf i).toNat)
  case atStart => exact ⟨0, by omega, rfl, World.ownsRow_nil _ _ _ _, Below.refl _ _⟩
  case round =>
    obtain ⟨k, hk, rfl, hown, hb⟩ := hrel
    have hsz : w.heap.size ≤ wr.heap.size := hb.size
    by_cases hlk : k < n
    · obtain ⟨x, hkx⟩ := get_lt xs k (by rw [← Hn.out]; exact hlk)
      obtain ⟨bb, oo, hix, hbb, hce⟩ := (Hrd.out.kept hb).at (P := Try.prog) (T := 24) n cap uslice sone hkx hlk
      obtain ⟨x1, x2⟩ := Hi.out.at hkx
      have hst := tab_step k (wrF b xs)
      rw [wrF_at hkx] at hst
      generalize hys : tab k (wrF b xs) = ys at hst hown
      have Hob := hid (ownsRow_base hown)
      have Hst := hid hst
      have Hown := hid hown
      have Hkx := hid hkx
      clear hkx
      clear hst hown hys
      go_wp2_with fail
      refine (cbWrap_any x b _ h1 h2 x1 x2).mono ?_
      rintro e w' ⟨rfl, rfl⟩
      go_wp2_with (at_builtin; refine wpList_append_own _ rfl _ _ 24 rfl w.heap.size 3 i0 (.int .i64 0) 1 8 uslice hi0 hz0 hz1 hz2 rfl (by decide) _ _ _ rfl (Hown.out.alloc _) ⟨wr.heap.size, 0, none⟩ 1 1 [.int .i64 (wrI b x)] rfl rfl ?c1 ?c2 ?c3 ?c4 ?c5 ?_)
      case c1 => exact cell_one_new _ _ _
      case c2 => intro u hu; simp at hu; subst hu; rfl
      case c3 => unfold maxLen; omega
      case c4 => omega
      case c5 => simp; omega
      · intro v' w3 hown3 hgrow _
        have hb3 : Below w.heap.size w w3 := (hb.alloc hsz _).grown hgrow (by simp; omega) (fun j hj => Hob.out j hj)
        have Hown3 := hid hown3
        clear hown3 hgrow
        go_wp2
        go_roundw
        case rel => exact ⟨k + 1, by omega, by go_num, by rw [Hst.out, List.map_append]; exact Hown3.out, hb3⟩
        case measure => simp [intOf]; omega
    · have hge : (n : Int) ≤ (k : Int) := by omega
      have hkn : k = xs.length := by rw [← Hn.out]; omega
      have Hk := hid hkn
      have Hown := hid hown
      clear hkn hlk hown
      go_wp2
      go_ret
      have ho := Hown.out
      rw [Hk.out] at ho
      exact ⟨_, rfl, Res.owns (by rw [tab_len]; exact ho), hb⟩


set_option maxHeartbeats 1000000 in
theorem wdSums6_any (v : Value) (xs : List Int) (w : World) (hs : Sl w v xs) (hl : xs.length ≤ 64) (hi : InP (-549755813888) 549755813888 xs) :
    Calls Try.prog 70 #[v] w (GivesL w (tab xs.length (ruS xs))) := by
  obtain ⟨a, n, cap, rfl, hn, hrd⟩ := hs.rd
  have Hn := hid hn
  have Hrd := hid hrd
  have hl' : n ≤ 64 := by omega
  clear hn hrd
  have Hi := hid hi
  clear hi hl hs
  obtain ⟨i0, hi0, hz0, hz1, hz2⟩ := info_parts iint
  go_enter Try.func70, Try.ntmps70
  go_wp2_with fail
  go_loopw [3, 4, 9] (fun v s0 i wr => ∃ k : Nat, k ≤ n ∧ i = .int .i64 k ∧ s0 = .int .i64 (sumF k (at0 xs)) ∧ wr.ownsRow w.heap.size 3 1 v k ((tab k (ruS xs)).map (Value.int .i64)) ∧ Below w.heap.size w wr)
    (fun _ _ i _ => n - (intOf i).toNat)
  case atStart => exact ⟨0, by omega, rfl, rfl, World.ownsRow_nil _ _ _ _, Below.refl _ _⟩
  case round =>
    obtain ⟨k, hk, rfl, rfl, hown, hb⟩ := hrel
    have hsz : w.heap.size ≤ wr.heap.size := hb.size
    by_cases hlk : k < n
    · obtain ⟨x, hkx⟩ := get_lt xs k (by rw [← Hn.out]; exact hlk)
      obtain ⟨bb, oo, hix, hbb, hce⟩ := (Hrd.out.kept hb).at (P := Try.prog) (T := 24) n cap uslice sone hkx hlk
      obtain ⟨x1, x2⟩ := Hi.out.at hkx
      have hst := tab_step k (ruS xs)
      rw [ruS_at hkx] at hst
      obtain ⟨z1, z2⟩ := ruS_in Hi.out k (by omega)
      have hss := sumF_succ k (at0 xs)
      rw [at0_of hkx] at hss
      generalize sumF k (at0 xs) = z at *
      have Hss := hid hss
      clear hss
      generalize hys : tab k (ruS xs) = ys at hst hown
      have Hob := hid (ownsRow_base hown)
      have Hst := hid hst
      have Hown := hid hown
      have Hkx := hid hkx
      clear hkx
      clear hst hown hys
      go_wp2_with (at_builtin; refine wpList_append_own _ rfl _ _ 24 rfl w.heap.size 3 i0 (.int .i64 0) 1 8 uslice hi0 hz0 hz1 hz2 rfl (by decide) _ _ _ rfl (Hown.out.alloc _) ⟨wr.heap.size, 0, none⟩ 1 1 [.int .i64 (z + x)] rfl rfl ?c1 ?c2 ?c3 ?c4 ?c5 ?_)
      case c1 => exact cell_one_new _ _ _
      case c2 => intro u hu; simp at hu; subst hu; rfl
      case c3 => unfold maxLen; omega
      case c4 => omega
      case c5 => simp; omega
      · intro v' w3 hown3 hgrow _
        have hb3 : Below w.heap.size w w3 := (hb.alloc hsz _).grown hgrow (by simp; omega) (fun j hj => Hob.out j hj)
        have Hown3 := hid hown3
        clear hown3 hgrow
        go_wp2
        go_roundw
        case rel => exact ⟨k + 1, by omega, by go_num, by rw [Hss.out], by rw [Hst.out, List.map_append]; exact Hown3.out, hb3⟩
        case measure => simp [intOf]; omega
    · have hge : (n : Int) ≤ (k : Int) := by omega
      have hkn : k = xs.length := by rw [← Hn.out]; omega
      have Hk := hid hkn
      have Hown := hid hown
      clear hkn hlk hown
      go_wp2
      go_ret
      have ho := Hown.out
      rw [Hk.out] at ho
      exact ⟨_, rfl, Res.owns (by rw [tab_len]; exact ho), hb⟩


set_option maxHeartbeats 1000000 in
theorem wdDiff6_any (v : Value) (xs : List Int) (w : World) (hs : Sl w v xs) (hl : xs.length ≤ 64) (hi : InP (-549755813888) 549755813888 xs) :
    Calls Try.prog 71 #[v] w (GivesL w (tab xs.length (diS xs))) := by
  obtain ⟨a, n, cap, rfl, hn, hrd⟩ := hs.rd
  have Hn := hid hn
  have Hrd := hid hrd
  have hl' : n ≤ 64 := by omega
  clear hn hrd
  have Hi := hid hi
  clear hi hl hs
  obtain ⟨i0, hi0, hz0, hz1, hz2⟩ := info_parts iint
  go_enter Try.func71, Try.ntmps71
  go_wp2_with fail
  go_loopw [3, 4, 9] (fun v s0 i wr => ∃ k : Nat, k ≤ n ∧ i = .int .i64 k ∧ s0 = .int .i64 (bef (at0 xs) k) ∧ wr.ownsRow w.heap.size 3 1 v k ((tab k (diS xs)).map (Value.int .i64)) ∧ Below w.heap.size w wr)
    (fun _ _ i _ => n - (intOf i).toNat)
  case atStart => exact ⟨0, by omega, rfl, rfl, World.ownsRow_nil _ _ _ _, Below.refl _ _⟩
  case round =>
    obtain ⟨k, hk, rfl, rfl, hown, hb⟩ := hrel
    have hsz : w.heap.size ≤ wr.heap.size := hb.size
    by_cases hlk : k < n
    · obtain ⟨x, hkx⟩ := get_lt xs k (by rw [← Hn.out]; exact hlk)
      obtain ⟨bb, oo, hix, hbb, hce⟩ := (Hrd.out.kept hb).at (P := Try.prog) (T := 24) n cap uslice sone hkx hlk
      obtain ⟨x1, x2⟩ := Hi.out.at hkx
      have hst := tab_step k (diS xs)
      rw [diS_at hkx] at hst
      obtain ⟨z1, z2⟩ := bef_in (by omega) (inp_at0 Hi.out (by omega)) k
      have hss : bef (at0 xs) (k + 1) = x := at0_of hkx
      generalize bef (at0 xs) k = z at *
      have Hss := hid hss
      clear hss
      generalize hys : tab k (diS xs) = ys at hst hown
      have Hob := hid (ownsRow_base hown)
      have Hst := hid hst
      have Hown := hid hown
      have Hkx := hid hkx
      clear hkx
      clear hst hown hys
      go_wp2_with (at_builtin; refine wpList_append_own _ rfl _ _ 24 rfl w.heap.size 3 i0 (.int .i64 0) 1 8 uslice hi0 hz0 hz1 hz2 rfl (by decide) _ _ _ rfl (Hown.out.alloc _) ⟨wr.heap.size, 0, none⟩ 1 1 [.int .i64 (x - z)] rfl rfl ?c1 ?c2 ?c3 ?c4 ?c5 ?_)
      case c1 => exact cell_one_new _ _ _
      case c2 => intro u hu; simp at hu; subst hu; rfl
      case c3 => unfold maxLen; omega
      case c4 => omega
      case c5 => simp; omega
      · intro v' w3 hown3 hgrow _
        have hb3 : Below w.heap.size w w3 := (hb.alloc hsz _).grown hgrow (by simp; omega) (fun j hj => Hob.out j hj)
        have Hown3 := hid hown3
        clear hown3 hgrow
        go_wp2
        go_roundw
        case rel => exact ⟨k + 1, by omega, by go_num, by rw [Hss.out], by rw [Hst.out, List.map_append]; exact Hown3.out, hb3⟩
        case measure => simp [intOf]; omega
    · have hge : (n : Int) ≤ (k : Int) := by omega
      have hkn : k = xs.length := by rw [← Hn.out]; omega
      have Hk := hid hkn
      have Hown := hid hown
      clear hkn hlk hown
      go_wp2
      go_ret
      have ho := Hown.out
      rw [Hk.out] at ho
      exact ⟨_, rfl, Res.owns (by rw [tab_len]; exact ho), hb⟩


set_option maxHeartbeats 1000000 in
theorem cbSums_any (v : Value) (xs : List Int) (w : World) (hs : Sl w v xs) (hl : xs.length ≤ 64) (b st : Nat) (hi : InP (-549755813888) 549755813888 xs) (h1 : 2 ≤ b) (h2 : b ≤ 40) (h3 : 1 ≤ st) (h4 : st ≤ 4) :
    Calls Try.prog 44 #[v, .int .i64 (b : Int), .int .i64 (st : Int)] w (GivesL w (sumsL b st xs)) := by
  have Hs := hid hs
  have Hl := hid hl
  have Hi := hid hi
  clear hs hl hi
  go_enter Try.func44, Try.ntmps44
  go_wp2_with fail
  go_loopw [0, 7] (fun u i wr => ∃ k : Nat, k ≤ st ∧ i = .int .i64 k ∧ Sl wr u (sumsL b k xs) ∧ Hid (1 ≤ k → Res 3 w.heap.size wr u (sumsL b k xs)) ∧ Below w.heap.size w wr)
    (fun _ i _ => st - (intOf i).toNat)
  case atStart => exact ⟨0, by omega, rfl, by rw [sumsL_zero]; exact Hs.out, hid fun h => by omega, Below.refl _ _⟩
  case round =>
    obtain ⟨k, hk, rfl, hu, hr, hb⟩ := hrel
    have hsz : w.heap.size ≤ wr.heap.size := hb.size
    by_cases hlk : k < st
    · have Hu := hid hu
      have hin := sums_in (k := k) h2 Hi.out
      have hlen : (sumsL b k xs).length ≤ 64 := by rw [sumsL_len]; exact Hl.out
      have Hin := hid hin
      have Hlen := hid hlen
      clear hu hr hin hlen
      go_wp2_with fail
      refine (wdSums6_any _ _ _ Hu.out Hlen.out Hin.out).mono ?_
      rintro e w1 ⟨u1, rfl, hr1, hb1⟩
      have Hr1 := hid hr1
      clear hr1
      go_wp2_with fail
      refine (cbWrapAll_any _ _ _ Hr1.out.sl (by rw [tab_len]; exact Hlen.out) b (tab_inp fun i hi => by have := Hlen.out; exact (by have := ruS_in Hin.out (i + 1) (by omega); unfold ruS; omega)) h1 h2).mono ?_
      rintro e w2 ⟨u2, rfl, hr2, hb2⟩
      rw [sums_turn] at hr2
      have hb3 : Below w.heap.size w w2 := hb.trans ((hb1.trans (hb2.mono hb1.size)).mono hsz)
      have hr3 := hr2.mono (Nat.le_trans hsz hb1.size)
      have Hr3 := hid hr3
      clear hr2 hr3
      go_wp2
      go_roundw
      case rel => exact ⟨k + 1, by omega, by go_num, Hr3.out.sl, hid fun _ => Hr3.out, hb3⟩
      case measure => simp [intOf]; omega
    · have hge : (st : Int) ≤ (k : Int) := by omega
      have hkn : k = st := by omega
      have hr4 := hr.out (by omega)
      rw [hkn] at hr4
      have Hr := hid hr4
      clear hlk hkn hr hu hr4
      go_wp2
      go_ret
      exact ⟨_, rfl, Hr.out, hb⟩


set_option maxHeartbeats 1000000 in
theorem cbCombs_any (v : Value) (xs : List Int) (w : World) (hs : Sl w v xs) (hl : xs.length ≤ 64) (b st : Nat) (hi : InP (-549755813888) 549755813888 xs) (h1 : 2 ≤ b) (h2 : b ≤ 40) (h3 : 1 ≤ st) (h4 : st ≤ 4) :
    Calls Try.prog 46 #[v, .int .i64 (b : Int), .int .i64 (st : Int)] w (GivesL w (difsL b st xs)) := by
  have Hs := hid hs
  have Hl := hid hl
  have Hi := hid hi
  clear hs hl hi
  go_enter Try.func46, Try.ntmps46
  go_wp2_with fail
  go_loopw [0, 7] (fun u i wr => ∃ k : Nat, k ≤ st ∧ i = .int .i64 k ∧ Sl wr u (difsL b k xs) ∧ Hid (1 ≤ k → Res 3 w.heap.size wr u (difsL b k xs)) ∧ Below w.heap.size w wr)
    (fun _ i _ => st - (intOf i).toNat)
  case atStart => exact ⟨0, by omega, rfl, by rw [difsL_zero]; exact Hs.out, hid fun h => by omega, Below.refl _ _⟩
  case round =>
    obtain ⟨k, hk, rfl, hu, hr, hb⟩ := hrel
    have hsz : w.heap.size ≤ wr.heap.size := hb.size
    by_cases hlk : k < st
    · have Hu := hid hu
      have hin := difs_in (k := k) h2 Hi.out
      have hlen : (difsL b k xs).length ≤ 64 := by rw [difsL_len]; exact Hl.out
      have Hin := hid hin
      have Hlen := hid hlen
      clear hu hr hin hlen
      go_wp2_with fail
      refine (wdDiff6_any _ _ _ Hu.out Hlen.out Hin.out).mono ?_
      rintro e w1 ⟨u1, rfl, hr1, hb1⟩
      have Hr1 := hid hr1
      clear hr1
      go_wp2_with fail
      refine (cbWrapAll_any _ _ _ Hr1.out.sl (by rw [tab_len]; exact Hlen.out) b (tab_inp fun i hi => by have := Hlen.out; exact (by have a := inp_at0 Hin.out (by omega) i; have c := bef_in (by omega) (inp_at0 Hin.out (by omega)) i; unfold diS; omega)) h1 h2).mono ?_
      rintro e w2 ⟨u2, rfl, hr2, hb2⟩
      rw [difs_turn] at hr2
      have hb3 : Below w.heap.size w w2 := hb.trans ((hb1.trans (hb2.mono hb1.size)).mono hsz)
      have hr3 := hr2.mono (Nat.le_trans hsz hb1.size)
      have Hr3 := hid hr3
      clear hr2 hr3
      go_wp2
      go_roundw
      case rel => exact ⟨k + 1, by omega, by go_num, Hr3.out.sl, hid fun _ => Hr3.out, hb3⟩
      case measure => simp [intOf]; omega
    · have hge : (st : Int) ≤ (k : Int) := by omega
      have hkn : k = st := by omega
      have hr4 := hr.out (by omega)
      rw [hkn] at hr4
      have Hr := hid hr4
      clear hlk hkn hr hu hr4
      go_wp2
      go_ret
      exact ⟨_, rfl, Hr.out, hb⟩

end Go.Proofs.Ytdedifgpbehpoaa
