
import Derived.Test.YthkfjoonkkmgiaaXe
namespace Go.Proofs.Ythkfjoonkkmgiaa
open Go.RowKit BitX Go.MemX Go.Ch6 Go.Ch9 Go.ChV
set_option linter.unusedVariables false
theorem fld0 (xa ya za : Option Addr) (xn xc yn yc zn zc : Nat) (w : World) : (Instr.field 42 (.agg #[.slice xa xn xc, .slice ya yn yc, .slice za zn zc]) 0).run Try.prog w = .ok (.slice xa xn xc) w := by kernel_rfl
theorem fld1 (xa ya za : Option Addr) (xn xc yn yc zn zc : Nat) (w : World) : (Instr.field 42 (.agg #[.slice xa xn xc, .slice ya yn yc, .slice za zn zc]) 1).run Try.prog w = .ok (.slice ya yn yc) w := by kernel_rfl
theorem fld2 (xa ya za : Option Addr) (xn xc yn yc zn zc : Nat) (w : World) : (Instr.field 42 (.agg #[.slice xa xn xc, .slice ya yn yc, .slice za zn zc]) 2).run Try.prog w = .ok (.slice za zn zc) w := by kernel_rfl
theorem adNext : NextIs Try.prog 29 adI := fun W t b h1 h2 => adapted_is t b W h1 h2
theorem fxNext : NextIs Try.prog 39 fxI := fun W t b h1 h2 => fixed_is t b W h1 h2
def cG (s : List Int) (f : Int) : Bool := sigB s && stB f
def dG (s : List Int) (f : Int) : Bool := bitB s && stB f
theorem cG_n1 {s : List Int} {f : Int} (h : sigB s = false) : cG s f = false := by unfold cG; rw [h]; rfl
theorem cG_n2 {s : List Int} {f : Int} (h : stB f = false) : cG s f = false := by unfold cG; rw [h, Bool.and_false]
theorem cG_t {s : List Int} {f : Int} (h : sigB s = true) (h2 : stB f = true) : cG s f = true := by unfold cG; rw [h, h2]; rfl
theorem dG_n1 {s : List Int} {f : Int} (h : bitB s = false) : dG s f = false := by unfold dG; rw [h]; rfl
theorem dG_n2 {s : List Int} {f : Int} (h : stB f = false) : dG s f = false := by unfold dG; rw [h, Bool.and_false]
theorem dG_t {s : List Int} {f : Int} (h : bitB s = true) (h2 : stB f = true) : dG s f = true := by unfold dG; rw [h, h2]; rfl
def dL (g : Bool) (L : List Int) : Bool := g && sigB L
theorem dL_n {g : Bool} {L : List Int} (h : g = false) : dL g L = false := by unfold dL; rw [h]; rfl
theorem dL_t {g b : Bool} {L : List Int} (h : g = true) (e : sigB L = b) : b = dL g L := by unfold dL; rw [h, e]; rfl
theorem gives_if {w w' : World} {v : Value} {ys : List Int} {b c : Bool} (e : b = c) (R : Res 3 w.heap.size w' v ys) (hb : Below w.heap.size w w') : Gives w (onL c ys) c (.returned (.tuple #[onB b v (.slice none 0 0), .bool b])) w' := by
  subst e
  cases b
  · exact ⟨_, rfl, .inl ⟨rfl, rfl⟩, hb⟩
  · exact ⟨_, rfl, R, hb⟩
theorem tlB_in {s : List Int} (h : BitP s) (k : Nat) (y : Int) (hk : k < s.length) : tlB s k y = 1 ∨ tlB s k y = -1 := h.at hk
theorem onI9_no {x : Int} {b : Bool} (h : b = false) : Ending.returned (.tuple #[.int .i64 0, .bool false]) = .returned (.tuple #[.int .i64 (onI b x), .bool b]) := by subst h; rfl
theorem onI9_yes {x y : Int} {b : Bool} (h : b = true) (e : y = x) : Ending.returned (.tuple #[.int .i64 y, .bool true]) = .returned (.tuple #[.int .i64 (onI b x), .bool b]) := by subst h e; rfl


set_option maxHeartbeats 1000000 in
theorem impl_StepBits_any (v : Value) (s : List Int) (f : Int) (w : World) (hs : Sl w v s) :
    Calls Try.prog 6 #[v, .int .i64 f] w (Gives w (onL (cG s f) (tab s.length (skB adI (cdB s) f))) (cG s f)) := by
  have HS := hid hs
  clear hs
  cases h0 : sigB s
  · have HB0 := hid h0
    clear h0
    go_enter Try.func6, Try.ntmps6
    go_wp2_with fail
    refine (impl_IsSignal_is v s false _ HS.out HB0.out).mono ?_
    rintro e w' ⟨rfl, rfl⟩
    go_wp2_with fail
    go_ret2
    exact gives_no (cG_n1 HB0.out) (Below.refl _ _)
  · have HB0 := hid h0
    clear h0
    cases h1 : stB f
    · have HB1 := hid h1
      clear h1
      go_enter Try.func6, Try.ntmps6
      go_wp2_with fail
      refine (impl_IsSignal_is v s true _ HS.out HB0.out).mono ?_
      rintro e w' ⟨rfl, rfl⟩
      go_wp2_with fail
      refine (isStep_is _ false _ HB1.out).mono ?_
      rintro e w' ⟨rfl, rfl⟩
      go_wp2_with fail
      go_ret2
      exact gives_no (cG_n2 HB1.out) (Below.refl _ _)
    · have HB1 := hid h1
      clear h1
      obtain ⟨f1, f2⟩ := stB_t HB1.out
      have HG := hid (sigB_t HB0.out)
      go_enter Try.func6, Try.ntmps6
      go_wp2_with fail
      refine (impl_IsSignal_is v s true _ HS.out HB0.out).mono ?_
      rintro e w' ⟨rfl, rfl⟩
      go_wp2_with fail
      refine (isStep_is _ true _ HB1.out).mono ?_
      rintro e w' ⟨rfl, rfl⟩
      go_wp2_with fail
      refine (coded_any 29 enterAD adI ad_keeps adNext v s f _ HS.out (Nat.le_trans HG.out.1 (by omega)) f1 f2 (fun k y hk => cdB_in s s.length k y hk)).mono ?_
      rintro e w1 ⟨x, y, z, rfl, R1, R2, R3, hb⟩
      obtain ⟨xa, xn, xc, rfl⟩ := R1.form9
      obtain ⟨ya, yn, yc, rfl⟩ := R2.form9
      obtain ⟨za, zn, zc, rfl⟩ := R3.form9
      have HR := hid R1
      have hfl := fld0 xa ya za xn xc yn yc zn zc
      clear R1 R2 R3
      go_wp2
      go_ret2
      exact gives_yes (cG_t HB0.out HB1.out) HR.out hb


set_option maxHeartbeats 1000000 in
theorem impl_FixedBits_any (v : Value) (s : List Int) (f : Int) (w : World) (hs : Sl w v s) :
    Calls Try.prog 12 #[v, .int .i64 f] w (Gives w (onL (cG s f) (tab s.length (skB fxI (cdB s) f))) (cG s f)) := by
  have HS := hid hs
  clear hs
  cases h0 : sigB s
  · have HB0 := hid h0
    clear h0
    go_enter Try.func12, Try.ntmps12
    go_wp2_with fail
    refine (impl_IsSignal_is v s false _ HS.out HB0.out).mono ?_
    rintro e w' ⟨rfl, rfl⟩
    go_wp2_with fail
    go_ret2
    exact gives_no (cG_n1 HB0.out) (Below.refl _ _)
  · have HB0 := hid h0
    clear h0
    cases h1 : stB f
    · have HB1 := hid h1
      clear h1
      go_enter Try.func12, Try.ntmps12
      go_wp2_with fail
      refine (impl_IsSignal_is v s true _ HS.out HB0.out).mono ?_
      rintro e w' ⟨rfl, rfl⟩
      go_wp2_with fail
      refine (isStep_is _ false _ HB1.out).mono ?_
      rintro e w' ⟨rfl, rfl⟩
      go_wp2_with fail
      go_ret2
      exact gives_no (cG_n2 HB1.out) (Below.refl _ _)
    · have HB1 := hid h1
      clear h1
      obtain ⟨f1, f2⟩ := stB_t HB1.out
      have HG := hid (sigB_t HB0.out)
      go_enter Try.func12, Try.ntmps12
      go_wp2_with fail
      refine (impl_IsSignal_is v s true _ HS.out HB0.out).mono ?_
      rintro e w' ⟨rfl, rfl⟩
      go_wp2_with fail
      refine (isStep_is _ true _ HB1.out).mono ?_
      rintro e w' ⟨rfl, rfl⟩
      go_wp2_with fail
      refine (coded_any 39 enterFX fxI fx_keeps fxNext v s f _ HS.out (Nat.le_trans HG.out.1 (by omega)) f1 f2 (fun k y hk => cdB_in s s.length k y hk)).mono ?_
      rintro e w1 ⟨x, y, z, rfl, R1, R2, R3, hb⟩
      obtain ⟨xa, xn, xc, rfl⟩ := R1.form9
      obtain ⟨ya, yn, yc, rfl⟩ := R2.form9
      obtain ⟨za, zn, zc, rfl⟩ := R3.form9
      have HR := hid R1
      have hfl := fld0 xa ya za xn xc yn yc zn zc
      clear R1 R2 R3
      go_wp2
      go_ret2
      exact gives_yes (cG_t HB0.out HB1.out) HR.out hb


set_option maxHeartbeats 1000000 in
theorem spec_StepBits_any (v : Value) (s : List Int) (f : Int) (w : World) (hs : Sl w v s) :
    Calls Try.prog 7 #[v, .int .i64 f] w (Gives w (onL (cG s f) (tab s.length (skB adI (cdB s) f))) (cG s f)) := by
  have HS := hid hs
  clear hs
  cases h0 : sigB s
  · have HB0 := hid h0
    clear h0
    go_enter Try.func7, Try.ntmps7
    go_wp2_with fail
    refine (wdSignal_is v s false _ HS.out HB0.out).mono ?_
    rintro e w' ⟨rfl, rfl⟩
    go_wp2_with fail
    go_ret2
    exact gives_no (cG_n1 HB0.out) (Below.refl _ _)
  · have HB0 := hid h0
    clear h0
    cases h1 : stB f
    · have HB1 := hid h1
      clear h1
      go_enter Try.func7, Try.ntmps7
      go_wp2_with fail
      refine (wdSignal_is v s true _ HS.out HB0.out).mono ?_
      rintro e w' ⟨rfl, rfl⟩
      go_wp2_with fail
      refine (tnStep_is _ false _ HB1.out).mono ?_
      rintro e w' ⟨rfl, rfl⟩
      go_wp2_with fail
      go_ret2
      exact gives_no (cG_n2 HB1.out) (Below.refl _ _)
    · have HB1 := hid h1
      clear h1
      obtain ⟨f1, f2⟩ := stB_t HB1.out
      have HG := hid (sigB_t HB0.out)
      go_enter Try.func7, Try.ntmps7
      go_wp2_with fail
      refine (wdSignal_is v s true _ HS.out HB0.out).mono ?_
      rintro e w' ⟨rfl, rfl⟩
      go_wp2_with fail
      refine (tnStep_is _ true _ HB1.out).mono ?_
      rintro e w' ⟨rfl, rfl⟩
      go_wp2_with fail
      refine (tnCode_any v s f _ HS.out HG.out.1 f1 f2).mono ?_
      rintro e w1 ⟨x, y, rfl, R1, R2, hb⟩
      have HR := hid R1
      clear R1 R2
      go_wp2
      go_ret2
      exact gives_yes (cG_t HB0.out HB1.out) HR.out hb


set_option maxHeartbeats 1000000 in
theorem impl_StepsOfBits_any (v : Value) (s : List Int) (f : Int) (w : World) (hs : Sl w v s) :
    Calls Try.prog 19 #[v, .int .i64 f] w (Gives w (onL (dL (dG s f) (tab s.length fun k => skT adI (tlB s) f (k + 1))) (tab s.length fun k => skT adI (tlB s) f (k + 1))) (dL (dG s f) (tab s.length fun k => skT adI (tlB s) f (k + 1)))) := by
  have HS := hid hs
  clear hs
  cases h0 : bitB s
  · have HB0 := hid h0
    clear h0
    go_enter Try.func19, Try.ntmps19
    go_wp2_with fail
    refine (areBits_q v s false _ HS.out HB0.out).mono ?_
    rintro e w' ⟨rfl, rfl⟩
    go_wp2_with fail
    go_ret2
    exact gives_no (dL_n (dG_n1 HB0.out)) (Below.refl _ _)
  · have HB0 := hid h0
    clear h0
    cases h1 : stB f
    · have HB1 := hid h1
      clear h1
      go_enter Try.func19, Try.ntmps19
      go_wp2_with fail
      refine (areBits_q v s true _ HS.out HB0.out).mono ?_
      rintro e w' ⟨rfl, rfl⟩
      go_wp2_with fail
      refine (isStep_is _ false _ HB1.out).mono ?_
      rintro e w' ⟨rfl, rfl⟩
      go_wp2_with fail
      go_ret2
      exact gives_no (dL_n (dG_n2 HB1.out)) (Below.refl _ _)
    · have HB1 := hid h1
      clear h1
      obtain ⟨f1, f2⟩ := stB_t HB1.out
      have HG := hid (bitB_t HB0.out)
      go_enter Try.func19, Try.ntmps19
      go_wp2_with fail
      refine (areBits_q v s true _ HS.out HB0.out).mono ?_
      rintro e w' ⟨rfl, rfl⟩
      go_wp2_with fail
      refine (isStep_is _ true _ HB1.out).mono ?_
      rintro e w' ⟨rfl, rfl⟩
      go_wp2_with fail
      refine (decoded_any 29 enterAD adI ad_keeps adNext v s f _ HS.out HG.out.1 f1 f2 (tlB_in HG.out)).mono ?_
      rintro e w1 ⟨x, y, z, rfl, R1, R2, R3, hb⟩
      obtain ⟨xa, xn, xc, rfl⟩ := R1.form9
      obtain ⟨ya, yn, yc, rfl⟩ := R2.form9
      obtain ⟨za, zn, zc, rfl⟩ := R3.form9
      have HR := hid R2
      have hfl := fld1 xa ya za xn xc yn yc zn zc
      clear R1 R2 R3
      obtain ⟨b, hbq⟩ : ∃ b, sigB (tab s.length fun k => skT adI (tlB s) f (k + 1)) = b := ⟨_, rfl⟩
      have HBQ := hid hbq
      clear hbq
      go_wp2_with fail
      refine (onlySignal_is _ _ b _ HR.out.sl HBQ.out).mono ?_
      rintro e w' ⟨rfl, rfl⟩
      go_wp2
      go_ret2
      exact gives_if (dL_t (dG_t HB0.out HB1.out) HBQ.out) HR.out hb


set_option maxHeartbeats 1000000 in
theorem spec_StepsOfBits_any (v : Value) (s : List Int) (f : Int) (w : World) (hs : Sl w v s) :
    Calls Try.prog 20 #[v, .int .i64 f] w (Gives w (onL (dL (dG s f) (tab s.length fun k => skT adI (tlB s) f (k + 1))) (tab s.length fun k => skT adI (tlB s) f (k + 1))) (dL (dG s f) (tab s.length fun k => skT adI (tlB s) f (k + 1)))) := by
  have HS := hid hs
  clear hs
  cases h0 : bitB s
  · have HB0 := hid h0
    clear h0
    go_enter Try.func20, Try.ntmps20
    go_wp2_with fail
    refine (tnBits_q v s false _ HS.out HB0.out).mono ?_
    rintro e w' ⟨rfl, rfl⟩
    go_wp2_with fail
    go_ret2
    exact gives_no (dL_n (dG_n1 HB0.out)) (Below.refl _ _)
  · have HB0 := hid h0
    clear h0
    cases h1 : stB f
    · have HB1 := hid h1
      clear h1
      go_enter Try.func20, Try.ntmps20
      go_wp2_with fail
      refine (tnBits_q v s true _ HS.out HB0.out).mono ?_
      rintro e w' ⟨rfl, rfl⟩
      go_wp2_with fail
      refine (tnStep_is _ false _ HB1.out).mono ?_
      rintro e w' ⟨rfl, rfl⟩
      go_wp2_with fail
      go_ret2
      exact gives_no (dL_n (dG_n2 HB1.out)) (Below.refl _ _)
    · have HB1 := hid h1
      clear h1
      obtain ⟨f1, f2⟩ := stB_t HB1.out
      have HG := hid (bitB_t HB0.out)
      go_enter Try.func20, Try.ntmps20
      go_wp2_with fail
      refine (tnBits_q v s true _ HS.out HB0.out).mono ?_
      rintro e w' ⟨rfl, rfl⟩
      go_wp2_with fail
      refine (tnStep_is _ true _ HB1.out).mono ?_
      rintro e w' ⟨rfl, rfl⟩
      go_wp2_with fail
      refine (tnDecode_any v s f _ HS.out HG.out f1 f2).mono ?_
      rintro e w1 ⟨x, y, rfl, R1, R2, hb⟩
      have HR := hid R1
      clear R1 R2
      obtain ⟨b, hbq⟩ : ∃ b, sigB (tab s.length fun k => skT adI (tlB s) f (k + 1)) = b := ⟨_, rfl⟩
      have HBQ := hid hbq
      clear hbq
      go_wp2_with fail
      refine (wdIf_is _ _ b _ HR.out.sl HBQ.out).mono ?_
      rintro e w' ⟨rfl, rfl⟩
      go_wp2
      go_ret2
      exact gives_if (dL_t (dG_t HB0.out HB1.out) HBQ.out) HR.out hb


set_option maxHeartbeats 1000000 in
theorem impl_StepValues_any (v : Value) (s : List Int) (f : Int) (w : World) (hs : Sl w v s) :
    Calls Try.prog 15 #[v, .int .i64 f] w (Gives w (onL (dL (dG s f) (tab s.length fun k => skV adI (tlB s) f (k + 1))) (tab s.length fun k => skV adI (tlB s) f (k + 1))) (dL (dG s f) (tab s.length fun k => skV adI (tlB s) f (k + 1)))) := by
  have HS := hid hs
  clear hs
  cases h0 : bitB s
  · have HB0 := hid h0
    clear h0
    go_enter Try.func15, Try.ntmps15
    go_wp2_with fail
    refine (areBits_q v s false _ HS.out HB0.out).mono ?_
    rintro e w' ⟨rfl, rfl⟩
    go_wp2_with fail
    go_ret2
    exact gives_no (dL_n (dG_n1 HB0.out)) (Below.refl _ _)
  · have HB0 := hid h0
    clear h0
    cases h1 : stB f
    · have HB1 := hid h1
      clear h1
      go_enter Try.func15, Try.ntmps15
      go_wp2_with fail
      refine (areBits_q v s true _ HS.out HB0.out).mono ?_
      rintro e w' ⟨rfl, rfl⟩
      go_wp2_with fail
      refine (isStep_is _ false _ HB1.out).mono ?_
      rintro e w' ⟨rfl, rfl⟩
      go_wp2_with fail
      go_ret2
      exact gives_no (dL_n (dG_n2 HB1.out)) (Below.refl _ _)
    · have HB1 := hid h1
      clear h1
      obtain ⟨f1, f2⟩ := stB_t HB1.out
      have HG := hid (bitB_t HB0.out)
      go_enter Try.func15, Try.ntmps15
      go_wp2_with fail
      refine (areBits_q v s true _ HS.out HB0.out).mono ?_
      rintro e w' ⟨rfl, rfl⟩
      go_wp2_with fail
      refine (isStep_is _ true _ HB1.out).mono ?_
      rintro e w' ⟨rfl, rfl⟩
      go_wp2_with fail
      refine (decoded_any 29 enterAD adI ad_keeps adNext v s f _ HS.out HG.out.1 f1 f2 (tlB_in HG.out)).mono ?_
      rintro e w1 ⟨x, y, z, rfl, R1, R2, R3, hb⟩
      obtain ⟨xa, xn, xc, rfl⟩ := R1.form9
      obtain ⟨ya, yn, yc, rfl⟩ := R2.form9
      obtain ⟨za, zn, zc, rfl⟩ := R3.form9
      have HR := hid R3
      have hfl := fld2 xa ya za xn xc yn yc zn zc
      clear R1 R2 R3
      obtain ⟨b, hbq⟩ : ∃ b, sigB (tab s.length fun k => skV adI (tlB s) f (k + 1)) = b := ⟨_, rfl⟩
      have HBQ := hid hbq
      clear hbq
      go_wp2_with fail
      refine (onlySignal_is _ _ b _ HR.out.sl HBQ.out).mono ?_
      rintro e w' ⟨rfl, rfl⟩
      go_wp2
      go_ret2
      exact gives_if (dL_t (dG_t HB0.out HB1.out) HBQ.out) HR.out hb


set_option maxHeartbeats 1000000 in
theorem spec_StepValues_any (v : Value) (s : List Int) (f : Int) (w : World) (hs : Sl w v s) :
    Calls Try.prog 21 #[v, .int .i64 f] w (Gives w (onL (dL (dG s f) (tab s.length fun k => skV adI (tlB s) f (k + 1))) (tab s.length fun k => skV adI (tlB s) f (k + 1))) (dL (dG s f) (tab s.length fun k => skV adI (tlB s) f (k + 1)))) := by
  have HS := hid hs
  clear hs
  cases h0 : bitB s
  · have HB0 := hid h0
    clear h0
    go_enter Try.func21, Try.ntmps21
    go_wp2_with fail
    refine (tnBits_q v s false _ HS.out HB0.out).mono ?_
    rintro e w' ⟨rfl, rfl⟩
    go_wp2_with fail
    go_ret2
    exact gives_no (dL_n (dG_n1 HB0.out)) (Below.refl _ _)
  · have HB0 := hid h0
    clear h0
    cases h1 : stB f
    · have HB1 := hid h1
      clear h1
      go_enter Try.func21, Try.ntmps21
      go_wp2_with fail
      refine (tnBits_q v s true _ HS.out HB0.out).mono ?_
      rintro e w' ⟨rfl, rfl⟩
      go_wp2_with fail
      refine (tnStep_is _ false _ HB1.out).mono ?_
      rintro e w' ⟨rfl, rfl⟩
      go_wp2_with fail
      go_ret2
      exact gives_no (dL_n (dG_n2 HB1.out)) (Below.refl _ _)
    · have HB1 := hid h1
      clear h1
      obtain ⟨f1, f2⟩ := stB_t HB1.out
      have HG := hid (bitB_t HB0.out)
      go_enter Try.func21, Try.ntmps21
      go_wp2_with fail
      refine (tnBits_q v s true _ HS.out HB0.out).mono ?_
      rintro e w' ⟨rfl, rfl⟩
      go_wp2_with fail
      refine (tnStep_is _ true _ HB1.out).mono ?_
      rintro e w' ⟨rfl, rfl⟩
      go_wp2_with fail
      refine (tnDecode_any v s f _ HS.out HG.out f1 f2).mono ?_
      rintro e w1 ⟨x, y, rfl, R1, R2, hb⟩
      have HR := hid R2
      clear R1 R2
      obtain ⟨b, hbq⟩ : ∃ b, sigB (tab s.length fun k => skV adI (tlB s) f (k + 1)) = b := ⟨_, rfl⟩
      have HBQ := hid hbq
      clear hbq
      go_wp2_with fail
      refine (wdIf_is _ _ b _ HR.out.sl HBQ.out).mono ?_
      rintro e w' ⟨rfl, rfl⟩
      go_wp2
      go_ret2
      exact gives_if (dL_t (dG_t HB0.out HB1.out) HBQ.out) HR.out hb


set_option maxHeartbeats 1000000 in
theorem impl_FixedValues_any (v : Value) (s : List Int) (f : Int) (w : World) (hs : Sl w v s) :
    Calls Try.prog 17 #[v, .int .i64 f] w (Gives w (onL (dL (dG s f) (tab s.length fun k => skV fxI (tlB s) f (k + 1))) (tab s.length fun k => skV fxI (tlB s) f (k + 1))) (dL (dG s f) (tab s.length fun k => skV fxI (tlB s) f (k + 1)))) := by
  have HS := hid hs
  clear hs
  cases h0 : bitB s
  · have HB0 := hid h0
    clear h0
    go_enter Try.func17, Try.ntmps17
    go_wp2_with fail
    refine (areBits_q v s false _ HS.out HB0.out).mono ?_
    rintro e w' ⟨rfl, rfl⟩
    go_wp2_with fail
    go_ret2
    exact gives_no (dL_n (dG_n1 HB0.out)) (Below.refl _ _)
  · have HB0 := hid h0
    clear h0
    cases h1 : stB f
    · have HB1 := hid h1
      clear h1
      go_enter Try.func17, Try.ntmps17
      go_wp2_with fail
      refine (areBits_q v s true _ HS.out HB0.out).mono ?_
      rintro e w' ⟨rfl, rfl⟩
      go_wp2_with fail
      refine (isStep_is _ false _ HB1.out).mono ?_
      rintro e w' ⟨rfl, rfl⟩
      go_wp2_with fail
      go_ret2
      exact gives_no (dL_n (dG_n2 HB1.out)) (Below.refl _ _)
    · have HB1 := hid h1
      clear h1
      obtain ⟨f1, f2⟩ := stB_t HB1.out
      have HG := hid (bitB_t HB0.out)
      go_enter Try.func17, Try.ntmps17
      go_wp2_with fail
      refine (areBits_q v s true _ HS.out HB0.out).mono ?_
      rintro e w' ⟨rfl, rfl⟩
      go_wp2_with fail
      refine (isStep_is _ true _ HB1.out).mono ?_
      rintro e w' ⟨rfl, rfl⟩
      go_wp2_with fail
      refine (decoded_any 39 enterFX fxI fx_keeps fxNext v s f _ HS.out HG.out.1 f1 f2 (tlB_in HG.out)).mono ?_
      rintro e w1 ⟨x, y, z, rfl, R1, R2, R3, hb⟩
      obtain ⟨xa, xn, xc, rfl⟩ := R1.form9
      obtain ⟨ya, yn, yc, rfl⟩ := R2.form9
      obtain ⟨za, zn, zc, rfl⟩ := R3.form9
      have HR := hid R3
      have hfl := fld2 xa ya za xn xc yn yc zn zc
      clear R1 R2 R3
      obtain ⟨b, hbq⟩ : ∃ b, sigB (tab s.length fun k => skV fxI (tlB s) f (k + 1)) = b := ⟨_, rfl⟩
      have HBQ := hid hbq
      clear hbq
      go_wp2_with fail
      refine (onlySignal_is _ _ b _ HR.out.sl HBQ.out).mono ?_
      rintro e w' ⟨rfl, rfl⟩
      go_wp2
      go_ret2
      exact gives_if (dL_t (dG_t HB0.out HB1.out) HBQ.out) HR.out hb


set_option maxHeartbeats 2000000 in
theorem spec_FixedBits_any (v : Value) (s : List Int) (f : Int) (w : World) (hs : Sl w v s) :
    Calls Try.prog 13 #[v, .int .i64 f] w (Gives w (onL (cG s f) (tab s.length (skB fxI (cdB s) f))) (cG s f)) := by
  have HS := hid hs
  clear hs
  cases h0 : sigB s
  · have HB0 := hid h0
    clear h0
    go_enter Try.func13, Try.ntmps13
    go_wp2_with fail
    refine (wdSignal_is v s false _ HS.out HB0.out).mono ?_
    rintro e w' ⟨rfl, rfl⟩
    go_wp2_with fail
    go_ret2
    exact gives_no (cG_n1 HB0.out) (Below.refl _ _)
  · have HB0 := hid h0
    clear h0
    cases h1 : stB f
    · have HB1 := hid h1
      clear h1
      go_enter Try.func13, Try.ntmps13
      go_wp2_with fail
      refine (wdSignal_is v s true _ HS.out HB0.out).mono ?_
      rintro e w' ⟨rfl, rfl⟩
      go_wp2_with fail
      refine (tnStep_is _ false _ HB1.out).mono ?_
      rintro e w' ⟨rfl, rfl⟩
      go_wp2_with fail
      go_ret2
      exact gives_no (cG_n2 HB1.out) (Below.refl _ _)
    · have HB1 := hid h1
      clear h1
      obtain ⟨f1, f2⟩ := stB_t HB1.out
      have HG := hid (sigB_t HB0.out)
      go_enter Try.func13, Try.ntmps13
      go_wp2_with fail
      refine (wdSignal_is v s true _ HS.out HB0.out).mono ?_
      rintro e w' ⟨rfl, rfl⟩
      go_wp2_with fail
      refine (tnStep_is _ true _ HB1.out).mono ?_
      rintro e w' ⟨rfl, rfl⟩
      obtain ⟨aa, n, cap, rfl, hn, hrd⟩ := HS.out.rd
      have hl' : n ≤ 64 := by rw [hn]; exact HG.out.1
      have HBB := hid (show ∀ k y, k < s.length → (cdB s) k y = 1 ∨ (cdB s) k y = -1 from fun k y hk => cdB_in s s.length k y hk)
      have Hn := hid hn
      have Hrd := hid hrd
      obtain ⟨i0, hi0, hz0, hz1, hz2⟩ := info_parts iint
      clear hn hrd
      go_wp2_with fail
      go_loopw [6, 7, 21] (fun v6 st i wr => ∃ (c : Nat) (vv : Value), c ≤ n ∧ vv = v6 ∧ st = .int .i64 (skV fxI (cdB s) f c) ∧ i = .int .i64 c ∧ wr.ownsRow w.heap.size 3 1 vv c ((tab c (skB fxI (cdB s) f)).map (Value.int .i64)) ∧ Below w.heap.size w wr)
        (fun _ _ i _ => n - (intOf i).toNat)
      case atStart => exact ⟨0, _, by omega, rfl, rfl, rfl, World.ownsRow_nil _ _ _ _, Below.refl _ _⟩
      case round =>
        obtain ⟨c, vv, hc, rfl, rfl, rfl, hown, hb⟩ := hrel
        have hsz : w.heap.size ≤ wr.heap.size := hb.size
        by_cases hlk : c < n
        · obtain ⟨x, hkx⟩ := get_lt s c (by rw [← Hn.out]; exact hlk)
          obtain ⟨bb, oo, hix, hbb, hce⟩ := (Hrd.out.kept hb).at (P := Try.prog) (T := 24) n cap uslice sone hkx hlk
          have hcl : c < s.length := by rw [← Hn.out]; exact hlk
          have hs200 : s.length ≤ 200 := by rw [← Hn.out]; omega
          have hst : tab (c + 1) (skB fxI (cdB s) f) = tab c (skB fxI (cdB s) f) ++ [skB fxI (cdB s) f c] := tab_step c (skB fxI (cdB s) f)
          have hbx : skB fxI (cdB s) f c = bI x (skV fxI (cdB s) f c) := (skB_eq fxI (cdB s) f c).trans (cdB_at hkx _)
          have hbt := skB_in (nx := fxI) (f := f) HBB.out c hcl
          have hnv := (fxV_succ (cdB s) f c).trans (by rw [Int.mul_comm])
          obtain ⟨z1, z2⟩ := skV_in' fx_keeps f1 f2 HBB.out c (by omega) hs200
          generalize hnvv : skV fxI (cdB s) f (c + 1) = nz at *
          generalize skV fxI (cdB s) f c = z at *
          generalize skB fxI (cdB s) f c = bt at *
          have hp : bt * f = f ∨ bt * f = -f := by rcases hbt with h | h <;> (rw [h]; omega)
          have e1 : ∀ [Inhabited Unit], wrap64 (bt * f) = bt * f := IntWalk.wrap64_in _ (by omega)
          have e2 : ∀ [Inhabited Unit], wrap64 (z + bt * f) = nz := by rw [hnv]; exact IntWalk.wrap64_in _ (by omega)
          have e3 : ∀ [Inhabited Unit], z + bt * f = nz := hnv.symm
          have e4 : ∀ [Inhabited Unit], wrap64 nz = nz := IntWalk.wrap64_in _ (by omega)
          have Hbx := hid hbx.symm
          have Hnv := hid hnvv
          have Hst := hid hst
          have Hob := hid (ownsRow_base hown)
          have Hown := hid hown
          clear hkx hst hbx hbt hnv hnvv hp hown
          go_wp2_with fail
          refine (tnBit_any x z _).mono ?_
          rintro e w' ⟨rfl, rfl⟩
          rw [Hbx.out]
          go_wp2_with (at_builtin; refine wpList_append_own _ rfl _ _ 24 rfl w.heap.size 3 i0 (.int .i64 0) 1 8 uslice hi0 hz0 hz1 hz2 rfl (by decide) _ _ _ rfl (Hown.out.alloc _) ⟨wr.heap.size, 0, none⟩ 1 1 [.int .i64 bt] rfl rfl (cell_one_new _ _ _) (by intro u hu; simp at hu; subst hu; rfl) (by unfold maxLen; omega) (by omega) (by simp; omega) ?_)
          intro v' w3 hown3 hgrow _
          have hb3 : Below w.heap.size w w3 := (hb.alloc hsz _).grown hgrow (by simp; omega) (fun j hj => Hob.out j hj)
          have Hown3 := hid hown3
          clear hown3 hgrow
          go_wp2
          go_roundw
          case rel => exact ⟨c + 1, _, by omega, rfl, by rw [Hnv.out], by go_num, by rw [Hst.out, List.map_append]; exact Hown3.out, hb3⟩
          case measure => simp [intOf]; omega
        · have hge : (n : Int) ≤ (c : Int) := by omega
          have hkn : c = s.length := by rw [← Hn.out]; omega
          have Hk := hid hkn
          have Hown := hid hown
          clear hkn hlk hown
          go_wp2
          go_ret2
          have ho := Hown.out
          rw [Hk.out] at ho
          exact gives_yes (cG_t HB0.out HB1.out) (Res.owns (by rw [tab_len]; exact ho)) hb


set_option maxHeartbeats 2000000 in
theorem spec_FixedValues_any (v : Value) (s : List Int) (f : Int) (w : World) (hs : Sl w v s) :
    Calls Try.prog 23 #[v, .int .i64 f] w (Gives w (onL (dL (dG s f) (tab s.length fun k => skV fxI (tlB s) f (k + 1))) (tab s.length fun k => skV fxI (tlB s) f (k + 1))) (dL (dG s f) (tab s.length fun k => skV fxI (tlB s) f (k + 1)))) := by
  have HS := hid hs
  clear hs
  cases h0 : bitB s
  · have HB0 := hid h0
    clear h0
    go_enter Try.func23, Try.ntmps23
    go_wp2_with fail
    refine (tnBits_q v s false _ HS.out HB0.out).mono ?_
    rintro e w' ⟨rfl, rfl⟩
    go_wp2_with fail
    go_ret2
    exact gives_no (dL_n (dG_n1 HB0.out)) (Below.refl _ _)
  · have HB0 := hid h0
    clear h0
    cases h1 : stB f
    · have HB1 := hid h1
      clear h1
      go_enter Try.func23, Try.ntmps23
      go_wp2_with fail
      refine (tnBits_q v s true _ HS.out HB0.out).mono ?_
      rintro e w' ⟨rfl, rfl⟩
      go_wp2_with fail
      refine (tnStep_is _ false _ HB1.out).mono ?_
      rintro e w' ⟨rfl, rfl⟩
      go_wp2_with fail
      go_ret2
      exact gives_no (dL_n (dG_n2 HB1.out)) (Below.refl _ _)
    · have HB1 := hid h1
      clear h1
      obtain ⟨f1, f2⟩ := stB_t HB1.out
      have HG := hid (bitB_t HB0.out)
      go_enter Try.func23, Try.ntmps23
      go_wp2_with fail
      refine (tnBits_q v s true _ HS.out HB0.out).mono ?_
      rintro e w' ⟨rfl, rfl⟩
      go_wp2_with fail
      refine (tnStep_is _ true _ HB1.out).mono ?_
      rintro e w' ⟨rfl, rfl⟩
      obtain ⟨aa, n, cap, rfl, hn, hrd⟩ := HS.out.rd
      have hl' : n ≤ 200 := by rw [hn]; exact HG.out.1
      have HBB := hid (show ∀ k y, k < s.length → (tlB s) k y = 1 ∨ (tlB s) k y = -1 from tlB_in HG.out)
      have Hn := hid hn
      have Hrd := hid hrd
      obtain ⟨i0, hi0, hz0, hz1, hz2⟩ := info_parts iint
      clear hn hrd
      go_wp2_with fail
      go_loopw [6, 7, 20] (fun v6 st i wr => ∃ (c : Nat) (vv : Value), c ≤ n ∧ vv = v6 ∧ st = .int .i64 (skV fxI (tlB s) f c) ∧ i = .int .i64 c ∧ wr.ownsRow w.heap.size 3 1 vv c ((tab c (fun k => skV fxI (tlB s) f (k + 1))).map (Value.int .i64)) ∧ Below w.heap.size w wr)
        (fun _ _ i _ => n - (intOf i).toNat)
      case atStart => exact ⟨0, _, by omega, rfl, rfl, rfl, World.ownsRow_nil _ _ _ _, Below.refl _ _⟩
      case round =>
        obtain ⟨c, vv, hc, rfl, rfl, rfl, hown, hb⟩ := hrel
        have hsz : w.heap.size ≤ wr.heap.size := hb.size
        by_cases hlk : c < n
        · obtain ⟨x, hkx⟩ := get_lt s c (by rw [← Hn.out]; exact hlk)
          obtain ⟨bb, oo, hix, hbb, hce⟩ := (Hrd.out.kept hb).at (P := Try.prog) (T := 24) n cap uslice sone hkx hlk
          have hcl : c < s.length := by rw [← Hn.out]; exact hlk
          have hs200 : s.length ≤ 200 := by rw [← Hn.out]; omega
          have hst : tab (c + 1) (fun k => skV fxI (tlB s) f (k + 1)) = tab c (fun k => skV fxI (tlB s) f (k + 1)) ++ [skV fxI (tlB s) f (c + 1)] := tab_step c (fun k => skV fxI (tlB s) f (k + 1))
          have hbx : skB fxI (tlB s) f c = x := (skB_eq fxI (tlB s) f c).trans (tlB_at hkx _)
          have hbt := skB_in (nx := fxI) (f := f) HBB.out c hcl
          have hnv := (fxV_succ (tlB s) f c).trans (by rw [Int.mul_comm])
          obtain ⟨z1, z2⟩ := skV_in' fx_keeps f1 f2 HBB.out c (by omega) hs200
          generalize hnvv : skV fxI (tlB s) f (c + 1) = nz at *
          generalize skV fxI (tlB s) f c = z at *
          generalize skB fxI (tlB s) f c = bt at *
          have hp : bt * f = f ∨ bt * f = -f := by rcases hbt with h | h <;> (rw [h]; omega)
          have e1 : ∀ [Inhabited Unit], wrap64 (bt * f) = bt * f := IntWalk.wrap64_in _ (by omega)
          have e2 : ∀ [Inhabited Unit], wrap64 (z + bt * f) = nz := by rw [hnv]; exact IntWalk.wrap64_in _ (by omega)
          have e3 : ∀ [Inhabited Unit], z + bt * f = nz := hnv.symm
          have e4 : ∀ [Inhabited Unit], wrap64 nz = nz := IntWalk.wrap64_in _ (by omega)
          have Hbx := hid hbx.symm
          have Hnv := hid hnvv
          have Hst := hid hst
          have Hob := hid (ownsRow_base hown)
          have Hown := hid hown
          clear hkx hst hbx hbt hnv hnvv hp hown
          have hxb : bt = x := Hbx.out.symm
          subst hxb
          go_wp2_with (at_builtin; refine wpList_append_own _ rfl _ _ 24 rfl w.heap.size 3 i0 (.int .i64 0) 1 8 uslice hi0 hz0 hz1 hz2 rfl (by decide) _ _ _ rfl (Hown.out.alloc _) ⟨wr.heap.size, 0, none⟩ 1 1 [.int .i64 nz] rfl rfl (cell_one_new _ _ _) (by intro u hu; simp at hu; subst hu; rfl) (by unfold maxLen; omega) (by omega) (by simp; omega) ?_)
          intro v' w3 hown3 hgrow _
          have hb3 : Below w.heap.size w w3 := (hb.alloc hsz _).grown hgrow (by simp; omega) (fun j hj => Hob.out j hj)
          have Hown3 := hid hown3
          clear hown3 hgrow
          go_wp2
          go_roundw
          case rel => exact ⟨c + 1, _, by omega, rfl, by rw [Hnv.out], by go_num, by rw [Hst.out, List.map_append]; exact Hown3.out, hb3⟩
          case measure => simp [intOf]; omega
        · have hge : (n : Int) ≤ (c : Int) := by omega
          have hkn : c = s.length := by rw [← Hn.out]; omega
          have Hk := hid hkn
          have Hown := hid hown
          clear hkn hlk hown
          have ho := Hown.out
          rw [Hk.out] at ho
          have HR := hid (show Res 3 w.heap.size wr vv (tab s.length (fun k => skV fxI (tlB s) f (k + 1))) from Res.owns (by rw [tab_len]; exact ho))
          obtain ⟨b, hbq⟩ : ∃ b, sigB (tab s.length (fun k => skV fxI (tlB s) f (k + 1))) = b := ⟨_, rfl⟩
          have HBQ := hid hbq
          clear hbq ho
          go_wp2_with fail
          refine (wdIf_is _ _ b _ HR.out.sl HBQ.out).mono ?_
          rintro e w' ⟨rfl, rfl⟩
          go_wp2
          go_ret2
          exact gives_if (dL_t (dG_t HB0.out HB1.out) HBQ.out) HR.out hb

theorem cG_len {s : List Int} {f : Int} {D : Nat → Int} (hl : s.length ≤ 1048576) : (onL (cG s f) (tab s.length D)).length ≤ 2000000 := onL_len fun _ => by rw [tab_len]; omega
theorem dG_len {s : List Int} {b : Bool} {D : Nat → Int} (hl : s.length ≤ 1048576) : (onL b (tab s.length D)).length ≤ 2000000 := onL_len fun _ => by rw [tab_len]; omega


end Go.Proofs.Ythkfjoonkkmgiaa
