
import Derived.Test.YtogffkgihjdbkaaFx
namespace Go.Proofs.Ytogffkgihjdbkaa
open Go.RowKit BitX Go.MemX
set_option linter.unusedVariables false


theorem IsWord_is (b : Int) (wr : Bool) (q : Bool) (w : World) (h : wordB b = q) :
    Calls Try.prog 49 #[.agg #[.int .i64 b, .bool wr]] w fun e w' => e = .returned (.bool q) ∧ Below w.heap.size w w' := by
  cases q
  · exact impl_IsWord_no b wr w (wordB_f h)
  · exact impl_IsWord_yes b wr w (wordB_t h).1 (wordB_t h).2
theorem areIn_isb (u : Value) (xs : List Int) (n : Nat) (wr : Bool) (q : Bool) (w : World) (hs : Sl w u xs) (n1 : 1 ≤ n) (n2 : n ≤ 16) (hl : xs.length ≤ 2000000) (hi : InP (-100000) 100000 xs) (h : inB n xs = q) :
    Calls Try.prog 50 #[.agg #[.int .i64 (n : Int), .bool wr], u] w fun e w' => e = .returned (.bool q) ∧ Below w.heap.size w w' := h ▸ areIn_is u xs n wr w hs n1 n2 hl hi
theorem isShift_isb (k : Int) (q : Bool) (w : World) (h : shB k = q) :
    Calls Try.prog 51 #[.int .i64 k] w fun e w' => e = .returned (.bool q) ∧ w = w' := h ▸ isShift_is k w
theorem isMode_isb (k : Int) (q : Bool) (w : World) (h : moB k = q) :
    Calls Try.prog 52 #[.int .i64 k] w fun e w' => e = .returned (.bool q) ∧ w = w' := h ▸ isMode_is k w


set_option maxHeartbeats 2000000 in
theorem canFilterIn_is (u v : Value) (h s : List Int) (b k mode : Int) (wr : Bool) (w : World) (hu : Sl w u h) (hv : Sl w v s) (hl : h.length ≤ 2000000) (hls : s.length ≤ 2000000) :
    Calls Try.prog 33 #[.agg #[.int .i64 b, .bool wr], u, v, .int .i64 k, .int .i64 mode] w fun e w' => e = .returned (.bool (fiB b h s k mode)) ∧ Below w.heap.size w w' := by
  cases h1 : wordB b
  · skip
    have HU := hid hu
    have HV := hid hv
    clear hu hv
    have H1 := hid h1
    clear h1
    go_enter Try.func33, Try.ntmps33
    go_wp2_with fail
    refine (IsWord_is _ _ _ _ H1.out).mono ?_
    rintro e w1 ⟨rfl, hb⟩
    have B1 := hb
    obtain ⟨ca1, cb1⟩ := box2_cells B1
    go_wp2_with fail
    go_ret
    exact ⟨ret_b (by simp [fiB, H1.out]), bel_step (bel_alloc _ _) B1⟩
  · skip
    obtain ⟨n, rfl, n1, n2⟩ := big_in h1
    cases h2 : wgtB h
    · skip
      have HU := hid hu
      have HV := hid hv
      clear hu hv
      have H1 := hid h1
      clear h1
      have H2 := hid h2
      clear h2
      go_enter Try.func33, Try.ntmps33
      go_wp2_with fail
      refine (IsWord_is _ _ _ _ H1.out).mono ?_
      rintro e w1 ⟨rfl, hb⟩
      have B1 := hb
      obtain ⟨ca1, cb1⟩ := box2_cells B1
      go_wp2_with fail
      refine (impl_IsWeights_is _ h _ _ (HU.out.kept (bel_step (bel_alloc _ _) B1)) H2.out).mono ?_
      rintro e w' ⟨rfl, rfl⟩
      go_wp2_with fail
      go_ret
      exact ⟨ret_b (by simp [fiB, H1.out, H2.out]), bel_step (bel_alloc _ _) B1⟩
    · skip
      cases h3 : sigB s
      · skip
        have HU := hid hu
        have HV := hid hv
        clear hu hv
        have H1 := hid h1
        clear h1
        have H2 := hid h2
        clear h2
        have H3 := hid h3
        clear h3
        go_enter Try.func33, Try.ntmps33
        go_wp2_with fail
        refine (IsWord_is _ _ _ _ H1.out).mono ?_
        rintro e w1 ⟨rfl, hb⟩
        have B1 := hb
        obtain ⟨ca1, cb1⟩ := box2_cells B1
        go_wp2_with fail
        refine (impl_IsWeights_is _ h _ _ (HU.out.kept (bel_step (bel_alloc _ _) B1)) H2.out).mono ?_
        rintro e w' ⟨rfl, rfl⟩
        go_wp2_with fail
        refine (impl_IsSignal_is _ s _ _ (HV.out.kept (bel_step (bel_alloc _ _) B1)) H3.out).mono ?_
        rintro e w' ⟨rfl, rfl⟩
        go_wp2_with fail
        go_ret
        exact ⟨ret_b (by simp [fiB, H1.out, H2.out, H3.out]), bel_step (bel_alloc _ _) B1⟩
      · skip
        cases h4 : inB n h
        · skip
          have HU := hid hu
          have HV := hid hv
          clear hu hv
          have HI := hid (show InP (-100000) 100000 h from fun x hx => by have := (wgtB_t h2).2 x hx; omega)
          have HJ := hid (show InP (-100000) 100000 s from (sigB_t h3).2)
          have H1 := hid h1
          clear h1
          have H2 := hid h2
          clear h2
          have H3 := hid h3
          clear h3
          have H4 := hid h4
          clear h4
          go_enter Try.func33, Try.ntmps33
          go_wp2_with fail
          refine (IsWord_is _ _ _ _ H1.out).mono ?_
          rintro e w1 ⟨rfl, hb⟩
          have B1 := hb
          obtain ⟨ca1, cb1⟩ := box2_cells B1
          go_wp2_with fail
          refine (impl_IsWeights_is _ h _ _ (HU.out.kept (bel_step (bel_alloc _ _) B1)) H2.out).mono ?_
          rintro e w' ⟨rfl, rfl⟩
          go_wp2_with fail
          refine (impl_IsSignal_is _ s _ _ (HV.out.kept (bel_step (bel_alloc _ _) B1)) H3.out).mono ?_
          rintro e w' ⟨rfl, rfl⟩
          go_wp2_with fail
          refine (areIn_isb _ h n wr _ _ (HU.out.kept (bel_step (bel_alloc _ _) B1)) (by omega) n2 hl (HI.out) H4.out).mono ?_
          rintro e w4 ⟨rfl, hb⟩
          have B4 := bel_step B1 hb
          obtain ⟨ca4, cb4⟩ := box2_cells B4
          go_wp2_with fail
          go_ret
          exact ⟨ret_b (by simp [fiB, H1.out, H2.out, H3.out, H4.out]), bel_step (bel_alloc _ _) B4⟩
        · skip
          cases h5 : inB n s
          · skip
            have HU := hid hu
            have HV := hid hv
            clear hu hv
            have HI := hid (show InP (-100000) 100000 h from fun x hx => by have := (wgtB_t h2).2 x hx; omega)
            have HJ := hid (show InP (-100000) 100000 s from (sigB_t h3).2)
            have H1 := hid h1
            clear h1
            have H2 := hid h2
            clear h2
            have H3 := hid h3
            clear h3
            have H4 := hid h4
            clear h4
            have H5 := hid h5
            clear h5
            go_enter Try.func33, Try.ntmps33
            go_wp2_with fail
            refine (IsWord_is _ _ _ _ H1.out).mono ?_
            rintro e w1 ⟨rfl, hb⟩
            have B1 := hb
            obtain ⟨ca1, cb1⟩ := box2_cells B1
            go_wp2_with fail
            refine (impl_IsWeights_is _ h _ _ (HU.out.kept (bel_step (bel_alloc _ _) B1)) H2.out).mono ?_
            rintro e w' ⟨rfl, rfl⟩
            go_wp2_with fail
            refine (impl_IsSignal_is _ s _ _ (HV.out.kept (bel_step (bel_alloc _ _) B1)) H3.out).mono ?_
            rintro e w' ⟨rfl, rfl⟩
            go_wp2_with fail
            refine (areIn_isb _ h n wr _ _ (HU.out.kept (bel_step (bel_alloc _ _) B1)) (by omega) n2 hl (HI.out) H4.out).mono ?_
            rintro e w4 ⟨rfl, hb⟩
            have B4 := bel_step B1 hb
            obtain ⟨ca4, cb4⟩ := box2_cells B4
            go_wp2_with fail
            refine (areIn_isb _ s n wr _ _ (HV.out.kept (bel_step (bel_alloc _ _) B4)) (by omega) n2 hls (HJ.out) H5.out).mono ?_
            rintro e w5 ⟨rfl, hb⟩
            have B5 := bel_step B4 hb
            obtain ⟨ca5, cb5⟩ := box2_cells B5
            go_wp2_with fail
            go_ret
            exact ⟨ret_b (by simp [fiB, H1.out, H2.out, H3.out, H4.out, H5.out]), bel_step (bel_alloc _ _) B5⟩
          · skip
            cases h6 : shB k
            · skip
              have HU := hid hu
              have HV := hid hv
              clear hu hv
              have HI := hid (show InP (-100000) 100000 h from fun x hx => by have := (wgtB_t h2).2 x hx; omega)
              have HJ := hid (show InP (-100000) 100000 s from (sigB_t h3).2)
              have H1 := hid h1
              clear h1
              have H2 := hid h2
              clear h2
              have H3 := hid h3
              clear h3
              have H4 := hid h4
              clear h4
              have H5 := hid h5
              clear h5
              have H6 := hid h6
              clear h6
              go_enter Try.func33, Try.ntmps33
              go_wp2_with fail
              refine (IsWord_is _ _ _ _ H1.out).mono ?_
              rintro e w1 ⟨rfl, hb⟩
              have B1 := hb
              obtain ⟨ca1, cb1⟩ := box2_cells B1
              go_wp2_with fail
              refine (impl_IsWeights_is _ h _ _ (HU.out.kept (bel_step (bel_alloc _ _) B1)) H2.out).mono ?_
              rintro e w' ⟨rfl, rfl⟩
              go_wp2_with fail
              refine (impl_IsSignal_is _ s _ _ (HV.out.kept (bel_step (bel_alloc _ _) B1)) H3.out).mono ?_
              rintro e w' ⟨rfl, rfl⟩
              go_wp2_with fail
              refine (areIn_isb _ h n wr _ _ (HU.out.kept (bel_step (bel_alloc _ _) B1)) (by omega) n2 hl (HI.out) H4.out).mono ?_
              rintro e w4 ⟨rfl, hb⟩
              have B4 := bel_step B1 hb
              obtain ⟨ca4, cb4⟩ := box2_cells B4
              go_wp2_with fail
              refine (areIn_isb _ s n wr _ _ (HV.out.kept (bel_step (bel_alloc _ _) B4)) (by omega) n2 hls (HJ.out) H5.out).mono ?_
              rintro e w5 ⟨rfl, hb⟩
              have B5 := bel_step B4 hb
              obtain ⟨ca5, cb5⟩ := box2_cells B5
              go_wp2_with fail
              refine (isShift_isb _ _ _ H6.out).mono ?_
              rintro e w' ⟨rfl, rfl⟩
              go_wp2_with fail
              go_ret
              exact ⟨ret_b (by simp [fiB, H1.out, H2.out, H3.out, H4.out, H5.out, H6.out]), bel_step (bel_alloc _ _) B5⟩
            · skip
              cases h7 : moB mode
              · skip
                have HU := hid hu
                have HV := hid hv
                clear hu hv
                have HI := hid (show InP (-100000) 100000 h from fun x hx => by have := (wgtB_t h2).2 x hx; omega)
                have HJ := hid (show InP (-100000) 100000 s from (sigB_t h3).2)
                have H1 := hid h1
                clear h1
                have H2 := hid h2
                clear h2
                have H3 := hid h3
                clear h3
                have H4 := hid h4
                clear h4
                have H5 := hid h5
                clear h5
                have H6 := hid h6
                clear h6
                have H7 := hid h7
                clear h7
                go_enter Try.func33, Try.ntmps33
                go_wp2_with fail
                refine (IsWord_is _ _ _ _ H1.out).mono ?_
                rintro e w1 ⟨rfl, hb⟩
                have B1 := hb
                obtain ⟨ca1, cb1⟩ := box2_cells B1
                go_wp2_with fail
                refine (impl_IsWeights_is _ h _ _ (HU.out.kept (bel_step (bel_alloc _ _) B1)) H2.out).mono ?_
                rintro e w' ⟨rfl, rfl⟩
                go_wp2_with fail
                refine (impl_IsSignal_is _ s _ _ (HV.out.kept (bel_step (bel_alloc _ _) B1)) H3.out).mono ?_
                rintro e w' ⟨rfl, rfl⟩
                go_wp2_with fail
                refine (areIn_isb _ h n wr _ _ (HU.out.kept (bel_step (bel_alloc _ _) B1)) (by omega) n2 hl (HI.out) H4.out).mono ?_
                rintro e w4 ⟨rfl, hb⟩
                have B4 := bel_step B1 hb
                obtain ⟨ca4, cb4⟩ := box2_cells B4
                go_wp2_with fail
                refine (areIn_isb _ s n wr _ _ (HV.out.kept (bel_step (bel_alloc _ _) B4)) (by omega) n2 hls (HJ.out) H5.out).mono ?_
                rintro e w5 ⟨rfl, hb⟩
                have B5 := bel_step B4 hb
                obtain ⟨ca5, cb5⟩ := box2_cells B5
                go_wp2_with fail
                refine (isShift_isb _ _ _ H6.out).mono ?_
                rintro e w' ⟨rfl, rfl⟩
                go_wp2_with fail
                refine (isMode_isb _ _ _ H7.out).mono ?_
                rintro e w' ⟨rfl, rfl⟩
                go_wp2_with fail
                go_ret
                exact ⟨ret_b (by simp [fiB, H1.out, H2.out, H3.out, H4.out, H5.out, H6.out, H7.out]), bel_step (bel_alloc _ _) B5⟩
              · skip
                have HU := hid hu
                have HV := hid hv
                clear hu hv
                have HI := hid (show InP (-100000) 100000 h from fun x hx => by have := (wgtB_t h2).2 x hx; omega)
                have HJ := hid (show InP (-100000) 100000 s from (sigB_t h3).2)
                have H1 := hid h1
                clear h1
                have H2 := hid h2
                clear h2
                have H3 := hid h3
                clear h3
                have H4 := hid h4
                clear h4
                have H5 := hid h5
                clear h5
                have H6 := hid h6
                clear h6
                have H7 := hid h7
                clear h7
                go_enter Try.func33, Try.ntmps33
                go_wp2_with fail
                refine (IsWord_is _ _ _ _ H1.out).mono ?_
                rintro e w1 ⟨rfl, hb⟩
                have B1 := hb
                obtain ⟨ca1, cb1⟩ := box2_cells B1
                go_wp2_with fail
                refine (impl_IsWeights_is _ h _ _ (HU.out.kept (bel_step (bel_alloc _ _) B1)) H2.out).mono ?_
                rintro e w' ⟨rfl, rfl⟩
                go_wp2_with fail
                refine (impl_IsSignal_is _ s _ _ (HV.out.kept (bel_step (bel_alloc _ _) B1)) H3.out).mono ?_
                rintro e w' ⟨rfl, rfl⟩
                go_wp2_with fail
                refine (areIn_isb _ h n wr _ _ (HU.out.kept (bel_step (bel_alloc _ _) B1)) (by omega) n2 hl (HI.out) H4.out).mono ?_
                rintro e w4 ⟨rfl, hb⟩
                have B4 := bel_step B1 hb
                obtain ⟨ca4, cb4⟩ := box2_cells B4
                go_wp2_with fail
                refine (areIn_isb _ s n wr _ _ (HV.out.kept (bel_step (bel_alloc _ _) B4)) (by omega) n2 hls (HJ.out) H5.out).mono ?_
                rintro e w5 ⟨rfl, hb⟩
                have B5 := bel_step B4 hb
                obtain ⟨ca5, cb5⟩ := box2_cells B5
                go_wp2_with fail
                refine (isShift_isb _ _ _ H6.out).mono ?_
                rintro e w' ⟨rfl, rfl⟩
                go_wp2_with fail
                refine (isMode_isb _ _ _ H7.out).mono ?_
                rintro e w' ⟨rfl, rfl⟩
                go_wp2_with fail
                go_ret
                exact ⟨ret_b (by simp [fiB, H1.out, H2.out, H3.out, H4.out, H5.out, H6.out, H7.out]), bel_step (bel_alloc _ _) B5⟩

end Go.Proofs.Ytogffkgihjdbkaa
