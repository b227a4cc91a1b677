
import Derived.Test.YtcaoomcmfckhcaaOh
namespace Go.Proofs.Ytcaoomcmfckhcaa
open Go.RowKit BitX Go.MemX Go.ShX
set_option linter.unusedVariables false


set_option maxHeartbeats 1600000 in
theorem walk_FnExactExactFirst (w : World) (a k mode b : Int) (wr : Bool) (wa : (Lit.int .i64 a).wf = true) (wk : (Lit.int .i64 k).wf = true) (wm : (Lit.int .i64 mode).wf = true) (wb : (Lit.int .i64 b).wf = true) (y : Int) (w_y : (Lit.int .i64 y).wf = true) (u_s : Option Addr) (l_s c_s : Nat) (z_s : List Int) (hr_s : IsRow .i64 w u_s l_s c_s z_s) :
    Calls Try.prog 8 #[.agg #[.int .i64 a, .int .i64 k, .int .i64 mode, .int .i64 b, .bool wr], .int .i64 y, .slice u_s l_s c_s] w fun e w' => e = .returned (.bool true) ∧ Below w.heap.size w w' := by
  obtain ⟨hs_s, hlen_s, hin_s⟩ := hr_s.sl
  generalize z_s.take l_s = s at hs_s hlen_s hin_s
  clear hr_s
  obtain ⟨y_1, y_2⟩ := bounds_i64 w_y
  by_cases hbig_s : 1048576 < l_s
  · clear hs_s hlen_s hin_s
    go_enter Try.func8, Try.ntmps8
    go_wp2
    go_ret
    exact ⟨rfl, bel_alloc _ _⟩
  · have hq_s : l_s ≤ 1048576 := by omega
    exact gen_FnExactExactFirst a k mode b wr y s _ _ _ (exL a k mode b y s) (exR a k mode b y s) w hs_s (by omega) (by omega) (exL_len _ _ _ _ _ _ (by omega)) (fun w v_s h_s => spec_ExactFirst_is _ _ _ _ _ _ v_s s w h_s y_1 y_2) (fun w v_s h_s => impl_ExactFirst_is _ _ _ _ _ _ v_s s w h_s y_1 y_2)

end Go.Proofs.Ytcaoomcmfckhcaa
