
import Derived.Test.YtbhlailnefappaaQs
namespace Go.Proofs.Ytbhlailnefappaa
open Go.RowKit BitX Go.MemX Go.Conc
set_option linter.unusedVariables false

set_option maxHeartbeats 1000000 in
theorem bitOf_0 (c1 c2 s1 r1 s2 r2 : Nat) (w : World) (hne : c1 ≠ c2) (h1 : w.heap[c1]? = some (.chan 1 #[.int .i64 1] false s1 r1 false)) (h2 : w.heap[c2]? = some (.chan 1 #[] false s2 r2 false)) :
    Calls Try.prog 89 #[.chan (some c1), .chan (some c2)] w fun e w' => e = .returned (.int .i64 (1)) ∧ w' = w.setChan c1 1 #[] false s1 (r1 + 1) false := by
  refine calls_of_wpN Try.func89 rfl ?_
  simp only [Try.ntmps89, List.size_toArray, List.length_cons, List.length_nil, Nat.reduceAdd, Nat.reduceSub, Array.replicate_succ,
     Array.replicate_zero, List.push_toArray, List.append_toArray, List.nil_append, List.cons_append]
  refine wpN_seq (wpN_of ?_)
  go_wp2
  refine wpN_seq (wpN_of ?_)
  go_wp2
  refine wpN_seq (wpN_region ?_)
  show opsN _ _ _ [0, 1, 2, 3] _ _
  refine opsN_select (j := 0) (c := c1) (z := .int .i64 0) (cases := #[rcase c1 (.int .i64 0), rcase c2 (.int .i64 0)]) (closed := false) rfl rfl (by simp [go_sem, execOp, rcase, Act.eval]) rfl ?_ h1 (by simp) ?_
  · intro m c' hm hc'
    rcases m with _ | _ | m
    · exact absurd rfl hm
    · simp only [List.getElem?_toArray, List.getElem?_cons_succ, List.getElem?_cons_zero, Option.some.injEq] at hc'
      subst hc'
      exact noWay_recv h2
    · simp at hc'
  · rw [res_rr0]
    refine opsN_val (.int .i64 0) rfl rfl (by simp [go_sem, execOp, Act.eval, Act.put, goInt]) ?_
    refine opsN_val (.bool true) rfl rfl (by simp [go_sem, execOp, Act.eval, Act.put]) ?_
    refine opsN_val (.bool false) rfl rfl (by simp [go_sem, execOp, Act.eval, Act.put]) ?_
    refine opsN_nil ?_
    simp only [Exit.then, Act.put, List.setIfInBounds_toArray]
    refine wpN_of ?_
    go_wp2
    go_ret
    exact ⟨rfl, by simp⟩

set_option maxHeartbeats 1000000 in
theorem bitOf_1 (c1 c2 s1 r1 s2 r2 : Nat) (w : World) (hne : c1 ≠ c2) (h1 : w.heap[c1]? = some (.chan 1 #[] false s1 r1 false)) (h2 : w.heap[c2]? = some (.chan 1 #[.int .i64 (-1)] false s2 r2 false)) :
    Calls Try.prog 89 #[.chan (some c1), .chan (some c2)] w fun e w' => e = .returned (.int .i64 (-1)) ∧ w' = w.setChan c2 1 #[] false s2 (r2 + 1) false := by
  refine calls_of_wpN Try.func89 rfl ?_
  simp only [Try.ntmps89, List.size_toArray, List.length_cons, List.length_nil, Nat.reduceAdd, Nat.reduceSub, Array.replicate_succ,
     Array.replicate_zero, List.push_toArray, List.append_toArray, List.nil_append, List.cons_append]
  refine wpN_seq (wpN_of ?_)
  go_wp2
  refine wpN_seq (wpN_of ?_)
  go_wp2
  refine wpN_seq (wpN_region ?_)
  show opsN _ _ _ [0, 1, 2, 3] _ _
  refine opsN_select (j := 1) (c := c2) (z := .int .i64 0) (cases := #[rcase c1 (.int .i64 0), rcase c2 (.int .i64 0)]) (closed := false) rfl rfl (by simp [go_sem, execOp, rcase, Act.eval]) rfl ?_ h2 (by simp) ?_
  · intro m c' hm hc'
    rcases m with _ | _ | m
    · simp only [List.getElem?_toArray, List.getElem?_cons_zero, Option.some.injEq] at hc'
      subst hc'
      exact noWay_recv h1
    · exact absurd rfl hm
    · simp at hc'
  · rw [res_rr1]
    refine opsN_val (.int .i64 1) rfl rfl (by simp [go_sem, execOp, Act.eval, Act.put, goInt]) ?_
    refine opsN_val (.bool false) rfl rfl (by simp [go_sem, execOp, Act.eval, Act.put]) ?_
    refine opsN_val (.bool true) rfl rfl (by simp [go_sem, execOp, Act.eval, Act.put]) ?_
    refine opsN_nil ?_
    simp only [Exit.then, Act.put, List.setIfInBounds_toArray]
    refine wpN_of ?_
    go_wp2
    go_ret
    exact ⟨rfl, by simp⟩
end Go.Proofs.Ytbhlailnefappaa
