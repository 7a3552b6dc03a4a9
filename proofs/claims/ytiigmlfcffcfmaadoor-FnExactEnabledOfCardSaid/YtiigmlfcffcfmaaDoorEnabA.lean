
/-
  What EnabledOf answers, of whatever program and state.
-/
import Derived.Test.YtiigmlfcffcfmaaDoorDoneA
namespace Go.Proofs.YtiigmlfcffcfmaaDoor
open Go.RowKit

def enabA (rows : List (List I3)) (m : V4) : List Int := if progOk rows && shapeOk m then enabM rows m 3 else []
theorem enabA_len (rows : List (List I3)) (m : V4) : (enabA rows m).length ≤ 1048576 := by
  unfold enabA
  split
  · have := enabM_len rows m 3; omega
  · simp
theorem specEnabledOf_is (a : Option Addr) (len cap : Nat) (rows : List (List I3)) (s : S4) (m : V4) (w : World) (hC : Codes w a len cap rows) (h : Vmem w s m) :
    Calls Tryd.prog 36 #[.agg #[.slice a len cap], s.val] w fun e w' => (∃ t : Sl, e = .returned (.tuple #[.slice t.1 t.2.1 t.2.2, .int .i64 (stuckC rows m)]) ∧ Ints .i64 w' t.1 t.2.1 t.2.2 (enabA rows m)) ∧ Below w.heap.size w w' := by
  unfold stuckC enabA
  cases hok : (progOk rows && shapeOk m)
  · exact specEnabledOf_bad a len cap rows s m w hC h hok
  · obtain ⟨hp, hs⟩ := both_ok hok
    exact specEnabledOf_ok a len cap rows s m w hC h hp hs
theorem implEnabledOf_is (a : Option Addr) (len cap : Nat) (rows : List (List I3)) (s : S4) (m : V4) (w : World) (hC : Codes w a len cap rows) (h : Vmem w s m) (hV : VmShape w) :
    Calls Tryd.prog 18 #[.agg #[.slice a len cap], s.val] w fun e w' => (∃ t : Sl, e = .returned (.tuple #[.slice t.1 t.2.1 t.2.2, .int .i64 (stuckC rows m)]) ∧ OwnI w' w.heap.size t (enabA rows m)) ∧ Below w.heap.size w w' := by
  unfold stuckC enabA
  cases hok : (progOk rows && shapeOk m)
  · refine (implEnabledOf_bad a len cap rows s m w hC h hV hok).mono ?_
    rintro e w' ⟨rfl, hb⟩
    exact ⟨⟨(none, 0, 0), rfl, World.ownsRow_nil _ _ _ _⟩, hb⟩
  · obtain ⟨hp, hs⟩ := both_ok hok
    exact implEnabledOf_ok a len cap rows s m w hC h hV hp hs
end Go.Proofs.YtiigmlfcffcfmaaDoor
