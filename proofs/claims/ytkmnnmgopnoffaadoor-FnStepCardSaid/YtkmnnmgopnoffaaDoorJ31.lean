/-
  FnStep, part 31 of 50 (DoneA).
-/
import Derived.Test.YtkmnnmgopnoffaaDoorJ29
import Derived.Test.YtkmnnmgopnoffaaDoorJ24

/-
  What IsDone and IsStuck answer, of whatever program, state and thread.
-/
namespace Go.Proofs.YtkmnnmgopnoffaaDoor
open Go.RowKit

def doneA (rows : List (List I3)) (m : V4) (k : Int) : Bool := if progOk rows && shapeOk m then (if 0 ≤ k ∧ k < 3 then doneM rows m k.toNat else false) else false
def doneC (rows : List (List I3)) (m : V4) (k : Int) : Int := if progOk rows && shapeOk m then (if 0 ≤ k ∧ k < 3 then 0 else 4) else 1
def stuckA (rows : List (List I3)) (m : V4) : Bool := if progOk rows && shapeOk m then stuckM rows m else false
def stuckC (rows : List (List I3)) (m : V4) : Int := if progOk rows && shapeOk m then 0 else 1
theorem both_ok {rows : List (List I3)} {m : V4} (h : (progOk rows && shapeOk m) = true) : progOk rows = true ∧ shapeOk m = true := by simpa using h

theorem specIsDone_is (a : Option Addr) (len cap : Nat) (rows : List (List I3)) (s : S4) (m : V4) (k : Int) (w : World) (hC : Codes w a len cap rows) (h : Vmem w s m) :
    Calls Tryd.prog 41 #[.agg #[.slice a len cap], s.val, .int .i64 k] w fun e w' => e = .returned (.tuple #[.bool (doneA rows m k), .int .i64 (doneC rows m k)]) ∧ Below w.heap.size w w' := by
  unfold doneA doneC
  cases hok : (progOk rows && shapeOk m)
  · exact specIsDone_bad a len cap rows s m k w hC h hok
  · obtain ⟨hp, hs⟩ := both_ok hok
    by_cases hk : 0 ≤ k ∧ k < 3
    · obtain ⟨n, rfl⟩ : ∃ n : Nat, k = n := ⟨k.toNat, by omega⟩
      simp only [hk, if_true, Int.toNat_natCast, and_self]
      exact specIsDone_ok a len cap rows s m n w hC h hp hs (by omega)
    · simp only [hk, if_true, if_false]
      exact specIsDone_range a len cap rows s m k w hC h hp hs (by omega)
theorem implIsDone_is (a : Option Addr) (len cap : Nat) (rows : List (List I3)) (s : S4) (m : V4) (k : Int) (w : World) (hC : Codes w a len cap rows) (h : Vmem w s m) (hV : VmShape w) :
    Calls Tryd.prog 18 #[.agg #[.slice a len cap], s.val, .int .i64 k] w fun e w' => e = .returned (.tuple #[.bool (doneA rows m k), .int .i64 (doneC rows m k)]) ∧ Below w.heap.size w w' := by
  unfold doneA doneC
  cases hok : (progOk rows && shapeOk m)
  · exact implIsDone_bad a len cap rows s m k w hC h hV hok
  · obtain ⟨hp, hs⟩ := both_ok hok
    by_cases hk : 0 ≤ k ∧ k < 3
    · obtain ⟨n, rfl⟩ : ∃ n : Nat, k = n := ⟨k.toNat, by omega⟩
      simp only [hk, if_true, Int.toNat_natCast, and_self]
      exact implIsDone_ok a len cap rows s m n w hC h hV hp hs (by omega)
    · simp only [hk, if_true, if_false]
      exact implIsDone_range a len cap rows s m k w hC h hV hp hs (by omega)
theorem specIsStuck_is (a : Option Addr) (len cap : Nat) (rows : List (List I3)) (s : S4) (m : V4) (w : World) (hC : Codes w a len cap rows) (h : Vmem w s m) :
    Calls Tryd.prog 25 #[.agg #[.slice a len cap], s.val] w fun e w' => e = .returned (.tuple #[.bool (stuckA rows m), .int .i64 (stuckC rows m)]) ∧ Below w.heap.size w w' := by
  unfold stuckA stuckC
  cases hok : (progOk rows && shapeOk m)
  · exact specIsStuck_bad a len cap rows s m w hC h hok
  · obtain ⟨hp, hs⟩ := both_ok hok
    exact specIsStuck_ok a len cap rows s m w hC h hp hs
theorem implIsStuck_is (a : Option Addr) (len cap : Nat) (rows : List (List I3)) (s : S4) (m : V4) (w : World) (hC : Codes w a len cap rows) (h : Vmem w s m) (hV : VmShape w) :
    Calls Tryd.prog 24 #[.agg #[.slice a len cap], s.val] w fun e w' => e = .returned (.tuple #[.bool (stuckA rows m), .int .i64 (stuckC rows m)]) ∧ Below w.heap.size w w' := by
  unfold stuckA stuckC
  cases hok : (progOk rows && shapeOk m)
  · exact implIsStuck_bad a len cap rows s m w hC h hV hok
  · obtain ⟨hp, hs⟩ := both_ok hok
    exact implIsStuck_ok a len cap rows s m w hC h hV hp hs
end Go.Proofs.YtkmnnmgopnoffaaDoor
