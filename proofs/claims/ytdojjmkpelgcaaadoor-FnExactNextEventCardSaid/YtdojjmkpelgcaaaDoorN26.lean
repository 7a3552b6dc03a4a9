/-
  Joined: SpecE.
-/
import Derived.Test.YtdojjmkpelgcaaaDoorN23

namespace Go.Proofs.YtdojjmkpelgcaaaDoor
set_option maxRecDepth 100000
open Go.RowKit
set_option linter.unusedVariables false

set_option maxHeartbeats 4000000 in
theorem l03Ask_bad (a : Option Addr) (len cap : Nat) (rows : List (List I3)) (s : S4) (m : V4) (k : Int) (w : World) (hC : Codes w a len cap rows) (h : Vmem w s m) (hok : (progOk rows && shapeOk m) = false) :
  Calls Tryd.prog 42 #[.agg #[.slice a len cap], s.val, .int .i64 k] w fun e w' => e = .returned (.int .i64 1) ∧ Below w.heap.size w w' := by
 have kV := fun w hC h => specVmOK_is a len cap rows s m w hC h
 rw [hok] at kV
 have hM := fun (W : World) (hb : Below w.heap.size w W) => h.below hb
 obtain ⟨⟨a0, n0, c0⟩, ⟨a1, n1, c1⟩, ⟨a2, n2, c2⟩, ⟨a3, n3, c3⟩⟩ := s
 have uA : S4.val ((a0, n0, c0), (a1, n1, c1), (a2, n2, c2), (a3, n3, c3)) = .agg #[.slice a0 n0 c0, .slice a1 n1 c1, .slice a2 n2 c2, .slice a3 n3 c3] := rfl
 simp only [uA] at *
 clear uA h
 have bw : Below w.heap.size w ((w.alloc (.cells #[.slice a len cap] 25)).alloc (.cells #[.slice a0 n0 c0, .slice a1 n1 c1, .slice a2 n2 c2, .slice a3 n3 c3] 29)) := by go_grown
 have pP : Blk ((w.alloc (.cells #[.slice a len cap] 25)).alloc (.cells #[.slice a0 n0 c0, .slice a1 n1 c1, .slice a2 n2 c2, .slice a3 n3 c3] 29)) w.heap.size 25 [.slice a len cap] := blkOld _ (blkAt _ _ _ rfl)
 have pS : Blk ((w.alloc (.cells #[.slice a len cap] 25)).alloc (.cells #[.slice a0 n0 c0, .slice a1 n1 c1, .slice a2 n2 c2, .slice a3 n3 c3] 29)) (w.heap.size + 1) 29 [.slice a0 n0 c0, .slice a1 n1 c1, .slice a2 n2 c2, .slice a3 n3 c3] := blkAt _ _ _ (by simp)
 go_enter Tryd.func42, Tryd.ntmps42
 go_wp2_with fail
 refine (kV _ (hC.below bw) (hM _ bw)).mono ?_
 rintro e w1 ⟨rfl, hb⟩
 replace bw := bel_trans bw hb
 replace pP := pP.below hb
 replace pS := pS.below hb
 clear hb
 clear kV
 go_wp2
 go_ret
 exact ⟨rfl, bw⟩

set_option maxHeartbeats 4000000 in
theorem l03Ask_range (a : Option Addr) (len cap : Nat) (rows : List (List I3)) (s : S4) (m : V4) (k : Int) (w : World) (hC : Codes w a len cap rows) (h : Vmem w s m) (hp : progOk rows = true) (hs : shapeOk m = true) (hk : k < 0 ∨ 3 ≤ k) :
  Calls Tryd.prog 42 #[.agg #[.slice a len cap], s.val, .int .i64 k] w fun e w' => e = .returned (.int .i64 4) ∧ Below w.heap.size w w' := by
 have kV := fun w hC h => specVmOK_is a len cap rows s m w hC h
 rw [hp, hs] at kV
 have hM := fun (W : World) (hb : Below w.heap.size w W) => h.below hb
 obtain ⟨⟨a0, n0, c0⟩, ⟨a1, n1, c1⟩, ⟨a2, n2, c2⟩, ⟨a3, n3, c3⟩⟩ := s
 have uA : S4.val ((a0, n0, c0), (a1, n1, c1), (a2, n2, c2), (a3, n3, c3)) = .agg #[.slice a0 n0 c0, .slice a1 n1 c1, .slice a2 n2 c2, .slice a3 n3 c3] := rfl
 simp only [uA] at *
 clear uA h
 have bw : Below w.heap.size w ((w.alloc (.cells #[.slice a len cap] 25)).alloc (.cells #[.slice a0 n0 c0, .slice a1 n1 c1, .slice a2 n2 c2, .slice a3 n3 c3] 29)) := by go_grown
 have pP : Blk ((w.alloc (.cells #[.slice a len cap] 25)).alloc (.cells #[.slice a0 n0 c0, .slice a1 n1 c1, .slice a2 n2 c2, .slice a3 n3 c3] 29)) w.heap.size 25 [.slice a len cap] := blkOld _ (blkAt _ _ _ rfl)
 have pS : Blk ((w.alloc (.cells #[.slice a len cap] 25)).alloc (.cells #[.slice a0 n0 c0, .slice a1 n1 c1, .slice a2 n2 c2, .slice a3 n3 c3] 29)) (w.heap.size + 1) 29 [.slice a0 n0 c0, .slice a1 n1 c1, .slice a2 n2 c2, .slice a3 n3 c3] := blkAt _ _ _ (by simp)
 go_enter Tryd.func42, Tryd.ntmps42
 go_wp2_with fail
 refine (kV _ (hC.below bw) (hM _ bw)).mono ?_
 rintro e w1 ⟨rfl, hb⟩
 replace bw := bel_trans bw hb
 replace pP := pP.below hb
 replace pS := pS.below hb
 clear hb
 clear kV
 have kI := fun w => l01In_no k 0 2 w (by omega)
 go_wp2_with fail
 refine (kI _).mono ?_
 rintro e w2 ⟨rfl, rfl⟩
 go_wp2
 go_ret
 exact ⟨rfl, bw⟩

set_option maxHeartbeats 4000000 in
theorem l03Ask_ok (a : Option Addr) (len cap : Nat) (rows : List (List I3)) (s : S4) (m : V4) (k : Int) (w : World) (hC : Codes w a len cap rows) (h : Vmem w s m) (hp : progOk rows = true) (hs : shapeOk m = true) (hk : 0 ≤ k ∧ k < 3) :
  Calls Tryd.prog 42 #[.agg #[.slice a len cap], s.val, .int .i64 k] w fun e w' => e = .returned (.int .i64 0) ∧ Below w.heap.size w w' := by
 have kV := fun w hC h => specVmOK_is a len cap rows s m w hC h
 rw [hp, hs] at kV
 have hM := fun (W : World) (hb : Below w.heap.size w W) => h.below hb
 obtain ⟨⟨a0, n0, c0⟩, ⟨a1, n1, c1⟩, ⟨a2, n2, c2⟩, ⟨a3, n3, c3⟩⟩ := s
 have uA : S4.val ((a0, n0, c0), (a1, n1, c1), (a2, n2, c2), (a3, n3, c3)) = .agg #[.slice a0 n0 c0, .slice a1 n1 c1, .slice a2 n2 c2, .slice a3 n3 c3] := rfl
 simp only [uA] at *
 clear uA h
 have bw : Below w.heap.size w ((w.alloc (.cells #[.slice a len cap] 25)).alloc (.cells #[.slice a0 n0 c0, .slice a1 n1 c1, .slice a2 n2 c2, .slice a3 n3 c3] 29)) := by go_grown
 have pP : Blk ((w.alloc (.cells #[.slice a len cap] 25)).alloc (.cells #[.slice a0 n0 c0, .slice a1 n1 c1, .slice a2 n2 c2, .slice a3 n3 c3] 29)) w.heap.size 25 [.slice a len cap] := blkOld _ (blkAt _ _ _ rfl)
 have pS : Blk ((w.alloc (.cells #[.slice a len cap] 25)).alloc (.cells #[.slice a0 n0 c0, .slice a1 n1 c1, .slice a2 n2 c2, .slice a3 n3 c3] 29)) (w.heap.size + 1) 29 [.slice a0 n0 c0, .slice a1 n1 c1, .slice a2 n2 c2, .slice a3 n3 c3] := blkAt _ _ _ (by simp)
 go_enter Tryd.func42, Tryd.ntmps42
 go_wp2_with fail
 refine (kV _ (hC.below bw) (hM _ bw)).mono ?_
 rintro e w1 ⟨rfl, hb⟩
 replace bw := bel_trans bw hb
 replace pP := pP.below hb
 replace pS := pS.below hb
 clear hb
 clear kV
 have kI := fun w => l01In_yes k 0 2 w (by omega)
 go_wp2_with fail
 refine (kI _).mono ?_
 rintro e w2 ⟨rfl, rfl⟩
 go_wp2
 go_ret
 exact ⟨rfl, bw⟩

end Go.Proofs.YtdojjmkpelgcaaaDoor
