/-
  FnStep, part 29 of 50 (MachX).
-/
import Derived.Test.YtkmnnmgopnoffaaDoorJ21
import Derived.Test.YtkmnnmgopnoffaaDoorJ22

/-
  threadAt; the program's IsDone, EnabledOf, IsStuck.
-/
set_option linter.unusedVariables false
namespace Go.Proofs.YtkmnnmgopnoffaaDoor
open Go.RowKit


theorem isThreadX (n : Int) (w : World) : Calls Tryd.prog 88 #[.int .i64 n] w fun e w' => e = .returned (.bool (inB n 0 2)) ∧ w = w' := by
  cases h : inB n 0 2
  · rw [inB_false] at h
    by_cases h1 : 0 ≤ n
    · have h2 : decide (n < 3) = false := by simp; omega
      clear h
      go_enter Tryd.func88, Tryd.ntmps88
      go_wp2
      go_ret
      exact ⟨rfl, rfl⟩
    · clear h
      go_enter Tryd.func88, Tryd.ntmps88
      go_wp2
      go_ret
      exact ⟨rfl, rfl⟩
  · rw [inB_true] at h
    obtain ⟨h1, h3⟩ := h
    have h2 : decide (n < 3) = true := by simp; omega
    clear h3
    go_enter Tryd.func88, Tryd.ntmps88
    go_wp2
    go_ret
    exact ⟨by simp_all, rfl⟩

set_option maxHeartbeats 4000000 in
set_option maxRecDepth 100000 in
theorem threadAt_bad (a : Option Addr) (len cap : Nat) (rows : List (List I3)) (s : S4) (m : V4) (k : Int) (w : World) (hC : Codes w a len cap rows) (h : Vmem w s m) (hV : VmShape w) (hok : (progOk rows && shapeOk m) = false) :
    Calls Tryd.prog 59 #[.agg #[.slice a len cap], s.val, .int .i64 k] w fun e w' => e = .returned (.tuple #[.agg #[.slice none 0 0, .int .i64 0, .int .i64 0, .int .i64 0, .slice none 0 0, .int .i64 0, .int .i64 0, .int .i64 0, .slice none 0 0, .int .i64 0, .int .i64 0, .int .i64 0, .int .i64 0, .int .i64 0, .int .i64 0, .int .i64 0, .int .i64 0, .int .i64 0], .int .i64 1]) ∧ Below w.heap.size w w' := by
  have hM := fun (W : World) (hb : Below w.heap.size w W) => h.below hb
  have kM := fun w hC h hV => machineOf_bad a len cap rows s m w hC h hV hok
  obtain ⟨⟨a0, n0, c0⟩, ⟨a1, n1, c1⟩, ⟨a2, n2, c2⟩, ⟨a3, n3, c3⟩⟩ := s
  have uA : S4.val ((a0, n0, c0), (a1, n1, c1), (a2, n2, c2), (a3, n3, c3)) = .agg #[.slice a0 n0 c0, .slice a1 n1 c1, .slice a2 n2 c2, .slice a3 n3 c3] := rfl
  rw [uA] at kM ⊢
  clear uA h
  have bw : Below w.heap.size w (((w.alloc (.cells #[.slice a len cap] 25)).alloc (.cells #[.slice a0 n0 c0, .slice a1 n1 c1, .slice a2 n2 c2, .slice a3 n3 c3] 29)).alloc (.cells #[.slice none 0 0, .int .i64 0, .int .i64 0, .int .i64 0, .slice none 0 0, .int .i64 0, .int .i64 0, .int .i64 0, .slice none 0 0, .int .i64 0, .int .i64 0, .int .i64 0, .int .i64 0, .int .i64 0, .int .i64 0, .int .i64 0, .int .i64 0, .int .i64 0] 94)) := by go_grown
  have pR : Blk (((w.alloc (.cells #[.slice a len cap] 25)).alloc (.cells #[.slice a0 n0 c0, .slice a1 n1 c1, .slice a2 n2 c2, .slice a3 n3 c3] 29)).alloc (.cells #[.slice none 0 0, .int .i64 0, .int .i64 0, .int .i64 0, .slice none 0 0, .int .i64 0, .int .i64 0, .int .i64 0, .slice none 0 0, .int .i64 0, .int .i64 0, .int .i64 0, .int .i64 0, .int .i64 0, .int .i64 0, .int .i64 0, .int .i64 0, .int .i64 0] 94)) (w.heap.size + 1 + 1) 94 [.slice none 0 0, .int .i64 0, .int .i64 0, .int .i64 0, .slice none 0 0, .int .i64 0, .int .i64 0, .int .i64 0, .slice none 0 0, .int .i64 0, .int .i64 0, .int .i64 0, .int .i64 0, .int .i64 0, .int .i64 0, .int .i64 0, .int .i64 0, .int .i64 0] := blkAt _ _ _ (by simp)
  go_enter Tryd.func59, Tryd.ntmps59
  go_wp2_with fail
  refine (kM _ (hC.below bw) (hM _ bw) (hV.below bw)).mono ?_
  rintro e w1 ⟨rfl, hb⟩
  replace bw := bel_trans bw hb
  replace pR := pR.below hb
  have hlR := pR.lt
  have hg1 : w.heap.size < w1.heap.size := Nat.lt_of_lt_of_le (by simp; omega) hb.size
  clear hb kM hM hV hC
  have pN := Blk.new w1 94 [.slice none 0 0, .int .i64 0, .int .i64 0, .int .i64 0, .slice none 0 0, .int .i64 0, .int .i64 0, .int .i64 0, .slice none 0 0, .int .i64 0, .int .i64 0, .int .i64 0, .int .i64 0, .int .i64 0, .int .i64 0, .int .i64 0, .int .i64 0, .int .i64 0]
  have bN : Below w1.heap.size w1 (w1.alloc (.cells #[.slice none 0 0, .int .i64 0, .int .i64 0, .int .i64 0, .slice none 0 0, .int .i64 0, .int .i64 0, .int .i64 0, .slice none 0 0, .int .i64 0, .int .i64 0, .int .i64 0, .int .i64 0, .int .i64 0, .int .i64 0, .int .i64 0, .int .i64 0, .int .i64 0] 94)) := by go_grown
  go_wp2_with (refine wpList_store_blk rfl 94 _ _ rfl w1.heap.size [.slice none 0 0, .int .i64 0, .int .i64 0, .int .i64 0, .slice none 0 0, .int .i64 0, .int .i64 0, .int .i64 0, .slice none 0 0, .int .i64 0, .int .i64 0, .int .i64 0, .int .i64 0, .int .i64 0, .int .i64 0, .int .i64 0, .int .i64 0, .int .i64 0] rfl rfl pN (by kernel_rfl) rfl rfl ?_)
  intro w2 pM g2
  replace pR := (pR.below bN).kept g2 (by simp; omega)
  replace bw := (bel_trans bw bN).grown g2 (by simp; omega) (fun x hx => by cases hx; omega)
  clear g2 bN pN
  generalize w1.heap.size = gM at *
  go_wp2_with (first | refine wpList_load_blk rfl 94 _ rfl gM rfl pM.out _ Tryd.underlying94 rfl (by kernel_rfl) ?_ | refine wpList_store_blk rfl 94 _ _ rfl (w.heap.size + 1 + 1) [.slice none 0 0, .int .i64 0, .int .i64 0, .int .i64 0, .slice none 0 0, .int .i64 0, .int .i64 0, .int .i64 0, .slice none 0 0, .int .i64 0, .int .i64 0, .int .i64 0, .int .i64 0, .int .i64 0, .int .i64 0, .int .i64 0, .int .i64 0, .int .i64 0] rfl rfl pR (by kernel_rfl) rfl rfl ?_)
  intro w3 pR3 g3
  replace bw := bw.grown g3 bw.size (fun x hx => by cases hx; omega)
  clear g3 pR pM
  go_wp2_with fail
  refine bodyPost_ret (results_blk2 Tryd.results59 _ _ _ _ _ _ rfl pR3.out Tryd.underlying94 rfl (by kernel_rfl)) rfl ?_
  exact ⟨rfl, bw⟩

set_option maxHeartbeats 4000000 in
set_option maxRecDepth 100000 in
theorem threadAt_range (a : Option Addr) (len cap : Nat) (rows : List (List I3)) (s : S4) (m : V4) (k : Int) (w : World) (hC : Codes w a len cap rows) (h : Vmem w s m) (hV : VmShape w) (hp : progOk rows = true) (hs : shapeOk m = true) (hk : k < 0 ∨ 3 ≤ k) :
    Calls Tryd.prog 59 #[.agg #[.slice a len cap], s.val, .int .i64 k] w fun e w' => e = .returned (.tuple #[.agg #[.slice none 0 0, .int .i64 0, .int .i64 0, .int .i64 0, .slice none 0 0, .int .i64 0, .int .i64 0, .int .i64 0, .slice none 0 0, .int .i64 0, .int .i64 0, .int .i64 0, .int .i64 0, .int .i64 0, .int .i64 0, .int .i64 0, .int .i64 0, .int .i64 0], .int .i64 4]) ∧ Below w.heap.size w w' := by
  have hM := fun (W : World) (hb : Below w.heap.size w W) => h.below hb
  have kM := fun w hC h hV => machineOf_ok a len cap rows s m w hC h hV hp hs
  obtain ⟨⟨a0, n0, c0⟩, ⟨a1, n1, c1⟩, ⟨a2, n2, c2⟩, ⟨a3, n3, c3⟩⟩ := s
  have uA : S4.val ((a0, n0, c0), (a1, n1, c1), (a2, n2, c2), (a3, n3, c3)) = .agg #[.slice a0 n0 c0, .slice a1 n1 c1, .slice a2 n2 c2, .slice a3 n3 c3] := rfl
  rw [uA] at kM ⊢
  clear uA h
  have bw : Below w.heap.size w (((w.alloc (.cells #[.slice a len cap] 25)).alloc (.cells #[.slice a0 n0 c0, .slice a1 n1 c1, .slice a2 n2 c2, .slice a3 n3 c3] 29)).alloc (.cells #[.slice none 0 0, .int .i64 0, .int .i64 0, .int .i64 0, .slice none 0 0, .int .i64 0, .int .i64 0, .int .i64 0, .slice none 0 0, .int .i64 0, .int .i64 0, .int .i64 0, .int .i64 0, .int .i64 0, .int .i64 0, .int .i64 0, .int .i64 0, .int .i64 0] 94)) := by go_grown
  have pR : Blk (((w.alloc (.cells #[.slice a len cap] 25)).alloc (.cells #[.slice a0 n0 c0, .slice a1 n1 c1, .slice a2 n2 c2, .slice a3 n3 c3] 29)).alloc (.cells #[.slice none 0 0, .int .i64 0, .int .i64 0, .int .i64 0, .slice none 0 0, .int .i64 0, .int .i64 0, .int .i64 0, .slice none 0 0, .int .i64 0, .int .i64 0, .int .i64 0, .int .i64 0, .int .i64 0, .int .i64 0, .int .i64 0, .int .i64 0, .int .i64 0] 94)) (w.heap.size + 1 + 1) 94 [.slice none 0 0, .int .i64 0, .int .i64 0, .int .i64 0, .slice none 0 0, .int .i64 0, .int .i64 0, .int .i64 0, .slice none 0 0, .int .i64 0, .int .i64 0, .int .i64 0, .int .i64 0, .int .i64 0, .int .i64 0, .int .i64 0, .int .i64 0, .int .i64 0] := blkAt _ _ _ (by simp)
  go_enter Tryd.func59, Tryd.ntmps59
  go_wp2_with fail
  refine (kM _ (hC.below bw) (hM _ bw) (hV.below bw)).mono ?_
  rintro e w1 ⟨⟨cs, rfl, HI⟩, hb⟩
  replace bw := bel_trans bw hb
  replace pR := pR.below hb
  have hlR := pR.lt
  have hg1 : w.heap.size < w1.heap.size := Nat.lt_of_lt_of_le (by simp; omega) hb.size
  clear hb kM hM hV hC
  have pN := Blk.new w1 94 [.slice none 0 0, .int .i64 0, .int .i64 0, .int .i64 0, .slice none 0 0, .int .i64 0, .int .i64 0, .int .i64 0, .slice none 0 0, .int .i64 0, .int .i64 0, .int .i64 0, .int .i64 0, .int .i64 0, .int .i64 0, .int .i64 0, .int .i64 0, .int .i64 0]
  have bN : Below w1.heap.size w1 (w1.alloc (.cells #[.slice none 0 0, .int .i64 0, .int .i64 0, .int .i64 0, .slice none 0 0, .int .i64 0, .int .i64 0, .int .i64 0, .slice none 0 0, .int .i64 0, .int .i64 0, .int .i64 0, .int .i64 0, .int .i64 0, .int .i64 0, .int .i64 0, .int .i64 0, .int .i64 0] 94)) := by go_grown
  go_wp2_with (refine wpList_store_blk rfl 94 _ _ rfl w1.heap.size (machCells cs.1.val cs.2.1.val cs.2.2.val m) rfl rfl pN (by kernel_rfl) rfl rfl ?_)
  intro w2 pM g2
  replace pR := (pR.below bN).kept g2 (by simp; omega)
  replace bw := (bel_trans bw bN).grown g2 (by simp; omega) (fun x hx => by cases hx; omega)
  clear g2 bN pN
  generalize w1.heap.size = gM at *
  have kT := isThreadX k
  rw [show inB k 0 2 = false from inB_false.2 (by omega)] at kT
  go_wp2_with fail
  refine (kT _).mono ?_
  rintro e w9 ⟨rfl, rfl⟩
  go_wp2_with (refine wpList_store_blk rfl 94 _ _ rfl (w.heap.size + 1 + 1) [.slice none 0 0, .int .i64 0, .int .i64 0, .int .i64 0, .slice none 0 0, .int .i64 0, .int .i64 0, .int .i64 0, .slice none 0 0, .int .i64 0, .int .i64 0, .int .i64 0, .int .i64 0, .int .i64 0, .int .i64 0, .int .i64 0, .int .i64 0, .int .i64 0] rfl rfl pR (by kernel_rfl) rfl rfl ?_)
  intro w3 pR3 g3
  replace bw := bw.grown g3 bw.size (fun x hx => by cases hx; omega)
  clear g3 pR pM
  go_wp2_with fail
  refine bodyPost_ret (results_blk2 Tryd.results59 _ _ _ _ _ _ rfl pR3.out Tryd.underlying94 rfl (by kernel_rfl)) rfl ?_
  exact ⟨rfl, bw⟩

set_option maxHeartbeats 4000000 in
set_option maxRecDepth 100000 in
theorem threadAt_ok (a : Option Addr) (len cap : Nat) (rows : List (List I3)) (s : S4) (m : V4) (k : Nat) (w : World) (hC : Codes w a len cap rows) (h : Vmem w s m) (hV : VmShape w) (hp : progOk rows = true) (hs : shapeOk m = true) (hk : k < 3) (cs : Sl × Sl × Sl) (hR : RowsAt w a cs rows) :
    Calls Tryd.prog 59 #[.agg #[.slice a len cap], s.val, .int .i64 k] w fun e w' => e = .returned (.tuple #[.agg (machCells cs.1.val cs.2.1.val cs.2.2.val m).toArray, .int .i64 0]) ∧ Below w.heap.size w w' := by
  have hM := fun (W : World) (hb : Below w.heap.size w W) => h.below hb
  have kM := fun w hC h hV => machineOf_ok a len cap rows s m w hC h hV hp hs
  obtain ⟨⟨a0, n0, c0⟩, ⟨a1, n1, c1⟩, ⟨a2, n2, c2⟩, ⟨a3, n3, c3⟩⟩ := s
  have uA : S4.val ((a0, n0, c0), (a1, n1, c1), (a2, n2, c2), (a3, n3, c3)) = .agg #[.slice a0 n0 c0, .slice a1 n1 c1, .slice a2 n2 c2, .slice a3 n3 c3] := rfl
  rw [uA] at kM ⊢
  clear uA h
  have bw : Below w.heap.size w (((w.alloc (.cells #[.slice a len cap] 25)).alloc (.cells #[.slice a0 n0 c0, .slice a1 n1 c1, .slice a2 n2 c2, .slice a3 n3 c3] 29)).alloc (.cells #[.slice none 0 0, .int .i64 0, .int .i64 0, .int .i64 0, .slice none 0 0, .int .i64 0, .int .i64 0, .int .i64 0, .slice none 0 0, .int .i64 0, .int .i64 0, .int .i64 0, .int .i64 0, .int .i64 0, .int .i64 0, .int .i64 0, .int .i64 0, .int .i64 0] 94)) := by go_grown
  have pR : Blk (((w.alloc (.cells #[.slice a len cap] 25)).alloc (.cells #[.slice a0 n0 c0, .slice a1 n1 c1, .slice a2 n2 c2, .slice a3 n3 c3] 29)).alloc (.cells #[.slice none 0 0, .int .i64 0, .int .i64 0, .int .i64 0, .slice none 0 0, .int .i64 0, .int .i64 0, .int .i64 0, .slice none 0 0, .int .i64 0, .int .i64 0, .int .i64 0, .int .i64 0, .int .i64 0, .int .i64 0, .int .i64 0, .int .i64 0, .int .i64 0] 94)) (w.heap.size + 1 + 1) 94 [.slice none 0 0, .int .i64 0, .int .i64 0, .int .i64 0, .slice none 0 0, .int .i64 0, .int .i64 0, .int .i64 0, .slice none 0 0, .int .i64 0, .int .i64 0, .int .i64 0, .int .i64 0, .int .i64 0, .int .i64 0, .int .i64 0, .int .i64 0, .int .i64 0] := blkAt _ _ _ (by simp)
  go_enter Tryd.func59, Tryd.ntmps59
  go_wp2_with fail
  refine (kM _ (hC.below bw) (hM _ bw) (hV.below bw)).mono ?_
  rintro e w1 ⟨⟨cs9, rfl, HI⟩, hb⟩
  obtain rfl := (hR.below bw).uniq HI
  replace bw := bel_trans bw hb
  replace pR := pR.below hb
  have hlR := pR.lt
  have hg1 : w.heap.size < w1.heap.size := Nat.lt_of_lt_of_le (by simp; omega) hb.size
  clear hb kM hM hV hC
  have pN := Blk.new w1 94 [.slice none 0 0, .int .i64 0, .int .i64 0, .int .i64 0, .slice none 0 0, .int .i64 0, .int .i64 0, .int .i64 0, .slice none 0 0, .int .i64 0, .int .i64 0, .int .i64 0, .int .i64 0, .int .i64 0, .int .i64 0, .int .i64 0, .int .i64 0, .int .i64 0]
  have bN : Below w1.heap.size w1 (w1.alloc (.cells #[.slice none 0 0, .int .i64 0, .int .i64 0, .int .i64 0, .slice none 0 0, .int .i64 0, .int .i64 0, .int .i64 0, .slice none 0 0, .int .i64 0, .int .i64 0, .int .i64 0, .int .i64 0, .int .i64 0, .int .i64 0, .int .i64 0, .int .i64 0, .int .i64 0] 94)) := by go_grown
  go_wp2_with (refine wpList_store_blk rfl 94 _ _ rfl w1.heap.size (machCells cs.1.val cs.2.1.val cs.2.2.val m) rfl rfl pN (by kernel_rfl) rfl rfl ?_)
  intro w2 pM g2
  replace pR := (pR.below bN).kept g2 (by simp; omega)
  replace bw := (bel_trans bw bN).grown g2 (by simp; omega) (fun x hx => by cases hx; omega)
  clear g2 bN pN
  generalize w1.heap.size = gM at *
  have hk3 : (k : Int) < 3 := by omega
  have kT := isThreadX k
  rw [show inB (k : Int) 0 2 = true from inB_true.2 (by omega)] at kT
  go_wp2_with fail
  refine (kT _).mono ?_
  rintro e w9 ⟨rfl, rfl⟩
  go_wp2_with (first | refine wpList_load_blk rfl 94 _ rfl gM rfl pM.out _ Tryd.underlying94 rfl (by kernel_rfl) ?_ | refine wpList_store_blk rfl 94 _ _ rfl (w.heap.size + 1 + 1) (machCells cs.1.val cs.2.1.val cs.2.2.val m) rfl rfl pR (by kernel_rfl) rfl rfl ?_)
  intro w3 pR3 g3
  replace bw := bw.grown g3 bw.size (fun x hx => by cases hx; omega)
  clear g3 pR pM
  go_wp2_with fail
  refine bodyPost_ret (results_blk2 Tryd.results59 _ _ _ _ _ _ rfl pR3.out Tryd.underlying94 rfl (by kernel_rfl)) rfl ?_
  exact ⟨rfl, bw⟩

set_option maxHeartbeats 4000000 in
set_option maxRecDepth 100000 in
theorem implIsDone_bad (a : Option Addr) (len cap : Nat) (rows : List (List I3)) (s : S4) (m : V4) (k : Int) (w : World) (hC : Codes w a len cap rows) (h : Vmem w s m) (hV : VmShape w) (hok : (progOk rows && shapeOk m) = false) :
    Calls Tryd.prog 18 #[.agg #[.slice a len cap], s.val, .int .i64 k] w fun e w' => e = .returned (.tuple #[.bool false, .int .i64 1]) ∧ Below w.heap.size w w' := by
  have hM := fun (W : World) (hb : Below w.heap.size w W) => h.below hb
  have kM := fun w hC h hV => threadAt_bad a len cap rows s m k w hC h hV hok
  obtain ⟨⟨a0, n0, c0⟩, ⟨a1, n1, c1⟩, ⟨a2, n2, c2⟩, ⟨a3, n3, c3⟩⟩ := s
  have uA : S4.val ((a0, n0, c0), (a1, n1, c1), (a2, n2, c2), (a3, n3, c3)) = .agg #[.slice a0 n0 c0, .slice a1 n1 c1, .slice a2 n2 c2, .slice a3 n3 c3] := rfl
  rw [uA] at kM ⊢
  clear uA h
  have bw : Below w.heap.size w ((w.alloc (.cells #[.slice a len cap] 25)).alloc (.cells #[.slice a0 n0 c0, .slice a1 n1 c1, .slice a2 n2 c2, .slice a3 n3 c3] 29)) := by go_grown
  go_enter Tryd.func18, Tryd.ntmps18
  go_wp2_with fail
  refine (kM _ (hC.below bw) (hM _ bw) (hV.below bw)).mono ?_
  rintro e w1 ⟨rfl, hb⟩
  replace bw := bel_trans bw hb
  skip
  skip
  have hg1 : w.heap.size < w1.heap.size := Nat.lt_of_lt_of_le (by simp; omega) hb.size
  clear hb kM hM hV hC
  have pN := Blk.new w1 94 [.slice none 0 0, .int .i64 0, .int .i64 0, .int .i64 0, .slice none 0 0, .int .i64 0, .int .i64 0, .int .i64 0, .slice none 0 0, .int .i64 0, .int .i64 0, .int .i64 0, .int .i64 0, .int .i64 0, .int .i64 0, .int .i64 0, .int .i64 0, .int .i64 0]
  have bN : Below w1.heap.size w1 (w1.alloc (.cells #[.slice none 0 0, .int .i64 0, .int .i64 0, .int .i64 0, .slice none 0 0, .int .i64 0, .int .i64 0, .int .i64 0, .slice none 0 0, .int .i64 0, .int .i64 0, .int .i64 0, .int .i64 0, .int .i64 0, .int .i64 0, .int .i64 0, .int .i64 0, .int .i64 0] 94)) := by go_grown
  go_wp2_with (refine wpList_store_blk rfl 94 _ _ rfl w1.heap.size [.slice none 0 0, .int .i64 0, .int .i64 0, .int .i64 0, .slice none 0 0, .int .i64 0, .int .i64 0, .int .i64 0, .slice none 0 0, .int .i64 0, .int .i64 0, .int .i64 0, .int .i64 0, .int .i64 0, .int .i64 0, .int .i64 0, .int .i64 0, .int .i64 0] rfl rfl pN (by kernel_rfl) rfl rfl ?_)
  intro w2 pM g2
  skip
  replace bw := (bel_trans bw bN).grown g2 (by simp; omega) (fun x hx => by cases hx; omega)
  clear g2 bN pN
  generalize w1.heap.size = gM at *
  go_wp2
  go_ret2
  exact ⟨rfl, bw⟩

set_option maxHeartbeats 4000000 in
set_option maxRecDepth 100000 in
theorem implIsDone_range (a : Option Addr) (len cap : Nat) (rows : List (List I3)) (s : S4) (m : V4) (k : Int) (w : World) (hC : Codes w a len cap rows) (h : Vmem w s m) (hV : VmShape w) (hp : progOk rows = true) (hs : shapeOk m = true) (hk : k < 0 ∨ 3 ≤ k) :
    Calls Tryd.prog 18 #[.agg #[.slice a len cap], s.val, .int .i64 k] w fun e w' => e = .returned (.tuple #[.bool false, .int .i64 4]) ∧ Below w.heap.size w w' := by
  have hM := fun (W : World) (hb : Below w.heap.size w W) => h.below hb
  have kM := fun w hC h hV => threadAt_range a len cap rows s m k w hC h hV hp hs hk
  obtain ⟨⟨a0, n0, c0⟩, ⟨a1, n1, c1⟩, ⟨a2, n2, c2⟩, ⟨a3, n3, c3⟩⟩ := s
  have uA : S4.val ((a0, n0, c0), (a1, n1, c1), (a2, n2, c2), (a3, n3, c3)) = .agg #[.slice a0 n0 c0, .slice a1 n1 c1, .slice a2 n2 c2, .slice a3 n3 c3] := rfl
  rw [uA] at kM ⊢
  clear uA h
  have bw : Below w.heap.size w ((w.alloc (.cells #[.slice a len cap] 25)).alloc (.cells #[.slice a0 n0 c0, .slice a1 n1 c1, .slice a2 n2 c2, .slice a3 n3 c3] 29)) := by go_grown
  go_enter Tryd.func18, Tryd.ntmps18
  go_wp2_with fail
  refine (kM _ (hC.below bw) (hM _ bw) (hV.below bw)).mono ?_
  rintro e w1 ⟨rfl, hb⟩
  replace bw := bel_trans bw hb
  skip
  skip
  have hg1 : w.heap.size < w1.heap.size := Nat.lt_of_lt_of_le (by simp; omega) hb.size
  clear hb kM hM hV hC
  have pN := Blk.new w1 94 [.slice none 0 0, .int .i64 0, .int .i64 0, .int .i64 0, .slice none 0 0, .int .i64 0, .int .i64 0, .int .i64 0, .slice none 0 0, .int .i64 0, .int .i64 0, .int .i64 0, .int .i64 0, .int .i64 0, .int .i64 0, .int .i64 0, .int .i64 0, .int .i64 0]
  have bN : Below w1.heap.size w1 (w1.alloc (.cells #[.slice none 0 0, .int .i64 0, .int .i64 0, .int .i64 0, .slice none 0 0, .int .i64 0, .int .i64 0, .int .i64 0, .slice none 0 0, .int .i64 0, .int .i64 0, .int .i64 0, .int .i64 0, .int .i64 0, .int .i64 0, .int .i64 0, .int .i64 0, .int .i64 0] 94)) := by go_grown
  go_wp2_with (refine wpList_store_blk rfl 94 _ _ rfl w1.heap.size [.slice none 0 0, .int .i64 0, .int .i64 0, .int .i64 0, .slice none 0 0, .int .i64 0, .int .i64 0, .int .i64 0, .slice none 0 0, .int .i64 0, .int .i64 0, .int .i64 0, .int .i64 0, .int .i64 0, .int .i64 0, .int .i64 0, .int .i64 0, .int .i64 0] rfl rfl pN (by kernel_rfl) rfl rfl ?_)
  intro w2 pM g2
  skip
  replace bw := (bel_trans bw bN).grown g2 (by simp; omega) (fun x hx => by cases hx; omega)
  clear g2 bN pN
  generalize w1.heap.size = gM at *
  go_wp2
  go_ret2
  exact ⟨rfl, bw⟩

set_option maxHeartbeats 4000000 in
set_option maxRecDepth 100000 in
theorem implIsDone_ok (a : Option Addr) (len cap : Nat) (rows : List (List I3)) (s : S4) (m : V4) (k : Nat) (w : World) (hC : Codes w a len cap rows) (h : Vmem w s m) (hV : VmShape w) (hp : progOk rows = true) (hs : shapeOk m = true) (hk : k < 3) :
    Calls Tryd.prog 18 #[.agg #[.slice a len cap], s.val, .int .i64 k] w fun e w' => e = .returned (.tuple #[.bool (doneM rows m k), .int .i64 0]) ∧ Below w.heap.size w w' := by
  obtain ⟨-, cs, hR⟩ := hC.rowsAt hp
  have hM := fun (W : World) (hb : Below w.heap.size w W) => h.below hb
  have kM := fun w hC h hV hR => threadAt_ok a len cap rows s m k w hC h hV hp hs hk cs hR
  obtain ⟨⟨a0, n0, c0⟩, ⟨a1, n1, c1⟩, ⟨a2, n2, c2⟩, ⟨a3, n3, c3⟩⟩ := s
  have uA : S4.val ((a0, n0, c0), (a1, n1, c1), (a2, n2, c2), (a3, n3, c3)) = .agg #[.slice a0 n0 c0, .slice a1 n1 c1, .slice a2 n2 c2, .slice a3 n3 c3] := rfl
  rw [uA] at kM ⊢
  clear uA h
  have bw : Below w.heap.size w ((w.alloc (.cells #[.slice a len cap] 25)).alloc (.cells #[.slice a0 n0 c0, .slice a1 n1 c1, .slice a2 n2 c2, .slice a3 n3 c3] 29)) := by go_grown
  go_enter Tryd.func18, Tryd.ntmps18
  go_wp2_with fail
  refine (kM _ (hC.below bw) (hM _ bw) (hV.below bw) (hR.below bw)).mono ?_
  rintro e w1 ⟨rfl, hb⟩
  replace bw := bel_trans bw hb
  skip
  skip
  have hg1 : w.heap.size < w1.heap.size := Nat.lt_of_lt_of_le (by simp; omega) hb.size
  clear hb kM hM hV hC
  have pN := Blk.new w1 94 [.slice none 0 0, .int .i64 0, .int .i64 0, .int .i64 0, .slice none 0 0, .int .i64 0, .int .i64 0, .int .i64 0, .slice none 0 0, .int .i64 0, .int .i64 0, .int .i64 0, .int .i64 0, .int .i64 0, .int .i64 0, .int .i64 0, .int .i64 0, .int .i64 0]
  have bN : Below w1.heap.size w1 (w1.alloc (.cells #[.slice none 0 0, .int .i64 0, .int .i64 0, .int .i64 0, .slice none 0 0, .int .i64 0, .int .i64 0, .int .i64 0, .slice none 0 0, .int .i64 0, .int .i64 0, .int .i64 0, .int .i64 0, .int .i64 0, .int .i64 0, .int .i64 0, .int .i64 0, .int .i64 0] 94)) := by go_grown
  go_wp2_with (refine wpList_store_blk rfl 94 _ _ rfl w1.heap.size (machCells cs.1.val cs.2.1.val cs.2.2.val m) rfl rfl pN (by kernel_rfl) rfl rfl ?_)
  intro w2 pM g2
  skip
  replace bw := (bel_trans bw bN).grown g2 (by simp; omega) (fun x hx => by cases hx; omega)
  clear g2 bN pN
  generalize w1.heap.size = gM at *
  have hMA := (hR.below bw).mach pM.out
  have kD := doneT_is hMA hk
  have hk3 : (k : Int) < 3 := by omega
  go_wp2_with fail
  refine kD.mono ?_
  rintro e w3 ⟨rfl, d, rfl⟩
  replace bw : Below w.heap.size w (w2.drewN d) := bel_trans bw (below_dN _)
  go_wp2
  go_ret2
  exact ⟨rfl, bw⟩

set_option maxHeartbeats 4000000 in
set_option maxRecDepth 100000 in
theorem implEnabledOf_bad (a : Option Addr) (len cap : Nat) (rows : List (List I3)) (s : S4) (m : V4)  (w : World) (hC : Codes w a len cap rows) (h : Vmem w s m) (hV : VmShape w) (hok : (progOk rows && shapeOk m) = false) :
    Calls Tryd.prog 17 #[.agg #[.slice a len cap], s.val] w fun e w' => e = .returned (.tuple #[.slice none 0 0, .int .i64 1]) ∧ Below w.heap.size w w' := by
  have hM := fun (W : World) (hb : Below w.heap.size w W) => h.below hb
  have kM := fun w hC h hV => machineOf_bad a len cap rows s m w hC h hV hok
  obtain ⟨⟨a0, n0, c0⟩, ⟨a1, n1, c1⟩, ⟨a2, n2, c2⟩, ⟨a3, n3, c3⟩⟩ := s
  have uA : S4.val ((a0, n0, c0), (a1, n1, c1), (a2, n2, c2), (a3, n3, c3)) = .agg #[.slice a0 n0 c0, .slice a1 n1 c1, .slice a2 n2 c2, .slice a3 n3 c3] := rfl
  rw [uA] at kM ⊢
  clear uA h
  have bw : Below w.heap.size w ((w.alloc (.cells #[.slice a len cap] 25)).alloc (.cells #[.slice a0 n0 c0, .slice a1 n1 c1, .slice a2 n2 c2, .slice a3 n3 c3] 29)) := by go_grown
  go_enter Tryd.func17, Tryd.ntmps17
  go_wp2_with fail
  refine (kM _ (hC.below bw) (hM _ bw) (hV.below bw)).mono ?_
  rintro e w1 ⟨rfl, hb⟩
  replace bw := bel_trans bw hb
  skip
  skip
  have hg1 : w.heap.size < w1.heap.size := Nat.lt_of_lt_of_le (by simp; omega) hb.size
  clear hb kM hM hV hC
  have pN := Blk.new w1 94 [.slice none 0 0, .int .i64 0, .int .i64 0, .int .i64 0, .slice none 0 0, .int .i64 0, .int .i64 0, .int .i64 0, .slice none 0 0, .int .i64 0, .int .i64 0, .int .i64 0, .int .i64 0, .int .i64 0, .int .i64 0, .int .i64 0, .int .i64 0, .int .i64 0]
  have bN : Below w1.heap.size w1 (w1.alloc (.cells #[.slice none 0 0, .int .i64 0, .int .i64 0, .int .i64 0, .slice none 0 0, .int .i64 0, .int .i64 0, .int .i64 0, .slice none 0 0, .int .i64 0, .int .i64 0, .int .i64 0, .int .i64 0, .int .i64 0, .int .i64 0, .int .i64 0, .int .i64 0, .int .i64 0] 94)) := by go_grown
  go_wp2_with (refine wpList_store_blk rfl 94 _ _ rfl w1.heap.size [.slice none 0 0, .int .i64 0, .int .i64 0, .int .i64 0, .slice none 0 0, .int .i64 0, .int .i64 0, .int .i64 0, .slice none 0 0, .int .i64 0, .int .i64 0, .int .i64 0, .int .i64 0, .int .i64 0, .int .i64 0, .int .i64 0, .int .i64 0, .int .i64 0] rfl rfl pN (by kernel_rfl) rfl rfl ?_)
  intro w2 pM g2
  skip
  replace bw := (bel_trans bw bN).grown g2 (by simp; omega) (fun x hx => by cases hx; omega)
  clear g2 bN pN
  generalize w1.heap.size = gM at *
  go_wp2
  go_ret2
  exact ⟨rfl, bw⟩

set_option maxHeartbeats 4000000 in
set_option maxRecDepth 100000 in
theorem implEnabledOf_ok (a : Option Addr) (len cap : Nat) (rows : List (List I3)) (s : S4) (m : V4)  (w : World) (hC : Codes w a len cap rows) (h : Vmem w s m) (hV : VmShape w) (hp : progOk rows = true) (hs : shapeOk m = true) :
    Calls Tryd.prog 17 #[.agg #[.slice a len cap], s.val] w fun e w' => (∃ s9 : Sl, e = .returned (.tuple #[.slice s9.1 s9.2.1 s9.2.2, .int .i64 0]) ∧ OwnI w' w.heap.size s9 (enabM rows m 3)) ∧ Below w.heap.size w w' := by
  obtain ⟨-, cs, hR⟩ := hC.rowsAt hp
  have hM := fun (W : World) (hb : Below w.heap.size w W) => h.below hb
  have kM := fun w hC h hV => machineOf_ok a len cap rows s m w hC h hV hp hs
  obtain ⟨⟨a0, n0, c0⟩, ⟨a1, n1, c1⟩, ⟨a2, n2, c2⟩, ⟨a3, n3, c3⟩⟩ := s
  have uA : S4.val ((a0, n0, c0), (a1, n1, c1), (a2, n2, c2), (a3, n3, c3)) = .agg #[.slice a0 n0 c0, .slice a1 n1 c1, .slice a2 n2 c2, .slice a3 n3 c3] := rfl
  rw [uA] at kM ⊢
  clear uA h
  have bw : Below w.heap.size w ((w.alloc (.cells #[.slice a len cap] 25)).alloc (.cells #[.slice a0 n0 c0, .slice a1 n1 c1, .slice a2 n2 c2, .slice a3 n3 c3] 29)) := by go_grown
  go_enter Tryd.func17, Tryd.ntmps17
  go_wp2_with fail
  refine (kM _ (hC.below bw) (hM _ bw) (hV.below bw)).mono ?_
  rintro e w1 ⟨⟨cs9, rfl, HI⟩, hb⟩
  obtain rfl := (hR.below bw).uniq HI
  replace bw := bel_trans bw hb
  skip
  skip
  have hg1 : w.heap.size < w1.heap.size := Nat.lt_of_lt_of_le (by simp; omega) hb.size
  clear hb kM hM hV hC
  have pN := Blk.new w1 94 [.slice none 0 0, .int .i64 0, .int .i64 0, .int .i64 0, .slice none 0 0, .int .i64 0, .int .i64 0, .int .i64 0, .slice none 0 0, .int .i64 0, .int .i64 0, .int .i64 0, .int .i64 0, .int .i64 0, .int .i64 0, .int .i64 0, .int .i64 0, .int .i64 0]
  have bN : Below w1.heap.size w1 (w1.alloc (.cells #[.slice none 0 0, .int .i64 0, .int .i64 0, .int .i64 0, .slice none 0 0, .int .i64 0, .int .i64 0, .int .i64 0, .slice none 0 0, .int .i64 0, .int .i64 0, .int .i64 0, .int .i64 0, .int .i64 0, .int .i64 0, .int .i64 0, .int .i64 0, .int .i64 0] 94)) := by go_grown
  go_wp2_with (refine wpList_store_blk rfl 94 _ _ rfl w1.heap.size (machCells cs.1.val cs.2.1.val cs.2.2.val m) rfl rfl pN (by kernel_rfl) rfl rfl ?_)
  intro w2 pM g2
  skip
  replace bw := (bel_trans bw bN).grown g2 (by simp; omega) (fun x hx => by cases hx; omega)
  clear g2 bN pN
  generalize w1.heap.size = gM at *
  have hMA := (hR.below bw).mach pM.out
  have kE := enabled_is gM cs rows m w2 hMA hp hs
  go_wp2_with fail
  refine kE.mono ?_
  rintro e w3 ⟨⟨⟨sa, sn, sc⟩, rfl, hO⟩, hb⟩
  have hO2 : OwnI w3 w.heap.size (sa, sn, sc) (enabM rows m 3) := own_lower hO bw.size
  replace bw := bel_trans bw hb
  simp only
  go_wp2
  go_ret2
  exact ⟨⟨(sa, sn, sc), rfl, hO2⟩, bw⟩

set_option maxHeartbeats 4000000 in
set_option maxRecDepth 100000 in
theorem implIsStuck_bad (a : Option Addr) (len cap : Nat) (rows : List (List I3)) (s : S4) (m : V4)  (w : World) (hC : Codes w a len cap rows) (h : Vmem w s m) (hV : VmShape w) (hok : (progOk rows && shapeOk m) = false) :
    Calls Tryd.prog 24 #[.agg #[.slice a len cap], s.val] w fun e w' => e = .returned (.tuple #[.bool false, .int .i64 1]) ∧ Below w.heap.size w w' := by
  have hM := fun (W : World) (hb : Below w.heap.size w W) => h.below hb
  have kM := fun w hC h hV => machineOf_bad a len cap rows s m w hC h hV hok
  obtain ⟨⟨a0, n0, c0⟩, ⟨a1, n1, c1⟩, ⟨a2, n2, c2⟩, ⟨a3, n3, c3⟩⟩ := s
  have uA : S4.val ((a0, n0, c0), (a1, n1, c1), (a2, n2, c2), (a3, n3, c3)) = .agg #[.slice a0 n0 c0, .slice a1 n1 c1, .slice a2 n2 c2, .slice a3 n3 c3] := rfl
  rw [uA] at kM ⊢
  clear uA h
  have bw : Below w.heap.size w ((w.alloc (.cells #[.slice a len cap] 25)).alloc (.cells #[.slice a0 n0 c0, .slice a1 n1 c1, .slice a2 n2 c2, .slice a3 n3 c3] 29)) := by go_grown
  go_enter Tryd.func24, Tryd.ntmps24
  go_wp2_with fail
  refine (kM _ (hC.below bw) (hM _ bw) (hV.below bw)).mono ?_
  rintro e w1 ⟨rfl, hb⟩
  replace bw := bel_trans bw hb
  skip
  skip
  have hg1 : w.heap.size < w1.heap.size := Nat.lt_of_lt_of_le (by simp; omega) hb.size
  clear hb kM hM hV hC
  have pN := Blk.new w1 94 [.slice none 0 0, .int .i64 0, .int .i64 0, .int .i64 0, .slice none 0 0, .int .i64 0, .int .i64 0, .int .i64 0, .slice none 0 0, .int .i64 0, .int .i64 0, .int .i64 0, .int .i64 0, .int .i64 0, .int .i64 0, .int .i64 0, .int .i64 0, .int .i64 0]
  have bN : Below w1.heap.size w1 (w1.alloc (.cells #[.slice none 0 0, .int .i64 0, .int .i64 0, .int .i64 0, .slice none 0 0, .int .i64 0, .int .i64 0, .int .i64 0, .slice none 0 0, .int .i64 0, .int .i64 0, .int .i64 0, .int .i64 0, .int .i64 0, .int .i64 0, .int .i64 0, .int .i64 0, .int .i64 0] 94)) := by go_grown
  go_wp2_with (refine wpList_store_blk rfl 94 _ _ rfl w1.heap.size [.slice none 0 0, .int .i64 0, .int .i64 0, .int .i64 0, .slice none 0 0, .int .i64 0, .int .i64 0, .int .i64 0, .slice none 0 0, .int .i64 0, .int .i64 0, .int .i64 0, .int .i64 0, .int .i64 0, .int .i64 0, .int .i64 0, .int .i64 0, .int .i64 0] rfl rfl pN (by kernel_rfl) rfl rfl ?_)
  intro w2 pM g2
  skip
  replace bw := (bel_trans bw bN).grown g2 (by simp; omega) (fun x hx => by cases hx; omega)
  clear g2 bN pN
  generalize w1.heap.size = gM at *
  go_wp2
  go_ret2
  exact ⟨rfl, bw⟩

set_option maxHeartbeats 4000000 in
set_option maxRecDepth 100000 in
theorem implIsStuck_ok (a : Option Addr) (len cap : Nat) (rows : List (List I3)) (s : S4) (m : V4)  (w : World) (hC : Codes w a len cap rows) (h : Vmem w s m) (hV : VmShape w) (hp : progOk rows = true) (hs : shapeOk m = true) :
    Calls Tryd.prog 24 #[.agg #[.slice a len cap], s.val] w fun e w' => e = .returned (.tuple #[.bool (stuckM rows m), .int .i64 0]) ∧ Below w.heap.size w w' := by
  obtain ⟨-, cs, hR⟩ := hC.rowsAt hp
  have hM := fun (W : World) (hb : Below w.heap.size w W) => h.below hb
  have kM := fun w hC h hV => machineOf_ok a len cap rows s m w hC h hV hp hs
  obtain ⟨⟨a0, n0, c0⟩, ⟨a1, n1, c1⟩, ⟨a2, n2, c2⟩, ⟨a3, n3, c3⟩⟩ := s
  have uA : S4.val ((a0, n0, c0), (a1, n1, c1), (a2, n2, c2), (a3, n3, c3)) = .agg #[.slice a0 n0 c0, .slice a1 n1 c1, .slice a2 n2 c2, .slice a3 n3 c3] := rfl
  rw [uA] at kM ⊢
  clear uA h
  have bw : Below w.heap.size w ((w.alloc (.cells #[.slice a len cap] 25)).alloc (.cells #[.slice a0 n0 c0, .slice a1 n1 c1, .slice a2 n2 c2, .slice a3 n3 c3] 29)) := by go_grown
  go_enter Tryd.func24, Tryd.ntmps24
  go_wp2_with fail
  refine (kM _ (hC.below bw) (hM _ bw) (hV.below bw)).mono ?_
  rintro e w1 ⟨⟨cs9, rfl, HI⟩, hb⟩
  obtain rfl := (hR.below bw).uniq HI
  replace bw := bel_trans bw hb
  skip
  skip
  have hg1 : w.heap.size < w1.heap.size := Nat.lt_of_lt_of_le (by simp; omega) hb.size
  clear hb kM hM hV hC
  have pN := Blk.new w1 94 [.slice none 0 0, .int .i64 0, .int .i64 0, .int .i64 0, .slice none 0 0, .int .i64 0, .int .i64 0, .int .i64 0, .slice none 0 0, .int .i64 0, .int .i64 0, .int .i64 0, .int .i64 0, .int .i64 0, .int .i64 0, .int .i64 0, .int .i64 0, .int .i64 0]
  have bN : Below w1.heap.size w1 (w1.alloc (.cells #[.slice none 0 0, .int .i64 0, .int .i64 0, .int .i64 0, .slice none 0 0, .int .i64 0, .int .i64 0, .int .i64 0, .slice none 0 0, .int .i64 0, .int .i64 0, .int .i64 0, .int .i64 0, .int .i64 0, .int .i64 0, .int .i64 0, .int .i64 0, .int .i64 0] 94)) := by go_grown
  go_wp2_with (refine wpList_store_blk rfl 94 _ _ rfl w1.heap.size (machCells cs.1.val cs.2.1.val cs.2.2.val m) rfl rfl pN (by kernel_rfl) rfl rfl ?_)
  intro w2 pM g2
  skip
  replace bw := (bel_trans bw bN).grown g2 (by simp; omega) (fun x hx => by cases hx; omega)
  clear g2 bN pN
  generalize w1.heap.size = gM at *
  have hMA := (hR.below bw).mach pM.out
  have kE := stuck_is gM cs rows m w2 hMA hp hs
  go_wp2_with fail
  refine kE.mono ?_
  rintro e w3 ⟨rfl, hb⟩
  replace bw := bel_trans bw hb
  go_wp2
  go_ret2
  exact ⟨rfl, bw⟩

end Go.Proofs.YtkmnnmgopnoffaaDoor
