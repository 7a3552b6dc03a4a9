/-
  Joined: NxtE.
-/
import Derived.Test.YtdojjmkpelgcaaaDoorX37
import Derived.Test.YtdojjmkpelgcaaaDoorX38

namespace Go.Proofs.YtdojjmkpelgcaaaDoor
set_option maxRecDepth 100000
open Go.RowKit
set_option linter.unusedVariables false
set_option linter.unusedSimpArgs false

def nxtC (rows : List (List I3)) (m : V4) (k : Int) : Int := if progOk rows && shapeOk m then (if 0 ≤ k ∧ k < 3 then (if doneM rows m k.toNat then 10 else 0) else 4) else 1
def nxtE (rows : List (List I3)) (m : V4) (k : Int) : I4 := if nxtC rows m k = 0 then eventM rows m k.toNat else (0, 0, 0, 0)

set_option maxHeartbeats 2000000 in
theorem implNextEvent_bad (a : Option Addr) (len cap : Nat) (rows : List (List I3)) (s : S4) (m : V4) (k : Int) (w : World) (hC : Codes w a len cap rows) (h : Vmem w s m) (hV : VmShape w) (hok : (progOk rows && shapeOk m) = false) :
  Calls Tryd.prog 12 #[.agg #[.slice a len cap], s.val, .int .i64 k] w fun e w' => e = .returned (.tuple #[.agg #[.int .i64 0, .int .i64 0, .int .i64 0, .int .i64 0], .int .i64 1]) ∧ Below w.heap.size w w' := by
 have hM := fun (W : World) (hb : Below w.heap.size w W) => h.below hb
 have kM := fun (W : World) (b : Below w.heap.size w W) => threadAt_bad a len cap rows s m k W (hC.below b) (hM W b) (hV.below b) hok
 obtain ⟨⟨a0, n0, c0⟩, ⟨a1, n1, c1⟩, ⟨a2, n2, c2⟩, ⟨a3, n3, c3⟩⟩ := s
 have uA : S4.val ((a0, n0, c0), (a1, n1, c1), (a2, n2, c2), (a3, n3, c3)) = .agg #[.slice a0 n0 c0, .slice a1 n1 c1, .slice a2 n2 c2, .slice a3 n3 c3] := rfl
 simp only [uA] at *
 clear uA h
 have bw : Below w.heap.size w (((w.alloc (.cells #[.slice a len cap] 25)).alloc (.cells #[.slice a0 n0 c0, .slice a1 n1 c1, .slice a2 n2 c2, .slice a3 n3 c3] 29)).alloc (.cells #[.int .i64 0, .int .i64 0, .int .i64 0, .int .i64 0] 33)) := by go_grown
 have pP : Blk (((w.alloc (.cells #[.slice a len cap] 25)).alloc (.cells #[.slice a0 n0 c0, .slice a1 n1 c1, .slice a2 n2 c2, .slice a3 n3 c3] 29)).alloc (.cells #[.int .i64 0, .int .i64 0, .int .i64 0, .int .i64 0] 33)) w.heap.size 25 [.slice a len cap] := blkOld _ (blkOld _ (blkAt _ _ _ rfl))
 have pS : Blk (((w.alloc (.cells #[.slice a len cap] 25)).alloc (.cells #[.slice a0 n0 c0, .slice a1 n1 c1, .slice a2 n2 c2, .slice a3 n3 c3] 29)).alloc (.cells #[.int .i64 0, .int .i64 0, .int .i64 0, .int .i64 0] 33)) (w.heap.size + 1) 29 [.slice a0 n0 c0, .slice a1 n1 c1, .slice a2 n2 c2, .slice a3 n3 c3] := blkOld _ (blkAt _ _ _ (by simp))
 have pR : Blk (((w.alloc (.cells #[.slice a len cap] 25)).alloc (.cells #[.slice a0 n0 c0, .slice a1 n1 c1, .slice a2 n2 c2, .slice a3 n3 c3] 29)).alloc (.cells #[.int .i64 0, .int .i64 0, .int .i64 0, .int .i64 0] 33)) (w.heap.size + 1 + 1) 33 [.int .i64 0, .int .i64 0, .int .i64 0, .int .i64 0] := blkAt _ _ _ (by simp)
 go_enter Tryd.func12, Tryd.ntmps12
 go_wp2_with (first | refine wpList_load_blk rfl 25 _ rfl w.heap.size rfl pP _ Tryd.underlying25 rfl (by kernel_rfl) ?_ | refine wpList_load_blk rfl 29 _ rfl (w.heap.size + 1) rfl pS _ Tryd.underlying29 rfl (by kernel_rfl) ?_)
 refine (kM _ bw).mono ?_
 rintro e w1 ⟨rfl, hb⟩
 replace bw := bel_trans bw hb
 replace pR := pR.below hb
 have hRl := pR.lt
 clear hb kM hM hV hC pP pS
 have pN := Blk.new w1 76 [.slice none 0 0, .int .i64 0, .int .i64 0, .int .i64 0, .slice none 0 0, .int .i64 0, .int .i64 0, .int .i64 0, .slice none 0 0, .int .i64 0, .int .i64 0, .int .i64 0, .int .i64 0, .int .i64 0, .int .i64 0, .int .i64 0, .int .i64 0, .int .i64 0]
 have bN : Below w1.heap.size w1 (w1.alloc (.cells #[.slice none 0 0, .int .i64 0, .int .i64 0, .int .i64 0, .slice none 0 0, .int .i64 0, .int .i64 0, .int .i64 0, .slice none 0 0, .int .i64 0, .int .i64 0, .int .i64 0, .int .i64 0, .int .i64 0, .int .i64 0, .int .i64 0, .int .i64 0, .int .i64 0] 76)) := by go_grown
 go_wp2_with (refine wpList_store_blk rfl 76 _ _ rfl w1.heap.size [.slice none 0 0, .int .i64 0, .int .i64 0, .int .i64 0, .slice none 0 0, .int .i64 0, .int .i64 0, .int .i64 0, .slice none 0 0, .int .i64 0, .int .i64 0, .int .i64 0, .int .i64 0, .int .i64 0, .int .i64 0, .int .i64 0, .int .i64 0, .int .i64 0] rfl rfl pN (by kernel_rfl) rfl rfl ?_)
 intro w2 pM g2
 have hb2 : Below w1.heap.size w1 w2 := bN.grown g2 bN.size (fun x hx => by cases hx; exact Nat.le_refl _)
 replace bw := bel_trans bw hb2
 replace pR := pR.below hb2
 clear g2 bN pN hb2 pM
 go_wp2_with (refine wpList_store_blk rfl 33 _ _ rfl (w.heap.size + 1 + 1) [.int .i64 0, .int .i64 0, .int .i64 0, .int .i64 0] rfl rfl pR (by kernel_rfl) rfl rfl ?_)
 intro w9 pR9 g9
 have b9 := bw.grown g9 bw.size (fun x hx => by cases hx; omega)
 go_wp2_with fail
 refine bodyPost_ret (results_blk2 Tryd.results12 _ _ _ _ _ _ rfl pR9.out Tryd.underlying33 rfl (by kernel_rfl)) rfl ?_
 exact ⟨rfl, b9⟩

set_option maxHeartbeats 2000000 in
theorem implNextEvent_range (a : Option Addr) (len cap : Nat) (rows : List (List I3)) (s : S4) (m : V4) (k : Int) (w : World) (hC : Codes w a len cap rows) (h : Vmem w s m) (hV : VmShape w) (hp : progOk rows = true) (hs : shapeOk m = true) (hk : k < 0 ∨ 3 ≤ k) :
  Calls Tryd.prog 12 #[.agg #[.slice a len cap], s.val, .int .i64 k] w fun e w' => e = .returned (.tuple #[.agg #[.int .i64 0, .int .i64 0, .int .i64 0, .int .i64 0], .int .i64 4]) ∧ Below w.heap.size w w' := by
 have hM := fun (W : World) (hb : Below w.heap.size w W) => h.below hb
 have kM := fun (W : World) (b : Below w.heap.size w W) => threadAt_range a len cap rows s m k W (hC.below b) (hM W b) (hV.below b) hp hs hk
 obtain ⟨⟨a0, n0, c0⟩, ⟨a1, n1, c1⟩, ⟨a2, n2, c2⟩, ⟨a3, n3, c3⟩⟩ := s
 have uA : S4.val ((a0, n0, c0), (a1, n1, c1), (a2, n2, c2), (a3, n3, c3)) = .agg #[.slice a0 n0 c0, .slice a1 n1 c1, .slice a2 n2 c2, .slice a3 n3 c3] := rfl
 simp only [uA] at *
 clear uA h
 have bw : Below w.heap.size w (((w.alloc (.cells #[.slice a len cap] 25)).alloc (.cells #[.slice a0 n0 c0, .slice a1 n1 c1, .slice a2 n2 c2, .slice a3 n3 c3] 29)).alloc (.cells #[.int .i64 0, .int .i64 0, .int .i64 0, .int .i64 0] 33)) := by go_grown
 have pP : Blk (((w.alloc (.cells #[.slice a len cap] 25)).alloc (.cells #[.slice a0 n0 c0, .slice a1 n1 c1, .slice a2 n2 c2, .slice a3 n3 c3] 29)).alloc (.cells #[.int .i64 0, .int .i64 0, .int .i64 0, .int .i64 0] 33)) w.heap.size 25 [.slice a len cap] := blkOld _ (blkOld _ (blkAt _ _ _ rfl))
 have pS : Blk (((w.alloc (.cells #[.slice a len cap] 25)).alloc (.cells #[.slice a0 n0 c0, .slice a1 n1 c1, .slice a2 n2 c2, .slice a3 n3 c3] 29)).alloc (.cells #[.int .i64 0, .int .i64 0, .int .i64 0, .int .i64 0] 33)) (w.heap.size + 1) 29 [.slice a0 n0 c0, .slice a1 n1 c1, .slice a2 n2 c2, .slice a3 n3 c3] := blkOld _ (blkAt _ _ _ (by simp))
 have pR : Blk (((w.alloc (.cells #[.slice a len cap] 25)).alloc (.cells #[.slice a0 n0 c0, .slice a1 n1 c1, .slice a2 n2 c2, .slice a3 n3 c3] 29)).alloc (.cells #[.int .i64 0, .int .i64 0, .int .i64 0, .int .i64 0] 33)) (w.heap.size + 1 + 1) 33 [.int .i64 0, .int .i64 0, .int .i64 0, .int .i64 0] := blkAt _ _ _ (by simp)
 go_enter Tryd.func12, Tryd.ntmps12
 go_wp2_with (first | refine wpList_load_blk rfl 25 _ rfl w.heap.size rfl pP _ Tryd.underlying25 rfl (by kernel_rfl) ?_ | refine wpList_load_blk rfl 29 _ rfl (w.heap.size + 1) rfl pS _ Tryd.underlying29 rfl (by kernel_rfl) ?_)
 refine (kM _ bw).mono ?_
 rintro e w1 ⟨rfl, hb⟩
 replace bw := bel_trans bw hb
 replace pR := pR.below hb
 have hRl := pR.lt
 clear hb kM hM hV hC pP pS
 have pN := Blk.new w1 76 [.slice none 0 0, .int .i64 0, .int .i64 0, .int .i64 0, .slice none 0 0, .int .i64 0, .int .i64 0, .int .i64 0, .slice none 0 0, .int .i64 0, .int .i64 0, .int .i64 0, .int .i64 0, .int .i64 0, .int .i64 0, .int .i64 0, .int .i64 0, .int .i64 0]
 have bN : Below w1.heap.size w1 (w1.alloc (.cells #[.slice none 0 0, .int .i64 0, .int .i64 0, .int .i64 0, .slice none 0 0, .int .i64 0, .int .i64 0, .int .i64 0, .slice none 0 0, .int .i64 0, .int .i64 0, .int .i64 0, .int .i64 0, .int .i64 0, .int .i64 0, .int .i64 0, .int .i64 0, .int .i64 0] 76)) := by go_grown
 go_wp2_with (refine wpList_store_blk rfl 76 _ _ rfl w1.heap.size [.slice none 0 0, .int .i64 0, .int .i64 0, .int .i64 0, .slice none 0 0, .int .i64 0, .int .i64 0, .int .i64 0, .slice none 0 0, .int .i64 0, .int .i64 0, .int .i64 0, .int .i64 0, .int .i64 0, .int .i64 0, .int .i64 0, .int .i64 0, .int .i64 0] rfl rfl pN (by kernel_rfl) rfl rfl ?_)
 intro w2 pM g2
 have hb2 : Below w1.heap.size w1 w2 := bN.grown g2 bN.size (fun x hx => by cases hx; exact Nat.le_refl _)
 replace bw := bel_trans bw hb2
 replace pR := pR.below hb2
 clear g2 bN pN hb2 pM
 go_wp2_with (refine wpList_store_blk rfl 33 _ _ rfl (w.heap.size + 1 + 1) [.int .i64 0, .int .i64 0, .int .i64 0, .int .i64 0] rfl rfl pR (by kernel_rfl) rfl rfl ?_)
 intro w9 pR9 g9
 have b9 := bw.grown g9 bw.size (fun x hx => by cases hx; omega)
 go_wp2_with fail
 refine bodyPost_ret (results_blk2 Tryd.results12 _ _ _ _ _ _ rfl pR9.out Tryd.underlying33 rfl (by kernel_rfl)) rfl ?_
 exact ⟨rfl, b9⟩

set_option maxHeartbeats 2000000 in
theorem implNextEvent_ok (a : Option Addr) (len cap : Nat) (rows : List (List I3)) (s : S4) (m : V4) (k : Nat) (w : World) (hC : Codes w a len cap rows) (h : Vmem w s m) (hV : VmShape w) (hp : progOk rows = true) (hs : shapeOk m = true) (hk : k < 3) (z : I4) (c9 : Int) (hz : (z, c9) = if doneM rows m k then ((0, 0, 0, 0), 10) else (eventM rows m k, 0)) :
  Calls Tryd.prog 12 #[.agg #[.slice a len cap], s.val, .int .i64 k] w fun e w' => e = .returned (.tuple #[.agg #[.int .i64 z.1, .int .i64 z.2.1, .int .i64 z.2.2.1, .int .i64 z.2.2.2], .int .i64 c9]) ∧ Below w.heap.size w w' := by
 obtain ⟨-, cs, hR⟩ := hC.rowsAt hp
 have HZ : Hid ((z, c9) = if doneM rows m k then ((0, 0, 0, 0), 10) else (eventM rows m k, 0)) := hz
 clear hz
 have hM := fun (W : World) (hb : Below w.heap.size w W) => h.below hb
 have kM := fun (W : World) (b : Below w.heap.size w W) => threadAt_ok a len cap rows s m k W (hC.below b) (hM W b) (hV.below b) hp hs hk cs (hR.below b)
 obtain ⟨⟨a0, n0, c0⟩, ⟨a1, n1, c1⟩, ⟨a2, n2, c2⟩, ⟨a3, n3, c3⟩⟩ := s
 have uA : S4.val ((a0, n0, c0), (a1, n1, c1), (a2, n2, c2), (a3, n3, c3)) = .agg #[.slice a0 n0 c0, .slice a1 n1 c1, .slice a2 n2 c2, .slice a3 n3 c3] := rfl
 simp only [uA] at *
 clear uA h
 have bw : Below w.heap.size w (((w.alloc (.cells #[.slice a len cap] 25)).alloc (.cells #[.slice a0 n0 c0, .slice a1 n1 c1, .slice a2 n2 c2, .slice a3 n3 c3] 29)).alloc (.cells #[.int .i64 0, .int .i64 0, .int .i64 0, .int .i64 0] 33)) := by go_grown
 have pP : Blk (((w.alloc (.cells #[.slice a len cap] 25)).alloc (.cells #[.slice a0 n0 c0, .slice a1 n1 c1, .slice a2 n2 c2, .slice a3 n3 c3] 29)).alloc (.cells #[.int .i64 0, .int .i64 0, .int .i64 0, .int .i64 0] 33)) w.heap.size 25 [.slice a len cap] := blkOld _ (blkOld _ (blkAt _ _ _ rfl))
 have pS : Blk (((w.alloc (.cells #[.slice a len cap] 25)).alloc (.cells #[.slice a0 n0 c0, .slice a1 n1 c1, .slice a2 n2 c2, .slice a3 n3 c3] 29)).alloc (.cells #[.int .i64 0, .int .i64 0, .int .i64 0, .int .i64 0] 33)) (w.heap.size + 1) 29 [.slice a0 n0 c0, .slice a1 n1 c1, .slice a2 n2 c2, .slice a3 n3 c3] := blkOld _ (blkAt _ _ _ (by simp))
 have pR : Blk (((w.alloc (.cells #[.slice a len cap] 25)).alloc (.cells #[.slice a0 n0 c0, .slice a1 n1 c1, .slice a2 n2 c2, .slice a3 n3 c3] 29)).alloc (.cells #[.int .i64 0, .int .i64 0, .int .i64 0, .int .i64 0] 33)) (w.heap.size + 1 + 1) 33 [.int .i64 0, .int .i64 0, .int .i64 0, .int .i64 0] := blkAt _ _ _ (by simp)
 go_enter Tryd.func12, Tryd.ntmps12
 go_wp2_with (first | refine wpList_load_blk rfl 25 _ rfl w.heap.size rfl pP _ Tryd.underlying25 rfl (by kernel_rfl) ?_ | refine wpList_load_blk rfl 29 _ rfl (w.heap.size + 1) rfl pS _ Tryd.underlying29 rfl (by kernel_rfl) ?_)
 refine (kM _ bw).mono ?_
 rintro e w1 ⟨rfl, hb⟩
 replace bw := bel_trans bw hb
 replace pR := pR.below hb
 have hRl := pR.lt
 clear hb kM hM hV hC pP pS
 have pN := Blk.new w1 76 [.slice none 0 0, .int .i64 0, .int .i64 0, .int .i64 0, .slice none 0 0, .int .i64 0, .int .i64 0, .int .i64 0, .slice none 0 0, .int .i64 0, .int .i64 0, .int .i64 0, .int .i64 0, .int .i64 0, .int .i64 0, .int .i64 0, .int .i64 0, .int .i64 0]
 have bN : Below w1.heap.size w1 (w1.alloc (.cells #[.slice none 0 0, .int .i64 0, .int .i64 0, .int .i64 0, .slice none 0 0, .int .i64 0, .int .i64 0, .int .i64 0, .slice none 0 0, .int .i64 0, .int .i64 0, .int .i64 0, .int .i64 0, .int .i64 0, .int .i64 0, .int .i64 0, .int .i64 0, .int .i64 0] 76)) := by go_grown
 go_wp2_with (refine wpList_store_blk rfl 76 _ _ rfl w1.heap.size (machCells cs.1.val cs.2.1.val cs.2.2.val m) rfl rfl pN (by kernel_rfl) rfl rfl ?_)
 intro w2 pM g2
 have hb2 : Below w1.heap.size w1 w2 := bN.grown g2 bN.size (fun x hx => by cases hx; exact Nat.le_refl _)
 replace bw := bel_trans bw hb2
 replace pR := pR.below hb2
 have pM2 := pM.out
 clear g2 bN pN hb2 pM
 generalize w1.heap.size = gM at *
 have hMA := (hR.below bw).mach pM2
 have kD := doneT_is hMA hk
 have hk3 : (k : Int) < 3 := by omega
 cases hd : doneM rows m k with
 | true =>
  rw [hd] at kD
  have HZ2 : Hid ((z, c9) = ((0, 0, 0, 0), 10)) := by rw [Hid, HZ.out, hd]; rfl
  obtain ⟨z0, z1, z2, z3⟩ := z
  have e9 := HZ2.out
  simp only [Prod.mk.injEq] at e9
  obtain ⟨⟨rfl, rfl, rfl, rfl⟩, rfl⟩ := e9
  clear HZ HZ2 hd
  go_wp2_with fail
  refine kD.mono ?_
  rintro e w3 ⟨rfl, d, rfl⟩
  replace bw : Below w.heap.size w (w2.drewN d) := bel_trans bw (below_dN _)
  replace pR : Blk (w2.drewN d) (w.heap.size + 1 + 1) 33 [.int .i64 0, .int .i64 0, .int .i64 0, .int .i64 0] := pR.below (below_dN _)
  clear kD hMA pM2
  go_wp2_with (refine wpList_store_blk rfl 33 _ _ rfl (w.heap.size + 1 + 1) [.int .i64 0, .int .i64 0, .int .i64 0, .int .i64 0] rfl rfl pR (by kernel_rfl) rfl rfl ?_)
  intro w9 pR9 g9
  have b9 := bw.grown g9 bw.size (fun x hx => by cases hx; omega)
  go_wp2_with fail
  refine bodyPost_ret (results_blk2 Tryd.results12 _ _ _ _ _ _ rfl pR9.out Tryd.underlying33 rfl (by kernel_rfl)) rfl ?_
  exact ⟨rfl, b9⟩
 | false =>
  rw [hd] at kD
  have HZ2 : Hid ((z, c9) = (eventM rows m k, 0)) := by rw [Hid, HZ.out, hd]; rfl
  have kE := fun (W : World) (b : Below w2.heap.size w2 W) => event_is (hMA.below b) hp hs hk hd
  generalize eventM rows m k = y at *
  obtain ⟨y0, y1, y2, y3⟩ := y
  simp only at kE
  obtain ⟨z0, z1, z2, z3⟩ := z
  have e9 := HZ2.out
  simp only [Prod.mk.injEq] at e9
  obtain ⟨⟨rfl, rfl, rfl, rfl⟩, rfl⟩ := e9
  clear HZ HZ2 hd
  go_wp2_with fail
  refine kD.mono ?_
  rintro e w3 ⟨rfl, d, rfl⟩
  replace bw : Below w.heap.size w (w2.drewN d) := bel_trans bw (below_dN _)
  replace pR : Blk (w2.drewN d) (w.heap.size + 1 + 1) 33 [.int .i64 0, .int .i64 0, .int .i64 0, .int .i64 0] := pR.below (below_dN _)
  have kEx := kE _ (below_dN d)
  clear kD hMA pM2 kE
  go_wp2_with fail
  refine kEx.mono ?_
  rintro e w4 ⟨rfl, hb⟩
  replace bw := bel_trans bw hb
  replace pR := pR.below hb
  clear kEx hb
  go_wp2_with (refine wpList_store_blk rfl 33 _ _ rfl (w.heap.size + 1 + 1) [.int .i64 z0, .int .i64 z1, .int .i64 z2, .int .i64 z3] rfl rfl pR (by kernel_rfl) rfl rfl ?_)
  intro w9 pR9 g9
  have b9 := bw.grown g9 bw.size (fun x hx => by cases hx; omega)
  go_wp2_with fail
  refine bodyPost_ret (results_blk2 Tryd.results12 _ _ _ _ _ _ rfl pR9.out Tryd.underlying33 rfl (by kernel_rfl)) rfl ?_
  exact ⟨rfl, b9⟩

set_option maxHeartbeats 2000000 in
theorem specNextEvent_bad (a : Option Addr) (len cap : Nat) (rows : List (List I3)) (s : S4) (m : V4) (k : Int) (w : World) (hC : Codes w a len cap rows) (h : Vmem w s m) (hok : (progOk rows && shapeOk m) = false) :
  Calls Tryd.prog 13 #[.agg #[.slice a len cap], s.val, .int .i64 k] w fun e w' => e = .returned (.tuple #[.agg #[.int .i64 0, .int .i64 0, .int .i64 0, .int .i64 0], .int .i64 1]) ∧ Below w.heap.size w w' := by
 have hM := fun (W : World) (hb : Below w.heap.size w W) => h.below hb
 have kM := fun (W : World) (b : Below w.heap.size w W) => l03Ask_bad a len cap rows s m k W (hC.below b) (hM W b) hok
 obtain ⟨⟨a0, n0, c0⟩, ⟨a1, n1, c1⟩, ⟨a2, n2, c2⟩, ⟨a3, n3, c3⟩⟩ := s
 have uA : S4.val ((a0, n0, c0), (a1, n1, c1), (a2, n2, c2), (a3, n3, c3)) = .agg #[.slice a0 n0 c0, .slice a1 n1 c1, .slice a2 n2 c2, .slice a3 n3 c3] := rfl
 simp only [uA] at *
 clear uA h
 have bw : Below w.heap.size w (((w.alloc (.cells #[.slice a len cap] 25)).alloc (.cells #[.slice a0 n0 c0, .slice a1 n1 c1, .slice a2 n2 c2, .slice a3 n3 c3] 29)).alloc (.cells #[.int .i64 0, .int .i64 0, .int .i64 0, .int .i64 0] 33)) := by go_grown
 have pP : Blk (((w.alloc (.cells #[.slice a len cap] 25)).alloc (.cells #[.slice a0 n0 c0, .slice a1 n1 c1, .slice a2 n2 c2, .slice a3 n3 c3] 29)).alloc (.cells #[.int .i64 0, .int .i64 0, .int .i64 0, .int .i64 0] 33)) w.heap.size 25 [.slice a len cap] := blkOld _ (blkOld _ (blkAt _ _ _ rfl))
 have pS : Blk (((w.alloc (.cells #[.slice a len cap] 25)).alloc (.cells #[.slice a0 n0 c0, .slice a1 n1 c1, .slice a2 n2 c2, .slice a3 n3 c3] 29)).alloc (.cells #[.int .i64 0, .int .i64 0, .int .i64 0, .int .i64 0] 33)) (w.heap.size + 1) 29 [.slice a0 n0 c0, .slice a1 n1 c1, .slice a2 n2 c2, .slice a3 n3 c3] := blkOld _ (blkAt _ _ _ (by simp))
 have pR : Blk (((w.alloc (.cells #[.slice a len cap] 25)).alloc (.cells #[.slice a0 n0 c0, .slice a1 n1 c1, .slice a2 n2 c2, .slice a3 n3 c3] 29)).alloc (.cells #[.int .i64 0, .int .i64 0, .int .i64 0, .int .i64 0] 33)) (w.heap.size + 1 + 1) 33 [.int .i64 0, .int .i64 0, .int .i64 0, .int .i64 0] := blkAt _ _ _ (by simp)
 go_enter Tryd.func13, Tryd.ntmps13
 go_wp2_with (first | refine wpList_load_blk rfl 25 _ rfl w.heap.size rfl pP _ Tryd.underlying25 rfl (by kernel_rfl) ?_ | refine wpList_load_blk rfl 29 _ rfl (w.heap.size + 1) rfl pS _ Tryd.underlying29 rfl (by kernel_rfl) ?_)
 refine (kM _ bw).mono ?_
 rintro e w1 ⟨rfl, hb⟩
 replace bw := bel_trans bw hb
 replace pR := pR.below hb
 have hRl := pR.lt
 clear hb kM hM hC pP pS
 go_wp2_with (refine wpList_store_blk rfl 33 _ _ rfl (w.heap.size + 1 + 1) [.int .i64 0, .int .i64 0, .int .i64 0, .int .i64 0] rfl rfl pR (by kernel_rfl) rfl rfl ?_)
 intro w9 pR9 g9
 have b9 := bw.grown g9 bw.size (fun x hx => by cases hx; omega)
 go_wp2_with fail
 refine bodyPost_ret (results_blk2 Tryd.results13 _ _ _ _ _ _ rfl pR9.out Tryd.underlying33 rfl (by kernel_rfl)) rfl ?_
 exact ⟨rfl, b9⟩

set_option maxHeartbeats 2000000 in
theorem specNextEvent_range (a : Option Addr) (len cap : Nat) (rows : List (List I3)) (s : S4) (m : V4) (k : Int) (w : World) (hC : Codes w a len cap rows) (h : Vmem w s m) (hp : progOk rows = true) (hs : shapeOk m = true) (hk : k < 0 ∨ 3 ≤ k) :
  Calls Tryd.prog 13 #[.agg #[.slice a len cap], s.val, .int .i64 k] w fun e w' => e = .returned (.tuple #[.agg #[.int .i64 0, .int .i64 0, .int .i64 0, .int .i64 0], .int .i64 4]) ∧ Below w.heap.size w w' := by
 have hM := fun (W : World) (hb : Below w.heap.size w W) => h.below hb
 have kM := fun (W : World) (b : Below w.heap.size w W) => l03Ask_range a len cap rows s m k W (hC.below b) (hM W b) hp hs hk
 obtain ⟨⟨a0, n0, c0⟩, ⟨a1, n1, c1⟩, ⟨a2, n2, c2⟩, ⟨a3, n3, c3⟩⟩ := s
 have uA : S4.val ((a0, n0, c0), (a1, n1, c1), (a2, n2, c2), (a3, n3, c3)) = .agg #[.slice a0 n0 c0, .slice a1 n1 c1, .slice a2 n2 c2, .slice a3 n3 c3] := rfl
 simp only [uA] at *
 clear uA h
 have bw : Below w.heap.size w (((w.alloc (.cells #[.slice a len cap] 25)).alloc (.cells #[.slice a0 n0 c0, .slice a1 n1 c1, .slice a2 n2 c2, .slice a3 n3 c3] 29)).alloc (.cells #[.int .i64 0, .int .i64 0, .int .i64 0, .int .i64 0] 33)) := by go_grown
 have pP : Blk (((w.alloc (.cells #[.slice a len cap] 25)).alloc (.cells #[.slice a0 n0 c0, .slice a1 n1 c1, .slice a2 n2 c2, .slice a3 n3 c3] 29)).alloc (.cells #[.int .i64 0, .int .i64 0, .int .i64 0, .int .i64 0] 33)) w.heap.size 25 [.slice a len cap] := blkOld _ (blkOld _ (blkAt _ _ _ rfl))
 have pS : Blk (((w.alloc (.cells #[.slice a len cap] 25)).alloc (.cells #[.slice a0 n0 c0, .slice a1 n1 c1, .slice a2 n2 c2, .slice a3 n3 c3] 29)).alloc (.cells #[.int .i64 0, .int .i64 0, .int .i64 0, .int .i64 0] 33)) (w.heap.size + 1) 29 [.slice a0 n0 c0, .slice a1 n1 c1, .slice a2 n2 c2, .slice a3 n3 c3] := blkOld _ (blkAt _ _ _ (by simp))
 have pR : Blk (((w.alloc (.cells #[.slice a len cap] 25)).alloc (.cells #[.slice a0 n0 c0, .slice a1 n1 c1, .slice a2 n2 c2, .slice a3 n3 c3] 29)).alloc (.cells #[.int .i64 0, .int .i64 0, .int .i64 0, .int .i64 0] 33)) (w.heap.size + 1 + 1) 33 [.int .i64 0, .int .i64 0, .int .i64 0, .int .i64 0] := blkAt _ _ _ (by simp)
 go_enter Tryd.func13, Tryd.ntmps13
 go_wp2_with (first | refine wpList_load_blk rfl 25 _ rfl w.heap.size rfl pP _ Tryd.underlying25 rfl (by kernel_rfl) ?_ | refine wpList_load_blk rfl 29 _ rfl (w.heap.size + 1) rfl pS _ Tryd.underlying29 rfl (by kernel_rfl) ?_)
 refine (kM _ bw).mono ?_
 rintro e w1 ⟨rfl, hb⟩
 replace bw := bel_trans bw hb
 replace pR := pR.below hb
 have hRl := pR.lt
 clear hb kM hM hC pP pS
 go_wp2_with (refine wpList_store_blk rfl 33 _ _ rfl (w.heap.size + 1 + 1) [.int .i64 0, .int .i64 0, .int .i64 0, .int .i64 0] rfl rfl pR (by kernel_rfl) rfl rfl ?_)
 intro w9 pR9 g9
 have b9 := bw.grown g9 bw.size (fun x hx => by cases hx; omega)
 go_wp2_with fail
 refine bodyPost_ret (results_blk2 Tryd.results13 _ _ _ _ _ _ rfl pR9.out Tryd.underlying33 rfl (by kernel_rfl)) rfl ?_
 exact ⟨rfl, b9⟩

set_option maxHeartbeats 2000000 in
theorem specNextEvent_ok (a : Option Addr) (len cap : Nat) (rows : List (List I3)) (s : S4) (m : V4) (k : Nat) (w : World) (hC : Codes w a len cap rows) (h : Vmem w s m) (hp : progOk rows = true) (hs : shapeOk m = true) (hk : k < 3) (z : I4) (c9 : Int) (hz : (z, c9) = if doneM rows m k then ((0, 0, 0, 0), 10) else (eventM rows m k, 0)) :
  Calls Tryd.prog 13 #[.agg #[.slice a len cap], s.val, .int .i64 k] w fun e w' => e = .returned (.tuple #[.agg #[.int .i64 z.1, .int .i64 z.2.1, .int .i64 z.2.2.1, .int .i64 z.2.2.2], .int .i64 c9]) ∧ Below w.heap.size w w' := by
 obtain ⟨rfl, cs, hR⟩ := hC.rowsAt hp
 have HZ : Hid ((z, c9) = if doneM rows m k then ((0, 0, 0, 0), 10) else (eventM rows m k, 0)) := hz
 clear hz
 have hM := fun (W : World) (hb : Below w.heap.size w W) => h.below hb
 have kM := fun (W : World) (b : Below w.heap.size w W) => l03Ask_ok a 3 cap rows s m k W (hC.below b) (hM W b) hp hs (by omega)
 have kD := fun (W : World) (b : Below w.heap.size w W) => l03Done_is (cap := cap) rfl (hR.below b) (hM W b) hs hk
 have kE := fun (hd : doneM rows m k = false) (W : World) (b : Below w.heap.size w W) => l05Event_is (cap := cap) (hR.below b) (hM W b) hp hs hk hd
 obtain ⟨⟨a0, n0, c0⟩, ⟨a1, n1, c1⟩, ⟨a2, n2, c2⟩, ⟨a3, n3, c3⟩⟩ := s
 have uA : S4.val ((a0, n0, c0), (a1, n1, c1), (a2, n2, c2), (a3, n3, c3)) = .agg #[.slice a0 n0 c0, .slice a1 n1 c1, .slice a2 n2 c2, .slice a3 n3 c3] := rfl
 simp only [uA] at *
 clear uA h
 have bw : Below w.heap.size w (((w.alloc (.cells #[.slice a 3 cap] 25)).alloc (.cells #[.slice a0 n0 c0, .slice a1 n1 c1, .slice a2 n2 c2, .slice a3 n3 c3] 29)).alloc (.cells #[.int .i64 0, .int .i64 0, .int .i64 0, .int .i64 0] 33)) := by go_grown
 have pP : Blk (((w.alloc (.cells #[.slice a 3 cap] 25)).alloc (.cells #[.slice a0 n0 c0, .slice a1 n1 c1, .slice a2 n2 c2, .slice a3 n3 c3] 29)).alloc (.cells #[.int .i64 0, .int .i64 0, .int .i64 0, .int .i64 0] 33)) w.heap.size 25 [.slice a 3 cap] := blkOld _ (blkOld _ (blkAt _ _ _ rfl))
 have pS : Blk (((w.alloc (.cells #[.slice a 3 cap] 25)).alloc (.cells #[.slice a0 n0 c0, .slice a1 n1 c1, .slice a2 n2 c2, .slice a3 n3 c3] 29)).alloc (.cells #[.int .i64 0, .int .i64 0, .int .i64 0, .int .i64 0] 33)) (w.heap.size + 1) 29 [.slice a0 n0 c0, .slice a1 n1 c1, .slice a2 n2 c2, .slice a3 n3 c3] := blkOld _ (blkAt _ _ _ (by simp))
 have pR : Blk (((w.alloc (.cells #[.slice a 3 cap] 25)).alloc (.cells #[.slice a0 n0 c0, .slice a1 n1 c1, .slice a2 n2 c2, .slice a3 n3 c3] 29)).alloc (.cells #[.int .i64 0, .int .i64 0, .int .i64 0, .int .i64 0] 33)) (w.heap.size + 1 + 1) 33 [.int .i64 0, .int .i64 0, .int .i64 0, .int .i64 0] := blkAt _ _ _ (by simp)
 go_enter Tryd.func13, Tryd.ntmps13
 go_wp2_with (first | refine wpList_load_blk rfl 25 _ rfl w.heap.size rfl pP _ Tryd.underlying25 rfl (by kernel_rfl) ?_ | refine wpList_load_blk rfl 29 _ rfl (w.heap.size + 1) rfl pS _ Tryd.underlying29 rfl (by kernel_rfl) ?_)
 refine (kM _ bw).mono ?_
 rintro e w1 ⟨rfl, hb⟩
 replace bw := bel_trans bw hb
 replace pR := pR.below hb
 replace pP := pP.below hb
 replace pS := pS.below hb
 have hRl := pR.lt
 clear hb kM hM hC
 have kDx := kD w1 bw
 clear kD
 cases hd : doneM rows m k with
 | true =>
  rw [hd] at kDx
  have HZ2 : Hid ((z, c9) = ((0, 0, 0, 0), 10)) := by rw [Hid, HZ.out, hd]; rfl
  obtain ⟨z0, z1, z2, z3⟩ := z
  have e9 := HZ2.out
  simp only [Prod.mk.injEq] at e9
  obtain ⟨⟨rfl, rfl, rfl, rfl⟩, rfl⟩ := e9
  clear HZ HZ2 hd kE
  go_wp2_with (first | refine wpList_load_blk rfl 25 _ rfl w.heap.size rfl pP _ Tryd.underlying25 rfl (by kernel_rfl) ?_ | refine wpList_load_blk rfl 29 _ rfl (w.heap.size + 1) rfl pS _ Tryd.underlying29 rfl (by kernel_rfl) ?_)
  refine kDx.mono ?_
  rintro e w3 ⟨rfl, hb⟩
  replace bw := bel_trans bw hb
  replace pR := pR.below hb
  clear kDx hb pP pS
  go_wp2_with (refine wpList_store_blk rfl 33 _ _ rfl (w.heap.size + 1 + 1) [.int .i64 0, .int .i64 0, .int .i64 0, .int .i64 0] rfl rfl pR (by kernel_rfl) rfl rfl ?_)
  intro w9 pR9 g9
  have b9 := bw.grown g9 bw.size (fun x hx => by cases hx; omega)
  go_wp2_with fail
  refine bodyPost_ret (results_blk2 Tryd.results13 _ _ _ _ _ _ rfl pR9.out Tryd.underlying33 rfl (by kernel_rfl)) rfl ?_
  exact ⟨rfl, b9⟩
 | false =>
  rw [hd] at kDx
  have HZ2 : Hid ((z, c9) = (eventM rows m k, 0)) := by rw [Hid, HZ.out, hd]; rfl
  replace kE := kE hd
  generalize eventM rows m k = y at *
  obtain ⟨y0, y1, y2, y3⟩ := y
  simp only at kE
  obtain ⟨z0, z1, z2, z3⟩ := z
  have e9 := HZ2.out
  simp only [Prod.mk.injEq] at e9
  obtain ⟨⟨rfl, rfl, rfl, rfl⟩, rfl⟩ := e9
  clear HZ HZ2 hd
  go_wp2_with (first | refine wpList_load_blk rfl 25 _ rfl w.heap.size rfl pP _ Tryd.underlying25 rfl (by kernel_rfl) ?_ | refine wpList_load_blk rfl 29 _ rfl (w.heap.size + 1) rfl pS _ Tryd.underlying29 rfl (by kernel_rfl) ?_)
  refine kDx.mono ?_
  rintro e w3 ⟨rfl, hb⟩
  replace bw := bel_trans bw hb
  replace pR := pR.below hb
  replace pP := pP.below hb
  replace pS := pS.below hb
  have kEx := kE _ bw
  clear kDx hb kE
  go_wp2_with (first | refine wpList_load_blk rfl 25 _ rfl w.heap.size rfl pP _ Tryd.underlying25 rfl (by kernel_rfl) ?_ | refine wpList_load_blk rfl 29 _ rfl (w.heap.size + 1) rfl pS _ Tryd.underlying29 rfl (by kernel_rfl) ?_)
  refine kEx.mono ?_
  rintro e w4 ⟨rfl, hb⟩
  replace bw := bel_trans bw hb
  replace pR := pR.below hb
  clear kEx hb pP pS
  go_wp2_with (refine wpList_store_blk rfl 33 _ _ rfl (w.heap.size + 1 + 1) [.int .i64 z0, .int .i64 z1, .int .i64 z2, .int .i64 z3] rfl rfl pR (by kernel_rfl) rfl rfl ?_)
  intro w9 pR9 g9
  have b9 := bw.grown g9 bw.size (fun x hx => by cases hx; omega)
  go_wp2_with fail
  refine bodyPost_ret (results_blk2 Tryd.results13 _ _ _ _ _ _ rfl pR9.out Tryd.underlying33 rfl (by kernel_rfl)) rfl ?_
  exact ⟨rfl, b9⟩

theorem implNextEvent_is (a : Option Addr) (len cap : Nat) (rows : List (List I3)) (s : S4) (m : V4) (k : Int) (w : World) (hC : Codes w a len cap rows) (h : Vmem w s m) (hV : VmShape w) :
  Calls Tryd.prog 12 #[.agg #[.slice a len cap], s.val, .int .i64 k] w fun e w' => e = .returned (.tuple #[(nxtE rows m k).val, .int .i64 (nxtC rows m k)]) ∧ Below w.heap.size w w' := by
 unfold I4.val
 cases hok : (progOk rows && shapeOk m) with
 | false =>
  have e1 : nxtC rows m k = 1 := by unfold nxtC; rw [hok]; rfl
  have e2 : nxtE rows m k = (0, 0, 0, 0) := by unfold nxtE; rw [e1]; rfl
  rw [e1, e2]
  exact implNextEvent_bad a len cap rows s m k w hC h hV hok
 | true =>
  have hp : progOk rows = true := by simp only [Bool.and_eq_true] at hok; exact hok.1
  have hs : shapeOk m = true := by simp only [Bool.and_eq_true] at hok; exact hok.2
  by_cases hk : 0 ≤ k ∧ k < 3
  ·obtain ⟨q, rfl⟩ : ∃ q : Nat, k = q := ⟨k.toNat, by omega⟩
   refine implNextEvent_ok a len cap rows s m q w hC h hV hp hs (by omega) (nxtE rows m q) (nxtC rows m q) ?_
   have e1 : nxtC rows m (q : Int) = if doneM rows m q then 10 else 0 := by unfold nxtC; rw [hok, Int.toNat_natCast]; simp only [if_true]; rw [if_pos hk]
   unfold nxtE
   rw [e1, Int.toNat_natCast]
   cases doneM rows m q <;> rfl
  ·have e1 : nxtC rows m k = 4 := by unfold nxtC; rw [hok]; simp only [if_true]; rw [if_neg hk]
   have e2 : nxtE rows m k = (0, 0, 0, 0) := by unfold nxtE; rw [e1]; rfl
   rw [e1, e2]
   exact implNextEvent_range a len cap rows s m k w hC h hV hp hs (by omega)

theorem specNextEvent_is (a : Option Addr) (len cap : Nat) (rows : List (List I3)) (s : S4) (m : V4) (k : Int) (w : World) (hC : Codes w a len cap rows) (h : Vmem w s m) :
  Calls Tryd.prog 13 #[.agg #[.slice a len cap], s.val, .int .i64 k] w fun e w' => e = .returned (.tuple #[(nxtE rows m k).val, .int .i64 (nxtC rows m k)]) ∧ Below w.heap.size w w' := by
 unfold I4.val
 cases hok : (progOk rows && shapeOk m) with
 | false =>
  have e1 : nxtC rows m k = 1 := by unfold nxtC; rw [hok]; rfl
  have e2 : nxtE rows m k = (0, 0, 0, 0) := by unfold nxtE; rw [e1]; rfl
  rw [e1, e2]
  exact specNextEvent_bad a len cap rows s m k w hC h  hok
 | true =>
  have hp : progOk rows = true := by simp only [Bool.and_eq_true] at hok; exact hok.1
  have hs : shapeOk m = true := by simp only [Bool.and_eq_true] at hok; exact hok.2
  by_cases hk : 0 ≤ k ∧ k < 3
  ·obtain ⟨q, rfl⟩ : ∃ q : Nat, k = q := ⟨k.toNat, by omega⟩
   refine specNextEvent_ok a len cap rows s m q w hC h  hp hs (by omega) (nxtE rows m q) (nxtC rows m q) ?_
   have e1 : nxtC rows m (q : Int) = if doneM rows m q then 10 else 0 := by unfold nxtC; rw [hok, Int.toNat_natCast]; simp only [if_true]; rw [if_pos hk]
   unfold nxtE
   rw [e1, Int.toNat_natCast]
   cases doneM rows m q <;> rfl
  ·have e1 : nxtC rows m k = 4 := by unfold nxtC; rw [hok]; simp only [if_true]; rw [if_neg hk]
   have e2 : nxtE rows m k = (0, 0, 0, 0) := by unfold nxtE; rw [e1]; rfl
   rw [e1, e2]
   exact specNextEvent_range a len cap rows s m k w hC h  hp hs (by omega)

end Go.Proofs.YtdojjmkpelgcaaaDoor
