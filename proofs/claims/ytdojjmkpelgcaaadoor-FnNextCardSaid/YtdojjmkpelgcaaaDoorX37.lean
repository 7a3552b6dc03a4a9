/-
  Joined: EvD.
-/
import Derived.Test.YtdojjmkpelgcaaaDoorX36

namespace Go.Proofs.YtdojjmkpelgcaaaDoor
set_option maxRecDepth 100000
open Go.RowKit
set_option linter.unusedVariables false
set_option linter.unusedSimpArgs false

set_option maxHeartbeats 1600000 in
theorem l05Event_raw (b9 off9 cap b0 o0 c0 : Nat) (a1 : Option Addr) (n1 c1 : Nat) (a2 : Option Addr) (n2 c2 : Nat) (a3 : Option Addr) (n3 c3 : Nat) (k p b off n c : Nat) (x0 x1 x2 : Int) (w : World) (hk : k < 3) (hp : p < n) (hx : -1000 ≤ x1 ∧ x1 ≤ 1000)
  (f0 : w.cell? ⟨b9, off9 + k, none⟩ = some (.slice (some ⟨b, off, none⟩) n c)) (e1 : w.cell? ⟨b0, o0 + k, none⟩ = some (.int .i64 p)) (q0 : w.cell? ⟨b, off + p * 3, none⟩ = some (.int .i64 x0)) (q1 : w.cell? ⟨b, off + p * 3 + 1, none⟩ = some (.int .i64 x1)) (q2 : w.cell? ⟨b, off + p * 3 + 2, none⟩ = some (.int .i64 x2)) :
  Calls Tryd.prog 44 #[.agg #[.slice (some ⟨b9, off9, none⟩) 3 cap], .agg #[.slice (some ⟨b0, o0, none⟩) 3 c0, .slice a1 n1 c1, .slice a2 n2 c2, .slice a3 n3 c3], .int .i64 k] w fun e w' => e = .returned (.agg #[.int .i64 k, .int .i64 p, .int .i64 x0, .int .i64 (objM (x0, x1, x2))]) ∧ Below w.heap.size w w' := by
 have hk3 : (k : Int) < 3 := by omega
 have hpn : (p : Int) < (n : Int) := by omega
 have kO := l05Obj_is x0 x1 x2 hx
 generalize objM (x0, x1, x2) = ob at *
 have hl0 : b0 < w.heap.size := World.block_lt_of_cell? _ _ e1
 have bw : Below w.heap.size w (((w.alloc (.cells #[.slice (some ⟨b9, off9, none⟩) 3 cap] 25)).alloc (.cells #[.slice (some ⟨b0, o0, none⟩) 3 c0, .slice a1 n1 c1, .slice a2 n2 c2, .slice a3 n3 c3] 29)).alloc (.cells #[.int .i64 0, .int .i64 0, .int .i64 0, .int .i64 0] 33)) := by go_grown
 have pP : Blk (((w.alloc (.cells #[.slice (some ⟨b9, off9, none⟩) 3 cap] 25)).alloc (.cells #[.slice (some ⟨b0, o0, none⟩) 3 c0, .slice a1 n1 c1, .slice a2 n2 c2, .slice a3 n3 c3] 29)).alloc (.cells #[.int .i64 0, .int .i64 0, .int .i64 0, .int .i64 0] 33)) w.heap.size 25 [.slice (some ⟨b9, off9, none⟩) 3 cap] := blkOld _ (blkOld _ (blkAt _ _ _ rfl))
 have pS : Blk (((w.alloc (.cells #[.slice (some ⟨b9, off9, none⟩) 3 cap] 25)).alloc (.cells #[.slice (some ⟨b0, o0, none⟩) 3 c0, .slice a1 n1 c1, .slice a2 n2 c2, .slice a3 n3 c3] 29)).alloc (.cells #[.int .i64 0, .int .i64 0, .int .i64 0, .int .i64 0] 33)) (w.heap.size + 1) 29 [.slice (some ⟨b0, o0, none⟩) 3 c0, .slice a1 n1 c1, .slice a2 n2 c2, .slice a3 n3 c3] := blkOld _ (blkAt _ _ _ (by simp))
 have pR : Blk (((w.alloc (.cells #[.slice (some ⟨b9, off9, none⟩) 3 cap] 25)).alloc (.cells #[.slice (some ⟨b0, o0, none⟩) 3 c0, .slice a1 n1 c1, .slice a2 n2 c2, .slice a3 n3 c3] 29)).alloc (.cells #[.int .i64 0, .int .i64 0, .int .i64 0, .int .i64 0] 33)) (w.heap.size + 2) 33 [.int .i64 0, .int .i64 0, .int .i64 0, .int .i64 0] := blkAt _ _ _ (by simp)
 replace f0 := cells_kept bw _ _ f0
 replace e1 := cells_kept bw _ _ e1
 replace q0 := cells_kept bw _ _ q0
 replace q1 := cells_kept bw _ _ q1
 replace q2 := cells_kept bw _ _ q2
 have cP := pP.cell 0
 have cS := pS.cell 0
 simp only [List.getElem?_cons_zero] at cP cS
 go_enter Tryd.func44, Tryd.ntmps44
 go_wp2_with fail
 have hX9 : w.heap.size + 2 < (((w.alloc (.cells #[.slice (some ⟨b9, off9, none⟩) 3 cap] 25)).alloc (.cells #[.slice (some ⟨b0, o0, none⟩) 3 c0, .slice a1 n1 c1, .slice a2 n2 c2, .slice a3 n3 c3] 29)).alloc (.cells #[.int .i64 0, .int .i64 0, .int .i64 0, .int .i64 0] 33)).heap.size := pR.lt
 generalize (((w.alloc (.cells #[.slice (some ⟨b9, off9, none⟩) 3 cap] 25)).alloc (.cells #[.slice (some ⟨b0, o0, none⟩) 3 c0, .slice a1 n1 c1, .slice a2 n2 c2, .slice a3 n3 c3] 29)).alloc (.cells #[.int .i64 0, .int .i64 0, .int .i64 0, .int .i64 0] 33)) = W at *
 refine wp_region_held_drew (S := (fun w' => w'.cell? ⟨w.heap.size, 0, none⟩ = some (.slice (some ⟨b9, off9, none⟩) 3 cap) ∧ w'.cell? ⟨b9, off9 + k, none⟩ = some (.slice (some ⟨b, off, none⟩) n c) ∧ w'.cell? ⟨w.heap.size + 1, 0, none⟩ = some (.slice (some ⟨b0, o0, none⟩) 3 c0) ∧ w'.cell? ⟨b0, o0 + k, none⟩ = some (.int .i64 p) ∧ w'.cell? ⟨b, off + p * 3, none⟩ = some (.int .i64 x0) ∧ w'.cell? ⟨b, off + p * 3 + 1, none⟩ = some (.int .i64 x1) ∧ w'.cell? ⟨b, off + p * 3 + 2, none⟩ = some (.int .i64 x2))) (by kernel_rfl) ⟨cP, f0, cS, e1, q0, q1, q2⟩ (fun hS0 => ?_)
 refine tkm 0 8 (.pointer (some ⟨w.heap.size, 0, none⟩)) ?_
 refine tkm 1 9 (.slice (some ⟨b9, off9, none⟩) 3 cap) ?_
 refine tkm 2 10 (.int .i64 (k : Int)) ?_
 refine tkm 3 11 (.pointer (some ⟨b9, off9 + k, none⟩)) ?_
 refine tkm 4 12 (.slice (some ⟨b, off, none⟩) n c) ?_
 refine tkm 5 13 (.pointer (some ⟨w.heap.size + 1, 0, none⟩)) ?_
 refine tkm 6 14 (.slice (some ⟨b0, o0, none⟩) 3 c0) ?_
 refine tkm 7 15 (.int .i64 (k : Int)) ?_
 refine tkm 8 16 (.pointer (some ⟨b0, o0 + k, none⟩)) ?_
 refine tkm 9 17 (.int .i64 p) ?_
 refine tkm 10 18 (.pointer (some ⟨b, off + p * 3, none⟩)) ?_
 refine tkm 11 19 (.agg #[.int .i64 x0, .int .i64 x1, .int .i64 x2]) ?_
 refine tkr 12 7 (fun K hK => ?_)
 have hal : Below W.drew.heap.size W.drew (W.drew.alloc (.cells #[.int .i64 0, .int .i64 0, .int .i64 0] 112)) := by go_grown
 go_simp
 refine hK.out _ _ ?_ (fun hS1 => ?_)
 ·exact ⟨cells_kept hal _ _ hS0.1, cells_kept hal _ _ hS0.2.1, cells_kept hal _ _ hS0.2.2.1, cells_kept hal _ _ hS0.2.2.2.1, cells_kept hal _ _ hS0.2.2.2.2.1, cells_kept hal _ _ hS0.2.2.2.2.2.1, cells_kept hal _ _ hS0.2.2.2.2.2.2⟩
 clear hK
 try simp only [Act.put, tka, tkb, tkc]
 refine tkz 13 (fun K hK => ?_)
 have hal2 : Below W.drew.heap.size W.drew (W.drew.alloc (.cells #[.int .i64 x0, .int .i64 x1, .int .i64 x2] 112)) := by go_grown
 go_simp
 refine hK.out _ _ ?_ (fun hS2 => ?_)
 ·exact ⟨cells_kept hal2 _ _ hS0.1, cells_kept hal2 _ _ hS0.2.1, cells_kept hal2 _ _ hS0.2.2.1, cells_kept hal2 _ _ hS0.2.2.2.1, cells_kept hal2 _ _ hS0.2.2.2.2.1, cells_kept hal2 _ _ hS0.2.2.2.2.2.1, cells_kept hal2 _ _ hS0.2.2.2.2.2.2⟩
 clear hK
 try simp only [Act.put, tka, tkb, tkc]
 refine wpAnyH_done (by kernel_rfl) ?_ _
 have hb : Below W.heap.size W (W.alloc (.cells #[.int .i64 x0, .int .i64 x1, .int .i64 x2] 112)).drew := by go_grown
 have pX : Blk (W.alloc (.cells #[.int .i64 x0, .int .i64 x1, .int .i64 x2] 112)).drew W.heap.size 112 [.int .i64 x0, .int .i64 x1, .int .i64 x2] := blkAt _ _ _ rfl
 replace bw := bel_trans bw hb
 replace pR := pR.below hb
 replace e1 := cells_kept hb _ _ e1
 replace cS := cells_kept hb _ _ cS
 clear hal hal2 hS0 hS1 hS2 f0 q0 q1 q2 hb cP pP pS
 go_wp2_with fail
 generalize (W.alloc (.cells #[.int .i64 x0, .int .i64 x1, .int .i64 x2] 112)).drew = V at *
 generalize W.heap.size = X at *
 have d0 := pX.cell 0
 have d1 := pX.cell 1
 have d2 := pX.cell 2
 simp only [List.getElem?_cons_zero, List.getElem?_cons_succ] at d0 d1 d2
 have hdr : Below V.heap.size V V.drew := by go_grown
 refine wp_region_held_drew (S := (fun w' => w'.cell? ⟨w.heap.size + 1, 0, none⟩ = some (.slice (some ⟨b0, o0, none⟩) 3 c0) ∧ w'.cell? ⟨b0, o0 + k, none⟩ = some (.int .i64 p) ∧ w'.cell? ⟨X, 0, none⟩ = some (.int .i64 x0) ∧ w'.cell? ⟨X, 1, none⟩ = some (.int .i64 x1) ∧ w'.cell? ⟨X, 2, none⟩ = some (.int .i64 x2))) (by kernel_rfl) ⟨cS, e1, d0, d1, d2⟩ (fun hS0 => ?_)
 refine tkm 0 20 (.int .i64 (k : Int)) ?_
 refine tkm 1 21 (.pointer (some ⟨w.heap.size + 1, 0, none⟩)) ?_
 refine tkm 2 22 (.slice (some ⟨b0, o0, none⟩) 3 c0) ?_
 refine tkm 3 23 (.int .i64 (k : Int)) ?_
 refine tkm 4 24 (.pointer (some ⟨b0, o0 + k, none⟩)) ?_
 refine tkm 5 25 (.int .i64 p) ?_
 refine tkm 6 26 (.pointer (some ⟨X, 0, none⟩)) ?_
 refine tkm 7 27 (.int .i64 x0) ?_
 refine tkm 8 28 (.agg #[.int .i64 x0, .int .i64 x1, .int .i64 x2]) ?_
 refine tkr 9 29 (fun K hK => ?_)
 go_simp
 refine (kO _).mono ?_
 rintro e U ⟨rfl, hb8⟩
 go_wp2_with fail
 refine hK.out _ _ ?_ (fun hS1 => ?_)
 ·exact ⟨cells_kept hb8 _ _ hS0.1, cells_kept hb8 _ _ hS0.2.1, cells_kept hb8 _ _ hS0.2.2.1, cells_kept hb8 _ _ hS0.2.2.2.1, cells_kept hb8 _ _ hS0.2.2.2.2⟩
 clear hK
 refine tkm 10 30 (.agg #[.int .i64 (k : Int), .int .i64 p, .int .i64 x0, .int .i64 ob]) ?_
 replace pR := pR.below (bel_trans hdr hb8)
 replace bw := bel_trans bw (bel_trans hdr hb8)
 refine tkz 11 (fun K hK => ?_)
 refine step_store_blkD rfl 33 _ _ rfl (w.heap.size + 2) [.int .i64 (k : Int), .int .i64 p, .int .i64 x0, .int .i64 ob] rfl rfl pR (by kernel_rfl) rfl rfl ?_
 intro U2 pR2 g2
 have bz := bw.grown g2 bw.size (fun j hj => by cases hj; omega)
 have n0 : (some (w.heap.size + 1) : Option Nat) ≠ some (w.heap.size + 2) := by simp
 have n1 : (some b0 : Option Nat) ≠ some (w.heap.size + 2) := by simp; omega
 have n2 : (some X : Option Nat) ≠ some (w.heap.size + 2) := by simp; omega
 refine hK.out _ _ ⟨cell_grownB g2 hS1.1 n0, cell_grownB g2 hS1.2.1 n1, cell_grownB g2 hS1.2.2.1 n2, cell_grownB g2 hS1.2.2.2.1 n2, cell_grownB g2 hS1.2.2.2.2 n2⟩ (fun hS2 => ?_)
 clear hK
 try simp only [Act.put, tka, tkb, tkc]
 refine wpAnyH_done (by kernel_rfl) ?_ _
 clear hS0 hS1 hS2 n0 n1 n2 g2 bw pR hdr hb8 kO d0 d1 d2 e1 pX cS
 go_wp2_with fail
 refine bodyPost_ret (results_blk1 Tryd.results44 _ _ _ _ _ _ rfl pR2.out Tryd.underlying33 rfl (by kernel_rfl)) rfl ?_
 exact ⟨rfl, bz⟩

theorem l05Event_is {w : World} {a9 : Option Addr} {cap : Nat} {cs : Sl × Sl × Sl} {rows : List (List I3)} {s : S4} {m : V4} (hR : RowsAt w a9 cs rows) (h : Vmem w s m) (hp : progOk rows = true) (hs : shapeOk m = true) {k : Nat} (hk : k < 3) (hd : doneM rows m k = false) :
  Calls Tryd.prog 44 #[.agg #[.slice a9 3 cap], s.val, .int .i64 k] w fun e w' => e = .returned (.agg #[.int .i64 (eventM rows m k).1, .int .i64 (eventM rows m k).2.1, .int .i64 (eventM rows m k).2.2.1, .int .i64 (eventM rows m k).2.2.2]) ∧ Below w.heap.size w w' := by
 obtain ⟨p, ep, hlt, hi, hok⟩ := at_ins hp hs hk hd
 obtain ⟨b9, off9, rfl, _, hrow⟩ := hR
 obtain ⟨f0, hI⟩ := hrow k hk
 obtain ⟨b, off, ea, hpn, q0, q1, q2⟩ := ins_at hI hlt
 rw [← hi] at q0 q1 q2
 rw [ea] at f0
 have hm := okI_mid hok
 obtain ⟨⟨j0, _⟩, _⟩ := h
 obtain ⟨l0, _⟩ := shape_parts hs
 obtain ⟨⟨a0, n0, c0⟩, ⟨a1, n1, c1⟩, ⟨a2, n2, c2⟩, ⟨a3, n3, c3⟩⟩ := s
 simp only at j0
 obtain ⟨rfl, b0, o0, rfl⟩ := some_of_ints j0 l0 (by decide)
 have r1 := ints_at9 j0 (t := k) hk
 rw [ep] at r1
 unfold eventM
 rw [ep]
 generalize insM rows m k = x at *
 obtain ⟨x0, x1, x2⟩ := x
 exact l05Event_raw b9 off9 cap b0 o0 c0 a1 n1 c1 a2 n2 c2 a3 n3 c3 k p b off _ _ x0 x1 x2 w hk hpn hm f0 r1 q0 q1 q2
end Go.Proofs.YtdojjmkpelgcaaaDoor
