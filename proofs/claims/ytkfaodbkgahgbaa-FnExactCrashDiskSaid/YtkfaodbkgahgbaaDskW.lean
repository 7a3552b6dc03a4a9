
/-
  The laws of each call on a disk: their walks.
-/
import Derived.Test.YtkfaodbkgahgbaaDskC
import Derived.Test.YtkfaodbkgahgbaaDskL
namespace Go.Proofs.Ytkfaodbkgahgbaa
open Go.RowKit
set_option linter.unusedVariables false
set_option linter.unusedSimpArgs false

/-- The box of a disk that came in. -/
theorem lbox_new (w : World) (s q : ByteArray) : Blk (w.alloc (.cells #[.string s, .string q] 33)) w.heap.size 33 [.string s, .string q] := Blk.new w 33 [.string s, .string q]

set_option maxHeartbeats 8000000 in
set_option maxRecDepth 100000 in
theorem fnExactAppendDisk_walk (y0 : D2) (t : ByteArray) (h1 : t.size ≤ maxLen) (w : World) (h0 : y0.fits) :
    Calls Try.prog 5 #[y0.val, .string t] w fun e w' => e = .returned (.bool true) ∧ Below w.heap.size w w' := by
  obtain ⟨s, q⟩ := y0
  unfold maxLen at h1
  have pb := lbox_new w s q
  have bw := bel_new w (.cells #[.string s, .string q] 33)
  have kS := specAppendDisk_is s q t
  have kI := implAppendDisk_is s q t
  generalize appD (s, q) t = R at kS kI
  obtain ⟨⟨u, x⟩, c⟩ := R
  unfold ResD D2.val at kS kI
  simp only at kS kI
  unfold D2.val
  go_enter Try.func5, Try.ntmps5
  by_cases hl : 1048576 < t.size
  · have hl2 : (1048576 : Int) < (t.size : Int) := by omega
    go_wp2
    go_ret
    exact ⟨rfl, bw⟩
  have hl2 : ¬ (1048576 : Int) < (t.size : Int) := by omega
  go_wp2_with fail
  generalize w.alloc (.cells #[.string s, .string q] 33) = W0 at *
  refine (szDisk_any (s, q) _ h0).mono ?_
  rintro e w1 ⟨⟨r, rfl, hz⟩, b1⟩
  replace pb := pb.below b1
  replace bw := belD bw b1
  clear b1
  rcases hz with rfl | ⟨hr, hd⟩
  · go_wp2
    go_ret
    exact ⟨rfl, bw⟩
  have hn : ¬ r < 0 := by omega
  obtain ⟨c0, c1⟩ : _ ∧ _ := ⟨pb.cell 0, pb.cell 1⟩
  simp only [List.getElem?_cons_zero, List.getElem?_cons_succ] at c0 c1
  go_wp2_with fail
  clear c0 c1
  refine (toDisk_same (s, q) _).mono ?_
  rintro e w2 ⟨rfl, b2⟩
  replace pb := pb.below b2
  replace bw := belD bw b2
  clear b2
  unfold D2.val
  go_wp2_with fail
  refine (kS _ hd (by omega)).mono ?_
  rintro e w3 ⟨rfl, b3⟩
  replace pb := pb.below b3
  replace bw := belD bw b3
  clear b3 kS
  have pS := Blk.new w3 26 [.string u, .string x]
  have b4 := bel_new w3 (.cells #[.string u, .string x] 26)
  replace pb := pb.below b4
  replace bw := belD bw b4
  clear b4
  obtain ⟨c0, c1⟩ : _ ∧ _ := ⟨pb.cell 0, pb.cell 1⟩
  simp only [List.getElem?_cons_zero, List.getElem?_cons_succ] at c0 c1
  go_wp2_with fail
  clear c0 c1
  generalize w3.heap.size = gS at *
  generalize w3.alloc (.cells #[.string u, .string x] 26) = W4 at *
  refine (toDisk_same (s, q) _).mono ?_
  rintro e w5 ⟨rfl, b5⟩
  replace pS := pS.below b5
  replace bw := belD bw b5
  clear b5 pb
  unfold D2.val
  go_wp2_with fail
  refine (kI _ hd (by omega)).mono ?_
  rintro e w6 ⟨rfl, b6⟩
  replace pS := pS.below b6
  replace bw := belD bw b6
  clear b6 kI
  have pI := Blk.new w6 26 [.string u, .string x]
  have b4 := bel_new w6 (.cells #[.string u, .string x] 26)
  replace pS := pS.below b4
  replace bw := belD bw b4
  clear b4
  obtain ⟨c0, c1⟩ : _ ∧ _ := ⟨pS.cell 0, pS.cell 1⟩
  obtain ⟨c2, c3⟩ : _ ∧ _ := ⟨pI.cell 0, pI.cell 1⟩
  simp only [List.getElem?_cons_zero, List.getElem?_cons_succ] at c0 c1 c2 c3
  go_wp2_with fail
  clear c0 c1 c2 c3
  refine (eqDisk_same (u, x) _).mono ?_
  rintro e w7 ⟨rfl, b7⟩
  replace bw := belD bw b7
  go_wp2
  go_ret
  exact ⟨rfl, bw⟩

set_option maxHeartbeats 8000000 in
set_option maxRecDepth 100000 in
theorem fnExactFlushDisk_walk (y0 : D2) (w : World) (h0 : y0.fits) :
    Calls Try.prog 6 #[y0.val] w fun e w' => e = .returned (.bool true) ∧ Below w.heap.size w w' := by
  obtain ⟨s, q⟩ := y0
  have pb := lbox_new w s q
  have bw := bel_new w (.cells #[.string s, .string q] 33)
  have kS := specFlushDisk_is s q
  have kI := implFlushDisk_is s q
  generalize flushD (s, q) = R at kS kI
  obtain ⟨⟨u, x⟩, c⟩ := R
  unfold ResD D2.val at kS kI
  simp only at kS kI
  unfold D2.val
  go_enter Try.func6, Try.ntmps6
  go_wp2_with fail
  generalize w.alloc (.cells #[.string s, .string q] 33) = W0 at *
  refine (szDisk_any (s, q) _ h0).mono ?_
  rintro e w1 ⟨⟨r, rfl, hz⟩, b1⟩
  replace pb := pb.below b1
  replace bw := belD bw b1
  clear b1
  rcases hz with rfl | ⟨hr, hd⟩
  · go_wp2
    go_ret
    exact ⟨rfl, bw⟩
  have hn : ¬ r < 0 := by omega
  obtain ⟨c0, c1⟩ : _ ∧ _ := ⟨pb.cell 0, pb.cell 1⟩
  simp only [List.getElem?_cons_zero, List.getElem?_cons_succ] at c0 c1
  go_wp2_with fail
  clear c0 c1
  refine (toDisk_same (s, q) _).mono ?_
  rintro e w2 ⟨rfl, b2⟩
  replace pb := pb.below b2
  replace bw := belD bw b2
  clear b2
  unfold D2.val
  go_wp2_with fail
  refine (kS _ hd).mono ?_
  rintro e w3 ⟨rfl, b3⟩
  replace pb := pb.below b3
  replace bw := belD bw b3
  clear b3 kS
  have pS := Blk.new w3 26 [.string u, .string x]
  have b4 := bel_new w3 (.cells #[.string u, .string x] 26)
  replace pb := pb.below b4
  replace bw := belD bw b4
  clear b4
  obtain ⟨c0, c1⟩ : _ ∧ _ := ⟨pb.cell 0, pb.cell 1⟩
  simp only [List.getElem?_cons_zero, List.getElem?_cons_succ] at c0 c1
  go_wp2_with fail
  clear c0 c1
  generalize w3.heap.size = gS at *
  generalize w3.alloc (.cells #[.string u, .string x] 26) = W4 at *
  refine (toDisk_same (s, q) _).mono ?_
  rintro e w5 ⟨rfl, b5⟩
  replace pS := pS.below b5
  replace bw := belD bw b5
  clear b5 pb
  unfold D2.val
  go_wp2_with fail
  refine (kI _ hd).mono ?_
  rintro e w6 ⟨rfl, b6⟩
  replace pS := pS.below b6
  replace bw := belD bw b6
  clear b6 kI
  have pI := Blk.new w6 26 [.string u, .string x]
  have b4 := bel_new w6 (.cells #[.string u, .string x] 26)
  replace pS := pS.below b4
  replace bw := belD bw b4
  clear b4
  obtain ⟨c0, c1⟩ : _ ∧ _ := ⟨pS.cell 0, pS.cell 1⟩
  obtain ⟨c2, c3⟩ : _ ∧ _ := ⟨pI.cell 0, pI.cell 1⟩
  simp only [List.getElem?_cons_zero, List.getElem?_cons_succ] at c0 c1 c2 c3
  go_wp2_with fail
  clear c0 c1 c2 c3
  refine (eqDisk_same (u, x) _).mono ?_
  rintro e w7 ⟨rfl, b7⟩
  replace bw := belD bw b7
  go_wp2
  go_ret
  exact ⟨rfl, bw⟩

set_option maxHeartbeats 8000000 in
set_option maxRecDepth 100000 in
theorem fnExactCrashDisk_walk (y0 : D2) (k : Int) (h1 : (Lit.int .i64 k).wf = true) (w : World) (h0 : y0.fits) :
    Calls Try.prog 7 #[y0.val, .int .i64 k] w fun e w' => e = .returned (.bool true) ∧ Below w.heap.size w w' := by
  obtain ⟨s, q⟩ := y0
  have pb := lbox_new w s q
  have bw := bel_new w (.cells #[.string s, .string q] 33)
  have kS := specCrashDisk_is s q k
  have kI := implCrashDisk_is s q k
  generalize crashD (s, q) k = R at kS kI
  obtain ⟨⟨u, x⟩, c⟩ := R
  unfold ResD D2.val at kS kI
  simp only at kS kI
  unfold D2.val
  go_enter Try.func7, Try.ntmps7
  go_wp2_with fail
  generalize w.alloc (.cells #[.string s, .string q] 33) = W0 at *
  refine (szDisk_any (s, q) _ h0).mono ?_
  rintro e w1 ⟨⟨r, rfl, hz⟩, b1⟩
  replace pb := pb.below b1
  replace bw := belD bw b1
  clear b1
  rcases hz with rfl | ⟨hr, hd⟩
  · go_wp2
    go_ret
    exact ⟨rfl, bw⟩
  have hn : ¬ r < 0 := by omega
  obtain ⟨c0, c1⟩ : _ ∧ _ := ⟨pb.cell 0, pb.cell 1⟩
  simp only [List.getElem?_cons_zero, List.getElem?_cons_succ] at c0 c1
  go_wp2_with fail
  clear c0 c1
  refine (toDisk_same (s, q) _).mono ?_
  rintro e w2 ⟨rfl, b2⟩
  replace pb := pb.below b2
  replace bw := belD bw b2
  clear b2
  unfold D2.val
  go_wp2_with fail
  refine (kS _ hd).mono ?_
  rintro e w3 ⟨rfl, b3⟩
  replace pb := pb.below b3
  replace bw := belD bw b3
  clear b3 kS
  have pS := Blk.new w3 26 [.string u, .string x]
  have b4 := bel_new w3 (.cells #[.string u, .string x] 26)
  replace pb := pb.below b4
  replace bw := belD bw b4
  clear b4
  obtain ⟨c0, c1⟩ : _ ∧ _ := ⟨pb.cell 0, pb.cell 1⟩
  simp only [List.getElem?_cons_zero, List.getElem?_cons_succ] at c0 c1
  go_wp2_with fail
  clear c0 c1
  generalize w3.heap.size = gS at *
  generalize w3.alloc (.cells #[.string u, .string x] 26) = W4 at *
  refine (toDisk_same (s, q) _).mono ?_
  rintro e w5 ⟨rfl, b5⟩
  replace pS := pS.below b5
  replace bw := belD bw b5
  clear b5 pb
  unfold D2.val
  go_wp2_with fail
  refine (kI _ hd).mono ?_
  rintro e w6 ⟨rfl, b6⟩
  replace pS := pS.below b6
  replace bw := belD bw b6
  clear b6 kI
  have pI := Blk.new w6 26 [.string u, .string x]
  have b4 := bel_new w6 (.cells #[.string u, .string x] 26)
  replace pS := pS.below b4
  replace bw := belD bw b4
  clear b4
  obtain ⟨c0, c1⟩ : _ ∧ _ := ⟨pS.cell 0, pS.cell 1⟩
  obtain ⟨c2, c3⟩ : _ ∧ _ := ⟨pI.cell 0, pI.cell 1⟩
  simp only [List.getElem?_cons_zero, List.getElem?_cons_succ] at c0 c1 c2 c3
  go_wp2_with fail
  clear c0 c1 c2 c3
  refine (eqDisk_same (u, x) _).mono ?_
  rintro e w7 ⟨rfl, b7⟩
  replace bw := belD bw b7
  go_wp2
  go_ret
  exact ⟨rfl, bw⟩

set_option maxHeartbeats 8000000 in
set_option maxRecDepth 100000 in
theorem fnExactCutDisk_walk (y0 : D2) (n : Int) (h1 : (Lit.int .i64 n).wf = true) (w : World) (h0 : y0.fits) :
    Calls Try.prog 8 #[y0.val, .int .i64 n] w fun e w' => e = .returned (.bool true) ∧ Below w.heap.size w w' := by
  obtain ⟨s, q⟩ := y0
  have pb := lbox_new w s q
  have bw := bel_new w (.cells #[.string s, .string q] 33)
  have kS := specCutDisk_is s q n
  have kI := implCutDisk_is s q n
  generalize cutD (s, q) n = R at kS kI
  obtain ⟨⟨u, x⟩, c⟩ := R
  unfold ResD D2.val at kS kI
  simp only at kS kI
  unfold D2.val
  go_enter Try.func8, Try.ntmps8
  go_wp2_with fail
  generalize w.alloc (.cells #[.string s, .string q] 33) = W0 at *
  refine (szDisk_any (s, q) _ h0).mono ?_
  rintro e w1 ⟨⟨r, rfl, hz⟩, b1⟩
  replace pb := pb.below b1
  replace bw := belD bw b1
  clear b1
  rcases hz with rfl | ⟨hr, hd⟩
  · go_wp2
    go_ret
    exact ⟨rfl, bw⟩
  have hn : ¬ r < 0 := by omega
  obtain ⟨c0, c1⟩ : _ ∧ _ := ⟨pb.cell 0, pb.cell 1⟩
  simp only [List.getElem?_cons_zero, List.getElem?_cons_succ] at c0 c1
  go_wp2_with fail
  clear c0 c1
  refine (toDisk_same (s, q) _).mono ?_
  rintro e w2 ⟨rfl, b2⟩
  replace pb := pb.below b2
  replace bw := belD bw b2
  clear b2
  unfold D2.val
  go_wp2_with fail
  refine (kS _ hd).mono ?_
  rintro e w3 ⟨rfl, b3⟩
  replace pb := pb.below b3
  replace bw := belD bw b3
  clear b3 kS
  have pS := Blk.new w3 26 [.string u, .string x]
  have b4 := bel_new w3 (.cells #[.string u, .string x] 26)
  replace pb := pb.below b4
  replace bw := belD bw b4
  clear b4
  obtain ⟨c0, c1⟩ : _ ∧ _ := ⟨pb.cell 0, pb.cell 1⟩
  simp only [List.getElem?_cons_zero, List.getElem?_cons_succ] at c0 c1
  go_wp2_with fail
  clear c0 c1
  generalize w3.heap.size = gS at *
  generalize w3.alloc (.cells #[.string u, .string x] 26) = W4 at *
  refine (toDisk_same (s, q) _).mono ?_
  rintro e w5 ⟨rfl, b5⟩
  replace pS := pS.below b5
  replace bw := belD bw b5
  clear b5 pb
  unfold D2.val
  go_wp2_with fail
  refine (kI _ hd).mono ?_
  rintro e w6 ⟨rfl, b6⟩
  replace pS := pS.below b6
  replace bw := belD bw b6
  clear b6 kI
  have pI := Blk.new w6 26 [.string u, .string x]
  have b4 := bel_new w6 (.cells #[.string u, .string x] 26)
  replace pS := pS.below b4
  replace bw := belD bw b4
  clear b4
  obtain ⟨c0, c1⟩ : _ ∧ _ := ⟨pS.cell 0, pS.cell 1⟩
  obtain ⟨c2, c3⟩ : _ ∧ _ := ⟨pI.cell 0, pI.cell 1⟩
  simp only [List.getElem?_cons_zero, List.getElem?_cons_succ] at c0 c1 c2 c3
  go_wp2_with fail
  clear c0 c1 c2 c3
  refine (eqDisk_same (u, x) _).mono ?_
  rintro e w7 ⟨rfl, b7⟩
  replace bw := belD bw b7
  go_wp2
  go_ret
  exact ⟨rfl, bw⟩

set_option maxHeartbeats 8000000 in
set_option maxRecDepth 100000 in
theorem fnExactReplaceDisk_walk (y0 : D2) (t : ByteArray) (h1 : t.size ≤ maxLen) (w : World) (h0 : y0.fits) :
    Calls Try.prog 9 #[y0.val, .string t] w fun e w' => e = .returned (.bool true) ∧ Below w.heap.size w w' := by
  obtain ⟨s, q⟩ := y0
  unfold maxLen at h1
  have pb := lbox_new w s q
  have bw := bel_new w (.cells #[.string s, .string q] 33)
  have kS := specReplaceDisk_is s q t
  have kI := implReplaceDisk_is s q t
  generalize replD (s, q) t = R at kS kI
  obtain ⟨⟨u, x⟩, c⟩ := R
  unfold ResD D2.val at kS kI
  simp only at kS kI
  unfold D2.val
  go_enter Try.func9, Try.ntmps9
  by_cases hl : 1048576 < t.size
  · have hl2 : (1048576 : Int) < (t.size : Int) := by omega
    go_wp2
    go_ret
    exact ⟨rfl, bw⟩
  have hl2 : ¬ (1048576 : Int) < (t.size : Int) := by omega
  go_wp2_with fail
  generalize w.alloc (.cells #[.string s, .string q] 33) = W0 at *
  refine (szDisk_any (s, q) _ h0).mono ?_
  rintro e w1 ⟨⟨r, rfl, hz⟩, b1⟩
  replace pb := pb.below b1
  replace bw := belD bw b1
  clear b1
  rcases hz with rfl | ⟨hr, hd⟩
  · go_wp2
    go_ret
    exact ⟨rfl, bw⟩
  have hn : ¬ r < 0 := by omega
  obtain ⟨c0, c1⟩ : _ ∧ _ := ⟨pb.cell 0, pb.cell 1⟩
  simp only [List.getElem?_cons_zero, List.getElem?_cons_succ] at c0 c1
  go_wp2_with fail
  clear c0 c1
  refine (toDisk_same (s, q) _).mono ?_
  rintro e w2 ⟨rfl, b2⟩
  replace pb := pb.below b2
  replace bw := belD bw b2
  clear b2
  unfold D2.val
  go_wp2_with fail
  refine (kS _ hd (by omega)).mono ?_
  rintro e w3 ⟨rfl, b3⟩
  replace pb := pb.below b3
  replace bw := belD bw b3
  clear b3 kS
  have pS := Blk.new w3 26 [.string u, .string x]
  have b4 := bel_new w3 (.cells #[.string u, .string x] 26)
  replace pb := pb.below b4
  replace bw := belD bw b4
  clear b4
  obtain ⟨c0, c1⟩ : _ ∧ _ := ⟨pb.cell 0, pb.cell 1⟩
  simp only [List.getElem?_cons_zero, List.getElem?_cons_succ] at c0 c1
  go_wp2_with fail
  clear c0 c1
  generalize w3.heap.size = gS at *
  generalize w3.alloc (.cells #[.string u, .string x] 26) = W4 at *
  refine (toDisk_same (s, q) _).mono ?_
  rintro e w5 ⟨rfl, b5⟩
  replace pS := pS.below b5
  replace bw := belD bw b5
  clear b5 pb
  unfold D2.val
  go_wp2_with fail
  refine (kI _ hd (by omega)).mono ?_
  rintro e w6 ⟨rfl, b6⟩
  replace pS := pS.below b6
  replace bw := belD bw b6
  clear b6 kI
  have pI := Blk.new w6 26 [.string u, .string x]
  have b4 := bel_new w6 (.cells #[.string u, .string x] 26)
  replace pS := pS.below b4
  replace bw := belD bw b4
  clear b4
  obtain ⟨c0, c1⟩ : _ ∧ _ := ⟨pS.cell 0, pS.cell 1⟩
  obtain ⟨c2, c3⟩ : _ ∧ _ := ⟨pI.cell 0, pI.cell 1⟩
  simp only [List.getElem?_cons_zero, List.getElem?_cons_succ] at c0 c1 c2 c3
  go_wp2_with fail
  clear c0 c1 c2 c3
  refine (eqDisk_same (u, x) _).mono ?_
  rintro e w7 ⟨rfl, b7⟩
  replace bw := belD bw b7
  go_wp2
  go_ret
  exact ⟨rfl, bw⟩

set_option maxHeartbeats 8000000 in
set_option maxRecDepth 100000 in
theorem fnExactDiskOK_walk (y0 : D2) (w : World) (h0 : y0.fits) :
    Calls Try.prog 4 #[y0.val] w fun e w' => e = .returned (.bool true) ∧ Below w.heap.size w w' := by
  obtain ⟨s, q⟩ := y0
  have pb := lbox_new w s q
  have bw := bel_new w (.cells #[.string s, .string q] 33)
  unfold D2.val
  go_enter Try.func4, Try.ntmps4
  go_wp2_with fail
  generalize w.alloc (.cells #[.string s, .string q] 33) = W0 at *
  refine (szDisk_any (s, q) _ h0).mono ?_
  rintro e w1 ⟨⟨r, rfl, hz⟩, b1⟩
  replace pb := pb.below b1
  replace bw := belD bw b1
  clear b1
  rcases hz with rfl | ⟨hr, hd⟩
  · go_wp2
    go_ret
    exact ⟨rfl, bw⟩
  have hn : ¬ r < 0 := by omega
  have kS := fun w => specDiskOK_is (s, q) w hd
  have kI := fun w => implDiskOK_is (s, q) w hd
  generalize decide ((s, q).1.size + (s, q).2.size ≤ 60000) = B at kS kI
  obtain ⟨c0, c1⟩ : _ ∧ _ := ⟨pb.cell 0, pb.cell 1⟩
  simp only [List.getElem?_cons_zero, List.getElem?_cons_succ] at c0 c1
  go_wp2_with fail
  clear c0 c1
  refine (toDisk_same (s, q) _).mono ?_
  rintro e w2 ⟨rfl, b2⟩
  replace pb := pb.below b2
  replace bw := belD bw b2
  clear b2
  unfold D2.val
  go_wp2_with fail
  refine (kS _).mono ?_
  rintro e w3 ⟨rfl, b3⟩
  replace pb := pb.below b3
  replace bw := belD bw b3
  clear b3 kS
  obtain ⟨c0, c1⟩ : _ ∧ _ := ⟨pb.cell 0, pb.cell 1⟩
  simp only [List.getElem?_cons_zero, List.getElem?_cons_succ] at c0 c1
  go_wp2_with fail
  clear c0 c1
  refine (toDisk_same (s, q) _).mono ?_
  rintro e w5 ⟨rfl, b5⟩
  replace bw := belD bw b5
  clear b5 pb
  unfold D2.val
  go_wp2_with fail
  refine (kI _).mono ?_
  rintro e w6 ⟨rfl, b6⟩
  replace bw := belD bw b6
  clear b6 kI
  go_wp2
  go_ret
  exact ⟨rfl, bw⟩

end Go.Proofs.Ytkfaodbkgahgbaa
