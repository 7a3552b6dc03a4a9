
/-
  The calls on disks, the specification: what each answers.
-/
import Derived.Test.YtkfaodbkgahgbaaDskF
namespace Go.Proofs.Ytkfaodbkgahgbaa
open Go.RowKit
set_option linter.unusedVariables false
set_option linter.unusedSimpArgs false

set_option maxHeartbeats 4000000 in
set_option maxRecDepth 100000 in
theorem specDiskOK_is (d : D2) (w : World) (hd : d.few) :
    Calls Try.prog 19 #[d.val] w fun e w' => e = .returned (.bool (decide (d.1.size + d.2.size ≤ 60000))) ∧ Below w.heap.size w w' := by
  obtain ⟨s, q⟩ := d
  unfold D2.few at hd
  unfold D2.val
  simp only at hd ⊢
  have q1 : IntKind.i64.wrap ((s.size : Int) + (q.size : Int)) = (s.size : Int) + (q.size : Int) := IntWalk.i64_in _ ⟨by omega, by omega⟩
  have hx : decide ((s.size : Int) + (q.size : Int) ≤ 60000) = decide (s.size + q.size ≤ 60000) := by congr 1; apply propext; omega
  go_enter Try.func19, Try.ntmps19
  go_wp2
  go_ret
  exact ⟨rfl, by go_grown⟩

set_option maxHeartbeats 4000000 in
set_option maxRecDepth 100000 in
theorem l12Flush_is (s q : ByteArray) (w : World) (hd : s.size + q.size ≤ 1048576) :
    Calls Try.prog 35 #[.agg #[.string s, .string q]] w fun e w' => e = .returned (D2.val (s ++ q, noT)) ∧ Below w.heap.size w w' := by
  have hF := FrD.new w (s, q)
  have ha := fun W => run_string_add_sum (P := Try.prog) W s q (by omega)
  obtain ⟨r0, r1, c2, c3, c4, c5⟩ := hF.cells
  unfold D2.val
  go_enter Try.func35, Try.ntmps35
  go_wp2
  go_returns
  exact ⟨rfl, by go_grown⟩

set_option maxHeartbeats 4000000 in
set_option maxRecDepth 100000 in
theorem l12Crash_is (s q : ByteArray) (k : Int) (w : World) (hd : s.size + q.size ≤ 1048576) (hk : 0 ≤ k) :
    Calls Try.prog 37 #[.agg #[.string s, .string q], .int .i64 k] w fun e w' => e = .returned (D2.val (s ++ q.extract 0 (min k (q.size : Int)).toNat, noT)) ∧ Below w.heap.size w w' := by
  have hF := FrD.new w (s, q)
  have hjx : (q.extract 0 (min k (q.size : Int)).toNat).size ≤ q.size := by rw [ByteArray.size_extract]; omega
  have ha := fun W => run_string_add_sum (P := Try.prog) W s (q.extract 0 (min k (q.size : Int)).toNat) (by omega)
  obtain ⟨r0, r1, c2, c3, c4, c5⟩ := hF.cells
  unfold D2.val
  go_enter Try.func37, Try.ntmps37
  go_wp2
  go_region
  all_goals go_wp2
  go_returns
  exact ⟨rfl, by go_grown⟩

set_option maxHeartbeats 4000000 in
set_option maxRecDepth 100000 in
theorem specFlushDisk_is (s q : ByteArray) (w : World) (hd : s.size + q.size ≤ 1048576) :
    Calls Try.prog 23 #[.agg #[.string s, .string q]] w fun e w' => e = ResD (flushD (s, q)) ∧ Below w.heap.size w w' := by
  have hF := FrD.new w (s, q)
  go_enter Try.func23, Try.ntmps23
  go_wp2_with fail
  refine (specDiskOK_is (s, q) _ hd).mono ?_
  rintro e w1 ⟨rfl, b1⟩
  replace hF := hF.below b1
  clear b1
  by_cases h : s.size + q.size ≤ 60000
  · have hk : decide (s.size + q.size ≤ 60000) = true := decide_eq_true h
    simp only [hk]
    have hA : flushD (s, q) = ((s ++ q, noT), 0) := by unfold flushD; simp [h]
    obtain ⟨r0, r1, _⟩ := hF.cells
    go_wp2_with fail
    refine (l12Flush_is s q _ hd).mono ?_
    rintro e w2 ⟨rfl, b2⟩
    clear r0 r1
    unfold D2.val
    replace hF := hF.below b2
    clear b2
    obtain ⟨_, _, c2, c3, c4, c5⟩ := hF.cells
    go_wp2
    obtain ⟨W, hW, e0, e1, bW⟩ := hF.fin ((s ++ q)) (noT)
    rw [← hW]
    clear hW
    refine bodyPost_ret (by simp [results, Try.results23, go_sem, e0, e1]; try rfl) rfl ?_
    exact ⟨by first | rfl | (rw [hA]; rfl), bW⟩
  · have hk : decide (s.size + q.size ≤ 60000) = false := decide_eq_false h
    simp only [hk]
    have hA : flushD (s, q) = (noD, 1) := by unfold flushD; simp [h]
    obtain ⟨_, _, c2, c3, c4, c5⟩ := hF.cells
    go_wp2
    obtain ⟨W, hW, e0, e1, bW⟩ := hF.fin (noT) (noT)
    rw [← hW]
    clear hW
    refine bodyPost_ret (by simp [results, Try.results23, go_sem, e0, e1]; try rfl) rfl ?_
    exact ⟨by first | rfl | (rw [hA]; rfl), bW⟩

set_option maxHeartbeats 4000000 in
set_option maxRecDepth 100000 in
theorem specCrashDisk_is (s q : ByteArray) (k : Int) (w : World) (hd : s.size + q.size ≤ 1048576) :
    Calls Try.prog 24 #[.agg #[.string s, .string q], .int .i64 k] w fun e w' => e = ResD (crashD (s, q) k) ∧ Below w.heap.size w w' := by
  have hF := FrD.new w (s, q)
  go_enter Try.func24, Try.ntmps24
  go_wp2_with fail
  refine (specDiskOK_is (s, q) _ hd).mono ?_
  rintro e w1 ⟨rfl, b1⟩
  replace hF := hF.below b1
  clear b1
  by_cases h : s.size + q.size ≤ 60000
  · have hk : decide (s.size + q.size ≤ 60000) = true := decide_eq_true h
    simp only [hk]
    by_cases hin : 0 ≤ k ∧ k ≤ 60000
    · have hA : crashD (s, q) k = ((s ++ q.extract 0 (min k (q.size : Int)).toNat, noT), 0) := by unfold crashD; simp [h, hin]
      go_wp2_with fail
      refine (l01In_yes k 0 60000 _ hin).mono ?_
      rintro e w2 ⟨rfl, rfl⟩
      obtain ⟨r0, r1, _⟩ := hF.cells
      go_wp2_with fail
      refine (l12Crash_is s q k _ hd hin.1).mono ?_
      rintro e w2 ⟨rfl, b2⟩
      clear r0 r1
      unfold D2.val
      replace hF := hF.below b2
      clear b2
      obtain ⟨_, _, c2, c3, c4, c5⟩ := hF.cells
      go_wp2
      obtain ⟨W, hW, e0, e1, bW⟩ := hF.fin ((s ++ q.extract 0 (min k (q.size : Int)).toNat)) (noT)
      rw [← hW]
      clear hW
      refine bodyPost_ret (by simp [results, Try.results24, go_sem, e0, e1]; try rfl) rfl ?_
      exact ⟨by first | rfl | (rw [hA]; rfl), bW⟩
    · go_wp2_with fail
      refine (l01In_no k 0 60000 _ hin).mono ?_
      rintro e w2 ⟨rfl, rfl⟩
      have hA : crashD (s, q) k = (noD, 4) := by unfold crashD; simp [h, hin]
      obtain ⟨_, _, c2, c3, c4, c5⟩ := hF.cells
      go_wp2
      obtain ⟨W, hW, e0, e1, bW⟩ := hF.fin (noT) (noT)
      rw [← hW]
      clear hW
      refine bodyPost_ret (by simp [results, Try.results24, go_sem, e0, e1]; try rfl) rfl ?_
      exact ⟨by first | rfl | (rw [hA]; rfl), bW⟩
  · have hk : decide (s.size + q.size ≤ 60000) = false := decide_eq_false h
    simp only [hk]
    have hA : crashD (s, q) k = (noD, 1) := by unfold crashD; simp [h]
    obtain ⟨_, _, c2, c3, c4, c5⟩ := hF.cells
    go_wp2
    obtain ⟨W, hW, e0, e1, bW⟩ := hF.fin (noT) (noT)
    rw [← hW]
    clear hW
    refine bodyPost_ret (by simp [results, Try.results24, go_sem, e0, e1]; try rfl) rfl ?_
    exact ⟨by first | rfl | (rw [hA]; rfl), bW⟩

set_option maxHeartbeats 4000000 in
set_option maxRecDepth 100000 in
theorem specReplaceDisk_is (s q : ByteArray) (t : ByteArray) (w : World) (hd : s.size + q.size ≤ 1048576) (ht : t.size ≤ 1048576) :
    Calls Try.prog 26 #[.agg #[.string s, .string q], .string t] w fun e w' => e = ResD (replD (s, q) t) ∧ Below w.heap.size w w' := by
  have hF := FrD.new w (s, q)
  go_enter Try.func26, Try.ntmps26
  by_cases hl : 65536 < t.size
  · have hl2 : (65536 : Int) < (t.size : Int) := by omega
    have hA : replD (s, q) t = (noD, 2) := by unfold replD; simp [hl]
    go_wp2
    go_returns
    exact ⟨by first | rfl | (rw [hA]; rfl), by go_grown⟩
  have hl2 : ¬ (65536 : Int) < (t.size : Int) := by omega
  go_wp2_with fail
  refine (specDiskOK_is (s, q) _ hd).mono ?_
  rintro e w1 ⟨rfl, b1⟩
  replace hF := hF.below b1
  clear b1
  by_cases h : s.size + q.size ≤ 60000
  · have hk : decide (s.size + q.size ≤ 60000) = true := decide_eq_true h
    simp only [hk]
    by_cases hr : t.size ≤ 60000
    · have hA : replD (s, q) t = ((t, noT), 0) := by unfold replD; simp [hl, h, hr]
      have hr2 : ¬ (60000 : Int) < (t.size : Int) := by omega
      obtain ⟨r0, r1, c2, c3, c4, c5⟩ := hF.cells
      go_wp2
      obtain ⟨W, hW, e0, e1, bW⟩ := hF.fin (t) (noT)
      rw [← hW]
      clear hW
      refine bodyPost_ret (by simp [results, Try.results26, go_sem, e0, e1]; try rfl) rfl ?_
      exact ⟨by first | rfl | (rw [hA]; rfl), bW⟩
    · have hA : replD (s, q) t = ((s, q), 7) := by unfold replD; simp [hl, h, hr]
      have hr2 : (60000 : Int) < (t.size : Int) := by omega
      obtain ⟨r0, r1, c2, c3, c4, c5⟩ := hF.cells
      go_wp2
      obtain ⟨W, hW, e0, e1, bW⟩ := hF.fin (s) (q)
      rw [← hW]
      clear hW
      refine bodyPost_ret (by simp [results, Try.results26, go_sem, e0, e1]; try rfl) rfl ?_
      exact ⟨by first | rfl | (rw [hA]; rfl), bW⟩
  · have hk : decide (s.size + q.size ≤ 60000) = false := decide_eq_false h
    simp only [hk]
    have hA : replD (s, q) t = (noD, 1) := by unfold replD; simp [hl, h]
    obtain ⟨_, _, c2, c3, c4, c5⟩ := hF.cells
    go_wp2
    obtain ⟨W, hW, e0, e1, bW⟩ := hF.fin (noT) (noT)
    rw [← hW]
    clear hW
    refine bodyPost_ret (by simp [results, Try.results26, go_sem, e0, e1]; try rfl) rfl ?_
    exact ⟨by first | rfl | (rw [hA]; rfl), bW⟩

set_option maxHeartbeats 4000000 in
set_option maxRecDepth 100000 in
theorem specAppendDisk_is (s q : ByteArray) (t : ByteArray) (w : World) (hd : s.size + q.size ≤ 1048576) (ht : t.size ≤ 1048576) :
    Calls Try.prog 21 #[.agg #[.string s, .string q], .string t] w fun e w' => e = ResD (appD (s, q) t) ∧ Below w.heap.size w w' := by
  have hF := FrD.new w (s, q)
  go_enter Try.func21, Try.ntmps21
  by_cases hl : 65536 < t.size
  · have hl2 : (65536 : Int) < (t.size : Int) := by omega
    have hA : appD (s, q) t = (noD, 2) := by unfold appD; simp [hl]
    go_wp2
    go_returns
    exact ⟨by first | rfl | (rw [hA]; rfl), by go_grown⟩
  have hl2 : ¬ (65536 : Int) < (t.size : Int) := by omega
  go_wp2_with fail
  refine (specDiskOK_is (s, q) _ hd).mono ?_
  rintro e w1 ⟨rfl, b1⟩
  replace hF := hF.below b1
  clear b1
  by_cases h : s.size + q.size ≤ 60000
  · have hk : decide (s.size + q.size ≤ 60000) = true := decide_eq_true h
    simp only [hk]
    have q1 : IntKind.i64.wrap ((s.size : Int) + (q.size : Int)) = (s.size : Int) + (q.size : Int) := IntWalk.i64_in _ ⟨by omega, by omega⟩
    have q2 : IntKind.i64.wrap ((s.size : Int) + (q.size : Int) + (t.size : Int)) = (s.size : Int) + (q.size : Int) + (t.size : Int) := IntWalk.i64_in _ ⟨by omega, by omega⟩
    have ha := fun W => run_string_add_sum (P := Try.prog) W q t (by omega)
    by_cases hr : s.size + q.size + t.size ≤ 60000
    · have hA : appD (s, q) t = ((s, q ++ t), 0) := by unfold appD; simp [hl, h, hr]
      have hr2 : ¬ (60000 : Int) < (s.size : Int) + (q.size : Int) + (t.size : Int) := by omega
      obtain ⟨r0, r1, c2, c3, c4, c5⟩ := hF.cells
      go_wp2
      obtain ⟨W, hW, e0, e1, bW⟩ := hF.fin (s) ((q ++ t))
      rw [← hW]
      clear hW
      refine bodyPost_ret (by simp [results, Try.results21, go_sem, e0, e1]; try rfl) rfl ?_
      exact ⟨by first | rfl | (rw [hA]; rfl), bW⟩
    · have hA : appD (s, q) t = ((s, q), 7) := by unfold appD; simp [hl, h, hr]
      have hr2 : (60000 : Int) < (s.size : Int) + (q.size : Int) + (t.size : Int) := by omega
      obtain ⟨r0, r1, c2, c3, c4, c5⟩ := hF.cells
      go_wp2
      obtain ⟨W, hW, e0, e1, bW⟩ := hF.fin (s) (q)
      rw [← hW]
      clear hW
      refine bodyPost_ret (by simp [results, Try.results21, go_sem, e0, e1]; try rfl) rfl ?_
      exact ⟨by first | rfl | (rw [hA]; rfl), bW⟩
  · have hk : decide (s.size + q.size ≤ 60000) = false := decide_eq_false h
    simp only [hk]
    have hA : appD (s, q) t = (noD, 1) := by unfold appD; simp [hl, h]
    obtain ⟨_, _, c2, c3, c4, c5⟩ := hF.cells
    go_wp2
    obtain ⟨W, hW, e0, e1, bW⟩ := hF.fin (noT) (noT)
    rw [← hW]
    clear hW
    refine bodyPost_ret (by simp [results, Try.results21, go_sem, e0, e1]; try rfl) rfl ?_
    exact ⟨by first | rfl | (rw [hA]; rfl), bW⟩

end Go.Proofs.Ytkfaodbkgahgbaa
