
/-
  The calls on disks, the program: what each answers.
-/
import Derived.Test.YtkfaodbkgahgbaaDskF
namespace Go.Proofs.Ytkfaodbkgahgbaa
open Go.RowKit
set_option linter.unusedVariables false
set_option linter.unusedSimpArgs false

set_option maxHeartbeats 4000000 in
set_option maxRecDepth 100000 in
theorem implFlushDisk_is (s q : ByteArray) (w : World) (hd : s.size + q.size ≤ 1048576) :
    Calls Try.prog 13 #[.agg #[.string s, .string q]] w fun e w' => e = ResD (flushD (s, q)) ∧ Below w.heap.size w w' := by
  have hF := FrD.new w (s, q)
  go_enter Try.func13, Try.ntmps13
  go_wp2_with fail
  refine (implDiskOK_is (s, q) _ hd).mono ?_
  rintro e w1 ⟨rfl, b1⟩
  replace hF := hF.below b1
  clear b1
  by_cases h : s.size + q.size ≤ 60000
  · have hk : decide (s.size + q.size ≤ 60000) = true := decide_eq_true h
    simp only [hk]
    have hA : flushD (s, q) = ((s ++ q, noT), 0) := by unfold flushD; simp [h]
    go_wp2_with fail
    refine (flush_is _ (s, q) _ hd hF.1).mono ?_
    rintro e w2 ⟨rfl, b2, g2⟩
    replace hF := hF.grown g2 b2
    clear b2 g2
    go_wp2_with fail
    refine (own_is _ (s ++ q, noT) _ (few_app s q h) hF.1).mono ?_
    rintro e w3 ⟨rfl, b3⟩
    replace hF := hF.below b3
    clear b3
    unfold D2.val
    obtain ⟨_, _, c2, c3, c4, c5⟩ := hF.cells
    go_wp2
    obtain ⟨W, hW, e0, e1, bW⟩ := hF.fin (s ++ q) (noT)
    rw [← hW]
    clear hW
    refine bodyPost_ret (by simp [results, Try.results13, go_sem, e0, e1]; try rfl) rfl ?_
    exact ⟨by first | rfl | (rw [hA]; rfl), bW⟩
  · have hk : decide (s.size + q.size ≤ 60000) = false := decide_eq_false h
    simp only [hk]
    have hA : flushD (s, q) = (noD, 1) := by unfold flushD; simp [h]
    obtain ⟨_, _, c2, c3, c4, c5⟩ := hF.cells
    go_wp2
    obtain ⟨W, hW, e0, e1, bW⟩ := hF.fin (noT) (noT)
    rw [← hW]
    clear hW
    refine bodyPost_ret (by simp [results, Try.results13, go_sem, e0, e1]; try rfl) rfl ?_
    exact ⟨by first | rfl | (rw [hA]; rfl), bW⟩

set_option maxHeartbeats 4000000 in
set_option maxRecDepth 100000 in
theorem implAppendDisk_is (s q : ByteArray) (t : ByteArray) (w : World) (hd : s.size + q.size ≤ 1048576) (ht : t.size ≤ 1048576) :
    Calls Try.prog 12 #[.agg #[.string s, .string q], .string t] w fun e w' => e = ResD (appD (s, q) t) ∧ Below w.heap.size w w' := by
  have hF := FrD.new w (s, q)
  go_enter Try.func12, Try.ntmps12
  by_cases hl : 65536 < t.size
  · have hl2 : (65536 : Int) < (t.size : Int) := by omega
    have hA : appD (s, q) t = (noD, 2) := by unfold appD; simp [hl]
    go_wp2
    go_returns
    exact ⟨by first | rfl | (rw [hA]; rfl), by go_grown⟩
  have hl2 : ¬ (65536 : Int) < (t.size : Int) := by omega
  go_wp2_with fail
  refine (implDiskOK_is (s, q) _ hd).mono ?_
  rintro e w1 ⟨rfl, b1⟩
  replace hF := hF.below b1
  clear b1
  by_cases h : s.size + q.size ≤ 60000
  · have hk : decide (s.size + q.size ≤ 60000) = true := decide_eq_true h
    simp only [hk]
    by_cases hr : s.size + q.size + t.size ≤ 60000
    · have hA : appD (s, q) t = ((s, q ++ t), 0) := by unfold appD; simp [hl, h, hr]
      go_wp2_with fail
      refine (add_yes _ (s, q) t _ hd hF.1 hr).mono ?_
      rintro e w2 ⟨rfl, b2, g2⟩
      replace hF := hF.grown g2 b2
      clear b2 g2
      go_wp2_with fail
      refine (own_is _ (s, q ++ t) _ (few_app2 s q t hr) hF.1).mono ?_
      rintro e w3 ⟨rfl, b3⟩
      replace hF := hF.below b3
      clear b3
      unfold D2.val
      obtain ⟨_, _, c2, c3, c4, c5⟩ := hF.cells
      go_wp2
      obtain ⟨W, hW, e0, e1, bW⟩ := hF.fin (s) (q ++ t)
      rw [← hW]
      clear hW
      refine bodyPost_ret (by simp [results, Try.results12, go_sem, e0, e1]; try rfl) rfl ?_
      exact ⟨by first | rfl | (rw [hA]; rfl), bW⟩
    · have hA : appD (s, q) t = ((s, q), 7) := by unfold appD; simp [hl, h, hr]
      go_wp2_with fail
      refine (add_no _ (s, q) t _ hd hF.1 hr ht).mono ?_
      rintro e w2 ⟨rfl, b2⟩
      replace hF := hF.below b2
      clear b2
      go_wp2_with fail
      refine (own_is _ (s, q) _ (hd) hF.1).mono ?_
      rintro e w3 ⟨rfl, b3⟩
      replace hF := hF.below b3
      clear b3
      unfold D2.val
      obtain ⟨_, _, c2, c3, c4, c5⟩ := hF.cells
      go_wp2
      obtain ⟨W, hW, e0, e1, bW⟩ := hF.fin (s) (q)
      rw [← hW]
      clear hW
      refine bodyPost_ret (by simp [results, Try.results12, go_sem, e0, e1]; try rfl) rfl ?_
      exact ⟨by first | rfl | (rw [hA]; rfl), bW⟩
  · have hk : decide (s.size + q.size ≤ 60000) = false := decide_eq_false h
    simp only [hk]
    have hA : appD (s, q) t = (noD, 1) := by unfold appD; simp [hl, h]
    obtain ⟨_, _, c2, c3, c4, c5⟩ := hF.cells
    go_wp2
    obtain ⟨W, hW, e0, e1, bW⟩ := hF.fin (noT) (noT)
    rw [← hW]
    clear hW
    refine bodyPost_ret (by simp [results, Try.results12, go_sem, e0, e1]; try rfl) rfl ?_
    exact ⟨by first | rfl | (rw [hA]; rfl), bW⟩

set_option maxHeartbeats 4000000 in
set_option maxRecDepth 100000 in
theorem implCrashDisk_is (s q : ByteArray) (k : Int) (w : World) (hd : s.size + q.size ≤ 1048576) :
    Calls Try.prog 14 #[.agg #[.string s, .string q], .int .i64 k] w fun e w' => e = ResD (crashD (s, q) k) ∧ Below w.heap.size w w' := by
  have hF := FrD.new w (s, q)
  go_enter Try.func14, Try.ntmps14
  go_wp2_with fail
  refine (implDiskOK_is (s, q) _ hd).mono ?_
  rintro e w1 ⟨rfl, b1⟩
  replace hF := hF.below b1
  clear b1
  by_cases h : s.size + q.size ≤ 60000
  · have hk : decide (s.size + q.size ≤ 60000) = true := decide_eq_true h
    simp only [hk]
    by_cases hk0 : k < 0
    · have hin : ¬ (0 ≤ k ∧ k ≤ 60000) := by omega
      have hA : crashD (s, q) k = (noD, 4) := by unfold crashD; simp [h, hin]
      obtain ⟨_, _, c2, c3, c4, c5⟩ := hF.cells
      go_wp2
      obtain ⟨W, hW, e0, e1, bW⟩ := hF.fin (noT) (noT)
      rw [← hW]
      clear hW
      refine bodyPost_ret (by simp [results, Try.results14, go_sem, e0, e1]; try rfl) rfl ?_
      exact ⟨by first | rfl | (rw [hA]; rfl), bW⟩
    by_cases hk1 : 60000 < k
    · have hin : ¬ (0 ≤ k ∧ k ≤ 60000) := by omega
      have hA : crashD (s, q) k = (noD, 4) := by unfold crashD; simp [h, hin]
      obtain ⟨_, _, c2, c3, c4, c5⟩ := hF.cells
      go_wp2
      obtain ⟨W, hW, e0, e1, bW⟩ := hF.fin (noT) (noT)
      rw [← hW]
      clear hW
      refine bodyPost_ret (by simp [results, Try.results14, go_sem, e0, e1]; try rfl) rfl ?_
      exact ⟨by first | rfl | (rw [hA]; rfl), bW⟩
    have hin : 0 ≤ k ∧ k ≤ 60000 := by omega
    have hA : crashD (s, q) k = ((s ++ q.extract 0 (min k (q.size : Int)).toNat, noT), 0) := by unfold crashD; simp [h, hin]
    go_wp2_with fail
    refine (settle_is _ (s, q) k (min k (q.size : Int)).toNat _ hd hF.1 hin.1 (by simp only; omega)).mono ?_
    rintro e w2 ⟨rfl, b2, g2⟩
    replace hF := hF.grown g2 b2
    clear b2 g2
    go_wp2_with fail
    refine (own_is _ (s ++ q.extract 0 (min k (q.size : Int)).toNat, noT) _ (few_ext s q _ h) hF.1).mono ?_
    rintro e w3 ⟨rfl, b3⟩
    replace hF := hF.below b3
    clear b3
    unfold D2.val
    obtain ⟨_, _, c2, c3, c4, c5⟩ := hF.cells
    go_wp2
    obtain ⟨W, hW, e0, e1, bW⟩ := hF.fin (s ++ q.extract 0 (min k (q.size : Int)).toNat) (noT)
    rw [← hW]
    clear hW
    refine bodyPost_ret (by simp [results, Try.results14, go_sem, e0, e1]; try rfl) rfl ?_
    exact ⟨by first | rfl | (rw [hA]; rfl), bW⟩
  · have hk : decide (s.size + q.size ≤ 60000) = false := decide_eq_false h
    simp only [hk]
    have hA : crashD (s, q) k = (noD, 1) := by unfold crashD; simp [h]
    obtain ⟨_, _, c2, c3, c4, c5⟩ := hF.cells
    go_wp2
    obtain ⟨W, hW, e0, e1, bW⟩ := hF.fin (noT) (noT)
    rw [← hW]
    clear hW
    refine bodyPost_ret (by simp [results, Try.results14, go_sem, e0, e1]; try rfl) rfl ?_
    exact ⟨by first | rfl | (rw [hA]; rfl), bW⟩

set_option maxHeartbeats 4000000 in
set_option maxRecDepth 100000 in
theorem implReplaceDisk_is (s q : ByteArray) (t : ByteArray) (w : World) (hd : s.size + q.size ≤ 1048576) (ht : t.size ≤ 1048576) :
    Calls Try.prog 16 #[.agg #[.string s, .string q], .string t] w fun e w' => e = ResD (replD (s, q) t) ∧ Below w.heap.size w w' := by
  have hF := FrD.new w (s, q)
  go_enter Try.func16, Try.ntmps16
  by_cases hl : 65536 < t.size
  · have hl2 : (65536 : Int) < (t.size : Int) := by omega
    have hA : replD (s, q) t = (noD, 2) := by unfold replD; simp [hl]
    go_wp2
    go_returns
    exact ⟨by first | rfl | (rw [hA]; rfl), by go_grown⟩
  have hl2 : ¬ (65536 : Int) < (t.size : Int) := by omega
  go_wp2_with fail
  refine (implDiskOK_is (s, q) _ hd).mono ?_
  rintro e w1 ⟨rfl, b1⟩
  replace hF := hF.below b1
  clear b1
  by_cases h : s.size + q.size ≤ 60000
  · have hk : decide (s.size + q.size ≤ 60000) = true := decide_eq_true h
    simp only [hk]
    by_cases hr : t.size ≤ 60000
    · have hA : replD (s, q) t = ((t, noT), 0) := by unfold replD; simp [hl, h, hr]
      go_wp2_with fail
      refine (replace_yes _ (s, q) t _ hF.1 hr).mono ?_
      rintro e w2 ⟨rfl, b2, g2⟩
      replace hF := hF.grown g2 b2
      clear b2 g2
      go_wp2_with fail
      refine (own_is _ (t, noT) _ (few_one t hr) hF.1).mono ?_
      rintro e w3 ⟨rfl, b3⟩
      replace hF := hF.below b3
      clear b3
      unfold D2.val
      obtain ⟨_, _, c2, c3, c4, c5⟩ := hF.cells
      go_wp2
      obtain ⟨W, hW, e0, e1, bW⟩ := hF.fin (t) (noT)
      rw [← hW]
      clear hW
      refine bodyPost_ret (by simp [results, Try.results16, go_sem, e0, e1]; try rfl) rfl ?_
      exact ⟨by first | rfl | (rw [hA]; rfl), bW⟩
    · have hA : replD (s, q) t = ((s, q), 7) := by unfold replD; simp [hl, h, hr]
      go_wp2_with fail
      refine (replace_no _ (s, q) t _ hr ht).mono ?_
      rintro e w2 ⟨rfl, b2⟩
      replace hF := hF.below b2
      clear b2
      go_wp2_with fail
      refine (own_is _ (s, q) _ (hd) hF.1).mono ?_
      rintro e w3 ⟨rfl, b3⟩
      replace hF := hF.below b3
      clear b3
      unfold D2.val
      obtain ⟨_, _, c2, c3, c4, c5⟩ := hF.cells
      go_wp2
      obtain ⟨W, hW, e0, e1, bW⟩ := hF.fin (s) (q)
      rw [← hW]
      clear hW
      refine bodyPost_ret (by simp [results, Try.results16, go_sem, e0, e1]; try rfl) rfl ?_
      exact ⟨by first | rfl | (rw [hA]; rfl), bW⟩
  · have hk : decide (s.size + q.size ≤ 60000) = false := decide_eq_false h
    simp only [hk]
    have hA : replD (s, q) t = (noD, 1) := by unfold replD; simp [hl, h]
    obtain ⟨_, _, c2, c3, c4, c5⟩ := hF.cells
    go_wp2
    obtain ⟨W, hW, e0, e1, bW⟩ := hF.fin (noT) (noT)
    rw [← hW]
    clear hW
    refine bodyPost_ret (by simp [results, Try.results16, go_sem, e0, e1]; try rfl) rfl ?_
    exact ⟨by first | rfl | (rw [hA]; rfl), bW⟩

end Go.Proofs.Ytkfaodbkgahgbaa
