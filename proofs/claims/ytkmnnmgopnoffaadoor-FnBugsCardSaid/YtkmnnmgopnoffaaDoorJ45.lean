/-
  FnBugs, part 45 of 50 (RbW).
-/
import Derived.Test.YtkmnnmgopnoffaaDoorJ43
import Derived.Test.YtkmnnmgopnoffaaDoorJ44

/-
  Both sides' ReadBug; the law's walk.
-/
namespace Go.Proofs.YtkmnnmgopnoffaaDoor
open Go.RowKit
set_option linter.unusedVariables false
set_option linter.unusedSimpArgs false

/-- What ReadBug answers. -/
def RbOut (s : ByteArray) (e : Ending) : Prop :=
  (65536 < s.size ∧ e = .returned (.tuple #[I3.val (0, 0, 0), .int .i64 2])) ∨
  (s.size ≤ 65536 ∧ ((∃ x : I3, IsBug (pcs s) x ∧ e = .returned (.tuple #[x.val, .int .i64 0])) ∨ (NoBug (pcs s) ∧ e = .returned (.tuple #[I3.val (0, 0, 0), .int .i64 3]))))
theorem RbOut.same {s : ByteArray} {e e' : Ending} (h : RbOut s e) (k : RbOut s e') : ∃ (y : I3) (c : Int), e = .returned (.tuple #[y.val, .int .i64 c]) ∧ e' = .returned (.tuple #[y.val, .int .i64 c]) := by
  rcases h with ⟨h1, rfl⟩ | ⟨h1, ⟨x, hx, rfl⟩ | ⟨hx, rfl⟩⟩
  · rcases k with ⟨_, rfl⟩ | ⟨k1, _⟩
    · exact ⟨_, _, rfl, rfl⟩
    · omega
  · rcases k with ⟨k1, _⟩ | ⟨_, ⟨y, hy, rfl⟩ | ⟨hy, rfl⟩⟩
    · omega
    · rw [hx.only hy]; exact ⟨_, _, rfl, rfl⟩
    · exact absurd hx (hy x)
  · rcases k with ⟨k1, _⟩ | ⟨_, ⟨y, hy, rfl⟩ | ⟨hy, rfl⟩⟩
    · omega
    · exact absurd hy (hx y)
    · exact ⟨_, _, rfl, rfl⟩


set_option maxHeartbeats 2000000 in
set_option maxRecDepth 100000 in
theorem specReadBug_any (s : ByteArray) (w : World) (hs : s.size ≤ 1048576) :
    Calls Tryd.prog 51 #[.string s] w fun e w' => RbOut s e ∧ Below w.heap.size w w' := by
  have bw : Below w.heap.size w (w.alloc (.cells #[.int .i64 0, .int .i64 0, .int .i64 0] 54)) := by go_grown
  have pR := bugs_blk w
  by_cases hL : 65536 < s.size
  · have HB : Hid (65536 < s.size) := hL
    have hLi : (65536 : Int) < (s.size : Int) := by omega
    go_enter Tryd.func51, Tryd.ntmps51
    go_wp2
    go_returns
    exact ⟨.inl ⟨HB.out, rfl⟩, by go_grown⟩
  · have hle : s.size ≤ 65536 := by omega
    have HLE : Hid (s.size ≤ 65536) := hle
    have hLi : ¬ ((65536 : Int) < (s.size : Int)) := by omega
    clear hL

    go_enter Tryd.func51, Tryd.ntmps51
    go_wp2_with fail
    generalize (w.alloc (.cells #[.int .i64 0, .int .i64 0, .int .i64 0] 54)) = W0 at *
    refine (l04Read_any s W0 hle).mono ?_
    rintro e w1 ⟨hB, hb⟩
    replace bw := bel_trans bw hb
    replace pR := pR.below hb
    clear hb
    clear hle
    have hRX : w.heap.size < w1.heap.size := pR.lt
    rcases hB with ⟨⟨x0, x1, x2⟩, hx, rfl⟩ | ⟨hx, ⟨x0, x1, x2⟩, rfl⟩
    · have HR : Hid (RbOut s (.returned (.tuple #[.agg #[.int .i64 x0, .int .i64 x1, .int .i64 x2], .int .i64 0]))) := .inr ⟨HLE.out, .inl ⟨(x0, x1, x2), hx, rfl⟩⟩
      clear hx
      unfold I3.val

      have kR0 := pR.cell 0
      have kR1 := pR.cell 1
      have kR2 := pR.cell 2
      simp only [List.getElem?_cons_zero, List.getElem?_cons_succ] at kR0 kR1 kR2
      have fR0 := pR.frozen 0
      have fR1 := pR.frozen 1
      have fR2 := pR.frozen 2
      have pR9 := ((pR.set 0 (.int .i64 x0)).set 1 (.int .i64 x1)).set 2 (.int .i64 x2)
      simp only [List.set_cons_zero, List.set_cons_succ] at pR9
      have g9 := grownBy_tr (grownBy_tr (grownBy_set w1 w.heap.size 0 (.int .i64 x0)) (grownBy_set _ w.heap.size 1 (.int .i64 x1))) (grownBy_set _ w.heap.size 2 (.int .i64 x2))
      have bw9 := bw.grown g9 bw.size (fun k e => by cases e; omega)
      replace pR9 := blkOld (.cells #[.int .i64 x0, .int .i64 x1, .int .i64 x2] 54) pR9
      replace bw9 := bw9.alloc bw9.size (.cells #[.int .i64 x0, .int .i64 x1, .int .i64 x2] 54)
      clear g9 pR bw
      go_wp2
      generalize (((w1.setCell ⟨w.heap.size, 0, none⟩ (.int .i64 x0)).setCell ⟨w.heap.size, 1, none⟩ (.int .i64 x1)).setCell ⟨w.heap.size, 2, none⟩ (.int .i64 x2)).alloc (.cells #[.int .i64 x0, .int .i64 x1, .int .i64 x2] 54) = w9 at *
      refine bodyPost_ret (results_blk2 Tryd.results51 _ _ _ _ _ _ rfl pR9 Tryd.underlying54 rfl (by kernel_rfl)) rfl ?_
      exact ⟨HR.out, bw9⟩

    · have HR : Hid (RbOut s (.returned (.tuple #[.agg #[.int .i64 0, .int .i64 0, .int .i64 0], .int .i64 3]))) := .inr ⟨HLE.out, .inr ⟨hx, rfl⟩⟩
      clear hx
      unfold I3.val

      have kR0 := pR.cell 0
      have kR1 := pR.cell 1
      have kR2 := pR.cell 2
      simp only [List.getElem?_cons_zero, List.getElem?_cons_succ] at kR0 kR1 kR2
      have fR0 := pR.frozen 0
      have fR1 := pR.frozen 1
      have fR2 := pR.frozen 2
      have pR9 := ((pR.set 0 (.int .i64 0)).set 1 (.int .i64 0)).set 2 (.int .i64 0)
      simp only [List.set_cons_zero, List.set_cons_succ] at pR9
      have g9 := grownBy_tr (grownBy_tr (grownBy_set w1 w.heap.size 0 (.int .i64 0)) (grownBy_set _ w.heap.size 1 (.int .i64 0))) (grownBy_set _ w.heap.size 2 (.int .i64 0))
      have bw9 := bw.grown g9 bw.size (fun k e => by cases e; omega)
      replace pR9 := blkOld (.cells #[.int .i64 x0, .int .i64 x1, .int .i64 x2] 54) pR9
      replace bw9 := bw9.alloc bw9.size (.cells #[.int .i64 x0, .int .i64 x1, .int .i64 x2] 54)
      clear g9 pR bw
      go_wp2
      generalize (((w1.setCell ⟨w.heap.size, 0, none⟩ (.int .i64 0)).setCell ⟨w.heap.size, 1, none⟩ (.int .i64 0)).setCell ⟨w.heap.size, 2, none⟩ (.int .i64 0)).alloc (.cells #[.int .i64 x0, .int .i64 x1, .int .i64 x2] 54) = w9 at *
      refine bodyPost_ret (results_blk2 Tryd.results51 _ _ _ _ _ _ rfl pR9 Tryd.underlying54 rfl (by kernel_rfl)) rfl ?_
      exact ⟨HR.out, bw9⟩


set_option maxHeartbeats 2000000 in
set_option maxRecDepth 100000 in
theorem implReadBug_any (s : ByteArray) (w : World) (hs : s.size ≤ 1048576) (hT : Table w) :
    Calls Tryd.prog 32 #[.string s] w fun e w' => RbOut s e ∧ Below w.heap.size w w' := by
  have bw : Below w.heap.size w (w.alloc (.cells #[.int .i64 0, .int .i64 0, .int .i64 0] 54)) := by go_grown
  have pR := bugs_blk w
  by_cases hL : 65536 < s.size
  · have HB : Hid (65536 < s.size) := hL
    have hLi : (65536 : Int) < (s.size : Int) := by omega
    go_enter Tryd.func32, Tryd.ntmps32
    go_wp2
    go_returns
    exact ⟨.inl ⟨HB.out, rfl⟩, by go_grown⟩
  · have hle : s.size ≤ 65536 := by omega
    have HLE : Hid (s.size ≤ 65536) := hle
    have hLi : ¬ ((65536 : Int) < (s.size : Int)) := by omega
    clear hL

    replace hT := hT.below bw
    go_enter Tryd.func32, Tryd.ntmps32
    go_wp2_with fail
    generalize (w.alloc (.cells #[.int .i64 0, .int .i64 0, .int .i64 0] 54)) = W0 at *
    refine (split_is s W0 (by omega)).mono ?_
    rintro e w0 ⟨⟨v, rfl, hq⟩, hb⟩
    obtain ⟨a, cap, rfl, hO⟩ := OwnT.of_owns hq
    have hS := hO.strs
    replace bw := bel_trans bw hb
    replace pR := pR.below hb
    replace hT := hT.below hb
    have hpl := pcs_le s
    have hp1 : 0 < (pcs s).length := by rw [pcs_len]; omega
    clear hb hq hO
    have hmsz : ∀ p ∈ pcs s, p.size ≤ maxLen := fun p hp => by have := mem_size hp; unfold maxLen; omega
    obtain ⟨b, off, rfl⟩ : ∃ b off, a = some ⟨b, off, none⟩ := by
      rcases hS.2.2.2 with e | ⟨b, off, ha, _⟩
      · omega
      · exact ⟨b, off, ha⟩
    have kB := bugOfWords_any b off (pcs s).length cap (pcs s) w0 hS hp1 (by omega) hmsz hT
    clear hS hmsz hp1 hpl
    generalize (pcs s).length = nn at *
    go_wp2_with fail
    refine kB.mono ?_
    rintro e w1 ⟨hB, hb⟩
    replace bw := bel_trans bw hb
    replace pR := pR.below hb
    clear hb kB hT
    clear hle
    have hRX : w.heap.size < w1.heap.size := pR.lt
    rcases hB with ⟨⟨x0, x1, x2⟩, hx, rfl⟩ | ⟨hx, ⟨x0, x1, x2⟩, rfl⟩
    · have HR : Hid (RbOut s (.returned (.tuple #[.agg #[.int .i64 x0, .int .i64 x1, .int .i64 x2], .int .i64 0]))) := .inr ⟨HLE.out, .inl ⟨(x0, x1, x2), hx, rfl⟩⟩
      clear hx
      unfold I3.val

      have kR0 := pR.cell 0
      have kR1 := pR.cell 1
      have kR2 := pR.cell 2
      simp only [List.getElem?_cons_zero, List.getElem?_cons_succ] at kR0 kR1 kR2
      have fR0 := pR.frozen 0
      have fR1 := pR.frozen 1
      have fR2 := pR.frozen 2
      have pR9 := ((pR.set 0 (.int .i64 x0)).set 1 (.int .i64 x1)).set 2 (.int .i64 x2)
      simp only [List.set_cons_zero, List.set_cons_succ] at pR9
      have g9 := grownBy_tr (grownBy_tr (grownBy_set w1 w.heap.size 0 (.int .i64 x0)) (grownBy_set _ w.heap.size 1 (.int .i64 x1))) (grownBy_set _ w.heap.size 2 (.int .i64 x2))
      have bw9 := bw.grown g9 bw.size (fun k e => by cases e; omega)
      replace pR9 := blkOld (.cells #[.int .i64 x0, .int .i64 x1, .int .i64 x2] 54) pR9
      replace bw9 := bw9.alloc bw9.size (.cells #[.int .i64 x0, .int .i64 x1, .int .i64 x2] 54)
      clear g9 pR bw
      go_wp2
      generalize (((w1.setCell ⟨w.heap.size, 0, none⟩ (.int .i64 x0)).setCell ⟨w.heap.size, 1, none⟩ (.int .i64 x1)).setCell ⟨w.heap.size, 2, none⟩ (.int .i64 x2)).alloc (.cells #[.int .i64 x0, .int .i64 x1, .int .i64 x2] 54) = w9 at *
      refine bodyPost_ret (results_blk2 Tryd.results32 _ _ _ _ _ _ rfl pR9 Tryd.underlying54 rfl (by kernel_rfl)) rfl ?_
      exact ⟨HR.out, bw9⟩

    · have HR : Hid (RbOut s (.returned (.tuple #[.agg #[.int .i64 0, .int .i64 0, .int .i64 0], .int .i64 3]))) := .inr ⟨HLE.out, .inr ⟨hx, rfl⟩⟩
      clear hx
      unfold I3.val

      have kR0 := pR.cell 0
      have kR1 := pR.cell 1
      have kR2 := pR.cell 2
      simp only [List.getElem?_cons_zero, List.getElem?_cons_succ] at kR0 kR1 kR2
      have fR0 := pR.frozen 0
      have fR1 := pR.frozen 1
      have fR2 := pR.frozen 2
      have pR9 := ((pR.set 0 (.int .i64 0)).set 1 (.int .i64 0)).set 2 (.int .i64 0)
      simp only [List.set_cons_zero, List.set_cons_succ] at pR9
      have g9 := grownBy_tr (grownBy_tr (grownBy_set w1 w.heap.size 0 (.int .i64 0)) (grownBy_set _ w.heap.size 1 (.int .i64 0))) (grownBy_set _ w.heap.size 2 (.int .i64 0))
      have bw9 := bw.grown g9 bw.size (fun k e => by cases e; omega)
      replace pR9 := blkOld (.cells #[.int .i64 x0, .int .i64 x1, .int .i64 x2] 54) pR9
      replace bw9 := bw9.alloc bw9.size (.cells #[.int .i64 x0, .int .i64 x1, .int .i64 x2] 54)
      clear g9 pR bw
      go_wp2
      generalize (((w1.setCell ⟨w.heap.size, 0, none⟩ (.int .i64 0)).setCell ⟨w.heap.size, 1, none⟩ (.int .i64 0)).setCell ⟨w.heap.size, 2, none⟩ (.int .i64 0)).alloc (.cells #[.int .i64 x0, .int .i64 x1, .int .i64 x2] 54) = w9 at *
      refine bodyPost_ret (results_blk2 Tryd.results32 _ _ _ _ _ _ rfl pR9 Tryd.underlying54 rfl (by kernel_rfl)) rfl ?_
      exact ⟨HR.out, bw9⟩


set_option maxHeartbeats 4000000 in
set_option maxRecDepth 100000 in
theorem fnExactReadBug_walk (a0 : ByteArray) (w0 : a0.size ≤ maxLen) (w : World) (hT : Table w) :
    Calls Tryd.prog 10 #[.string a0] w fun e w' => e = .returned (.bool true) ∧ Below w.heap.size w w' := by
  unfold maxLen at w0
  by_cases hL : 1048576 < a0.size
  · have hLi : (1048576 : Int) < (a0.size : Int) := by omega
    go_enter Tryd.func10, Tryd.ntmps10
    go_wp2
    go_ret
    exact ⟨rfl, Below.refl _ _⟩
  · have hle : a0.size ≤ 1048576 := by omega
    have hLi : ¬ ((1048576 : Int) < (a0.size : Int)) := by omega
    clear hL
    go_enter Tryd.func10, Tryd.ntmps10
    go_wp2_with fail
    refine (specReadBug_any a0 w hle).mono ?_
    rintro e w1 ⟨hA, bw⟩
    replace hT := hT.below bw
    have kI := fun W hT => implReadBug_any a0 W hle hT
    obtain ⟨x, c, rfl, HK⟩ : ∃ (x : I3) (c : Int), e = .returned (.tuple #[x.val, .int .i64 c]) ∧ Hid (∀ e', RbOut a0 e' → e' = .returned (.tuple #[x.val, .int .i64 c])) := by
      obtain ⟨y, c, he, _⟩ := hA.same hA
      refine ⟨y, c, he, fun e' h' => ?_⟩
      obtain ⟨y', c', h1, h2⟩ := hA.same h'
      rw [h2, ← h1, he]
    clear hA
    have kE := eqBug_same x
    have hcc : (c != c) = false := by simp
    obtain ⟨x0, x1, x2⟩ := x
    unfold I3.val at *
    simp only at kE
    have ha : Below w1.heap.size w1 (w1.alloc (.cells #[.int .i64 x0, .int .i64 x1, .int .i64 x2] 54)) := by go_grown
    have c0 : (w1.alloc (.cells #[.int .i64 x0, .int .i64 x1, .int .i64 x2] 54)).cell? ⟨w1.heap.size, 0, none⟩ = some (.int .i64 x0) := by simp [go_sem]
    have c1 : (w1.alloc (.cells #[.int .i64 x0, .int .i64 x1, .int .i64 x2] 54)).cell? ⟨w1.heap.size, 1, none⟩ = some (.int .i64 x1) := by simp [go_sem]
    have c2 : (w1.alloc (.cells #[.int .i64 x0, .int .i64 x1, .int .i64 x2] 54)).cell? ⟨w1.heap.size, 2, none⟩ = some (.int .i64 x2) := by simp [go_sem]
    replace bw := bel_trans bw ha
    replace hT := hT.below ha
    clear ha
    go_wp2_with fail
    generalize (w1.alloc (.cells #[.int .i64 x0, .int .i64 x1, .int .i64 x2] 54)) = w2 at *
    generalize w1.heap.size = X at *
    refine (kI _ hT).mono ?_
    rintro e w3 ⟨hA, hb⟩
    obtain rfl := HK.out _ hA
    replace bw := bel_trans bw hb
    replace c0 := cells_kept hb _ _ c0
    replace c1 := cells_kept hb _ _ c1
    replace c2 := cells_kept hb _ _ c2
    clear hb hA HK kI hT
    have ha : Below w3.heap.size w3 (w3.alloc (.cells #[.int .i64 x0, .int .i64 x1, .int .i64 x2] 54)) := by go_grown
    have d0 : (w3.alloc (.cells #[.int .i64 x0, .int .i64 x1, .int .i64 x2] 54)).cell? ⟨w3.heap.size, 0, none⟩ = some (.int .i64 x0) := by simp [go_sem]
    have d1 : (w3.alloc (.cells #[.int .i64 x0, .int .i64 x1, .int .i64 x2] 54)).cell? ⟨w3.heap.size, 1, none⟩ = some (.int .i64 x1) := by simp [go_sem]
    have d2 : (w3.alloc (.cells #[.int .i64 x0, .int .i64 x1, .int .i64 x2] 54)).cell? ⟨w3.heap.size, 2, none⟩ = some (.int .i64 x2) := by simp [go_sem]
    replace bw := bel_trans bw ha
    replace c0 := cells_kept ha _ _ c0
    replace c1 := cells_kept ha _ _ c1
    replace c2 := cells_kept ha _ _ c2
    clear ha
    go_wp2_with fail
    generalize (w3.alloc (.cells #[.int .i64 x0, .int .i64 x1, .int .i64 x2] 54)) = w4 at *
    generalize w3.heap.size = Y at *
    refine (kE _).mono ?_
    rintro e w5 ⟨rfl, hb⟩
    replace bw := bel_trans bw hb
    clear hb
    go_wp2
    go_ret
    exact ⟨rfl, bw⟩
theorem fnExactReadBug_laid {W : World} (h : laidMetH Tryd.prog Rows.fnExactReadBugRow.laid W) : Table W := by
  rw [MakeChecks.laidMetH_plain _ _ _ (by kernel_rfl)] at h
  exact table_of_met h.tail
end Go.Proofs.YtkmnnmgopnoffaaDoor
