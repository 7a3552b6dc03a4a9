/-
  FnBugs, part 41 of 50 (RdB).
-/
import Derived.Test.YtkmnnmgopnoffaaDoorJ36
import Derived.Test.YtkmnnmgopnoffaaDoorJ39
import Derived.Test.YtkmnnmgopnoffaaDoorJ40
import Derived.Test.YtkmnnmgopnoffaaDoorJ27
import Derived.Test.YtkmnnmgopnoffaaDoorJ26
import Derived.Test.YtkmnnmgopnoffaaDoorJ06
import Derived.Test.YtkmnnmgopnoffaaDoorJ16

/-
  Bugs read back from their texts: both sides' ReadBug.
-/
namespace Go.Proofs.YtkmnnmgopnoffaaDoor
open Go.RowKit
set_option linter.unusedVariables false
set_option linter.unusedSimpArgs false

/-- The bug that a row of words tells. -/
def IsBug (ps : List ByteArray) (x : I3) : Prop :=
  (ps.length = 1 ∧ isWord 14 (ps.getD 0 ByteArray.empty) ∧ x = (14, 0, 0)) ∨
  (ps.length = 3 ∧ ∃ (n m : Nat) (c : Int), IsDec (ps.getD 1 ByteArray.empty) n ∧ IsDec (ps.getD 2 ByteArray.empty) m ∧ IsCode (ps.getD 0 ByteArray.empty) c ∧ c ≠ 14 ∧ okB (c, (n : Int), (m : Int)) = true ∧ x = (c, (n : Int), (m : Int)))
def NoBug (ps : List ByteArray) : Prop := ∀ x, ¬ IsBug ps x
theorem IsBug.only {ps : List ByteArray} {x y : I3} (h : IsBug ps x) (k : IsBug ps y) : x = y := by
  rcases h with ⟨h1, _, rfl⟩ | ⟨h1, n, m, c, d1, d2, hc, _, _, rfl⟩
  · rcases k with ⟨_, _, rfl⟩ | ⟨k1, _⟩
    · rfl
    · omega
  · rcases k with ⟨k1, _⟩ | ⟨_, n', m', c', e1, e2, kc, _, _, rfl⟩
    · omega
    · rw [d1.only e1, d2.only e2, hc.same kc]
theorem words_apart : ∀ j, j < 14 → ¬ (wordB j).toList = (wordB 14).toList := by
  intro j hj
  rw [ByteArray.toList_eq, ByteArray.toList_eq]
  match j, hj with
  | 0, _ => decide
  | 1, _ => decide
  | 2, _ => decide
  | 3, _ => decide
  | 4, _ => decide
  | 5, _ => decide
  | 6, _ => decide
  | 7, _ => decide
  | 8, _ => decide
  | 9, _ => decide
  | 10, _ => decide
  | 11, _ => decide
  | 12, _ => decide
  | 13, _ => decide
theorem code14 {s : ByteArray} {c : Int} (h : IsCode s c) : c = 14 ↔ isWord 14 s := by
  constructor
  · intro e
    rcases h with ⟨k, _, hk, hw, _⟩ | ⟨hc, _⟩
    · obtain rfl : k = 14 := by omega
      exact hw
    · omega
  · intro hw
    have h14 : IsCode s 14 := .inl ⟨14, by omega, rfl, hw, fun j hj e => words_apart j hj (by unfold isWord at e hw; rw [e, hw])⟩
    exact h.same h14
theorem dead_bytes : (wordB 14).toList = [100, 101, 97, 100, 108, 111, 99, 107] := by
  rw [ByteArray.toList_eq]
  decide
theorem isWord14_yes {p : ByteArray} (h : isWord 14 p) : (p.toList == [100, 101, 97, 100, 108, 111, 99, 107]) = true := by
  unfold isWord at h
  rw [dead_bytes] at h
  rw [← h]
  rfl
theorem isWord14_no {p : ByteArray} (h : ¬ isWord 14 p) : (p.toList == [100, 101, 97, 100, 108, 111, 99, 107]) = false := by
  unfold isWord at h
  rw [dead_bytes] at h
  exact beq_eq_false_iff_ne.2 fun e => h e.symm
def BugOut (ps : List ByteArray) (e : Ending) : Prop := (∃ x : I3, IsBug ps x ∧ e = .returned (.tuple #[x.val, .bool true])) ∨ (NoBug ps ∧ ∃ y : I3, e = .returned (.tuple #[y.val, .bool false]))
theorem BugOut.yes {ps : List ByteArray} {e : Ending} {x : I3} (h : IsBug ps x) (he : e = .returned (.tuple #[x.val, .bool true])) : BugOut ps e := .inl ⟨x, h, he⟩
theorem BugOut.no {ps : List ByteArray} {e : Ending} (y : I3) (h : NoBug ps) (he : e = .returned (.tuple #[y.val, .bool false])) : BugOut ps e := .inr ⟨h, y, he⟩
theorem noBug_len {ps : List ByteArray} (h1 : ps.length ≠ 1) (h3 : ps.length ≠ 3) : NoBug ps := fun x hx => by
  rcases hx with ⟨h, _⟩ | ⟨h, _⟩ <;> omega
theorem noBug_one {ps : List ByteArray} (h1 : ps.length = 1) (hw : ¬ isWord 14 (ps.getD 0 ByteArray.empty)) : NoBug ps := fun x hx => by
  rcases hx with ⟨_, h, _⟩ | ⟨h, _⟩
  · exact hw h
  · omega
theorem noBug_dec1 {ps : List ByteArray} (h3 : ps.length = 3) (hn : NoDec (ps.getD 1 ByteArray.empty)) : NoBug ps := fun x hx => by
  rcases hx with ⟨h, _⟩ | ⟨_, n, m, c, d1, _⟩
  · omega
  · exact hn n d1
theorem noBug_dec2 {ps : List ByteArray} (h3 : ps.length = 3) (hn : NoDec (ps.getD 2 ByteArray.empty)) : NoBug ps := fun x hx => by
  rcases hx with ⟨h, _⟩ | ⟨_, n, m, c, _, d2, _⟩
  · omega
  · exact hn m d2
theorem noBug_bad {ps : List ByteArray} (h3 : ps.length = 3) {n m : Nat} {c : Int} (d1 : IsDec (ps.getD 1 ByteArray.empty) n) (d2 : IsDec (ps.getD 2 ByteArray.empty) m) (hc : IsCode (ps.getD 0 ByteArray.empty) c) (h : c = 14 ∨ okB (c, (n : Int), (m : Int)) = false) : NoBug ps := fun x hx => by
  rcases hx with ⟨h, _⟩ | ⟨_, n', m', c', e1, e2, kc, k14, kok, _⟩
  · omega
  · rw [d1.only e1, d2.only e2, hc.same kc] at h
    rcases h with h | h
    · exact k14 h
    · rw [h] at kok; cases kok


theorem bugs_blk (w : World) : Blk (w.alloc (.cells #[.int .i64 0, .int .i64 0, .int .i64 0] 54)) w.heap.size 54 [.int .i64 0, .int .i64 0, .int .i64 0] := Blk.new w 54 [.int .i64 0, .int .i64 0, .int .i64 0]
set_option maxHeartbeats 2000000 in
set_option maxRecDepth 100000 in
theorem l04Read_any (s : ByteArray) (w : World) (hs : s.size ≤ 65536) :
    Calls Tryd.prog 105 #[.string s] w fun e w' => BugOut (pcs s) e ∧ Below w.heap.size w w' := by
  have bw : Below w.heap.size w (w.alloc (.cells #[.int .i64 0, .int .i64 0, .int .i64 0] 54)) := by go_grown
  have pR := bugs_blk w
  have hms : ∀ p ∈ pcs s, p.size ≤ maxLen := fun p hp => by have := mem_size hp; unfold maxLen; omega
  go_enter Tryd.func105, Tryd.ntmps105
  go_wp2_with fail
  generalize (w.alloc (.cells #[.int .i64 0, .int .i64 0, .int .i64 0] 54)) = W0 at *
  refine (l00Cut_is s W0 (by omega)).mono ?_
  rintro e w1 ⟨⟨v, rfl, hq⟩, hb⟩
  obtain ⟨a, cap, rfl, hO⟩ := OwnT.of_owns hq
  have hS := hO.strs
  replace bw := bel_trans bw hb
  replace pR := pR.below hb
  have hpl := pcs_le s
  clear hb hq hO
  obtain ⟨nn, hnn⟩ : ∃ nn, nn = (pcs s).length := ⟨_, rfl⟩
  rw [← hnn] at hS hpl
  try rw [← hnn]
  have H0 : Hid (∀ W, Below w1.heap.size w1 W → 0 < nn → ∃ b off, a = some ⟨b, off, none⟩ ∧ ∀ t, t < nn → W.cell? ⟨b, off + t, none⟩ = some (.string ((pcs s).getD t ByteArray.empty))) := fun W hbW h0 => by
    rcases (hS.below hbW).2.2.2 with h9 | ⟨b, off, ha, _, hc⟩
    · omega
    · exact ⟨b, off, ha, hc⟩
  clear hS
  by_cases h1 : nn = 1
  · obtain ⟨b, off, rfl, hc⟩ := H0.out w1 (Below.refl _ _) (by omega)
    have hc0 := hc 0 (by omega)
    clear hc H0
    subst h1
    by_cases hwd : isWord 14 ((pcs s).getD 0 ByteArray.empty)
    · have HB : Hid (IsBug (pcs s) (14, 0, 0)) := .inl ⟨hnn.symm, hwd, rfl⟩
      have hw14 := isWord14_yes hwd
      clear hnn
      generalize (pcs s).getD 0 ByteArray.empty = p at *
      clear hwd hms
      simp only [Nat.add_zero] at hc0
      have kR0 := pR.cell 0
      have kR1 := pR.cell 1
      have kR2 := pR.cell 2
      simp only [List.getElem?_cons_zero, List.getElem?_cons_succ] at kR0 kR1 kR2
      have fR0 := pR.frozen 0
      have fR1 := pR.frozen 1
      have fR2 := pR.frozen 2
      have pR9 := ((pR.set 0 (.int .i64 14)).set 1 (.int .i64 0)).set 2 (.int .i64 0)
      simp only [List.set_cons_zero, List.set_cons_succ] at pR9
      have g9 := grownBy_tr (grownBy_tr (grownBy_set w1 w.heap.size 0 (.int .i64 14)) (grownBy_set _ w.heap.size 1 (.int .i64 0))) (grownBy_set _ w.heap.size 2 (.int .i64 0))
      have bw9 := bw.grown g9 bw.size (fun k e => by cases e; omega)
      clear g9 pR bw
      go_wp2
      generalize ((w1.setCell ⟨w.heap.size, 0, none⟩ (.int .i64 14)).setCell ⟨w.heap.size, 1, none⟩ (.int .i64 0)).setCell ⟨w.heap.size, 2, none⟩ (.int .i64 0) = w9 at *
      refine bodyPost_ret (results_blk2 Tryd.results105 _ _ _ _ _ _ rfl pR9 Tryd.underlying54 rfl (by kernel_rfl)) rfl ?_
      exact ⟨BugOut.yes HB.out rfl, bw9⟩
    · have HB : Hid (NoBug (pcs s)) := noBug_one hnn.symm hwd
      have hw14 := isWord14_no hwd
      clear hnn
      generalize (pcs s).getD 0 ByteArray.empty = p at *
      clear hwd hms
      simp only [Nat.add_zero] at hc0
      have kR0 := pR.cell 0
      have kR1 := pR.cell 1
      have kR2 := pR.cell 2
      simp only [List.getElem?_cons_zero, List.getElem?_cons_succ] at kR0 kR1 kR2
      have fR0 := pR.frozen 0
      have fR1 := pR.frozen 1
      have fR2 := pR.frozen 2
      have pR9 := ((pR.set 0 (.int .i64 0)).set 1 (.int .i64 0)).set 2 (.int .i64 0)
      simp only [List.set_cons_zero, List.set_cons_succ] at pR9
      have g9 := grownBy_tr (grownBy_tr (grownBy_set w1 w.heap.size 0 (.int .i64 0)) (grownBy_set _ w.heap.size 1 (.int .i64 0))) (grownBy_set _ w.heap.size 2 (.int .i64 0))
      have bw9 := bw.grown g9 bw.size (fun k e => by cases e; omega)
      clear g9 pR bw
      go_wp2
      generalize ((w1.setCell ⟨w.heap.size, 0, none⟩ (.int .i64 0)).setCell ⟨w.heap.size, 1, none⟩ (.int .i64 0)).setCell ⟨w.heap.size, 2, none⟩ (.int .i64 0) = w9 at *
      refine bodyPost_ret (results_blk2 Tryd.results105 _ _ _ _ _ _ rfl pR9 Tryd.underlying54 rfl (by kernel_rfl)) rfl ?_
      exact ⟨BugOut.no (0, 0, 0) HB.out rfl, bw9⟩
  · have hn1 : ((nn : Int) == 1) = false := by simp; omega
    by_cases h3 : nn = 3
    · obtain ⟨b, off, rfl, hc⟩ := H0.out w1 (Below.refl _ _) (by omega)
      have hlt := World.block_lt_of_cell? _ _ (hc 0 (by omega))
      have hc0 := hc 0 (by omega)
      have hc1 := hc 1 (by omega)
      have hc2 := hc 2 (by omega)
      clear hc H0 h1
      subst h3
      simp only [Nat.add_zero] at hc0
      have hp1 : ((pcs s).getD 1 ByteArray.empty).size ≤ maxLen := by
        have hl1 : 1 < (pcs s).length := by omega
        refine hms _ ?_
        rw [List.getD, List.getElem?_eq_getElem hl1, Option.getD_some]
        exact List.getElem_mem hl1
      have hp2 : ((pcs s).getD 2 ByteArray.empty).size ≤ maxLen := by
        have hl1 : 2 < (pcs s).length := by omega
        refine hms _ ?_
        rw [List.getD, List.getElem?_eq_getElem hl1, Option.getD_some]
        exact List.getElem_mem hl1
      have N1 : Hid (NoDec ((pcs s).getD 1 ByteArray.empty) → NoBug (pcs s)) := noBug_dec1 hnn.symm
      have N2 : Hid (NoDec ((pcs s).getD 2 ByteArray.empty) → NoBug (pcs s)) := noBug_dec2 hnn.symm
      have N3 : Hid (∀ (n m : Nat) (c : Int), IsDec ((pcs s).getD 1 ByteArray.empty) n → IsDec ((pcs s).getD 2 ByteArray.empty) m → IsCode ((pcs s).getD 0 ByteArray.empty) c → (c = 14 ∨ okB (c, (n : Int), (m : Int)) = false) → NoBug (pcs s)) := fun n m c d1 d2 hc h => noBug_bad hnn.symm d1 d2 hc h
      have N4 : Hid (∀ (n m : Nat) (c : Int), IsDec ((pcs s).getD 1 ByteArray.empty) n → IsDec ((pcs s).getD 2 ByteArray.empty) m → IsCode ((pcs s).getD 0 ByteArray.empty) c → c ≠ 14 → okB (c, (n : Int), (m : Int)) = true → IsBug (pcs s) (c, (n : Int), (m : Int))) := fun n m c d1 d2 hc h h' => .inr ⟨hnn.symm, n, m, c, d1, d2, hc, h, h', rfl⟩
      clear hms hnn
      generalize (pcs s).getD 0 ByteArray.empty = p0 at *
      generalize (pcs s).getD 1 ByteArray.empty = p1 at *
      generalize (pcs s).getD 2 ByteArray.empty = p2 at *
      go_wp2_with fail
      refine (l02Number_any p1 _ hp1).mono ?_
      rintro e w2 ⟨hD1, hb⟩
      replace bw := bel_trans bw hb
      replace pR := pR.below hb
      replace hc0 := cells_kept hb _ _ hc0
      replace hc1 := cells_kept hb _ _ hc1
      replace hc2 := cells_kept hb _ _ hc2
      clear hb
      obtain ⟨z1, o1, rfl, HD1⟩ : ∃ (z1 : Int) (o1 : Bool), e = .returned (.tuple #[.int .i64 z1, .bool o1]) ∧ Hid ((o1 = true → ∃ n : Nat, IsDec p1 n ∧ z1 = n) ∧ (o1 = false → NoDec p1)) := by
        rcases hD1 with ⟨n, hd, rfl⟩ | ⟨hd, z, rfl⟩
        · exact ⟨_, _, rfl, fun _ => ⟨n, hd, rfl⟩, fun h => by cases h⟩
        · exact ⟨_, _, rfl, fun h => (by cases h), fun _ => hd⟩
      clear hD1
      go_wp2_with fail
      refine (l02Number_any p2 _ hp2).mono ?_
      rintro e w3 ⟨hD2, hb⟩
      replace bw := bel_trans bw hb
      replace pR := pR.below hb
      replace hc0 := cells_kept hb _ _ hc0
      replace hc1 := cells_kept hb _ _ hc1
      replace hc2 := cells_kept hb _ _ hc2
      clear hb
      obtain ⟨z2, o2, rfl, HD2⟩ : ∃ (z2 : Int) (o2 : Bool), e = .returned (.tuple #[.int .i64 z2, .bool o2]) ∧ Hid ((o2 = true → ∃ n : Nat, IsDec p2 n ∧ z2 = n) ∧ (o2 = false → NoDec p2)) := by
        rcases hD2 with ⟨n, hd, rfl⟩ | ⟨hd, z, rfl⟩
        · exact ⟨_, _, rfl, fun _ => ⟨n, hd, rfl⟩, fun h => by cases h⟩
        · exact ⟨_, _, rfl, fun h => (by cases h), fun _ => hd⟩
      clear hD2
      go_wp2_with fail
      refine (specCodeOf_any p0 _).mono ?_
      rintro e w4 ⟨⟨c, rfl, hcd⟩, hb⟩
      replace bw := bel_trans bw hb
      replace pR := pR.below hb
      have HC : Hid (IsCode p0 c) := hcd
      clear hb hc0 hc1 hc2 hcd
      have kO := specBugOK_is (c, z1, z2)
      obtain ⟨okb, hokb⟩ : ∃ okb, okb = okB (c, z1, z2) := ⟨_, rfl⟩
      rw [← hokb] at kO
      have HOK : Hid (okb = okB (c, z1, z2)) := hokb
      clear hokb
      unfold I3.val at kO
      simp only at kO
      have hRX : w.heap.size < w4.heap.size := pR.lt
      have ha : Below w4.heap.size w4 (w4.alloc (.cells #[.int .i64 c, .int .i64 z1, .int .i64 z2] 54)) := by go_grown
      have pB := Blk.new w4 54 [.int .i64 c, .int .i64 z1, .int .i64 z2]
      have pR4 := pR
      have bw4 := bw
      replace bw := bel_trans bw ha
      replace pR := pR.below ha
      clear ha
      have k0 := pB.cell 0
      have k1 := pB.cell 1
      have k2 := pB.cell 2
      simp only [List.getElem?_cons_zero, List.getElem?_cons_succ] at k0 k1 k2
      cases o1
      · have HB : Hid (NoBug (pcs s)) := N1.out (HD1.out.2 rfl)
        clear N1 N2 N3 N4 HD1 HD2 HC HOK kO
        have kR0 := pR4.cell 0
        have kR1 := pR4.cell 1
        have kR2 := pR4.cell 2
        simp only [List.getElem?_cons_zero, List.getElem?_cons_succ] at kR0 kR1 kR2
        have fR0 := pR4.frozen 0
        have fR1 := pR4.frozen 1
        have fR2 := pR4.frozen 2
        have pR9 := ((pR4.set 0 (.int .i64 0)).set 1 (.int .i64 0)).set 2 (.int .i64 0)
        simp only [List.set_cons_zero, List.set_cons_succ] at pR9
        have g9 := grownBy_tr (grownBy_tr (grownBy_set w4 w.heap.size 0 (.int .i64 0)) (grownBy_set _ w.heap.size 1 (.int .i64 0))) (grownBy_set _ w.heap.size 2 (.int .i64 0))
        have bw9 := bw4.grown g9 bw4.size (fun k e => by cases e; omega)
        replace pR9 := blkOld (.cells #[.int .i64 c, .int .i64 z1, .int .i64 z2] 54) pR9
        replace bw9 := bw9.alloc bw9.size (.cells #[.int .i64 c, .int .i64 z1, .int .i64 z2] 54)
        clear g9 pR bw pR4 bw4
        go_wp2
        generalize (((w4.setCell ⟨w.heap.size, 0, none⟩ (.int .i64 0)).setCell ⟨w.heap.size, 1, none⟩ (.int .i64 0)).setCell ⟨w.heap.size, 2, none⟩ (.int .i64 0)).alloc (.cells #[.int .i64 c, .int .i64 z1, .int .i64 z2] 54) = w9 at *
        refine bodyPost_ret (results_blk2 Tryd.results105 _ _ _ _ _ _ rfl pR9 Tryd.underlying54 rfl (by kernel_rfl)) rfl ?_
        exact ⟨BugOut.no (0, 0, 0) HB.out rfl, bw9⟩
      · cases o2
        · have HB : Hid (NoBug (pcs s)) := N2.out (HD2.out.2 rfl)
          clear N1 N2 N3 N4 HD1 HD2 HC HOK kO
          have kR0 := pR4.cell 0
          have kR1 := pR4.cell 1
          have kR2 := pR4.cell 2
          simp only [List.getElem?_cons_zero, List.getElem?_cons_succ] at kR0 kR1 kR2
          have fR0 := pR4.frozen 0
          have fR1 := pR4.frozen 1
          have fR2 := pR4.frozen 2
          have pR9 := ((pR4.set 0 (.int .i64 0)).set 1 (.int .i64 0)).set 2 (.int .i64 0)
          simp only [List.set_cons_zero, List.set_cons_succ] at pR9
          have g9 := grownBy_tr (grownBy_tr (grownBy_set w4 w.heap.size 0 (.int .i64 0)) (grownBy_set _ w.heap.size 1 (.int .i64 0))) (grownBy_set _ w.heap.size 2 (.int .i64 0))
          have bw9 := bw4.grown g9 bw4.size (fun k e => by cases e; omega)
          replace pR9 := blkOld (.cells #[.int .i64 c, .int .i64 z1, .int .i64 z2] 54) pR9
          replace bw9 := bw9.alloc bw9.size (.cells #[.int .i64 c, .int .i64 z1, .int .i64 z2] 54)
          clear g9 pR bw pR4 bw4
          go_wp2
          generalize (((w4.setCell ⟨w.heap.size, 0, none⟩ (.int .i64 0)).setCell ⟨w.heap.size, 1, none⟩ (.int .i64 0)).setCell ⟨w.heap.size, 2, none⟩ (.int .i64 0)).alloc (.cells #[.int .i64 c, .int .i64 z1, .int .i64 z2] 54) = w9 at *
          refine bodyPost_ret (results_blk2 Tryd.results105 _ _ _ _ _ _ rfl pR9 Tryd.underlying54 rfl (by kernel_rfl)) rfl ?_
          exact ⟨BugOut.no (0, 0, 0) HB.out rfl, bw9⟩
        · obtain ⟨n1, dn1, rfl⟩ := HD1.out.1 rfl
          obtain ⟨n2, dn2, rfl⟩ := HD2.out.1 rfl
          by_cases hc14 : c = 14
          · have HB : Hid (NoBug (pcs s)) := N3.out n1 n2 c dn1 dn2 HC.out (.inl hc14)
            have hcb : (c == 14) = true := by simp [hc14]
            clear N1 N2 N3 N4 HD1 HD2 HC HOK kO dn1 dn2 hc14
            have kR0 := pR4.cell 0
            have kR1 := pR4.cell 1
            have kR2 := pR4.cell 2
            simp only [List.getElem?_cons_zero, List.getElem?_cons_succ] at kR0 kR1 kR2
            have fR0 := pR4.frozen 0
            have fR1 := pR4.frozen 1
            have fR2 := pR4.frozen 2
            have pR9 := ((pR4.set 0 (.int .i64 0)).set 1 (.int .i64 0)).set 2 (.int .i64 0)
            simp only [List.set_cons_zero, List.set_cons_succ] at pR9
            have g9 := grownBy_tr (grownBy_tr (grownBy_set w4 w.heap.size 0 (.int .i64 0)) (grownBy_set _ w.heap.size 1 (.int .i64 0))) (grownBy_set _ w.heap.size 2 (.int .i64 0))
            have bw9 := bw4.grown g9 bw4.size (fun k e => by cases e; omega)
            replace pR9 := blkOld (.cells #[.int .i64 c, .int .i64 (n1 : Int), .int .i64 (n2 : Int)] 54) pR9
            replace bw9 := bw9.alloc bw9.size (.cells #[.int .i64 c, .int .i64 (n1 : Int), .int .i64 (n2 : Int)] 54)
            clear g9 pR bw pR4 bw4
            go_wp2
            generalize (((w4.setCell ⟨w.heap.size, 0, none⟩ (.int .i64 0)).setCell ⟨w.heap.size, 1, none⟩ (.int .i64 0)).setCell ⟨w.heap.size, 2, none⟩ (.int .i64 0)).alloc (.cells #[.int .i64 c, .int .i64 (n1 : Int), .int .i64 (n2 : Int)] 54) = w9 at *
            refine bodyPost_ret (results_blk2 Tryd.results105 _ _ _ _ _ _ rfl pR9 Tryd.underlying54 rfl (by kernel_rfl)) rfl ?_
            exact ⟨BugOut.no (0, 0, 0) HB.out rfl, bw9⟩
          · have hcb : (c == 14) = false := by simp [hc14]
            go_wp2_with fail
            refine (kO _).mono ?_
            rintro e w6 ⟨rfl, hb⟩
            replace bw := bel_trans bw hb
            replace pR := pR.below hb
            replace pB := pB.below hb
            clear hb kO k0 k1 k2
            cases okb
            · have HB : Hid (NoBug (pcs s)) := N3.out n1 n2 c dn1 dn2 HC.out (.inr HOK.out.symm)
              clear N1 N2 N3 N4 HD1 HD2 HC HOK dn1 dn2 hc14
              have kR0 := pR.cell 0
              have kR1 := pR.cell 1
              have kR2 := pR.cell 2
              simp only [List.getElem?_cons_zero, List.getElem?_cons_succ] at kR0 kR1 kR2
              have fR0 := pR.frozen 0
              have fR1 := pR.frozen 1
              have fR2 := pR.frozen 2
              have pR9 := ((pR.set 0 (.int .i64 0)).set 1 (.int .i64 0)).set 2 (.int .i64 0)
              simp only [List.set_cons_zero, List.set_cons_succ] at pR9
              have g9 := grownBy_tr (grownBy_tr (grownBy_set w6 w.heap.size 0 (.int .i64 0)) (grownBy_set _ w.heap.size 1 (.int .i64 0))) (grownBy_set _ w.heap.size 2 (.int .i64 0))
              have bw9 := bw.grown g9 bw.size (fun k e => by cases e; omega)
              clear g9 pR bw
              go_wp2
              generalize ((w6.setCell ⟨w.heap.size, 0, none⟩ (.int .i64 0)).setCell ⟨w.heap.size, 1, none⟩ (.int .i64 0)).setCell ⟨w.heap.size, 2, none⟩ (.int .i64 0) = w9 at *
              refine bodyPost_ret (results_blk2 Tryd.results105 _ _ _ _ _ _ rfl pR9 Tryd.underlying54 rfl (by kernel_rfl)) rfl ?_
              exact ⟨BugOut.no (0, 0, 0) HB.out rfl, bw9⟩
            · have q0 := pB.cell 0
              have q1 := pB.cell 1
              have q2 := pB.cell 2
              simp only [List.getElem?_cons_zero, List.getElem?_cons_succ] at q0 q1 q2
              have HB : Hid (IsBug (pcs s) (c, (n1 : Int), (n2 : Int))) := N4.out n1 n2 c dn1 dn2 HC.out hc14 HOK.out.symm
              clear N1 N2 N3 N4 HD1 HD2 HC HOK dn1 dn2 hc14
              have kR0 := pR.cell 0
              have kR1 := pR.cell 1
              have kR2 := pR.cell 2
              simp only [List.getElem?_cons_zero, List.getElem?_cons_succ] at kR0 kR1 kR2
              have fR0 := pR.frozen 0
              have fR1 := pR.frozen 1
              have fR2 := pR.frozen 2
              have pR9 := ((pR.set 0 (.int .i64 c)).set 1 (.int .i64 (n1 : Int))).set 2 (.int .i64 (n2 : Int))
              simp only [List.set_cons_zero, List.set_cons_succ] at pR9
              have g9 := grownBy_tr (grownBy_tr (grownBy_set w6 w.heap.size 0 (.int .i64 c)) (grownBy_set _ w.heap.size 1 (.int .i64 (n1 : Int)))) (grownBy_set _ w.heap.size 2 (.int .i64 (n2 : Int)))
              have bw9 := bw.grown g9 bw.size (fun k e => by cases e; omega)
              clear g9 pR bw
              go_wp2
              generalize ((w6.setCell ⟨w.heap.size, 0, none⟩ (.int .i64 c)).setCell ⟨w.heap.size, 1, none⟩ (.int .i64 (n1 : Int))).setCell ⟨w.heap.size, 2, none⟩ (.int .i64 (n2 : Int)) = w9 at *
              refine bodyPost_ret (results_blk2 Tryd.results105 _ _ _ _ _ _ rfl pR9 Tryd.underlying54 rfl (by kernel_rfl)) rfl ?_
              exact ⟨BugOut.yes HB.out rfl, bw9⟩
    · have hn3 : ((nn : Int) != 3) = true := by simp; omega
      have HB : Hid (NoBug (pcs s)) := noBug_len (by omega) (by omega)
      clear hms H0 hnn
      have kR0 := pR.cell 0
      have kR1 := pR.cell 1
      have kR2 := pR.cell 2
      simp only [List.getElem?_cons_zero, List.getElem?_cons_succ] at kR0 kR1 kR2
      have fR0 := pR.frozen 0
      have fR1 := pR.frozen 1
      have fR2 := pR.frozen 2
      have pR9 := ((pR.set 0 (.int .i64 0)).set 1 (.int .i64 0)).set 2 (.int .i64 0)
      simp only [List.set_cons_zero, List.set_cons_succ] at pR9
      have g9 := grownBy_tr (grownBy_tr (grownBy_set w1 w.heap.size 0 (.int .i64 0)) (grownBy_set _ w.heap.size 1 (.int .i64 0))) (grownBy_set _ w.heap.size 2 (.int .i64 0))
      have bw9 := bw.grown g9 bw.size (fun k e => by cases e; omega)
      clear g9 pR bw
      go_wp2
      generalize ((w1.setCell ⟨w.heap.size, 0, none⟩ (.int .i64 0)).setCell ⟨w.heap.size, 1, none⟩ (.int .i64 0)).setCell ⟨w.heap.size, 2, none⟩ (.int .i64 0) = w9 at *
      refine bodyPost_ret (results_blk2 Tryd.results105 _ _ _ _ _ _ rfl pR9 Tryd.underlying54 rfl (by kernel_rfl)) rfl ?_
      exact ⟨BugOut.no (0, 0, 0) HB.out rfl, bw9⟩
end Go.Proofs.YtkmnnmgopnoffaaDoor
