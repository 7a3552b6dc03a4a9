/-
  FnExactReadInstr: both read the same instruction from a text, or answer the same code, the program's table being as its text lays it: the law's walk.
-/
import Derived.Test.YtiokkoaalakakaaDoorRdS
import Derived.Test.YtiokkoaalakakaaDoorInsW
import Derived.Test.YtiokkoaalakakaaDoorWordsS
import Derived.Test.YtiokkoaalakakaaDoorFields
import Derived.Test.YtiokkoaalakakaaDoorOpLaid
namespace Go.Proofs.YtiokkoaalakakaaDoor
open Go.RowKit

theorem wordsT_size {s : ByteArray} : ∀ t ∈ wordsT s, t.size ≤ s.size := by
  intro t ht
  rw [wordsT_is] at ht
  obtain ⟨x, _, rfl⟩ := List.mem_map.1 ht
  simp
  omega

/-- What ReadInstr answers of a text of at most 65536 bytes. -/
def IsIns (s : ByteArray) (x : I3) (c : Int) : Prop := (c = 0 ∧ IsRead (wordsT s) x) ∨ (c = 3 ∧ x = (0, 0, 0) ∧ NoRead (wordsT s))
theorem IsIns.same {s : ByteArray} {x y : I3} {c d : Int} (h : IsIns s x c) (g : IsIns s y d) : x = y ∧ c = d := by
  rcases h with ⟨rfl, h⟩ | ⟨rfl, rfl, h⟩ <;> rcases g with ⟨rfl, g⟩ | ⟨rfl, rfl, g⟩
  · exact ⟨h.only g, rfl⟩
  · exact absurd h (g _)
  · exact absurd g (h _)
  · exact ⟨rfl, rfl⟩
def InsOut (s : ByteArray) (e : Ending) : Prop := ∃ x c, IsIns s x c ∧ e = .returned (.tuple #[x.val, .int .i64 c])

set_option maxHeartbeats 2000000 in
set_option maxRecDepth 100000 in
theorem specReadInstr_any (s : ByteArray) (w : World) (hs : s.size ≤ 65536) : Calls Tryd.prog 11 #[.string s] w fun e w' => InsOut s e ∧ Below w.heap.size w w' := by
  have hR0 := box3_nw w (.int .i64 0) (.int .i64 0) (.int .i64 0) 26 w.heap.size (Nat.le_refl _)
  go_enter Tryd.func11, Tryd.ntmps11
  go_wp2_with fail
  refine (l00Words_is s _ (by omega)).mono ?_
  rintro e w1 ⟨v, rfl, ho, hb1⟩
  have hRr := owns_below hR0 hb1
  have b1 : Below w.heap.size w w1 := bel_trans (by go_grown) hb1
  clear hb1 hR0
  obtain ⟨a, cap, rfl, hO⟩ := OwnT.of_owns ho
  have hcount := wordsT_count s
  have K := l02Read_any a (wordsT s).length cap (wordsT s) w1 hO.strs (by omega) (fun t ht => by have := wordsT_size t ht; unfold maxLen; omega)
  clear ho hO
  generalize (wordsT s).length = n at K
  go_wp2_with fail
  refine K.mono ?_
  rintro e w2 ⟨hk, hb2⟩
  replace hRr := owns_below hRr hb2
  have hbw := bel_trans b1 hb2
  clear hb2 K b1
  rcases hk with ⟨x, hx, rfl⟩ | ⟨hN, y, rfl⟩
  · have HY : Hid (IsIns s x 0) := .inl ⟨rfl, hx⟩
    clear hx
    obtain ⟨x0, x1, x2⟩ := x
    unfold I3.val
    have hRa := hRr.alloc (.cells #[.int .i64 x0, .int .i64 x1, .int .i64 x2] 26)
    have hba : Below w.heap.size w (w2.alloc (.cells #[.int .i64 x0, .int .i64 x1, .int .i64 x2] 26)) := bel_trans hbw (by go_grown)
    have kR0 : w2.cell? ⟨w.heap.size, 0, none⟩ = some (.int .i64 0) := by simpa using hRr.cellAt 0 (by omega)
    have kR1 : w2.cell? ⟨w.heap.size, 1, none⟩ = some (.int .i64 0) := by simpa using hRr.cellAt 1 (by omega)
    have kR2 : w2.cell? ⟨w.heap.size, 2, none⟩ = some (.int .i64 0) := by simpa using hRr.cellAt 2 (by omega)
    have fR0 := hRr.frozenAt 0
    have fR1 := hRr.frozenAt 1
    have fR2 := hRr.frozenAt 2
    have hlt := (hRr.lt w.heap.size rfl).2
    have hRn := ((((hRr.stored 0 (.int .i64 x0)).1.stored 1 (.int .i64 x1)).1.stored 2 (.int .i64 x2)).1).alloc (.cells #[.int .i64 x0, .int .i64 x1, .int .i64 x2] 26)
    have hb9 := (((hbw.setCell (p := ⟨w.heap.size, 0, none⟩) (Nat.le_refl _) (.int .i64 x0)).setCell (p := ⟨w.heap.size, 1, none⟩) (Nat.le_refl _) (.int .i64 x1)).setCell (p := ⟨w.heap.size, 2, none⟩) (Nat.le_refl _) (.int .i64 x2)).alloc (by simp; omega) (.cells #[.int .i64 x0, .int .i64 x1, .int .i64 x2] 26)
    clear hRr hbw hRa hba
    go_wp2
    clear kR0 kR1 kR2 fR0 fR1 fR2
    generalize (((w2.setCell ⟨w.heap.size, 0, none⟩ (.int .i64 x0)).setCell ⟨w.heap.size, 1, none⟩ (.int .i64 x1)).setCell ⟨w.heap.size, 2, none⟩ (.int .i64 x2)).alloc (.cells #[.int .i64 x0, .int .i64 x1, .int .i64 x2] 26) = w9 at hRn hb9
    have k0 : w9.cell? ⟨w.heap.size, 0, none⟩ = some (.int .i64 x0) := by simpa using hRn.cellAt 0 (by omega)
    have k1 : w9.cell? ⟨w.heap.size, 1, none⟩ = some (.int .i64 x1) := by simpa using hRn.cellAt 1 (by omega)
    have k2 : w9.cell? ⟨w.heap.size, 2, none⟩ = some (.int .i64 x2) := by simpa using hRn.cellAt 2 (by omega)
    refine bodyPost_ret (by simp [results, Tryd.results11, go_sem, k0, k1, k2]; try rfl) rfl ?_
    exact ⟨⟨(x0, x1, x2), 0, HY.out, rfl⟩, hb9⟩
  · have HY : Hid (IsIns s (0, 0, 0) 3) := .inr ⟨rfl, rfl, hN⟩
    clear hN
    obtain ⟨y0, y1, y2⟩ := y
    unfold I3.val
    have kR0 : w2.cell? ⟨w.heap.size, 0, none⟩ = some (.int .i64 0) := by simpa using hRr.cellAt 0 (by omega)
    have kR1 : w2.cell? ⟨w.heap.size, 1, none⟩ = some (.int .i64 0) := by simpa using hRr.cellAt 1 (by omega)
    have kR2 : w2.cell? ⟨w.heap.size, 2, none⟩ = some (.int .i64 0) := by simpa using hRr.cellAt 2 (by omega)
    have fR0 := hRr.frozenAt 0
    have fR1 := hRr.frozenAt 1
    have fR2 := hRr.frozenAt 2
    have hlt := (hRr.lt w.heap.size rfl).2
    have hRn := ((((hRr.stored 0 (.int .i64 0)).1.stored 1 (.int .i64 0)).1.stored 2 (.int .i64 0)).1).alloc (.cells #[.int .i64 y0, .int .i64 y1, .int .i64 y2] 26)
    have hb9 := (((hbw.setCell (p := ⟨w.heap.size, 0, none⟩) (Nat.le_refl _) (.int .i64 0)).setCell (p := ⟨w.heap.size, 1, none⟩) (Nat.le_refl _) (.int .i64 0)).setCell (p := ⟨w.heap.size, 2, none⟩) (Nat.le_refl _) (.int .i64 0)).alloc (by simp; omega) (.cells #[.int .i64 y0, .int .i64 y1, .int .i64 y2] 26)
    clear hRr hbw
    go_wp2
    clear kR0 kR1 kR2 fR0 fR1 fR2
    generalize (((w2.setCell ⟨w.heap.size, 0, none⟩ (.int .i64 0)).setCell ⟨w.heap.size, 1, none⟩ (.int .i64 0)).setCell ⟨w.heap.size, 2, none⟩ (.int .i64 0)).alloc (.cells #[.int .i64 y0, .int .i64 y1, .int .i64 y2] 26) = w9 at hRn hb9
    have k0 : w9.cell? ⟨w.heap.size, 0, none⟩ = some (.int .i64 0) := by simpa using hRn.cellAt 0 (by omega)
    have k1 : w9.cell? ⟨w.heap.size, 1, none⟩ = some (.int .i64 0) := by simpa using hRn.cellAt 1 (by omega)
    have k2 : w9.cell? ⟨w.heap.size, 2, none⟩ = some (.int .i64 0) := by simpa using hRn.cellAt 2 (by omega)
    refine bodyPost_ret (by simp [results, Tryd.results11, go_sem, k0, k1, k2]; try rfl) rfl ?_
    exact ⟨⟨(0, 0, 0), 3, HY.out, rfl⟩, hb9⟩

theorem specReadInstr_long (s : ByteArray) (w : World) (hs : s.size ≤ 1048576) (h : 65536 < s.size) : Calls Tryd.prog 11 #[.string s] w fun e w' => e = .returned (.tuple #[.agg #[.int .i64 0, .int .i64 0, .int .i64 0], .int .i64 2]) ∧ Below w.heap.size w w' := by
  go_enter Tryd.func11, Tryd.ntmps11
  go_wp2
  go_returns
  exact ⟨rfl, by go_grown⟩

set_option maxHeartbeats 2000000 in
set_option maxRecDepth 100000 in
theorem implReadInstr_any (s : ByteArray) (w : World) (hs : s.size ≤ 65536) (hT : OpTable w) : Calls Tryd.prog 12 #[.string s] w fun e w' => InsOut s e ∧ Below w.heap.size w w' := by
  have hR0 := box3_nw w (.int .i64 0) (.int .i64 0) (.int .i64 0) 26 w.heap.size (Nat.le_refl _)
  go_enter Tryd.func12, Tryd.ntmps12
  go_wp2_with fail
  refine (wordsOf_is s _ (by omega)).mono ?_
  rintro e w1 ⟨v, rfl, ho, hb1⟩
  have hRr := owns_below hR0 hb1
  have b1 : Below w.heap.size w w1 := bel_trans (by go_grown) hb1
  clear hb1 hR0
  obtain ⟨a, cap, rfl, hO⟩ := OwnT.of_owns ho
  have hcount := wordsT_count s
  have K := instrOfWords_any a (wordsT s).length cap (wordsT s) w1 hO.strs (by omega) (fun t ht => by have := wordsT_size t ht; unfold maxLen; omega) (hT.below b1)
  clear ho hO
  generalize (wordsT s).length = n at K
  go_wp2_with fail
  refine K.mono ?_
  rintro e w2 ⟨hk, hb2⟩
  replace hRr := owns_below hRr hb2
  have hbw := bel_trans b1 hb2
  clear hb2 K b1
  rcases hk with ⟨x, hx, rfl⟩ | ⟨hN, y, rfl⟩
  · have HY : Hid (IsIns s x 0) := .inl ⟨rfl, hx⟩
    clear hx
    obtain ⟨x0, x1, x2⟩ := x
    unfold I3.val
    have hRa := hRr.alloc (.cells #[.int .i64 x0, .int .i64 x1, .int .i64 x2] 26)
    have hba : Below w.heap.size w (w2.alloc (.cells #[.int .i64 x0, .int .i64 x1, .int .i64 x2] 26)) := bel_trans hbw (by go_grown)
    have kR0 : w2.cell? ⟨w.heap.size, 0, none⟩ = some (.int .i64 0) := by simpa using hRr.cellAt 0 (by omega)
    have kR1 : w2.cell? ⟨w.heap.size, 1, none⟩ = some (.int .i64 0) := by simpa using hRr.cellAt 1 (by omega)
    have kR2 : w2.cell? ⟨w.heap.size, 2, none⟩ = some (.int .i64 0) := by simpa using hRr.cellAt 2 (by omega)
    have fR0 := hRr.frozenAt 0
    have fR1 := hRr.frozenAt 1
    have fR2 := hRr.frozenAt 2
    have hlt := (hRr.lt w.heap.size rfl).2
    have hRn := ((((hRr.stored 0 (.int .i64 x0)).1.stored 1 (.int .i64 x1)).1.stored 2 (.int .i64 x2)).1).alloc (.cells #[.int .i64 x0, .int .i64 x1, .int .i64 x2] 26)
    have hb9 := (((hbw.setCell (p := ⟨w.heap.size, 0, none⟩) (Nat.le_refl _) (.int .i64 x0)).setCell (p := ⟨w.heap.size, 1, none⟩) (Nat.le_refl _) (.int .i64 x1)).setCell (p := ⟨w.heap.size, 2, none⟩) (Nat.le_refl _) (.int .i64 x2)).alloc (by simp; omega) (.cells #[.int .i64 x0, .int .i64 x1, .int .i64 x2] 26)
    clear hRr hbw hRa hba
    go_wp2
    clear kR0 kR1 kR2 fR0 fR1 fR2
    generalize (((w2.setCell ⟨w.heap.size, 0, none⟩ (.int .i64 x0)).setCell ⟨w.heap.size, 1, none⟩ (.int .i64 x1)).setCell ⟨w.heap.size, 2, none⟩ (.int .i64 x2)).alloc (.cells #[.int .i64 x0, .int .i64 x1, .int .i64 x2] 26) = w9 at hRn hb9
    have k0 : w9.cell? ⟨w.heap.size, 0, none⟩ = some (.int .i64 x0) := by simpa using hRn.cellAt 0 (by omega)
    have k1 : w9.cell? ⟨w.heap.size, 1, none⟩ = some (.int .i64 x1) := by simpa using hRn.cellAt 1 (by omega)
    have k2 : w9.cell? ⟨w.heap.size, 2, none⟩ = some (.int .i64 x2) := by simpa using hRn.cellAt 2 (by omega)
    refine bodyPost_ret (by simp [results, Tryd.results12, go_sem, k0, k1, k2]; try rfl) rfl ?_
    exact ⟨⟨(x0, x1, x2), 0, HY.out, rfl⟩, hb9⟩
  · have HY : Hid (IsIns s (0, 0, 0) 3) := .inr ⟨rfl, rfl, hN⟩
    clear hN
    obtain ⟨y0, y1, y2⟩ := y
    unfold I3.val
    have kR0 : w2.cell? ⟨w.heap.size, 0, none⟩ = some (.int .i64 0) := by simpa using hRr.cellAt 0 (by omega)
    have kR1 : w2.cell? ⟨w.heap.size, 1, none⟩ = some (.int .i64 0) := by simpa using hRr.cellAt 1 (by omega)
    have kR2 : w2.cell? ⟨w.heap.size, 2, none⟩ = some (.int .i64 0) := by simpa using hRr.cellAt 2 (by omega)
    have fR0 := hRr.frozenAt 0
    have fR1 := hRr.frozenAt 1
    have fR2 := hRr.frozenAt 2
    have hlt := (hRr.lt w.heap.size rfl).2
    have hRn := ((((hRr.stored 0 (.int .i64 0)).1.stored 1 (.int .i64 0)).1.stored 2 (.int .i64 0)).1).alloc (.cells #[.int .i64 y0, .int .i64 y1, .int .i64 y2] 26)
    have hb9 := (((hbw.setCell (p := ⟨w.heap.size, 0, none⟩) (Nat.le_refl _) (.int .i64 0)).setCell (p := ⟨w.heap.size, 1, none⟩) (Nat.le_refl _) (.int .i64 0)).setCell (p := ⟨w.heap.size, 2, none⟩) (Nat.le_refl _) (.int .i64 0)).alloc (by simp; omega) (.cells #[.int .i64 y0, .int .i64 y1, .int .i64 y2] 26)
    clear hRr hbw
    go_wp2
    clear kR0 kR1 kR2 fR0 fR1 fR2
    generalize (((w2.setCell ⟨w.heap.size, 0, none⟩ (.int .i64 0)).setCell ⟨w.heap.size, 1, none⟩ (.int .i64 0)).setCell ⟨w.heap.size, 2, none⟩ (.int .i64 0)).alloc (.cells #[.int .i64 y0, .int .i64 y1, .int .i64 y2] 26) = w9 at hRn hb9
    have k0 : w9.cell? ⟨w.heap.size, 0, none⟩ = some (.int .i64 0) := by simpa using hRn.cellAt 0 (by omega)
    have k1 : w9.cell? ⟨w.heap.size, 1, none⟩ = some (.int .i64 0) := by simpa using hRn.cellAt 1 (by omega)
    have k2 : w9.cell? ⟨w.heap.size, 2, none⟩ = some (.int .i64 0) := by simpa using hRn.cellAt 2 (by omega)
    refine bodyPost_ret (by simp [results, Tryd.results12, go_sem, k0, k1, k2]; try rfl) rfl ?_
    exact ⟨⟨(0, 0, 0), 3, HY.out, rfl⟩, hb9⟩

theorem implReadInstr_long (s : ByteArray) (w : World) (hs : s.size ≤ 1048576) (h : 65536 < s.size) : Calls Tryd.prog 12 #[.string s] w fun e w' => e = .returned (.tuple #[.agg #[.int .i64 0, .int .i64 0, .int .i64 0], .int .i64 2]) ∧ Below w.heap.size w w' := by
  go_enter Tryd.func12, Tryd.ntmps12
  go_wp2
  go_returns
  exact ⟨rfl, by go_grown⟩

theorem isIns_exists (s : ByteArray) : ∃ x c, IsIns s x c := by
  by_cases h : ∃ x, IsRead (wordsT s) x
  · obtain ⟨x, h⟩ := h
    exact ⟨x, 0, .inl ⟨rfl, h⟩⟩
  · exact ⟨(0, 0, 0), 3, .inr ⟨rfl, rfl, fun x hx => h ⟨x, hx⟩⟩⟩

theorem readInstr_pair (s : ByteArray) (hs : s.size ≤ 1048576) : ∃ (x : I3) (c : Int),
    (∀ w, Calls Tryd.prog 11 #[.string s] w fun e w' => e = .returned (.tuple #[x.val, .int .i64 c]) ∧ Below w.heap.size w w') ∧
    (∀ w, OpTable w → Calls Tryd.prog 12 #[.string s] w fun e w' => e = .returned (.tuple #[x.val, .int .i64 c]) ∧ Below w.heap.size w w') := by
  by_cases hl : 65536 < s.size
  · exact ⟨(0, 0, 0), 2, fun w => specReadInstr_long s w hs hl, fun w _ => implReadInstr_long s w hs hl⟩
  · obtain ⟨x, c, hx⟩ := isIns_exists s
    refine ⟨x, c, fun w => (specReadInstr_any s w (by omega)).mono ?_, fun w hT => (implReadInstr_any s w (by omega) hT).mono ?_⟩
    · rintro e w' ⟨⟨y, d, hy, rfl⟩, hb⟩
      obtain ⟨rfl, rfl⟩ := hy.same hx
      exact ⟨rfl, hb⟩
    · rintro e w' ⟨⟨y, d, hy, rfl⟩, hb⟩
      obtain ⟨rfl, rfl⟩ := hy.same hx
      exact ⟨rfl, hb⟩

set_option maxHeartbeats 2000000 in
set_option maxRecDepth 100000 in
theorem fnExactReadInstr_walk (a0 : ByteArray) (w0 : a0.size ≤ maxLen) (w : World) (hT : OpTable w) :
    Calls Tryd.prog 4 #[.string a0] w fun e w' => e = .returned (.bool true) ∧ Below w.heap.size w w' := by
  unfold maxLen at w0
  by_cases hb : 1048576 < a0.size
  · go_enter Tryd.func4, Tryd.ntmps4
    go_wp2
    go_ret
    exact ⟨rfl, Below.refl _ _⟩
  have hb' : a0.size ≤ 1048576 := by omega
  clear hb w0
  obtain ⟨x, c, kS, kI⟩ := readInstr_pair a0 hb'
  have hne : (c != c) = false := by simp
  have KE := fun W => eqInstr_same x W
  obtain ⟨x0, x1, x2⟩ := x
  unfold I3.val at kS kI KE
  go_enter Tryd.func4, Tryd.ntmps4
  go_wp2_with fail
  refine (kS _).mono ?_
  rintro e w1 ⟨rfl, hb1⟩
  have hSb := box3_nw w1 (.int .i64 x0) (.int .i64 x1) (.int .i64 x2) 26 w1.heap.size (Nat.le_refl _)
  have b1 : Below w.heap.size w (w1.alloc (.cells #[.int .i64 x0, .int .i64 x1, .int .i64 x2] 26)) := bel_trans hb1 (by go_grown)
  have hT1 := hT.below b1
  clear hb1 kS
  go_wp2_with fail
  refine (kI _ hT1).mono ?_
  rintro e w2 ⟨rfl, hb2⟩
  have hSb2 := (owns_below hSb hb2).alloc (.cells #[.int .i64 x0, .int .i64 x1, .int .i64 x2] 26)
  have b2 : Below w.heap.size w (w2.alloc (.cells #[.int .i64 x0, .int .i64 x1, .int .i64 x2] 26)) := bel_trans (bel_trans b1 hb2) (by go_grown)
  have s0 : (w2.alloc (.cells #[.int .i64 x0, .int .i64 x1, .int .i64 x2] 26)).cell? ⟨w1.heap.size, 0, none⟩ = some (.int .i64 x0) := by simpa using hSb2.cellAt 0 (by omega)
  have s1 : (w2.alloc (.cells #[.int .i64 x0, .int .i64 x1, .int .i64 x2] 26)).cell? ⟨w1.heap.size, 1, none⟩ = some (.int .i64 x1) := by simpa using hSb2.cellAt 1 (by omega)
  have s2 : (w2.alloc (.cells #[.int .i64 x0, .int .i64 x1, .int .i64 x2] 26)).cell? ⟨w1.heap.size, 2, none⟩ = some (.int .i64 x2) := by simpa using hSb2.cellAt 2 (by omega)
  clear hb2 kI hT hT1 hSb hSb2 b1
  go_wp2_with fail
  refine (KE _).mono ?_
  rintro e w3 ⟨rfl, hb3⟩
  have b3 := bel_trans b2 hb3
  clear hb3 b2 KE s0 s1 s2
  go_wp2
  go_ret
  exact ⟨rfl, b3⟩

theorem fnExactReadInstr_laid {W : World} (h : laidMetH Tryd.prog Rows.fnExactReadInstrRow.laid W) : OpTable W := by
  rw [MakeChecks.laidMetH_plain _ _ _ (by kernel_rfl)] at h
  exact opTable_of_met h
theorem fnExactReadInstr_door_met (os : Os) (args : Array Value) : laidMetH Tryd.prog Rows.fnExactReadInstrRow.laid ((World.doorLaid Tryd.prog 400 os).forCall (fun _ _ => 0) ⟨#[], args, []⟩).memory :=
  laidMetH_of_parts3 (fuel := 8) (laidMet_of_run' 8 (by kernel_rfl) (by kernel_rfl)) (by kernel_rfl) (by kernel_rfl)
end Go.Proofs.YtiokkoaalakakaaDoor
