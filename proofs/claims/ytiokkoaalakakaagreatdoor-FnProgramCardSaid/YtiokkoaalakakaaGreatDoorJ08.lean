/-
  FnProgram, part 8 of 50 (Tells, TextI).
-/
import Derived.Test.YtiokkoaalakakaaGreatDoorJ02
import Derived.Test.YtiokkoaalakakaaGreatDoorJ07

/-
  tellsB: which instructions tell a second number.
-/
namespace Go.Proofs.YtiokkoaalakakaaGreatDoor
open Go.RowKit


theorem tb_shared (v : Value) (w : World) : (Instr.typeAssert (.iface 93 v) 67 96 true).run Tryz.prog w = .ok (.tuple #[.int .i64 0, .bool false]) w := by kernel_rfl
theorem tb_register (v : Value) (w : World) : (Instr.typeAssert (.iface 92 v) 67 96 true).run Tryz.prog w = .ok (.tuple #[.int .i64 0, .bool false]) w := by kernel_rfl
theorem tb_value (v : Value) (w : World) : (Instr.typeAssert (.iface 94 v) 67 96 true).run Tryz.prog w = .ok (.tuple #[.int .i64 0, .bool false]) w := by kernel_rfl
theorem tb_target (v : Value) (w : World) : (Instr.typeAssert (.iface 97 v) 67 96 true).run Tryz.prog w = .ok (.tuple #[.int .i64 0, .bool false]) w := by kernel_rfl
theorem tb_no (v : Value) (w : World) : (Instr.typeAssert (.iface 96 v) 67 96 true).run Tryz.prog w = .ok (.tuple #[v, .bool true]) w := by kernel_rfl
theorem tb_nil (w : World) : (Instr.typeAssert .nilIface 67 96 true).run Tryz.prog w = .ok (.tuple #[.int .i64 0, .bool false]) w := by kernel_rfl


set_option maxHeartbeats 1000000 in
set_option maxRecDepth 100000 in
theorem tellsB_1 (a b : Int) (w : World) : Calls Tryz.prog 47 #[.agg #[.int .i64 1, .int .i64 a, .int .i64 b]] w fun e w' => e = .returned (.bool true) ∧ Below w.heap.size w w' := by
  have ta := tb_shared (.int .i64 b)
  go_enter Tryz.func47, Tryz.ntmps47
  go_wp2_with fail
  refine (operandsOf_1 a b _).mono ?_
  rintro e w1 ⟨rfl, hb1⟩
  have hb : Below w.heap.size w w1 := bel_trans (by go_grown) hb1
  clear hb1
  go_wp2
  go_ret
  exact ⟨rfl, hb⟩


set_option maxHeartbeats 1000000 in
set_option maxRecDepth 100000 in
theorem tellsB_2 (a b : Int) (w : World) : Calls Tryz.prog 47 #[.agg #[.int .i64 2, .int .i64 a, .int .i64 b]] w fun e w' => e = .returned (.bool true) ∧ Below w.heap.size w w' := by
  have ta := tb_register (.int .i64 b)
  go_enter Tryz.func47, Tryz.ntmps47
  go_wp2_with fail
  refine (operandsOf_2 a b _).mono ?_
  rintro e w1 ⟨rfl, hb1⟩
  have hb : Below w.heap.size w w1 := bel_trans (by go_grown) hb1
  clear hb1
  go_wp2
  go_ret
  exact ⟨rfl, hb⟩


set_option maxHeartbeats 1000000 in
set_option maxRecDepth 100000 in
theorem tellsB_3 (a b : Int) (w : World) : Calls Tryz.prog 47 #[.agg #[.int .i64 3, .int .i64 a, .int .i64 b]] w fun e w' => e = .returned (.bool true) ∧ Below w.heap.size w w' := by
  have ta := tb_value (.int .i64 b)
  go_enter Tryz.func47, Tryz.ntmps47
  go_wp2_with fail
  refine (operandsOf_3 a b _).mono ?_
  rintro e w1 ⟨rfl, hb1⟩
  have hb : Below w.heap.size w w1 := bel_trans (by go_grown) hb1
  clear hb1
  go_wp2
  go_ret
  exact ⟨rfl, hb⟩


set_option maxHeartbeats 1000000 in
set_option maxRecDepth 100000 in
theorem tellsB_4 (a b : Int) (w : World) : Calls Tryz.prog 47 #[.agg #[.int .i64 4, .int .i64 a, .int .i64 b]] w fun e w' => e = .returned (.bool true) ∧ Below w.heap.size w w' := by
  have ta := tb_value (.int .i64 b)
  go_enter Tryz.func47, Tryz.ntmps47
  go_wp2_with fail
  refine (operandsOf_4 a b _).mono ?_
  rintro e w1 ⟨rfl, hb1⟩
  have hb : Below w.heap.size w w1 := bel_trans (by go_grown) hb1
  clear hb1
  go_wp2
  go_ret
  exact ⟨rfl, hb⟩


set_option maxHeartbeats 1000000 in
set_option maxRecDepth 100000 in
theorem tellsB_5 (a b : Int) (w : World) : Calls Tryz.prog 47 #[.agg #[.int .i64 5, .int .i64 a, .int .i64 b]] w fun e w' => e = .returned (.bool false) ∧ Below w.heap.size w w' := by
  have ta := tb_no (.int .i64 b)
  go_enter Tryz.func47, Tryz.ntmps47
  go_wp2_with fail
  refine (operandsOf_5 a b _).mono ?_
  rintro e w1 ⟨rfl, hb1⟩
  have hb : Below w.heap.size w w1 := bel_trans (by go_grown) hb1
  clear hb1
  go_wp2
  go_ret
  exact ⟨rfl, hb⟩


set_option maxHeartbeats 1000000 in
set_option maxRecDepth 100000 in
theorem tellsB_6 (a b : Int) (w : World) : Calls Tryz.prog 47 #[.agg #[.int .i64 6, .int .i64 a, .int .i64 b]] w fun e w' => e = .returned (.bool false) ∧ Below w.heap.size w w' := by
  have ta := tb_no (.int .i64 b)
  go_enter Tryz.func47, Tryz.ntmps47
  go_wp2_with fail
  refine (operandsOf_6 a b _).mono ?_
  rintro e w1 ⟨rfl, hb1⟩
  have hb : Below w.heap.size w w1 := bel_trans (by go_grown) hb1
  clear hb1
  go_wp2
  go_ret
  exact ⟨rfl, hb⟩


set_option maxHeartbeats 1000000 in
set_option maxRecDepth 100000 in
theorem tellsB_7 (a b : Int) (w : World) : Calls Tryz.prog 47 #[.agg #[.int .i64 7, .int .i64 a, .int .i64 b]] w fun e w' => e = .returned (.bool true) ∧ Below w.heap.size w w' := by
  have ta := tb_target (.int .i64 b)
  go_enter Tryz.func47, Tryz.ntmps47
  go_wp2_with fail
  refine (operandsOf_7 a b _).mono ?_
  rintro e w1 ⟨rfl, hb1⟩
  have hb : Below w.heap.size w w1 := bel_trans (by go_grown) hb1
  clear hb1
  go_wp2
  go_ret
  exact ⟨rfl, hb⟩


set_option maxHeartbeats 1000000 in
set_option maxRecDepth 100000 in
theorem tellsB_8 (a b : Int) (w : World) : Calls Tryz.prog 47 #[.agg #[.int .i64 8, .int .i64 a, .int .i64 b]] w fun e w' => e = .returned (.bool true) ∧ Below w.heap.size w w' := by
  have ta := tb_value (.int .i64 b)
  go_enter Tryz.func47, Tryz.ntmps47
  go_wp2_with fail
  refine (operandsOf_8 a b _).mono ?_
  rintro e w1 ⟨rfl, hb1⟩
  have hb : Below w.heap.size w w1 := bel_trans (by go_grown) hb1
  clear hb1
  go_wp2
  go_ret
  exact ⟨rfl, hb⟩


set_option maxHeartbeats 1000000 in
set_option maxRecDepth 100000 in
theorem tellsB_0 (c a b : Int) (w : World) (h : c ≠ 1 ∧ c ≠ 2 ∧ c ≠ 3 ∧ c ≠ 4 ∧ c ≠ 5 ∧ c ≠ 6 ∧ c ≠ 7 ∧ c ≠ 8) : Calls Tryz.prog 47 #[.agg #[.int .i64 c, .int .i64 a, .int .i64 b]] w fun e w' => e = .returned (.bool true) ∧ Below w.heap.size w w' := by
  have ta := tb_nil
  go_enter Tryz.func47, Tryz.ntmps47
  go_wp2_with fail
  refine (operandsOf_0 c a b _ h).mono ?_
  rintro e w1 ⟨rfl, hb1⟩
  have hb : Below w.heap.size w w1 := bel_trans (by go_grown) hb1
  clear hb1 h
  go_wp2
  go_ret
  exact ⟨rfl, hb⟩
end Go.Proofs.YtiokkoaalakakaaGreatDoor


/-
  impl.textOfInstr, InstrText on both sides.
-/
namespace Go.Proofs.YtiokkoaalakakaaGreatDoor
open Go.RowKit

/-- The program's table of words is there, as its text lays it. -/
def opCells : List Value := opWL.map fun l => Value.string ⟨l.toArray⟩
def OpTable (w : World) : Prop := ∃ t fr, w.heap[0]? = some (.cells opCells.toArray t fr)
theorem opCells_at (n : Nat) (hn : n < 9) : opCells[n]? = some (.string (opB n)) := by
  have hl : n < opWL.length := hn
  simp [opCells, opB, List.getElem?_eq_getElem hl]
theorem OpTable.cell {w : World} (h : OpTable w) (n : Nat) (hn : n < 9) : w.cell? ⟨0, n, none⟩ = some (.string (opB n)) := by
  obtain ⟨t, fr, h⟩ := h
  rw [cell_of_row w _ n _ t fr h, List.getElem?_toArray]
  exact opCells_at n hn
theorem OpTable.lt {w : World} (h : OpTable w) : 0 < w.heap.size := by
  obtain ⟨t, fr, h⟩ := h
  exact (Array.getElem?_eq_some_iff.1 h).1
theorem OpTable.below {w w' : World} (h : OpTable w) (hb : Below w.heap.size w w') : OpTable w' := by
  have hl := h.lt
  obtain ⟨t, fr, h⟩ := h
  exact ⟨t, fr, by rw [hb.block _ hl]; exact h⟩

theorem tellsB_lock (k a b : Nat) (w : World) (hk : k = 5 ∨ k = 6) : Calls Tryz.prog 47 #[.agg #[.int .i64 k, .int .i64 a, .int .i64 b]] w fun e w' => e = .returned (.bool false) ∧ Below w.heap.size w w' := by
  rcases hk with rfl | rfl
  · exact tellsB_5 a b w
  · exact tellsB_6 a b w
theorem tellsB_two (k a b : Nat) (w : World) (h0 : k ≠ 0) (hk : k < 9) (h5 : k ≠ 5) (h6 : k ≠ 6) : Calls Tryz.prog 47 #[.agg #[.int .i64 k, .int .i64 a, .int .i64 b]] w fun e w' => e = .returned (.bool true) ∧ Below w.heap.size w w' := by
  have hc : k = 1 ∨ k = 2 ∨ k = 3 ∨ k = 4 ∨ k = 7 ∨ k = 8 := by omega
  rcases hc with rfl | rfl | rfl | rfl | rfl | rfl
  · exact tellsB_1 a b w
  · exact tellsB_2 a b w
  · exact tellsB_3 a b w
  · exact tellsB_4 a b w
  · exact tellsB_7 a b w
  · exact tellsB_8 a b w

set_option maxHeartbeats 4000000 in
set_option maxRecDepth 100000 in
theorem textOf_lock (k a b : Nat) (w : World) (hT : OpTable w) (hk : k = 5 ∨ k = 6) (ha : a < 10) :
    Calls Tryz.prog 32 #[.agg #[.int .i64 k, .int .i64 a, .int .i64 b]] w fun e w' => e = .returned (.string (txt1 k a)) ∧ Below w.heap.size w w' := by
  unfold txt1
  have hk9 : k < 9 := by omega
  have hz1 := opB_size k
  have hz2 := digT_size a
  have hz0 : (⟨#[32]⟩ : ByteArray).size = 1 := rfl
  have hz3 : (opB k ++ ⟨#[32]⟩).size ≤ 7 := by rw [ByteArray.size_append]; omega
  have ha1 := fun W => run_string_add_sum (P := Tryz.prog) W (opB k) ⟨#[32]⟩ (by omega)
  have ha2 := fun W => run_string_add_sum (P := Tryz.prog) W (opB k ++ ⟨#[32]⟩) (digT a) (by omega)
  have hki : (0 : Int) ≤ (k : Int) := by omega
  have hki9 : (k : Int) < 9 := by omega
  have hc : ∀ o, (w.alloc o).cell? ⟨0, k, none⟩ = some (.string (opB k)) := fun o => cells_kept (by go_grown) _ _ (hT.cell k hk9)
  clear hT
  go_enter Tryz.func32, Tryz.ntmps32
  go_wp2_with fail
  go_quiet ((go_at_call 37; exact Calls.quiet_of_same ((itoa_digit a ha _).mono fun e w' h => ⟨h.1, h.2.symm⟩)))
  have b1 : Below w.heap.size w ((w.alloc (.cells #[.int .i64 (k : Int), .int .i64 (a : Int), .int .i64 (b : Int)] 36)).drewN nq) := bel_trans (by go_grown) (bel_drewN' _ _)
  go_wp2_with fail
  refine (tellsB_lock k a b _ hk).mono ?_
  rintro e w2 ⟨rfl, hb2⟩
  have b2 := bel_trans b1 hb2
  go_wp2
  go_ret
  exact ⟨rfl, b2⟩

set_option maxHeartbeats 4000000 in
set_option maxRecDepth 100000 in
theorem textOf_two (k a b : Nat) (w : World) (hT : OpTable w) (h0 : k ≠ 0) (hk : k < 9) (h5 : k ≠ 5) (h6 : k ≠ 6) (ha : a < 10) (hb : b < 10) :
    Calls Tryz.prog 32 #[.agg #[.int .i64 k, .int .i64 a, .int .i64 b]] w fun e w' => e = .returned (.string (txt2 k a b)) ∧ Below w.heap.size w w' := by
  have hE : txt2 k a b = (opB k ++ ⟨#[32]⟩ ++ digT a) ++ (⟨#[32]⟩ ++ digT b) := by unfold txt2 txt1; rw [ByteArray.append_assoc]
  rw [hE]
  clear hE
  have hz1 := opB_size k
  have hz2 := digT_size a
  have hz6 := digT_size b
  have hz0 : (⟨#[32]⟩ : ByteArray).size = 1 := rfl
  have hz3 : (opB k ++ ⟨#[32]⟩).size ≤ 7 := by rw [ByteArray.size_append]; omega
  have hz4 : (opB k ++ ⟨#[32]⟩ ++ digT a).size ≤ 8 := by rw [ByteArray.size_append]; omega
  have hz5 : (⟨#[32]⟩ ++ digT b).size ≤ 2 := by rw [ByteArray.size_append]; omega
  have ha1 := fun W => run_string_add_sum (P := Tryz.prog) W (opB k) ⟨#[32]⟩ (by omega)
  have ha2 := fun W => run_string_add_sum (P := Tryz.prog) W (opB k ++ ⟨#[32]⟩) (digT a) (by omega)
  have ha3 := fun W => run_string_add_sum (P := Tryz.prog) W ⟨#[32]⟩ (digT b) (by omega)
  have ha4 := fun W => run_string_add_sum (P := Tryz.prog) W (opB k ++ ⟨#[32]⟩ ++ digT a) (⟨#[32]⟩ ++ digT b) (by omega)
  have hki : (0 : Int) ≤ (k : Int) := by omega
  have hki9 : (k : Int) < 9 := by omega
  have hc : ∀ o, (w.alloc o).cell? ⟨0, k, none⟩ = some (.string (opB k)) := fun o => cells_kept (by go_grown) _ _ (hT.cell k hk)
  clear hT
  go_enter Tryz.func32, Tryz.ntmps32
  go_wp2_with fail
  go_quiet ((go_at_call 37; exact Calls.quiet_of_same ((itoa_digit a ha _).mono fun e w' h => ⟨h.1, h.2.symm⟩)))
  have b1 : Below w.heap.size w ((w.alloc (.cells #[.int .i64 (k : Int), .int .i64 (a : Int), .int .i64 (b : Int)] 36)).drewN nq) := bel_trans (by go_grown) (bel_drewN' _ _)
  have c2 : ((w.alloc (.cells #[.int .i64 (k : Int), .int .i64 (a : Int), .int .i64 (b : Int)] 36)).drewN nq).cell? ⟨w.heap.size, 2, none⟩ = some (.int .i64 (b : Int)) := by simp [go_sem]
  go_wp2_with fail
  refine (tellsB_two k a b _ h0 hk h5 h6).mono ?_
  rintro e w2 ⟨rfl, hb2⟩
  have b2 := bel_trans b1 hb2
  replace c2 := cells_kept hb2 _ _ c2
  clear b1 hb2
  go_wp2_with fail
  refine (itoa_digit b hb _).mono ?_
  rintro e w3 ⟨rfl, rfl⟩
  go_wp2
  go_ret
  exact ⟨rfl, b2⟩

theorem okI_nats {x : I3} (h : okI x = true) : ∃ k a b : Nat, x = ((k : Int), (a : Int), (b : Int)) ∧ k ≠ 0 ∧ k < 9 ∧ a < 10 ∧ b < 10 := by
  have hs : (1 ≤ x.1 ∧ x.1 ≤ 8) ∧ (0 ≤ x.2.1 ∧ x.2.1 ≤ 9) ∧ (0 ≤ x.2.2 ∧ x.2.2 ≤ 9) := by
    unfold okI at h
    rcases op_cases x with h' | h' | h' | h' | h' | h' | h' | h' | h'
    all_goals first
      | (simp [h'] at h; simp only [inB_true] at h; omega)
      | (obtain ⟨h1, h2, h3, h4, h5, h6, h7, h8⟩ := h'; simp [h1, h2, h3, h4, h5, h6, h7, h8] at h)
  obtain ⟨c, a, b⟩ := x
  simp only [] at hs
  refine ⟨c.toNat, a.toNat, b.toNat, ?_, by omega, by omega, by omega, by omega⟩
  rw [Int.toNat_of_nonneg (by omega), Int.toNat_of_nonneg (by omega), Int.toNat_of_nonneg (by omega)]

/-- A right instruction has one text, and both write it. -/
theorem text_pair {x : I3} (h : okI x = true) : ∃ t : ByteArray,
    (∀ w, Calls Tryz.prog 41 #[x.val] w fun e w' => e = .returned (.string t) ∧ Below w.heap.size w w') ∧
    (∀ w, OpTable w → Calls Tryz.prog 32 #[x.val] w fun e w' => e = .returned (.string t) ∧ Below w.heap.size w w') := by
  obtain ⟨k, a, b, rfl, h0, h9, ha, hb⟩ := okI_nats h
  unfold I3.val
  by_cases hk : k = 5 ∨ k = 6
  · exact ⟨_, fun w => l02Text_lock k a b w hk ha, fun w hT => textOf_lock k a b w hT hk ha⟩
  · exact ⟨_, fun w => l02Text_two k a b w h9 (by omega) (by omega) ha hb, fun w hT => textOf_two k a b w hT h0 h9 (by omega) (by omega) ha hb⟩

set_option maxHeartbeats 1000000 in
set_option maxRecDepth 100000 in
theorem implInstrText_ok (x : I3) (t : ByteArray) (w : World) (hT : OpTable w) (hok : okI x = true) (kT : ∀ w, OpTable w → Calls Tryz.prog 32 #[x.val] w fun e w' => e = .returned (.string t) ∧ Below w.heap.size w w') :
    Calls Tryz.prog 12 #[x.val] w fun e w' => e = .returned (.tuple #[.string t, .int .i64 0]) ∧ Below w.heap.size w w' := by
  have k := instrOK_is x
  rw [hok] at k
  obtain ⟨c, a, b⟩ := x
  unfold I3.val at *
  go_enter Tryz.func12, Tryz.ntmps12
  go_wp2_with fail
  refine (k _).mono ?_
  rintro e w1 ⟨rfl, hb1⟩
  have b1 : Below w.heap.size w w1 := bel_trans (by go_grown) hb1
  have c0 : w1.cell? ⟨w.heap.size, 0, none⟩ = some (.int .i64 c) := by rw [hb1.cell (by simp)]; simp [go_sem]
  have c1 : w1.cell? ⟨w.heap.size, 1, none⟩ = some (.int .i64 a) := by rw [hb1.cell (by simp)]; simp [go_sem]
  have c2 : w1.cell? ⟨w.heap.size, 2, none⟩ = some (.int .i64 b) := by rw [hb1.cell (by simp)]; simp [go_sem]
  have hT1 := hT.below b1
  clear hb1 k hok hT
  go_wp2_with fail
  refine (kT _ hT1).mono ?_
  rintro e w2 ⟨rfl, hb2⟩
  have b2 := bel_trans b1 hb2
  clear hb2 b1 kT c0 c1 c2 hT1
  go_wp2
  go_ret2
  exact ⟨rfl, b2⟩
set_option maxHeartbeats 1000000 in
set_option maxRecDepth 100000 in
theorem implInstrText_bad (x : I3) (w : World) (hok : okI x = false) :
    Calls Tryz.prog 12 #[x.val] w fun e w' => e = .returned (.tuple #[.string ByteArray.empty, .int .i64 1]) ∧ Below w.heap.size w w' := by
  have k := instrOK_is x
  rw [hok] at k
  obtain ⟨c, a, b⟩ := x
  unfold I3.val at *
  go_enter Tryz.func12, Tryz.ntmps12
  go_wp2_with fail
  refine (k _).mono ?_
  rintro e w1 ⟨rfl, hb1⟩
  have b1 : Below w.heap.size w w1 := bel_trans (by go_grown) hb1
  clear hb1 k hok
  go_wp2
  go_ret2
  exact ⟨rfl, b1⟩

end Go.Proofs.YtiokkoaalakakaaGreatDoor
