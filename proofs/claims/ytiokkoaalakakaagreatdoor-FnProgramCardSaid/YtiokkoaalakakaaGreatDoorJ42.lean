/-
  FnProgram, part 42 of 50 (LinesI).
-/
import Derived.Test.YtiokkoaalakakaaGreatDoorJ41

/-
  impl.linesOfProgram: a right program's lines.
-/
namespace Go.Proofs.YtiokkoaalakakaaGreatDoor
open Go.RowKit

set_option maxHeartbeats 4000000 in
set_option maxRecDepth 100000 in
theorem linesOf_ok (a : Option Addr) (len cap : Nat) (rows : List (List I3)) (w : World) (h : Codes w a len cap rows) (hok : progOk rows = true) (hT : OpTable w) :
    Calls Tryz.prog 20 #[.agg #[.slice a len cap]] w fun e w' => ∃ v, e = .returned v ∧ w'.ownsRow w.heap.size 9 1 v (linesTo rows 3).length ((linesTo rows 3).map Value.string) ∧ Below w.heap.size w w' := by
  obtain ⟨i0, hi, hz0, hz1, hz2⟩ := info_parts info_string
  obtain ⟨h3, hrows⟩ := progOk_parts hok
  clear hok
  obtain ⟨hl, hlc, hcm, hcase⟩ := h
  obtain rfl : len = 3 := by omega
  rcases hcase with h0 | ⟨b, off, rfl, hblt, hcell⟩
  · omega
  unfold maxLen at hcm
  have hr6 : ∀ k, (rows.getD k []).length ≤ 6 := fun k => by
    by_cases hk : k < rows.length
    · exact (hrows _ (by simp [List.getD, hk])).1
    · simp [List.getD, List.getElem?_eq_none (Nat.le_of_not_lt hk)]
  go_enter Tryz.func20, Tryz.ntmps20
  go_wp2
  go_loopw [3, 11] (fun sv si wr => ∃ (k : Nat), k ≤ 3 ∧ si = .int .i64 k ∧ wr.ownsRow w.heap.size 9 1 sv (linesTo rows k).length ((linesTo rows k).map Value.string) ∧ Below w.heap.size w wr) (fun _ si _ => 3 - (intOf si).toNat)
  case atStart => exact ⟨0, by omega, rfl, by simpa [linesTo] using World.ownsRow_nil _ _ _ _, by go_grown⟩
  case round =>
    obtain ⟨k, hk, rfl, hr, hbel⟩ := hrel
    by_cases hlt : k < 3
    · have hlt2 : (k : Int) < 3 := by omega
      have hk0 : (0 : Int) ≤ (k : Int) := by omega
      obtain ⟨a', len', cap', hc, hI⟩ := hcell k hlt
      have hst := linesTo_step rows k
      have hl6 : (rows.getD k []).length ≤ 6 := hr6 k
      have htl : (linesTo rows k).length ≤ 18 := by
        have := linesTo_len rows hr6 k
        omega
      have hoks : ∀ x ∈ rows.getD k [], okI x = true := (hrows _ (by have : k < rows.length := by omega
                                                                     simp [List.getD, this])).2
      rw [hI.1] at hl6
      generalize rows.getD k [] = xs at hI hst hoks
      obtain ⟨ms, hms⟩ : ∃ ms, ms = linesTo rows k := ⟨_, rfl⟩
      rw [← hms] at hr htl hst
      have hst' : Hid (linesTo rows (k + 1) = ms ++ rowLines k (xs.take len')) := by rw [Hid, hst, ← hI.1, List.take_length]
      clear hst hms
      have hc' : wr.cell? ⟨b, off + k, none⟩ = some (.slice a' len' cap') := by rw [hbel.cell (p := ⟨b, _, none⟩) hblt]; exact hc
      obtain ⟨hl', hlc', hcm', _, hcase'⟩ := hI
      unfold maxLen at hcm'
      go_wp2
      clear hc'
      go_loopw [3, 18] (fun sv si wi => ∃ (i : Nat), i ≤ len' ∧ si = .int .i64 i ∧ wi.ownsRow w.heap.size 9 1 sv (ms ++ rowLines k (xs.take i)).length ((ms ++ rowLines k (xs.take i)).map Value.string) ∧ Below w.heap.size w wi) (fun _ si _ => len' - (intOf si).toNat)
      case atStart => exact ⟨0, by omega, rfl, by simpa [rowLines] using hr, hbel⟩
      case round =>
        clear hr hbel
        obtain ⟨i, hi', rfl, hr, hbel⟩ := hrel
        by_cases hil : i < len'
        · have hil2 : (i : Int) < (len' : Int) := by omega
          have hi0 : (0 : Int) ≤ (i : Int) := by omega
          rcases hcase' with h0 | ⟨b', off', rfl, hblt', hcell'⟩
          · omega
          obtain ⟨c0, c1, c2⟩ := hcell' i hil
          have hsi := rowLines_step (k := k) (xs := xs) (i := i) (by omega)
          have hox : okI (xs.getD i (0, 0, 0)) = true := hoks _ (by simp [List.getD, show i < xs.length by omega])
          generalize xs.getD i (0, 0, 0) = x at c0 c1 c2 hsi hox
          have htl2 : (ms ++ rowLines k (xs.take i)).length ≤ 100 := by rw [List.length_append, rowLines, List.length_map, List.length_take]; omega
          have hsi' : Hid (ms ++ rowLines k (xs.take (i + 1)) = (ms ++ rowLines k (xs.take i)) ++ [(digT k ++ ⟨#[32]⟩) ++ txtI x]) := by rw [Hid, hsi, List.append_assoc]; rfl
          clear hsi hcell'
          have d0 : wr.cell? ⟨b', off' + i * 3, none⟩ = some (.int .i64 x.1) := by rw [hbel.cell (p := ⟨b', _, none⟩) hblt']; exact c0
          have d1 : wr.cell? ⟨b', off' + i * 3 + 1, none⟩ = some (.int .i64 x.2.1) := by rw [hbel.cell (p := ⟨b', _, none⟩) hblt']; exact c1
          have d2 : wr.cell? ⟨b', off' + i * 3 + 2, none⟩ = some (.int .i64 x.2.2) := by rw [hbel.cell (p := ⟨b', _, none⟩) hblt']; exact c2
          clear c0 c1 c2
          generalize ms ++ rowLines k (xs.take i) = ys at hr htl2 hsi'
          have hm1 : ys.length + 1 ≤ maxLen := by unfold maxLen; omega
          have hm2 : (ys.length + 1) * 16 ≤ 140737488355328 := by omega
          have hk9 : k < 10 := by omega
          have KT := fun W => textOf_is hox W
          have hz := txtI_size x
          generalize txtI x = tx at KT hz hsi'
          have hzb : (⟨#[32]⟩ : ByteArray).size = 1 := rfl
          have hz2' := digT_size k
          have hz3 : (digT k ++ ⟨#[32]⟩).size = 2 := by rw [ByteArray.size_append]; omega
          have ha1 := fun W => run_string_add_sum (P := Tryz.prog) W (digT k) ⟨#[32]⟩ (by omega)
          have ha2 := fun W => run_string_add_sum (P := Tryz.prog) W (digT k ++ ⟨#[32]⟩) tx (by omega)
          go_wp2_with fail
          have e0 : (wr.alloc (.cells #[.int .i64 x.1, .int .i64 x.2.1, .int .i64 x.2.2] 36)).cell? ⟨wr.heap.size, 0, none⟩ = some (.int .i64 x.1) := by simp [go_sem]
          have e1 : (wr.alloc (.cells #[.int .i64 x.1, .int .i64 x.2.1, .int .i64 x.2.2] 36)).cell? ⟨wr.heap.size, 1, none⟩ = some (.int .i64 x.2.1) := by simp [go_sem]
          have e2 : (wr.alloc (.cells #[.int .i64 x.1, .int .i64 x.2.1, .int .i64 x.2.2] 36)).cell? ⟨wr.heap.size, 2, none⟩ = some (.int .i64 x.2.2) := by simp [go_sem]
          have hrx := hr.alloc (.cells #[.int .i64 x.1, .int .i64 x.2.1, .int .i64 x.2.2] 36)
          have hbx : Below w.heap.size w (wr.alloc (.cells #[.int .i64 x.1, .int .i64 x.2.1, .int .i64 x.2.2] 36)) := bel_trans hbel (by go_grown)
          have hvX := fun j hj => Nat.ne_of_lt (hr.lt j hj).2
          clear hr hbel d0 d1 d2
          generalize wr.alloc (.cells #[.int .i64 x.1, .int .i64 x.2.1, .int .i64 x.2.2] 36) = wx at e0 e1 e2 hrx hbx
          generalize wr.heap.size = X at e0 e1 e2 hvX
          have hTx : OpTable wx.drew := hT.below hbx.drew
          have hbs1 := hbx.size
          go_region_held3 (fun w' => w'.cell? ⟨X, 0, none⟩ = some (.int .i64 x.1) ∧ w'.cell? ⟨X, 1, none⟩ = some (.int .i64 x.2.1) ∧ w'.cell? ⟨X, 2, none⟩ = some (.int .i64 x.2.2)) (first | (exact ⟨e0, e1, e2⟩) | (exact ⟨q10, q11, q12⟩) | (exact ⟨q20, q21, q22⟩) | go_keep)
            (first | (go_at_call 37; refine (itoa_digit k hk9 _).mono ?_; rintro e w1 ⟨rfl, rfl⟩) | (go_at_call 32; refine (KT _ hTx).mono ?_; rintro e w2 ⟨rfl, hb2⟩; have q10 := cells_kept hb2 _ _ e0; have q11 := cells_kept hb2 _ _ e1; have q12 := cells_kept hb2 _ _ e2; have hr2 := owns_below hrx.drew hb2; have hbs2 : w.heap.size ≤ w2.heap.size := Nat.le_trans hbs1 hb2.size) | (refine step_append_mine rfl _ _ 27 rfl w.heap.size 9 i0 (.string ⟨#[]⟩) 1 16 Tryz.underlying27 hi hz0 hz1 hz2 rfl (by decide) _ ys.length (ys.map Value.string) rfl (hr2.alloc _) ⟨w2.heap.size, 0, none⟩ 1 1 [.string ((digT k ++ ⟨#[32]⟩) ++ tx)] rfl rfl (one_cell_new _ _ _) (one_str _) hm1 hm2 (Nat.le_trans hbs2 (by simp)) ?_; intro v3 w3 hown3 hgrow3; have hB3 := below_app2 hbs2 hr2 hgrow3; have q20 := hgrow3.cell (cells_kept (by go_grown) _ _ q10) (fun e => hvX _ e.symm rfl); have q21 := hgrow3.cell (cells_kept (by go_grown) _ _ q11) (fun e => hvX _ e.symm rfl); have q22 := hgrow3.cell (cells_kept (by go_grown) _ _ q12) (fun e => hvX _ e.symm rfl)))
          have hb3 : Below w.heap.size w w3 := (bel_trans hbx (bel_trans (by go_grown) hb2)).trans hB3
          have hr3 : w3.ownsRow w.heap.size 9 1 v3 (ms ++ rowLines k (xs.take (i + 1))).length ((ms ++ rowLines k (xs.take (i + 1))).map Value.string) := by rw [hsi'.out]; simpa using hown3
          clear hown3 hgrow3 hsi' hB3 hbs1 hm1 hm2 q10 q11 q12 hr2 hb2 hbs2 KT ha1 ha2 e0 e1 e2 hrx hbx hTx hvX q20 q21 q22
          go_wp2
          go_roundw
          case rel => exact ⟨i + 1, by omega, by go_num, hr3, hb3⟩
          case measure => simp [intOf]; omega
        · obtain rfl : i = len' := by omega
          rw [← hst'.out] at hr
          clear hst' hcase'
          go_wp2
          go_roundw
          case rel => exact ⟨k + 1, by omega, by go_num, hr, hbel⟩
          case measure => simp [intOf]; omega
    · obtain rfl : k = 3 := by omega
      clear hcell
      go_wp2
      go_ret
      exact ⟨_, rfl, hr, hbel⟩
end Go.Proofs.YtiokkoaalakakaaGreatDoor
