/-
  FnProgram, part 41 of 50 (LinesS).
-/
import Derived.Test.YtiokkoaalakakaaGreatDoorJ11
import Derived.Test.YtiokkoaalakakaaGreatDoorJ20
import Derived.Test.YtiokkoaalakakaaGreatDoorJ40
import Derived.Test.YtiokkoaalakakaaGreatDoorJ06
import Derived.Deep.RegionHeld3

/-
  spec.l02Lines and spec.ProgramText: a right program's lines.
-/
namespace Go.Proofs.YtiokkoaalakakaaGreatDoor
open Go.RowKit

theorem owns_mono {w : World} {B B' e s n : Nat} {v : Value} {cs : List Value} (h : w.ownsRow B e s v n cs) (hB : B' ≤ B) : w.ownsRow B' e s v n cs := by
  refine ⟨h.1, ?_⟩
  rcases h.2 with h0 | ⟨g, cap, cur, hv, hg, r⟩
  · exact .inl h0
  · exact .inr ⟨g, cap, cur, hv, by omega, r⟩
theorem owns_none (w : World) (e : TypeId) : (w.alloc (.cells #[] e)).ownsRow w.heap.size e 1 (.slice (some ⟨w.heap.size, 0, none⟩) 0 0) 0 [] := by
  refine ⟨rfl, .inr ⟨w.heap.size, 0, #[], rfl, Nat.le_refl _, ?_, ?_⟩⟩
  · simpa using heap_alloc_new w (.cells #[] e)
  · simp [maxLen]
theorem below_app2 {B e n : Nat} {wr w3 : World} {o : Obj} {v : Value} {cs : List Value} (hb : B ≤ wr.heap.size) (hr : wr.ownsRow B e 1 v n cs) (hg : (wr.alloc o).grownBy w3 v.ownBlock) : Below B wr w3 :=
  ((Below.refl B wr).alloc hb o).grown hg (by simp; omega) (fun j hj => (hr.lt _ hj).1)
theorem cells_lo {B : Nat} {wr w3 : World} (h : Below B wr w3) {p : Addr} {v : Value} (hp : p.block < B) (hc : wr.cell? p = some v) : w3.cell? p = some v := by rw [h.cell hp]; exact hc
theorem one_str (t : ByteArray) : ∀ u ∈ [Value.string t], u.oneCell' = true := by intro u hu; simp at hu; subst hu; rfl
theorem one_cell_new (w : World) (x : Value) (t : TypeId) : ∀ j u, [x][j]? = some u → (w.alloc (.cells #[x] t)).cell? ((⟨w.heap.size, 0, none⟩ : Addr).add j) = some u := by
  intro j u hj
  match j, hj with
  | 0, hj => simp at hj; subst hj; simp [Addr.add]
  | (j + 1), hj => simp at hj
theorem info_string : (Tryz.prog.info? 9).map (fun i => (i.zero, i.size, i.bytes)) = some (some (.string ⟨#[]⟩), 1, 16) := by kernel_rfl

set_option maxHeartbeats 4000000 in
set_option maxRecDepth 100000 in
theorem l02Lines_ok (a : Option Addr) (len cap : Nat) (rows : List (List I3)) (w : World) (h : Codes w a len cap rows) (hok : progOk rows = true) :
    Calls Tryz.prog 22 #[.agg #[.slice a len cap]] w fun e w' => ∃ v, e = .returned v ∧ w'.ownsRow w.heap.size 9 1 v (linesTo rows 3).length ((linesTo rows 3).map Value.string) ∧ Below w.heap.size w w' := by
  obtain ⟨i0, hi, hz0, hz1, hz2⟩ := info_parts info_string
  obtain ⟨h3, hrows⟩ := progOk_parts hok
  clear hok
  obtain ⟨hl, hlc, hcm, hcase⟩ := h
  obtain rfl : len = 3 := by omega
  rcases hcase with h0 | ⟨b, off, rfl, hblt, hcell⟩
  · omega
  unfold maxLen at hcm
  have hr6 : ∀ k, (rows.getD k []).length ≤ 6 := fun k => by
    by_cases hk : k < rows.length
    · exact (hrows _ (by simp [List.getD, hk])).1
    · simp [List.getD, List.getElem?_eq_none (Nat.le_of_not_lt hk)]
  go_enter Tryz.func22, Tryz.ntmps22
  go_wp2
  go_loopw [3, 4] (fun sv si wr => ∃ (k : Nat), k ≤ 3 ∧ si = .int .i64 k ∧ wr.ownsRow (w.heap.size + 1) 9 1 sv (linesTo rows k).length ((linesTo rows k).map Value.string) ∧ wr.cell? ⟨w.heap.size, 0, none⟩ = some (.slice (some ⟨b, off, none⟩) 3 cap) ∧ Below w.heap.size w wr) (fun _ si _ => 3 - (intOf si).toNat)
  case atStart => exact ⟨0, by omega, rfl, by simpa [linesTo] using owns_none (w.alloc (.cells #[.slice (some ⟨b, off, none⟩) 3 cap] 25)) 9, by simp [go_sem], by go_grown⟩
  case round =>
    obtain ⟨k, hk, rfl, hr, cP, hbel⟩ := hrel
    by_cases hlt : k < 3
    · have hlt2 : (k : Int) < 3 := by omega
      have hk0 : (0 : Int) ≤ (k : Int) := by omega
      obtain ⟨a', len', cap', hc, hI⟩ := hcell k hlt
      have hst := linesTo_step rows k
      have hl6 : (rows.getD k []).length ≤ 6 := hr6 k
      have htl : (linesTo rows k).length ≤ 18 := by
        have := linesTo_len rows hr6 k
        omega
      have hoks : ∀ x ∈ rows.getD k [], okI x = true := (hrows _ (by have : k < rows.length := by omega
                                                                     simp [List.getD, this])).2
      rw [hI.1] at hl6
      generalize rows.getD k [] = xs at hI hst hoks
      obtain ⟨ms, hms⟩ : ∃ ms, ms = linesTo rows k := ⟨_, rfl⟩
      rw [← hms] at hr htl hst
      have hst' : Hid (linesTo rows (k + 1) = ms ++ rowLines k (xs.take len')) := by rw [Hid, hst, ← hI.1, List.take_length]
      clear hst hms
      obtain ⟨hl', hlc', hcm', _, hcase'⟩ := hI
      unfold maxLen at hcm'
      go_wp2
      go_loopw [3, 5] (fun sv si wi => ∃ (i : Nat), i ≤ len' ∧ si = .int .i64 i ∧ wi.ownsRow (w.heap.size + 1) 9 1 sv (ms ++ rowLines k (xs.take i)).length ((ms ++ rowLines k (xs.take i)).map Value.string) ∧ wi.cell? ⟨w.heap.size, 0, none⟩ = some (.slice (some ⟨b, off, none⟩) 3 cap) ∧ Below w.heap.size w wi) (fun _ si _ => len' - (intOf si).toNat)
      case atStart => exact ⟨0, by omega, rfl, by simpa [rowLines] using hr, cP, hbel⟩
      case round =>
        clear hr hbel cP
        obtain ⟨i, hi', rfl, hr, cP, hbel⟩ := hrel
        have hc' : wr.cell? ⟨b, off + k, none⟩ = some (.slice a' len' cap') := by rw [hbel.cell (p := ⟨b, _, none⟩) hblt]; exact hc
        by_cases hil : i < len'
        · have hil2 : (i : Int) < (len' : Int) := by omega
          have hi0 : (0 : Int) ≤ (i : Int) := by omega
          rcases hcase' with h0 | ⟨b', off', rfl, hblt', hcell'⟩
          · omega
          obtain ⟨c0, c1, c2⟩ := hcell' i hil
          have hsi := rowLines_step (k := k) (xs := xs) (i := i) (by omega)
          have hox : okI (xs.getD i (0, 0, 0)) = true := hoks _ (by simp [List.getD, show i < xs.length by omega])
          generalize xs.getD i (0, 0, 0) = x at c0 c1 c2 hsi hox
          have htl2 : (ms ++ rowLines k (xs.take i)).length ≤ 100 := by rw [List.length_append, rowLines, List.length_map, List.length_take]; omega
          have hsi' : Hid (ms ++ rowLines k (xs.take (i + 1)) = (ms ++ rowLines k (xs.take i)) ++ [(digT k ++ ⟨#[32]⟩) ++ txtI x]) := by rw [Hid, hsi, List.append_assoc]; rfl
          clear hsi hcell'
          have d0 : wr.cell? ⟨b', off' + i * 3, none⟩ = some (.int .i64 x.1) := by rw [hbel.cell (p := ⟨b', _, none⟩) hblt']; exact c0
          have d1 : wr.cell? ⟨b', off' + i * 3 + 1, none⟩ = some (.int .i64 x.2.1) := by rw [hbel.cell (p := ⟨b', _, none⟩) hblt']; exact c1
          have d2 : wr.cell? ⟨b', off' + i * 3 + 2, none⟩ = some (.int .i64 x.2.2) := by rw [hbel.cell (p := ⟨b', _, none⟩) hblt']; exact c2
          clear c0 c1 c2
          generalize ms ++ rowLines k (xs.take i) = ys at hr htl2 hsi'
          have hbs := hbel.size
          have hPl := lt_of_cell cP
          have hbs1 : w.heap.size + 1 ≤ wr.heap.size := hPl
          have hm1 : ys.length + 1 ≤ maxLen := by unfold maxLen; omega
          have hm2 : (ys.length + 1) * 16 ≤ 140737488355328 := by omega
          have hP1 : (⟨w.heap.size, 0, none⟩ : Addr).block < w.heap.size + 1 := by simp
          have hP2 : (⟨b, off + k, none⟩ : Addr).block < w.heap.size + 1 := by simp; omega
          have hP3 : b' < w.heap.size + 1 := by omega
          have hk9 : k < 10 := by omega
          have KT := fun W => l02Text_is hox W
          have hz := txtI_size x
          generalize txtI x = tx at KT hz hsi'
          have hzb : (⟨#[32]⟩ : ByteArray).size = 1 := rfl
          have hz2' := digT_size k
          have hz3 : (digT k ++ ⟨#[32]⟩).size = 2 := by rw [ByteArray.size_append]; omega
          have ha1 := fun W => run_string_add_sum (P := Tryz.prog) W (digT k) ⟨#[32]⟩ (by omega)
          have ha2 := fun W => run_string_add_sum (P := Tryz.prog) W (digT k ++ ⟨#[32]⟩) tx (by omega)
          go_wp2_with fail
          go_region_held3 (fun w' => w'.cell? ⟨w.heap.size, 0, none⟩ = some (.slice (some ⟨b, off, none⟩) 3 cap) ∧ w'.cell? ⟨b, off + k, none⟩ = some (.slice (some ⟨b', off', none⟩) len' cap') ∧ w'.cell? ⟨b', off' + i * 3, none⟩ = some (.int .i64 x.1) ∧ w'.cell? ⟨b', off' + i * 3 + 1, none⟩ = some (.int .i64 x.2.1) ∧ w'.cell? ⟨b', off' + i * 3 + 2, none⟩ = some (.int .i64 x.2.2)) (first | (exact ⟨cP, hc', d0, d1, d2⟩) | (exact ⟨cP1, q10, q11, q12, q13⟩) | (exact ⟨cP2, q20, q21, q22, q23⟩) | (exact ⟨cP3, q0, q1, q2, q3⟩) | go_keep)
            (first | (go_at_call 40; refine (l00Digits_digit k hk9 _).mono ?_; rintro e w1 ⟨rfl, hb1⟩; have cP1 := cells_kept hb1 _ _ cP; have q10 := cells_kept hb1 _ _ hc'; have q11 := cells_kept hb1 _ _ d0; have q12 := cells_kept hb1 _ _ d1; have q13 := cells_kept hb1 _ _ d2; have hr1 := owns_below hr.drew hb1) | (go_at_call 41; refine (KT _).mono ?_; rintro e w2 ⟨rfl, hb2⟩; have cP2 := cells_kept hb2 _ _ cP1; have q20 := cells_kept hb2 _ _ q10; have q21 := cells_kept hb2 _ _ q11; have q22 := cells_kept hb2 _ _ q12; have q23 := cells_kept hb2 _ _ q13; have hr2 := owns_below hr1 hb2; have hbs2 : w.heap.size + 1 ≤ w2.heap.size := Nat.le_trans hbs1 (Nat.le_trans hb1.size hb2.size)) | (refine step_append_mine rfl _ _ 27 rfl (w.heap.size + 1) 9 i0 (.string ⟨#[]⟩) 1 16 Tryz.underlying27 hi hz0 hz1 hz2 rfl (by decide) _ ys.length (ys.map Value.string) rfl (hr2.alloc _) ⟨w2.heap.size, 0, none⟩ 1 1 [.string ((digT k ++ ⟨#[32]⟩) ++ tx)] rfl rfl (one_cell_new _ _ _) (one_str _) hm1 hm2 (Nat.le_trans hbs2 (by simp)) ?_; intro v3 w3 hown3 hgrow3; have hB3 := below_app2 hbs2 hr2 hgrow3; have cP3 := cells_lo hB3 hP1 cP2; have q0 := cells_lo hB3 hP2 q20; have q1 := cells_lo hB3 hP3 q21; have q2 := cells_lo hB3 hP3 q22; have q3 := cells_lo hB3 hP3 q23))
          have hb3 : Below w.heap.size w w3 := (bel_trans hbel (bel_trans (by go_grown) (bel_trans hb1 hb2))).trans (hB3.mono (by omega))
          have hr3 : w3.ownsRow (w.heap.size + 1) 9 1 v3 (ms ++ rowLines k (xs.take (i + 1))).length ((ms ++ rowLines k (xs.take (i + 1))).map Value.string) := by rw [hsi'.out]; simpa using hown3
          clear hown3 hgrow3 hr hbel d0 d1 d2 hbs hsi' hB3 cP hPl q0 q1 q2 q3 hbs1 hm1 hm2 hP1 hP2 hP3 cP1 cP2 q10 q11 q12 q13 q20 q21 q22 q23 hr1 hr2 hb1 hb2 hbs2 KT ha1 ha2
          go_wp2
          go_roundw
          case rel => exact ⟨i + 1, by omega, by go_num, hr3, cP3, hb3⟩
          case measure => simp [intOf]; omega
        · obtain rfl : i = len' := by omega
          rw [← hst'.out] at hr
          clear hst' hcase'
          go_wp2
          go_roundw
          case rel => exact ⟨k + 1, by omega, by go_num, hr, cP, hbel⟩
          case measure => simp [intOf]; omega
    · obtain rfl : k = 3 := by omega
      clear hcell
      go_wp2
      go_ret
      exact ⟨_, rfl, owns_mono hr (by omega), hbel⟩
end Go.Proofs.YtiokkoaalakakaaGreatDoor
