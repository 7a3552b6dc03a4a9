/-
  FnProgram, part 38 of 50 (PackI).
-/
import Derived.Test.YtiokkoaalakakaaGreatDoorJ37
import Derived.Test.YtiokkoaalakakaaGreatDoorJ06
import Derived.Deep.RegionHeld3

/-
  impl.PackProgram: a right program's numbers, packed; ErrBad of any other.
-/
namespace Go.Proofs.YtiokkoaalakakaaGreatDoor
open Go.RowKit

set_option maxHeartbeats 1000000 in
set_option maxRecDepth 100000 in
theorem implPack_bad (a : Option Addr) (len cap : Nat) (rows : List (List I3)) (w : World) (h : Codes w a len cap rows) (hok : progOk rows = false) :
    Calls Tryz.prog 8 #[.agg #[.slice a len cap]] w fun e w' => e = .returned (.tuple #[.string ByteArray.empty, .int .i64 1]) ∧ Below w.heap.size w w' := by
  have k := implProgramOK_is a len cap rows
  rw [hok] at k
  go_enter Tryz.func8, Tryz.ntmps8
  go_wp2_with fail
  refine (k _ (h.below (by go_grown))).mono ?_
  rintro e w1 ⟨rfl, hb1⟩
  have b1 : Below w.heap.size w w1 := bel_trans (by go_grown) hb1
  clear hb1 k h
  go_wp2
  go_ret2
  exact ⟨rfl, b1⟩

theorem progNums_pos {rows : List (List I3)} (h : rows.length = 3) : 0 < (progNums rows).length := by
  match rows, h with
  | [_, _, _], _ => simp [progNums]
theorem own_some {w : World} {B e n : Nat} {v : Value} {cs : List Value} (h : w.ownsRow B e 1 v n cs) (hn : 0 < n) : ∃ g c, v = .slice (some ⟨g, 0, none⟩) n c := by
  rcases h.2 with ⟨_, h0⟩ | ⟨g, cap, cur, hv, _⟩
  · omega
  · exact ⟨g, cap, hv⟩

set_option maxHeartbeats 4000000 in
set_option maxRecDepth 100000 in
theorem implPack_ok (a : Option Addr) (len cap : Nat) (rows : List (List I3)) (w : World) (h : Codes w a len cap rows) (hok : progOk rows = true) :
    Calls Tryz.prog 8 #[.agg #[.slice a len cap]] w fun e w' => e = .returned (.tuple #[.string (strOfNums (packL (progNums rows))), .int .i64 0]) ∧ Below w.heap.size w w' := by
  obtain ⟨i0, hi, hz0, hz1, hz2⟩ := info_parts info_int
  obtain ⟨h3, hrows⟩ := progOk_parts hok
  have hall := progNums_ok hok
  have hplen := progNums_len (rows := rows) (fun r hr => (hrows r hr).1)
  have k := implProgramOK_is a len cap rows
  rw [hok] at k
  clear hok
  go_enter Tryz.func8, Tryz.ntmps8
  go_wp2_with fail
  refine (k _ (h.below (by go_grown))).mono ?_
  rintro e w1 ⟨rfl, hb1⟩
  have cP : w1.cell? ⟨w.heap.size, 0, none⟩ = some (.slice a len cap) := by rw [hb1.cell (by simp)]; simp [go_sem]
  have b1 : Below w.heap.size w w1 := bel_trans (by go_grown) hb1
  clear hb1 k
  replace h := h.below b1
  have b1s := b1.size
  obtain ⟨hl, hlc, hcm, hcase⟩ := h
  obtain rfl : len = 3 := by omega
  rcases hcase with h0 | ⟨b, off, rfl, hblt, hcell⟩
  · omega
  unfold maxLen at hcm
  have hE : Hid (progNums rows = progNums (rows.take 3)) := by rw [Hid, List.take_of_length_le (by omega)]
  go_wp2
  go_loopw [4, 15] (fun sv si wr => ∃ (k : Nat), k ≤ 3 ∧ si = .int .i64 k ∧ wr.ownsRow w1.heap.size 3 1 sv (progNums (rows.take k)).length ((progNums (rows.take k)).map (Value.int .i64)) ∧ Below w1.heap.size w1 wr) (fun _ si _ => 3 - (intOf si).toNat)
  case atStart => exact ⟨0, by omega, rfl, by simpa [progNums] using World.ownsRow_nil _ _ _ _, by go_grown⟩
  case round =>
    obtain ⟨k, hk, rfl, hr, hbel⟩ := hrel
    by_cases hlt : k < 3
    · have hlt2 : (k : Int) < 3 := by omega
      have hk0 : (0 : Int) ≤ (k : Int) := by omega
      obtain ⟨a', len', cap', hc, hI⟩ := hcell k hlt
      have hst := progNums_step (rows := rows) (k := k) (by omega)
      have hl6 : (rows.getD k []).length ≤ 6 := (hrows _ (by have : k < rows.length := by omega
                                                             simp [List.getD, this])).1
      have htl : (progNums (rows.take k)).length ≤ 57 := by
        have := progNums_len (rows := rows.take k) (fun r hr => (hrows r (List.mem_of_mem_take hr)).1)
        simp at this
        omega
      rw [hI.1] at hst hl6
      generalize rows.getD k [] = xs at hI hst
      obtain ⟨ns, hns⟩ : ∃ ns, ns = progNums (rows.take k) := ⟨_, rfl⟩
      rw [← hns] at hr htl hst
      have hst' : Hid (progNums (rows.take (k + 1)) = (ns ++ [(len' : Int)]) ++ rowNums (xs.take len')) := by rw [Hid, hst, ← hI.1, List.take_length]
      clear hst hns
      have hc' : wr.cell? ⟨b, off + k, none⟩ = some (.slice a' len' cap') := by rw [hbel.cell (p := ⟨b, _, none⟩) hblt]; exact hc
      have hbs := hbel.size
      go_wp2_with (at_builtin; refine wpList_append_own _ rfl _ _ 56 rfl w1.heap.size 3 i0 (.int .i64 0) 1 8 Tryz.underlying56 hi hz0 hz1 hz2 rfl (by decide) _ _ _ rfl (hr.alloc _) ⟨wr.heap.size, 0, none⟩ 1 1 [.int .i64 (len' : Int)] rfl rfl (cell_one_new _ _ _) (one_i64'' _) ?c3 ?c4 ?c5 ?_)
      case c3 => unfold maxLen; omega
      case c4 => omega
      case c5 => simp; omega
      intro v2 w2 hown2 hgrow2 _
      have hb2 : Below w1.heap.size w1 w2 := (hbel.alloc hbs _).grown hgrow2 (by simp; omega) (fun j hj => (hr.lt _ hj).1)
      have hr2 : w2.ownsRow w1.heap.size 3 1 v2 (ns.length + 1) ((ns ++ [(len' : Int)]).map (Value.int .i64)) := by simpa using hown2
      clear hown2 hgrow2 hr hbel hc' hbs
      obtain ⟨hl', hlc', hcm', _, hcase'⟩ := hI
      unfold maxLen at hcm'
      obtain ⟨ms, hms⟩ : ∃ ms, ms = ns ++ [(len' : Int)] := ⟨_, rfl⟩
      have hml : ms.length = ns.length + 1 := by rw [hms]; simp
      rw [← hms] at hr2 hst'
      rw [← hml] at hr2
      clear hms
      go_wp2
      go_loopw [4, 26] (fun sv si wi => ∃ (i : Nat), i ≤ len' ∧ si = .int .i64 i ∧ wi.ownsRow w1.heap.size 3 1 sv (ms ++ rowNums (xs.take i)).length ((ms ++ rowNums (xs.take i)).map (Value.int .i64)) ∧ Below w1.heap.size w1 wi) (fun _ si _ => len' - (intOf si).toNat)
      case atStart => exact ⟨0, by omega, rfl, by simpa [rowNums] using hr2, hb2⟩
      case round =>
        clear hr2 hb2
        obtain ⟨i, hi', rfl, hr, hbel⟩ := hrel
        by_cases hil : i < len'
        · have hil2 : (i : Int) < (len' : Int) := by omega
          rcases hcase' with h0 | ⟨b', off', rfl, hblt', hcell'⟩
          · omega
          obtain ⟨c0, c1, c2⟩ := hcell' i hil
          have hsi := rowNums_step (xs := xs) (k := i) (by omega)
          generalize xs.getD i (0, 0, 0) = x at c0 c1 c2 hsi
          have htl2 : (ms ++ rowNums (xs.take i)).length ≤ 100 := by rw [List.length_append, rowNums_length, List.length_take]; omega
          have hsi' : Hid (ms ++ rowNums (xs.take (i + 1)) = (ms ++ rowNums (xs.take i)) ++ [x.1, x.2.1, x.2.2]) := by rw [Hid, hsi, List.append_assoc]
          clear hsi hcell'
          have d0 : wr.cell? ⟨b', off' + i * 3, none⟩ = some (.int .i64 x.1) := by rw [hbel.cell (p := ⟨b', _, none⟩) hblt']; exact c0
          have d1 : wr.cell? ⟨b', off' + i * 3 + 1, none⟩ = some (.int .i64 x.2.1) := by rw [hbel.cell (p := ⟨b', _, none⟩) hblt']; exact c1
          have d2 : wr.cell? ⟨b', off' + i * 3 + 2, none⟩ = some (.int .i64 x.2.2) := by rw [hbel.cell (p := ⟨b', _, none⟩) hblt']; exact c2
          clear c0 c1 c2
          generalize ms ++ rowNums (xs.take i) = ys at hr htl2 hsi'
          have hbs := hbel.size
          go_wp2_with (at_builtin; refine wpList_append_own _ rfl _ _ 56 rfl w1.heap.size 3 i0 (.int .i64 0) 1 8 Tryz.underlying56 hi hz0 hz1 hz2 rfl (by decide) _ _ _ rfl ((hr.alloc _).alloc _) ⟨wr.heap.size + 1, 0, none⟩ 3 3 [.int .i64 x.1, .int .i64 x.2.1, .int .i64 x.2.2] rfl rfl ?c2 (three_i64 _ _ _) ?c3 ?c4 ?c5 ?_)
          case c2 =>
            have := cell_three_new (wr.alloc (.cells #[.int .i64 x.1, .int .i64 x.2.1, .int .i64 x.2.2] 36)) (.int .i64 x.1) (.int .i64 x.2.1) (.int .i64 x.2.2) 3
            simpa using this
          case c3 => unfold maxLen; omega
          case c4 => omega
          case c5 => simp; omega
          intro v3 w3 hown3 hgrow3 _
          have hb3 : Below w1.heap.size w1 w3 := ((hbel.alloc hbs _).alloc (by simp; omega) _).grown hgrow3 (by simp; omega) (fun j hj => (hr.lt _ hj).1)
          have hr3 : w3.ownsRow w1.heap.size 3 1 v3 (ms ++ rowNums (xs.take (i + 1))).length ((ms ++ rowNums (xs.take (i + 1))).map (Value.int .i64)) := by rw [hsi'.out]; simpa using hown3
          clear hown3 hgrow3 hr hbel d0 d1 d2 hbs hsi'
          go_wp2
          go_roundw
          case rel => exact ⟨i + 1, by omega, by go_num, hr3, hb3⟩
          case measure => simp [intOf]; omega
        · obtain rfl : i = len' := by omega
          rw [← hst'.out] at hr
          clear hst' hcase'
          go_wp2
          go_roundw
          case rel => exact ⟨k + 1, by omega, by go_num, hr, hbel⟩
          case measure => simp [intOf]; omega
    · obtain rfl : k = 3 := by omega
      rw [← hE.out] at hr
      have hpos : 0 < (progNums rows).length := progNums_pos h3
      obtain ⟨g, c2, hu4⟩ := own_some hr hpos
      subst hu4
      have hI2 : Ints .i64 wr (some ⟨g, 0, none⟩) (progNums rows).length c2 (progNums rows) := Ints.of_owns hr
      have bw : Below w.heap.size w wr := b1.trans (hbel.mono b1s)
      clear hr hE hcell
      go_wp2_with fail
      refine (implPackList_any _ _ _ (progNums rows) _ hI2 (by omega)).mono ?_
      rintro e w4 ⟨hk4, hb4⟩
      rcases hk4 with ⟨_, rfl⟩ | ⟨hn, _⟩
      · clear hall hI2
        go_wp2
        go_ret2
        exact ⟨rfl, bw.trans (hb4.mono bw.size)⟩
      · exact absurd hall hn
end Go.Proofs.YtiokkoaalakakaaGreatDoor
