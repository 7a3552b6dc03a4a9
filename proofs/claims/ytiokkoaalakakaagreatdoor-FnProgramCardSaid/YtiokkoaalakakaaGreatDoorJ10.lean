/-
  FnProgram, part 10 of 50 (Prog2, Prog3, CodeI).
-/
import Derived.Test.YtiokkoaalakakaaGreatDoorJ01
import Derived.OwnWalk
import Derived.Test.YtiokkoaalakakaaGreatDoorJ09
import Derived.Test.YtiokkoaalakakaaGreatDoorJ06

/-
  Programs copied, in memory of their own: laws' toInstrS, toInstrSS, toProgram.
-/
namespace Go.Proofs.YtiokkoaalakakaaGreatDoor
open Go.RowKit

def I3.cells (x : I3) : List Value := [.int .i64 x.1, .int .i64 x.2.1, .int .i64 x.2.2]

/-- The cells of a row of instructions. -/
def flat (xs : List I3) : List Value := xs.flatMap I3.cells

theorem flat_length (xs : List I3) : (flat xs).length = xs.length * 3 := by
  induction xs with
  | nil => rfl
  | cons x xs ih => simp [flat, I3.cells] at *; omega

theorem flat_take_succ {xs : List I3} {k : Nat} (hk : k < xs.length) : flat (xs.take (k + 1)) = flat (xs.take k) ++ (xs.getD k (0, 0, 0)).cells := by
  unfold flat
  rw [List.take_succ_eq_append_getElem hk, List.flatMap_append]
  simp [List.getD, hk, I3.cells]

theorem set3_take {cs l : List Value} {k : Nat} (a b c : Value) (hl : k * 3 + 3 ≤ cs.length) (ht : cs.take (k * 3) = l) :
    (((cs.set (k * 3) a).set (k * 3 + 1) b).set (k * 3 + 2) c).take ((k + 1) * 3) = l ++ [a, b, c] := by
  have hll : l.length = k * 3 := by rw [← ht, List.length_take]; omega
  obtain ⟨x, y, z, rest, hd⟩ : ∃ x y z rest, cs.drop (k * 3) = x :: y :: z :: rest := by
    match h : cs.drop (k * 3), (by rw [List.length_drop]; omega : 3 ≤ (cs.drop (k * 3)).length) with
    | x :: y :: z :: rest, _ => exact ⟨x, y, z, rest, rfl⟩
  have hcs : cs = l ++ x :: y :: z :: rest := by rw [← ht, ← hd, List.take_append_drop]
  rw [hcs, ← hll, List.set_append_right _ _ (Nat.le_refl _), List.set_append_right _ _ (by omega), List.set_append_right _ _ (by omega)]
  rw [show (k + 1) * 3 = l.length + 3 by omega, List.take_length_add_append]
  simp [show l.length + 1 - l.length = 1 by omega, show l.length + 2 - l.length = 2 by omega]

/-- A row of our own that holds the cells of xs is one of the instructions xs. -/
theorem Instrs.of_owns {w : World} {base e n cap g : Nat} {cs : List Value} {xs : List I3} (h : w.ownsRow base e 3 (.slice (some ⟨g, 0, none⟩) n cap) n cs) (hl : xs.length = n) (hf : ∀ x ∈ xs, I3.fits x) (hcs : cs = flat xs) :
    Instrs w (some ⟨g, 0, none⟩) n cap xs := by
  have hcell : ∀ t, t < n → ∀ j, j < 3 → w.cell? ⟨g, t * 3 + j, none⟩ = ((xs.getD t (0, 0, 0)).cells)[j]? := by
    intro t ht j hj
    rw [h.cellAt (t * 3 + j) (by omega), hcs]
    have hsplit : flat xs = flat (xs.take t) ++ ((xs.getD t (0, 0, 0)).cells ++ flat (xs.drop (t + 1))) := by
      rw [← List.append_assoc, ← flat_take_succ (by omega)]
      unfold flat
      rw [← List.flatMap_append, List.take_append_drop]
    have hlt : (flat (xs.take t)).length = t * 3 := by rw [flat_length, List.length_take]; rw [Nat.min_eq_left (by omega)]
    rw [hsplit, List.getElem?_append_right (by omega), hlt, Nat.add_sub_cancel_left, List.getElem?_append_left (by simp [I3.cells]; omega)]
  have hg := (h.lt g rfl).2
  rcases h.2 with ⟨h0, _⟩ | ⟨g', cap', cur, hv, _, _, hn, hcap, _, _⟩
  · cases h0
  · cases hv
    exact ⟨hl, hn, hcap, hf, .inr ⟨g, 0, rfl, hg, fun t ht => ⟨by simpa [I3.cells] using hcell t ht 0 (by omega), by simpa [I3.cells] using hcell t ht 1 (by omega), by simpa [I3.cells] using hcell t ht 2 (by omega)⟩⟩⟩

theorem info_instr : (Tryz.prog.info? 36).map (fun i => (i.zero, i.size, i.bytes)) = some (some (.agg #[.int .i64 0, .int .i64 0, .int .i64 0]), 3, 24) := by kernel_rfl

theorem owns_below {B e k n : Nat} {v : Value} {xs : List Value} {w w' : World} (h : w.ownsRow B e k v n xs) (hb : Below w.heap.size w w') : w'.ownsRow B e k v n xs := by
  refine ⟨h.1, ?_⟩
  rcases h.2 with h0 | ⟨g, cap, cur, hv, hB, hg, rest⟩
  · exact .inl h0
  · have hlt : g < w.heap.size := by
      rcases Nat.lt_or_ge g w.heap.size with h' | h'
      · exact h'
      · simp [Array.getElem?_eq_none h'] at hg
    exact .inr ⟨g, cap, cur, hv, hB, by rw [hb.block g hlt]; exact hg, rest⟩

end Go.Proofs.YtiokkoaalakakaaGreatDoor


/-
  Programs copied, in memory of their own: laws' toInstrSS, toProgram.
-/
namespace Go.Proofs.YtiokkoaalakakaaGreatDoor
open Go.RowKit

theorem cell_setCell_off (w : World) (p : Addr) (u : Value) {q : Addr} (h : q.block ≠ p.block) : (w.setCell p u).cell? q = w.cell? q := by
  have := heap_setCell_other w p q.block u h
  unfold World.cell?
  rw [this]

theorem Instrs.setCell {w : World} {g len cap : Nat} {xs : List I3} (h : Instrs w (some ⟨g, 0, none⟩) len cap xs) (p : Addr) (u : Value) (hne : g ≠ p.block) : Instrs (w.setCell p u) (some ⟨g, 0, none⟩) len cap xs := by
  obtain ⟨h1, h2, h3, hf, h4⟩ := h
  refine ⟨h1, h2, h3, hf, ?_⟩
  rcases h4 with h4 | ⟨b, off, ha, hlt, hc⟩
  · exact .inl h4
  · cases ha
    refine .inr ⟨g, 0, rfl, by simpa using hlt, fun t ht => ?_⟩
    obtain ⟨c0, c1, c2⟩ := hc t ht
    exact ⟨by rw [cell_setCell_off _ _ _ hne]; exact c0, by rw [cell_setCell_off _ _ _ hne]; exact c1, by rw [cell_setCell_off _ _ _ hne]; exact c2⟩

/-- The first k rows are there, each in a block of its own behind B. -/
def RowsTo (w : World) (B k : Nat) (cs : List Value) (rows : List (List I3)) : Prop :=
  ∀ t, t < k → ∃ g len', cs[t]? = some (.slice (some ⟨g, 0, none⟩) len' len') ∧ B < g ∧ Instrs w (some ⟨g, 0, none⟩) len' len' (rows.getD t [])

theorem RowsTo.below {w w' : World} {B k : Nat} {cs : List Value} {rows : List (List I3)} (h : RowsTo w B k cs rows) (hb : Below w.heap.size w w') : RowsTo w' B k cs rows := fun t ht => by
  obtain ⟨g, l, hc, hg, hi⟩ := h t ht
  exact ⟨g, l, hc, hg, hi.below hb⟩

theorem RowsTo.put {w : World} {B k : Nat} {cs : List Value} {rows : List (List I3)} (h : RowsTo w B k cs rows) (hk : k < cs.length) {g len' : Nat} (hg : B < g) (hi : Instrs w (some ⟨g, 0, none⟩) len' len' (rows.getD k [])) :
    RowsTo (w.setCell ⟨B, k, none⟩ (.slice (some ⟨g, 0, none⟩) len' len')) B (k + 1) (cs.set k (.slice (some ⟨g, 0, none⟩) len' len')) rows := fun t ht => by
  by_cases htk : t = k
  · subst htk
    exact ⟨g, len', by simp [hk], hg, hi.setCell _ _ (show g ≠ B by omega)⟩
  · obtain ⟨g', l', hc, hg', hi'⟩ := h t (by omega)
    exact ⟨g', l', by rw [List.getElem?_set_ne (by omega)]; exact hc, hg', hi'.setCell _ _ (show g' ≠ B by omega)⟩

theorem info_instrs : (Tryz.prog.info? 55).map (fun i => (i.zero, i.size, i.bytes)) = some (some (.slice none 0 0), 1, 24) := by kernel_rfl

theorem Codes.of_rows {w : World} {B e len cap : Nat} {cs : List Value} {rows : List (List I3)} (ho : w.ownsRow B e 1 (.slice (some ⟨B, 0, none⟩) len cap) len cs) (hl : rows.length = len) (h : RowsTo w B len cs rows) :
    Codes w (some ⟨B, 0, none⟩) len cap rows := by
  have hg := (ho.lt B rfl).2
  have hcell := ho.cellAt
  rcases ho.2 with ⟨h0, _⟩ | ⟨g', cap', cur, hv, _, _, hn, hcap, _, _⟩
  · cases h0
  · cases hv
    refine ⟨hl, hn, hcap, .inr ⟨B, 0, rfl, hg, fun t ht => ?_⟩⟩
    obtain ⟨g, l, hc, _, hi⟩ := h t ht
    exact ⟨_, _, _, by rw [Nat.zero_add, hcell t (by omega)]; exact hc, hi⟩

theorem RowsTo.low {w : World} {B k : Nat} {cs : List Value} {rows : List (List I3)} (h : RowsTo w B k cs rows) {p : Addr} (hp : p.block < B) (u : Value) : RowsTo (w.setCell p u) B k cs rows := fun t ht => by
  obtain ⟨g, l, hc, hg, hi⟩ := h t ht
  exact ⟨g, l, hc, hg, hi.setCell _ _ (by omega)⟩

/-- A slice of rows of instructions in memory of its own, from block B on. -/
def OwnCodes (w : World) (B len : Nat) (rows : List (List I3)) : Prop :=
  rows.length = len ∧ ∃ cs, w.ownsRow B 55 1 (.slice (some ⟨B, 0, none⟩) len len) len cs ∧ RowsTo w B len cs rows

theorem OwnCodes.codes {w : World} {B len : Nat} {rows : List (List I3)} (h : OwnCodes w B len rows) : Codes w (some ⟨B, 0, none⟩) len len rows := by
  obtain ⟨hl, cs, ho, hR⟩ := h
  exact Codes.of_rows ho hl hR

theorem OwnCodes.low {w : World} {B len : Nat} {rows : List (List I3)} (h : OwnCodes w B len rows) {p : Addr} (hp : p.block < B) (u : Value) : OwnCodes (w.setCell p u) B len rows := by
  obtain ⟨hl, cs, ho, hR⟩ := h
  exact ⟨hl, cs, ownsRow_setCell_below ho hp _, hR.low hp u⟩

end Go.Proofs.YtiokkoaalakakaaGreatDoor


/-
  codeOK, impl.ProgramOK: which programs are right.
-/
namespace Go.Proofs.YtiokkoaalakakaaGreatDoor
open Go.RowKit

/-- From its i-th instruction on a code of n instructions is right. -/
def okFrom (n : Nat) : Nat → List I3 → Bool
  | _, [] => true
  | i, x :: xs => (okI x && leads x i n) && okFrom n (i + 1) xs

/-- A thread's code is right. -/
def codeOk (xs : List I3) : Bool := decide (xs.length ≤ 6) && okFrom xs.length 0 xs

theorem okFrom_step {n k : Nat} {xs : List I3} (hk : k < xs.length) : okFrom n k (xs.drop k) = ((okI (xs.getD k (0, 0, 0)) && leads (xs.getD k (0, 0, 0)) k n) && okFrom n (k + 1) (xs.drop (k + 1))) := by
  rw [List.drop_eq_getElem_cons hk]
  show ((okI (xs[k]) && leads (xs[k]) k n) && okFrom n (k + 1) (xs.drop (k + 1))) = _
  simp [List.getD, hk]

theorem codeOK_long (a : Option Addr) (len cap : Nat) (w : World) (hl : len ≤ maxLen) (hlen : 6 < len) :
    Calls Tryz.prog 35 #[.slice a len cap] w fun e w' => e = .returned (.bool false) ∧ Below w.heap.size w w' := by
  unfold maxLen at hl
  go_enter Tryz.func35, Tryz.ntmps35
  go_wp2
  go_ret
  exact ⟨rfl, by go_grown⟩

set_option maxHeartbeats 1000000 in
set_option maxRecDepth 100000 in
theorem codeOK_short (a : Option Addr) (len cap : Nat) (xs : List I3) (w : World) (h : Instrs w a len cap xs) (hlen : len ≤ 6) :
    Calls Tryz.prog 35 #[.slice a len cap] w fun e w' => e = .returned (.bool (okFrom len 0 xs)) ∧ Below w.heap.size w w' := by
  obtain ⟨fin, hfin⟩ : ∃ fin, fin = okFrom len 0 xs := ⟨_, rfl⟩
  rw [← hfin]
  have hfin' : Hid (fin = okFrom len 0 (xs.drop 0)) := hfin
  clear hfin
  obtain ⟨hl, hlc, hcm, _, hcase⟩ := h
  unfold maxLen at hcm
  go_enter Tryz.func35, Tryz.ntmps35
  go_wp2
  go_loopw [10] (fun si wr => ∃ (k : Nat), k ≤ len ∧ si = .int .i64 k ∧ Hid (fin = okFrom len k (xs.drop k)) ∧ Below w.heap.size w wr) (fun si _ => len - (intOf si).toNat)
  case atStart => exact ⟨0, by omega, rfl, hfin', by go_grown⟩
  case round =>
    obtain ⟨k, hk, rfl, hH, hbel⟩ := hrel
    by_cases hlt : k < len
    · rcases hcase with h0 | ⟨b, off, rfl, hblt, hcell⟩
      · omega
      have hlt2 : (k : Int) < (len : Int) := by omega
      obtain ⟨c0, c1, c2⟩ := hcell k hlt
      have hst := okFrom_step (n := len) (xs := xs) (k := k) (by omega)
      generalize xs.getD k (0, 0, 0) = x at c0 c1 c2 hst
      have hst' : Hid (okFrom len k (xs.drop k) = ((okI x && leads x k len) && okFrom len (k + 1) (xs.drop (k + 1)))) := hst
      clear hst hcell
      have d0 : wr.cell? ⟨b, off + k * 3, none⟩ = some (.int .i64 x.1) := by rw [hbel.cell (p := ⟨b, _, none⟩) hblt]; exact c0
      have d1 : wr.cell? ⟨b, off + k * 3 + 1, none⟩ = some (.int .i64 x.2.1) := by rw [hbel.cell (p := ⟨b, _, none⟩) hblt]; exact c1
      have d2 : wr.cell? ⟨b, off + k * 3 + 2, none⟩ = some (.int .i64 x.2.2) := by rw [hbel.cell (p := ⟨b, _, none⟩) hblt]; exact c2
      clear c0 c1 c2
      go_wp2_with fail
      refine (instrOK_is x _).mono ?_
      rintro e w1 ⟨rfl, hb1⟩
      have e0 : w1.cell? ⟨wr.heap.size, 0, none⟩ = some (.int .i64 x.1) := by rw [hb1.cell (by simp)]; simp [go_sem]
      have e1 : w1.cell? ⟨wr.heap.size, 1, none⟩ = some (.int .i64 x.2.1) := by rw [hb1.cell (by simp)]; simp [go_sem]
      have e2 : w1.cell? ⟨wr.heap.size, 2, none⟩ = some (.int .i64 x.2.2) := by rw [hb1.cell (by simp)]; simp [go_sem]
      have hb2 : Below w.heap.size w w1 := bel_trans hbel (bel_trans (by go_grown) hb1)
      clear hb1 hbel d0 d1 d2
      cases hp : okI x
      · have hff : fin = false := by rw [hH.out, hst'.out, hp]; rfl
        subst hff
        clear hH hst' hp
        go_wp2
        go_ret
        exact ⟨rfl, hb2⟩
      · go_wp2_with fail
        refine (leadsOn_is x _ _ _).mono ?_
        rintro e w2 ⟨rfl, hb3⟩
        have hb4 := bel_trans hb2 hb3
        clear hb2 hb3 e0 e1 e2
        cases hq : leads x k len
        · have hff : fin = false := by rw [hH.out, hst'.out, hp, hq]; rfl
          subst hff
          clear hH hst' hp hq
          go_wp2
          go_ret
          exact ⟨rfl, hb4⟩
        · have hH' : Hid (fin = okFrom len (k + 1) (xs.drop (k + 1))) := by rw [Hid, hH.out, hst'.out, hp, hq]; rfl
          clear hH hst' hp hq
          go_wp2
          go_roundw
          case rel => exact ⟨k + 1, by omega, by go_num, hH', hb4⟩
          case measure => simp [intOf]; omega
    · obtain rfl : k = len := by omega
      have hd : okFrom k k (xs.drop k) = true := by rw [List.drop_eq_nil_of_le (by omega)]; rfl
      have hff : fin = true := hH.out.trans hd
      subst hff
      clear hH hd hcase
      go_wp2
      go_ret
      exact ⟨rfl, hbel⟩

theorem codeOK_is (a : Option Addr) (len cap : Nat) (xs : List I3) (w : World) (h : Instrs w a len cap xs) :
    Calls Tryz.prog 35 #[.slice a len cap] w fun e w' => e = .returned (.bool (codeOk xs)) ∧ Below w.heap.size w w' := by
  unfold codeOk
  by_cases hlen : len ≤ 6
  · have := codeOK_short a len cap xs w h hlen
    simpa [h.1, hlen] using this
  · have := codeOK_long a len cap w (Nat.le_trans h.2.1 h.2.2.1) (by omega)
    simpa [h.1, hlen] using this

/-- A program is right. -/
def progOk (rows : List (List I3)) : Bool := decide (rows.length = 3) && rows.all codeOk

theorem all_step {rows : List (List I3)} {k : Nat} (hk : k < rows.length) : (rows.drop k).all codeOk = (codeOk (rows.getD k []) && (rows.drop (k + 1)).all codeOk) := by
  rw [List.drop_eq_getElem_cons hk, List.all_cons]
  simp [List.getD, hk]

set_option maxHeartbeats 1000000 in
set_option maxRecDepth 100000 in
theorem implProgramOK_is (a : Option Addr) (len cap : Nat) (rows : List (List I3)) (w : World) (h : Codes w a len cap rows) :
    Calls Tryz.prog 17 #[.agg #[.slice a len cap]] w fun e w' => e = .returned (.bool (progOk rows)) ∧ Below w.heap.size w w' := by
  obtain ⟨fin, hfin⟩ : ∃ fin, fin = progOk rows := ⟨_, rfl⟩
  rw [← hfin]
  obtain ⟨hl, hlc, hcm, hcase⟩ := h
  unfold maxLen at hcm
  by_cases h3 : len = 3
  · subst h3
    have hfin' : Hid (fin = (rows.drop 0).all codeOk) := by rw [Hid, hfin, progOk, decide_eq_true hl]; rfl
    clear hfin
    rcases hcase with h0 | ⟨b, off, rfl, hblt, hcell⟩
    · omega
    go_enter Tryz.func17, Tryz.ntmps17
    go_wp2
    go_loopw [12] (fun si wr => ∃ (k : Nat), k ≤ 3 ∧ si = .int .i64 k ∧ Hid (fin = (rows.drop k).all codeOk) ∧ Below w.heap.size w wr) (fun si _ => 3 - (intOf si).toNat)
    case atStart => exact ⟨0, by omega, rfl, hfin', by go_grown⟩
    case round =>
      obtain ⟨k, hk, rfl, hH, hbel⟩ := hrel
      by_cases hlt : k < 3
      · have hlt2 : (k : Int) < 3 := by omega
        obtain ⟨a', len', cap', hc, hI⟩ := hcell k hlt
        have hst := all_step (rows := rows) (k := k) (by omega)
        generalize rows.getD k [] = xs at hI hst
        have hst' : Hid ((rows.drop k).all codeOk = (codeOk xs && (rows.drop (k + 1)).all codeOk)) := hst
        clear hst hcell
        have hc' : wr.cell? ⟨b, off + k, none⟩ = some (.slice a' len' cap') := by rw [hbel.cell (p := ⟨b, _, none⟩) hblt]; exact hc
        have hI' := hI.below hbel
        clear hc hI
        go_wp2_with fail
        refine (codeOK_is a' len' cap' xs _ (hI'.below (by go_grown))).mono ?_
        rintro e w1 ⟨rfl, hb1⟩
        have hb2 : Below w.heap.size w w1 := bel_trans hbel (bel_trans (by go_grown) hb1)
        clear hb1 hbel hc' hI'
        cases hp : codeOk xs
        · have hff : fin = false := by rw [hH.out, hst'.out, hp]; rfl
          subst hff
          clear hH hst' hp
          go_wp2
          go_ret
          exact ⟨rfl, hb2⟩
        · have hH' : Hid (fin = (rows.drop (k + 1)).all codeOk) := by rw [Hid, hH.out, hst'.out, hp]; rfl
          clear hH hst' hp
          go_wp2
          go_roundw
          case rel => exact ⟨k + 1, by omega, by go_num, hH', hb2⟩
          case measure => simp [intOf]; omega
      · obtain rfl : k = 3 := by omega
        have hd : (rows.drop 3).all codeOk = true := by rw [List.drop_eq_nil_of_le (by omega)]; rfl
        have hff : fin = true := hH.out.trans hd
        subst hff
        clear hH hd hcell
        go_wp2
        go_ret
        exact ⟨rfl, hbel⟩
  · have hff : fin = false := by rw [hfin, progOk, decide_eq_false (by omega)]; rfl
    subst hff
    clear hfin
    have h3' : (len : Int) ≠ 3 := by omega
    go_enter Tryz.func17, Tryz.ntmps17
    go_wp2
    go_ret
    exact ⟨rfl, by go_grown⟩
end Go.Proofs.YtiokkoaalakakaaGreatDoor
