/-
  Joined: Prog5, SizeB, EqInts, MachI.
-/
import Derived.Test.YtmhngodbnoonhaaDoorK01
import Derived.Test.YtmhngodbnoonhaaDoorK07
import Derived.BigQuiet
import Derived.BigRegion
import Derived.Deep.QuietTactic

/-
  Programs copied, in memory of their own that may be written: laws' toInstrSS, toProgram once more, with what the marks want.
-/
namespace Go.Proofs.YtmhngodbnoonhaaDoor
open Go.RowKit

/-- The first k rows are there, each in memory of its own. -/
def RowsOwn (w : World) (B k : Nat) (vs : List Value) (rows : List (List I3)) : Prop :=
  (∀ t, t < k → w.ownsRow B 125 3 (vs.getD t undef) (rows.getD t []).length (flat (rows.getD t []))) ∧
  ∀ t t', t < k → t' < k → t ≠ t' → (vs.getD t undef).ownBlock = none ∨ (vs.getD t undef).ownBlock ≠ (vs.getD t' undef).ownBlock

theorem RowsOwn.below {w w' : World} {B k : Nat} {vs : List Value} {rows : List (List I3)} (h : RowsOwn w B k vs rows) (hb : Below w.heap.size w w') : RowsOwn w' B k vs rows := ⟨fun t ht => owns_below (h.1 t ht) hb, h.2⟩

/-- One row more, in a block that was not there before. -/
theorem RowsOwn.put {w w' : World} {B P k G len : Nat} {vs : List Value} {rows : List (List I3)} (h : RowsOwn w B k vs rows) (hb : Below w.heap.size w w') (hk : k < vs.length) (hG : w.heap.size ≤ G)
    (hn : w'.ownsRow B 125 3 (.slice (some ⟨G, 0, none⟩) len len) (rows.getD k []).length (flat (rows.getD k []))) (hP : P < w.heap.size) (hPn : ∀ t, t < k → (vs.getD t undef).ownBlock ≠ some P) :
    RowsOwn (w'.setCell ⟨P, k, none⟩ (.slice (some ⟨G, 0, none⟩) len len)) B (k + 1) (vs.set k (.slice (some ⟨G, 0, none⟩) len len)) rows := by
  have hold : ∀ t, t ≠ k → (vs.set k (.slice (some ⟨G, 0, none⟩) len len)).getD t undef = vs.getD t undef := fun t ht => by simp [List.getD, List.getElem?_set_ne (Ne.symm ht)]
  have hnew : (vs.set k (.slice (some ⟨G, 0, none⟩) len len)).getD k undef = .slice (some ⟨G, 0, none⟩) len len := by simp [List.getD, hk]
  refine ⟨fun t ht => ?_, fun t t' ht ht' hne => ?_⟩
  · by_cases e : t = k
    · subst e
      rw [hnew]
      exact ownsRow_setCell_other hn (by simp [Value.ownBlock]; omega) _
    · rw [hold t e]
      exact ownsRow_setCell_other (owns_below (h.1 t (by omega)) hb) (hPn t (by omega)) _
  · by_cases e : t = k
    · subst e
      rw [hnew, hold t' (Ne.symm hne)]
      refine .inr ?_
      simp only [Value.ownBlock, ne_eq]
      intro h'
      have := ((h.1 t' (by omega)).lt G h'.symm).2
      omega
    · rw [hold t e]
      by_cases e' : t' = k
      · subst e'
        rw [hnew]
        rcases hbk : (vs.getD t undef).ownBlock with _ | x
        · exact .inl rfl
        · refine .inr ?_
          simp only [Value.ownBlock, ne_eq, Option.some.injEq]
          have := ((h.1 t (by omega)).lt x hbk).2
          omega
      · rw [hold t' e']
        exact h.2 t t' (by omega) (by omega) hne

theorem OwnProg.low {w : World} {B : Nat} {v : Value} {rows : List (List I3)} (h : OwnProg w B v rows) {p : Addr} (hp : p.block < B) (u : Value) : OwnProg (w.setCell p u) B v rows := by
  obtain ⟨vs, h1, h2, h3, h4⟩ := h
  exact ⟨vs, ownsRow_setCell_below h1 hp _, h2, fun t ht => ownsRow_setCell_below (h3 t ht) hp _, h4⟩

set_option maxHeartbeats 1000000 in
set_option maxRecDepth 100000 in
/-- toInstrSS: a copy, in memory of its own. -/
theorem toInstrSS_own (a : Option Addr) (len cap : Nat) (rows : List (List I3)) (w : World) (h : Codes w a len cap rows) (hn : len ≤ 1048576) (hr : ∀ t, t < len → (rows.getD t []).length ≤ 1048576) :
    Calls Tryd.prog 75 #[.slice a len cap] w fun e w' => e = .returned (.slice (some ⟨w.heap.size, 0, none⟩) len len) ∧
      OwnProg w' w.heap.size (.slice (some ⟨w.heap.size, 0, none⟩) len len) rows ∧ Below w.heap.size w w' := by
  obtain ⟨i0, hi, hz0, hz1, hz2⟩ := info_parts info_instrs
  obtain ⟨hl, hlc, hcm, hcase⟩ := h
  unfold maxLen at hcm
  go_enter Tryd.func75, Tryd.ntmps75
  go_wp2_with (at_make; refine wpList_make_full _ rfl _ _ 23 rfl w.heap.size 79 i0 (.slice none 0 0) 1 Tryd.underlying23 hi hz0 hz1 _ _ _ _ len rfl rfl (by omega) (by omega) ?b2 ?b3 (Nat.le_refl _) ?_)
  case b2 => rw [hz2]; omega
  case b3 => unfold maxLen; omega
  intro w0 hown0 hgrow0
  have hb0 : Below w.heap.size w w0 := (Below.refl _ _).grown hgrow0 (Nat.le_refl _) (fun k h => by cases h)
  obtain ⟨cs0, hcs0⟩ : ∃ cs0, cs0 = (madeCells #[Value.slice none 0 0] len).toList := ⟨_, rfl⟩
  rw [← hcs0] at hown0
  clear hgrow0 hcs0
  go_wp2
  go_loopw [4] (fun si wr => ∃ (k : Nat) (cs : List Value), k ≤ len ∧ si = .int .i64 k ∧ RowsOwn wr w.heap.size k cs rows ∧ wr.ownsRow w.heap.size 79 1 (.slice (some ⟨w.heap.size, 0, none⟩) len len) len cs ∧ Below w.heap.size w wr) (fun si _ => len - (intOf si).toNat)
  case atStart => exact ⟨0, cs0, by omega, rfl, ⟨fun t ht => by omega, fun t _ ht => by omega⟩, hown0, hb0⟩
  case round =>
    obtain ⟨k, cs, hk, rfl, hR, ho, hbel⟩ := hrel
    by_cases hlt : k < len
    · rcases hcase with h0 | ⟨b, off, rfl, hblt, hcell⟩
      · omega
      have hlt2 : (k : Int) < (len : Int) := by omega
      obtain ⟨a', len', cap', hc, hI⟩ := hcell k hlt
      have hrk := hr k hlt
      rw [hI.1] at hrk
      have hc' : wr.cell? ⟨b, off + k, none⟩ = some (.slice a' len' cap') := by rw [hbel.cell (p := ⟨b, _, none⟩) hblt]; exact hc
      clear hcell hc
      have hIr : Instrs wr a' len' cap' (rows.getD k []) := hI.below hbel
      have hwr := (ho.lt w.heap.size rfl).2
      go_wp2_with fail
      refine (toInstrS_copy a' len' cap' _ wr hIr hrk).mono ?_
      rintro e w1 ⟨rfl, ⟨cs2, hcs2, hown2⟩, hb1⟩
      subst hcs2
      have hl' := hIr.1
      have hn2 : w1.ownsRow w.heap.size 125 3 (.slice (some ⟨wr.heap.size, 0, none⟩) len' len') (rows.getD k []).length (flat (rows.getD k [])) := by
        rw [hl']
        rcases hown2 with ⟨q1, q2⟩
        refine ⟨q1, ?_⟩
        rcases q2 with q2 | ⟨g, cap, cur, q3, q4, q5⟩
        · exact .inl q2
        · exact .inr ⟨g, cap, cur, q3, by omega, q5⟩
      have hPn : ∀ t, t < k → (cs.getD t undef).ownBlock ≠ some w.heap.size := fun t ht => by
        rcases owns_ne ho (hR.1 t ht) (by decide) with h | h
        · simp [Value.ownBlock] at h
        · exact fun e => h (by rw [e]; rfl)
      have R2 := hR.put hb1 (by have := ho.1; omega) (Nat.le_refl _) hn2 hwr hPn
      clear hown2 hIr hI hc' hn2 hPn
      have ho1 := owns_below ho hb1
      have hbel1 : Below w.heap.size w w1 := bel_trans hbel hb1
      clear ho hbel hb1 hR
      have hlen := ho1.1
      have f0 := ho1.frozenAt k
      obtain ⟨u0, hu0⟩ : ∃ u, w1.cell? ⟨w.heap.size, k, none⟩ = some u := ⟨_, by rw [ho1.cellAt _ (by omega)]; exact List.getElem?_eq_getElem (by omega)⟩
      have R := (ho1.stored k (.slice (some ⟨wr.heap.size, 0, none⟩) len' len')).1
      have hb3 : Below w.heap.size w (w1.setCell ⟨w.heap.size, k, none⟩ (.slice (some ⟨wr.heap.size, 0, none⟩) len' len')) := hbel1.setCell (Nat.le_refl _) _
      clear ho1 hbel1
      generalize cs.set k (.slice (some ⟨wr.heap.size, 0, none⟩) len' len') = cs' at R R2
      go_wp2
      go_roundw
      case rel => exact ⟨k + 1, cs', by omega, by go_num, R2, R, hb3⟩
      case measure => simp [intOf]; omega
    · obtain rfl : k = len := by omega
      clear hcase
      go_wp2
      go_ret
      exact ⟨rfl, ⟨cs, by rw [hl]; exact ho, by have := ho.1; omega, fun t ht => hR.1 t (by omega), fun t t' ht ht' => hR.2 t t' (by omega) (by omega)⟩, hbel⟩

set_option maxHeartbeats 1000000 in
set_option maxRecDepth 100000 in
/-- toProgram: a copy, in memory of its own. -/
theorem toProgram_own (a : Option Addr) (len cap : Nat) (rows : List (List I3)) (w : World) (h : Codes w a len cap rows) (hn : len ≤ 1048576) (hr : ∀ t, t < len → (rows.getD t []).length ≤ 1048576) :
    Calls Tryd.prog 27 #[.agg #[.slice a len cap]] w fun e w' => e = .returned (.agg #[.slice (some ⟨w.heap.size + 3, 0, none⟩) len len]) ∧
      OwnProg w' (w.heap.size + 3) (.slice (some ⟨w.heap.size + 3, 0, none⟩) len len) rows ∧ Below w.heap.size w w' := by
  go_enter Tryd.func27, Tryd.ntmps27
  go_wp2_with fail
  refine (toInstrSS_own _ _ _ rows _ (h.below (by go_grown)) hn hr).mono ?_
  rintro e w1 ⟨rfl, hC, hb1⟩
  have k1 : w1.cell? ⟨w.heap.size + 1, 0, none⟩ = some (.slice none 0 0) := by rw [hb1.cell (by simp)]; first | (simp [go_sem]; done) | (simp [World.cell?]; done)
  have k2 : w1.cell? ⟨w.heap.size + 1 + 1, 0, none⟩ = some (.slice none 0 0) := by rw [hb1.cell (by simp)]; first | (simp [go_sem]; done) | (simp [World.cell?]; done)
  have f1 : w1.frozen? ⟨w.heap.size + 1, 0, none⟩ = false := by rw [hb1.frozen (by simp)]; first | (simp [go_sem]; done) | (simp [World.frozen?]; done)
  have f2 : w1.frozen? ⟨w.heap.size + 1 + 1, 0, none⟩ = false := by rw [hb1.frozen (by simp)]; first | (simp [go_sem]; done) | (simp [World.frozen?]; done)
  have hbw : Below w.heap.size w w1 := bel_trans (by go_grown) hb1
  simp only [World.size_alloc] at hC
  rw [show w.heap.size + 1 + 1 + 1 = w.heap.size + 3 from rfl] at hC
  clear hb1 h
  simp only [World.size_alloc]
  have k3 : ((w1.setCell ⟨w.heap.size + 1 + 1, 0, none⟩ (.slice (some ⟨w.heap.size + 1 + 1 + 1, 0, none⟩) len len)).setCell ⟨w.heap.size + 1, 0, none⟩ (.slice (some ⟨w.heap.size + 1 + 1 + 1, 0, none⟩) len len)).cell? ⟨w.heap.size + 1, 0, none⟩ = some (.slice (some ⟨w.heap.size + 1 + 1 + 1, 0, none⟩) len len) :=
    World.cell?_setCell_same' _ _ _ (by rw [cell_setCell_off _ _ _ (by simp), k1]; rfl)
  go_wp2
  have R := (hC.low (p := ⟨w.heap.size + 1 + 1, 0, none⟩) (by simp) (.slice (some ⟨w.heap.size + 1 + 1 + 1, 0, none⟩) len len)).low (p := ⟨w.heap.size + 1, 0, none⟩) (by simp) (.slice (some ⟨w.heap.size + 1 + 1 + 1, 0, none⟩) len len)
  have hb3 := (hbw.setCell (p := ⟨w.heap.size + 1 + 1, 0, none⟩) (by simp; omega) (.slice (some ⟨w.heap.size + 1 + 1 + 1, 0, none⟩) len len)).setCell (p := ⟨w.heap.size + 1, 0, none⟩) (by simp) (.slice (some ⟨w.heap.size + 1 + 1 + 1, 0, none⟩) len len)
  clear hC hbw k1 k2 f1 f2
  generalize (w1.setCell ⟨w.heap.size + 1 + 1, 0, none⟩ (.slice (some ⟨w.heap.size + 1 + 1 + 1, 0, none⟩) len len)).setCell ⟨w.heap.size + 1, 0, none⟩ (.slice (some ⟨w.heap.size + 1 + 1 + 1, 0, none⟩) len len) = w2 at k3 R hb3
  refine bodyPost_ret (by simp [results, Tryd.results27, go_sem, k3]; try rfl) rfl ?_
  exact ⟨rfl, R, hb3⟩
end Go.Proofs.YtmhngodbnoonhaaDoor


/-
  What the size of a program that came in tells of its rows.
-/
namespace Go.Proofs.YtmhngodbnoonhaaDoor
open Go.RowKit

theorem lessAll_each : ∀ (rows : List (List I3)) (left : Int), 0 ≤ lessAll left rows → 0 ≤ left → ∀ r ∈ rows, (r.length : Int) ≤ left
  | [], _, _, _, r, hr => by cases hr
  | x :: xs, left, h, h0, r, hr => by
    unfold lessAll at h
    split at h
    · omega
    · rcases List.mem_cons.1 hr with rfl | hr
      · omega
      · have := lessAll_each xs (left - x.length) h (by omega) r hr
        omega

theorem getD_length_le {rows : List (List I3)} {n : Nat} (h : ∀ r ∈ rows, r.length ≤ n) (t : Nat) : (rows.getD t []).length ≤ n := by
  by_cases ht : t < rows.length
  · have : rows.getD t [] = rows[t] := by simp [List.getD, ht]
    rw [this]
    exact h _ (List.getElem_mem ht)
  · have : rows.getD t [] = [] := by simp [List.getD, List.getElem?_eq_none (Nat.le_of_not_lt ht)]
    rw [this]
    exact Nat.zero_le _

/-- A program that is not too large has not too many rows, and none that is too long. -/
theorem size_bounds {rows : List (List I3)} {left : Int} (hm : left ≤ 1048576) (h : 0 ≤ sizeLeft left rows) (h0 : 0 ≤ left) : rows.length ≤ 1048576 ∧ ∀ t, (rows.getD t []).length ≤ 1048576 := by
  unfold sizeLeft at h
  split at h
  · omega
  · refine ⟨by omega, fun t => getD_length_le (fun r hr => ?_) t⟩
    have := lessAll_each rows _ h (by omega) r hr
    omega

end Go.Proofs.YtmhngodbnoonhaaDoor


/-
  eqIntS: two slices of the same integers are found alike; nothing is written.
-/
namespace Go.Proofs.YtmhngodbnoonhaaDoor
open Go.RowKit

set_option maxHeartbeats 1000000 in
set_option maxRecDepth 100000 in
theorem eqIntS_same (a a' : Option Addr) (len cap cap' : Nat) (zs : List Int) (w : World) (h : Ints .i64 w a len cap zs) (h' : Ints .i64 w a' len cap' zs) :
    Calls Tryd.prog 31 #[.slice a len cap, .slice a' len cap'] w fun e w' => e = .returned (.bool true) ∧ ∃ d, w' = w.drewN d := by
  obtain ⟨hl, hlc, hcm, hcase⟩ := h
  obtain ⟨_, hlc', hcm', hcase'⟩ := h'
  unfold maxLen at hcm hcm'
  have hne : ((len : Int) != (len : Int)) = false := by simp
  by_cases h0 : len = 0
  · subst h0
    go_enter Tryd.func31, Tryd.ntmps31
    go_wp2
    refine wp_loop_rounds 1 ?_
    rw [rounds_succ]
    go_wp2
    go_ret
    exact ⟨rfl, 0, rfl⟩
  · rcases hcase with h0' | ⟨b, off, rfl, hblt, hcell⟩
    · exact absurd h0' h0
    rcases hcase' with h0' | ⟨b', off', rfl, hblt', hcell'⟩
    · exact absurd h0' h0
    go_enter Tryd.func31, Tryd.ntmps31
    go_wp2
    go_loopw [5] (fun si wr => ∃ k d : Nat, k ≤ len ∧ si = .int .i64 k ∧ wr = w.drewN d) (fun si _ => len - (intOf si).toNat)
    case atStart => exact ⟨0, 0, by omega, rfl, rfl⟩
    case round =>
      obtain ⟨k, d, hk, rfl, rfl⟩ := hrel
      by_cases hlt : k < len
      · have hc := hcell k hlt
        have hc' := hcell' k hlt
        have hlt' : (k : Int) < (len : Int) := by omega
        generalize zs.getD k 0 = x at hc hc'
        clear hcell hcell'
        go_wp2
        go_quiet (fail)
        go_wp2
        go_roundw
        case rel => exact ⟨k + 1, _, by omega, by go_num, rfl⟩
        case measure => simp [intOf]; omega
      · go_wp2
        go_ret
        exact ⟨rfl, d, rfl⟩
end Go.Proofs.YtmhngodbnoonhaaDoor


/-
  The program's machine: a thread that is done, one that waits.
-/
namespace Go.Proofs.YtmhngodbnoonhaaDoor
open Go.RowKit

theorem below_dN {w : World} (n : Nat) : Below w.heap.size w (w.drewN n) := ⟨rfl, rfl, rfl, Nat.le_refl _, fun _ _ => rfl⟩

set_option maxHeartbeats 1000000 in
set_option maxRecDepth 100000 in
theorem done_is (g o : Nat) (a : Option Addr) (n c : Nat) (pc : Int) (w : World) (h0 : w.cell? ⟨g, o, none⟩ = some (.slice a n c)) (h1 : w.cell? ⟨g, o + 1, none⟩ = some (.int .i64 pc)) :
    Calls Tryd.prog 57 #[.pointer (some ⟨g, o, none⟩)] w fun e w' => e = .returned (.bool (decide ((n : Int) ≤ pc))) ∧ ∃ d, w' = w.drewN d := by
  obtain ⟨x, hx⟩ : ∃ x, x = decide ((n : Int) ≤ pc) := ⟨_, rfl⟩
  have hd : decide ((n : Int) ≤ pc) = x := hx.symm
  rw [← hx]
  clear hx
  go_enter Tryd.func57, Tryd.ntmps57
  go_wp2_with fail
  go_quiet (fail)
  go_wp2
  go_ret
  exact ⟨rfl, _, rfl⟩

set_option maxHeartbeats 2000000 in
set_option maxRecDepth 100000 in
theorem waits_done (g k : Nat) (a : Option Addr) (n c : Nat) (pc : Int) (w : World) (hk : k < 3) (h0 : w.cell? ⟨g, k * 4, none⟩ = some (.slice a n c)) (h1 : w.cell? ⟨g, k * 4 + 1, none⟩ = some (.int .i64 pc)) (hd : (n : Int) ≤ pc) :
    Calls Tryd.prog 58 #[.pointer (some ⟨g, 0, none⟩), .int .i64 k] w fun e w' => e = .returned (.bool false) ∧ Below w.heap.size w w' := by
  have kD := done_is g (k * 4) a n c pc w h0 h1
  rw [decide_eq_true hd] at kD
  have hk3 : (k : Int) < 3 := by omega
  go_enter Tryd.func58, Tryd.ntmps58
  go_wp2_with fail
  refine kD.mono ?_
  rintro e w1 ⟨rfl, d, rfl⟩
  go_wp2
  go_ret
  exact ⟨rfl, below_dN _⟩

set_option maxHeartbeats 4000000 in
set_option maxRecDepth 100000 in
theorem waits_free (g k p b off : Nat) (n c : Nat) (x0 x1 x2 : Int) (w : World) (hk : k < 3) (hd : p < n)
    (h0 : w.cell? ⟨g, k * 4, none⟩ = some (.slice (some ⟨b, off, none⟩) n c)) (h1 : w.cell? ⟨g, k * 4 + 1, none⟩ = some (.int .i64 p)) (c0 : w.cell? ⟨b, off + p * 3, none⟩ = some (.int .i64 x0)) (c1 : w.cell? ⟨b, off + p * 3 + 1, none⟩ = some (.int .i64 x1)) (c2 : w.cell? ⟨b, off + p * 3 + 2, none⟩ = some (.int .i64 x2)) (hx : x0 ≠ 5) :
    Calls Tryd.prog 58 #[.pointer (some ⟨g, 0, none⟩), .int .i64 k] w fun e w' => e = .returned (.bool false) ∧ Below w.heap.size w w' := by
  have kD := done_is g (k * 4) (some ⟨b, off, none⟩) n c p w h0 h1
  rw [decide_eq_false (by omega)] at kD
  have hk3 : (k : Int) < 3 := by omega
  have hpn : (p : Int) < (n : Int) := by omega
  go_enter Tryd.func58, Tryd.ntmps58
  go_wp2_with fail
  refine kD.mono ?_
  rintro e w1 ⟨rfl, d, rfl⟩
  clear kD
  go_wp2_with fail
  replace h0 : (w.drewN d).cell? ⟨g, k * 4, none⟩ = some (.slice (some ⟨b, off, none⟩) n c) := h0
  replace h1 : (w.drewN d).cell? ⟨g, k * 4 + 1, none⟩ = some (.int .i64 p) := h1
  replace c0 : (w.drewN d).cell? ⟨b, off + p * 3, none⟩ = some (.int .i64 x0) := c0
  replace c1 : (w.drewN d).cell? ⟨b, off + p * 3 + 1, none⟩ = some (.int .i64 x1) := c1
  replace c2 : (w.drewN d).cell? ⟨b, off + p * 3 + 2, none⟩ = some (.int .i64 x2) := c2
  have bw : Below w.heap.size w (w.drewN d) := below_dN _
  generalize w.drewN d = W at *
  refine wp_region_held_drew (S := (fun w' => w'.cell? ⟨g, k * 4, none⟩ = some (.slice (some ⟨b, off, none⟩) n c) ∧ w'.cell? ⟨g, k * 4 + 1, none⟩ = some (.int .i64 p) ∧ w'.cell? ⟨b, off + p * 3, none⟩ = some (.int .i64 x0) ∧ w'.cell? ⟨b, off + p * 3 + 1, none⟩ = some (.int .i64 x1) ∧ w'.cell? ⟨b, off + p * 3 + 2, none⟩ = some (.int .i64 x2))) (by kernel_rfl) ⟨h0, h1, c0, c1, c2⟩ (fun hS0 => ?_)
  refine wpAnyH_take (i := 0) (oi := { dst := some 14, op := _, type := _, pos := _, after := _, guard := _ }) (v := .pointer (some ⟨g, k * 4, none⟩)) rfl (by kernel_rfl) (by kernel_rfl) (by kernel_rfl) (fun _ _ _ h => h) (Or.inl ⟨by rfl, ?_⟩) (by assumption) ?_
  · (intro w' hSw; (try dsimp only at hSw); go_simp; try rfl)
  simp only [Act.put, List.setIfInBounds_toArray, List.set_cons_zero, List.set_cons_succ]
  refine wpAnyH_take (i := 1) (oi := { dst := some 15, op := _, type := _, pos := _, after := _, guard := _ }) (v := .pointer (some ⟨g, k * 4, none⟩)) rfl (by kernel_rfl) (by kernel_rfl) (by kernel_rfl) (fun _ _ _ h => h) (Or.inl ⟨by rfl, ?_⟩) (by assumption) ?_
  · (intro w' hSw; (try dsimp only at hSw); go_simp; try rfl)
  simp only [Act.put, List.setIfInBounds_toArray, List.set_cons_zero, List.set_cons_succ]
  refine wpAnyH_take (i := 2) (oi := { dst := some 16, op := _, type := _, pos := _, after := _, guard := _ }) (v := .pointer (some ⟨g, k * 4, none⟩)) rfl (by kernel_rfl) (by kernel_rfl) (by kernel_rfl) (fun _ _ _ h => h) (Or.inl ⟨by rfl, ?_⟩) (by assumption) ?_
  · (intro w' hSw; (try dsimp only at hSw); go_simp; try rfl)
  simp only [Act.put, List.setIfInBounds_toArray, List.set_cons_zero, List.set_cons_succ]
  refine wpAnyH_take (i := 3) (oi := { dst := some 17, op := _, type := _, pos := _, after := _, guard := _ }) (v := .slice (some ⟨b, off, none⟩) n c) rfl (by kernel_rfl) (by kernel_rfl) (by kernel_rfl) (fun _ _ _ h => h) (Or.inl ⟨by rfl, ?_⟩) (by assumption) ?_
  · (intro w' hSw; (try dsimp only at hSw); go_simp; try rfl)
  simp only [Act.put, List.setIfInBounds_toArray, List.set_cons_zero, List.set_cons_succ]
  refine wpAnyH_take (i := 4) (oi := { dst := some 18, op := _, type := _, pos := _, after := _, guard := _ }) (v := .pointer (some ⟨g, k * 4, none⟩)) rfl (by kernel_rfl) (by kernel_rfl) (by kernel_rfl) (fun _ _ _ h => h) (Or.inl ⟨by rfl, ?_⟩) (by assumption) ?_
  · (intro w' hSw; (try dsimp only at hSw); go_simp; try rfl)
  simp only [Act.put, List.setIfInBounds_toArray, List.set_cons_zero, List.set_cons_succ]
  refine wpAnyH_take (i := 5) (oi := { dst := some 19, op := _, type := _, pos := _, after := _, guard := _ }) (v := .pointer (some ⟨g, k * 4, none⟩)) rfl (by kernel_rfl) (by kernel_rfl) (by kernel_rfl) (fun _ _ _ h => h) (Or.inl ⟨by rfl, ?_⟩) (by assumption) ?_
  · (intro w' hSw; (try dsimp only at hSw); go_simp; try rfl)
  simp only [Act.put, List.setIfInBounds_toArray, List.set_cons_zero, List.set_cons_succ]
  refine wpAnyH_take (i := 6) (oi := { dst := some 20, op := _, type := _, pos := _, after := _, guard := _ }) (v := .pointer (some ⟨g, k * 4 + 1, none⟩)) rfl (by kernel_rfl) (by kernel_rfl) (by kernel_rfl) (fun _ _ _ h => h) (Or.inl ⟨by rfl, ?_⟩) (by assumption) ?_
  · (intro w' hSw; (try dsimp only at hSw); go_simp; try rfl)
  simp only [Act.put, List.setIfInBounds_toArray, List.set_cons_zero, List.set_cons_succ]
  refine wpAnyH_take (i := 7) (oi := { dst := some 21, op := _, type := _, pos := _, after := _, guard := _ }) (v := .int .i64 p) rfl (by kernel_rfl) (by kernel_rfl) (by kernel_rfl) (fun _ _ _ h => h) (Or.inl ⟨by rfl, ?_⟩) (by assumption) ?_
  · (intro w' hSw; (try dsimp only at hSw); go_simp; try rfl)
  simp only [Act.put, List.setIfInBounds_toArray, List.set_cons_zero, List.set_cons_succ]
  refine wpAnyH_take (i := 8) (oi := { dst := some 22, op := _, type := _, pos := _, after := _, guard := _ }) (v := .pointer (some ⟨b, off + p * 3, none⟩)) rfl (by kernel_rfl) (by kernel_rfl) (by kernel_rfl) (fun _ _ _ h => h) (Or.inl ⟨by rfl, ?_⟩) (by assumption) ?_
  · (intro w' hSw; (try dsimp only at hSw); go_simp; try rfl)
  simp only [Act.put, List.setIfInBounds_toArray, List.set_cons_zero, List.set_cons_succ]
  refine wpAnyH_take (i := 9) (oi := { dst := some 23, op := _, type := _, pos := _, after := _, guard := _ }) (v := .agg #[.int .i64 x0, .int .i64 x1, .int .i64 x2]) rfl (by kernel_rfl) (by kernel_rfl) (by kernel_rfl) (fun _ _ _ h => h) (Or.inl ⟨by rfl, ?_⟩) (by assumption) ?_
  · (intro w' hSw; (try dsimp only at hSw); go_simp; try rfl)
  simp only [Act.put, List.setIfInBounds_toArray, List.set_cons_zero, List.set_cons_succ]
  refine wpAnyH_ready (rs := [10]) (by kernel_rfl) (by simp) ?_
  refine AllReadyH.cons (o := { dst := some 6, op := _, type := _, pos := _, after := _, guard := _ }) rfl (fun K hK => ?_) AllReadyH.nil
  have hal : Below W.drew.heap.size W.drew (W.drew.alloc (.cells #[.int .i64 0, .int .i64 0, .int .i64 0] 125)) := by go_grown
  go_simp
  refine hK.out _ _ ?_ (fun hS1 => ?_)
  · exact ⟨cells_kept hal _ _ hS0.1, cells_kept hal _ _ hS0.2.1, cells_kept hal _ _ hS0.2.2.1, cells_kept hal _ _ hS0.2.2.2.1, cells_kept hal _ _ hS0.2.2.2.2⟩
  clear hK
  try simp only [Act.put, List.setIfInBounds_toArray, List.set_cons_zero, List.set_cons_succ]
  refine wpAnyH_ready (rs := [11]) (by kernel_rfl) (by simp) ?_
  refine AllReadyH.cons (o := { dst := none, op := _, type := _, pos := _, after := _, guard := _ }) rfl (fun K hK => ?_) AllReadyH.nil
  have hal2 : Below W.drew.heap.size W.drew (W.drew.alloc (.cells #[.int .i64 x0, .int .i64 x1, .int .i64 x2] 125)) := by go_grown
  go_simp
  refine hK.out _ _ ?_ (fun hS2 => ?_)
  · exact ⟨cells_kept hal2 _ _ hS0.1, cells_kept hal2 _ _ hS0.2.1, cells_kept hal2 _ _ hS0.2.2.1, cells_kept hal2 _ _ hS0.2.2.2.1, cells_kept hal2 _ _ hS0.2.2.2.2⟩
  clear hK
  try simp only [Act.put, List.setIfInBounds_toArray, List.set_cons_zero, List.set_cons_succ]
  refine wpAnyH_done (by kernel_rfl) ?_ _
  replace bw : Below w.heap.size w (W.alloc (.cells #[.int .i64 x0, .int .i64 x1, .int .i64 x2] 125)).drew := bel_trans bw (by go_grown)
  have pX : Blk (W.alloc (.cells #[.int .i64 x0, .int .i64 x1, .int .i64 x2] 125)).drew W.heap.size 125 [.int .i64 x0, .int .i64 x1, .int .i64 x2] := Blk.new W 125 [.int .i64 x0, .int .i64 x1, .int .i64 x2]
  have q0 := pX.cell 0
  have q1 := pX.cell 1
  simp only [List.getElem?_cons_zero, List.getElem?_cons_succ] at q0 q1
  clear hal hal2 hS0 hS1 h0 h1 c0 c1 c2 pX
  clear hS2
  have hx5 : (x0 == 5) = false := by simp [hx]
  go_wp2_with fail
  generalize (W.alloc (.cells #[.int .i64 x0, .int .i64 x1, .int .i64 x2] 125)).drew = W2 at *
  generalize W.heap.size = gx at *
  go_quiet (fail)
  have bz : Below w.heap.size w (W2.drewN nq) := bel_trans bw (below_dN _)
  go_wp2
  go_ret
  exact ⟨rfl, bz⟩

set_option maxHeartbeats 4000000 in
set_option maxRecDepth 100000 in
theorem waits_lock (g k p b off : Nat) (n c : Nat) (x2 : Int) (q : Nat) (hv : Int) (w : World) (hk : k < 3) (hd : p < n)
    (h0 : w.cell? ⟨g, k * 4, none⟩ = some (.slice (some ⟨b, off, none⟩) n c)) (h1 : w.cell? ⟨g, k * 4 + 1, none⟩ = some (.int .i64 p)) (c0 : w.cell? ⟨b, off + p * 3, none⟩ = some (.int .i64 5)) (c1 : w.cell? ⟨b, off + p * 3 + 1, none⟩ = some (.int .i64 q)) (c2 : w.cell? ⟨b, off + p * 3 + 2, none⟩ = some (.int .i64 x2)) (h6 : w.cell? ⟨g, 16 + q, none⟩ = some (.int .i64 hv)) (hq : q < 2) (z : Bool) (hz : z = !decide (hv = 0)) :
    Calls Tryd.prog 58 #[.pointer (some ⟨g, 0, none⟩), .int .i64 k] w fun e w' => e = .returned (.bool z) ∧ Below w.heap.size w w' := by
  have kD := done_is g (k * 4) (some ⟨b, off, none⟩) n c p w h0 h1
  rw [decide_eq_false (by omega)] at kD
  have hk3 : (k : Int) < 3 := by omega
  have hpn : (p : Int) < (n : Int) := by omega
  go_enter Tryd.func58, Tryd.ntmps58
  go_wp2_with fail
  refine kD.mono ?_
  rintro e w1 ⟨rfl, d, rfl⟩
  clear kD
  go_wp2_with fail
  replace h0 : (w.drewN d).cell? ⟨g, k * 4, none⟩ = some (.slice (some ⟨b, off, none⟩) n c) := h0
  replace h1 : (w.drewN d).cell? ⟨g, k * 4 + 1, none⟩ = some (.int .i64 p) := h1
  replace c0 : (w.drewN d).cell? ⟨b, off + p * 3, none⟩ = some (.int .i64 5) := c0
  replace c1 : (w.drewN d).cell? ⟨b, off + p * 3 + 1, none⟩ = some (.int .i64 q) := c1
  replace c2 : (w.drewN d).cell? ⟨b, off + p * 3 + 2, none⟩ = some (.int .i64 x2) := c2
  replace h6 : (w.drewN d).cell? ⟨g, 16 + q, none⟩ = some (.int .i64 hv) := h6
  have bw : Below w.heap.size w (w.drewN d) := below_dN _
  generalize w.drewN d = W at *
  refine wp_region_held_drew (S := (fun w' => w'.cell? ⟨g, k * 4, none⟩ = some (.slice (some ⟨b, off, none⟩) n c) ∧ w'.cell? ⟨g, k * 4 + 1, none⟩ = some (.int .i64 p) ∧ w'.cell? ⟨b, off + p * 3, none⟩ = some (.int .i64 5) ∧ w'.cell? ⟨b, off + p * 3 + 1, none⟩ = some (.int .i64 q) ∧ w'.cell? ⟨b, off + p * 3 + 2, none⟩ = some (.int .i64 x2) ∧ w'.cell? ⟨g, 16 + q, none⟩ = some (.int .i64 hv))) (by kernel_rfl) ⟨h0, h1, c0, c1, c2, h6⟩ (fun hS0 => ?_)
  refine wpAnyH_take (i := 0) (oi := { dst := some 14, op := _, type := _, pos := _, after := _, guard := _ }) (v := .pointer (some ⟨g, k * 4, none⟩)) rfl (by kernel_rfl) (by kernel_rfl) (by kernel_rfl) (fun _ _ _ h => h) (Or.inl ⟨by rfl, ?_⟩) (by assumption) ?_
  · (intro w' hSw; (try dsimp only at hSw); go_simp; try rfl)
  simp only [Act.put, List.setIfInBounds_toArray, List.set_cons_zero, List.set_cons_succ]
  refine wpAnyH_take (i := 1) (oi := { dst := some 15, op := _, type := _, pos := _, after := _, guard := _ }) (v := .pointer (some ⟨g, k * 4, none⟩)) rfl (by kernel_rfl) (by kernel_rfl) (by kernel_rfl) (fun _ _ _ h => h) (Or.inl ⟨by rfl, ?_⟩) (by assumption) ?_
  · (intro w' hSw; (try dsimp only at hSw); go_simp; try rfl)
  simp only [Act.put, List.setIfInBounds_toArray, List.set_cons_zero, List.set_cons_succ]
  refine wpAnyH_take (i := 2) (oi := { dst := some 16, op := _, type := _, pos := _, after := _, guard := _ }) (v := .pointer (some ⟨g, k * 4, none⟩)) rfl (by kernel_rfl) (by kernel_rfl) (by kernel_rfl) (fun _ _ _ h => h) (Or.inl ⟨by rfl, ?_⟩) (by assumption) ?_
  · (intro w' hSw; (try dsimp only at hSw); go_simp; try rfl)
  simp only [Act.put, List.setIfInBounds_toArray, List.set_cons_zero, List.set_cons_succ]
  refine wpAnyH_take (i := 3) (oi := { dst := some 17, op := _, type := _, pos := _, after := _, guard := _ }) (v := .slice (some ⟨b, off, none⟩) n c) rfl (by kernel_rfl) (by kernel_rfl) (by kernel_rfl) (fun _ _ _ h => h) (Or.inl ⟨by rfl, ?_⟩) (by assumption) ?_
  · (intro w' hSw; (try dsimp only at hSw); go_simp; try rfl)
  simp only [Act.put, List.setIfInBounds_toArray, List.set_cons_zero, List.set_cons_succ]
  refine wpAnyH_take (i := 4) (oi := { dst := some 18, op := _, type := _, pos := _, after := _, guard := _ }) (v := .pointer (some ⟨g, k * 4, none⟩)) rfl (by kernel_rfl) (by kernel_rfl) (by kernel_rfl) (fun _ _ _ h => h) (Or.inl ⟨by rfl, ?_⟩) (by assumption) ?_
  · (intro w' hSw; (try dsimp only at hSw); go_simp; try rfl)
  simp only [Act.put, List.setIfInBounds_toArray, List.set_cons_zero, List.set_cons_succ]
  refine wpAnyH_take (i := 5) (oi := { dst := some 19, op := _, type := _, pos := _, after := _, guard := _ }) (v := .pointer (some ⟨g, k * 4, none⟩)) rfl (by kernel_rfl) (by kernel_rfl) (by kernel_rfl) (fun _ _ _ h => h) (Or.inl ⟨by rfl, ?_⟩) (by assumption) ?_
  · (intro w' hSw; (try dsimp only at hSw); go_simp; try rfl)
  simp only [Act.put, List.setIfInBounds_toArray, List.set_cons_zero, List.set_cons_succ]
  refine wpAnyH_take (i := 6) (oi := { dst := some 20, op := _, type := _, pos := _, after := _, guard := _ }) (v := .pointer (some ⟨g, k * 4 + 1, none⟩)) rfl (by kernel_rfl) (by kernel_rfl) (by kernel_rfl) (fun _ _ _ h => h) (Or.inl ⟨by rfl, ?_⟩) (by assumption) ?_
  · (intro w' hSw; (try dsimp only at hSw); go_simp; try rfl)
  simp only [Act.put, List.setIfInBounds_toArray, List.set_cons_zero, List.set_cons_succ]
  refine wpAnyH_take (i := 7) (oi := { dst := some 21, op := _, type := _, pos := _, after := _, guard := _ }) (v := .int .i64 p) rfl (by kernel_rfl) (by kernel_rfl) (by kernel_rfl) (fun _ _ _ h => h) (Or.inl ⟨by rfl, ?_⟩) (by assumption) ?_
  · (intro w' hSw; (try dsimp only at hSw); go_simp; try rfl)
  simp only [Act.put, List.setIfInBounds_toArray, List.set_cons_zero, List.set_cons_succ]
  refine wpAnyH_take (i := 8) (oi := { dst := some 22, op := _, type := _, pos := _, after := _, guard := _ }) (v := .pointer (some ⟨b, off + p * 3, none⟩)) rfl (by kernel_rfl) (by kernel_rfl) (by kernel_rfl) (fun _ _ _ h => h) (Or.inl ⟨by rfl, ?_⟩) (by assumption) ?_
  · (intro w' hSw; (try dsimp only at hSw); go_simp; try rfl)
  simp only [Act.put, List.setIfInBounds_toArray, List.set_cons_zero, List.set_cons_succ]
  refine wpAnyH_take (i := 9) (oi := { dst := some 23, op := _, type := _, pos := _, after := _, guard := _ }) (v := .agg #[.int .i64 5, .int .i64 q, .int .i64 x2]) rfl (by kernel_rfl) (by kernel_rfl) (by kernel_rfl) (fun _ _ _ h => h) (Or.inl ⟨by rfl, ?_⟩) (by assumption) ?_
  · (intro w' hSw; (try dsimp only at hSw); go_simp; try rfl)
  simp only [Act.put, List.setIfInBounds_toArray, List.set_cons_zero, List.set_cons_succ]
  refine wpAnyH_ready (rs := [10]) (by kernel_rfl) (by simp) ?_
  refine AllReadyH.cons (o := { dst := some 6, op := _, type := _, pos := _, after := _, guard := _ }) rfl (fun K hK => ?_) AllReadyH.nil
  have hal : Below W.drew.heap.size W.drew (W.drew.alloc (.cells #[.int .i64 0, .int .i64 0, .int .i64 0] 125)) := by go_grown
  go_simp
  refine hK.out _ _ ?_ (fun hS1 => ?_)
  · exact ⟨cells_kept hal _ _ hS0.1, cells_kept hal _ _ hS0.2.1, cells_kept hal _ _ hS0.2.2.1, cells_kept hal _ _ hS0.2.2.2.1, cells_kept hal _ _ hS0.2.2.2.2.1, cells_kept hal _ _ hS0.2.2.2.2.2⟩
  clear hK
  try simp only [Act.put, List.setIfInBounds_toArray, List.set_cons_zero, List.set_cons_succ]
  refine wpAnyH_ready (rs := [11]) (by kernel_rfl) (by simp) ?_
  refine AllReadyH.cons (o := { dst := none, op := _, type := _, pos := _, after := _, guard := _ }) rfl (fun K hK => ?_) AllReadyH.nil
  have hal2 : Below W.drew.heap.size W.drew (W.drew.alloc (.cells #[.int .i64 5, .int .i64 q, .int .i64 x2] 125)) := by go_grown
  go_simp
  refine hK.out _ _ ?_ (fun hS2 => ?_)
  · exact ⟨cells_kept hal2 _ _ hS0.1, cells_kept hal2 _ _ hS0.2.1, cells_kept hal2 _ _ hS0.2.2.1, cells_kept hal2 _ _ hS0.2.2.2.1, cells_kept hal2 _ _ hS0.2.2.2.2.1, cells_kept hal2 _ _ hS0.2.2.2.2.2⟩
  clear hK
  try simp only [Act.put, List.setIfInBounds_toArray, List.set_cons_zero, List.set_cons_succ]
  refine wpAnyH_done (by kernel_rfl) ?_ _
  replace bw : Below w.heap.size w (W.alloc (.cells #[.int .i64 5, .int .i64 q, .int .i64 x2] 125)).drew := bel_trans bw (by go_grown)
  have pX : Blk (W.alloc (.cells #[.int .i64 5, .int .i64 q, .int .i64 x2] 125)).drew W.heap.size 125 [.int .i64 5, .int .i64 q, .int .i64 x2] := Blk.new W 125 [.int .i64 5, .int .i64 q, .int .i64 x2]
  have q0 := pX.cell 0
  have q1 := pX.cell 1
  simp only [List.getElem?_cons_zero, List.getElem?_cons_succ] at q0 q1
  clear hal hal2 hS0 hS1 h0 h1 c0 c1 c2 h6 pX
  replace hS2 := hS2.2.2.2.2.2
  have hq2 : (q : Int) < 2 := by omega
  have hv0 : (hv != 0) = z := by rw [hz]; by_cases h : hv = 0 <;> simp [h]
  clear hz
  go_wp2_with fail
  generalize (W.alloc (.cells #[.int .i64 5, .int .i64 q, .int .i64 x2] 125)).drew = W2 at *
  generalize W.heap.size = gx at *
  go_quiet (fail)
  have bz : Below w.heap.size w (W2.drewN nq) := bel_trans bw (below_dN _)
  go_wp2
  go_ret
  exact ⟨rfl, bz⟩

/-- The slice of thread k's code. -/
def slK (cs : Sl × Sl × Sl) : Nat → Sl
  | 0 => cs.1
  | 1 => cs.2.1
  | _ => cs.2.2
/-- A machine in memory: its block whole, and its threads' codes. -/
def MachAt (w : World) (g : Nat) (cs : Sl × Sl × Sl) (rows : List (List I3)) (m : V4) : Prop :=
  Blk w g 86 (machCells cs.1.val cs.2.1.val cs.2.2.val m) ∧ ∀ k, k < 3 → Instrs w (slK cs k).1 (slK cs k).2.1 (slK cs k).2.2 (codeM rows k)
theorem MachAt.below {w w' : World} {g : Nat} {cs : Sl × Sl × Sl} {rows : List (List I3)} {m : V4} (h : MachAt w g cs rows m) (hb : Below w.heap.size w w') : MachAt w' g cs rows m := ⟨h.1.below hb, fun k hk => (h.2 k hk).below hb⟩
theorem codeV_sl (cs : Sl × Sl × Sl) {k : Nat} (hk : k < 3) : codeV cs.1.val cs.2.1.val cs.2.2.val k = (slK cs k).val := by
  match k, hk with
  | 0, _ => rfl
  | 1, _ => rfl
  | 2, _ => rfl
theorem MachAt.code {w : World} {g : Nat} {cs : Sl × Sl × Sl} {rows : List (List I3)} {m : V4} (h : MachAt w g cs rows m) {k : Nat} (hk : k < 3) : w.cell? ⟨g, k * 4, none⟩ = some (.slice (slK cs k).1 (slK cs k).2.1 (slK cs k).2.2) := by
  rw [h.1.cell, mc_code _ _ _ _ hk, codeV_sl cs hk]; rfl
theorem MachAt.pc {w : World} {g : Nat} {cs : Sl × Sl × Sl} {rows : List (List I3)} {m : V4} (h : MachAt w g cs rows m) {k : Nat} (hk : k < 3) : w.cell? ⟨g, k * 4 + 1, none⟩ = some (.int .i64 (m.1.getD k 0)) := by
  rw [h.1.cell, mc_pc _ _ _ _ hk]
theorem MachAt.reg {w : World} {g : Nat} {cs : Sl × Sl × Sl} {rows : List (List I3)} {m : V4} (h : MachAt w g cs rows m) {k a : Nat} (hk : k < 3) (ha : a < 2) : w.cell? ⟨g, k * 4 + 2 + a, none⟩ = some (.int .i64 (m.2.2.2.getD (k * 2 + a) 0)) := by
  rw [h.1.cell, mc_reg _ _ _ _ hk ha]
theorem MachAt.var {w : World} {g : Nat} {cs : Sl × Sl × Sl} {rows : List (List I3)} {m : V4} (h : MachAt w g cs rows m) {a : Nat} (ha : a < 4) : w.cell? ⟨g, 12 + a, none⟩ = some (.int .i64 (m.2.1.getD a 0)) := by
  rw [h.1.cell, mc_var _ _ _ _ ha]
theorem MachAt.held {w : World} {g : Nat} {cs : Sl × Sl × Sl} {rows : List (List I3)} {m : V4} (h : MachAt w g cs rows m) {a : Nat} (ha : a < 2) : w.cell? ⟨g, 16 + a, none⟩ = some (.int .i64 (m.2.2.1.getD a 0)) := by
  rw [h.1.cell, mc_held _ _ _ _ ha]

/-- What is known of a thread that is not done: the instruction at which it stands. -/
theorem ins_at {w : World} {a : Option Addr} {n c : Nat} {xs : List I3} (h : Instrs w a n c xs) {p : Nat} (hp : p < xs.length) : ∃ b off, a = some ⟨b, off, none⟩ ∧ p < n ∧
    w.cell? ⟨b, off + p * 3, none⟩ = some (.int .i64 (xs.getD p (0, 0, 0)).1) ∧ w.cell? ⟨b, off + p * 3 + 1, none⟩ = some (.int .i64 (xs.getD p (0, 0, 0)).2.1) ∧ w.cell? ⟨b, off + p * 3 + 2, none⟩ = some (.int .i64 (xs.getD p (0, 0, 0)).2.2) := by
  obtain ⟨hl, _, _, _, h0 | ⟨b, off, ha, _, hc⟩⟩ := h
  · omega
  · exact ⟨b, off, ha, by omega, hc p (by omega)⟩
theorem codeM_len {rows : List (List I3)} (hp : progOk rows = true) {k : Nat} (hk : k < 3) : (codeM rows k).length ≤ 6 ∧ ∀ x ∈ codeM rows k, okI x = true := by
  obtain ⟨h3, hr⟩ := progOk_parts hp
  exact hr _ (by unfold codeM; simp [List.getD, show k < rows.length by omega])
/-- The place of a thread that is not done, and its instruction. -/
theorem at_ins {rows : List (List I3)} {m : V4} (hp : progOk rows = true) (hs : shapeOk m = true) {k : Nat} (hk : k < 3) (hd : doneM rows m k = false) : ∃ p : Nat, m.1.getD k 0 = p ∧ p < (codeM rows k).length ∧ insM rows m k = (codeM rows k).getD p (0, 0, 0) ∧ okI (insM rows m k) = true := by
  have hb := getD_in (shape_bounds hs).1 (by decide) k
  unfold doneM at hd
  simp only [decide_eq_false_iff_not] at hd
  have e : m.1.getD k 0 = ((m.1.getD k 0).toNat : Int) := by omega
  refine ⟨(m.1.getD k 0).toNat, e, by omega, rfl, ?_⟩
  refine (codeM_len hp hk).2 _ ?_
  unfold insM
  have hlt : (m.1.getD k 0).toNat < (codeM rows k).length := by omega
  rw [List.getD, List.getElem?_eq_getElem hlt, Option.getD_some]
  exact List.getElem_mem hlt
theorem okI_lock {x : I3} (h : okI x = true) (h5 : x.1 = 5) : ∃ q : Nat, x.2.1 = q ∧ q < 2 := by
  unfold okI at h
  simp only [h5] at h
  have h2 : inB x.2.1 0 1 = true := by
    have := h
    simp at this
    exact this.1
  rw [inB_true] at h2
  exact ⟨x.2.1.toNat, by omega, by omega⟩

theorem doneT_is {w : World} {g : Nat} {cs : Sl × Sl × Sl} {rows : List (List I3)} {m : V4} (h : MachAt w g cs rows m) {k : Nat} (hk : k < 3) :
    Calls Tryd.prog 57 #[.pointer (some ⟨g, k * 4, none⟩)] w fun e w' => e = .returned (.bool (doneM rows m k)) ∧ ∃ d, w' = w.drewN d := by
  have hl := (h.2 k hk).1
  have := done_is g (k * 4) _ _ _ _ w (h.code hk) (h.pc hk)
  unfold doneM
  rw [hl]
  exact this

theorem waits_is {w : World} {g : Nat} {cs : Sl × Sl × Sl} {rows : List (List I3)} {m : V4} (h : MachAt w g cs rows m) (hp : progOk rows = true) (hs : shapeOk m = true) {k : Nat} (hk : k < 3) :
    Calls Tryd.prog 58 #[.pointer (some ⟨g, 0, none⟩), .int .i64 k] w fun e w' => e = .returned (.bool (waitM rows m k)) ∧ Below w.heap.size w w' := by
  unfold waitM
  cases hd : doneM rows m k
  · obtain ⟨p, ep, hlt, hi, hok⟩ := at_ins hp hs hk hd
    have h0 := h.code hk
    have h1 := h.pc hk
    rw [ep] at h1
    obtain ⟨b, off, ea, hpn, c0, c1, c2⟩ := ins_at (h.2 k hk) hlt
    rw [← hi] at c0 c1 c2
    rw [ea] at h0
    by_cases h5 : (insM rows m k).1 = 5
    · obtain ⟨q, hq, hq2⟩ := okI_lock hok h5
      rw [h5] at c0
      rw [hq] at c1
      have hh := h.held hq2
      have e : atLock m (insM rows m k) = !decide (m.2.2.1.getD q 0 = 0) := by
        unfold atLock
        rw [h5, hq]
        simp
      rw [e]
      exact waits_lock g k p b off _ _ _ q _ w hk hpn h0 h1 c0 c1 c2 hh hq2 _ rfl
    · have e : atLock m (insM rows m k) = false := by unfold atLock; simp [h5]
      rw [e]
      exact waits_free g k p b off _ _ _ _ _ w hk hpn h0 h1 c0 c1 c2 h5
  · have h0 := h.code hk
    have h1 := h.pc hk
    unfold doneM at hd
    simp only [decide_eq_true_eq] at hd
    rw [(h.2 k hk).1] at hd
    exact waits_done g k _ _ _ _ w hk h0 h1 hd
end Go.Proofs.YtmhngodbnoonhaaDoor
