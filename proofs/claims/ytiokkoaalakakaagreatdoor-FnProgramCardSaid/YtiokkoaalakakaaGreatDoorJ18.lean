/-
  FnProgram, part 18 of 50 (Prog5, ProgL, SlI).
-/
import Derived.Test.YtiokkoaalakakaaGreatDoorJ15
import Derived.Test.YtiokkoaalakakaaGreatDoorJ17
import Derived.Test.YtiokkoaalakakaaGreatDoorJ11
import Derived.Test.YtiokkoaalakakaaGreatDoorJ06
import Derived.Deep.RegionHeld3
import Derived.Test.YtiokkoaalakakaaGreatDoorJ01

/-
  Programs copied, in memory of their own that may be written: laws' toInstrSS, toProgram once more, with what the marks want.
-/
namespace Go.Proofs.YtiokkoaalakakaaGreatDoor
open Go.RowKit

/-- The first k rows are there, each in memory of its own. -/
def RowsOwn (w : World) (B k : Nat) (vs : List Value) (rows : List (List I3)) : Prop :=
  (∀ t, t < k → w.ownsRow B 36 3 (vs.getD t undef) (rows.getD t []).length (flat (rows.getD t []))) ∧
  ∀ t t', t < k → t' < k → t ≠ t' → (vs.getD t undef).ownBlock = none ∨ (vs.getD t undef).ownBlock ≠ (vs.getD t' undef).ownBlock

theorem RowsOwn.below {w w' : World} {B k : Nat} {vs : List Value} {rows : List (List I3)} (h : RowsOwn w B k vs rows) (hb : Below w.heap.size w w') : RowsOwn w' B k vs rows := ⟨fun t ht => owns_below (h.1 t ht) hb, h.2⟩

/-- One row more, in a block that was not there before. -/
theorem RowsOwn.put {w w' : World} {B P k G len : Nat} {vs : List Value} {rows : List (List I3)} (h : RowsOwn w B k vs rows) (hb : Below w.heap.size w w') (hk : k < vs.length) (hG : w.heap.size ≤ G)
    (hn : w'.ownsRow B 36 3 (.slice (some ⟨G, 0, none⟩) len len) (rows.getD k []).length (flat (rows.getD k []))) (hP : P < w.heap.size) (hPn : ∀ t, t < k → (vs.getD t undef).ownBlock ≠ some P) :
    RowsOwn (w'.setCell ⟨P, k, none⟩ (.slice (some ⟨G, 0, none⟩) len len)) B (k + 1) (vs.set k (.slice (some ⟨G, 0, none⟩) len len)) rows := by
  have hold : ∀ t, t ≠ k → (vs.set k (.slice (some ⟨G, 0, none⟩) len len)).getD t undef = vs.getD t undef := fun t ht => by simp [List.getD, List.getElem?_set_ne (Ne.symm ht)]
  have hnew : (vs.set k (.slice (some ⟨G, 0, none⟩) len len)).getD k undef = .slice (some ⟨G, 0, none⟩) len len := by simp [List.getD, hk]
  refine ⟨fun t ht => ?_, fun t t' ht ht' hne => ?_⟩
  · by_cases e : t = k
    · subst e
      rw [hnew]
      exact ownsRow_setCell_other hn (by simp [Value.ownBlock]; omega) _
    · rw [hold t e]
      exact ownsRow_setCell_other (owns_below (h.1 t (by omega)) hb) (hPn t (by omega)) _
  · by_cases e : t = k
    · subst e
      rw [hnew, hold t' (Ne.symm hne)]
      refine .inr ?_
      simp only [Value.ownBlock, ne_eq]
      intro h'
      have := ((h.1 t' (by omega)).lt G h'.symm).2
      omega
    · rw [hold t e]
      by_cases e' : t' = k
      · subst e'
        rw [hnew]
        rcases hbk : (vs.getD t undef).ownBlock with _ | x
        · exact .inl rfl
        · refine .inr ?_
          simp only [Value.ownBlock, ne_eq, Option.some.injEq]
          have := ((h.1 t (by omega)).lt x hbk).2
          omega
      · rw [hold t' e']
        exact h.2 t t' (by omega) (by omega) hne

theorem OwnProg.low {w : World} {B : Nat} {v : Value} {rows : List (List I3)} (h : OwnProg w B v rows) {p : Addr} (hp : p.block < B) (u : Value) : OwnProg (w.setCell p u) B v rows := by
  obtain ⟨vs, h1, h2, h3, h4⟩ := h
  exact ⟨vs, ownsRow_setCell_below h1 hp _, h2, fun t ht => ownsRow_setCell_below (h3 t ht) hp _, h4⟩

end Go.Proofs.YtiokkoaalakakaaGreatDoor


/-
  impl.emptyProgram, impl.programOfList: a program read back from its numbers.
-/
namespace Go.Proofs.YtiokkoaalakakaaGreatDoor
open Go.RowKit

theorem owns_lower {w : World} {B B' e s n : Nat} {v : Value} {cs : List Value} (h : w.ownsRow B e s v n cs) (hB : B' ≤ B) : w.ownsRow B' e s v n cs := by
  refine ⟨h.1, ?_⟩
  rcases h.2 with h0 | ⟨g, cap, cur, hv, hg, r⟩
  · exact .inl h0
  · exact .inr ⟨g, cap, cur, hv, by omega, r⟩

set_option maxHeartbeats 1000000 in
set_option maxRecDepth 100000 in
theorem emptyProgram_is (w : World) : Calls Tryz.prog 23 #[] w fun e w' => e = .returned (.agg #[.slice (some ⟨w.heap.size + 1, 0, none⟩) 3 3]) ∧
    (∃ vs, w'.ownsRow w.heap.size 55 1 (.slice (some ⟨w.heap.size + 1, 0, none⟩) 3 3) 3 vs) ∧ Below w.heap.size w w' := by
  obtain ⟨i0, hi, hz0, hz1, hz2⟩ := info_parts info_instrs
  go_enter Tryz.func23, Tryz.ntmps23
  go_wp2_with (at_make; refine wpList_make_full _ rfl _ _ 23 rfl w.heap.size 55 i0 (.slice none 0 0) 1 Tryz.underlying23 hi hz0 hz1 _ _ _ _ 3 rfl rfl (by omega) (by omega) ?b2 ?b3 ?b4 ?_)
  case b2 => rw [hz2]; omega
  case b3 => unfold maxLen; omega
  case b4 => simp
  intro w0 hown0 hgrow0
  have hk : w0.cell? ⟨w.heap.size, 0, none⟩ = some (.slice none 0 0) := hgrow0.cell (by simp [go_sem]) (by simp)
  have hf : w0.frozen? ⟨w.heap.size, 0, none⟩ = false := by
    rw [World.frozen?_of_block (hgrow0.block w.heap.size (by simp) (by simp))]
    first | (simp [go_sem]; done) | (simp [World.frozen?]; done)
  have hb0 : Below w.heap.size w w0 := ((Below.refl w.heap.size w).alloc (Nat.le_refl _) _).grown hgrow0 (by simp) (fun k h => by cases h)
  try simp only [World.size_alloc] at hown0
  generalize (madeCells #[Value.slice none 0 0] (3 * 1)).toList = vs at hown0
  clear hgrow0
  have R : (w0.setCell ⟨w.heap.size, 0, none⟩ (.slice (some ⟨w.heap.size + 1, 0, none⟩) 3 3)).ownsRow w.heap.size 55 1 (.slice (some ⟨w.heap.size + 1, 0, none⟩) 3 3) 3 vs := ownsRow_setCell_other hown0 (by simp [Value.ownBlock]) _
  have hb1 : Below w.heap.size w (w0.setCell ⟨w.heap.size, 0, none⟩ (.slice (some ⟨w.heap.size + 1, 0, none⟩) 3 3)) := hb0.setCell (Nat.le_refl _) _
  have k3 : (w0.setCell ⟨w.heap.size, 0, none⟩ (.slice (some ⟨w.heap.size + 1, 0, none⟩) 3 3)).cell? ⟨w.heap.size, 0, none⟩ = some (.slice (some ⟨w.heap.size + 1, 0, none⟩) 3 3) := World.cell?_setCell_same' _ _ _ (by rw [hk]; rfl)
  try simp only [World.size_alloc]
  go_wp2
  clear hown0 hb0 hk hf
  generalize w0.setCell ⟨w.heap.size, 0, none⟩ (.slice (some ⟨w.heap.size + 1, 0, none⟩) 3 3) = w2 at R hb1 k3
  refine bodyPost_ret (by simp [results, Tryz.results23, go_sem, k3]; try rfl) rfl ?_
  exact ⟨rfl, ⟨vs, R⟩, hb1⟩
end Go.Proofs.YtiokkoaalakakaaGreatDoor

/-
  Slices of slices of integers.
-/
namespace Go.Proofs.YtiokkoaalakakaaGreatDoor
open Go.RowKit

/-- s[lo:hi] of a slice of integers. -/
theorem slice_lh {w : World} {b off len cap lo hi : Nat} {xs : List Int} (h : Ints .i64 w (some ⟨b, off, none⟩) len cap xs) (h1 : lo ≤ hi) (h2 : hi ≤ len) :
    ∃ a, (∀ W, (Instr.slice 56 (.slice (some ⟨b, off, none⟩) len cap) (some (.int .i64 (lo : Int))) (some (.int .i64 (hi : Int))) none).run Tryz.prog W = .ok (.slice a (hi - lo) (cap - lo)) W) ∧ Ints .i64 w a (hi - lo) (cap - lo) ((xs.drop lo).take (hi - lo)) := by
  obtain ⟨hl, hlc, hcm, hcase⟩ := h
  have hhc : (hi : Int) ≤ (cap : Int) := by omega
  have hlh : (lo : Int) ≤ (hi : Int) := by omega
  by_cases hz : cap - lo = 0
  · refine ⟨some ⟨b, off, none⟩, fun W => ?_, by rw [List.length_take, List.length_drop]; omega, by omega, by omega, .inl (by omega)⟩
    go_simp
    omega
  · refine ⟨some ⟨b, off + lo, none⟩, fun W => ?_, by rw [List.length_take, List.length_drop]; omega, by omega, by omega, ?_⟩
    · go_simp
      omega
    · rcases hcase with h0 | ⟨b', off', he, hb, hc⟩
      · exact .inl (by omega)
      · cases he
        refine .inr ⟨b, off + lo, rfl, hb, fun t ht => ?_⟩
        have := hc (lo + t) (by omega)
        rw [show off + lo + t = off + (lo + t) by omega, this]
        simp [List.getD, ht]
/-- s[lo:] of a slice of integers. -/
theorem slice_l {w : World} {b off len cap lo : Nat} {xs : List Int} (h : Ints .i64 w (some ⟨b, off, none⟩) len cap xs) (h1 : lo ≤ len) :
    ∃ a, (∀ W, (Instr.slice 56 (.slice (some ⟨b, off, none⟩) len cap) (some (.int .i64 (lo : Int))) none none).run Tryz.prog W = .ok (.slice a (len - lo) (cap - lo)) W) ∧ Ints .i64 w a (len - lo) (cap - lo) (xs.drop lo) := by
  obtain ⟨hl, hlc, hcm, hcase⟩ := h
  have hlh : (lo : Int) ≤ (len : Int) := by omega
  by_cases hz : cap - lo = 0
  · refine ⟨some ⟨b, off, none⟩, fun W => ?_, by rw [List.length_drop]; omega, by omega, by omega, .inl (by omega)⟩
    go_simp
    omega
  · refine ⟨some ⟨b, off + lo, none⟩, fun W => ?_, by rw [List.length_drop]; omega, by omega, by omega, ?_⟩
    · go_simp
      omega
    · rcases hcase with h0 | ⟨b', off', he, hb, hc⟩
      · exact .inl (by omega)
      · cases he
        refine .inr ⟨b, off + lo, rfl, hb, fun t ht => ?_⟩
        have := hc (lo + t) (by omega)
        rw [show off + lo + t = off + (lo + t) by omega, this]
        simp [List.getD]
end Go.Proofs.YtiokkoaalakakaaGreatDoor
