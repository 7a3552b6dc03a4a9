
/-
  Programs copied, in memory of their own: laws' toInstrSS, toProgram.
-/
import Derived.Test.YtleiogcohkfgkaaProg2
namespace Go.Proofs.Ytleiogcohkfgkaa
open Go.RowKit

theorem cell_setCell_off (w : World) (p : Addr) (u : Value) {q : Addr} (h : q.block ≠ p.block) : (w.setCell p u).cell? q = w.cell? q := by
  have := heap_setCell_other w p q.block u h
  unfold World.cell?
  rw [this]

theorem Instrs.setCell {w : World} {g len cap : Nat} {xs : List I3} (h : Instrs w (some ⟨g, 0, none⟩) len cap xs) (p : Addr) (u : Value) (hne : g ≠ p.block) : Instrs (w.setCell p u) (some ⟨g, 0, none⟩) len cap xs := by
  obtain ⟨h1, h2, h3, hf, h4⟩ := h
  refine ⟨h1, h2, h3, hf, ?_⟩
  rcases h4 with h4 | ⟨b, off, ha, hlt, hc⟩
  · exact .inl h4
  · cases ha
    refine .inr ⟨g, 0, rfl, by simpa using hlt, fun t ht => ?_⟩
    obtain ⟨c0, c1, c2⟩ := hc t ht
    exact ⟨by rw [cell_setCell_off _ _ _ hne]; exact c0, by rw [cell_setCell_off _ _ _ hne]; exact c1, by rw [cell_setCell_off _ _ _ hne]; exact c2⟩

/-- The first k rows are there, each in a block of its own behind B. -/
def RowsTo (w : World) (B k : Nat) (cs : List Value) (rows : List (List I3)) : Prop :=
  ∀ t, t < k → ∃ g len', cs[t]? = some (.slice (some ⟨g, 0, none⟩) len' len') ∧ B < g ∧ Instrs w (some ⟨g, 0, none⟩) len' len' (rows.getD t [])

theorem RowsTo.below {w w' : World} {B k : Nat} {cs : List Value} {rows : List (List I3)} (h : RowsTo w B k cs rows) (hb : Below w.heap.size w w') : RowsTo w' B k cs rows := fun t ht => by
  obtain ⟨g, l, hc, hg, hi⟩ := h t ht
  exact ⟨g, l, hc, hg, hi.below hb⟩

theorem RowsTo.put {w : World} {B k : Nat} {cs : List Value} {rows : List (List I3)} (h : RowsTo w B k cs rows) (hk : k < cs.length) {g len' : Nat} (hg : B < g) (hi : Instrs w (some ⟨g, 0, none⟩) len' len' (rows.getD k [])) :
    RowsTo (w.setCell ⟨B, k, none⟩ (.slice (some ⟨g, 0, none⟩) len' len')) B (k + 1) (cs.set k (.slice (some ⟨g, 0, none⟩) len' len')) rows := fun t ht => by
  by_cases htk : t = k
  · subst htk
    exact ⟨g, len', by simp [hk], hg, hi.setCell _ _ (show g ≠ B by omega)⟩
  · obtain ⟨g', l', hc, hg', hi'⟩ := h t (by omega)
    exact ⟨g', l', by rw [List.getElem?_set_ne (by omega)]; exact hc, hg', hi'.setCell _ _ (show g' ≠ B by omega)⟩

theorem info_instrs : (Try.prog.info? 71).map (fun i => (i.zero, i.size, i.bytes)) = some (some (.slice none 0 0), 1, 24) := by kernel_rfl

theorem Codes.of_rows {w : World} {B e len cap : Nat} {cs : List Value} {rows : List (List I3)} (ho : w.ownsRow B e 1 (.slice (some ⟨B, 0, none⟩) len cap) len cs) (hl : rows.length = len) (h : RowsTo w B len cs rows) :
    Codes w (some ⟨B, 0, none⟩) len cap rows := by
  have hg := (ho.lt B rfl).2
  have hcell := ho.cellAt
  rcases ho.2 with ⟨h0, _⟩ | ⟨g', cap', cur, hv, _, _, hn, hcap, _, _⟩
  · cases h0
  · cases hv
    refine ⟨hl, hn, hcap, .inr ⟨B, 0, rfl, hg, fun t ht => ?_⟩⟩
    obtain ⟨g, l, hc, _, hi⟩ := h t ht
    exact ⟨_, _, _, by rw [Nat.zero_add, hcell t (by omega)]; exact hc, hi⟩

theorem RowsTo.low {w : World} {B k : Nat} {cs : List Value} {rows : List (List I3)} (h : RowsTo w B k cs rows) {p : Addr} (hp : p.block < B) (u : Value) : RowsTo (w.setCell p u) B k cs rows := fun t ht => by
  obtain ⟨g, l, hc, hg, hi⟩ := h t ht
  exact ⟨g, l, hc, hg, hi.setCell _ _ (by omega)⟩

/-- A slice of rows of instructions in memory of its own, from block B on. -/
def OwnCodes (w : World) (B len : Nat) (rows : List (List I3)) : Prop :=
  rows.length = len ∧ ∃ cs, w.ownsRow B 71 1 (.slice (some ⟨B, 0, none⟩) len len) len cs ∧ RowsTo w B len cs rows

theorem OwnCodes.codes {w : World} {B len : Nat} {rows : List (List I3)} (h : OwnCodes w B len rows) : Codes w (some ⟨B, 0, none⟩) len len rows := by
  obtain ⟨hl, cs, ho, hR⟩ := h
  exact Codes.of_rows ho hl hR

theorem OwnCodes.low {w : World} {B len : Nat} {rows : List (List I3)} (h : OwnCodes w B len rows) {p : Addr} (hp : p.block < B) (u : Value) : OwnCodes (w.setCell p u) B len rows := by
  obtain ⟨hl, cs, ho, hR⟩ := h
  exact ⟨hl, cs, ownsRow_setCell_below ho hp _, hR.low hp u⟩

set_option maxHeartbeats 1000000 in
set_option maxRecDepth 100000 in
/-- toInstrSS: a copy, in memory of its own. -/
theorem toInstrSS_copy (a : Option Addr) (len cap : Nat) (rows : List (List I3)) (w : World) (h : Codes w a len cap rows) (hn : len ≤ 1048576) (hr : ∀ t, t < len → (rows.getD t []).length ≤ 1048576) :
    Calls Try.prog 24 #[.slice a len cap] w fun e w' => e = .returned (.slice (some ⟨w.heap.size, 0, none⟩) len len) ∧
      OwnCodes w' w.heap.size len rows ∧ Below w.heap.size w w' := by
  obtain ⟨i0, hi, hz0, hz1, hz2⟩ := info_parts info_instrs
  obtain ⟨hl, hlc, hcm, hcase⟩ := h
  unfold maxLen at hcm
  go_enter Try.func24, Try.ntmps24
  go_wp2_with (at_make; refine wpList_make_full _ rfl _ _ 29 rfl w.heap.size 71 i0 (.slice none 0 0) 1 Try.underlying29 hi hz0 hz1 _ _ _ _ len rfl rfl (by omega) (by omega) ?b2 ?b3 (Nat.le_refl _) ?_)
  case b2 => rw [hz2]; omega
  case b3 => unfold maxLen; omega
  intro w0 hown0 hgrow0
  have hb0 : Below w.heap.size w w0 := (Below.refl _ _).grown hgrow0 (Nat.le_refl _) (fun k h => by cases h)
  obtain ⟨cs0, hcs0⟩ : ∃ cs0, cs0 = (madeCells #[Value.slice none 0 0] len).toList := ⟨_, rfl⟩
  rw [← hcs0] at hown0
  clear hgrow0 hcs0
  go_wp2
  go_loopw [4] (fun si wr => ∃ (k : Nat) (cs : List Value), k ≤ len ∧ si = .int .i64 k ∧ RowsTo wr w.heap.size k cs rows ∧ wr.ownsRow w.heap.size 71 1 (.slice (some ⟨w.heap.size, 0, none⟩) len len) len cs ∧ Below w.heap.size w wr) (fun si _ => len - (intOf si).toNat)
  case atStart => exact ⟨0, cs0, by omega, rfl, fun t ht => by omega, hown0, hb0⟩
  case round =>
    obtain ⟨k, cs, hk, rfl, hR, ho, hbel⟩ := hrel
    by_cases hlt : k < len
    · rcases hcase with h0 | ⟨b, off, rfl, hblt, hcell⟩
      · omega
      have hlt2 : (k : Int) < (len : Int) := by omega
      obtain ⟨a', len', cap', hc, hI⟩ := hcell k hlt
      have hrk := hr k hlt
      rw [hI.1] at hrk
      have hc' : wr.cell? ⟨b, off + k, none⟩ = some (.slice a' len' cap') := by rw [hbel.cell (p := ⟨b, _, none⟩) hblt]; exact hc
      clear hcell hc
      have hIr : Instrs wr a' len' cap' (rows.getD k []) := hI.below hbel
      have hwr := (ho.lt w.heap.size rfl).2
      go_wp2_with fail
      refine (toInstrS_copy a' len' cap' _ wr hIr hrk).mono ?_
      rintro e w1 ⟨rfl, ⟨cs2, hcs2, hown2⟩, hb1⟩
      have hI2 := Instrs.of_owns hown2 hIr.1 hIr.2.2.2.1 hcs2
      clear hcs2 hown2 hIr hI hc'
      have ho1 := owns_below ho hb1
      have hR1 := hR.below hb1
      have hbel1 : Below w.heap.size w w1 := bel_trans hbel hb1
      clear ho hbel hb1 hR
      have hlen := ho1.1
      have f0 := ho1.frozenAt k
      obtain ⟨u0, hu0⟩ : ∃ u, w1.cell? ⟨w.heap.size, k, none⟩ = some u := ⟨_, by rw [ho1.cellAt _ (by omega)]; exact List.getElem?_eq_getElem (by omega)⟩
      have R := (ho1.stored k (.slice (some ⟨wr.heap.size, 0, none⟩) len' len')).1
      have R2 := hR1.put (by omega) hwr hI2
      have hb3 : Below w.heap.size w (w1.setCell ⟨w.heap.size, k, none⟩ (.slice (some ⟨wr.heap.size, 0, none⟩) len' len')) := hbel1.setCell (Nat.le_refl _) _
      clear ho1 hbel1 hR1 hI2
      generalize cs.set k (.slice (some ⟨wr.heap.size, 0, none⟩) len' len') = cs' at R R2
      go_wp2
      go_roundw
      case rel => exact ⟨k + 1, cs', by omega, by go_num, R2, R, hb3⟩
      case measure => simp [intOf]; omega
    · obtain rfl : k = len := by omega
      clear hcase
      go_wp2
      go_ret
      exact ⟨rfl, ⟨hl, cs, ho, hR⟩, hbel⟩

set_option maxHeartbeats 1000000 in
set_option maxRecDepth 100000 in
/-- toProgram: a copy, in memory of its own. -/
theorem toProgram_copy (a : Option Addr) (len cap : Nat) (rows : List (List I3)) (w : World) (h : Codes w a len cap rows) (hn : len ≤ 1048576) (hr : ∀ t, t < len → (rows.getD t []).length ≤ 1048576) :
    Calls Try.prog 8 #[.agg #[.slice a len cap]] w fun e w' => e = .returned (.agg #[.slice (some ⟨w.heap.size + 3, 0, none⟩) len len]) ∧
      OwnCodes w' (w.heap.size + 3) len rows ∧ Below w.heap.size w w' := by
  go_enter Try.func8, Try.ntmps8
  go_wp2_with fail
  refine (toInstrSS_copy _ _ _ rows _ (h.below (by go_grown)) hn hr).mono ?_
  rintro e w1 ⟨rfl, hC, hb1⟩
  have k1 : w1.cell? ⟨w.heap.size + 1, 0, none⟩ = some (.slice none 0 0) := by rw [hb1.cell (by simp)]; first | (simp [go_sem]; done) | (simp [World.cell?]; done)
  have k2 : w1.cell? ⟨w.heap.size + 1 + 1, 0, none⟩ = some (.slice none 0 0) := by rw [hb1.cell (by simp)]; first | (simp [go_sem]; done) | (simp [World.cell?]; done)
  have f1 : w1.frozen? ⟨w.heap.size + 1, 0, none⟩ = false := by rw [hb1.frozen (by simp)]; first | (simp [go_sem]; done) | (simp [World.frozen?]; done)
  have f2 : w1.frozen? ⟨w.heap.size + 1 + 1, 0, none⟩ = false := by rw [hb1.frozen (by simp)]; first | (simp [go_sem]; done) | (simp [World.frozen?]; done)
  have hbw : Below w.heap.size w w1 := bel_trans (by go_grown) hb1
  simp only [World.size_alloc] at hC
  rw [show w.heap.size + 1 + 1 + 1 = w.heap.size + 3 from rfl] at hC
  clear hb1 h
  simp only [World.size_alloc]
  have k3 : ((w1.setCell ⟨w.heap.size + 1 + 1, 0, none⟩ (.slice (some ⟨w.heap.size + 1 + 1 + 1, 0, none⟩) len len)).setCell ⟨w.heap.size + 1, 0, none⟩ (.slice (some ⟨w.heap.size + 1 + 1 + 1, 0, none⟩) len len)).cell? ⟨w.heap.size + 1, 0, none⟩ = some (.slice (some ⟨w.heap.size + 1 + 1 + 1, 0, none⟩) len len) :=
    World.cell?_setCell_same' _ _ _ (by rw [cell_setCell_off _ _ _ (by simp), k1]; rfl)
  go_wp2
  have R := (hC.low (p := ⟨w.heap.size + 1 + 1, 0, none⟩) (by simp) (.slice (some ⟨w.heap.size + 1 + 1 + 1, 0, none⟩) len len)).low (p := ⟨w.heap.size + 1, 0, none⟩) (by simp) (.slice (some ⟨w.heap.size + 1 + 1 + 1, 0, none⟩) len len)
  have hb3 := (hbw.setCell (p := ⟨w.heap.size + 1 + 1, 0, none⟩) (by simp; omega) (.slice (some ⟨w.heap.size + 1 + 1 + 1, 0, none⟩) len len)).setCell (p := ⟨w.heap.size + 1, 0, none⟩) (by simp) (.slice (some ⟨w.heap.size + 1 + 1 + 1, 0, none⟩) len len)
  clear hC hbw k1 k2 f1 f2
  generalize (w1.setCell ⟨w.heap.size + 1 + 1, 0, none⟩ (.slice (some ⟨w.heap.size + 1 + 1 + 1, 0, none⟩) len len)).setCell ⟨w.heap.size + 1, 0, none⟩ (.slice (some ⟨w.heap.size + 1 + 1 + 1, 0, none⟩) len len) = w2 at k3 R hb3
  refine bodyPost_ret (by simp [results, Try.results8, go_sem, k3]; try rfl) rfl ?_
  exact ⟨rfl, R, hb3⟩
end Go.Proofs.Ytleiogcohkfgkaa
