/-
  Joined: CodeL, Prog5, ProgL, SlI, ProgM, StrS, RpM.
-/
import Derived.Test.YtmhngodbnoonhaaGreatDoorK32
import Derived.Test.YtmhngodbnoonhaaGreatDoorK02
import Derived.Deep.RegionHeld3
import Derived.Test.YtmhngodbnoonhaaGreatDoorK09
import Derived.Test.YtmhngodbnoonhaaGreatDoorK06
import Derived.Test.YtmhngodbnoonhaaGreatDoorK01
import Derived.Maps.AppendAt

/-
  impl.codeOfList.
-/
namespace Go.Proofs.YtmhngodbnoonhaaGreatDoor
open Go.RowKit

end Go.Proofs.YtmhngodbnoonhaaGreatDoor


/-
  Programs copied, in memory of their own that may be written: laws' toInstrSS, toProgram once more, with what the marks want.
-/
namespace Go.Proofs.YtmhngodbnoonhaaGreatDoor
open Go.RowKit

/-- The first k rows are there, each in memory of its own. -/
def RowsOwn (w : World) (B k : Nat) (vs : List Value) (rows : List (List I3)) : Prop :=
  (∀ t, t < k → w.ownsRow B 102 3 (vs.getD t undef) (rows.getD t []).length (flat (rows.getD t []))) ∧
  ∀ t t', t < k → t' < k → t ≠ t' → (vs.getD t undef).ownBlock = none ∨ (vs.getD t undef).ownBlock ≠ (vs.getD t' undef).ownBlock

theorem RowsOwn.below {w w' : World} {B k : Nat} {vs : List Value} {rows : List (List I3)} (h : RowsOwn w B k vs rows) (hb : Below w.heap.size w w') : RowsOwn w' B k vs rows := ⟨fun t ht => owns_below (h.1 t ht) hb, h.2⟩

/-- One row more, in a block that was not there before. -/
theorem RowsOwn.put {w w' : World} {B P k G len : Nat} {vs : List Value} {rows : List (List I3)} (h : RowsOwn w B k vs rows) (hb : Below w.heap.size w w') (hk : k < vs.length) (hG : w.heap.size ≤ G)
    (hn : w'.ownsRow B 102 3 (.slice (some ⟨G, 0, none⟩) len len) (rows.getD k []).length (flat (rows.getD k []))) (hP : P < w.heap.size) (hPn : ∀ t, t < k → (vs.getD t undef).ownBlock ≠ some P) :
    RowsOwn (w'.setCell ⟨P, k, none⟩ (.slice (some ⟨G, 0, none⟩) len len)) B (k + 1) (vs.set k (.slice (some ⟨G, 0, none⟩) len len)) rows := by
  have hold : ∀ t, t ≠ k → (vs.set k (.slice (some ⟨G, 0, none⟩) len len)).getD t undef = vs.getD t undef := fun t ht => by simp [List.getD, List.getElem?_set_ne (Ne.symm ht)]
  have hnew : (vs.set k (.slice (some ⟨G, 0, none⟩) len len)).getD k undef = .slice (some ⟨G, 0, none⟩) len len := by simp [List.getD, hk]
  refine ⟨fun t ht => ?_, fun t t' ht ht' hne => ?_⟩
  · by_cases e : t = k
    · subst e
      rw [hnew]
      exact ownsRow_setCell_other hn (by simp [Value.ownBlock]; omega) _
    · rw [hold t e]
      exact ownsRow_setCell_other (owns_below (h.1 t (by omega)) hb) (hPn t (by omega)) _
  · by_cases e : t = k
    · subst e
      rw [hnew, hold t' (Ne.symm hne)]
      refine .inr ?_
      simp only [Value.ownBlock, ne_eq]
      intro h'
      have := ((h.1 t' (by omega)).lt G h'.symm).2
      omega
    · rw [hold t e]
      by_cases e' : t' = k
      · subst e'
        rw [hnew]
        rcases hbk : (vs.getD t undef).ownBlock with _ | x
        · exact .inl rfl
        · refine .inr ?_
          simp only [Value.ownBlock, ne_eq, Option.some.injEq]
          have := ((h.1 t (by omega)).lt x hbk).2
          omega
      · rw [hold t' e']
        exact h.2 t t' (by omega) (by omega) hne

theorem OwnProg.low {w : World} {B : Nat} {v : Value} {rows : List (List I3)} (h : OwnProg w B v rows) {p : Addr} (hp : p.block < B) (u : Value) : OwnProg (w.setCell p u) B v rows := by
  obtain ⟨vs, h1, h2, h3, h4⟩ := h
  exact ⟨vs, ownsRow_setCell_below h1 hp _, h2, fun t ht => ownsRow_setCell_below (h3 t ht) hp _, h4⟩

set_option maxHeartbeats 1000000 in
set_option maxRecDepth 100000 in
/-- toInstrSS: a copy, in memory of its own. -/
theorem toInstrSS_own (a : Option Addr) (len cap : Nat) (rows : List (List I3)) (w : World) (h : Codes w a len cap rows) (hn : len ≤ 1048576) (hr : ∀ t, t < len → (rows.getD t []).length ≤ 1048576) :
    Calls Tryz.prog 51 #[.slice a len cap] w fun e w' => e = .returned (.slice (some ⟨w.heap.size, 0, none⟩) len len) ∧
      OwnProg w' w.heap.size (.slice (some ⟨w.heap.size, 0, none⟩) len len) rows ∧ Below w.heap.size w w' := by
  obtain ⟨i0, hi, hz0, hz1, hz2⟩ := info_parts info_instrs
  obtain ⟨hl, hlc, hcm, hcase⟩ := h
  unfold maxLen at hcm
  go_enter Tryz.func51, Tryz.ntmps51
  go_wp2_with (at_make; refine wpList_make_full _ rfl _ _ 23 rfl w.heap.size 64 i0 (.slice none 0 0) 1 Tryz.underlying23 hi hz0 hz1 _ _ _ _ len rfl rfl (by omega) (by omega) ?b2 ?b3 (Nat.le_refl _) ?_)
  case b2 => rw [hz2]; omega
  case b3 => unfold maxLen; omega
  intro w0 hown0 hgrow0
  have hb0 : Below w.heap.size w w0 := (Below.refl _ _).grown hgrow0 (Nat.le_refl _) (fun k h => by cases h)
  obtain ⟨cs0, hcs0⟩ : ∃ cs0, cs0 = (madeCells #[Value.slice none 0 0] len).toList := ⟨_, rfl⟩
  rw [← hcs0] at hown0
  clear hgrow0 hcs0
  go_wp2
  go_loopw [4] (fun si wr => ∃ (k : Nat) (cs : List Value), k ≤ len ∧ si = .int .i64 k ∧ RowsOwn wr w.heap.size k cs rows ∧ wr.ownsRow w.heap.size 64 1 (.slice (some ⟨w.heap.size, 0, none⟩) len len) len cs ∧ Below w.heap.size w wr) (fun si _ => len - (intOf si).toNat)
  case atStart => exact ⟨0, cs0, by omega, rfl, ⟨fun t ht => by omega, fun t _ ht => by omega⟩, hown0, hb0⟩
  case round =>
    obtain ⟨k, cs, hk, rfl, hR, ho, hbel⟩ := hrel
    by_cases hlt : k < len
    · rcases hcase with h0 | ⟨b, off, rfl, hblt, hcell⟩
      · omega
      have hlt2 : (k : Int) < (len : Int) := by omega
      obtain ⟨a', len', cap', hc, hI⟩ := hcell k hlt
      have hrk := hr k hlt
      rw [hI.1] at hrk
      have hc' : wr.cell? ⟨b, off + k, none⟩ = some (.slice a' len' cap') := by rw [hbel.cell (p := ⟨b, _, none⟩) hblt]; exact hc
      clear hcell hc
      have hIr : Instrs wr a' len' cap' (rows.getD k []) := hI.below hbel
      have hwr := (ho.lt w.heap.size rfl).2
      go_wp2_with fail
      refine (toInstrS_copy a' len' cap' _ wr hIr hrk).mono ?_
      rintro e w1 ⟨rfl, ⟨cs2, hcs2, hown2⟩, hb1⟩
      subst hcs2
      have hl' := hIr.1
      have hn2 : w1.ownsRow w.heap.size 102 3 (.slice (some ⟨wr.heap.size, 0, none⟩) len' len') (rows.getD k []).length (flat (rows.getD k [])) := by
        rw [hl']
        rcases hown2 with ⟨q1, q2⟩
        refine ⟨q1, ?_⟩
        rcases q2 with q2 | ⟨g, cap, cur, q3, q4, q5⟩
        · exact .inl q2
        · exact .inr ⟨g, cap, cur, q3, by omega, q5⟩
      have hPn : ∀ t, t < k → (cs.getD t undef).ownBlock ≠ some w.heap.size := fun t ht => by
        rcases owns_ne ho (hR.1 t ht) (by decide) with h | h
        · simp [Value.ownBlock] at h
        · exact fun e => h (by rw [e]; rfl)
      have R2 := hR.put hb1 (by have := ho.1; omega) (Nat.le_refl _) hn2 hwr hPn
      clear hown2 hIr hI hc' hn2 hPn
      have ho1 := owns_below ho hb1
      have hbel1 : Below w.heap.size w w1 := bel_trans hbel hb1
      clear ho hbel hb1 hR
      have hlen := ho1.1
      have f0 := ho1.frozenAt k
      obtain ⟨u0, hu0⟩ : ∃ u, w1.cell? ⟨w.heap.size, k, none⟩ = some u := ⟨_, by rw [ho1.cellAt _ (by omega)]; exact List.getElem?_eq_getElem (by omega)⟩
      have R := (ho1.stored k (.slice (some ⟨wr.heap.size, 0, none⟩) len' len')).1
      have hb3 : Below w.heap.size w (w1.setCell ⟨w.heap.size, k, none⟩ (.slice (some ⟨wr.heap.size, 0, none⟩) len' len')) := hbel1.setCell (Nat.le_refl _) _
      clear ho1 hbel1
      generalize cs.set k (.slice (some ⟨wr.heap.size, 0, none⟩) len' len') = cs' at R R2
      go_wp2
      go_roundw
      case rel => exact ⟨k + 1, cs', by omega, by go_num, R2, R, hb3⟩
      case measure => simp [intOf]; omega
    · obtain rfl : k = len := by omega
      clear hcase
      go_wp2
      go_ret
      exact ⟨rfl, ⟨cs, by rw [hl]; exact ho, by have := ho.1; omega, fun t ht => hR.1 t (by omega), fun t t' ht ht' => hR.2 t t' (by omega) (by omega)⟩, hbel⟩

set_option maxHeartbeats 1000000 in
set_option maxRecDepth 100000 in
/-- toProgram: a copy, in memory of its own. -/
theorem toProgram_own (a : Option Addr) (len cap : Nat) (rows : List (List I3)) (w : World) (h : Codes w a len cap rows) (hn : len ≤ 1048576) (hr : ∀ t, t < len → (rows.getD t []).length ≤ 1048576) :
    Calls Tryz.prog 20 #[.agg #[.slice a len cap]] w fun e w' => e = .returned (.agg #[.slice (some ⟨w.heap.size + 3, 0, none⟩) len len]) ∧
      OwnProg w' (w.heap.size + 3) (.slice (some ⟨w.heap.size + 3, 0, none⟩) len len) rows ∧ Below w.heap.size w w' := by
  go_enter Tryz.func20, Tryz.ntmps20
  go_wp2_with fail
  refine (toInstrSS_own _ _ _ rows _ (h.below (by go_grown)) hn hr).mono ?_
  rintro e w1 ⟨rfl, hC, hb1⟩
  have k1 : w1.cell? ⟨w.heap.size + 1, 0, none⟩ = some (.slice none 0 0) := by rw [hb1.cell (by simp)]; first | (simp [go_sem]; done) | (simp [World.cell?]; done)
  have k2 : w1.cell? ⟨w.heap.size + 1 + 1, 0, none⟩ = some (.slice none 0 0) := by rw [hb1.cell (by simp)]; first | (simp [go_sem]; done) | (simp [World.cell?]; done)
  have f1 : w1.frozen? ⟨w.heap.size + 1, 0, none⟩ = false := by rw [hb1.frozen (by simp)]; first | (simp [go_sem]; done) | (simp [World.frozen?]; done)
  have f2 : w1.frozen? ⟨w.heap.size + 1 + 1, 0, none⟩ = false := by rw [hb1.frozen (by simp)]; first | (simp [go_sem]; done) | (simp [World.frozen?]; done)
  have hbw : Below w.heap.size w w1 := bel_trans (by go_grown) hb1
  simp only [World.size_alloc] at hC
  rw [show w.heap.size + 1 + 1 + 1 = w.heap.size + 3 from rfl] at hC
  clear hb1 h
  simp only [World.size_alloc]
  have k3 : ((w1.setCell ⟨w.heap.size + 1 + 1, 0, none⟩ (.slice (some ⟨w.heap.size + 1 + 1 + 1, 0, none⟩) len len)).setCell ⟨w.heap.size + 1, 0, none⟩ (.slice (some ⟨w.heap.size + 1 + 1 + 1, 0, none⟩) len len)).cell? ⟨w.heap.size + 1, 0, none⟩ = some (.slice (some ⟨w.heap.size + 1 + 1 + 1, 0, none⟩) len len) :=
    World.cell?_setCell_same' _ _ _ (by rw [cell_setCell_off _ _ _ (by simp), k1]; rfl)
  go_wp2
  have R := (hC.low (p := ⟨w.heap.size + 1 + 1, 0, none⟩) (by simp) (.slice (some ⟨w.heap.size + 1 + 1 + 1, 0, none⟩) len len)).low (p := ⟨w.heap.size + 1, 0, none⟩) (by simp) (.slice (some ⟨w.heap.size + 1 + 1 + 1, 0, none⟩) len len)
  have hb3 := (hbw.setCell (p := ⟨w.heap.size + 1 + 1, 0, none⟩) (by simp; omega) (.slice (some ⟨w.heap.size + 1 + 1 + 1, 0, none⟩) len len)).setCell (p := ⟨w.heap.size + 1, 0, none⟩) (by simp) (.slice (some ⟨w.heap.size + 1 + 1 + 1, 0, none⟩) len len)
  clear hC hbw k1 k2 f1 f2
  generalize (w1.setCell ⟨w.heap.size + 1 + 1, 0, none⟩ (.slice (some ⟨w.heap.size + 1 + 1 + 1, 0, none⟩) len len)).setCell ⟨w.heap.size + 1, 0, none⟩ (.slice (some ⟨w.heap.size + 1 + 1 + 1, 0, none⟩) len len) = w2 at k3 R hb3
  refine bodyPost_ret (by simp [results, Tryz.results20, go_sem, k3]; try rfl) rfl ?_
  exact ⟨rfl, R, hb3⟩
end Go.Proofs.YtmhngodbnoonhaaGreatDoor


/-
  impl.emptyProgram, impl.programOfList: a program read back from its numbers.
-/
namespace Go.Proofs.YtmhngodbnoonhaaGreatDoor
open Go.RowKit

theorem owns_lower {w : World} {B B' e s n : Nat} {v : Value} {cs : List Value} (h : w.ownsRow B e s v n cs) (hB : B' ≤ B) : w.ownsRow B' e s v n cs := by
  refine ⟨h.1, ?_⟩
  rcases h.2 with h0 | ⟨g, cap, cur, hv, hg, r⟩
  · exact .inl h0
  · exact .inr ⟨g, cap, cur, hv, by omega, r⟩

end Go.Proofs.YtmhngodbnoonhaaGreatDoor


/-
  Slices of slices of integers.
-/
namespace Go.Proofs.YtmhngodbnoonhaaGreatDoor
open Go.RowKit

/-- s[lo:hi] of a slice of integers. -/
theorem slice_lh {w : World} {b off len cap lo hi : Nat} {xs : List Int} (h : Ints .i64 w (some ⟨b, off, none⟩) len cap xs) (h1 : lo ≤ hi) (h2 : hi ≤ len) :
    ∃ a, (∀ W, (Instr.slice 27 (.slice (some ⟨b, off, none⟩) len cap) (some (.int .i64 (lo : Int))) (some (.int .i64 (hi : Int))) none).run Tryz.prog W = .ok (.slice a (hi - lo) (cap - lo)) W) ∧ Ints .i64 w a (hi - lo) (cap - lo) ((xs.drop lo).take (hi - lo)) := by
  obtain ⟨hl, hlc, hcm, hcase⟩ := h
  have hhc : (hi : Int) ≤ (cap : Int) := by omega
  have hlh : (lo : Int) ≤ (hi : Int) := by omega
  by_cases hz : cap - lo = 0
  · refine ⟨some ⟨b, off, none⟩, fun W => ?_, by rw [List.length_take, List.length_drop]; omega, by omega, by omega, .inl (by omega)⟩
    go_simp
    omega
  · refine ⟨some ⟨b, off + lo, none⟩, fun W => ?_, by rw [List.length_take, List.length_drop]; omega, by omega, by omega, ?_⟩
    · go_simp
      omega
    · rcases hcase with h0 | ⟨b', off', he, hb, hc⟩
      · exact .inl (by omega)
      · cases he
        refine .inr ⟨b, off + lo, rfl, hb, fun t ht => ?_⟩
        have := hc (lo + t) (by omega)
        rw [show off + lo + t = off + (lo + t) by omega, this]
        simp [List.getD, ht]
/-- s[lo:] of a slice of integers. -/
theorem slice_l {w : World} {b off len cap lo : Nat} {xs : List Int} (h : Ints .i64 w (some ⟨b, off, none⟩) len cap xs) (h1 : lo ≤ len) :
    ∃ a, (∀ W, (Instr.slice 27 (.slice (some ⟨b, off, none⟩) len cap) (some (.int .i64 (lo : Int))) none none).run Tryz.prog W = .ok (.slice a (len - lo) (cap - lo)) W) ∧ Ints .i64 w a (len - lo) (cap - lo) (xs.drop lo) := by
  obtain ⟨hl, hlc, hcm, hcase⟩ := h
  have hlh : (lo : Int) ≤ (len : Int) := by omega
  by_cases hz : cap - lo = 0
  · refine ⟨some ⟨b, off, none⟩, fun W => ?_, by rw [List.length_drop]; omega, by omega, by omega, .inl (by omega)⟩
    go_simp
    omega
  · refine ⟨some ⟨b, off + lo, none⟩, fun W => ?_, by rw [List.length_drop]; omega, by omega, by omega, ?_⟩
    · go_simp
      omega
    · rcases hcase with h0 | ⟨b', off', he, hb, hc⟩
      · exact .inl (by omega)
      · cases he
        refine .inr ⟨b, off + lo, rfl, hb, fun t ht => ?_⟩
        have := hc (lo + t) (by omega)
        rw [show off + lo + t = off + (lo + t) by omega, this]
        simp [List.getD]
end Go.Proofs.YtmhngodbnoonhaaGreatDoor


/-
  impl.programOfList: a program read back from its numbers.
-/
namespace Go.Proofs.YtmhngodbnoonhaaGreatDoor
open Go.RowKit

/-- One row more, in a block that was not there before. -/
theorem RowsOwn.snoc {w w' : World} {B P k G len : Nat} {vs : List Value} {done : List (List I3)} {r : List I3} (h : RowsOwn w B k vs done) (hd : done.length = k) (hb : Below w.heap.size w w') (hk : k < vs.length) (hG : w.heap.size ≤ G)
    (hn : w'.ownsRow B 102 3 (.slice (some ⟨G, 0, none⟩) len len) r.length (flat r)) (hP : P < w.heap.size) (hPn : ∀ t, t < k → (vs.getD t undef).ownBlock ≠ some P) :
    RowsOwn (w'.setCell ⟨P, k, none⟩ (.slice (some ⟨G, 0, none⟩) len len)) B (k + 1) (vs.set k (.slice (some ⟨G, 0, none⟩) len len)) (done ++ [r]) := by
  have hold : ∀ t, t < k → (done ++ [r]).getD t [] = done.getD t [] := fun t ht => by simp [List.getD, List.getElem?_append_left (show t < done.length by omega)]
  have hnew : (done ++ [r]).getD k [] = r := by subst hd; simp [List.getD]
  have h' : RowsOwn w B k vs (done ++ [r]) := ⟨fun t ht => by rw [hold t ht]; exact h.1 t ht, h.2⟩
  exact h'.put hb hk hG (by rw [hnew]; exact hn) hP hPn

theorem wf_small {z : Int} (h : 0 ≤ z ∧ z ≤ 999999999) : (Lit.int .i64 z).wf = true := by
  simp [Lit.wf, IntKind.min, IntKind.max, IntKind.signed, IntKind.bits]
  omega
theorem triples_mem : ∀ (zs : List Int) (x : I3), x ∈ triples zs → x.1 ∈ zs ∧ x.2.1 ∈ zs ∧ x.2.2 ∈ zs
  | [], x, h => by simp [triples] at h
  | [_], x, h => by simp [triples] at h
  | [_, _], x, h => by simp [triples] at h
  | a :: b :: c :: r, x, h => by
    rw [triples] at h
    rcases List.mem_cons.1 h with rfl | h
    · simp
    · obtain ⟨h1, h2, h3⟩ := triples_mem r x h
      simp [h1, h2, h3]
def allFit (rows : List (List I3)) : Prop := ∀ r ∈ rows, ∀ x ∈ r, I3.fits x
def small (zs : List Int) : Prop := ∀ z ∈ zs, 0 ≤ z ∧ z ≤ 999999999
theorem allFit_snoc {rows : List (List I3)} {zs : List Int} (h : allFit rows) (hz : small zs) : allFit (rows ++ [triples zs]) := by
  intro r hr x hx
  rcases List.mem_append.1 hr with hr | hr
  · exact h r hr x hx
  · simp at hr
    subst hr
    obtain ⟨h1, h2, h3⟩ := triples_mem zs x hx
    exact ⟨wf_small (hz _ h1), wf_small (hz _ h2), wf_small (hz _ h3)⟩

theorem OwnProg.lower {w : World} {B B' : Nat} {v : Value} {rows : List (List I3)} (h : OwnProg w B v rows) (hB : B' ≤ B) : OwnProg w B' v rows := by
  obtain ⟨vs, h1, h2, h3, h4⟩ := h
  exact ⟨vs, owns_lower h1 hB, h2, fun t ht => owns_lower (h3 t ht) hB, h4⟩

/-- What programOfList answers. -/
def ProgRead (zs : List Int) (base : Nat) (e : Ending) (w' : World) : Prop :=
  (∃ rows v, parse 3 zs = some rows ∧ progOk rows = true ∧ e = .returned (.tuple #[.agg #[v], .bool true]) ∧ allFit rows ∧ OwnProg w' base v rows) ∨
  ((∀ rows, parse 3 zs = some rows → progOk rows = false) ∧ ∃ a l c, e = .returned (.tuple #[.agg #[.slice a l c], .bool false]))

end Go.Proofs.YtmhngodbnoonhaaGreatDoor


/-
  Slices of strings in memory, and the laws' helpers that compare them (eqStringS).
-/
namespace Go.Proofs.YtmhngodbnoonhaaGreatDoor
open Go.RowKit

/-- The elements of a slice of strings in memory are the texts ts. -/
def Strs (w : World) (a : Option Addr) (len cap : Nat) (ts : List ByteArray) : Prop :=
  ts.length = len ∧ len ≤ cap ∧ cap ≤ maxLen ∧
  (len = 0 ∨ ∃ b off, a = some ⟨b, off, none⟩ ∧ b < w.heap.size ∧ ∀ t, t < len → w.cell? ⟨b, off + t, none⟩ = some (.string (ts.getD t ByteArray.empty)))

theorem Strs.below {w w' : World} {a : Option Addr} {len cap : Nat} {ts : List ByteArray} (h : Strs w a len cap ts) (hb : Below w.heap.size w w') : Strs w' a len cap ts := by
  obtain ⟨h1, h2, h3, h4⟩ := h
  refine ⟨h1, h2, h3, ?_⟩
  rcases h4 with h4 | ⟨b, off, ha, hlt, hc⟩
  · exact .inl h4
  · exact .inr ⟨b, off, ha, by have := hb.size; omega, fun t ht => by rw [hb.cell (p := ⟨b, off + t, none⟩) hlt]; exact hc t ht⟩

theorem Strs.below_base {w w' : World} {a : Option Addr} {len cap base : Nat} {ts : List ByteArray} (h : Strs w a len cap ts) (hlo : ∀ x, a = some x → len ≠ 0 → x.block < base) (hb : Below base w w') : Strs w' a len cap ts := by
  obtain ⟨h1, h2, h3, h4⟩ := h
  refine ⟨h1, h2, h3, ?_⟩
  rcases h4 with h4 | ⟨b, off, ha, hlt, hc⟩
  · exact .inl h4
  · by_cases h0 : len = 0
    · exact .inl h0
    have hbl : b < base := hlo _ ha h0
    exact .inr ⟨b, off, ha, by have := hb.size; omega, fun t ht => by rw [hb.cell (p := ⟨b, off + t, none⟩) hbl]; exact hc t ht⟩

/-- A slice of strings in memory of its own, from block 'base' on. -/
def OwnT (base : Nat) (w : World) (a : Option Addr) (n cap : Nat) (ts : List ByteArray) : Prop :=
  ts.length = n ∧ n ≤ cap ∧ cap ≤ maxLen ∧ (n = 0 ∨ ∃ g, a = some ⟨g, 0, none⟩ ∧ w.ownsRow base 9 1 (.slice (some ⟨g, 0, none⟩) n cap) n (ts.map Value.string))

theorem OwnT.strs {base : Nat} {w : World} {a : Option Addr} {n cap : Nat} {ts : List ByteArray} (h : OwnT base w a n cap ts) : Strs w a n cap ts := by
  obtain ⟨h1, h2, h3, h4⟩ := h
  refine ⟨h1, h2, h3, ?_⟩
  rcases h4 with h4 | ⟨g, ha, h4⟩
  · exact .inl h4
  · refine .inr ⟨g, 0, ha, (h4.lt g rfl).2, fun t ht => ?_⟩
    have := h4.cellAt t (by simp; omega)
    rw [Nat.zero_add, this]
    simp [List.getElem?_eq_getElem (show t < ts.length by omega)]

theorem OwnT.of_owns {base : Nat} {w : World} {v : Value} {n : Nat} {ts : List ByteArray} (h : w.ownsRow base 9 1 v n (ts.map Value.string)) : ∃ a cap, v = .slice a n cap ∧ OwnT base w a n cap ts := by
  have hl : ts.length = n := by simpa using h.1
  rcases h.2 with ⟨h0, hn⟩ | ⟨g', cap', cur, hv, _, _, hn, hcap, _, _⟩
  · subst hn
    exact ⟨none, 0, h0, hl, Nat.le_refl _, by unfold maxLen; omega, .inl rfl⟩
  · subst hv
    exact ⟨some ⟨g', 0, none⟩, cap', rfl, hl, hn, hcap, .inr ⟨g', rfl, h⟩⟩

theorem OwnT.kept {base : Nat} {w w' : World} {a : Option Addr} {n cap : Nat} {ts : List ByteArray} (h : OwnT base w a n cap ts) (hb : Below w.heap.size w w') : OwnT base w' a n cap ts := by
  obtain ⟨h1, h2, h3, h4⟩ := h
  refine ⟨h1, h2, h3, ?_⟩
  rcases h4 with h4 | ⟨g, ha, h4⟩
  · exact .inl h4
  · refine .inr ⟨g, ha, h4.1, ?_⟩
    have hlt := (h4.lt g rfl).2
    rcases h4.2 with h0 | ⟨g', cap', cur, hv, hg, hh, hr⟩
    · exact .inl h0
    · cases hv
      exact .inr ⟨g, cap, cur, rfl, hg, by rw [hb.block _ hlt]; exact hh, hr⟩

theorem OwnT.block {base : Nat} {w : World} {a : Option Addr} {n cap : Nat} {ts : List ByteArray} (h : OwnT base w a n cap ts) : ∀ x, a = some x → n ≠ 0 → x.block < w.heap.size := by
  intro x hx hn
  rcases h.2.2.2 with h0 | ⟨g, e, ho⟩
  · exact absurd h0 hn
  · rw [e] at hx
    cases hx
    exact (ho.lt g rfl).2

end Go.Proofs.YtmhngodbnoonhaaGreatDoor


/-
  ReadProgram, what both sides share: rows that grow, the outcome.
-/
namespace Go.Proofs.YtmhngodbnoonhaaGreatDoor
open Go.RowKit

theorem ne_block {w : World} {B B' e e' s s' n n' c' X : Nat} {v : Value} {xs xs' : List Value} (h : w.ownsRow B e s v n xs) (hX : w.ownsRow B' e' s' (.slice (some ⟨X, 0, none⟩) n' c') n' xs') (he : e ≠ e') : v.ownBlock ≠ some X := by
  rcases owns_ne h hX he with h0 | h0
  · rw [h0]; simp
  · exact h0
theorem box_n (w : World) (v : Value) (t : TypeId) (B : Nat) (hB : B ≤ w.heap.size) : (w.alloc (.cells #[v] t)).ownsRow B t 1 (.slice (some ⟨w.heap.size, 0, none⟩) 1 1) 1 [v] := World.ownsRow_lit w #[v] 1 hB (by unfold maxLen; omega) rfl
theorem rows3_new (w : World) (x y z : Value) (t B : Nat) (hB : B ≤ w.heap.size) : (w.alloc (.cells #[x, y, z] t)).ownsRow B t 1 (.slice (some ⟨w.heap.size, 0, none⟩) 3 3) 3 [x, y, z] := World.ownsRow_lit w #[x, y, z] 3 hB (by unfold maxLen; omega) rfl
theorem three_dr (w : World) (x y z : Value) (t : TypeId) : ∀ j u, [x, y, z][j]? = some u → (w.alloc (.cells #[x, y, z] t)).drew.cell? ((⟨w.heap.size, 0, none⟩ : Addr).add j) = some u := cell_three_new w x y z t
theorem flat_snoc (xs : List I3) (x : I3) : flat (xs ++ [x]) = flat xs ++ [.int .i64 x.1, .int .i64 x.2.1, .int .i64 x.2.2] := by simp [flat, I3.cells]
theorem wordsT_sz {s : ByteArray} : ∀ t ∈ wordsT s, t.size ≤ s.size := by
  intro t ht
  rw [wordsT_is] at ht
  obtain ⟨x, _, rfl⟩ := List.mem_map.1 ht
  simp
  omega
theorem allFit_three : allFit [[], [], []] := by
  intro r hr x hx
  simp at hr
  subst hr
  cases hx
theorem allFit_set {rows : List (List I3)} {k : Nat} {x : I3} (h : allFit rows) (hx : I3.fits x) : allFit (rows.set k (rows.getD k [] ++ [x])) := by
  intro r hr y hy
  rcases List.mem_or_eq_of_mem_set hr with hr | rfl
  · exact h r hr y hy
  · rcases List.mem_append.1 hy with hy | hy
    · by_cases hk : k < rows.length
      · exact h _ (by simp [List.getD, hk] : rows.getD k [] ∈ rows) y hy
      · simp [List.getD, List.getElem?_eq_none (Nat.le_of_not_lt hk)] at hy
    · simp at hy
      subst hy
      exact hx
theorem RowsOwn.nils (w : World) (B : Nat) : RowsOwn w B 3 [.slice none 0 0, .slice none 0 0, .slice none 0 0] [[], [], []] := by
  refine ⟨fun t ht => ?_, fun t t' ht _ _ => ?_⟩
  · match t, ht with
    | 0, _ => exact World.ownsRow_nil _ _ _ _
    | 1, _ => exact World.ownsRow_nil _ _ _ _
    | 2, _ => exact World.ownsRow_nil _ _ _ _
  · match t, ht with
    | 0, _ => exact .inl rfl
    | 1, _ => exact .inl rfl
    | 2, _ => exact .inl rfl
theorem RowsOwn.three (w : World) (B : Nat) (hB : B ≤ w.heap.size) : RowsOwn (((w.alloc (.cells #[] 102)).alloc (.cells #[] 102)).alloc (.cells #[] 102)) B 3 [.slice (some ⟨w.heap.size, 0, none⟩) 0 0, .slice (some ⟨w.heap.size + 1, 0, none⟩) 0 0, .slice (some ⟨w.heap.size + 2, 0, none⟩) 0 0] [[], [], []] := by
  have e0 : ∀ (W : World), B ≤ W.heap.size → (W.alloc (.cells #[] 102)).ownsRow B 102 3 (.slice (some ⟨W.heap.size, 0, none⟩) 0 0) 0 [] := fun W h => World.ownsRow_lit W #[] 0 h (by unfold maxLen; omega) rfl
  have a0 := ((e0 w hB).alloc (.cells #[] 102)).alloc (.cells #[] 102)
  have a1 := (e0 (w.alloc (.cells #[] 102)) (by simp; omega)).alloc (.cells #[] 102)
  have a2 := e0 ((w.alloc (.cells #[] 102)).alloc (.cells #[] 102)) (by simp; omega)
  simp only [World.size_alloc] at a1 a2
  refine ⟨fun t ht => ?_, fun t t' ht ht' hne => .inr ?_⟩
  · match t, ht with
    | 0, _ => exact a0
    | 1, _ => exact a1
    | 2, _ => exact a2
  · match t, t', ht, ht', hne with
    | 0, 0, _, _, h => exact absurd rfl h
    | 0, 1, _, _, _ => simp [Value.ownBlock, List.getD]
    | 0, 2, _, _, _ => simp [Value.ownBlock, List.getD]
    | 1, 0, _, _, _ => simp [Value.ownBlock, List.getD]
    | 1, 1, _, _, h => exact absurd rfl h
    | 1, 2, _, _, _ => simp [Value.ownBlock, List.getD]
    | 2, 0, _, _, _ => simp [Value.ownBlock, List.getD]
    | 2, 1, _, _, _ => simp [Value.ownBlock, List.getD]
    | 2, 2, _, _, h => exact absurd rfl h
/-- One row has grown. -/
theorem RowsOwn.grow {w w' : World} {B k : Nat} {vs : List Value} {rows : List (List I3)} {x : I3} {o : Obj} {v' : Value} (h : RowsOwn w B 3 vs rows) (h3 : rows.length = 3) (hv : vs.length = 3) (hk : k < 3)
    (hg : (w.alloc o).drew.grownBy w' (vs.getD k undef).ownBlock) (hn : w'.ownsRow B 102 3 v' ((rows.getD k []).length + 1) (flat (rows.getD k [] ++ [x])))
    (hat : v'.ownBlock = (vs.getD k undef).ownBlock ∨ v'.ownBlock = some (w.alloc o).drew.heap.size) : RowsOwn w' B 3 (vs.set k v') (rows.set k (rows.getD k [] ++ [x])) := by
  have hold : ∀ t, t ≠ k → (vs.set k v').getD t undef = vs.getD t undef := fun t ht => by simp [List.getD, List.getElem?_set_ne (Ne.symm ht)]
  have hnew : (vs.set k v').getD k undef = v' := by simp [List.getD, show k < vs.length by omega]
  have hsz : (w.alloc o).drew.heap.size = w.heap.size + 1 := by simp
  rw [hsz] at hat
  refine ⟨fun t ht => ?_, fun t t' ht ht' hne => ?_⟩
  · by_cases e : t = k
    · subst e
      rw [hnew, getD_set_same _ (by omega)]
      simpa using hn
    · rw [hold t e, getD_set_other _ e]
      exact ((h.1 t ht).alloc o).drew.kept hg (h.2 t k ht hk e)
  · by_cases e : t = k
    · subst e
      rw [hnew, hold t' (Ne.symm hne)]
      rcases hat with hat | hat
      · rw [hat]; exact h.2 t t' ht ht' hne
      · refine .inr fun h' => ?_
        rw [hat] at h'
        have := ((h.1 t' ht').lt _ h'.symm).2
        omega
    · rw [hold t e]
      by_cases e' : t' = k
      · subst e'
        rw [hnew]
        rcases hat with hat | hat
        · rw [hat]; exact h.2 t t' ht ht' hne
        · rcases hb : (vs.getD t undef).ownBlock with _ | y
          · exact .inl rfl
          · refine .inr fun h' => ?_
            rw [hat] at h'
            cases h'
            have := ((h.1 t ht).lt _ hb).2
            omega
      · rw [hold t' e']
        exact h.2 t t' ht ht' hne

theorem step_append_run {P : Program} {ops : Array Oper} {o : Oper} {a : Act} {w : World} {K : Act → World → Prop} {Q : Exit → Act → World → Prop} {E : Prop}
    (hg : o.guard = none) (s x : Operand) (t : TypeId) (hop : o.op = Op.call { callee := Callee.builtin Builtin.append, args := #[s, x], argTypes := #[t, t] })
    (v vx : Value) (hs : a.eval s = v) (hx : a.eval x = vx) {v' : Value} {w' : World} (hrun : (Builtin.append_ #[t, t] o.type #[v, vx]).run P w = .ok v' w') (hK : K (a.put o.dst v') w') :
    if Region.wanted o (yielded ops a.tmps) = true then Oper.wp P o a w K Q else E := by
  have hw : Region.wanted o (yielded ops a.tmps) = true := by simp [Region.wanted, hg]
  rw [if_pos hw]
  subst hs hx
  unfold Oper.wp
  simp [execOp, hop, resolve, invoke, builtin, hrun, Result.andThen]
  exact hK

def RPOut (ts : List ByteArray) (base : Nat) (e : Ending) (w' : World) : Prop :=
  ∃ (v : Value) (rows : List (List I3)) (c : Int), IsRP ts rows c ∧ e = .returned (.tuple #[.agg #[v], .int .i64 c]) ∧ allFit rows ∧ OwnProg w' base v rows
end Go.Proofs.YtmhngodbnoonhaaGreatDoor
