/-
  Joined: Prog5, StrS, VmDraw, BugPl.
-/
import Derived.Maps.AppendAt
import Derived.Laws.RangeString
import Derived.Laws.RangeAny
import Derived.Laws.Bits
import Derived.Lib.FieldsP
import Derived.Test.YtdojjmkpelgcaaaGreatDoorL17

namespace Go.Proofs.YtdojjmkpelgcaaaGreatDoor
set_option maxRecDepth 100000
open Go.RowKit

def RowsOwn (w : World) (B k : Nat) (vs : List Value) (rows : List (List I3)) : Prop :=
 (∀ t, t < k → w.ownsRow B 158 3 (vs.getD t undef) (rows.getD t []).length (flat (rows.getD t []))) ∧
 ∀ t t', t < k → t' < k → t ≠ t' → (vs.getD t undef).ownBlock = none ∨ (vs.getD t undef).ownBlock ≠ (vs.getD t' undef).ownBlock

theorem RowsOwn.below {w w' : World} {B k : Nat} {vs : List Value} {rows : List (List I3)} (h : RowsOwn w B k vs rows) (hb : Below w.heap.size w w') : RowsOwn w' B k vs rows := ⟨fun t ht => owns_below (h.1 t ht) hb, h.2⟩

theorem RowsOwn.put {w w' : World} {B P k G len : Nat} {vs : List Value} {rows : List (List I3)} (h : RowsOwn w B k vs rows) (hb : Below w.heap.size w w') (hk : k < vs.length) (hG : w.heap.size ≤ G)
  (hn : w'.ownsRow B 158 3 (.slice (some ⟨G, 0, none⟩) len len) (rows.getD k []).length (flat (rows.getD k []))) (hP : P < w.heap.size) (hPn : ∀ t, t < k → (vs.getD t undef).ownBlock ≠ some P) :
  RowsOwn (w'.setCell ⟨P, k, none⟩ (.slice (some ⟨G, 0, none⟩) len len)) B (k + 1) (vs.set k (.slice (some ⟨G, 0, none⟩) len len)) rows := by
 have hold : ∀ t, t ≠ k → (vs.set k (.slice (some ⟨G, 0, none⟩) len len)).getD t undef = vs.getD t undef := fun t ht => by simp [List.getD, List.getElem?_set_ne (Ne.symm ht)]
 have hnew : (vs.set k (.slice (some ⟨G, 0, none⟩) len len)).getD k undef = .slice (some ⟨G, 0, none⟩) len len := by simp [List.getD, hk]
 refine ⟨fun t ht => ?_, fun t t' ht ht' hne => ?_⟩
 ·by_cases e : t = k
  ·subst e
   rw [hnew]
   exact ownsRow_setCell_other hn (by simp [Value.ownBlock]; omega) _
  ·rw [hold t e]
   exact ownsRow_setCell_other (owns_below (h.1 t (by omega)) hb) (hPn t (by omega)) _
 ·by_cases e : t = k
  ·subst e
   rw [hnew, hold t' (Ne.symm hne)]
   refine .inr ?_
   simp only [Value.ownBlock, ne_eq]
   intro h'
   have := ((h.1 t' (by omega)).lt G h'.symm).2
   omega
  ·rw [hold t e]
   by_cases e' : t' = k
   ·subst e'
    rw [hnew]
    rcases hbk : (vs.getD t undef).ownBlock with _ | x
    ·exact .inl rfl
    ·refine .inr ?_
     simp only [Value.ownBlock, ne_eq, Option.some.injEq]
     have := ((h.1 t (by omega)).lt x hbk).2
     omega
   ·rw [hold t' e']
    exact h.2 t t' (by omega) (by omega) hne

theorem OwnProg.low {w : World} {B : Nat} {v : Value} {rows : List (List I3)} (h : OwnProg w B v rows) {p : Addr} (hp : p.block < B) (u : Value) : OwnProg (w.setCell p u) B v rows := by
 obtain ⟨vs, h1, h2, h3, h4⟩ := h
 exact ⟨vs, ownsRow_setCell_below h1 hp _, h2, fun t ht => ownsRow_setCell_below (h3 t ht) hp _, h4⟩

set_option maxHeartbeats 1000000 in
theorem toInstrSS_own (a : Option Addr) (len cap : Nat) (rows : List (List I3)) (w : World) (h : Codes w a len cap rows) (hn : len ≤ 1048576) (hr : ∀ t, t < len → (rows.getD t []).length ≤ 1048576) :
  Calls Tryz.prog 96 #[.slice a len cap] w fun e w' => e = .returned (.slice (some ⟨w.heap.size, 0, none⟩) len len) ∧
   OwnProg w' w.heap.size (.slice (some ⟨w.heap.size, 0, none⟩) len len) rows ∧ Below w.heap.size w w' := by
 obtain ⟨i0, hi, hz0, hz1, hz2⟩ := info_parts info_instrs
 obtain ⟨hl, hlc, hcm, hcase⟩ := h
 unfold maxLen at hcm
 go_enter Tryz.func96, Tryz.ntmps96
 go_wp2_with (at_make; refine wpList_make_full _ rfl _ _ 23 rfl w.heap.size 87 i0 (.slice none 0 0) 1 Tryz.underlying23 hi hz0 hz1 _ _ _ _ len rfl rfl (by omega) (by omega) ?b2 ?b3 (Nat.le_refl _) ?_)
 case b2 => rw [hz2]; omega
 case b3 => unfold maxLen; omega
 intro w0 hown0 hgrow0
 have hb0 : Below w.heap.size w w0 := (Below.refl _ _).grown hgrow0 (Nat.le_refl _) (fun k h => by cases h)
 obtain ⟨cs0, hcs0⟩ : ∃ cs0, cs0 = (madeCells #[Value.slice none 0 0] len).toList := ⟨_, rfl⟩
 rw [← hcs0] at hown0
 clear hgrow0 hcs0
 go_wp2
 go_loopw [4] (fun si wr => ∃ (k : Nat) (cs : List Value), k ≤ len ∧ si = .int .i64 k ∧ RowsOwn wr w.heap.size k cs rows ∧ wr.ownsRow w.heap.size 87 1 (.slice (some ⟨w.heap.size, 0, none⟩) len len) len cs ∧ Below w.heap.size w wr) (fun si _ => len - (intOf si).toNat)
 case atStart => exact ⟨0, cs0, by omega, rfl, ⟨fun t ht => by omega, fun t _ ht => by omega⟩, hown0, hb0⟩
 case round =>
  obtain ⟨k, cs, hk, rfl, hR, ho, hbel⟩ := hrel
  by_cases hlt : k < len
  ·rcases hcase with h0 | ⟨b, off, rfl, hblt, hcell⟩
   ·omega
   have hlt2 : (k : Int) < (len : Int) := by omega
   obtain ⟨a', len', cap', hc, hI⟩ := hcell k hlt
   have hrk := hr k hlt
   rw [hI.1] at hrk
   have hc' : wr.cell? ⟨b, off + k, none⟩ = some (.slice a' len' cap') := by rw [hbel.cell (p := ⟨b, _, none⟩) hblt]; exact hc
   clear hcell hc
   have hIr : Instrs wr a' len' cap' (rows.getD k []) := hI.below hbel
   have hwr := (ho.lt w.heap.size rfl).2
   go_wp2_with fail
   refine (toInstrS_copy a' len' cap' _ wr hIr hrk).mono ?_
   rintro e w1 ⟨rfl, ⟨cs2, hcs2, hown2⟩, hb1⟩
   subst hcs2
   have hl' := hIr.1
   have hn2 : w1.ownsRow w.heap.size 158 3 (.slice (some ⟨wr.heap.size, 0, none⟩) len' len') (rows.getD k []).length (flat (rows.getD k [])) := by
    rw [hl']
    rcases hown2 with ⟨q1, q2⟩
    refine ⟨q1, ?_⟩
    rcases q2 with q2 | ⟨g, cap, cur, q3, q4, q5⟩
    ·exact .inl q2
    ·exact .inr ⟨g, cap, cur, q3, by omega, q5⟩
   have hPn : ∀ t, t < k → (cs.getD t undef).ownBlock ≠ some w.heap.size := fun t ht => by
    rcases owns_ne ho (hR.1 t ht) (by decide) with h | h
    ·simp [Value.ownBlock] at h
    ·exact fun e => h (by rw [e]; rfl)
   have R2 := hR.put hb1 (by have := ho.1; omega) (Nat.le_refl _) hn2 hwr hPn
   clear hown2 hIr hI hc' hn2 hPn
   have ho1 := owns_below ho hb1
   have hbel1 : Below w.heap.size w w1 := bel_trans hbel hb1
   clear ho hbel hb1 hR
   have hlen := ho1.1
   have f0 := ho1.frozenAt k
   obtain ⟨u0, hu0⟩ : ∃ u, w1.cell? ⟨w.heap.size, k, none⟩ = some u := ⟨_, by rw [ho1.cellAt _ (by omega)]; exact List.getElem?_eq_getElem (by omega)⟩
   have R := (ho1.stored k (.slice (some ⟨wr.heap.size, 0, none⟩) len' len')).1
   have hb3 : Below w.heap.size w (w1.setCell ⟨w.heap.size, k, none⟩ (.slice (some ⟨wr.heap.size, 0, none⟩) len' len')) := hbel1.setCell (Nat.le_refl _) _
   clear ho1 hbel1
   generalize cs.set k (.slice (some ⟨wr.heap.size, 0, none⟩) len' len') = cs' at R R2
   go_wp2
   go_roundw
   case rel => exact ⟨k + 1, cs', by omega, by go_num, R2, R, hb3⟩
   case measure => simp [intOf]; omega
  ·obtain rfl : k = len := by omega
   clear hcase
   go_wp2
   go_ret
   exact ⟨rfl, ⟨cs, by rw [hl]; exact ho, by have := ho.1; omega, fun t ht => hR.1 t (by omega), fun t t' ht ht' => hR.2 t t' (by omega) (by omega)⟩, hbel⟩

set_option maxHeartbeats 1000000 in
theorem toProgram_own (a : Option Addr) (len cap : Nat) (rows : List (List I3)) (w : World) (h : Codes w a len cap rows) (hn : len ≤ 1048576) (hr : ∀ t, t < len → (rows.getD t []).length ≤ 1048576) :
  Calls Tryz.prog 42 #[.agg #[.slice a len cap]] w fun e w' => e = .returned (.agg #[.slice (some ⟨w.heap.size + 3, 0, none⟩) len len]) ∧
   OwnProg w' (w.heap.size + 3) (.slice (some ⟨w.heap.size + 3, 0, none⟩) len len) rows ∧ Below w.heap.size w w' := by
 go_enter Tryz.func42, Tryz.ntmps42
 go_wp2_with fail
 refine (toInstrSS_own _ _ _ rows _ (h.below (by go_grown)) hn hr).mono ?_
 rintro e w1 ⟨rfl, hC, hb1⟩
 have k1 : w1.cell? ⟨w.heap.size + 1, 0, none⟩ = some (.slice none 0 0) := by rw [hb1.cell (by simp)]; first | (simp [go_sem]; done) | (simp [World.cell?]; done)
 have k2 : w1.cell? ⟨w.heap.size + 1 + 1, 0, none⟩ = some (.slice none 0 0) := by rw [hb1.cell (by simp)]; first | (simp [go_sem]; done) | (simp [World.cell?]; done)
 have f1 : w1.frozen? ⟨w.heap.size + 1, 0, none⟩ = false := by rw [hb1.frozen (by simp)]; first | (simp [go_sem]; done) | (simp [World.frozen?]; done)
 have f2 : w1.frozen? ⟨w.heap.size + 1 + 1, 0, none⟩ = false := by rw [hb1.frozen (by simp)]; first | (simp [go_sem]; done) | (simp [World.frozen?]; done)
 have hbw : Below w.heap.size w w1 := bel_trans (by go_grown) hb1
 simp only [World.size_alloc] at hC
 rw [show w.heap.size + 1 + 1 + 1 = w.heap.size + 3 from rfl] at hC
 clear hb1 h
 simp only [World.size_alloc]
 have k3 : ((w1.setCell ⟨w.heap.size + 1 + 1, 0, none⟩ (.slice (some ⟨w.heap.size + 1 + 1 + 1, 0, none⟩) len len)).setCell ⟨w.heap.size + 1, 0, none⟩ (.slice (some ⟨w.heap.size + 1 + 1 + 1, 0, none⟩) len len)).cell? ⟨w.heap.size + 1, 0, none⟩ = some (.slice (some ⟨w.heap.size + 1 + 1 + 1, 0, none⟩) len len) :=
  World.cell?_setCell_same' _ _ _ (by rw [cell_setCell_off _ _ _ (by simp), k1]; rfl)
 go_wp2
 have R := (hC.low (p := ⟨w.heap.size + 1 + 1, 0, none⟩) (by simp) (.slice (some ⟨w.heap.size + 1 + 1 + 1, 0, none⟩) len len)).low (p := ⟨w.heap.size + 1, 0, none⟩) (by simp) (.slice (some ⟨w.heap.size + 1 + 1 + 1, 0, none⟩) len len)
 have hb3 := (hbw.setCell (p := ⟨w.heap.size + 1 + 1, 0, none⟩) (by simp; omega) (.slice (some ⟨w.heap.size + 1 + 1 + 1, 0, none⟩) len len)).setCell (p := ⟨w.heap.size + 1, 0, none⟩) (by simp) (.slice (some ⟨w.heap.size + 1 + 1 + 1, 0, none⟩) len len)
 clear hC hbw k1 k2 f1 f2
 generalize (w1.setCell ⟨w.heap.size + 1 + 1, 0, none⟩ (.slice (some ⟨w.heap.size + 1 + 1 + 1, 0, none⟩) len len)).setCell ⟨w.heap.size + 1, 0, none⟩ (.slice (some ⟨w.heap.size + 1 + 1 + 1, 0, none⟩) len len) = w2 at k3 R hb3
 refine bodyPost_ret (by simp [results, Tryz.results42, go_sem, k3]; try rfl) rfl ?_
 exact ⟨rfl, R, hb3⟩


def Strs (w : World) (a : Option Addr) (len cap : Nat) (ts : List ByteArray) : Prop :=
 ts.length = len ∧ len ≤ cap ∧ cap ≤ maxLen ∧
 (len = 0 ∨ ∃ b off, a = some ⟨b, off, none⟩ ∧ b < w.heap.size ∧ ∀ t, t < len → w.cell? ⟨b, off + t, none⟩ = some (.string (ts.getD t ByteArray.empty)))

theorem Strs.below {w w' : World} {a : Option Addr} {len cap : Nat} {ts : List ByteArray} (h : Strs w a len cap ts) (hb : Below w.heap.size w w') : Strs w' a len cap ts := by
 obtain ⟨h1, h2, h3, h4⟩ := h
 refine ⟨h1, h2, h3, ?_⟩
 rcases h4 with h4 | ⟨b, off, ha, hlt, hc⟩
 ·exact .inl h4
 ·exact .inr ⟨b, off, ha, by have := hb.size; omega, fun t ht => by rw [hb.cell (p := ⟨b, off + t, none⟩) hlt]; exact hc t ht⟩

def OwnT (base : Nat) (w : World) (a : Option Addr) (n cap : Nat) (ts : List ByteArray) : Prop :=
 ts.length = n ∧ n ≤ cap ∧ cap ≤ maxLen ∧ (n = 0 ∨ ∃ g, a = some ⟨g, 0, none⟩ ∧ w.ownsRow base 9 1 (.slice (some ⟨g, 0, none⟩) n cap) n (ts.map Value.string))

theorem OwnT.kept {base : Nat} {w w' : World} {a : Option Addr} {n cap : Nat} {ts : List ByteArray} (h : OwnT base w a n cap ts) (hb : Below w.heap.size w w') : OwnT base w' a n cap ts := by
 obtain ⟨h1, h2, h3, h4⟩ := h
 refine ⟨h1, h2, h3, ?_⟩
 rcases h4 with h4 | ⟨g, ha, h4⟩
 ·exact .inl h4
 ·refine .inr ⟨g, ha, h4.1, ?_⟩
  have hlt := (h4.lt g rfl).2
  rcases h4.2 with h0 | ⟨g', cap', cur, hv, hg, hh, hr⟩
  ·exact .inl h0
  ·cases hv
   exact .inr ⟨g, cap, cur, rfl, hg, by rw [hb.block _ hlt]; exact hh, hr⟩

theorem OwnT.block {base : Nat} {w : World} {a : Option Addr} {n cap : Nat} {ts : List ByteArray} (h : OwnT base w a n cap ts) : ∀ x, a = some x → n ≠ 0 → x.block < w.heap.size := by
 intro x hx hn
 rcases h.2.2.2 with h0 | ⟨g, e, ho⟩
 ·exact absurd h0 hn
 ·rw [e] at hx
  cases hx
  exact (ho.lt g rfl).2

set_option linter.unusedVariables false
set_option linter.unusedSimpArgs false

theorem OwnV.lowerB {B B' : Nat} {w : World} {s : S4} {m : V4} (h : OwnV w B s m) (hB : B' ≤ B) : OwnV w B' s m := ⟨⟨own_lower h.1.1 hB, own_lower h.1.2.1 hB, own_lower h.1.2.2.1 hB, own_lower h.1.2.2.2 hB⟩, h.2⟩
theorem zero_shape : shapeOk zeroV = true := by decide
theorem step_store_blkD {P : Program} {ops : Array Oper} {o : Oper} {a : Act} {w : World} {K : Act → World → Prop} {Q : Exit → Act → World → Prop} {E : Prop} (hgd : o.guard = none) (ty : TypeId) (x y : Operand) (ho : o.op = .store ty x y) (g : Nat) (vs : List Value) (hx : a.eval x = .pointer (some ⟨g, 0, none⟩)) (hy : a.eval y = .agg vs.toArray) {t : Nat} {cs : List Value} (hB : Blk w g t cs)
  (hi : (P.info? ty).map (·.size) = some vs.length) (hl : cs.length = vs.length) (h1 : vs.all (·.oneCell') = true)
  (h : ∀ w', Hid (Blk w' g t vs) → w.grownBy w' (some g) → K (a.put o.dst undef) w') : if Region.wanted o (yielded ops a.tmps) = true then Oper.wp P o a w K Q else E := by
 have hw : Region.wanted o (yielded ops a.tmps) = true := by simp [Region.wanted, hgd]
 rw [if_pos hw]
 exact wp_store_row ty x y ho g vs.toArray hx hy t cs.toArray hB (by simpa using hi) (by simpa using hl) (by simpa using h1) (h _ (blk_setRow vs hB) (grown_setRow _ _ _))


def ltB (a b : I3) : Bool := decide (a.1 < b.1 ∨ (a.1 = b.1 ∧ (a.2.1 < b.2.1 ∨ (a.2.1 = b.2.1 ∧ a.2.2 < b.2.2))))
theorem ltB_iff {a b : I3} : ltB a b = true ↔ a.1 < b.1 ∨ (a.1 = b.1 ∧ (a.2.1 < b.2.1 ∨ (a.2.1 = b.2.1 ∧ a.2.2 < b.2.2))) := by simp [ltB]
theorem ltB_irrefl (a : I3) : ltB a a = false := by
 cases h : ltB a a
 ·rfl
 ·rw [ltB_iff] at h; omega
theorem ltB_trans {a b c : I3} (h : ltB a b = true) (k : ltB b c = true) : ltB a c = true := by
 rw [ltB_iff] at *; omega
theorem ltB_asymm {a b : I3} (h : ltB a b = true) : ltB b a = false := by
 cases k : ltB b a
 ·rfl
 ·rw [ltB_iff] at h k; omega
theorem ltB_total {a b : I3} (h : ltB a b = false) (k : ltB b a = false) : a = b := by
 obtain ⟨a0, a1, a2⟩ := a
 obtain ⟨b0, b1, b2⟩ := b
 have h' : ¬ ltB (a0, a1, a2) (b0, b1, b2) = true := by simp [h]
 have k' : ¬ ltB (b0, b1, b2) (a0, a1, a2) = true := by simp [k]
 rw [ltB_iff] at h' k'
 simp only at h' k'
 have e0 : a0 = b0 := by omega
 have e1 : a1 = b1 := by omega
 have e2 : a2 = b2 := by omega
 rw [e0, e1, e2]

def Rises (l : List I3) : Prop := l.Pairwise fun a b => ltB a b = true
theorem Rises.same : ∀ {l k : List I3}, Rises l → Rises k → (∀ x, x ∈ l ↔ x ∈ k) → l = k
 | [], [], _, _, _ => rfl
 | [], b :: k, _, _, h => by have := (h b).2 (by simp); simp at this
 | a :: l, [], _, _, h => by have := (h a).1 (by simp); simp at this
 | a :: l, b :: k, hl, hk, h => by
  have hl' := List.pairwise_cons.1 hl
  have hk' := List.pairwise_cons.1 hk
  have e : a = b := by
   rcases List.mem_cons.1 ((h a).1 (by simp)) with e | e
   ·exact e
   rcases List.mem_cons.1 ((h b).2 (by simp)) with e' | e'
   ·exact e'.symm
   have h1 := hk'.1 a e
   have h2 := hl'.1 b e'
   rw [ltB_asymm h1] at h2
   cases h2
  subst e
  rw [Rises.same hl'.2 hk'.2 (fun x => ?_)]
  constructor
  ·intro hx
   rcases List.mem_cons.1 ((h x).1 (List.mem_cons_of_mem _ hx)) with e | e
   ·subst e
    have := hl'.1 x hx
    rw [ltB_irrefl] at this
    cases this
   ·exact e
  ·intro hx
   rcases List.mem_cons.1 ((h x).2 (List.mem_cons_of_mem _ hx)) with e | e
   ·subst e
    have := hk'.1 x hx
    rw [ltB_irrefl] at this
    cases this
   ·exact e

def putB : List I3 → I3 → List I3
 | [], b => [b]
 | x :: xs, b => if ltB x b then x :: putB xs b else if x = b then x :: xs else b :: x :: xs
theorem mem_putB {x b : I3} : ∀ {l : List I3}, x ∈ putB l b ↔ x ∈ l ∨ x = b
 | [] => by simp [putB]
 | y :: l => by
  have ih := mem_putB (x := x) (b := b) (l := l)
  unfold putB
  split
  ·simp [ih, or_assoc]
  ·split
   ·rename_i h
    subst h
    simp
    intro e
    exact .inl e
   ·simp
    constructor
    ·rintro (h | h | h)
     ·exact .inr h
     ·exact .inl (.inl h)
     ·exact .inl (.inr h)
    ·rintro ((h | h) | h)
     ·exact .inr (.inl h)
     ·exact .inr (.inr h)
     ·exact .inl h
theorem Rises.put {b : I3} : ∀ {l : List I3}, Rises l → Rises (putB l b)
 | [], _ => by simp [putB, Rises]
 | y :: l, h => by
  have h' := List.pairwise_cons.1 h
  unfold putB
  split
  ·rename_i hy
   refine List.pairwise_cons.2 ⟨fun z hz => ?_, Rises.put h'.2⟩
   rcases mem_putB.1 hz with e | e
   ·exact h'.1 z e
   ·rw [e]; exact hy
  ·rename_i hy
   split
   ·exact h
   ·rename_i hne
    have hby : ltB b y = true := by
     cases k : ltB b y
     ·exact absurd (ltB_total (by simpa using hy) k) hne
     ·rfl
    refine List.pairwise_cons.2 ⟨fun z hz => ?_, h⟩
    rcases List.mem_cons.1 hz with e | e
    ·rw [e]; exact hby
    ·exact ltB_trans hby (h'.1 z e)
def putAll (out l : List I3) : List I3 := l.foldl putB out
theorem mem_putAll {x : I3} : ∀ {l out : List I3}, x ∈ putAll out l ↔ x ∈ out ∨ x ∈ l
 | [], out => by simp [putAll]
 | y :: l, out => by
  have ih := mem_putAll (x := x) (l := l) (out := putB out y)
  unfold putAll at *
  rw [List.foldl_cons, ih, mem_putB]
  simp [or_assoc]
theorem Rises.putAll {l : List I3} : ∀ {out : List I3}, Rises out → Rises (putAll out l) := by
 induction l with
 | nil => intro out h; exact h
 | cons y l ih => intro out h; exact ih h.put
def mergeB (a b : List I3) : List I3 := putAll (putAll [] a) b
theorem mergeB_rises (a b : List I3) : Rises (mergeB a b) := Rises.putAll (Rises.putAll List.Pairwise.nil)
theorem mem_mergeB {x : I3} {a b : List I3} : x ∈ mergeB a b ↔ x ∈ a ∨ x ∈ b := by
 unfold mergeB
 rw [mem_putAll, mem_putAll]
 simp
theorem putB_len (l : List I3) (b : I3) : (putB l b).length ≤ l.length + 1 := by
 induction l with
 | nil => simp [putB]
 | cons y l ih =>
  unfold putB
  split
  ·simp; omega
  ·split <;> simp
theorem putAll_len : ∀ (l out : List I3), (putAll out l).length ≤ out.length + l.length
 | [], out => by simp [putAll]
 | y :: l, out => by
  have := putAll_len l (putB out y)
  have h2 := putB_len out y
  unfold putAll at *
  simp only [List.foldl_cons, List.length_cons]
  omega
theorem mergeB_len (a b : List I3) : (mergeB a b).length ≤ a.length + b.length := by
 have h1 := putAll_len a []
 have h2 := putAll_len b (putAll [] a)
 simp at h1
 unfold mergeB
 omega
def onceB : List I3 → List I3
 | [] => []
 | [x] => [x]
 | x :: y :: l => if x = y then onceB (y :: l) else x :: onceB (y :: l)
theorem onceB_head : ∀ (x : I3) (l : List I3), ∃ t, onceB (x :: l) = x :: t
 | x, [] => ⟨[], rfl⟩
 | x, y :: l => by
  unfold onceB
  split
  ·rename_i h
   subst h
   exact onceB_head x l
  ·exact ⟨_, rfl⟩
theorem mem_onceB {z : I3} : ∀ {l : List I3}, z ∈ onceB l ↔ z ∈ l
 | [] => by simp [onceB]
 | [x] => by simp [onceB]
 | x :: y :: l => by
  have ih := mem_onceB (z := z) (l := y :: l)
  unfold onceB
  split
  ·rename_i h
   subst h
   rw [ih]
   simp
  ·simp only [List.mem_cons] at ih ⊢
   rw [ih]
theorem onceB_rises : ∀ {l : List I3}, (l.Pairwise fun a b => ltB b a = false) → Rises (onceB l)
 | [], _ => List.Pairwise.nil
 | [x], _ => by simp [onceB, Rises]
 | x :: y :: l, h => by
  have h' := List.pairwise_cons.1 h
  have ih := onceB_rises h'.2
  unfold onceB
  split
  ·exact ih
  ·rename_i hne
   refine List.pairwise_cons.2 ⟨fun z hz => ?_, ih⟩
   have hz' := mem_onceB.1 hz
   have hxy : ltB x y = true := by
    cases k : ltB x y
    ·exact absurd (ltB_total k (h'.1 y (by simp))) hne
    ·rfl
   rcases List.mem_cons.1 hz' with e | e
   ·rw [e]; exact hxy
   ·have h2 := (List.pairwise_cons.1 h'.2).1 z e
    cases k : ltB x z
    ·have hzx := h'.1 z hz'
     have e2 := ltB_total k hzx
     subst e2
     rw [h2] at hxy
     cases hxy
    ·rfl
theorem once_merge {a b l : List I3} (hs : l.Pairwise fun a b => ltB b a = false) (hm : ∀ x, x ∈ l ↔ x ∈ a ∨ x ∈ b) : onceB l = mergeB a b :=
 (onceB_rises hs).same (mergeB_rises a b) fun x => by rw [mem_onceB, hm, mem_mergeB]
end Go.Proofs.YtdojjmkpelgcaaaGreatDoor
