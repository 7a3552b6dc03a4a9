/-
  Joined: Src2, Take, NumP, Prog5, StrS, VmDraw.
-/
import Derived.Test.YtmhngodbnoonhaaDoorProg
import Derived.Deep.RegionHeld3
import Derived.KernelRfl
import Derived.Tactics
import Derived.WalkKit
import Derived.WalkSpells
import Derived.WalkLawsBesides
import Derived.RegionTactic
import Derived.BigQuiet
import Derived.Deep.QuietTactic
import Derived.BigRegion
import Derived.Laws.RangeString
import Derived.Laws.RangeAny
import Derived.Laws.Bits
import Derived.Laws.BytesArg
import Derived.Deep.Slices
import Derived.Deep.Strs
import Derived.Deep.Fields
import Derived.ChangeSame
import Derived.Handy
import Derived.OwnWalk
import Derived.ChangeSlices
import Derived.Lib.SmallJoins
import Derived.Shelf.Abstract
import Derived.Deep.RegionLaw
import Derived.Laws.OwnMore
import Derived.Laws.CopyOwn
import Derived.Laws.Tables
import Derived.Maps.AppendAt
import Derived.Lib.FieldsP
import Derived.Test.YtmhngodbnoonhaaDoorK01
import Derived.Test.YtmhngodbnoonhaaDoorK03
import Derived.Test.YtmhngodbnoonhaaDoorK04
import Derived.Test.YtmhngodbnoonhaaDoorK05
import Derived.Test.YtmhngodbnoonhaaDoorK10
import Derived.Test.YtmhngodbnoonhaaDoorK20
import Derived.Test.YtmhngodbnoonhaaDoorK37

/-
  The specification's source of choices, more of it: next hands a number below n; a source over a code; how what it hands is kept apart from all else.
-/
namespace Go.Proofs.YtmhngodbnoonhaaDoor
open Go.RowKit

abbrev Went (p : Nat) (w w' : World) : Prop := w.grownBy w' (some p)
theorem Went.trans {p : Nat} {a b c : World} (h : Went p a b) (k : Went p b c) : Went p a c :=
  ⟨k.os.trans h.os, k.tape.trans h.tape, k.output.trans h.output, Nat.le_trans h.size k.size, fun i hi hne => (k.block i (Nat.lt_of_lt_of_le hi h.size) hne).trans (h.block i hi hne)⟩
theorem Went.below {p : Nat} {w w' : World} (h : Went p w w') (hp : p ≤ w.heap.size) : Below p w w' :=
  (Below.refl _ _).grown h hp (fun k e => by cases e; exact Nat.le_refl _)
theorem Went.alloc {p : Nat} {w w' : World} (h : Went p w w') (o : Obj) : Went p w (w'.alloc o) := h.trans (World.grownBy_alloc w' o _)
theorem Went.refl (p : Nat) (w : World) : Went p w w := World.grownBy.refl _ _
theorem Went.grown {p : Nat} {w w' w'' : World} {row : Option Nat} (h : Went p w w') (g : w'.grownBy w'' row) (hr : ∀ k, row = some k → w.heap.size ≤ k) : Went p w w'' :=
  ⟨g.os.trans h.os, g.tape.trans h.tape, g.output.trans h.output, Nat.le_trans h.size g.size, fun i hi hne => (g.block i (Nat.lt_of_lt_of_le hi h.size) (fun e => by have := hr i e.symm; omega)).trans (h.block i hi hne)⟩
theorem Src.grown {p T : Nat} {c : Value} {w w' : World} {row : Option Nat} (h : Src w p c T) (g : w.grownBy w' row) (hr : ∀ k, row = some k → k ≠ p) : Src w' p c T := by
  obtain ⟨m, sd, hh, h1, h2⟩ := h
  have hl : p < w.heap.size := (Array.getElem?_eq_some_iff.1 hh).1
  exact ⟨m, sd, by rw [g.block p hl (fun e => hr p e.symm rfl)]; exact hh, h1, h2⟩
theorem Src.alloc {p T : Nat} {c : Value} {w : World} (h : Src w p c T) (o : Obj) : Src (w.alloc o) p c T := h.grown (World.grownBy_alloc w o none) (fun k e => by cases e)
theorem Src.lt {p T : Nat} {c : Value} {w : World} (h : Src w p c T) : p < w.heap.size := by
  obtain ⟨m, sd, hh, _⟩ := h
  exact (Array.getElem?_eq_some_iff.1 hh).1
theorem Src.mono {p T T' : Nat} {c : Value} {w : World} (h : Src w p c T) (ht : T ≤ T') : Src w p c T' := by
  obtain ⟨m, sd, hh, h1, h2⟩ := h
  exact ⟨m, sd, hh, Nat.le_trans h1 ht, h2⟩
theorem Code.below {p n cap : Nat} {a : Option Addr} {w w' : World} (h : Code w p a n cap) (hb : Below p w w') : Code w' p a n cap := by
  obtain ⟨zs, ⟨h1, h2, h3, h4⟩, h5, h6, h7⟩ := h
  refine ⟨zs, ⟨h1, h2, h3, ?_⟩, h5, h6, h7⟩
  rcases h4 with h4 | ⟨b, off, ha, hlt, hc⟩
  · exact .inl h4
  · rcases Nat.eq_zero_or_pos n with h0 | h0
    · exact .inl h0
    · have hbB := h7 _ ha (by omega)
      exact .inr ⟨b, off, ha, by have := hb.size; omega, fun t ht => by rw [hb.cell (p := ⟨b, off + t, none⟩) hbB]; exact hc t ht⟩
end Go.Proofs.YtmhngodbnoonhaaDoor


/-
  Plain mathematics of reading a number from bytes, no program in it: where it ends, its value, that it is the only one; what a range over runes meets.
-/
namespace Go.Proofs.YtmhngodbnoonhaaDoor

def bt (s : ByteArray) (k : Nat) : Nat := if h : k < s.size then (s[k]'h).toNat else 0
def hv (s : ByteArray) (p k : Nat) : Nat → Nat
  | 0 => 0
  | j + 1 => hv s p k j * 128 + bt s (p + k - 1 - j) % 128
end Go.Proofs.YtmhngodbnoonhaaDoor


/-
  Plain mathematics of a number's digits: at most 18, none needless ahead; the digits of the value are the text itself.
-/
namespace Go.Proofs.YtmhngodbnoonhaaDoor

def digVal (s : ByteArray) : Nat → Nat
  | 0 => 0
  | k + 1 => 10 * digVal s k + (bt s k - 48)
def allDig (s : ByteArray) (k : Nat) : Prop := ∀ i, i < k → 48 ≤ bt s i ∧ bt s i ≤ 57
theorem digVal_lt {s : ByteArray} : ∀ {k : Nat}, allDig s k → digVal s k < 10 ^ k
  | 0, _ => by simp [digVal]
  | k + 1, h => by
    have ih := digVal_lt (k := k) (fun i hi => h i (by omega))
    have := h k (by omega)
    rw [digVal, Nat.pow_succ]
    omega
theorem digVal_small {s : ByteArray} {k : Nat} (h : allDig s k) (hk : k ≤ 18) : digVal s k < 1000000000000000000 := by
  have h1 := digVal_lt h
  have h2 : 10 ^ k ≤ 10 ^ 18 := Nat.pow_le_pow_right (by omega) hk
  have : (10 : Nat) ^ 18 = 1000000000000000000 := by decide
  omega
def IsDec (s : ByteArray) (n : Nat) : Prop := 1 ≤ s.size ∧ s.size ≤ 18 ∧ ¬ (1 < s.size ∧ bt s 0 = 48) ∧ allDig s s.size ∧ n = digVal s s.size
theorem IsDec.lt {s : ByteArray} {n : Nat} (h : IsDec s n) : n < 1000000000000000000 := by
  obtain ⟨_, h2, _, h4, rfl⟩ := h
  exact digVal_small h4 h2
end Go.Proofs.YtmhngodbnoonhaaDoor


/-
  Programs copied, in memory of their own that may be written: laws' toInstrSS, toProgram once more, with what the marks want.
-/
namespace Go.Proofs.YtmhngodbnoonhaaDoor
open Go.RowKit

def RowsOwn (w : World) (B k : Nat) (vs : List Value) (rows : List (List I3)) : Prop :=
  (∀ t, t < k → w.ownsRow B 125 3 (vs.getD t undef) (rows.getD t []).length (flat (rows.getD t []))) ∧
  ∀ t t', t < k → t' < k → t ≠ t' → (vs.getD t undef).ownBlock = none ∨ (vs.getD t undef).ownBlock ≠ (vs.getD t' undef).ownBlock

theorem RowsOwn.below {w w' : World} {B k : Nat} {vs : List Value} {rows : List (List I3)} (h : RowsOwn w B k vs rows) (hb : Below w.heap.size w w') : RowsOwn w' B k vs rows := ⟨fun t ht => owns_below (h.1 t ht) hb, h.2⟩

theorem RowsOwn.put {w w' : World} {B P k G len : Nat} {vs : List Value} {rows : List (List I3)} (h : RowsOwn w B k vs rows) (hb : Below w.heap.size w w') (hk : k < vs.length) (hG : w.heap.size ≤ G)
    (hn : w'.ownsRow B 125 3 (.slice (some ⟨G, 0, none⟩) len len) (rows.getD k []).length (flat (rows.getD k []))) (hP : P < w.heap.size) (hPn : ∀ t, t < k → (vs.getD t undef).ownBlock ≠ some P) :
    RowsOwn (w'.setCell ⟨P, k, none⟩ (.slice (some ⟨G, 0, none⟩) len len)) B (k + 1) (vs.set k (.slice (some ⟨G, 0, none⟩) len len)) rows := by
  have hold : ∀ t, t ≠ k → (vs.set k (.slice (some ⟨G, 0, none⟩) len len)).getD t undef = vs.getD t undef := fun t ht => by simp [List.getD, List.getElem?_set_ne (Ne.symm ht)]
  have hnew : (vs.set k (.slice (some ⟨G, 0, none⟩) len len)).getD k undef = .slice (some ⟨G, 0, none⟩) len len := by simp [List.getD, hk]
  refine ⟨fun t ht => ?_, fun t t' ht ht' hne => ?_⟩
  · by_cases e : t = k
    · subst e
      rw [hnew]
      exact ownsRow_setCell_other hn (by simp [Value.ownBlock]; omega) _
    · rw [hold t e]
      exact ownsRow_setCell_other (owns_below (h.1 t (by omega)) hb) (hPn t (by omega)) _
  · by_cases e : t = k
    · subst e
      rw [hnew, hold t' (Ne.symm hne)]
      refine .inr ?_
      simp only [Value.ownBlock, ne_eq]
      intro h'
      have := ((h.1 t' (by omega)).lt G h'.symm).2
      omega
    · rw [hold t e]
      by_cases e' : t' = k
      · subst e'
        rw [hnew]
        rcases hbk : (vs.getD t undef).ownBlock with _ | x
        · exact .inl rfl
        · refine .inr ?_
          simp only [Value.ownBlock, ne_eq, Option.some.injEq]
          have := ((h.1 t (by omega)).lt x hbk).2
          omega
      · rw [hold t' e']
        exact h.2 t t' (by omega) (by omega) hne

end Go.Proofs.YtmhngodbnoonhaaDoor


/-
  Slices of strings in memory, and the laws' helpers that compare them (eqStringS).
-/
namespace Go.Proofs.YtmhngodbnoonhaaDoor
open Go.RowKit

def Strs (w : World) (a : Option Addr) (len cap : Nat) (ts : List ByteArray) : Prop :=
  ts.length = len ∧ len ≤ cap ∧ cap ≤ maxLen ∧
  (len = 0 ∨ ∃ b off, a = some ⟨b, off, none⟩ ∧ b < w.heap.size ∧ ∀ t, t < len → w.cell? ⟨b, off + t, none⟩ = some (.string (ts.getD t ByteArray.empty)))

theorem Strs.below {w w' : World} {a : Option Addr} {len cap : Nat} {ts : List ByteArray} (h : Strs w a len cap ts) (hb : Below w.heap.size w w') : Strs w' a len cap ts := by
  obtain ⟨h1, h2, h3, h4⟩ := h
  refine ⟨h1, h2, h3, ?_⟩
  rcases h4 with h4 | ⟨b, off, ha, hlt, hc⟩
  · exact .inl h4
  · exact .inr ⟨b, off, ha, by have := hb.size; omega, fun t ht => by rw [hb.cell (p := ⟨b, off + t, none⟩) hlt]; exact hc t ht⟩

def OwnT (base : Nat) (w : World) (a : Option Addr) (n cap : Nat) (ts : List ByteArray) : Prop :=
  ts.length = n ∧ n ≤ cap ∧ cap ≤ maxLen ∧ (n = 0 ∨ ∃ g, a = some ⟨g, 0, none⟩ ∧ w.ownsRow base 9 1 (.slice (some ⟨g, 0, none⟩) n cap) n (ts.map Value.string))

theorem OwnT.kept {base : Nat} {w w' : World} {a : Option Addr} {n cap : Nat} {ts : List ByteArray} (h : OwnT base w a n cap ts) (hb : Below w.heap.size w w') : OwnT base w' a n cap ts := by
  obtain ⟨h1, h2, h3, h4⟩ := h
  refine ⟨h1, h2, h3, ?_⟩
  rcases h4 with h4 | ⟨g, ha, h4⟩
  · exact .inl h4
  · refine .inr ⟨g, ha, h4.1, ?_⟩
    have hlt := (h4.lt g rfl).2
    rcases h4.2 with h0 | ⟨g', cap', cur, hv, hg, hh, hr⟩
    · exact .inl h0
    · cases hv
      exact .inr ⟨g, cap, cur, rfl, hg, by rw [hb.block _ hlt]; exact hh, hr⟩

theorem OwnT.block {base : Nat} {w : World} {a : Option Addr} {n cap : Nat} {ts : List ByteArray} (h : OwnT base w a n cap ts) : ∀ x, a = some x → n ≠ 0 → x.block < w.heap.size := by
  intro x hx hn
  rcases h.2.2.2 with h0 | ⟨g, e, ho⟩
  · exact absurd h0 hn
  · rw [e] at hx
    cases hx
    exact (ho.lt g rfl).2

end Go.Proofs.YtmhngodbnoonhaaDoor


/-
  The specification's drawn state: a state that a program comes to, in memory of its own; it has its shape.
-/
namespace Go.Proofs.YtmhngodbnoonhaaDoor
open Go.RowKit
set_option linter.unusedVariables false
set_option linter.unusedSimpArgs false

theorem OwnV.lowerB {B B' : Nat} {w : World} {s : S4} {m : V4} (h : OwnV w B s m) (hB : B' ≤ B) : OwnV w B' s m := ⟨⟨own_lower h.1.1 hB, own_lower h.1.2.1 hB, own_lower h.1.2.2.1 hB, own_lower h.1.2.2.2 hB⟩, h.2⟩
theorem zero_shape : shapeOk zeroV = true := by decide
def vmC (t : S4) : List Value := [.slice t.1.1 t.1.2.1 t.1.2.2, .slice t.2.1.1 t.2.1.2.1 t.2.1.2.2, .slice t.2.2.1.1 t.2.2.1.2.1 t.2.2.1.2.2, .slice t.2.2.2.1 t.2.2.2.2.1 t.2.2.2.2.2]
theorem step_store_blkD {P : Program} {ops : Array Oper} {o : Oper} {a : Act} {w : World} {K : Act → World → Prop} {Q : Exit → Act → World → Prop} {E : Prop} (hgd : o.guard = none) (ty : TypeId) (x y : Operand) (ho : o.op = .store ty x y) (g : Nat) (vs : List Value) (hx : a.eval x = .pointer (some ⟨g, 0, none⟩)) (hy : a.eval y = .agg vs.toArray) {t : Nat} {cs : List Value} (hB : Blk w g t cs)
    (hi : (P.info? ty).map (·.size) = some vs.length) (hl : cs.length = vs.length) (h1 : vs.all (·.oneCell') = true)
    (h : ∀ w', Hid (Blk w' g t vs) → w.grownBy w' (some g) → K (a.put o.dst undef) w') : if Region.wanted o (yielded ops a.tmps) = true then Oper.wp P o a w K Q else E := by
  have hw : Region.wanted o (yielded ops a.tmps) = true := by simp [Region.wanted, hgd]
  rw [if_pos hw]
  exact wp_store_row ty x y ho g vs.toArray hx hy t cs.toArray hB (by simpa using hi) (by simpa using hl) (by simpa using h1) (h _ (blk_setRow vs hB) (grown_setRow _ _ _))
end Go.Proofs.YtmhngodbnoonhaaDoor


