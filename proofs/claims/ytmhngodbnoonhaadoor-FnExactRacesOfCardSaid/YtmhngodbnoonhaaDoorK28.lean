/-
  Joined: Src2, Take, NumP, StrS, VmDraw, MrgB, SrtB.
-/
import Derived.Test.YtmhngodbnoonhaaDoorProg
import Derived.Deep.RegionHeld3
import Derived.KernelRfl
import Derived.Tactics
import Derived.WalkKit
import Derived.WalkSpells
import Derived.WalkLawsBesides
import Derived.RegionTactic
import Derived.BigQuiet
import Derived.Deep.QuietTactic
import Derived.BigRegion
import Derived.Laws.RangeString
import Derived.Laws.RangeAny
import Derived.Laws.Bits
import Derived.Laws.BytesArg
import Derived.Deep.Slices
import Derived.Deep.Strs
import Derived.Deep.Fields
import Derived.ChangeSame
import Derived.Handy
import Derived.OwnWalk
import Derived.ChangeSlices
import Derived.Lib.SmallJoins
import Derived.Shelf.Abstract
import Derived.Deep.RegionLaw
import Derived.Laws.OwnMore
import Derived.Laws.CopyOwn
import Derived.Laws.Tables
import Derived.Maps.AppendAt
import Derived.Lib.FieldsP
import Derived.Shelf.SlSortCmp.NoneTotal
import Derived.Shelf.Spec.SlicesGrow
import Derived.Laws.AppendOwnNone
import Derived.Lib.SliceRun
import Derived.Test.YtmhngodbnoonhaaDoorK01
import Derived.Test.YtmhngodbnoonhaaDoorK02
import Derived.Test.YtmhngodbnoonhaaDoorK07
import Derived.Test.YtmhngodbnoonhaaDoorK08
import Derived.Test.YtmhngodbnoonhaaDoorK14
import Derived.Test.YtmhngodbnoonhaaDoorK18
import Derived.Test.YtmhngodbnoonhaaDoorK19
import Derived.Test.YtmhngodbnoonhaaDoorK20
import Derived.Test.YtmhngodbnoonhaaDoorK27

/-
  The specification's source of choices, more of it: next hands a number below n; a source over a code; how what it hands is kept apart from all else.
-/
namespace Go.Proofs.YtmhngodbnoonhaaDoor
open Go.RowKit

abbrev Went (p : Nat) (w w' : World) : Prop := w.grownBy w' (some p)
theorem Went.trans {p : Nat} {a b c : World} (h : Went p a b) (k : Went p b c) : Went p a c :=
  ⟨k.os.trans h.os, k.tape.trans h.tape, k.output.trans h.output, Nat.le_trans h.size k.size, fun i hi hne => (k.block i (Nat.lt_of_lt_of_le hi h.size) hne).trans (h.block i hi hne)⟩
theorem Went.below {p : Nat} {w w' : World} (h : Went p w w') (hp : p ≤ w.heap.size) : Below p w w' :=
  (Below.refl _ _).grown h hp (fun k e => by cases e; exact Nat.le_refl _)
theorem Went.alloc {p : Nat} {w w' : World} (h : Went p w w') (o : Obj) : Went p w (w'.alloc o) := h.trans (World.grownBy_alloc w' o _)
theorem Went.refl (p : Nat) (w : World) : Went p w w := World.grownBy.refl _ _
theorem Went.grown {p : Nat} {w w' w'' : World} {row : Option Nat} (h : Went p w w') (g : w'.grownBy w'' row) (hr : ∀ k, row = some k → w.heap.size ≤ k) : Went p w w'' :=
  ⟨g.os.trans h.os, g.tape.trans h.tape, g.output.trans h.output, Nat.le_trans h.size g.size, fun i hi hne => (g.block i (Nat.lt_of_lt_of_le hi h.size) (fun e => by have := hr i e.symm; omega)).trans (h.block i hi hne)⟩
theorem Src.grown {p T : Nat} {c : Value} {w w' : World} {row : Option Nat} (h : Src w p c T) (g : w.grownBy w' row) (hr : ∀ k, row = some k → k ≠ p) : Src w' p c T := by
  obtain ⟨m, sd, hh, h1, h2⟩ := h
  have hl : p < w.heap.size := (Array.getElem?_eq_some_iff.1 hh).1
  exact ⟨m, sd, by rw [g.block p hl (fun e => hr p e.symm rfl)]; exact hh, h1, h2⟩
theorem Src.alloc {p T : Nat} {c : Value} {w : World} (h : Src w p c T) (o : Obj) : Src (w.alloc o) p c T := h.grown (World.grownBy_alloc w o none) (fun k e => by cases e)
theorem Src.lt {p T : Nat} {c : Value} {w : World} (h : Src w p c T) : p < w.heap.size := by
  obtain ⟨m, sd, hh, _⟩ := h
  exact (Array.getElem?_eq_some_iff.1 hh).1
theorem Src.mono {p T T' : Nat} {c : Value} {w : World} (h : Src w p c T) (ht : T ≤ T') : Src w p c T' := by
  obtain ⟨m, sd, hh, h1, h2⟩ := h
  exact ⟨m, sd, hh, Nat.le_trans h1 ht, h2⟩
theorem Code.below {p n cap : Nat} {a : Option Addr} {w w' : World} (h : Code w p a n cap) (hb : Below p w w') : Code w' p a n cap := by
  obtain ⟨zs, ⟨h1, h2, h3, h4⟩, h5, h6, h7⟩ := h
  refine ⟨zs, ⟨h1, h2, h3, ?_⟩, h5, h6, h7⟩
  rcases h4 with h4 | ⟨b, off, ha, hlt, hc⟩
  · exact .inl h4
  · rcases Nat.eq_zero_or_pos n with h0 | h0
    · exact .inl h0
    · have hbB := h7 _ ha (by omega)
      exact .inr ⟨b, off, ha, by have := hb.size; omega, fun t ht => by rw [hb.cell (p := ⟨b, off + t, none⟩) hbB]; exact hc t ht⟩
end Go.Proofs.YtmhngodbnoonhaaDoor


/-
  Plain mathematics of reading a number from bytes, no program in it: where it ends, its value, that it is the only one; what a range over runes meets.
-/
namespace Go.Proofs.YtmhngodbnoonhaaDoor

def bt (s : ByteArray) (k : Nat) : Nat := if h : k < s.size then (s[k]'h).toNat else 0
def hv (s : ByteArray) (p k : Nat) : Nat → Nat
  | 0 => 0
  | j + 1 => hv s p k j * 128 + bt s (p + k - 1 - j) % 128
end Go.Proofs.YtmhngodbnoonhaaDoor


/-
  Plain mathematics of a number's digits: at most 18, none needless ahead; the digits of the value are the text itself.
-/
namespace Go.Proofs.YtmhngodbnoonhaaDoor

def digVal (s : ByteArray) : Nat → Nat
  | 0 => 0
  | k + 1 => 10 * digVal s k + (bt s k - 48)
def allDig (s : ByteArray) (k : Nat) : Prop := ∀ i, i < k → 48 ≤ bt s i ∧ bt s i ≤ 57
theorem digVal_lt {s : ByteArray} : ∀ {k : Nat}, allDig s k → digVal s k < 10 ^ k
  | 0, _ => by simp [digVal]
  | k + 1, h => by
    have ih := digVal_lt (k := k) (fun i hi => h i (by omega))
    have := h k (by omega)
    rw [digVal, Nat.pow_succ]
    omega
theorem digVal_small {s : ByteArray} {k : Nat} (h : allDig s k) (hk : k ≤ 18) : digVal s k < 1000000000000000000 := by
  have h1 := digVal_lt h
  have h2 : 10 ^ k ≤ 10 ^ 18 := Nat.pow_le_pow_right (by omega) hk
  have : (10 : Nat) ^ 18 = 1000000000000000000 := by decide
  omega
def IsDec (s : ByteArray) (n : Nat) : Prop := 1 ≤ s.size ∧ s.size ≤ 18 ∧ ¬ (1 < s.size ∧ bt s 0 = 48) ∧ allDig s s.size ∧ n = digVal s s.size
theorem IsDec.lt {s : ByteArray} {n : Nat} (h : IsDec s n) : n < 1000000000000000000 := by
  obtain ⟨_, h2, _, h4, rfl⟩ := h
  exact digVal_small h4 h2
end Go.Proofs.YtmhngodbnoonhaaDoor


/-
  Slices of strings in memory, and the laws' helpers that compare them (eqStringS).
-/
namespace Go.Proofs.YtmhngodbnoonhaaDoor
open Go.RowKit

def Strs (w : World) (a : Option Addr) (len cap : Nat) (ts : List ByteArray) : Prop :=
  ts.length = len ∧ len ≤ cap ∧ cap ≤ maxLen ∧
  (len = 0 ∨ ∃ b off, a = some ⟨b, off, none⟩ ∧ b < w.heap.size ∧ ∀ t, t < len → w.cell? ⟨b, off + t, none⟩ = some (.string (ts.getD t ByteArray.empty)))

theorem Strs.below {w w' : World} {a : Option Addr} {len cap : Nat} {ts : List ByteArray} (h : Strs w a len cap ts) (hb : Below w.heap.size w w') : Strs w' a len cap ts := by
  obtain ⟨h1, h2, h3, h4⟩ := h
  refine ⟨h1, h2, h3, ?_⟩
  rcases h4 with h4 | ⟨b, off, ha, hlt, hc⟩
  · exact .inl h4
  · exact .inr ⟨b, off, ha, by have := hb.size; omega, fun t ht => by rw [hb.cell (p := ⟨b, off + t, none⟩) hlt]; exact hc t ht⟩

def OwnT (base : Nat) (w : World) (a : Option Addr) (n cap : Nat) (ts : List ByteArray) : Prop :=
  ts.length = n ∧ n ≤ cap ∧ cap ≤ maxLen ∧ (n = 0 ∨ ∃ g, a = some ⟨g, 0, none⟩ ∧ w.ownsRow base 9 1 (.slice (some ⟨g, 0, none⟩) n cap) n (ts.map Value.string))

theorem OwnT.kept {base : Nat} {w w' : World} {a : Option Addr} {n cap : Nat} {ts : List ByteArray} (h : OwnT base w a n cap ts) (hb : Below w.heap.size w w') : OwnT base w' a n cap ts := by
  obtain ⟨h1, h2, h3, h4⟩ := h
  refine ⟨h1, h2, h3, ?_⟩
  rcases h4 with h4 | ⟨g, ha, h4⟩
  · exact .inl h4
  · refine .inr ⟨g, ha, h4.1, ?_⟩
    have hlt := (h4.lt g rfl).2
    rcases h4.2 with h0 | ⟨g', cap', cur, hv, hg, hh, hr⟩
    · exact .inl h0
    · cases hv
      exact .inr ⟨g, cap, cur, rfl, hg, by rw [hb.block _ hlt]; exact hh, hr⟩

theorem OwnT.block {base : Nat} {w : World} {a : Option Addr} {n cap : Nat} {ts : List ByteArray} (h : OwnT base w a n cap ts) : ∀ x, a = some x → n ≠ 0 → x.block < w.heap.size := by
  intro x hx hn
  rcases h.2.2.2 with h0 | ⟨g, e, ho⟩
  · exact absurd h0 hn
  · rw [e] at hx
    cases hx
    exact (ho.lt g rfl).2

end Go.Proofs.YtmhngodbnoonhaaDoor


/-
  The specification's drawn state: a state that a program comes to, in memory of its own; it has its shape.
-/
namespace Go.Proofs.YtmhngodbnoonhaaDoor
open Go.RowKit
set_option linter.unusedVariables false
set_option linter.unusedSimpArgs false

theorem OwnV.lowerB {B B' : Nat} {w : World} {s : S4} {m : V4} (h : OwnV w B s m) (hB : B' ≤ B) : OwnV w B' s m := ⟨⟨own_lower h.1.1 hB, own_lower h.1.2.1 hB, own_lower h.1.2.2.1 hB, own_lower h.1.2.2.2 hB⟩, h.2⟩
theorem zero_shape : shapeOk zeroV = true := by decide
def vmC (t : S4) : List Value := [.slice t.1.1 t.1.2.1 t.1.2.2, .slice t.2.1.1 t.2.1.2.1 t.2.1.2.2, .slice t.2.2.1.1 t.2.2.1.2.1 t.2.2.1.2.2, .slice t.2.2.2.1 t.2.2.2.2.1 t.2.2.2.2.2]
theorem step_store_blkD {P : Program} {ops : Array Oper} {o : Oper} {a : Act} {w : World} {K : Act → World → Prop} {Q : Exit → Act → World → Prop} {E : Prop} (hgd : o.guard = none) (ty : TypeId) (x y : Operand) (ho : o.op = .store ty x y) (g : Nat) (vs : List Value) (hx : a.eval x = .pointer (some ⟨g, 0, none⟩)) (hy : a.eval y = .agg vs.toArray) {t : Nat} {cs : List Value} (hB : Blk w g t cs)
    (hi : (P.info? ty).map (·.size) = some vs.length) (hl : cs.length = vs.length) (h1 : vs.all (·.oneCell') = true)
    (h : ∀ w', Hid (Blk w' g t vs) → w.grownBy w' (some g) → K (a.put o.dst undef) w') : if Region.wanted o (yielded ops a.tmps) = true then Oper.wp P o a w K Q else E := by
  have hw : Region.wanted o (yielded ops a.tmps) = true := by simp [Region.wanted, hgd]
  rw [if_pos hw]
  exact wp_store_row ty x y ho g vs.toArray hx hy t cs.toArray hB (by simpa using hi) (by simpa using hl) (by simpa using h1) (h _ (blk_setRow vs hB) (grown_setRow _ _ _))
end Go.Proofs.YtmhngodbnoonhaaDoor



/-
  The specification's l04Merge, l04All, MergeBugs; the program's bugsOK.
-/
namespace Go.Proofs.YtmhngodbnoonhaaDoor
open Go.RowKit
set_option linter.unusedVariables false
set_option linter.unusedSimpArgs false

def BugsOne (e : Ending) (w : World) (B : Nat) (zs : List I3) : Prop := ∃ v, e = .returned v ∧ w.ownsRow B 40 3 v zs.length (flat zs)
theorem fits_put {zs : List I3} {x : I3} (h : ∀ z ∈ zs, I3.fits z) (hx : I3.fits x) : ∀ z ∈ putB zs x, I3.fits z := fun z hz => by
  rcases mem_putB.1 hz with e | e
  · exact h z e
  · rw [e]; exact hx
theorem fits_putAll {xs ys : List I3} (h : ∀ z ∈ xs, I3.fits z) (k : ∀ z ∈ ys, I3.fits z) : ∀ z ∈ putAll xs ys, I3.fits z := fun z hz => by
  rcases mem_putAll.1 hz with e | e
  · exact h z e
  · exact k z e
theorem putAll_snoc (out xs : List I3) {k : Nat} (hk : k < xs.length) : putAll out (xs.take (k + 1)) = putB (putAll out (xs.take k)) (xs.getD k (0, 0, 0)) := by
  unfold putAll
  rw [List.take_add_one, List.foldl_append, List.getElem?_eq_getElem hk]
  simp [List.getD, List.getElem?_eq_getElem hk]
theorem getD_memB {xs : List I3} {k : Nat} (hk : k < xs.length) : xs.getD k (0, 0, 0) ∈ xs := by
  rw [List.getD, List.getElem?_eq_getElem hk, Option.getD_some]
  exact List.getElem_mem hk
def Under (w wr : World) (v : Value) (zs : List I3) : Prop := (∃ g c, v = .slice (some ⟨g, 0, none⟩) zs.length c) ∧ wr.ownsRow w.heap.size 40 3 v zs.length (flat zs) ∧ (∀ z ∈ zs, I3.fits z) ∧ zs.length ≤ 1000000


set_option maxHeartbeats 4000000 in
set_option maxRecDepth 100000 in
theorem l04Merge_is (a0 : Option Addr) (n0 c0 : Nat) (xs : List I3) (a1 : Option Addr) (n1 c1 : Nat) (ys : List I3) (w : World) (h0 : Instrs w a0 n0 c0 xs) (h1 : Instrs w a1 n1 c1 ys) (m0 : n0 ≤ 400000) (m1 : n1 ≤ 400000) :
    Calls Tryd.prog 103 #[.slice a0 n0 c0, .slice a1 n1 c1] w fun e w' => BugsOne e w' w.heap.size (mergeB xs ys) ∧ Below w.heap.size w w' := by
  have l0 := h0.1
  have l1 := h1.1
  have f0 := h0.2.2.2.1
  have f1 := h1.2.2.2.1
  have q0 : Under w (w.alloc (.cells #[] 40)) (.slice (some ⟨w.heap.size, 0, none⟩) 0 0) [] := ⟨⟨_, _, rfl⟩, own_emptyB w 40 3 w.heap.size (Nat.le_refl _), by simp, by simp⟩
  have bw0 : Below w.heap.size w (w.alloc (.cells #[] 40)) := by go_grown
  go_enter Tryd.func103, Tryd.ntmps103
  go_wp2_with fail
  generalize w.alloc (.cells #[] 40) = W0 at *
  go_loopw [5, 6] (fun so si wr => ∃ (k : Nat) (v : Value), v = so ∧ k ≤ n0 ∧ si = .int .i64 k ∧ Under w wr v (putAll [] (xs.take k)) ∧ Below w.heap.size w wr) (fun _ si _ => n0 - (intOf si).toNat)
  case atStart => exact ⟨0, _, rfl, by omega, rfl, q0, bw0⟩
  case round =>
    clear q0 bw0
    obtain ⟨k, so, rfl, hk, rfl, ⟨⟨g, c, rfl⟩, hq, hf, hz⟩, bw⟩ := hrel
    by_cases hlt : k < n0
    · obtain ⟨zs, hzs⟩ : ∃ zs, zs = putAll [] (xs.take k) := ⟨_, rfl⟩
      rw [← hzs] at hq hf hz
      try rw [← hzs]
      have hZ := Instrs.of_owns hq rfl hf rfl
      obtain ⟨_, _, _, _, hcase⟩ := h0.below bw
      rcases hcase with e0 | ⟨b, off, rfl, hb, hc⟩
      · omega
      obtain ⟨d0, d1, d2⟩ := hc k hlt
      clear hc hb
      obtain ⟨x, hx⟩ : ∃ x, x = xs.getD k (0, 0, 0) := ⟨_, rfl⟩
      have hfx : I3.fits x := by rw [hx]; exact f0 _ (getD_memB (by omega))
      have hnew : putB zs x = putAll [] (xs.take (k + 1)) := by rw [hzs, hx]; exact (putAll_snoc [] xs (by omega)).symm
      rw [← hx] at d0 d1 d2
      have HN : Hid (putB zs x = putAll [] (xs.take (k + 1))) := hnew
      have hzl : zs.length ≤ k := by rw [hzs]; have := putAll_len (xs.take k) []; simp at this; omega
      clear hx hnew hzs
      have kP := l04Put_is g 0 zs.length c zs x wr hZ (by omega)
      have hpl := putB_len zs x
      have hpf := fits_put hf hfx
      have hp0 : 0 < (putB zs x).length := List.length_pos_of_mem (mem_putB.2 (.inr rfl))
      generalize zs.length = m at *
      obtain ⟨x0, x1, x2⟩ := x
      unfold I3.val at kP
      simp only at d0 d1 d2 kP
      clear hZ hq
      have hlt' : (k : Int) < (n0 : Int) := by omega
      have hk0 : (0 : Int) ≤ (k : Int) := by omega
      go_wp2_with fail
      refine kP.mono ?_
      rintro e w1 ⟨⟨v1, rfl, hq1⟩, hb1⟩
      clear kP d0 d1 d2
      have bw1 := bel_trans bw hb1
      obtain ⟨g1, e1, rfl⟩ := own_someB hq1 hp0
      have hU : Under w w1 (.slice (some ⟨g1, 0, none⟩) (putB zs (x0, x1, x2)).length e1) (putAll [] (xs.take (k + 1))) := by
        rw [← HN.out]
        exact ⟨⟨_, _, rfl⟩, own_lowerB hq1 bw.size, hpf, by omega⟩
      generalize (putB zs (x0, x1, x2)).length = m1 at *
      clear hq1 hpf
      go_wp2
      go_roundw
      case rel => exact ⟨k + 1, _, rfl, by omega, by go_num, hU, bw1⟩
      case measure => simp [intOf]; omega
    · obtain rfl : k = n0 := by omega
      have hU : Under w wr (.slice (some ⟨g, 0, none⟩) (putAll [] (xs.take k)).length c) (putAll (putAll [] xs) (ys.take 0)) := by
        have e : xs.take k = xs := List.take_of_length_le (by omega)
        rw [e] at hq hf hz ⊢
        exact ⟨⟨_, _, rfl⟩, hq, hf, hz⟩
      have hal : (putAll [] xs).length ≤ k := by have := putAll_len xs []; simp at this; omega
      have haf : ∀ z ∈ putAll [] xs, I3.fits z := fits_putAll (by simp) f0
      generalize (putAll [] (xs.take k)).length = m at *
      clear hq hf hz h0
      go_wp2_with fail
      go_loopw [5, 7] (fun so si wr => ∃ (j : Nat) (v : Value), v = so ∧ j ≤ n1 ∧ si = .int .i64 j ∧ Under w wr v (putAll (putAll [] xs) (ys.take j)) ∧ Below w.heap.size w wr) (fun _ si _ => n1 - (intOf si).toNat)
      case atStart => exact ⟨0, _, rfl, by omega, rfl, hU, bw⟩
      case round =>
        clear hU bw
        obtain ⟨j, so, rfl, hj, rfl, ⟨⟨g, c, rfl⟩, hq, hf, hz⟩, bw⟩ := hrel
        by_cases hltj : j < n1
        · obtain ⟨zs, hzs⟩ : ∃ zs, zs = putAll (putAll [] xs) (ys.take j) := ⟨_, rfl⟩
          rw [← hzs] at hq hf hz
          try rw [← hzs]
          have hZ := Instrs.of_owns hq rfl hf rfl
          obtain ⟨_, _, _, _, hcase⟩ := h1.below bw
          rcases hcase with e0 | ⟨b, off, rfl, hb, hc⟩
          · omega
          obtain ⟨d0, d1, d2⟩ := hc j hltj
          clear hc hb
          obtain ⟨x, hx⟩ : ∃ x, x = ys.getD j (0, 0, 0) := ⟨_, rfl⟩
          have hfx : I3.fits x := by rw [hx]; exact f1 _ (getD_memB (by omega))
          have hnew : putB zs x = putAll (putAll [] xs) (ys.take (j + 1)) := by rw [hzs, hx]; exact (putAll_snoc _ ys (by omega)).symm
          rw [← hx] at d0 d1 d2
          have HN : Hid (putB zs x = putAll (putAll [] xs) (ys.take (j + 1))) := hnew
          have hzl : zs.length ≤ k + j := by rw [hzs]; have := putAll_len (ys.take j) (putAll [] xs); simp at this; omega
          clear hx hnew hzs
          have kP := l04Put_is g 0 zs.length c zs x _ hZ (by omega)
          have hpl := putB_len zs x
          have hpf := fits_put hf hfx
          have hp0 : 0 < (putB zs x).length := List.length_pos_of_mem (mem_putB.2 (.inr rfl))
          generalize zs.length = mm at *
          obtain ⟨x0, x1, x2⟩ := x
          unfold I3.val at kP
          simp only at d0 d1 d2 kP
          clear hZ hq
          have hlt' : (j : Int) < (n1 : Int) := by omega
          have hk0 : (0 : Int) ≤ (j : Int) := by omega
          go_wp2_with fail
          refine kP.mono ?_
          rintro e w1 ⟨⟨v1, rfl, hq1⟩, hb1⟩
          clear kP d0 d1 d2
          have bw1 := bel_trans bw hb1
          obtain ⟨g1, e1, rfl⟩ := own_someB hq1 hp0
          have hU : Under w w1 (.slice (some ⟨g1, 0, none⟩) (putB zs (x0, x1, x2)).length e1) (putAll (putAll [] xs) (ys.take (j + 1))) := by
            rw [← HN.out]
            exact ⟨⟨_, _, rfl⟩, own_lowerB hq1 bw.size, hpf, by omega⟩
          generalize (putB zs (x0, x1, x2)).length = m1 at *
          clear hq1 hpf
          go_wp2
          go_roundw
          case rel => exact ⟨j + 1, _, rfl, by omega, by go_num, hU, bw1⟩
          case measure => simp [intOf]; omega
        · obtain rfl : j = n1 := by omega
          have e : ys.take j = ys := List.take_of_length_le (by omega)
          rw [e] at hq hf hz
          try rw [e]
          obtain ⟨mm, hmm⟩ : ∃ mm, mm = (putAll (putAll [] xs) ys).length := ⟨_, rfl⟩
          rw [← hmm]
          have HQ : Hid (∀ e, e = .returned (.slice (some ⟨g, 0, none⟩) mm c) → BugsOne e wr w.heap.size (mergeB xs ys)) := fun e he => ⟨_, he, by rw [hmm]; exact hq⟩
          clear hq hmm hz
          go_wp2
          go_ret
          exact ⟨HQ.out _ rfl, bw⟩


end Go.Proofs.YtmhngodbnoonhaaDoor


/-
  The program's mergedBugs: concat, sort, compact: both lists merged; MergeBugs.
-/
namespace Go.Proofs.YtmhngodbnoonhaaDoor
open Go.RowKit Go.Sort Go.Shelf
set_option linter.unusedVariables false
set_option linter.unusedSimpArgs false

def GoodS (a : Option Addr) (c : Nat) : Prop := (a = none → c = 0) ∧ ∀ x, a = some x → x.spot = none
end Go.Proofs.YtmhngodbnoonhaaDoor

