/-
  Joined: ProgL, ProgM, StrS, VmDraw, SortL.
-/
import Derived.Test.YtcdpcfnlflpjnaaGreatDoorProg
import Derived.Deep.RegionHeld3
import Derived.KernelRfl
import Derived.Tactics
import Derived.WalkKit
import Derived.WalkSpells
import Derived.WalkLawsBesides
import Derived.RegionTactic
import Derived.BigQuiet
import Derived.Deep.QuietTactic
import Derived.Deep.Slices
import Derived.Deep.Strs
import Derived.Deep.Fields
import Derived.ChangeSame
import Derived.Handy
import Derived.OwnWalk
import Derived.Shelf.Abstract
import Derived.Deep.RegionLaw
import Derived.Laws.OwnMore
import Derived.ChangeSlices
import Derived.Lib.SmallJoins
import Derived.Laws.BytesArg
import Derived.Laws.CopyOwn
import Derived.Laws.Tables
import Derived.BigRegion
import Derived.Maps.AppendAt
import Derived.Laws.RangeString
import Derived.Laws.RangeAny
import Derived.Laws.Bits
import Derived.Lib.FieldsP
import Derived.Shelf.SlSortCmp.NoneTotal
import Derived.Test.YtcdpcfnlflpjnaaGreatDoorK01
import Derived.Test.YtcdpcfnlflpjnaaGreatDoorK02
import Derived.Test.YtcdpcfnlflpjnaaGreatDoorK07
import Derived.Test.YtcdpcfnlflpjnaaGreatDoorK08
import Derived.Test.YtcdpcfnlflpjnaaGreatDoorK15

/-
  impl.emptyProgram, impl.programOfList: a program read back from its numbers.
-/
namespace Go.Proofs.YtcdpcfnlflpjnaaGreatDoor
open Go.RowKit

theorem owns_lower {w : World} {B B' e s n : Nat} {v : Value} {cs : List Value} (h : w.ownsRow B e s v n cs) (hB : B' ≤ B) : w.ownsRow B' e s v n cs := by
  refine ⟨h.1, ?_⟩
  rcases h.2 with h0 | ⟨g, cap, cur, hv, hg, r⟩
  · exact .inl h0
  · exact .inr ⟨g, cap, cur, hv, by omega, r⟩

end Go.Proofs.YtcdpcfnlflpjnaaGreatDoor


/-
  impl.programOfList: a program read back from its numbers.
-/
namespace Go.Proofs.YtcdpcfnlflpjnaaGreatDoor
open Go.RowKit

theorem OwnProg.lower {w : World} {B B' : Nat} {v : Value} {rows : List (List I3)} (h : OwnProg w B v rows) (hB : B' ≤ B) : OwnProg w B' v rows := by
  obtain ⟨vs, h1, h2, h3, h4⟩ := h
  exact ⟨vs, owns_lower h1 hB, h2, fun t ht => owns_lower (h3 t ht) hB, h4⟩

end Go.Proofs.YtcdpcfnlflpjnaaGreatDoor


/-
  Slices of strings in memory, and the laws' helpers that compare them (eqStringS).
-/
namespace Go.Proofs.YtcdpcfnlflpjnaaGreatDoor
open Go.RowKit

def Strs (w : World) (a : Option Addr) (len cap : Nat) (ts : List ByteArray) : Prop :=
  ts.length = len ∧ len ≤ cap ∧ cap ≤ maxLen ∧
  (len = 0 ∨ ∃ b off, a = some ⟨b, off, none⟩ ∧ b < w.heap.size ∧ ∀ t, t < len → w.cell? ⟨b, off + t, none⟩ = some (.string (ts.getD t ByteArray.empty)))

theorem Strs.below {w w' : World} {a : Option Addr} {len cap : Nat} {ts : List ByteArray} (h : Strs w a len cap ts) (hb : Below w.heap.size w w') : Strs w' a len cap ts := by
  obtain ⟨h1, h2, h3, h4⟩ := h
  refine ⟨h1, h2, h3, ?_⟩
  rcases h4 with h4 | ⟨b, off, ha, hlt, hc⟩
  · exact .inl h4
  · exact .inr ⟨b, off, ha, by have := hb.size; omega, fun t ht => by rw [hb.cell (p := ⟨b, off + t, none⟩) hlt]; exact hc t ht⟩

def OwnT (base : Nat) (w : World) (a : Option Addr) (n cap : Nat) (ts : List ByteArray) : Prop :=
  ts.length = n ∧ n ≤ cap ∧ cap ≤ maxLen ∧ (n = 0 ∨ ∃ g, a = some ⟨g, 0, none⟩ ∧ w.ownsRow base 9 1 (.slice (some ⟨g, 0, none⟩) n cap) n (ts.map Value.string))

theorem OwnT.strs {base : Nat} {w : World} {a : Option Addr} {n cap : Nat} {ts : List ByteArray} (h : OwnT base w a n cap ts) : Strs w a n cap ts := by
  obtain ⟨h1, h2, h3, h4⟩ := h
  refine ⟨h1, h2, h3, ?_⟩
  rcases h4 with h4 | ⟨g, ha, h4⟩
  · exact .inl h4
  · refine .inr ⟨g, 0, ha, (h4.lt g rfl).2, fun t ht => ?_⟩
    have := h4.cellAt t (by simp; omega)
    rw [Nat.zero_add, this]
    simp [List.getElem?_eq_getElem (show t < ts.length by omega)]

theorem OwnT.of_owns {base : Nat} {w : World} {v : Value} {n : Nat} {ts : List ByteArray} (h : w.ownsRow base 9 1 v n (ts.map Value.string)) : ∃ a cap, v = .slice a n cap ∧ OwnT base w a n cap ts := by
  have hl : ts.length = n := by simpa using h.1
  rcases h.2 with ⟨h0, hn⟩ | ⟨g', cap', cur, hv, _, _, hn, hcap, _, _⟩
  · subst hn
    exact ⟨none, 0, h0, hl, Nat.le_refl _, by unfold maxLen; omega, .inl rfl⟩
  · subst hv
    exact ⟨some ⟨g', 0, none⟩, cap', rfl, hl, hn, hcap, .inr ⟨g', rfl, h⟩⟩

theorem OwnT.kept {base : Nat} {w w' : World} {a : Option Addr} {n cap : Nat} {ts : List ByteArray} (h : OwnT base w a n cap ts) (hb : Below w.heap.size w w') : OwnT base w' a n cap ts := by
  obtain ⟨h1, h2, h3, h4⟩ := h
  refine ⟨h1, h2, h3, ?_⟩
  rcases h4 with h4 | ⟨g, ha, h4⟩
  · exact .inl h4
  · refine .inr ⟨g, ha, h4.1, ?_⟩
    have hlt := (h4.lt g rfl).2
    rcases h4.2 with h0 | ⟨g', cap', cur, hv, hg, hh, hr⟩
    · exact .inl h0
    · cases hv
      exact .inr ⟨g, cap, cur, rfl, hg, by rw [hb.block _ hlt]; exact hh, hr⟩

theorem OwnT.block {base : Nat} {w : World} {a : Option Addr} {n cap : Nat} {ts : List ByteArray} (h : OwnT base w a n cap ts) : ∀ x, a = some x → n ≠ 0 → x.block < w.heap.size := by
  intro x hx hn
  rcases h.2.2.2 with h0 | ⟨g, e, ho⟩
  · exact absurd h0 hn
  · rw [e] at hx
    cases hx
    exact (ho.lt g rfl).2

end Go.Proofs.YtcdpcfnlflpjnaaGreatDoor


/-
  The specification's drawn state: a state that a program comes to, in memory of its own; it has its shape.
-/
namespace Go.Proofs.YtcdpcfnlflpjnaaGreatDoor
open Go.RowKit
set_option linter.unusedVariables false
set_option linter.unusedSimpArgs false

theorem OwnV.lowerB {B B' : Nat} {w : World} {s : S4} {m : V4} (h : OwnV w B s m) (hB : B' ≤ B) : OwnV w B' s m := ⟨⟨own_lower h.1.1 hB, own_lower h.1.2.1 hB, own_lower h.1.2.2.1 hB, own_lower h.1.2.2.2 hB⟩, h.2⟩
theorem zero_shape : shapeOk zeroV = true := by decide
theorem step_store_blkD {P : Program} {ops : Array Oper} {o : Oper} {a : Act} {w : World} {K : Act → World → Prop} {Q : Exit → Act → World → Prop} {E : Prop} (hgd : o.guard = none) (ty : TypeId) (x y : Operand) (ho : o.op = .store ty x y) (g : Nat) (vs : List Value) (hx : a.eval x = .pointer (some ⟨g, 0, none⟩)) (hy : a.eval y = .agg vs.toArray) {t : Nat} {cs : List Value} (hB : Blk w g t cs)
    (hi : (P.info? ty).map (·.size) = some vs.length) (hl : cs.length = vs.length) (h1 : vs.all (·.oneCell') = true)
    (h : ∀ w', Hid (Blk w' g t vs) → w.grownBy w' (some g) → K (a.put o.dst undef) w') : if Region.wanted o (yielded ops a.tmps) = true then Oper.wp P o a w K Q else E := by
  have hw : Region.wanted o (yielded ops a.tmps) = true := by simp [Region.wanted, hgd]
  rw [if_pos hw]
  exact wp_store_row ty x y ho g vs.toArray hx hy t cs.toArray hB (by simpa using hi) (by simpa using hl) (by simpa using h1) (h _ (blk_setRow vs hB) (grown_setRow _ _ _))
end Go.Proofs.YtcdpcfnlflpjnaaGreatDoor



/-
  slices.SortFunc at bugs: the library's contract laid at this program in plain words (the table of numbers, a field a fact).
-/
namespace Go.Proofs.YtcdpcfnlflpjnaaGreatDoor
open Go.RowKit Go.Shelf

def sortBug_ren : Go.Shelf.Ren := ⟨fun | 6 => 111 | 15 => 123 | 14 => 122 | 28 => 134 | 29 => 135 | 20 => 126 | 21 => 127 | 22 => 128 | 23 => 129 | 24 => 130 | 25 => 131 | 26 => 132 | 27 => 133 | 46 => 137 | 47 => 138 | 48 => 139 | 49 => 140 | 50 => 141 | 57 => 142 | n => n, fun | 22 => 45 | 24 => 53 | 25 => 174 | 3 => 3 | 39 => 191 | 0 => 0 | 53 => 206 | 55 => 208 | 4 => 4 | 46 => 200 | 45 => 199 | 50 => 101 | 5 => 5 | 9 => 9 | 66 => 209 | 70 => 213 | 76 => 215 | 77 => 216 | n => n, fun | n => n⟩
theorem sortBug : Go.Proofs.SlLaysF0.n6 Tryz.prog sortBug_ren := {
  mixed := by kernel_rfl
  f6 := ⟨Tryz.f111.name, by decide, Tryz.func111.trans (congrArg some (by kernel_rfl))⟩
  f14 := ⟨Tryz.f122.name, by decide, Tryz.func122.trans (congrArg some (by kernel_rfl))⟩
  f15 := Tryz.func123.trans (congrArg some (by kernel_rfl))
  f20 := ⟨Tryz.f126.name, by decide, Tryz.func126.trans (congrArg some (by kernel_rfl))⟩
  f21 := ⟨Tryz.f127.name, by decide, Tryz.func127.trans (congrArg some (by kernel_rfl))⟩
  f22 := ⟨Tryz.f128.name, by decide, Tryz.func128.trans (congrArg some (by kernel_rfl))⟩
  f23 := ⟨Tryz.f129.name, by decide, Tryz.func129.trans (congrArg some (by kernel_rfl))⟩
  f24 := ⟨Tryz.f130.name, by decide, Tryz.func130.trans (congrArg some (by kernel_rfl))⟩
  f25 := ⟨Tryz.f131.name, by decide, Tryz.func131.trans (congrArg some (by kernel_rfl))⟩
  f26 := ⟨Tryz.f132.name, by decide, Tryz.func132.trans (congrArg some (by kernel_rfl))⟩
  f27 := ⟨Tryz.f133.name, by decide, Tryz.func133.trans (congrArg some (by kernel_rfl))⟩
  f28 := Tryz.func134.trans (congrArg some (by kernel_rfl))
  f29 := Tryz.func135.trans (congrArg some (by kernel_rfl))
  f46 := ⟨Tryz.f137.name, by decide, Tryz.func137.trans (congrArg some (by kernel_rfl))⟩
  f47 := Tryz.func138.trans (congrArg some (by kernel_rfl))
  f48 := Tryz.func139.trans (congrArg some (by kernel_rfl))
  f49 := ⟨Tryz.f140.name, by decide, Tryz.func140.trans (congrArg some (by kernel_rfl))⟩
  f50 := ⟨Tryz.f141.name, by decide, Tryz.func141.trans (congrArg some (by kernel_rfl))⟩
  f57 := ⟨Tryz.f142.name, by decide, Tryz.func142.trans (congrArg some (by kernel_rfl))⟩
  t0 := Tryz.underlying0
  a0 := Tryz.isAgg0
  z0 := Tryz.sizeOf0
  v0 := Tryz.zeroValue0
  t3 := Tryz.underlying3
  a3 := Tryz.isAgg3
  z3 := Tryz.sizeOf3
  v3 := Tryz.zeroValue3
  t4 := Tryz.underlying4
  a4 := Tryz.isAgg4
  z4 := Tryz.sizeOf4
  v4 := Tryz.zeroValue4
  t5 := Tryz.underlying5
  a5 := Tryz.isAgg5
  z5 := Tryz.sizeOf5
  v5 := Tryz.zeroValue5
  t9 := Tryz.underlying9
  a9 := Tryz.isAgg9
  z9 := Tryz.sizeOf9
  v9 := Tryz.zeroValue9
  t22 := Tryz.underlying45
  a22 := Tryz.isAgg45
  z22 := Tryz.sizeOf45
  v22 := Tryz.zeroValue45
  t25 := Tryz.underlying174
  a25 := Tryz.isAgg174
  z25 := Tryz.sizeOf174
  v25 := Tryz.zeroValue174
  t39 := Tryz.underlying191
  a39 := Tryz.isAgg191
  z39 := Tryz.sizeOf191
  v39 := Tryz.zeroValue191
  t45 := Tryz.underlying199
  a45 := Tryz.isAgg199
  z45 := Tryz.sizeOf199
  v45 := Tryz.zeroValue199
  t46 := Tryz.underlying200
  a46 := Tryz.isAgg200
  z46 := Tryz.sizeOf200
  v46 := Tryz.zeroValue200
  t50 := Tryz.underlying101
  a50 := Tryz.isAgg101
  z50 := Tryz.sizeOf101
  v50 := Tryz.zeroValue101
  t53 := Tryz.underlying206
  a53 := Tryz.isAgg206
  z53 := Tryz.sizeOf206
  v53 := Tryz.zeroValue206
  t55 := Tryz.underlying208
  a55 := Tryz.isAgg208
  z55 := Tryz.sizeOf208
  v55 := Tryz.zeroValue208
  t66 := Tryz.underlying209
  a66 := Tryz.isAgg209
  z66 := Tryz.sizeOf209
  v66 := Tryz.zeroValue209
  t70 := Tryz.underlying213
  a70 := Tryz.isAgg213
  z70 := Tryz.sizeOf213
  v70 := Tryz.zeroValue213
  t76 := Tryz.underlying215
  a76 := Tryz.isAgg215
  z76 := Tryz.sizeOf215
  v76 := Tryz.zeroValue215
  t77 := Tryz.underlying216
  a77 := Tryz.isAgg216
  z77 := Tryz.sizeOf216
  v77 := Tryz.zeroValue216 }

end Go.Proofs.YtcdpcfnlflpjnaaGreatDoor

