/-
  Joined: StrS, VmDraw, MrgB, SrtB, RunQ, RpG.
-/
import Derived.Test.YtcdpcfnlflpjnaaDoorProg
import Derived.Deep.RegionHeld3
import Derived.KernelRfl
import Derived.Tactics
import Derived.WalkKit
import Derived.WalkSpells
import Derived.WalkLawsBesides
import Derived.RegionTactic
import Derived.BigQuiet
import Derived.Deep.QuietTactic
import Derived.Deep.Slices
import Derived.Deep.Strs
import Derived.Deep.Fields
import Derived.ChangeSame
import Derived.Handy
import Derived.OwnWalk
import Derived.ChangeSlices
import Derived.Lib.SmallJoins
import Derived.Shelf.Abstract
import Derived.Laws.BytesArg
import Derived.Deep.RegionLaw
import Derived.Laws.OwnMore
import Derived.Laws.CopyOwn
import Derived.Laws.Tables
import Derived.BigRegion
import Derived.Maps.AppendAt
import Derived.Laws.RangeString
import Derived.Laws.RangeAny
import Derived.Laws.Bits
import Derived.Lib.FieldsP
import Derived.Shelf.SlSortCmp.NoneTotal
import Derived.Shelf.Spec.SlicesGrow
import Derived.Laws.AppendOwnNone
import Derived.Lib.SliceRun
import Derived.Stop.Asserts
import Derived.Recover
import Derived.Test.YtcdpcfnlflpjnaaDoorQ01
import Derived.Test.YtcdpcfnlflpjnaaDoorQ02
import Derived.Test.YtcdpcfnlflpjnaaDoorQ03
import Derived.Test.YtcdpcfnlflpjnaaDoorQ06
import Derived.Test.YtcdpcfnlflpjnaaDoorQ09
import Derived.Test.YtcdpcfnlflpjnaaDoorQ10
import Derived.Test.YtcdpcfnlflpjnaaDoorQ11
import Derived.Test.YtcdpcfnlflpjnaaDoorQ18
import Derived.Test.YtcdpcfnlflpjnaaDoorQ20
import Derived.Test.YtcdpcfnlflpjnaaDoorQ25
import Derived.Test.YtcdpcfnlflpjnaaDoorQ26
import Derived.Test.YtcdpcfnlflpjnaaDoorQ30
import Derived.Test.YtcdpcfnlflpjnaaDoorQ31

/-
  Slices of strings in memory, and the laws' helpers that compare them (eqStringS).
-/
namespace Go.Proofs.YtcdpcfnlflpjnaaDoor
open Go.RowKit

def Strs (w : World) (a : Option Addr) (len cap : Nat) (ts : List ByteArray) : Prop :=
  ts.length = len ∧ len ≤ cap ∧ cap ≤ maxLen ∧
  (len = 0 ∨ ∃ b off, a = some ⟨b, off, none⟩ ∧ b < w.heap.size ∧ ∀ t, t < len → w.cell? ⟨b, off + t, none⟩ = some (.string (ts.getD t ByteArray.empty)))

theorem Strs.below {w w' : World} {a : Option Addr} {len cap : Nat} {ts : List ByteArray} (h : Strs w a len cap ts) (hb : Below w.heap.size w w') : Strs w' a len cap ts := by
  obtain ⟨h1, h2, h3, h4⟩ := h
  refine ⟨h1, h2, h3, ?_⟩
  rcases h4 with h4 | ⟨b, off, ha, hlt, hc⟩
  · exact .inl h4
  · exact .inr ⟨b, off, ha, by have := hb.size; omega, fun t ht => by rw [hb.cell (p := ⟨b, off + t, none⟩) hlt]; exact hc t ht⟩

def OwnT (base : Nat) (w : World) (a : Option Addr) (n cap : Nat) (ts : List ByteArray) : Prop :=
  ts.length = n ∧ n ≤ cap ∧ cap ≤ maxLen ∧ (n = 0 ∨ ∃ g, a = some ⟨g, 0, none⟩ ∧ w.ownsRow base 9 1 (.slice (some ⟨g, 0, none⟩) n cap) n (ts.map Value.string))

theorem OwnT.strs {base : Nat} {w : World} {a : Option Addr} {n cap : Nat} {ts : List ByteArray} (h : OwnT base w a n cap ts) : Strs w a n cap ts := by
  obtain ⟨h1, h2, h3, h4⟩ := h
  refine ⟨h1, h2, h3, ?_⟩
  rcases h4 with h4 | ⟨g, ha, h4⟩
  · exact .inl h4
  · refine .inr ⟨g, 0, ha, (h4.lt g rfl).2, fun t ht => ?_⟩
    have := h4.cellAt t (by simp; omega)
    rw [Nat.zero_add, this]
    simp [List.getElem?_eq_getElem (show t < ts.length by omega)]

theorem OwnT.of_owns {base : Nat} {w : World} {v : Value} {n : Nat} {ts : List ByteArray} (h : w.ownsRow base 9 1 v n (ts.map Value.string)) : ∃ a cap, v = .slice a n cap ∧ OwnT base w a n cap ts := by
  have hl : ts.length = n := by simpa using h.1
  rcases h.2 with ⟨h0, hn⟩ | ⟨g', cap', cur, hv, _, _, hn, hcap, _, _⟩
  · subst hn
    exact ⟨none, 0, h0, hl, Nat.le_refl _, by unfold maxLen; omega, .inl rfl⟩
  · subst hv
    exact ⟨some ⟨g', 0, none⟩, cap', rfl, hl, hn, hcap, .inr ⟨g', rfl, h⟩⟩

theorem OwnT.kept {base : Nat} {w w' : World} {a : Option Addr} {n cap : Nat} {ts : List ByteArray} (h : OwnT base w a n cap ts) (hb : Below w.heap.size w w') : OwnT base w' a n cap ts := by
  obtain ⟨h1, h2, h3, h4⟩ := h
  refine ⟨h1, h2, h3, ?_⟩
  rcases h4 with h4 | ⟨g, ha, h4⟩
  · exact .inl h4
  · refine .inr ⟨g, ha, h4.1, ?_⟩
    have hlt := (h4.lt g rfl).2
    rcases h4.2 with h0 | ⟨g', cap', cur, hv, hg, hh, hr⟩
    · exact .inl h0
    · cases hv
      exact .inr ⟨g, cap, cur, rfl, hg, by rw [hb.block _ hlt]; exact hh, hr⟩

theorem OwnT.block {base : Nat} {w : World} {a : Option Addr} {n cap : Nat} {ts : List ByteArray} (h : OwnT base w a n cap ts) : ∀ x, a = some x → n ≠ 0 → x.block < w.heap.size := by
  intro x hx hn
  rcases h.2.2.2 with h0 | ⟨g, e, ho⟩
  · exact absurd h0 hn
  · rw [e] at hx
    cases hx
    exact (ho.lt g rfl).2

end Go.Proofs.YtcdpcfnlflpjnaaDoor


/-
  The specification's drawn state: a state that a program comes to, in memory of its own; it has its shape.
-/
namespace Go.Proofs.YtcdpcfnlflpjnaaDoor
open Go.RowKit
set_option linter.unusedVariables false
set_option linter.unusedSimpArgs false

theorem OwnV.lowerB {B B' : Nat} {w : World} {s : S4} {m : V4} (h : OwnV w B s m) (hB : B' ≤ B) : OwnV w B' s m := ⟨⟨own_lower h.1.1 hB, own_lower h.1.2.1 hB, own_lower h.1.2.2.1 hB, own_lower h.1.2.2.2 hB⟩, h.2⟩
theorem zero_shape : shapeOk zeroV = true := by decide
theorem step_store_blkD {P : Program} {ops : Array Oper} {o : Oper} {a : Act} {w : World} {K : Act → World → Prop} {Q : Exit → Act → World → Prop} {E : Prop} (hgd : o.guard = none) (ty : TypeId) (x y : Operand) (ho : o.op = .store ty x y) (g : Nat) (vs : List Value) (hx : a.eval x = .pointer (some ⟨g, 0, none⟩)) (hy : a.eval y = .agg vs.toArray) {t : Nat} {cs : List Value} (hB : Blk w g t cs)
    (hi : (P.info? ty).map (·.size) = some vs.length) (hl : cs.length = vs.length) (h1 : vs.all (·.oneCell') = true)
    (h : ∀ w', Hid (Blk w' g t vs) → w.grownBy w' (some g) → K (a.put o.dst undef) w') : if Region.wanted o (yielded ops a.tmps) = true then Oper.wp P o a w K Q else E := by
  have hw : Region.wanted o (yielded ops a.tmps) = true := by simp [Region.wanted, hgd]
  rw [if_pos hw]
  exact wp_store_row ty x y ho g vs.toArray hx hy t cs.toArray hB (by simpa using hi) (by simpa using hl) (by simpa using h1) (h _ (blk_setRow vs hB) (grown_setRow _ _ _))
end Go.Proofs.YtcdpcfnlflpjnaaDoor



/-
  The specification's l04Merge, l04All, MergeBugs; the program's bugsOK.
-/
namespace Go.Proofs.YtcdpcfnlflpjnaaDoor
open Go.RowKit
set_option linter.unusedVariables false
set_option linter.unusedSimpArgs false

def BugsOne (e : Ending) (w : World) (B : Nat) (zs : List I3) : Prop := ∃ v, e = .returned v ∧ w.ownsRow B 43 3 v zs.length (flat zs)
end Go.Proofs.YtcdpcfnlflpjnaaDoor


/-
  The program's mergedBugs: concat, sort, compact: both lists merged; MergeBugs.
-/
namespace Go.Proofs.YtcdpcfnlflpjnaaDoor
open Go.RowKit Go.Sort Go.Shelf
set_option linter.unusedVariables false
set_option linter.unusedSimpArgs false

def GoodS (a : Option Addr) (c : Nat) : Prop := (a = none → c = 0) ∧ ∀ x, a = some x → x.spot = none
end Go.Proofs.YtcdpcfnlflpjnaaDoor


/-
  Runs in plain words, more: what a run keeps are right bugs, and its states have their shape.
-/
namespace Go.Proofs.YtcdpcfnlflpjnaaDoor
open Go.RowKit
set_option linter.unusedVariables false

theorem step_codeQ (m : V4) (x : I3) (k : Nat) : (stepM m x k).2 = 0 ∨ (stepM m x k).2 = 12 ∨ (stepM m x k).2 = 13 := by
  unfold stepM
  repeat' split
  all_goals simp
theorem ownM_ok {rows : List (List I3)} {m : V4} {k : Int} (hp : progOk rows = true) (hs : shapeOk m = true) (hz : haltM rows m k = 0) : ∀ x ∈ ownM rows m k, okB x = true := by
  obtain ⟨h0, h2, hd, hc⟩ := halt_can hz
  obtain ⟨q, rfl⟩ : ∃ q : Nat, k = q := ⟨k.toNat, by omega⟩
  rw [Int.toNat_natCast] at hd
  have hq : q < 3 := by omega
  obtain ⟨p, ep, hlt, _, _⟩ := at_ins hp hs hq hd
  have hl6 := (codeM_len hp hq).1
  have hf := step_codeQ m (insM rows m q) q
  intro x hx
  unfold ownM goM at hx
  rw [Int.toNat_natCast] at hx
  split at hx
  · simp at hx
  · rename_i h9
    simp only [List.mem_singleton] at hx
    subst hx
    unfold okB
    simp only
    have h12 : (stepM m (insM rows m q) q).2 = 12 ∨ (stepM m (insM rows m q) q).2 = 13 := by omega
    rw [if_neg (by omega), if_pos h12, ep]
    rw [Bool.and_eq_true]
    exact ⟨inB_true.2 (by omega), inB_true.2 (by omega)⟩
theorem goM_shape {rows : List (List I3)} {m : V4} {k : Int} (hp : progOk rows = true) (hs : shapeOk m = true) (hz : haltM rows m k = 0) : shapeOk (goM rows m k).1 = true := by
  obtain ⟨h0, h2, hd, hc⟩ := halt_can hz
  exact shape_step hp hs (by omega) hd
theorem okB_fitsQ {x : I3} (h : okB x = true) : I3.fits x := by
  unfold okB at h
  split at h
  · rename_i h1
    simp only [Bool.and_eq_true, decide_eq_true_eq] at h
    exact ⟨fits_small (by omega) (by omega), fits_small (by omega) (by omega), fits_small (by omega) (by omega)⟩
  · split at h
    · rename_i h1
      rw [Bool.and_eq_true] at h
      have a := inB_true.1 h.1
      have b := inB_true.1 h.2
      exact ⟨fits_small (by omega) (by omega), fits_small (by omega) (by omega), fits_small (by omega) (by omega)⟩
    · cases h
end Go.Proofs.YtcdpcfnlflpjnaaDoor


/-
  A new replay of a right program, and of another; a replay's bugs.
-/
namespace Go.Proofs.YtcdpcfnlflpjnaaDoor
open Go.RowKit
set_option linter.unusedVariables false
set_option linter.unusedSimpArgs false

theorem bugs_sliceR {w : World} {B : Nat} {v : Value} {xs : List I3} (h : w.ownsRow B 43 3 v xs.length (flat xs)) (hf : ∀ x ∈ xs, I3.fits x) : ∃ a cap, v = .slice a xs.length cap ∧ Instrs w a xs.length cap xs ∧ GoodS a cap := by
  rcases h.2 with ⟨rfl, h0⟩ | ⟨g, cap, cur, hv, _⟩
  · exact ⟨none, 0, by rw [h0], ⟨rfl, by omega, by unfold maxLen; omega, hf, .inl h0⟩, fun _ => rfl, fun x hx => by cases hx⟩
  · subst hv
    exact ⟨_, _, rfl, Instrs.of_owns h rfl hf rfl, (fun h => by cases h), fun x hx => by cases hx; rfl⟩

end Go.Proofs.YtcdpcfnlflpjnaaDoor

