/-
  Joined: Vm3, Parts, Vm4.
-/
import Derived.Test.YtdojjmkpelgcaaaDoorProg
import Derived.Deep.RegionHeld3
import Derived.KernelRfl
import Derived.Tactics
import Derived.WalkKit
import Derived.WalkSpells
import Derived.WalkLawsBesides
import Derived.RegionTactic
import Derived.BigQuiet
import Derived.Deep.QuietTactic
import Derived.Deep.Slices
import Derived.Deep.Strs
import Derived.Deep.Fields
import Derived.ChangeSame
import Derived.Handy
import Derived.OwnWalk
import Derived.ChangeSlices
import Derived.Lib.SmallJoins
import Derived.Shelf.Abstract
import Derived.Deep.RegionLaw
import Derived.Laws.OwnMore
import Derived.Laws.BytesArg
import Derived.Test.YtdojjmkpelgcaaaDoorK01
import Derived.Test.YtdojjmkpelgcaaaDoorK02
import Derived.Test.YtdojjmkpelgcaaaDoorK03
import Derived.Test.YtdojjmkpelgcaaaDoorK04

/-
  The specification's VmOK: l03All, l03Shape, and a program that is right.
-/
namespace Go.Proofs.YtdojjmkpelgcaaaDoor
open Go.RowKit

def allIn (zs : List Int) (n high : Int) : Bool := zs.all (fun z => decide (0 ≤ z ∧ z ≤ high)) && decide ((zs.length : Int) = n)
def shapeOk (m : V4) : Bool := allIn m.1 3 6 && (allIn m.2.1 4 9 && (allIn m.2.2.1 2 3 && allIn m.2.2.2 6 9))
theorem allIn_no {zs : List Int} {n high : Int} {k : Nat} (hk : k < zs.length) (h : ¬ (0 ≤ zs.getD k 0 ∧ zs.getD k 0 ≤ high)) : allIn zs n high = false := by
  unfold allIn
  have : zs.all (fun z => decide (0 ≤ z ∧ z ≤ high)) = false := by
    rw [List.all_eq_false]
    refine ⟨zs.getD k 0, by simp [List.getD, hk], ?_⟩
    simpa using h
  rw [this]; rfl
theorem allIn_end {zs : List Int} {n high : Int} (h : ∀ i, i < zs.length → 0 ≤ zs.getD i 0 ∧ zs.getD i 0 ≤ high) : allIn zs n high = decide ((zs.length : Int) = n) := by
  unfold allIn
  have : zs.all (fun z => decide (0 ≤ z ∧ z ≤ high)) = true := by
    rw [List.all_eq_true]
    intro z hz
    obtain ⟨i, hi, rfl⟩ := List.getElem_of_mem hz
    have := h i hi
    simpa [List.getD, hi] using this
  rw [this]; rfl

end Go.Proofs.YtdojjmkpelgcaaaDoor


/-
  A program's numbers, thread by thread; what a right program's parts are; an append to a row of the call's own as one step of a region that draws.
-/
namespace Go.Proofs.YtdojjmkpelgcaaaDoor
open Go.RowKit

theorem okFrom_mem {n : Nat} : ∀ {xs : List I3} {i : Nat}, okFrom n i xs = true → ∀ x ∈ xs, okI x = true
  | [], _, _, x, hx => by cases hx
  | y :: ys, i, h, x, hx => by
    unfold okFrom at h
    simp only [Bool.and_eq_true] at h
    rcases List.mem_cons.1 hx with rfl | hx
    · exact h.1.1
    · exact okFrom_mem h.2 x hx
theorem progOk_parts {rows : List (List I3)} (h : progOk rows = true) : rows.length = 3 ∧ ∀ r ∈ rows, r.length ≤ 6 ∧ ∀ x ∈ r, okI x = true := by
  unfold progOk at h
  simp only [Bool.and_eq_true, decide_eq_true_eq, List.all_eq_true] at h
  refine ⟨h.1, fun r hr => ?_⟩
  have := h.2 r hr
  unfold codeOk at this
  simp only [Bool.and_eq_true, decide_eq_true_eq] at this
  exact ⟨this.1, okFrom_mem this.2⟩
theorem step_append_mine {P : Program} {ops : Array Oper} {o : Oper} {a : Act} {w : World} {K : Act → World → Prop} {Q : Exit → Act → World → Prop} {E : Prop}
    (hg : o.guard = none) (s x : Operand) (t : TypeId) (hop : o.op = Op.call { callee := Callee.builtin Builtin.append, args := #[s, x], argTypes := #[t, t] })
    (base : Nat) (e : TypeId) (i : TypeInfo) (z : Value) (size bytes : Nat) (h1 : P.underlying t = some (.slice e)) (h2 : P.info? e = some i) (h3 : i.zero = some z) (h4 : i.size = size) (h5 : i.bytes = bytes) (h6 : z.cells.size = size) (h7 : 0 < size)
    (v : Value) (n : Nat) (olds : List Value) (hs : a.eval s = v) (hown : w.ownsRow base e size v n olds)
    (ad : Addr) (m c : Nat) (news : List Value) (hx : a.eval x = .slice (some ad) m c) (hn : news.length = m * size) (hc : ∀ j u, news[j]? = some u → w.cell? (ad.add j) = some u) (h1c : ∀ u ∈ news, u.oneCell' = true)
    (b1 : n + m ≤ maxLen) (b2 : (n + m) * bytes ≤ 140737488355328) (hbw : base ≤ w.heap.size)
    (hK : ∀ v' w', w'.ownsRow base e size v' (n + m) (olds ++ news) → w.grownBy w' v.ownBlock → K (a.put o.dst v') w') :
    if Region.wanted o (yielded ops a.tmps) = true then Oper.wp P o a w K Q else E := by
  have hw : Region.wanted o (yielded ops a.tmps) = true := by simp [Region.wanted, hg]
  rw [if_pos hw]
  obtain ⟨v', w', hrun, r1, r2, _⟩ := run_append_own (P := P) w base t o.type e i z size bytes h1 h2 h3 h4 h5 h6 h7 v n olds hown ad m c news hn hc h1c b1 b2 hbw
  subst hs
  unfold Oper.wp
  simp [execOp, hop, resolve, invoke, builtin, hx, hrun, Result.andThen]
  exact hK v' w' r1 r2
theorem cell_three_new (w : World) (x y z : Value) (t : TypeId) : ∀ j u, [x, y, z][j]? = some u → (w.alloc (.cells #[x, y, z] t)).cell? ((⟨w.heap.size, 0, none⟩ : Addr).add j) = some u := by
  intro j u hj
  match j, hj with
  | 0, hj => simp at hj; subst hj; simp [Addr.add]
  | 1, hj => simp at hj; subst hj; simp [Addr.add]
  | 2, hj => simp at hj; subst hj; simp [Addr.add]
  | (j + 3), hj => simp at hj
end Go.Proofs.YtdojjmkpelgcaaaDoor


/-
  The specification's key of a state that has its shape: a digit of each number.
-/
namespace Go.Proofs.YtdojjmkpelgcaaaDoor
open Go.RowKit

def allOf (m : V4) : List Int := ((m.1 ++ m.2.1) ++ m.2.2.1) ++ m.2.2.2
theorem allIn_parts {zs : List Int} {n high : Int} (h : allIn zs n high = true) : (zs.length : Int) = n ∧ ∀ z ∈ zs, 0 ≤ z ∧ z ≤ high := by
  unfold allIn at h
  simp at h
  exact ⟨h.2, h.1⟩
theorem shape_parts {m : V4} (h : shapeOk m = true) : m.1.length = 3 ∧ m.2.1.length = 4 ∧ m.2.2.1.length = 2 ∧ m.2.2.2.length = 6 ∧ ∀ z ∈ allOf m, 0 ≤ z ∧ z ≤ 9 := by
  unfold shapeOk at h
  simp only [Bool.and_eq_true] at h
  obtain ⟨h0, h1, h2, h3⟩ := h
  obtain ⟨l0, e0⟩ := allIn_parts h0
  obtain ⟨l1, e1⟩ := allIn_parts h1
  obtain ⟨l2, e2⟩ := allIn_parts h2
  obtain ⟨l3, e3⟩ := allIn_parts h3
  refine ⟨by omega, by omega, by omega, by omega, fun z hz => ?_⟩
  unfold allOf at hz
  simp only [List.mem_append] at hz
  rcases hz with ((hz | hz) | hz) | hz
  · have := e0 z hz; omega
  · exact e1 z hz
  · have := e2 z hz; omega
  · exact e3 z hz
theorem ints_news {w : World} {b off n c : Nat} {zs : List Int} (h : Ints .i64 w (some ⟨b, off, none⟩) n c zs) : ∀ j u, (zs.map (Value.int .i64))[j]? = some u → w.cell? ((⟨b, off, none⟩ : Addr).add j) = some u := by
  obtain ⟨hl, _, _, h0⟩ := h
  intro j u hj
  have hjl : j < zs.length := by
    rcases Nat.lt_or_ge j zs.length with h | h
    · exact h
    · simp [List.getElem?_eq_none h] at hj
  rcases h0 with h0 | ⟨b', off', ha, _, hc⟩
  · omega
  · cases ha
    have e : (⟨b, off, none⟩ : Addr).add j = ⟨b, off + j, none⟩ := by unfold Addr.add; split <;> simp_all
    rw [e, hc j (by omega)]
    simp [hjl] at hj
    simp [List.getD, hjl, hj]
theorem one_i64s (zs : List Int) : ∀ u ∈ zs.map (Value.int .i64), u.oneCell' = true := by intro u hu; obtain ⟨z, _, rfl⟩ := List.mem_map.1 hu; rfl
theorem own_empty (w : World) (t s B : Nat) (hB : B ≤ w.heap.size) : (w.alloc (.cells #[] t)).ownsRow B t s (.slice (some ⟨w.heap.size, 0, none⟩) 0 0) 0 [] := World.ownsRow_lit w #[] 0 hB (by unfold maxLen; omega) (by simp)
theorem some_of_ints {w : World} {a : Option Addr} {n c k : Nat} {zs : List Int} (h : Ints .i64 w a n c zs) (hl : zs.length = k) (hk : 0 < k) : n = k ∧ ∃ b off, a = some ⟨b, off, none⟩ := by
  have hn : n = k := h.1.symm.trans hl
  rcases h.2.2.2 with h0 | ⟨b, off, ha, _⟩
  · omega
  · exact ⟨hn, b, off, ha⟩

end Go.Proofs.YtdojjmkpelgcaaaDoor

