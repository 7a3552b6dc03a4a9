/-
  Joined: Evs, OrdP, NrmP, NrmQ.
-/
import Derived.Test.YtmhngodbnoonhaaDoorProg
import Derived.Deep.RegionHeld3
import Derived.KernelRfl
import Derived.Tactics
import Derived.WalkKit
import Derived.WalkSpells
import Derived.WalkLawsBesides
import Derived.RegionTactic
import Derived.BigQuiet
import Derived.Deep.QuietTactic
import Derived.Deep.Slices
import Derived.Deep.Strs
import Derived.Deep.Fields
import Derived.ChangeSame
import Derived.Handy
import Derived.OwnWalk
import Derived.ChangeSlices
import Derived.Lib.SmallJoins
import Derived.Shelf.Abstract
import Derived.Laws.BytesArg
import Derived.Deep.RegionLaw
import Derived.Laws.OwnMore
import Derived.Laws.CopyOwn
import Derived.Laws.Tables
import Derived.Test.YtmhngodbnoonhaaDoorK02
import Derived.Test.YtmhngodbnoonhaaDoorK07
import Derived.Test.YtmhngodbnoonhaaDoorK23

/-
  Rows of events in memory.
-/
namespace Go.Proofs.YtmhngodbnoonhaaDoor
open Go.RowKit
set_option linter.unusedVariables false
set_option linter.unusedSimpArgs false

def flat4 : List I4 → List Value
  | [] => []
  | x :: xs => [.int .i64 x.1, .int .i64 x.2.1, .int .i64 x.2.2.1, .int .i64 x.2.2.2] ++ flat4 xs
theorem flat4_snoc (es : List I4) (x : I4) : flat4 (es ++ [x]) = flat4 es ++ [.int .i64 x.1, .int .i64 x.2.1, .int .i64 x.2.2.1, .int .i64 x.2.2.2] := by
  induction es with
  | nil => rfl
  | cons y ys ih => simp only [List.cons_append, flat4, ih, List.append_assoc]
theorem flat4_at : ∀ (xs : List I4) (t : Nat), t < xs.length → (flat4 xs)[t * 4]? = some (.int .i64 (xs.getD t (0, 0, 0, 0)).1) ∧ (flat4 xs)[t * 4 + 1]? = some (.int .i64 (xs.getD t (0, 0, 0, 0)).2.1) ∧ (flat4 xs)[t * 4 + 2]? = some (.int .i64 (xs.getD t (0, 0, 0, 0)).2.2.1) ∧ (flat4 xs)[t * 4 + 3]? = some (.int .i64 (xs.getD t (0, 0, 0, 0)).2.2.2)
  | [], t, h => by simp at h
  | x :: xs, 0, _ => ⟨rfl, rfl, rfl, rfl⟩
  | x :: xs, t + 1, h => by
    have ih := flat4_at xs t (by simpa using h)
    have e : (t + 1) * 4 = t * 4 + 1 + 1 + 1 + 1 := by omega
    simp only [flat4, List.cons_append, List.nil_append, e, List.getElem?_cons_succ, List.getD_cons_succ]
    exact ih
def Evs (w : World) (a : Option Addr) (n : Nat) (xs : List I4) : Prop := xs.length = n ∧ n ≤ maxLen ∧ (n = 0 ∨ ∃ g, a = some ⟨g, 0, none⟩ ∧ g < w.heap.size ∧ ∀ t, t < n → w.cell? ⟨g, t * 4, none⟩ = some (.int .i64 (xs.getD t (0, 0, 0, 0)).1) ∧ w.cell? ⟨g, t * 4 + 1, none⟩ = some (.int .i64 (xs.getD t (0, 0, 0, 0)).2.1) ∧ w.cell? ⟨g, t * 4 + 2, none⟩ = some (.int .i64 (xs.getD t (0, 0, 0, 0)).2.2.1) ∧ w.cell? ⟨g, t * 4 + 3, none⟩ = some (.int .i64 (xs.getD t (0, 0, 0, 0)).2.2.2))
theorem evs_slice {w : World} {B : Nat} {v : Value} {xs : List I4} (h : w.ownsRow B 107 4 v xs.length (flat4 xs)) : ∃ a cap, v = .slice a xs.length cap ∧ Evs w a xs.length xs := by
  rcases h.2 with ⟨rfl, h0⟩ | ⟨g, cap, cur, hv, _, _, hnc, hcm, _⟩
  · exact ⟨none, 0, by rw [h0], rfl, by rw [h0]; omega, .inl h0⟩
  · subst hv
    refine ⟨_, cap, rfl, rfl, by omega, .inr ⟨g, rfl, (h.lt g rfl).2, fun t ht => ?_⟩⟩
    obtain ⟨a0, a1, a2, a3⟩ := flat4_at xs t ht
    exact ⟨(h.cellAt _ (by omega)).trans a0, (h.cellAt _ (by omega)).trans a1, (h.cellAt _ (by omega)).trans a2, (h.cellAt _ (by omega)).trans a3⟩
theorem Evs.below {w w' : World} {a : Option Addr} {n : Nat} {xs : List I4} (h : Evs w a n xs) (hb : Below w.heap.size w w') : Evs w' a n xs := by
  obtain ⟨h1, h2, h3 | ⟨g, rfl, hl, hc⟩⟩ := h
  · exact ⟨h1, h2, .inl h3⟩
  · refine ⟨h1, h2, .inr ⟨g, rfl, Nat.lt_of_lt_of_le hl hb.size, fun t ht => ?_⟩⟩
    obtain ⟨c0, c1, c2, c3⟩ := hc t ht
    exact ⟨(hb.cell (p := ⟨g, _, none⟩) hl).trans c0, (hb.cell (p := ⟨g, _, none⟩) hl).trans c1, (hb.cell (p := ⟨g, _, none⟩) hl).trans c2, (hb.cell (p := ⟨g, _, none⟩) hl).trans c3⟩
end Go.Proofs.YtmhngodbnoonhaaDoor


/-
  What must be ahead of what, in plain words: the order of events by numbers, and the clocks that tell it.
-/
namespace Go.Proofs.YtmhngodbnoonhaaDoor
set_option linter.unusedVariables false

inductive Bef (D : Nat → Nat → Bool) : Nat → Nat → Prop
  | one {i k : Nat} : i < k → D i k = true → Bef D i k
  | more {i j k : Nat} : Bef D i j → j < k → D j k = true → Bef D i k
theorem Bef.lt {D : Nat → Nat → Bool} {i k : Nat} (h : Bef D i k) : i < k := by
  induction h with
  | one h _ => exact h
  | more _ h _ ih => omega
theorem Bef.trans {D : Nat → Nat → Bool} {i j k : Nat} (h : Bef D i j) (g : Bef D j k) : Bef D i k := by
  induction g with
  | one h1 h2 => exact .more h h1 h2
  | more _ h1 h2 ih => exact .more ih h1 h2
theorem bef_iff {D : Nat → Nat → Bool} {i k : Nat} : Bef D i k ↔ ∃ j, j < k ∧ D j k = true ∧ (i = j ∨ Bef D i j) := by
  constructor
  · intro h
    cases h with
    | one h1 h2 => exact ⟨i, h1, h2, .inl rfl⟩
    | more h0 h1 h2 => exact ⟨_, h1, h2, .inr h0⟩
  · rintro ⟨j, h1, h2, rfl | h3⟩
    · exact .one h1 h2
    · exact .more h3 h1 h2
def cntT (th : Nat → Nat) (t : Nat) : Nat → Nat
  | 0 => 0
  | n + 1 => cntT th t n + (if th n = t then 1 else 0)
theorem cntT_mono (th : Nat → Nat) (t : Nat) {a b : Nat} (h : a ≤ b) : cntT th t a ≤ cntT th t b := by
  induction b with
  | zero => have : a = 0 := by omega
            subst this; exact Nat.le_refl _
  | succ b ih =>
    by_cases e : a = b + 1
    · subst e; exact Nat.le_refl _
    · have := ih (by omega)
      show _ ≤ cntT th t b + _
      omega
def rk (th : Nat → Nat) (i : Nat) : Nat := cntT th (th i) i + 1
theorem rk_succ (th : Nat → Nat) (i : Nat) : rk th i = cntT th (th i) (i + 1) := by unfold rk; simp [cntT]
theorem rk_lt {th : Nat → Nat} {i j : Nat} (h : th i = th j) (hl : i < j) : rk th i < rk th j := by
  have h1 := cntT_mono th (th i) (show i + 1 ≤ j by omega)
  rw [rk_succ]
  unfold rk
  rw [← h]
  omega
theorem rk_le_iff {th : Nat → Nat} {i j : Nat} (h : th i = th j) : rk th i ≤ rk th j ↔ i ≤ j := by
  constructor
  · intro h1
    by_cases h2 : i ≤ j
    · exact h2
    · have := rk_lt h.symm (show j < i by omega)
      omega
  · intro h1
    by_cases h2 : i = j
    · subst h2; exact Nat.le_refl _
    · have := rk_lt h (show i < j by omega)
      omega
theorem cntT_last (th : Nat → Nat) (t : Nat) : ∀ n, 0 < cntT th t n → ∃ i, i < n ∧ th i = t ∧ rk th i = cntT th t n
  | 0, h => by simp [cntT] at h
  | n + 1, h => by
    by_cases e : th n = t
    · exact ⟨n, by omega, e, by rw [rk_succ, e]⟩
    · have h1 : cntT th t (n + 1) = cntT th t n := by simp [cntT, e]
      rw [h1] at h ⊢
      obtain ⟨i, h2, h3, h4⟩ := cntT_last th t n h
      exact ⟨i, by omega, h3, h4⟩
def joinN (D : Nat → Nat → Bool) (k : Nat) (prev : Nat → Nat → Nat) (t : Nat) : Nat → Nat
  | 0 => 0
  | n + 1 => if D n k then Nat.max (joinN D k prev t n) (prev n t) else joinN D k prev t n
def clkF (D : Nat → Nat → Bool) (th : Nat → Nat) : Nat → Nat → Nat → Nat
  | 0, _, _ => 0
  | n + 1, j, t => if j = n then joinN D n (clkF D th n) t n + (if t = th n then 1 else 0) else clkF D th n j t
def clk (D : Nat → Nat → Bool) (th : Nat → Nat) (k t : Nat) : Nat := clkF D th (k + 1) k t
theorem clkF_clk (D : Nat → Nat → Bool) (th : Nat → Nat) (j t : Nat) : ∀ n, j < n → clkF D th n j t = clk D th j t
  | 0, h => by omega
  | n + 1, h => by
    by_cases e : j = n
    · subst e; rfl
    · have h1 : clkF D th (n + 1) j t = clkF D th n j t := by show (if j = n then _ else _) = _; rw [if_neg e]
      rw [h1]
      exact clkF_clk D th j t n (by omega)
theorem joinN_le {D : Nat → Nat → Bool} {k t x : Nat} {prev : Nat → Nat → Nat} (hx : 0 < x) : ∀ n, x ≤ joinN D k prev t n ↔ ∃ j, j < n ∧ D j k = true ∧ x ≤ prev j t
  | 0 => by simp [joinN]; omega
  | n + 1 => by
    have ih := joinN_le (D := D) (k := k) (t := t) (x := x) (prev := prev) hx n
    by_cases hd : D n k = true
    · have e : joinN D k prev t (n + 1) = Nat.max (joinN D k prev t n) (prev n t) := by show (if D n k then _ else _) = _; rw [if_pos hd]
      rw [e]
      constructor
      · intro h
        by_cases h1 : x ≤ joinN D k prev t n
        · obtain ⟨j, h2, h3, h4⟩ := ih.1 h1
          exact ⟨j, by omega, h3, h4⟩
        · exact ⟨n, by omega, hd, by have h5 : Nat.max (joinN D k prev t n) (prev n t) = max (joinN D k prev t n) (prev n t) := rfl; rw [h5] at h; omega⟩
      · rintro ⟨j, h2, h3, h4⟩
        have h5 : Nat.max (joinN D k prev t n) (prev n t) = max (joinN D k prev t n) (prev n t) := rfl
        rw [h5]
        by_cases h6 : j = n
        · subst h6; omega
        · have := ih.2 ⟨j, by omega, h3, h4⟩
          omega
    · have e : joinN D k prev t (n + 1) = joinN D k prev t n := by show (if D n k then _ else _) = _; rw [if_neg hd]
      rw [e, ih]
      constructor
      · rintro ⟨j, h2, h3, h4⟩
        exact ⟨j, by omega, h3, h4⟩
      · rintro ⟨j, h2, h3, h4⟩
        refine ⟨j, ?_, h3, h4⟩
        by_cases h6 : j = n
        · subst h6; exact absurd h3 hd
        · omega
theorem joinN_eq (D : Nat → Nat → Bool) (th : Nat → Nat) (k t : Nat) : ∀ n, n ≤ k → joinN D k (clkF D th k) t n = joinN D k (clk D th) t n
  | 0, _ => rfl
  | n + 1, h => by
    have e1 := joinN_eq D th k t n (by omega)
    have e2 := clkF_clk D th n t k (by omega)
    show (if D n k then _ else _) = (if D n k then _ else _)
    rw [e1, e2]
theorem clk_eq (D : Nat → Nat → Bool) (th : Nat → Nat) (k t : Nat) : clk D th k t = joinN D k (clk D th) t k + (if t = th k then 1 else 0) := by
  have h : clk D th k t = joinN D k (clkF D th k) t k + (if t = th k then 1 else 0) := by show (if k = k then _ else _) = _; rw [if_pos rfl]
  rw [h, joinN_eq D th k t k (Nat.le_refl _)]
theorem clk_le {D : Nat → Nat → Bool} {th : Nat → Nat} (hD : ∀ i k, i < k → th i = th k → D i k = true) : ∀ k t x, 0 < x → (x ≤ clk D th k t ↔ ∃ i, (i = k ∨ Bef D i k) ∧ th i = t ∧ x ≤ rk th i) := by
  intro k
  induction k using Nat.strongRecOn with
  | _ k ih =>
    intro t x hx
    have hj : ∀ y, 0 < y → (y ≤ joinN D k (clk D th) t k ↔ ∃ i, Bef D i k ∧ th i = t ∧ y ≤ rk th i) := by
      intro y hy
      rw [joinN_le hy]
      constructor
      · rintro ⟨j, h1, h2, h3⟩
        obtain ⟨i, h4, h5, h6⟩ := (ih j h1 t y hy).1 h3
        exact ⟨i, bef_iff.2 ⟨j, h1, h2, h4⟩, h5, h6⟩
      · rintro ⟨i, h4, h5, h6⟩
        obtain ⟨j, h1, h2, h3⟩ := bef_iff.1 h4
        exact ⟨j, h1, h2, (ih j h1 t y hy).2 ⟨i, h3, h5, h6⟩⟩
    rw [clk_eq]
    by_cases e : t = th k
    · rw [if_pos e]
      have hc : joinN D k (clk D th) t k = cntT th t k := by
        refine Nat.le_antisymm ?_ ?_
        · by_cases h0 : joinN D k (clk D th) t k = 0
          · omega
          · obtain ⟨i, h1, h2, h3⟩ := (hj _ (by omega)).1 (Nat.le_refl _)
            have h4 := cntT_mono th t (show i + 1 ≤ k by have := h1.lt; omega)
            rw [rk_succ, h2] at h3
            omega
        · by_cases h0 : cntT th t k = 0
          · omega
          · obtain ⟨i, h1, h2, h3⟩ := cntT_last th t k (by omega)
            exact (hj _ (by omega)).2 ⟨i, .one h1 (hD i k h1 (by rw [h2, e])), h2, by omega⟩
      rw [hc]
      have hr : cntT th t k + 1 = rk th k := by unfold rk; rw [e]
      rw [hr]
      constructor
      · intro h
        exact ⟨k, .inl rfl, e.symm, h⟩
      · rintro ⟨i, h1 | h1, h2, h3⟩
        · subst h1; exact h3
        · have := rk_lt (th := th) (show th i = th k by rw [h2, e]) h1.lt
          omega
    · rw [if_neg e, Nat.add_zero, hj x hx]
      constructor
      · rintro ⟨i, h1, h2, h3⟩
        exact ⟨i, .inr h1, h2, h3⟩
      · rintro ⟨i, h1 | h1, h2, h3⟩
        · subst h1; exact absurd h2.symm e
        · exact ⟨i, h1, h2, h3⟩
theorem clk_own {D : Nat → Nat → Bool} {th : Nat → Nat} (hD : ∀ i k, i < k → th i = th k → D i k = true) (k : Nat) : clk D th k (th k) = rk th k := by
  have h0 : 0 < rk th k := by unfold rk; omega
  refine Nat.le_antisymm ?_ ((clk_le hD k (th k) _ h0).2 ⟨k, .inl rfl, rfl, Nat.le_refl _⟩)
  have h1 := (clk_le hD k (th k) _ h0).2 ⟨k, .inl rfl, rfl, Nat.le_refl _⟩
  obtain ⟨i, h2, h3, h4⟩ := (clk_le hD k (th k) (clk D th k (th k)) (by omega)).1 (Nat.le_refl _)
  rcases h2 with h2 | h2
  · subst h2; exact h4
  · have := rk_lt (th := th) h3 h2.lt
    omega
theorem ahead_iff {D : Nat → Nat → Bool} {th : Nat → Nat} (hD : ∀ i k, i < k → th i = th k → D i k = true) (i j : Nat) : (i ≠ j ∧ clk D th i (th i) ≤ clk D th j (th i)) ↔ Bef D i j := by
  have h0 : 0 < rk th i := by unfold rk; omega
  rw [clk_own hD, clk_le hD j (th i) _ h0]
  constructor
  · rintro ⟨hne, x, hx, ht, hr⟩
    have hix : i ≤ x := (rk_le_iff ht.symm).1 hr
    rcases hx with hx | hx
    · subst hx
      exact .one (by omega) (hD i x (by omega) ht.symm)
    · by_cases e : i = x
      · subst e; exact hx
      · exact (Bef.one (show i < x by omega) (hD i x (by omega) ht.symm)).trans hx
  · intro h
    exact ⟨by have := h.lt; omega, i, .inr h, rfl, Nat.le_refl _⟩
end Go.Proofs.YtmhngodbnoonhaaDoor


/-
  The normal form of a schedule, in plain words: the program's by clocks, the specification's by what is used.
-/
namespace Go.Proofs.YtmhngodbnoonhaaDoor
set_option linter.unusedVariables false

def bestS (ok : Nat → Bool) (th : Nat → Nat) : Nat → Option Nat
  | 0 => none
  | n + 1 => if ok n then (match bestS ok th n with | none => some n | some b => if th n < th b then some n else some b) else bestS ok th n
def allU (B : Nat → Nat → Bool) (used : Nat → Bool) (k : Nat) : Nat → Bool
  | 0 => true
  | n + 1 => allU B used k n && (used n || !B n k)
def okU (B : Nat → Nat → Bool) (n : Nat) (used : Nat → Bool) (k : Nat) : Bool := !used k && allU B used k n
def stS (B : Nat → Nat → Bool) (th : Nat → Nat) (n : Nat) : Nat → (Nat → Bool) × List Nat
  | 0 => (fun _ => false, [])
  | s + 1 => match bestS (okU B n (stS B th n s).1) th n with
    | none => stS B th n s
    | some b => (fun i => (stS B th n s).1 i || i == b, (stS B th n s).2 ++ [th b])
end Go.Proofs.YtmhngodbnoonhaaDoor


/-
  Normal forms of rows of events: the free event of the least thread first; they are the same for rows that differ by neighbours which do not depend on one another.
-/
namespace Go.Proofs.YtmhngodbnoonhaaDoor
set_option linter.unusedVariables false

theorem depM_symm (x y : I4) : depM x y = depM y x := by
  unfold depM
  by_cases h1 : x.1 = y.1
  · simp [h1]
  · have h1' : ¬ y.1 = x.1 := fun e => h1 e.symm
    by_cases h2 : x.2.2.2 = y.2.2.2
    · simp only [h1, h1', h2, decide_false, Bool.false_or, decide_true, Bool.and_true]
      rw [Bool.and_comm (decide (x.2.2.1 = 1))]
    · have h2' : ¬ y.2.2.2 = x.2.2.2 := fun e => h2 e.symm
      simp [h1, h1', h2, h2']
theorem depM_thread {x y : I4} (h : x.1 = y.1) : depM x y = true := by unfold depM; simp [h]
def Sw1 (es es' : List I4) : Prop := ∃ a x y b, es = a ++ x :: y :: b ∧ es' = a ++ y :: x :: b ∧ depM x y = false
inductive Sw : List I4 → List I4 → Prop
  | refl (es : List I4) : Sw es es
  | step {es es' es'' : List I4} : Sw es es' → Sw1 es' es'' → Sw es es''
theorem Sw1.symm {es es' : List I4} (h : Sw1 es es') : Sw1 es' es := by
  obtain ⟨a, x, y, b, h1, h2, h3⟩ := h
  exact ⟨a, y, x, b, h2, h1, by rw [depM_symm]; exact h3⟩
theorem Sw.trans {a b c : List I4} (h : Sw a b) (g : Sw b c) : Sw a c := by
  induction g with
  | refl => exact h
  | step _ s ih => exact .step ih s
theorem Sw.symm {a b : List I4} (h : Sw a b) : Sw b a := by
  induction h with
  | refl => exact .refl _
  | step _ s ih => exact (Sw.step (.refl _) s.symm).trans ih
end Go.Proofs.YtmhngodbnoonhaaDoor

