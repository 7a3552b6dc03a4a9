/-
  Joined: RunS, FulP, Ev0, Evs, CmtQ, FulQ, FulB, FulD.
-/
import Derived.Test.YtcdpcfnlflpjnaaGreatDoorProg
import Derived.Deep.RegionHeld3
import Derived.KernelRfl
import Derived.Tactics
import Derived.WalkKit
import Derived.WalkSpells
import Derived.WalkLawsBesides
import Derived.RegionTactic
import Derived.BigQuiet
import Derived.Deep.QuietTactic
import Derived.Deep.Slices
import Derived.Deep.Strs
import Derived.Deep.Fields
import Derived.ChangeSame
import Derived.Handy
import Derived.OwnWalk
import Derived.ChangeSlices
import Derived.Lib.SmallJoins
import Derived.Shelf.Abstract
import Derived.Laws.BytesArg
import Derived.Deep.RegionLaw
import Derived.Laws.OwnMore
import Derived.Laws.CopyOwn
import Derived.Laws.Tables
import Derived.BigRegion
import Derived.Maps.AppendAt
import Derived.Stop.Asserts
import Derived.Recover
import Derived.Laws.RangeString
import Derived.Laws.RangeAny
import Derived.Laws.Bits
import Derived.Lib.FieldsP
import Derived.Shelf.SlSortCmp.NoneTotal
import Derived.Shelf.Spec.SlicesGrow
import Derived.Laws.AppendOwnNone
import Derived.Lib.SliceRun
import Derived.Deep.MidRow
import Derived.Test.YtcdpcfnlflpjnaaGreatDoorK01
import Derived.Test.YtcdpcfnlflpjnaaGreatDoorK02
import Derived.Test.YtcdpcfnlflpjnaaGreatDoorK05
import Derived.Test.YtcdpcfnlflpjnaaGreatDoorK07
import Derived.Test.YtcdpcfnlflpjnaaGreatDoorK08
import Derived.Test.YtcdpcfnlflpjnaaGreatDoorK15
import Derived.Test.YtcdpcfnlflpjnaaGreatDoorK23
import Derived.Test.YtcdpcfnlflpjnaaGreatDoorK24
import Derived.Test.YtcdpcfnlflpjnaaGreatDoorK25
import Derived.Test.YtcdpcfnlflpjnaaGreatDoorK28
import Derived.Test.YtcdpcfnlflpjnaaGreatDoorK29
import Derived.Test.YtcdpcfnlflpjnaaGreatDoorK32
import Derived.Test.YtcdpcfnlflpjnaaGreatDoorK35

/-
  The specification's l04Run.
-/
namespace Go.Proofs.YtcdpcfnlflpjnaaGreatDoor
open Go.RowKit
set_option linter.unusedVariables false
set_option linter.unusedSimpArgs false

theorem foundM_ok {rows : List (List I3)} {m : V4} {k : Int} (hp : progOk rows = true) (hs : shapeOk m = true) (hz : haltM rows m k = 0) : (∀ x ∈ foundM rows m k, okB x = true) ∧ (foundM rows m k).length ≤ 2 := by
  have h1 := ownM_ok hp hs hz
  have h2 := ownM_len rows m k
  unfold foundM
  split
  · refine ⟨fun x hx => ?_, ?_⟩
    · rw [mem_putB] at hx
      rcases hx with hx | hx
      · exact h1 x hx
      · subst hx; rfl
    · have := putB_len (ownM rows m k) (14, 0, 0)
      omega
  · exact ⟨h1, by omega⟩
theorem mergeB_ok {xs ys : List I3} (h : ∀ x ∈ xs, okB x = true) (k : ∀ x ∈ ys, okB x = true) : ∀ x ∈ mergeB xs ys, okB x = true := fun x hx => by
  rw [mem_mergeB] at hx
  exact hx.elim (h x) (k x)

theorem instrs_rowS {w : World} {B cap : Nat} {a : Option Addr} {xs : List I3} (h : w.ownsRow B 53 3 (.slice a xs.length cap) xs.length (flat xs)) (hf : ∀ x ∈ xs, I3.fits x) : Instrs w a xs.length cap xs := by
  obtain ⟨a', c', e, hI, _⟩ := bugs_sliceR h hf
  cases e
  exact hI
theorem ints_cellS {w : World} {a : Option Addr} {n c : Nat} {ks : List Int} (h : Ints .i64 w a n c ks) {i : Nat} (hi : i < n) : ∃ b off, a = some ⟨b, off, none⟩ ∧ w.cell? ⟨b, off + i, none⟩ = some (.int .i64 (ks.getD i 0)) ∧ b < w.heap.size := by
  obtain ⟨h1, h2, h3, h4⟩ := h
  rcases h4 with h4 | ⟨b, off, ha, hl, hc⟩
  · omega
  · exact ⟨b, off, ha, hc i hi, hl⟩

end Go.Proofs.YtcdpcfnlflpjnaaGreatDoor


/-
  All that is reached, first come first, in plain words: a search over any steps; what it keeps; its bound.
-/
namespace Go.Proofs.YtcdpcfnlflpjnaaGreatDoor
set_option linter.unusedVariables false

section
variable {σ : Type} [DecidableEq σ]
abbrev Rec6 (σ : Type) := σ × Nat × Int
def hasS (S : List (Rec6 σ)) (x : σ) : Bool := S.any fun r => decide (r.1 = x)
theorem hasS_iff {S : List (Rec6 σ)} {x : σ} : hasS S x = true ↔ x ∈ S.map (·.1) := by
  unfold hasS
  simp
def putS (i : Nat) (S : List (Rec6 σ)) (kx : Int × σ) : List (Rec6 σ) := if hasS S kx.2 then S else S ++ [(kx.2, i, kx.1)]
def onS (i : Nat) (S : List (Rec6 σ)) (ts : List (Int × σ)) : List (Rec6 σ) := ts.foldl (putS i) S
def srch (nx : σ → List (Int × σ)) : Nat → Nat → List (Rec6 σ) → List (Rec6 σ)
  | 0, _, S => S
  | f + 1, i, S => match S[i]? with
    | none => S
    | some r => srch nx f (i + 1) (onS i S (nx r.1))
theorem putS_pre (i : Nat) (S : List (Rec6 σ)) (kx : Int × σ) : S <+: putS i S kx := by
  unfold putS
  split
  · exact List.prefix_refl _
  · exact List.prefix_append _ _
theorem onS_pre (i : Nat) : ∀ (ts : List (Int × σ)) (S : List (Rec6 σ)), S <+: onS i S ts
  | [], S => List.prefix_refl _
  | t :: ts, S => (putS_pre i S t).trans (onS_pre i ts (putS i S t))
theorem srch_pre (nx : σ → List (Int × σ)) : ∀ (f i : Nat) (S : List (Rec6 σ)), S <+: srch nx f i S
  | 0, _, S => List.prefix_refl _
  | f + 1, i, S => by
    unfold srch
    split
    · exact List.prefix_refl _
    · exact (onS_pre i _ S).trans (srch_pre nx f (i + 1) _)
theorem srch_end {nx : σ → List (Int × σ)} {f i : Nat} {S : List (Rec6 σ)} (h : S.length ≤ i) : srch nx f i S = S := by
  cases f with
  | zero => rfl
  | succ f => unfold srch; rw [List.getElem?_eq_none h]
theorem srch_go {nx : σ → List (Int × σ)} {f i : Nat} {S : List (Rec6 σ)} (h : i < S.length) : srch nx (f + 1) i S = srch nx f (i + 1) (onS i S (nx (S[i]'h).1)) := by
  conv => lhs; unfold srch
  rw [List.getElem?_eq_getElem h]
theorem onS_cons (i : Nat) (S : List (Rec6 σ)) (t : Int × σ) (ts : List (Int × σ)) : onS i S (t :: ts) = onS i (putS i S t) ts := rfl
theorem putS_has (i : Nat) (S : List (Rec6 σ)) (kx : Int × σ) : kx.2 ∈ (putS i S kx).map (·.1) := by
  unfold putS
  split
  · rename_i h; exact hasS_iff.1 h
  · simp
omit [DecidableEq σ] in
theorem pre_mem {S T : List (Rec6 σ)} {x : σ} (h : S <+: T) (hx : x ∈ S.map (·.1)) : x ∈ T.map (·.1) := by
  obtain ⟨r, rfl⟩ := h
  rw [List.map_append]
  exact List.mem_append_left _ hx
theorem onS_has {i : Nat} : ∀ (ts : List (Int × σ)) (S : List (Rec6 σ)) (t : Int × σ), t ∈ ts → t.2 ∈ (onS i S ts).map (·.1)
  | [], S, t, h => by simp at h
  | u :: ts, S, t, h => by
    rw [onS_cons]
    rcases List.mem_cons.1 h with rfl | h
    · exact pre_mem (onS_pre i ts _) (putS_has i S t)
    · exact onS_has ts _ t h
theorem srch_closed {nx : σ → List (Int × σ)} : ∀ (f i : Nat) (S : List (Rec6 σ)), (∀ j r, j < i → S[j]? = some r → ∀ t ∈ nx r.1, t.2 ∈ S.map (·.1)) → i ≤ S.length → (srch nx f i S).length ≤ i + f →
    ∀ r ∈ srch nx f i S, ∀ t ∈ nx r.1, t.2 ∈ (srch nx f i S).map (·.1)
  | 0, i, S, h, hi, hl => by
    intro r hr t ht
    obtain ⟨j, hj, rfl⟩ := List.getElem_of_mem hr
    have hl' : S.length ≤ i := hl
    exact h j _ (by have : j < S.length := hj; omega) (List.getElem?_eq_getElem hj) t ht
  | f + 1, i, S, h, hi, hl => by
    by_cases he : i < S.length
    · rw [srch_go he] at hl ⊢
      refine srch_closed f (i + 1) _ ?_ ?_ (by omega)
      · intro j r hj hr t ht
        obtain ⟨rest, hrest⟩ := onS_pre i (nx (S[i]'he).1) S
        have hjS : j < S.length := by omega
        have hr' : S[j]? = some r := by
          rw [← hrest, List.getElem?_append_left hjS] at hr
          exact hr
        by_cases e : j = i
        · subst e
          rw [List.getElem?_eq_getElem he] at hr'
          cases hr'
          exact onS_has _ S t ht
        · exact pre_mem ⟨rest, hrest⟩ (h j r (by omega) hr' t ht)
      · have := (onS_pre i (nx (S[i]'he).1) S).length_le
        omega
    · rw [srch_end (by omega)] at hl ⊢
      intro r hr t ht
      obtain ⟨j, hj, rfl⟩ := List.getElem_of_mem hr
      exact h j _ (by omega) (List.getElem?_eq_getElem hj) t ht
end
end Go.Proofs.YtcdpcfnlflpjnaaGreatDoor


/-
  Events: four numbers; an event that came in; who depends on whom.
-/
namespace Go.Proofs.YtcdpcfnlflpjnaaGreatDoor
open Go.RowKit Go.ChangeShapes Go.WideShapes Go.Joins
set_option linter.unusedVariables false
set_option linter.unusedSimpArgs false

abbrev I4 := Int × Int × Int × Int
def I4.val (x : I4) : Value := .agg #[.int .i64 x.1, .int .i64 x.2.1, .int .i64 x.2.2.1, .int .i64 x.2.2.2]

end Go.Proofs.YtcdpcfnlflpjnaaGreatDoor


/-
  Rows of events in memory.
-/
namespace Go.Proofs.YtcdpcfnlflpjnaaGreatDoor
open Go.RowKit
set_option linter.unusedVariables false
set_option linter.unusedSimpArgs false

def flat4 : List I4 → List Value
  | [] => []
  | x :: xs => [.int .i64 x.1, .int .i64 x.2.1, .int .i64 x.2.2.1, .int .i64 x.2.2.2] ++ flat4 xs
theorem flat4_snoc (es : List I4) (x : I4) : flat4 (es ++ [x]) = flat4 es ++ [.int .i64 x.1, .int .i64 x.2.1, .int .i64 x.2.2.1, .int .i64 x.2.2.2] := by
  induction es with
  | nil => rfl
  | cons y ys ih => simp only [List.cons_append, flat4, ih, List.append_assoc]
theorem flat4_at : ∀ (xs : List I4) (t : Nat), t < xs.length → (flat4 xs)[t * 4]? = some (.int .i64 (xs.getD t (0, 0, 0, 0)).1) ∧ (flat4 xs)[t * 4 + 1]? = some (.int .i64 (xs.getD t (0, 0, 0, 0)).2.1) ∧ (flat4 xs)[t * 4 + 2]? = some (.int .i64 (xs.getD t (0, 0, 0, 0)).2.2.1) ∧ (flat4 xs)[t * 4 + 3]? = some (.int .i64 (xs.getD t (0, 0, 0, 0)).2.2.2)
  | [], t, h => by simp at h
  | x :: xs, 0, _ => ⟨rfl, rfl, rfl, rfl⟩
  | x :: xs, t + 1, h => by
    have ih := flat4_at xs t (by simpa using h)
    have e : (t + 1) * 4 = t * 4 + 1 + 1 + 1 + 1 := by omega
    simp only [flat4, List.cons_append, List.nil_append, e, List.getElem?_cons_succ, List.getD_cons_succ]
    exact ih
def Evs (w : World) (a : Option Addr) (n : Nat) (xs : List I4) : Prop := xs.length = n ∧ n ≤ maxLen ∧ (n = 0 ∨ ∃ g, a = some ⟨g, 0, none⟩ ∧ g < w.heap.size ∧ ∀ t, t < n → w.cell? ⟨g, t * 4, none⟩ = some (.int .i64 (xs.getD t (0, 0, 0, 0)).1) ∧ w.cell? ⟨g, t * 4 + 1, none⟩ = some (.int .i64 (xs.getD t (0, 0, 0, 0)).2.1) ∧ w.cell? ⟨g, t * 4 + 2, none⟩ = some (.int .i64 (xs.getD t (0, 0, 0, 0)).2.2.1) ∧ w.cell? ⟨g, t * 4 + 3, none⟩ = some (.int .i64 (xs.getD t (0, 0, 0, 0)).2.2.2))
theorem Evs.below {w w' : World} {a : Option Addr} {n : Nat} {xs : List I4} (h : Evs w a n xs) (hb : Below w.heap.size w w') : Evs w' a n xs := by
  obtain ⟨h1, h2, h3 | ⟨g, rfl, hl, hc⟩⟩ := h
  · exact ⟨h1, h2, .inl h3⟩
  · refine ⟨h1, h2, .inr ⟨g, rfl, Nat.lt_of_lt_of_le hl hb.size, fun t ht => ?_⟩⟩
    obtain ⟨c0, c1, c2, c3⟩ := hc t ht
    exact ⟨(hb.cell (p := ⟨g, _, none⟩) hl).trans c0, (hb.cell (p := ⟨g, _, none⟩) hl).trans c1, (hb.cell (p := ⟨g, _, none⟩) hl).trans c2, (hb.cell (p := ⟨g, _, none⟩) hl).trans c3⟩
end Go.Proofs.YtcdpcfnlflpjnaaGreatDoor


/-
  Neighbours of a schedule that do not depend on one another change places: the same state, the same events.
-/
namespace Go.Proofs.YtcdpcfnlflpjnaaGreatDoor
open Go.RowKit
set_option linter.unusedVariables false
set_option linter.unusedSimpArgs false

theorem halt_go {rows : List (List I3)} {m : V4} {k : Nat} (hk : k < 3) (hc : canM rows m k = true) : haltM rows m (k : Int) = 0 := by
  have hd := (can_parts hc).1
  unfold haltM
  rw [if_pos (by omega), Int.toNat_natCast]
  simp [hd, hc]
end Go.Proofs.YtcdpcfnlflpjnaaGreatDoor


/-
  All that is reached from a new state on: the states' shapes, their keys, and the schedules that lead to them, plain.
-/
namespace Go.Proofs.YtcdpcfnlflpjnaaGreatDoor
set_option linter.unusedVariables false

def nxM (rows : List (List I3)) (m : V4) : List (Int × V4) := (enabM rows m 3).map fun k => (k, (goM rows m k).1)
theorem nxM_mem {rows : List (List I3)} {m : V4} {t : Int × V4} (h : t ∈ nxM rows m) : haltM rows m t.1 = 0 ∧ t.2 = (goM rows m t.1).1 := by
  unfold nxM at h
  obtain ⟨k, hk, rfl⟩ := List.mem_map.1 h
  obtain ⟨i, hi, hie⟩ := List.getElem_of_mem hk
  obtain ⟨k', e, h3, hc⟩ := enab_at hi
  have e2 : (enabM rows m 3).getD i 0 = k := by simp [List.getD, hi, hie]
  rw [e2] at e
  subst e
  exact ⟨halt_go h3 hc, rfl⟩
theorem nxM_shape {rows : List (List I3)} {m : V4} (hp : progOk rows = true) (hs : shapeOk m = true) {t : Int × V4} (h : t ∈ nxM rows m) : shapeOk t.2 = true := by
  obtain ⟨h1, h2⟩ := nxM_mem h
  rw [h2]
  exact goM_shape hp hs h1
def fullS (rows : List (List I3)) : List (Rec6 V4) := srch (nxM rows) 2000 0 [(zeroV, 0, 0)]
def Shaped (S : List (Rec6 V4)) : Prop := ∀ r ∈ S, shapeOk r.1 = true
theorem putS_shaped {i : Nat} {S : List (Rec6 V4)} {t : Int × V4} (h : Shaped S) (ht : shapeOk t.2 = true) : Shaped (putS i S t) := by
  unfold putS
  split
  · exact h
  · intro r hr
    rcases List.mem_append.1 hr with hr | hr
    · exact h r hr
    · simp at hr
      subst hr
      exact ht
theorem onS_shaped {i : Nat} : ∀ (ts : List (Int × V4)) (S : List (Rec6 V4)), Shaped S → (∀ t ∈ ts, shapeOk t.2 = true) → Shaped (onS i S ts)
  | [], S, h, _ => h
  | t :: ts, S, h, ht => onS_shaped ts _ (putS_shaped h (ht t (by simp))) (fun u hu => ht u (by simp [hu]))
theorem srch_shaped {rows : List (List I3)} (hp : progOk rows = true) : ∀ (f i : Nat) (S : List (Rec6 V4)), Shaped S → Shaped (srch (nxM rows) f i S)
  | 0, _, S, h => h
  | f + 1, i, S, h => by
    unfold srch
    split
    · exact h
    · rename_i r hr
      exact srch_shaped hp f (i + 1) _ (onS_shaped _ S h (fun t ht => nxM_shape hp (h r (List.mem_of_getElem? hr)) ht))
theorem fullS_shaped {rows : List (List I3)} (hp : progOk rows = true) : Shaped (fullS rows) := srch_shaped hp _ _ _ (fun r hr => by simp at hr; subst hr; exact zero_shape)
theorem fullS_head (rows : List (List I3)) : (fullS rows)[0]? = some (zeroV, 0, 0) := by
  obtain ⟨r, hr⟩ := srch_pre (nxM rows) 2000 0 [(zeroV, 0, 0)]
  unfold fullS
  rw [← hr]
  rfl
theorem fullS_closed {rows : List (List I3)} (h : (fullS rows).length ≤ 2000) : ∀ r ∈ fullS rows, ∀ t ∈ nxM rows r.1, t.2 ∈ (fullS rows).map (·.1) :=
  srch_closed 2000 0 _ (fun j r hj => by omega) (by omega) (by unfold fullS at h; omega)
end Go.Proofs.YtcdpcfnlflpjnaaGreatDoor


/-
  How many states a short program has: no more than beginnings of schedules.
-/
namespace Go.Proofs.YtcdpcfnlflpjnaaGreatDoor
set_option linter.unusedVariables false

def remM (rows : List (List I3)) (m : V4) (k : Nat) : Nat := (codeM rows k).length - (m.1.getD k 0).toNat
end Go.Proofs.YtcdpcfnlflpjnaaGreatDoor


/-
  How many schedules there are, both ways, plain.
-/
namespace Go.Proofs.YtcdpcfnlflpjnaaGreatDoor
set_option linter.unusedVariables false

def capN (n : Nat) : Nat := Nat.min n 1000000
def cntF (rows : List (List I3)) : Nat → V4 → Nat
  | 0, _ => 1
  | f + 1, m => if enabM rows m 3 = [] then 1 else capN ((enabM rows m 3).map fun k => cntF rows f (goM rows m k).1).sum
def leftN (rows : List (List I3)) (m : V4) : Nat := remM rows m 0 + remM rows m 1 + remM rows m 2
def cntM (rows : List (List I3)) (m : V4) : Nat := cntF rows (leftN rows m) m
theorem enab_halt {rows : List (List I3)} {m : V4} {k : Int} (h : k ∈ enabM rows m 3) : haltM rows m k = 0 := (nxM_mem (t := (k, (goM rows m k).1)) (List.mem_map.2 ⟨k, h, rfl⟩)).1
end Go.Proofs.YtcdpcfnlflpjnaaGreatDoor

