/-
  Joined: BugPl, RunPl, RunQ, Src, Src2.
-/
import Derived.Test.YtmhngodbnoonhaaDoorProg
import Derived.Deep.RegionHeld3
import Derived.KernelRfl
import Derived.Tactics
import Derived.WalkKit
import Derived.WalkSpells
import Derived.WalkLawsBesides
import Derived.RegionTactic
import Derived.BigQuiet
import Derived.Deep.QuietTactic
import Derived.Deep.Slices
import Derived.Deep.Strs
import Derived.Deep.Fields
import Derived.ChangeSame
import Derived.Handy
import Derived.ChangeSlices
import Derived.Lib.SmallJoins
import Derived.OwnWalk
import Derived.Shelf.Abstract
import Derived.Laws.BytesArg
import Derived.Deep.RegionLaw
import Derived.Laws.OwnMore
import Derived.BigRegion
import Derived.Laws.CopyOwn
import Derived.Laws.Tables
import Derived.Maps.AppendAt
import Derived.Test.YtmhngodbnoonhaaDoorK01
import Derived.Test.YtmhngodbnoonhaaDoorK02
import Derived.Test.YtmhngodbnoonhaaDoorK04
import Derived.Test.YtmhngodbnoonhaaDoorK07
import Derived.Test.YtmhngodbnoonhaaDoorK16
import Derived.Test.YtmhngodbnoonhaaDoorK23
import Derived.Test.YtmhngodbnoonhaaDoorK24

/-
  Bugs in order, in plain words: by kind, thread, place; a list in which each comes once, in order, is told by what it holds; put, merge, and a sorted list without its doubles.
-/
namespace Go.Proofs.YtmhngodbnoonhaaDoor
open Go.RowKit
set_option linter.unusedVariables false

def ltB (a b : I3) : Bool := decide (a.1 < b.1 ∨ (a.1 = b.1 ∧ (a.2.1 < b.2.1 ∨ (a.2.1 = b.2.1 ∧ a.2.2 < b.2.2))))
theorem ltB_iff {a b : I3} : ltB a b = true ↔ a.1 < b.1 ∨ (a.1 = b.1 ∧ (a.2.1 < b.2.1 ∨ (a.2.1 = b.2.1 ∧ a.2.2 < b.2.2))) := by simp [ltB]
theorem ltB_irrefl (a : I3) : ltB a a = false := by
  cases h : ltB a a
  · rfl
  · rw [ltB_iff] at h; omega
theorem ltB_trans {a b c : I3} (h : ltB a b = true) (k : ltB b c = true) : ltB a c = true := by
  rw [ltB_iff] at *; omega
theorem ltB_asymm {a b : I3} (h : ltB a b = true) : ltB b a = false := by
  cases k : ltB b a
  · rfl
  · rw [ltB_iff] at h k; omega
theorem ltB_total {a b : I3} (h : ltB a b = false) (k : ltB b a = false) : a = b := by
  obtain ⟨a0, a1, a2⟩ := a
  obtain ⟨b0, b1, b2⟩ := b
  have h' : ¬ ltB (a0, a1, a2) (b0, b1, b2) = true := by simp [h]
  have k' : ¬ ltB (b0, b1, b2) (a0, a1, a2) = true := by simp [k]
  rw [ltB_iff] at h' k'
  simp only at h' k'
  have e0 : a0 = b0 := by omega
  have e1 : a1 = b1 := by omega
  have e2 : a2 = b2 := by omega
  rw [e0, e1, e2]

def Rises (l : List I3) : Prop := l.Pairwise fun a b => ltB a b = true
theorem Rises.same : ∀ {l k : List I3}, Rises l → Rises k → (∀ x, x ∈ l ↔ x ∈ k) → l = k
  | [], [], _, _, _ => rfl
  | [], b :: k, _, _, h => by have := (h b).2 (by simp); simp at this
  | a :: l, [], _, _, h => by have := (h a).1 (by simp); simp at this
  | a :: l, b :: k, hl, hk, h => by
    have hl' := List.pairwise_cons.1 hl
    have hk' := List.pairwise_cons.1 hk
    have e : a = b := by
      rcases List.mem_cons.1 ((h a).1 (by simp)) with e | e
      · exact e
      rcases List.mem_cons.1 ((h b).2 (by simp)) with e' | e'
      · exact e'.symm
      have h1 := hk'.1 a e
      have h2 := hl'.1 b e'
      rw [ltB_asymm h1] at h2
      cases h2
    subst e
    rw [Rises.same hl'.2 hk'.2 (fun x => ?_)]
    constructor
    · intro hx
      rcases List.mem_cons.1 ((h x).1 (List.mem_cons_of_mem _ hx)) with e | e
      · subst e
        have := hl'.1 x hx
        rw [ltB_irrefl] at this
        cases this
      · exact e
    · intro hx
      rcases List.mem_cons.1 ((h x).2 (List.mem_cons_of_mem _ hx)) with e | e
      · subst e
        have := hk'.1 x hx
        rw [ltB_irrefl] at this
        cases this
      · exact e

def putB : List I3 → I3 → List I3
  | [], b => [b]
  | x :: xs, b => if ltB x b then x :: putB xs b else if x = b then x :: xs else b :: x :: xs
theorem mem_putB {x b : I3} : ∀ {l : List I3}, x ∈ putB l b ↔ x ∈ l ∨ x = b
  | [] => by simp [putB]
  | y :: l => by
    have ih := mem_putB (x := x) (b := b) (l := l)
    unfold putB
    split
    · simp [ih, or_assoc]
    · split
      · rename_i h
        subst h
        simp
        intro e
        exact .inl e
      · simp
        constructor
        · rintro (h | h | h)
          · exact .inr h
          · exact .inl (.inl h)
          · exact .inl (.inr h)
        · rintro ((h | h) | h)
          · exact .inr (.inl h)
          · exact .inr (.inr h)
          · exact .inl h
theorem Rises.put {b : I3} : ∀ {l : List I3}, Rises l → Rises (putB l b)
  | [], _ => by simp [putB, Rises]
  | y :: l, h => by
    have h' := List.pairwise_cons.1 h
    unfold putB
    split
    · rename_i hy
      refine List.pairwise_cons.2 ⟨fun z hz => ?_, Rises.put h'.2⟩
      rcases mem_putB.1 hz with e | e
      · exact h'.1 z e
      · rw [e]; exact hy
    · rename_i hy
      split
      · exact h
      · rename_i hne
        have hby : ltB b y = true := by
          cases k : ltB b y
          · exact absurd (ltB_total (by simpa using hy) k) hne
          · rfl
        refine List.pairwise_cons.2 ⟨fun z hz => ?_, h⟩
        rcases List.mem_cons.1 hz with e | e
        · rw [e]; exact hby
        · exact ltB_trans hby (h'.1 z e)
def putAll (out l : List I3) : List I3 := l.foldl putB out
theorem mem_putAll {x : I3} : ∀ {l out : List I3}, x ∈ putAll out l ↔ x ∈ out ∨ x ∈ l
  | [], out => by simp [putAll]
  | y :: l, out => by
    have ih := mem_putAll (x := x) (l := l) (out := putB out y)
    unfold putAll at *
    rw [List.foldl_cons, ih, mem_putB]
    simp [or_assoc]
theorem Rises.putAll {l : List I3} : ∀ {out : List I3}, Rises out → Rises (putAll out l) := by
  induction l with
  | nil => intro out h; exact h
  | cons y l ih => intro out h; exact ih h.put
def mergeB (a b : List I3) : List I3 := putAll (putAll [] a) b
theorem mergeB_rises (a b : List I3) : Rises (mergeB a b) := Rises.putAll (Rises.putAll List.Pairwise.nil)
theorem mem_mergeB {x : I3} {a b : List I3} : x ∈ mergeB a b ↔ x ∈ a ∨ x ∈ b := by
  unfold mergeB
  rw [mem_putAll, mem_putAll]
  simp
theorem putB_len (l : List I3) (b : I3) : (putB l b).length ≤ l.length + 1 := by
  induction l with
  | nil => simp [putB]
  | cons y l ih =>
    unfold putB
    split
    · simp; omega
    · split <;> simp
theorem putAll_len : ∀ (l out : List I3), (putAll out l).length ≤ out.length + l.length
  | [], out => by simp [putAll]
  | y :: l, out => by
    have := putAll_len l (putB out y)
    have h2 := putB_len out y
    unfold putAll at *
    simp only [List.foldl_cons, List.length_cons]
    omega
theorem mergeB_len (a b : List I3) : (mergeB a b).length ≤ a.length + b.length := by
  have h1 := putAll_len a []
  have h2 := putAll_len b (putAll [] a)
  simp at h1
  unfold mergeB
  omega
def onceB : List I3 → List I3
  | [] => []
  | [x] => [x]
  | x :: y :: l => if x = y then onceB (y :: l) else x :: onceB (y :: l)
theorem onceB_head : ∀ (x : I3) (l : List I3), ∃ t, onceB (x :: l) = x :: t
  | x, [] => ⟨[], rfl⟩
  | x, y :: l => by
    unfold onceB
    split
    · rename_i h
      subst h
      exact onceB_head x l
    · exact ⟨_, rfl⟩
theorem mem_onceB {z : I3} : ∀ {l : List I3}, z ∈ onceB l ↔ z ∈ l
  | [] => by simp [onceB]
  | [x] => by simp [onceB]
  | x :: y :: l => by
    have ih := mem_onceB (z := z) (l := y :: l)
    unfold onceB
    split
    · rename_i h
      subst h
      rw [ih]
      simp
    · simp only [List.mem_cons] at ih ⊢
      rw [ih]
theorem onceB_rises : ∀ {l : List I3}, (l.Pairwise fun a b => ltB b a = false) → Rises (onceB l)
  | [], _ => List.Pairwise.nil
  | [x], _ => by simp [onceB, Rises]
  | x :: y :: l, h => by
    have h' := List.pairwise_cons.1 h
    have ih := onceB_rises h'.2
    unfold onceB
    split
    · exact ih
    · rename_i hne
      refine List.pairwise_cons.2 ⟨fun z hz => ?_, ih⟩
      have hz' := mem_onceB.1 hz
      have hxy : ltB x y = true := by
        cases k : ltB x y
        · exact absurd (ltB_total k (h'.1 y (by simp))) hne
        · rfl
      rcases List.mem_cons.1 hz' with e | e
      · rw [e]; exact hxy
      · have h2 := (List.pairwise_cons.1 h'.2).1 z e
        cases k : ltB x z
        · have hzx := h'.1 z hz'
          have e2 := ltB_total k hzx
          subst e2
          rw [h2] at hxy
          cases hxy
        · rfl
theorem once_merge {a b l : List I3} (hs : l.Pairwise fun a b => ltB b a = false) (hm : ∀ x, x ∈ l ↔ x ∈ a ∨ x ∈ b) : onceB l = mergeB a b :=
  (onceB_rises hs).same (mergeB_rises a b) fun x => by rw [mem_onceB, hm, mem_mergeB]
end Go.Proofs.YtmhngodbnoonhaaDoor


/-
  Runs in plain words: what the program keeps and merges at the end is what the specification merges step by step.
-/
namespace Go.Proofs.YtmhngodbnoonhaaDoor
open Go.RowKit
set_option linter.unusedVariables false

def haltM (rows : List (List I3)) (m : V4) (k : Int) : Int :=
  if 0 ≤ k ∧ k ≤ 2 then (if doneM rows m k.toNat then 10 else if canM rows m k.toNat then 0 else 11) else 4
def goM (rows : List (List I3)) (m : V4) (k : Int) : V4 × Int := stepM m (insM rows m k.toNat) k.toNat
def ownM (rows : List (List I3)) (m : V4) (k : Int) : List I3 := if (goM rows m k).2 = 0 then [] else [((goM rows m k).2, k, m.1.getD k.toNat 0)]
def deadM (rows : List (List I3)) (m : V4) : List I3 := if stuckM rows m then [(14, 0, 0)] else []
def foundM (rows : List (List I3)) (m : V4) (k : Int) : List I3 := if stuckM rows (goM rows m k).1 then putB (ownM rows m k) (14, 0, 0) else ownM rows m k

def runI (rows : List (List I3)) : V4 → List I3 → List Int → V4 × List I3 × Int
  | m, fs, [] => (m, fs, 0)
  | m, fs, k :: ks => if haltM rows m k = 0 then runI rows (goM rows m k).1 (fs ++ ownM rows m k) ks else (m, fs, haltM rows m k)
def runS (rows : List (List I3)) : V4 → List I3 → List Int → V4 × List I3 × Int
  | m, out, [] => (m, out, 0)
  | m, out, k :: ks => if haltM rows m k = 0 then runS rows (goM rows m k).1 (mergeB out (foundM rows m k)) ks else (m, out, haltM rows m k)

theorem halt_can {rows : List (List I3)} {m : V4} {k : Int} (h : haltM rows m k = 0) : 0 ≤ k ∧ k ≤ 2 ∧ doneM rows m k.toNat = false ∧ canM rows m k.toNat = true := by
  unfold haltM at h
  split at h
  · rename_i hk
    cases hd : doneM rows m k.toNat
    · cases hc : canM rows m k.toNat
      · rw [hd, hc] at h; simp at h
      · exact ⟨hk.1, hk.2, rfl, rfl⟩
    · rw [hd] at h; simp at h
  · cases h
theorem can_not_stuck {rows : List (List I3)} {m : V4} {k : Nat} (hk : k < 3) (h : canM rows m k = true) : stuckM rows m = false := by
  have hm : (k : Int) ∈ enabM rows m 3 := (mem_enab 3).2 ⟨hk, h⟩
  unfold stuckM
  have hne : ¬ (enabM rows m 3 = []) := fun e => by rw [e] at hm; simp at hm
  simp [hne]
theorem mem_found {rows : List (List I3)} {m : V4} {k : Int} {x : I3} : x ∈ foundM rows m k ↔ x ∈ ownM rows m k ∨ x ∈ deadM rows (goM rows m k).1 := by
  unfold foundM deadM
  cases stuckM rows (goM rows m k).1
  · simp
  · simp only [if_true, mem_putB, List.mem_singleton]
theorem run_same {rows : List (List I3)} : ∀ (ks : List Int) (m : V4) (fs out : List I3), out = mergeB fs (deadM rows m) →
    (runS rows m out ks).1 = (runI rows m fs ks).1 ∧ (runS rows m out ks).2.2 = (runI rows m fs ks).2.2 ∧ (runS rows m out ks).2.1 = mergeB (runI rows m fs ks).2.1 (deadM rows (runI rows m fs ks).1)
  | [], m, fs, out, h => ⟨rfl, rfl, h⟩
  | k :: ks, m, fs, out, h => by
    by_cases hz : haltM rows m k = 0
    · obtain ⟨h0, h2, _, hc⟩ := halt_can hz
      have hst := can_not_stuck (rows := rows) (m := m) (k := k.toNat) (by omega) hc
      have hd : deadM rows m = [] := by unfold deadM; rw [hst]; rfl
      have e1 : runS rows m out (k :: ks) = runS rows (goM rows m k).1 (mergeB out (foundM rows m k)) ks := by
        show (if haltM rows m k = 0 then _ else _) = _
        rw [if_pos hz]
      have e2 : runI rows m fs (k :: ks) = runI rows (goM rows m k).1 (fs ++ ownM rows m k) ks := by
        show (if haltM rows m k = 0 then _ else _) = _
        rw [if_pos hz]
      rw [e1, e2]
      refine run_same ks _ _ _ ((mergeB_rises _ _).same (mergeB_rises _ _) fun x => ?_)
      rw [mem_mergeB, mem_mergeB, h, mem_mergeB, hd, mem_found, List.mem_append]
      simp only [List.not_mem_nil, or_false, or_assoc]
    · have e1 : runS rows m out (k :: ks) = (m, out, haltM rows m k) := by
        show (if haltM rows m k = 0 then _ else _) = _
        rw [if_neg hz]
      have e2 : runI rows m fs (k :: ks) = (m, fs, haltM rows m k) := by
        show (if haltM rows m k = 0 then _ else _) = _
        rw [if_neg hz]
      rw [e1, e2]
      exact ⟨rfl, rfl, h⟩
theorem runI_len {rows : List (List I3)} : ∀ (ks : List Int) (m : V4) (fs : List I3), (runI rows m fs ks).2.1.length ≤ fs.length + ks.length
  | [], m, fs => by simp [runI]
  | k :: ks, m, fs => by
    have h1 : (ownM rows m k).length ≤ 1 := by unfold ownM; split <;> simp
    have h2 := runI_len (rows := rows) ks (goM rows m k).1 (fs ++ ownM rows m k)
    unfold runI
    split
    · rw [List.length_append] at h2
      simp only [List.length_cons]
      omega
    · simp only [List.length_cons]
      omega
end Go.Proofs.YtmhngodbnoonhaaDoor


/-
  Runs in plain words, more: what a run keeps are right bugs, and its states have their shape.
-/
namespace Go.Proofs.YtmhngodbnoonhaaDoor
open Go.RowKit
set_option linter.unusedVariables false

theorem step_codeQ (m : V4) (x : I3) (k : Nat) : (stepM m x k).2 = 0 ∨ (stepM m x k).2 = 12 ∨ (stepM m x k).2 = 13 := by
  unfold stepM
  repeat' split
  all_goals simp
theorem ownM_ok {rows : List (List I3)} {m : V4} {k : Int} (hp : progOk rows = true) (hs : shapeOk m = true) (hz : haltM rows m k = 0) : ∀ x ∈ ownM rows m k, okB x = true := by
  obtain ⟨h0, h2, hd, hc⟩ := halt_can hz
  obtain ⟨q, rfl⟩ : ∃ q : Nat, k = q := ⟨k.toNat, by omega⟩
  rw [Int.toNat_natCast] at hd
  have hq : q < 3 := by omega
  obtain ⟨p, ep, hlt, _, _⟩ := at_ins hp hs hq hd
  have hl6 := (codeM_len hp hq).1
  have hf := step_codeQ m (insM rows m q) q
  intro x hx
  unfold ownM goM at hx
  rw [Int.toNat_natCast] at hx
  split at hx
  · simp at hx
  · rename_i h9
    simp only [List.mem_singleton] at hx
    subst hx
    unfold okB
    simp only
    have h12 : (stepM m (insM rows m q) q).2 = 12 ∨ (stepM m (insM rows m q) q).2 = 13 := by omega
    rw [if_neg (by omega), if_pos h12, ep]
    rw [Bool.and_eq_true]
    exact ⟨inB_true.2 (by omega), inB_true.2 (by omega)⟩
theorem goM_shape {rows : List (List I3)} {m : V4} {k : Int} (hp : progOk rows = true) (hs : shapeOk m = true) (hz : haltM rows m k = 0) : shapeOk (goM rows m k).1 = true := by
  obtain ⟨h0, h2, hd, hc⟩ := halt_can hz
  exact shape_step hp hs (by omega) hd
theorem runI_ok {rows : List (List I3)} (hp : progOk rows = true) : ∀ (ks : List Int) (m : V4) (fs : List I3), shapeOk m = true → (∀ x ∈ fs, okB x = true) → shapeOk (runI rows m fs ks).1 = true ∧ ∀ x ∈ (runI rows m fs ks).2.1, okB x = true
  | [], m, fs, hs, hf => ⟨hs, hf⟩
  | k :: ks, m, fs, hs, hf => by
    by_cases hz : haltM rows m k = 0
    · have e2 : runI rows m fs (k :: ks) = runI rows (goM rows m k).1 (fs ++ ownM rows m k) ks := by
        show (if haltM rows m k = 0 then _ else _) = _
        rw [if_pos hz]
      rw [e2]
      exact runI_ok hp ks _ _ (goM_shape hp hs hz) fun x hx => (List.mem_append.1 hx).elim (hf x) (ownM_ok hp hs hz x)
    · have e2 : runI rows m fs (k :: ks) = (m, fs, haltM rows m k) := by
        show (if haltM rows m k = 0 then _ else _) = _
        rw [if_neg hz]
      rw [e2]
      exact ⟨hs, hf⟩
theorem okB_fitsQ {x : I3} (h : okB x = true) : I3.fits x := by
  unfold okB at h
  split at h
  · rename_i h1
    simp only [Bool.and_eq_true, decide_eq_true_eq] at h
    exact ⟨fits_small (by omega) (by omega), fits_small (by omega) (by omega), fits_small (by omega) (by omega)⟩
  · split at h
    · rename_i h1
      rw [Bool.and_eq_true] at h
      have a := inB_true.1 h.1
      have b := inB_true.1 h.2
      exact ⟨fits_small (by omega) (by omega), fits_small (by omega) (by omega), fits_small (by omega) (by omega)⟩
    · cases h
theorem deadM_ok (rows : List (List I3)) (m : V4) : ∀ x ∈ deadM rows m, okB x = true := by
  unfold deadM
  split
  · intro x hx
    simp only [List.mem_singleton] at hx
    subst hx
    rfl
  · simp
end Go.Proofs.YtmhngodbnoonhaaDoor


/-
  The specification's source of choices: byte hands a number from 0 to 255 and goes one place on; nothing but the source's own struct turns.
-/
namespace Go.Proofs.YtmhngodbnoonhaaDoor
open Go.RowKit

def Src (w : World) (p : Nat) (c : Value) (T : Nat) : Prop := ∃ m sd : Nat, w.heap[p]? = some (.cells #[c, .int .i64 m, .int .i64 sd] 123 (0, 0)) ∧ m ≤ T ∧ sd ≤ 2147483647
def Code (w : World) (p : Nat) (a : Option Addr) (n cap : Nat) : Prop := ∃ zs : List Int, Ints .u8 w a n cap zs ∧ (∀ z ∈ zs, 0 ≤ z ∧ z ≤ 255) ∧ n ≤ 1048576 ∧ ∀ x, a = some x → n ≠ 0 → x.block < p

theorem src_cells {w : World} {p : Nat} {c x y : Value} {t : TypeId} (h : w.heap[p]? = some (.cells #[c, x, y] t (0, 0))) :
    w.cell? ⟨p, 0, none⟩ = some c ∧ w.cell? ⟨p, 1, none⟩ = some x ∧ w.cell? ⟨p, 2, none⟩ = some y ∧ w.frozen? ⟨p, 1, none⟩ = false ∧ w.frozen? ⟨p, 2, none⟩ = false :=
  ⟨by rw [cell_of_row w p 0 _ _ _ h]; rfl, by rw [cell_of_row w p 1 _ _ _ h]; rfl, by rw [cell_of_row w p 2 _ _ _ h]; rfl, frozen_of_row w p 1 _ _ h, frozen_of_row w p 2 _ _ h⟩

def Stepped (p : Nat) (w w' : World) : Prop := Below p w w' ∧ w'.heap.size = w.heap.size ∧ ∀ k, k ≠ p → w'.heap[k]? = w.heap[k]?

set_option maxHeartbeats 4000000 in
set_option maxRecDepth 100000 in
theorem byte_any (p T : Nat) (a : Option Addr) (n cap : Nat) (w : World) (hS : Src w p (.slice a n cap) T) (hC : Code w p a n cap) (hT : T ≤ 1000000) :
    Calls Tryd.prog 121 #[.pointer (some ⟨p, 0, none⟩)] w fun e w' => (∃ v : Nat, v ≤ 255 ∧ e = .returned (.int .i64 v)) ∧ Src w' p (.slice a n cap) (T + 1) ∧ Stepped p w w' := by
  obtain ⟨m, sd, hh, hm, hsd⟩ := hS
  obtain ⟨c0, c1, c2, f1, f2⟩ := src_cells hh
  obtain ⟨zs, ⟨hl, hlc, hcm, hcase⟩, hz, hn, hbelow⟩ := hC
  unfold maxLen at hcm
  by_cases hin : m + 1 ≤ n
  · rcases hcase with h0 | ⟨b, off, rfl, hblt, hcell⟩
    · omega
    have hbp : b < p := hbelow _ rfl (by omega)
    have hbp' : ¬ b = p := by omega
    have hcz := hcell m (by omega)
    have hzz := hz _ (show zs.getD m 0 ∈ zs by simp [List.getElem?_eq_getElem (show m < zs.length by omega)])
    generalize zs.getD m 0 = z at hcz hzz
    obtain ⟨z1, z2⟩ := hzz
    have hml : (m : Int) + 1 ≤ (n : Int) := by omega
    have hml2 : (m : Int) < (n : Int) := by omega
    have hd1 : decide ((m : Int) + 1 ≤ (n : Int)) = true := by simp; omega
    clear hcell hz hbelow hl
    go_enter Tryd.func121, Tryd.ntmps121
    go_wp2
    have hh1 := heap_setCell_same w p 1 _ _ (.int .i64 ((m : Int) + 1)) hh
    have hoth1 : ∀ k, k ≠ p → (w.setCell ⟨p, 1, none⟩ (.int .i64 ((m : Int) + 1))).heap[k]? = w.heap[k]? := fun k hk => heap_setCell_other w ⟨p, 1, none⟩ k _ hk
    have hbel1 : Below p w (w.setCell ⟨p, 1, none⟩ (.int .i64 ((m : Int) + 1))) := Below.setCell (Below.refl p w) (p := ⟨p, 1, none⟩) (Nat.le_refl p) _
    have hsz1 : (w.setCell ⟨p, 1, none⟩ (.int .i64 ((m : Int) + 1))).heap.size = w.heap.size := by simp [World.setCell]
    obtain ⟨W1, hW1⟩ : ∃ W1, W1 = w.setCell ⟨p, 1, none⟩ (.int .i64 ((m : Int) + 1)) := ⟨_, rfl⟩
    rw [← hW1] at hh1 hoth1 hbel1 hsz1
    rw [← hW1]
    have hh1' : W1.heap[p]? = some (.cells #[.slice (some ⟨b, off, none⟩) n cap, .int .i64 ((m : Int) + 1), .int .i64 sd] 123 (0, 0)) := hh1
    obtain ⟨d0, d1, d2, g1, g2⟩ := src_cells hh1'
    have hcz1 : W1.cell? ⟨b, off + m, none⟩ = some (.int .u8 z) := by rw [hbel1.cell (p := ⟨b, off + m, none⟩) hbp]; exact hcz
    have H1 : Hid ((∀ k, k ≠ p → W1.heap[k]? = w.heap[k]?) ∧ Below p w W1 ∧ W1.heap.size = w.heap.size ∧ W1.heap[p]? = some (.cells #[.slice (some ⟨b, off, none⟩) n cap, .int .i64 ((m : Int) + 1), .int .i64 sd] 123 (0, 0))) := ⟨hoth1, hbel1, hsz1, hh1'⟩
    clear hW1 hh1 hh1' hoth1 hbel1 hsz1 c0 c1 c2 f1 f2 hcz hh
    have q1 : IntKind.i64.wrap ((sd : Int) * 31) = (sd : Int) * 31 := IntWalk.i64_in _ ⟨by omega, by omega⟩
    have q2 : IntKind.i64.wrap ((m : Int) + 1 - 1) = (m : Int) := by rw [IntWalk.i64_in _ ⟨by omega, by omega⟩]; omega
    have q3 : IntKind.i64.wrap z = z := IntWalk.i64_in _ ⟨by omega, by omega⟩
    have q4 : IntKind.i64.wrap ((sd : Int) * 31 + z) = (sd : Int) * 31 + z := IntWalk.i64_in _ ⟨by omega, by omega⟩
    have q5 : IntKind.i64.wrap ((sd : Int) * 31 + z + 7) = (sd : Int) * 31 + z + 7 := IntWalk.i64_in _ ⟨by omega, by omega⟩
    have q6 : ((sd : Int) * 31 + z + 7).tmod 2147483648 = ((sd : Int) * 31 + z + 7) % 2147483648 := Int.tmod_eq_emod_of_nonneg (by omega)
    go_quiet (fail)
    go_wp2
    go_region
    go_wp2
    clear q1 q4 q5 q6 d2 d0 d1 g1 g2
    have H2 : Hid (∀ W2, W2 = (W1.drewN (nq + 1)).setCell ⟨p, 2, none⟩ (.int .i64 (((sd : Int) * 31 + z + 7) % 2147483648)) → Src W2 p (.slice (some ⟨b, off, none⟩) n cap) (T + 1) ∧ Stepped p w W2 ∧ W2.cell? ⟨p, 0, none⟩ = some (.slice (some ⟨b, off, none⟩) n cap) ∧ W2.cell? ⟨p, 1, none⟩ = some (.int .i64 ((m : Int) + 1)) ∧ W2.cell? ⟨b, off + m, none⟩ = some (.int .u8 z)) := by
      intro W2 hW2
      obtain ⟨ho, hbe, hsz, hhp⟩ := H1.out
      have hhp' : (W1.drewN (nq + 1)).heap[p]? = some (.cells #[.slice (some ⟨b, off, none⟩) n cap, .int .i64 ((m : Int) + 1), .int .i64 sd] 123 (0, 0)) := hhp
      have h2 := heap_setCell_same (W1.drewN (nq + 1)) p 2 _ _ (.int .i64 (((sd : Int) * 31 + z + 7) % 2147483648)) hhp'
      rw [← hW2] at h2
      have h2' : W2.heap[p]? = some (.cells #[.slice (some ⟨b, off, none⟩) n cap, .int .i64 ((m + 1 : Nat) : Int), .int .i64 ((((sd : Int) * 31 + z + 7) % 2147483648).toNat : Nat)] 123 (0, 0)) := by
        rw [h2, Int.toNat_of_nonneg (by omega)]
        rfl
      have hob : ∀ k, k ≠ p → W2.heap[k]? = w.heap[k]? := fun k hk => by
        rw [hW2, heap_setCell_other _ ⟨p, 2, none⟩ k _ hk]
        exact ho k hk
      have hbe2 : Below p w W2 := by
        rw [hW2]
        exact Below.setCell (below_drewN hbe _) (p := ⟨p, 2, none⟩) (Nat.le_refl p) _
      obtain ⟨e0, e1, _⟩ := src_cells h2'
      refine ⟨⟨m + 1, _, h2', by omega, by omega⟩, ⟨hbe2, by rw [hW2]; simp [World.setCell]; exact hsz, hob⟩, e0, e1, ?_⟩
      rw [hW2, World.cell?_of_block (w := W1) (by rw [heap_setCell_other _ ⟨p, 2, none⟩ b _ hbp']; rfl)]
      exact hcz1
    obtain ⟨W2, hW2⟩ : ∃ W2, W2 = (W1.drewN (nq + 1)).setCell ⟨p, 2, none⟩ (.int .i64 (((sd : Int) * 31 + z + 7) % 2147483648)) := ⟨_, rfl⟩
    obtain ⟨hSrc, hStep, e0, e1, e2⟩ := H2.out W2 hW2
    rw [← hW2]
    have HSrc : Hid (Src W2 p (.slice (some ⟨b, off, none⟩) n cap) (T + 1)) := hSrc
    have HStep : Hid (Stepped p w W2) := hStep
    clear hW2 H2 H1 hcz1 hSrc hStep
    go_quiet (fail)
    go_wp2
    go_ret
    exact ⟨⟨z.toNat, by omega, by rw [Int.toNat_of_nonneg z1]; rfl⟩, HSrc.out, ⟨below_drewN HStep.out.1 _, HStep.out.2.1, HStep.out.2.2⟩⟩
  · have hml : ¬ (m : Int) + 1 ≤ (n : Int) := by omega
    clear hcase hz hbelow hl
    go_enter Tryd.func121, Tryd.ntmps121
    go_wp2
    have hh1 := heap_setCell_same w p 1 _ _ (.int .i64 ((m : Int) + 1)) hh
    have hoth1 : ∀ k, k ≠ p → (w.setCell ⟨p, 1, none⟩ (.int .i64 ((m : Int) + 1))).heap[k]? = w.heap[k]? := fun k hk => heap_setCell_other w ⟨p, 1, none⟩ k _ hk
    have hbel1 : Below p w (w.setCell ⟨p, 1, none⟩ (.int .i64 ((m : Int) + 1))) := Below.setCell (Below.refl p w) (p := ⟨p, 1, none⟩) (Nat.le_refl p) _
    have hsz1 : (w.setCell ⟨p, 1, none⟩ (.int .i64 ((m : Int) + 1))).heap.size = w.heap.size := by simp [World.setCell]
    obtain ⟨W1, hW1⟩ : ∃ W1, W1 = w.setCell ⟨p, 1, none⟩ (.int .i64 ((m : Int) + 1)) := ⟨_, rfl⟩
    rw [← hW1] at hh1 hoth1 hbel1 hsz1
    rw [← hW1]
    have hh1' : W1.heap[p]? = some (.cells #[.slice a n cap, .int .i64 ((m : Int) + 1), .int .i64 sd] 123 (0, 0)) := hh1
    obtain ⟨d0, d1, d2, g1, g2⟩ := src_cells hh1'
    have H1 : Hid ((∀ k, k ≠ p → W1.heap[k]? = w.heap[k]?) ∧ Below p w W1 ∧ W1.heap.size = w.heap.size ∧ W1.heap[p]? = some (.cells #[.slice a n cap, .int .i64 ((m : Int) + 1), .int .i64 sd] 123 (0, 0))) := ⟨hoth1, hbel1, hsz1, hh1'⟩
    clear hW1 hh1 hh1' hoth1 hbel1 hsz1 c0 c1 c2 f1 f2 hh
    go_quiet (fail)
    by_cases hbig : 3000 < m + 1
    · have hbig' : (3000 : Int) < (m : Int) + 1 := by omega
      go_wp2
      go_ret
      obtain ⟨ho, hbe, hsz, hhp⟩ := H1.out
      refine ⟨⟨0, by omega, rfl⟩, ⟨m + 1, sd, ?_, by omega, hsd⟩, below_drewN hbe _, hsz, ho⟩
      exact hhp
    · have hbig' : ¬ (3000 : Int) < (m : Int) + 1 := by omega
      go_wp2
      go_ret
      obtain ⟨ho, hbe, hsz, hhp⟩ := H1.out
      have hhp' : (W1.drewN nq).heap[p]? = some (.cells #[.slice a n cap, .int .i64 ((m : Int) + 1), .int .i64 sd] 123 (0, 0)) := hhp
      have h2 := heap_setCell_same (W1.drewN nq) p 2 _ _ (.int .i64 (((sd : Int) * 1103515245 + 12345) % 2147483648)) hhp'
      refine ⟨⟨((((sd : Int) * 1103515245 + 12345) % 2147483648) / 65536 % 256).toNat, by omega, by rw [Int.toNat_of_nonneg (by omega)]; rfl⟩, ⟨m + 1, (((sd : Int) * 1103515245 + 12345) % 2147483648).toNat, ?_, by omega, by omega⟩, ?_, ?_, ?_⟩
      · rw [h2, Int.toNat_of_nonneg (by omega)]; rfl
      · exact Below.setCell (below_drewN hbe _) (p := ⟨p, 2, none⟩) (Nat.le_refl p) _
      · simp [World.setCell]; exact hsz
      · intro k hk
        rw [heap_setCell_other _ ⟨p, 2, none⟩ k _ hk]
        exact ho k hk
end Go.Proofs.YtmhngodbnoonhaaDoor


/-
  The specification's source of choices, more of it: next hands a number below n; a source over a code; how what it hands is kept apart from all else.
-/
namespace Go.Proofs.YtmhngodbnoonhaaDoor
open Go.RowKit

abbrev Went (p : Nat) (w w' : World) : Prop := w.grownBy w' (some p)
theorem Stepped.went {p : Nat} {w w' : World} (h : Stepped p w w') : Went p w w' :=
  ⟨h.1.os, h.1.tape, h.1.output, Nat.le_of_eq h.2.1.symm, fun k _ hk => h.2.2 k (fun e => hk (by rw [e]))⟩
theorem Went.trans {p : Nat} {a b c : World} (h : Went p a b) (k : Went p b c) : Went p a c :=
  ⟨k.os.trans h.os, k.tape.trans h.tape, k.output.trans h.output, Nat.le_trans h.size k.size, fun i hi hne => (k.block i (Nat.lt_of_lt_of_le hi h.size) hne).trans (h.block i hi hne)⟩
theorem Went.below {p : Nat} {w w' : World} (h : Went p w w') (hp : p ≤ w.heap.size) : Below p w w' :=
  (Below.refl _ _).grown h hp (fun k e => by cases e; exact Nat.le_refl _)
theorem Went.alloc {p : Nat} {w w' : World} (h : Went p w w') (o : Obj) : Went p w (w'.alloc o) := h.trans (World.grownBy_alloc w' o _)
theorem Went.refl (p : Nat) (w : World) : Went p w w := World.grownBy.refl _ _
theorem Went.grown {p : Nat} {w w' w'' : World} {row : Option Nat} (h : Went p w w') (g : w'.grownBy w'' row) (hr : ∀ k, row = some k → w.heap.size ≤ k) : Went p w w'' :=
  ⟨g.os.trans h.os, g.tape.trans h.tape, g.output.trans h.output, Nat.le_trans h.size g.size, fun i hi hne => (g.block i (Nat.lt_of_lt_of_le hi h.size) (fun e => by have := hr i e.symm; omega)).trans (h.block i hi hne)⟩
theorem Src.grown {p T : Nat} {c : Value} {w w' : World} {row : Option Nat} (h : Src w p c T) (g : w.grownBy w' row) (hr : ∀ k, row = some k → k ≠ p) : Src w' p c T := by
  obtain ⟨m, sd, hh, h1, h2⟩ := h
  have hl : p < w.heap.size := (Array.getElem?_eq_some_iff.1 hh).1
  exact ⟨m, sd, by rw [g.block p hl (fun e => hr p e.symm rfl)]; exact hh, h1, h2⟩
theorem Src.alloc {p T : Nat} {c : Value} {w : World} (h : Src w p c T) (o : Obj) : Src (w.alloc o) p c T := h.grown (World.grownBy_alloc w o none) (fun k e => by cases e)
theorem Src.lt {p T : Nat} {c : Value} {w : World} (h : Src w p c T) : p < w.heap.size := by
  obtain ⟨m, sd, hh, _⟩ := h
  exact (Array.getElem?_eq_some_iff.1 hh).1
theorem Src.mono {p T T' : Nat} {c : Value} {w : World} (h : Src w p c T) (ht : T ≤ T') : Src w p c T' := by
  obtain ⟨m, sd, hh, h1, h2⟩ := h
  exact ⟨m, sd, hh, Nat.le_trans h1 ht, h2⟩
theorem Code.below {p n cap : Nat} {a : Option Addr} {w w' : World} (h : Code w p a n cap) (hb : Below p w w') : Code w' p a n cap := by
  obtain ⟨zs, ⟨h1, h2, h3, h4⟩, h5, h6, h7⟩ := h
  refine ⟨zs, ⟨h1, h2, h3, ?_⟩, h5, h6, h7⟩
  rcases h4 with h4 | ⟨b, off, ha, hlt, hc⟩
  · exact .inl h4
  · rcases Nat.eq_zero_or_pos n with h0 | h0
    · exact .inl h0
    · have hbB := h7 _ ha (by omega)
      exact .inr ⟨b, off, ha, by have := hb.size; omega, fun t ht => by rw [hb.cell (p := ⟨b, off + t, none⟩) hbB]; exact hc t ht⟩
theorem Code.went {p n cap : Nat} {a : Option Addr} {w w' : World} (h : Code w p a n cap) (hw : Went p w w') (hp : p ≤ w.heap.size) : Code w' p a n cap := h.below (hw.below hp)

set_option maxHeartbeats 1000000 in
set_option maxRecDepth 100000 in
theorem next_any (p T : Nat) (a : Option Addr) (n cap : Nat) (k : Int) (w : World) (hS : Src w p (.slice a n cap) T) (hC : Code w p a n cap) (hT : T ≤ 900000) (hk : k ≤ 1000000) :
    Calls Tryd.prog 84 #[.pointer (some ⟨p, 0, none⟩), .int .i64 k] w fun e w' => (∃ v : Nat, ((v : Int) < k ∨ v = 0) ∧ e = .returned (.int .i64 v)) ∧ Src w' p (.slice a n cap) (T + 3) ∧ Went p w w' := by
  have hp := Nat.le_of_lt hS.lt
  by_cases h1 : k ≤ 1
  · go_enter Tryd.func84, Tryd.ntmps84
    go_wp2
    go_ret
    exact ⟨⟨0, .inr rfl, rfl⟩, hS.mono (by omega), Went.refl _ _⟩
  by_cases h2 : k ≤ 256
  · go_enter Tryd.func84, Tryd.ntmps84
    go_wp2_with fail
    refine (byte_any p T a n cap _ hS hC (by omega)).mono ?_
    rintro e w1 ⟨⟨v, hv, rfl⟩, hS1, hst⟩
    have hW := hst.went
    have hS3 : Src w1 p (.slice a n cap) (T + 3) := hS1.mono (by omega)
    clear hst hS1 hS hC
    go_wp2
    go_ret
    exact ⟨⟨((v : Int) % k).toNat, .inl (by have := Int.emod_lt_of_pos (v : Int) (show 0 < k by omega); have := Int.emod_nonneg (v : Int) (show k ≠ 0 by omega); omega), by rw [Int.toNat_of_nonneg (Int.emod_nonneg _ (by omega))]; rfl⟩, hS3, hW⟩
  · go_enter Tryd.func84, Tryd.ntmps84
    go_wp2_with fail
    refine (byte_any p T a n cap _ hS hC (by omega)).mono ?_
    rintro e w1 ⟨⟨v1, hv1, rfl⟩, hS1, hst1⟩
    have hC1 := hC.went hst1.went hp
    have hp1 := Nat.le_of_lt hS1.lt
    go_wp2_with fail
    refine (byte_any p (T + 1) a n cap _ hS1 hC1 (by omega)).mono ?_
    rintro e w2 ⟨⟨v2, hv2, rfl⟩, hS2, hst2⟩
    have hC2 := hC1.went hst2.went hp1
    go_wp2_with fail
    refine (byte_any p (T + 1 + 1) a n cap _ hS2 hC2 (by omega)).mono ?_
    rintro e w3 ⟨⟨v3, hv3, rfl⟩, hS3, hst3⟩
    have hW := (hst1.went.trans hst2.went).trans hst3.went
    have hS3' : Src w3 p (.slice a n cap) (T + 3) := hS3.mono (by omega)
    clear hst1 hst2 hst3 hS1 hS2 hS3 hS hC hC1 hC2
    go_wp2
    go_ret
    exact ⟨⟨(((v1 : Int) * 65536 + (v2 : Int) * 256 + (v3 : Int)) % k).toNat, .inl (by have := Int.emod_lt_of_pos ((v1 : Int) * 65536 + (v2 : Int) * 256 + (v3 : Int)) (show 0 < k by omega); have := Int.emod_nonneg ((v1 : Int) * 65536 + (v2 : Int) * 256 + (v3 : Int)) (show k ≠ 0 by omega); omega), by rw [Int.toNat_of_nonneg (Int.emod_nonneg _ (by omega))]; rfl⟩, hS3', hW⟩

theorem l00Source_any (a : Option Addr) (n cap : Nat) (w : World) (hn : n ≤ 1048576) :
    Calls Tryd.prog 47 #[.slice a n cap] w fun e w' => e = .returned (.pointer (some ⟨w.heap.size, 0, none⟩)) ∧ Src w' w.heap.size (.slice a n cap) 0 ∧ Below w.heap.size w w' := by
  go_enter Tryd.func47, Tryd.ntmps47
  go_wp2
  go_ret
  refine ⟨rfl, ⟨0, ((n : Int) % 1000).toNat, ?_, by omega, by omega⟩, (Below.refl _ _).alloc (Nat.le_refl _) _⟩
  rw [Int.toNat_of_nonneg (by omega)]
  exact heap_alloc_new w _
theorem code_of {a : Option Addr} {n cap : Nat} {zs : List Int} {w : World} (h : IsRow .u8 w a n cap zs) (hn : n ≤ 1048576) : Code w w.heap.size a n cap := by
  refine ⟨zs.take n, Ints.of_isRow h, ?_, hn, ?_⟩
  · intro z hz
    have hz' := List.mem_of_mem_take hz
    rcases h with ⟨_, _, _, rfl⟩ | ⟨x, _, _, _, _, _, hw⟩
    · simp at hz'
    · have := hw z hz'
      simp [Lit.wf, IntKind.min, IntKind.max, IntKind.signed, IntKind.bits] at this
      omega
  · intro x hx hn0
    obtain ⟨_, _, _, h4⟩ := Ints.of_isRow h
    rcases h4 with h4 | ⟨b, off, ha, hlt, _⟩
    · exact absurd h4 hn0
    · rw [ha] at hx
      cases hx
      exact hlt
end Go.Proofs.YtmhngodbnoonhaaDoor

