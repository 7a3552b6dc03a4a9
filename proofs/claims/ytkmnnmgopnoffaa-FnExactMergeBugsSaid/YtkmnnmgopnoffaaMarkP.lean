
/-
  Programs in memory of their own; the laws' helpers that mark one and look whether the marks are held (markInstrS, markInstrSS, markProgram, heldInstrS, heldInstrSS, heldProgram).
-/
import Derived.Test.YtkmnnmgopnoffaaProg3
namespace Go.Proofs.Ytkmnnmgopnoffaa
open Go.RowKit

theorem owns_ne {w : World} {B B' e e' s s' n n' : Nat} {v v' : Value} {xs xs' : List Value} (h : w.ownsRow B e s v n xs) (h' : w.ownsRow B' e' s' v' n' xs') (he : e ≠ e') : v.ownBlock = none ∨ v.ownBlock ≠ v'.ownBlock := by
  rcases h.2 with ⟨rfl, _⟩ | ⟨g, cap, cur, rfl, _, hg, _⟩
  · exact .inl rfl
  · rcases h'.2 with ⟨rfl, _⟩ | ⟨g', cap', cur', rfl, _, hg', _⟩
    · exact .inr (by simp [Value.ownBlock])
    · refine .inr ?_
      simp only [Value.ownBlock, ne_eq, Option.some.injEq]
      rintro rfl
      rw [hg] at hg'
      simp at hg'
      exact he hg'.2

/-- A row with its first j instructions marked, from k on. -/
def mkI : Int → List I3 → Nat → List I3
  | _, xs, 0 => xs
  | _, [], _ + 1 => []
  | k, _ :: xs, j + 1 => (k, k + 1, k + 2) :: mkI (k + 3) xs j
theorem mkI_len : ∀ (k : Int) (xs : List I3) (j : Nat), (mkI k xs j).length = xs.length
  | _, xs, 0 => by simp [mkI]
  | _, [], _ + 1 => by simp [mkI]
  | k, _ :: xs, j + 1 => by simp [mkI, mkI_len]
theorem mkI_set : ∀ (k : Int) (xs : List I3) (j : Nat), j < xs.length →
    (((flat (mkI k xs j)).set (j * 3) (.int .i64 (k + j * 3))).set (j * 3 + 1) (.int .i64 (k + j * 3 + 1))).set (j * 3 + 2) (.int .i64 (k + j * 3 + 2)) = flat (mkI k xs (j + 1))
  | _, [], j, h => by simp at h
  | k, x :: xs, 0, _ => by simp [mkI, flat, I3.cells]
  | k, x :: xs, j + 1, h => by
    have ih := mkI_set (k + 3) xs j (by simpa using h)
    have e1 : k + ((j + 1 : Nat) : Int) * 3 = k + 3 + (j : Int) * 3 := by omega
    rw [e1]
    have e2 : (j + 1) * 3 = j * 3 + 1 + 1 + 1 := by omega
    simp only [mkI, flat, List.flatMap_cons, I3.cells, List.cons_append, List.nil_append] at ih ⊢
    rw [e2]
    simp only [List.set_cons_succ]
    rw [ih]
theorem mkI_get : ∀ (k : Int) (xs : List I3) (j i : Nat), i < j → j ≤ xs.length → (mkI k xs j).getD i (0, 0, 0) = (k + i * 3, k + i * 3 + 1, k + i * 3 + 2)
  | _, xs, 0, i, h, _ => by omega
  | _, [], j + 1, i, _, h => by simp at h
  | k, x :: xs, j + 1, 0, _, _ => by simp [mkI]
  | k, x :: xs, j + 1, i + 1, h, hl => by
    have ih := mkI_get (k + 3) xs j i (by omega) (by simpa using hl)
    have e : k + ((i + 1 : Nat) : Int) * 3 = k + 3 + (i : Int) * 3 := by omega
    rw [e, ← ih]
    simp [mkI]

theorem grownBy_set (w : World) (g j : Nat) (u : Value) : w.grownBy (w.setCell ⟨g, j, none⟩ u) (some g) :=
  ⟨rfl, rfl, rfl, by simp [World.setCell], fun k _ hk => Below.heap_setCell _ _ _ _ (fun e => hk (by rw [e]))⟩
theorem grownBy_tr {a b c : World} {row : Option Nat} (h : a.grownBy b row) (k : b.grownBy c row) : a.grownBy c row :=
  ⟨k.os.trans h.os, k.tape.trans h.tape, k.output.trans h.output, Nat.le_trans h.size k.size, fun i hi hne => (k.block i (by have := h.size; omega) hne).trans (h.block i hi hne)⟩

/-- What is no row of this type is as it was. -/
def KeptBut (t : TypeId) (w w' : World) : Prop := ∀ (j : Nat) (cur : Array Value) (e : TypeId) (fz : Nat × Nat), w.heap[j]? = some (Obj.cells cur e fz) → e ≠ t → w'.heap[j]? = some (Obj.cells cur e fz)
theorem KeptBut.refl (t : TypeId) (w : World) : KeptBut t w w := fun _ _ _ _ h _ => h
theorem KeptBut.trans {t : TypeId} {a b c : World} (h : KeptBut t a b) (k : KeptBut t b c) : KeptBut t a c := fun j cur e fz h0 he => k j cur e fz (h j cur e fz h0 he) he
theorem KeptBut.of_below {t : TypeId} {w w' : World} (h : Below w.heap.size w w') : KeptBut t w w' := fun j cur e fz h0 _ => by rw [h.block j (Array.getElem?_eq_some_iff.1 h0).1]; exact h0
theorem KeptBut.of_grown {t B s n : Nat} {w w' : World} {v : Value} {xs : List Value} (hg : w.grownBy w' v.ownBlock) (ho : w.ownsRow B t s v n xs) : KeptBut t w w' := fun j cur e fz h0 he => by
  rw [hg.block j (Array.getElem?_eq_some_iff.1 h0).1 ?_]
  · exact h0
  · rcases ho.2 with ⟨rfl, _⟩ | ⟨g, cap, cur', rfl, _, hh, _⟩
    · simp [Value.ownBlock]
    · simp only [Value.ownBlock, ne_eq, Option.some.injEq]
      rintro rfl
      rw [hh] at h0
      simp at h0
      exact he h0.2.1.symm
theorem KeptBut.owns {t B e s n : Nat} {w w' : World} {v : Value} {xs : List Value} (h : KeptBut t w w') (ho : w.ownsRow B e s v n xs) (he : e ≠ t) : w'.ownsRow B e s v n xs := by
  refine ⟨ho.1, ?_⟩
  rcases ho.2 with h0 | ⟨g, cap, cur, hv, hB, hg, rest⟩
  · exact .inl h0
  · exact .inr ⟨g, cap, cur, hv, hB, h g cur e _ hg he, rest⟩

/-- All rows marked, one behind the other. -/
def mkP : Int → List (List I3) → Nat → List (List I3)
  | _, rows, 0 => rows
  | _, [], _ + 1 => []
  | k, r :: rows, j + 1 => mkI k r r.length :: mkP (k + r.length * 3) rows j
theorem mkP_len : ∀ (k : Int) (rows : List (List I3)) (j : Nat), (mkP k rows j).length = rows.length
  | _, rows, 0 => by simp [mkP]
  | _, [], _ + 1 => by simp [mkP]
  | k, _ :: rows, j + 1 => by simp [mkP, mkP_len]
/-- How many numbers the first j rows have. -/
def cntP : List (List I3) → Nat → Nat
  | _, 0 => 0
  | [], _ + 1 => 0
  | r :: rows, j + 1 => r.length * 3 + cntP rows j
theorem cntP_step : ∀ (rows : List (List I3)) (j : Nat), j < rows.length → cntP rows (j + 1) = cntP rows j + (rows.getD j []).length * 3
  | [], j, h => by simp at h
  | r :: rows, 0, _ => by simp [cntP]
  | r :: rows, j + 1, h => by
    have := cntP_step rows j (by simpa using h)
    simp only [cntP] at this ⊢
    rw [List.getD_cons_succ]
    omega
theorem cntP_mono : ∀ (rows : List (List I3)) (j : Nat), cntP rows j ≤ cntP rows rows.length
  | [], 0 => by simp [cntP]
  | [], _ + 1 => by simp [cntP]
  | r :: rows, 0 => by simp [cntP]
  | r :: rows, j + 1 => by
    have := cntP_mono rows j
    simp only [cntP, List.length_cons]
    omega
theorem lessAll_cnt : ∀ (rows : List (List I3)) (left : Int), 0 ≤ lessAll left rows → (cntP rows rows.length : Int) ≤ 3 * left
  | [], left, h => by simp only [lessAll] at h; simp only [cntP, List.length_nil]; omega
  | r :: rows, left, h => by
    unfold lessAll at h
    split at h
    · omega
    · have := lessAll_cnt rows (left - r.length) h
      simp only [cntP, List.length_cons]
      omega
theorem sizeLeft_cnt {rows : List (List I3)} {left : Int} (h : 0 ≤ sizeLeft left rows) : (cntP rows rows.length : Int) ≤ 3 * left := by
  unfold sizeLeft at h
  split at h
  · omega
  · have := lessAll_cnt rows _ h
    omega
theorem mkP_set : ∀ (k : Int) (rows : List (List I3)) (j : Nat), j < rows.length → (mkP k rows j).set j (mkI (k + cntP rows j) (rows.getD j []) (rows.getD j []).length) = mkP k rows (j + 1)
  | _, [], j, h => by simp at h
  | k, r :: rows, 0, _ => by simp [mkP, cntP]
  | k, r :: rows, j + 1, h => by
    have ih := mkP_set (k + r.length * 3) rows j (by simpa using h)
    have e : k + ((cntP (r :: rows) (j + 1) : Nat) : Int) = k + r.length * 3 + (cntP rows j : Int) := by simp only [cntP]; omega
    rw [e, List.getD_cons_succ]
    simp only [mkP, List.set_cons_succ, ih]
theorem mkP_old : ∀ (k : Int) (rows : List (List I3)) (j i : Nat), j ≤ i → i < rows.length → (mkP k rows j).getD i [] = rows.getD i []
  | _, rows, 0, i, _, _ => by simp [mkP]
  | _, [], j + 1, i, _, h => by simp at h
  | k, r :: rows, j + 1, i, h, hl => by
    cases i with
    | zero => omega
    | succ i =>
      have ih := mkP_old (k + r.length * 3) rows j i (by omega) (by simpa using hl)
      simpa [mkP] using ih
theorem mkP_get : ∀ (k : Int) (rows : List (List I3)) (j i : Nat), i < j → i < rows.length → (mkP k rows j).getD i [] = mkI (k + cntP rows i) (rows.getD i []) (rows.getD i []).length
  | _, rows, 0, i, h, _ => by omega
  | _, [], j + 1, i, _, h => by simp at h
  | k, r :: rows, j + 1, 0, _, _ => by simp [mkP, cntP]
  | k, r :: rows, j + 1, i + 1, h, hl => by
    have ih := mkP_get (k + r.length * 3) rows j i (by omega) (by simpa using hl)
    have e : k + ((cntP (r :: rows) (i + 1) : Nat) : Int) = k + r.length * 3 + (cntP rows i : Int) := by simp only [cntP]; omega
    rw [e]
    simpa [mkP] using ih

end Go.Proofs.Ytkmnnmgopnoffaa
