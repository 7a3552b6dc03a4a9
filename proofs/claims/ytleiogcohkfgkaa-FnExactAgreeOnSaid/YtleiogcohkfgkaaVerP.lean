
/-
  Versions, in plain words: where two of them are not alike.
-/
import Derived.Test.YtleiogcohkfgkaaVerI
namespace Go.Proofs.Ytleiogcohkfgkaa
open Go.RowKit

abbrev Pl9 := Nat × Nat
/-- The first p places of a thread at which both are not alike. -/
def row9 (P Q : List (List I3)) (k p : Nat) : List Pl9 := ((List.range p).filter (fun pc => decide (¬ atM9 P k pc = atM9 Q k pc))).map (fun pc => (k, pc))
/-- .. of the first k threads. -/
def upto9 (P Q : List (List I3)) (k : Nat) : List Pl9 := (List.range k).flatMap (fun j => row9 P Q j 7)
def chg9 (P Q : List (List I3)) : List Pl9 := upto9 P Q 3
def itm9 (x : Pl9) : Int := 8 * (x.1 : Int) + (x.2 : Int)
def chgI (P Q : List (List I3)) : List Int := (chg9 P Q).map itm9

theorem row9_zero (P Q : List (List I3)) (k : Nat) : row9 P Q k 0 = [] := rfl
theorem row9_same {P Q : List (List I3)} {k p : Nat} (h : atM9 P k p = atM9 Q k p) : row9 P Q k (p + 1) = row9 P Q k p := by
  simp [row9, List.range_succ, List.filter_append, h]
theorem row9_new {P Q : List (List I3)} {k p : Nat} (h : ¬ atM9 P k p = atM9 Q k p) : row9 P Q k (p + 1) = row9 P Q k p ++ [(k, p)] := by
  simp [row9, List.range_succ, List.filter_append, h]
theorem upto9_succ (P Q : List (List I3)) (k : Nat) : upto9 P Q (k + 1) = upto9 P Q k ++ row9 P Q k 7 := by
  simp [upto9, List.range_succ]
theorem row9_len (P Q : List (List I3)) (k p : Nat) : (row9 P Q k p).length ≤ p := by
  unfold row9
  rw [List.length_map]
  exact Nat.le_trans (List.length_filter_le _ _) (by simp)
theorem upto9_len (P Q : List (List I3)) : ∀ k, (upto9 P Q k).length ≤ 7 * k
  | 0 => by simp [upto9]
  | k + 1 => by
    rw [upto9_succ, List.length_append]
    have := upto9_len P Q k
    have := row9_len P Q k 7
    omega
theorem chg9_len (P Q : List (List I3)) : (chg9 P Q).length ≤ 21 := upto9_len P Q 3
theorem row9_mem {P Q : List (List I3)} {k p : Nat} {x : Pl9} (h : x ∈ row9 P Q k p) : x.1 = k ∧ x.2 < p ∧ ¬ atM9 P x.1 x.2 = atM9 Q x.1 x.2 := by
  simp only [row9, List.mem_map, List.mem_filter, List.mem_range, decide_eq_true_eq] at h
  obtain ⟨pc, ⟨h1, h2⟩, rfl⟩ := h
  exact ⟨rfl, h1, h2⟩
theorem chg9_mem {P Q : List (List I3)} {x : Pl9} : x ∈ chg9 P Q ↔ x.1 < 3 ∧ x.2 < 7 ∧ ¬ atM9 P x.1 x.2 = atM9 Q x.1 x.2 := by
  simp only [chg9, upto9, List.mem_flatMap, List.mem_range]
  constructor
  · rintro ⟨j, hj, hx⟩
    obtain ⟨h1, h2, h3⟩ := row9_mem hx
    exact ⟨by omega, h2, h3⟩
  · rintro ⟨h1, h2, h3⟩
    refine ⟨x.1, h1, ?_⟩
    simp only [row9, List.mem_map, List.mem_filter, List.mem_range, decide_eq_true_eq]
    exact ⟨x.2, ⟨h2, h3⟩, rfl⟩
theorem chgI_len (P Q : List (List I3)) : (chgI P Q).length ≤ 21 := by
  unfold chgI
  rw [List.length_map]
  exact chg9_len P Q
theorem itm9_ok {k p : Nat} (hk : k < 3) (hp : p < 7) : itOk (itm9 (k, p)) = true := by
  have h1 : 0 ≤ itm9 (k, p) ∧ itm9 (k, p) ≤ 22 ∧ itm9 (k, p) % 8 ≤ 6 := by
    unfold itm9
    simp only
    omega
  simp [itOk, h1]
theorem chgI_ok {P Q : List (List I3)} : ∀ y ∈ chgI P Q, itOk y = true := by
  intro y hy
  obtain ⟨x, hx, rfl⟩ := List.mem_map.1 hy
  obtain ⟨h1, h2, _⟩ := chg9_mem.1 hx
  exact itm9_ok h1 h2
end Go.Proofs.Ytleiogcohkfgkaa
