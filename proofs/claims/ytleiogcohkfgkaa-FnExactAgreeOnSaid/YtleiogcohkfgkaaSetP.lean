
/-
  Plain: numbers put in their order, each once.
-/
import Derived.Test.YtleiogcohkfgkaaProg
namespace Go.Proofs.Ytleiogcohkfgkaa
set_option linter.unusedVariables false

/-- A number is put where it belongs; one that is there stays. -/
def putI : List Int → Int → List Int
  | [], n => [n]
  | x :: xs, n => if x < n then x :: putI xs n else if x = n then x :: xs else n :: x :: xs
/-- All numbers of a list, rising, each once. -/
def mrgI (xs : List Int) : List Int := xs.foldl putI []
theorem putI_mem : ∀ (xs : List Int) (n y : Int), y ∈ putI xs n ↔ y = n ∨ y ∈ xs
  | [], n, y => by simp [putI]
  | x :: xs, n, y => by
    unfold putI
    split
    · simp only [List.mem_cons, putI_mem xs n y]
      constructor
      · rintro (h | h | h)
        · exact .inr (.inl h)
        · exact .inl h
        · exact .inr (.inr h)
      · rintro (h | h | h)
        · exact .inr (.inl h)
        · exact .inl h
        · exact .inr (.inr h)
    · split
      · rename_i h
        subst h
        simp
      · simp
theorem putI_rises : ∀ (xs : List Int) (n : Int), xs.Pairwise (· < ·) → (putI xs n).Pairwise (· < ·)
  | [], n, _ => by simp [putI]
  | x :: xs, n, h => by
    obtain ⟨h1, h2⟩ := List.pairwise_cons.1 h
    unfold putI
    split
    · rename_i hx
      refine List.pairwise_cons.2 ⟨fun y hy => ?_, putI_rises xs n h2⟩
      rcases (putI_mem xs n y).1 hy with rfl | hy
      · exact hx
      · exact h1 y hy
    · split
      · exact h
      · refine List.pairwise_cons.2 ⟨fun y hy => ?_, h⟩
        rcases List.mem_cons.1 hy with rfl | hy
        · omega
        · have := h1 y hy
          omega
theorem foldl_putI : ∀ (xs acc : List Int), acc.Pairwise (· < ·) → (xs.foldl putI acc).Pairwise (· < ·) ∧ ∀ y, y ∈ xs.foldl putI acc ↔ y ∈ acc ∨ y ∈ xs
  | [], acc, h => ⟨h, fun y => by simp⟩
  | x :: xs, acc, h => by
    obtain ⟨h1, h2⟩ := foldl_putI xs (putI acc x) (putI_rises acc x h)
    refine ⟨h1, fun y => ?_⟩
    rw [List.foldl_cons, h2, putI_mem, List.mem_cons]
    constructor
    · rintro ((h | h) | h)
      · exact .inr (.inl h)
      · exact .inl h
      · exact .inr (.inr h)
    · rintro (h | h | h)
      · exact .inl (.inr h)
      · exact .inl (.inl h)
      · exact .inr h
theorem mrgI_rises (xs : List Int) : (mrgI xs).Pairwise (· < ·) := (foldl_putI xs [] List.Pairwise.nil).1
theorem mrgI_mem (xs : List Int) (y : Int) : y ∈ mrgI xs ↔ y ∈ xs := by
  have := (foldl_putI xs [] List.Pairwise.nil).2 y
  simpa [mrgI] using this
theorem rises_nodup {xs : List Int} (h : xs.Pairwise (· < ·)) : xs.Nodup := h.imp (fun h e => by subst e; exact absurd h (by omega))
/-- Rising lists of the same numbers are one. -/
theorem rises_eq {xs ys : List Int} (h : xs.Pairwise (· < ·)) (h' : ys.Pairwise (· < ·)) (hm : ∀ y, y ∈ xs ↔ y ∈ ys) : xs = ys := by
  have hp : xs.Perm ys := (List.perm_ext_iff_of_nodup (rises_nodup h) (rises_nodup h')).2 hm
  exact hp.eq_of_pairwise (le := fun a b => a < b) (fun a b _ _ h1 h2 => absurd h1 (by omega)) h h'
theorem mrgI_eq {xs ys : List Int} (h : ∀ y, y ∈ xs ↔ y ∈ ys) : mrgI xs = mrgI ys := rises_eq (mrgI_rises xs) (mrgI_rises ys) (fun y => by rw [mrgI_mem, mrgI_mem, h])
theorem putI_len (xs : List Int) (n : Int) : (putI xs n).length ≤ xs.length + 1 := by
  induction xs with
  | nil => simp [putI]
  | cons x xs ih =>
    unfold putI
    split
    · simp; omega
    · split <;> simp
theorem foldl_putI_len : ∀ (xs acc : List Int), (xs.foldl putI acc).length ≤ acc.length + xs.length
  | [], acc => by simp
  | x :: xs, acc => by
    have := foldl_putI_len xs (putI acc x)
    have := putI_len acc x
    simp
    omega
theorem mrgI_len (xs : List Int) : (mrgI xs).length ≤ xs.length := by simpa [mrgI] using foldl_putI_len xs []
/-- Where a number is put: all before it are less, and it is there or what is behind it is greater. -/
theorem putI_at : ∀ (xs : List Int) (n : Int) (k : Nat), k ≤ xs.length → (∀ i, i < k → xs.getD i 0 < n) → (k = xs.length ∨ ¬ xs.getD k 0 < n) → putI xs n = if k < xs.length ∧ xs.getD k 0 = n then xs else xs.take k ++ [n] ++ xs.drop k
  | [], n, k, hk, _, _ => by
    have : k = 0 := by simpa using hk
    subst this
    simp [putI]
  | x :: xs, n, 0, _, _, h => by
    have hx : ¬ x < n := by simpa using h
    unfold putI
    rw [if_neg hx]
    simp
  | x :: xs, n, k + 1, hk, hl, h => by
    have hx : x < n := by simpa using hl 0 (by omega)
    unfold putI
    rw [if_pos hx]
    have ih := putI_at xs n k (by simpa using hk) (fun i hi => by simpa using hl (i + 1) (by omega)) (by simpa using h)
    rw [ih]
    simp only [List.length_cons, Nat.add_lt_add_iff_right, List.getD_cons_succ, List.take_succ_cons, List.drop_succ_cons]
    split <;> simp
end Go.Proofs.Ytleiogcohkfgkaa
