
/-
  Both sides' MergeItems.
-/
import Derived.Test.YtojcgajjnmjjpaaMgiI
namespace Go.Proofs.Ytojcgajjnmjjpaa
open Go.RowKit
set_option linter.unusedVariables false
set_option linter.unusedSimpArgs false

/-- A new row and a code. -/
def PGot (e : Ending) (w' : World) (B : Nat) (xs : List Int) (cd : Int) : Prop := ∃ v, e = .returned (.tuple #[v, .int .i64 cd]) ∧ w'.ownsRow B 3 1 v xs.length (xs.map (Value.int .i64))
def mgC (xs ys : List Int) : Int := if xs.length ≤ 4096 ∧ ys.length ≤ 4096 then (if (allIt xs && allIt ys) = true then 0 else 4) else 2
def mgZ (xs ys : List Int) : List Int := if xs.length ≤ 4096 ∧ ys.length ≤ 4096 ∧ (allIt xs && allIt ys) = true then mrgI (xs ++ ys) else []
theorem mgC_long {xs ys : List Int} (h : ¬ (xs.length ≤ 4096 ∧ ys.length ≤ 4096)) : mgC xs ys = 2 := if_neg h
theorem mgZ_long {xs ys : List Int} (h : ¬ (xs.length ≤ 4096 ∧ ys.length ≤ 4096)) : mgZ xs ys = [] := if_neg (fun e => h ⟨e.1, e.2.1⟩)
theorem mgC_bad {xs ys : List Int} (h : xs.length ≤ 4096) (h' : ys.length ≤ 4096) (k : (allIt xs && allIt ys) = false) : mgC xs ys = 4 := by unfold mgC; rw [if_pos ⟨h, h'⟩, k]; rfl
theorem mgZ_bad {xs ys : List Int} (h : xs.length ≤ 4096) (h' : ys.length ≤ 4096) (k : (allIt xs && allIt ys) = false) : mgZ xs ys = [] := if_neg (fun e => by rw [k] at e; exact absurd e.2.2 (by simp))
theorem mgC_ok {xs ys : List Int} (h : xs.length ≤ 4096) (h' : ys.length ≤ 4096) (k : (allIt xs && allIt ys) = true) : mgC xs ys = 0 := by unfold mgC; rw [if_pos ⟨h, h'⟩, k]; rfl
theorem mgZ_ok {xs ys : List Int} (h : xs.length ≤ 4096) (h' : ys.length ≤ 4096) (k : (allIt xs && allIt ys) = true) : mgZ xs ys = mrgI (xs ++ ys) := if_pos ⟨h, h', k⟩
theorem mgZ_len (xs ys : List Int) : (mgZ xs ys).length ≤ 8192 := by
  unfold mgZ
  split
  · rename_i h
    have := mrgI_len (xs ++ ys)
    simp at this
    omega
  · simp
theorem nil8 (w : World) (B : Nat) : w.ownsRow B 3 1 (.slice none 0 0) ([] : List Int).length (([] : List Int).map (Value.int .i64)) := ⟨rfl, .inl ⟨rfl, rfl⟩⟩
theorem rows_two (w : World) {a a' : Option Addr} {n c n' c' : Nat} {xs ys : List Int} (h : Ints .i64 w a n c xs) (h' : Ints .i64 w a' n' c' ys) : RowsI (w.alloc (.cells #[.slice a n c, .slice a' n' c'] 23)) (some ⟨w.heap.size, 0, none⟩) 2 2 [xs, ys] := by
  have b1 : Below w.heap.size w (w.alloc (.cells #[.slice a n c, .slice a' n' c'] 23)) := by go_grown
  refine ⟨rfl, Nat.le_refl _, by unfold maxLen; omega, [.slice a n c, .slice a' n' c'], ((AllL.nil _).snoc ⟨_, _, _, rfl, h.below b1⟩).snoc ⟨_, _, _, rfl, h'.below b1⟩, .inr ⟨_, _, rfl, by simp, fun t ht => ?_⟩⟩
  match t, ht with
  | 0, _ => simp [go_sem]
  | 1, _ => simp [go_sem]
theorem rows_one (w : World) {a : Option Addr} {n c : Nat} {xs : List Int} (h : Ints .i64 w a n c xs) : RowsI (w.alloc (.cells #[.slice a n c] 23)) (some ⟨w.heap.size, 0, none⟩) 1 1 [xs] := by
  have b1 : Below w.heap.size w (w.alloc (.cells #[.slice a n c] 23)) := by go_grown
  refine ⟨rfl, Nat.le_refl _, by unfold maxLen; omega, [.slice a n c], (AllL.nil _).snoc ⟨_, _, _, rfl, h.below b1⟩, .inr ⟨_, _, rfl, by simp, fun t ht => ?_⟩⟩
  match t, ht with
  | 0, _ => simp [go_sem]
set_option maxHeartbeats 1000000 in
set_option maxRecDepth 100000 in
theorem specMergeItems_is (a : Option Addr) (n c : Nat) (xs : List Int) (a' : Option Addr) (n' c' : Nat) (ys : List Int) (w : World) (h : Ints .i64 w a n c xs) (h' : Ints .i64 w a' n' c' ys) (hn : n ≤ 1048576) (hn' : n' ≤ 1048576) (hw : wfs xs) (hw' : wfs ys) :
    Calls Try.prog 10 #[.slice a n c, .slice a' n' c'] w fun e w' => PGot e w' w.heap.size (mgZ xs ys) (mgC xs ys) ∧ Below w.heap.size w w' := by
  have hl := h.1
  have hl' := h'.1
  have kA := fun W (hb : Below w.heap.size w W) => l08All_is a n c xs W (h.below hb) hn hw
  have kB := fun W (hb : Below w.heap.size w W) => l08All_is a' n' c' ys W (h'.below hb) hn' hw'
  by_cases hb : 4096 < n ∨ 4096 < n'
  · rw [mgC_long (by omega), mgZ_long (by omega)]
    by_cases h1 : 4096 < n
    · clear hb kA kB
      go_enter Try.func10, Try.ntmps10
      go_wp2
      go_ret2
      exact ⟨⟨_, rfl, empty8 w 3 1 w.heap.size (Nat.le_refl _)⟩, by go_grown⟩
    · have h2 : 4096 < n' := by omega
      clear hb kA kB
      go_enter Try.func10, Try.ntmps10
      go_wp2
      go_ret2
      exact ⟨⟨_, rfl, empty8 w 3 1 w.heap.size (Nat.le_refl _)⟩, by go_grown⟩
  have h1 : n ≤ 4096 := by omega
  have h2 : n' ≤ 4096 := by omega
  clear hb
  have bw := Below.refl w.heap.size w
  cases hA : allIt xs
  · rw [mgC_bad (by omega) (by omega) (by rw [hA]; rfl), mgZ_bad (by omega) (by omega) (by rw [hA]; rfl)]
    rw [hA] at kA
    clear hA
    go_enter Try.func10, Try.ntmps10
    go_wp2_with fail
    refine (kA _ bw).mono ?_
    rintro e w1 ⟨rfl, rfl⟩
    go_wp2
    go_ret2
    exact ⟨⟨_, rfl, empty8 w 3 1 w.heap.size (Nat.le_refl _)⟩, by go_grown⟩
  cases hB : allIt ys
  · rw [mgC_bad (by omega) (by omega) (by rw [hB, Bool.and_false]), mgZ_bad (by omega) (by omega) (by rw [hB, Bool.and_false])]
    rw [hA] at kA
    rw [hB] at kB
    clear hA hB
    go_enter Try.func10, Try.ntmps10
    go_wp2_with fail
    refine (kA _ bw).mono ?_
    rintro e w1 ⟨rfl, rfl⟩
    go_wp2_with fail
    refine (kB _ bw).mono ?_
    rintro e w1 ⟨rfl, rfl⟩
    go_wp2
    go_ret2
    exact ⟨⟨_, rfl, empty8 w 3 1 w.heap.size (Nat.le_refl _)⟩, by go_grown⟩
  rw [mgC_ok (by omega) (by omega) (by rw [hA, hB]; rfl), mgZ_ok (by omega) (by omega) (by rw [hA, hB]; rfl)]
  rw [hA] at kA
  rw [hB] at kB
  have kM := l08Merge_is a n c xs a' n' c' ys w h h' (by omega) (by omega)
  clear hA hB
  go_enter Try.func10, Try.ntmps10
  go_wp2_with fail
  refine (kA _ bw).mono ?_
  rintro e w1 ⟨rfl, rfl⟩
  go_wp2_with fail
  refine (kB _ bw).mono ?_
  rintro e w1 ⟨rfl, rfl⟩
  go_wp2_with fail
  refine kM.mono ?_
  rintro e w1 ⟨⟨v, rfl, q⟩, hb⟩
  go_wp2
  go_ret2
  exact ⟨⟨v, rfl, q⟩, hb⟩
set_option maxHeartbeats 1000000 in
set_option maxRecDepth 100000 in
theorem implMergeItems_is (a : Option Addr) (n c : Nat) (xs : List Int) (a' : Option Addr) (n' c' : Nat) (ys : List Int) (w : World) (h : Ints .i64 w a n c xs) (h' : Ints .i64 w a' n' c' ys) (hn : n ≤ 1048576) (hn' : n' ≤ 1048576) (hw : wfs xs) (hw' : wfs ys) :
    Calls Try.prog 9 #[.slice a n c, .slice a' n' c'] w fun e w' => PGot e w' w.heap.size (mgZ xs ys) (mgC xs ys) ∧ Below w.heap.size w w' := by
  have hl := h.1
  have hl' := h'.1
  have kA := fun W (hb : Below w.heap.size w W) => itemsOK_is a n c xs W (h.below hb) hn hw
  have kB := fun W (hb : Below w.heap.size w W) => itemsOK_is a' n' c' ys W (h'.below hb) hn' hw'
  by_cases hb : 4096 < n ∨ 4096 < n'
  · rw [mgC_long (by omega), mgZ_long (by omega)]
    by_cases h1 : 4096 < n
    · clear hb kA kB
      go_enter Try.func9, Try.ntmps9
      go_wp2
      go_ret2
      exact ⟨⟨_, rfl, nil8 w w.heap.size⟩, Below.refl _ _⟩
    · have h2 : 4096 < n' := by omega
      clear hb kA kB
      go_enter Try.func9, Try.ntmps9
      go_wp2
      go_ret2
      exact ⟨⟨_, rfl, nil8 w w.heap.size⟩, Below.refl _ _⟩
  have h1 : n ≤ 4096 := by omega
  have h2 : n' ≤ 4096 := by omega
  clear hb
  have bw := Below.refl w.heap.size w
  cases hA : allIt xs
  · rw [mgC_bad (by omega) (by omega) (by rw [hA]; rfl), mgZ_bad (by omega) (by omega) (by rw [hA]; rfl)]
    rw [hA] at kA
    clear hA
    go_enter Try.func9, Try.ntmps9
    go_wp2_with fail
    refine (kA _ bw).mono ?_
    rintro e w1 ⟨rfl, rfl⟩
    go_wp2
    go_ret2
    exact ⟨⟨_, rfl, nil8 w w.heap.size⟩, Below.refl _ _⟩
  cases hB : allIt ys
  · rw [mgC_bad (by omega) (by omega) (by rw [hB, Bool.and_false]), mgZ_bad (by omega) (by omega) (by rw [hB, Bool.and_false])]
    rw [hA] at kA
    rw [hB] at kB
    clear hA hB
    go_enter Try.func9, Try.ntmps9
    go_wp2_with fail
    refine (kA _ bw).mono ?_
    rintro e w1 ⟨rfl, rfl⟩
    go_wp2_with fail
    refine (kB _ bw).mono ?_
    rintro e w1 ⟨rfl, rfl⟩
    go_wp2
    go_ret2
    exact ⟨⟨_, rfl, nil8 w w.heap.size⟩, Below.refl _ _⟩
  rw [mgC_ok (by omega) (by omega) (by rw [hA, hB]; rfl), mgZ_ok (by omega) (by omega) (by rw [hA, hB]; rfl)]
  rw [hA] at kA
  rw [hB] at kB
  have b1 : Below w.heap.size w (w.alloc (.cells #[.slice a n c, .slice a' n' c'] 23)) := by go_grown
  have hRow : RowsI (w.alloc (.cells #[.slice a n c, .slice a' n' c'] 23)) (some ⟨w.heap.size, 0, none⟩) 2 2 [xs, ys] := rows_two w h h'
  have kM := merged_is (some ⟨w.heap.size, 0, none⟩) 2 2 [xs, ys] _ hRow (by omega) (by simp; omega) (fun x hx => by
    rcases List.mem_append.1 (by simpa using hx : x ∈ xs ++ ys) with h9 | h9
    · exact hw x h9
    · exact hw' x h9)
  have e9 : [xs, ys].flatten = xs ++ ys := by simp
  rw [e9] at kM
  clear hA hB hRow e9
  go_enter Try.func9, Try.ntmps9
  go_wp2_with fail
  refine (kA _ bw).mono ?_
  rintro e w1 ⟨rfl, rfl⟩
  go_wp2_with fail
  refine (kB _ bw).mono ?_
  rintro e w1 ⟨rfl, rfl⟩
  go_wp2_with fail
  refine kM.mono ?_
  rintro e w1 ⟨⟨v, rfl, q⟩, hb⟩
  go_wp2
  go_ret2
  exact ⟨⟨v, rfl, lower8 q (by simp)⟩, bel8 b1 hb⟩
end Go.Proofs.Ytojcgajjnmjjpaa
