/-
  FnBugs, part 34 of 50 (Words).
-/
import Derived.Test.YtkmnnmgopnoffaaDoorProg
import Derived.Test.YtkmnnmgopnoffaaDoorJ33
import Derived.WalkKit
import Derived.WalkSpells
import Derived.WalkLawsBesides
import Derived.LaidLaws
import Derived.ChangeArms
import Derived.Lib.LaidTab

/-
  The words of the codes: the program's table (as its text lays it) and the specification's list hold the same twenty words; CodeWord, by contracts.
-/
namespace Go.Proofs.YtkmnnmgopnoffaaDoor
open Go.RowKit

def wordsL : List (List UInt8) := [[111, 107], [98, 97, 100], [108, 111, 110, 103], [102, 111, 114, 109], [114, 97, 110, 103, 101], [110, 111, 110, 101], [109, 97, 110, 121], [102, 117, 108, 108], [115, 105, 122, 101], [115, 117, 109], [100, 111, 110, 101], [98, 108, 111, 99, 107, 101, 100], [97, 115, 115, 101, 114, 116], [102, 97, 117, 108, 116], [100, 101, 97, 100, 108, 111, 99, 107], [98, 117, 100, 103, 101, 116], [100, 111, 119, 110], [117, 112], [116, 111, 114, 110], [118, 101, 114, 115, 105, 111, 110]]
/-- The word of code n. -/
def wordB (n : Nat) : ByteArray := ⟨(wordsL.getD n []).toArray⟩
/-- The table as cells. -/
def wordCells : List Value := wordsL.map fun l => Value.string ⟨l.toArray⟩

theorem wordCells_at (n : Nat) (hn : n < 20) : wordCells[n]? = some (.string (wordB n)) := by
  have hl : n < wordsL.length := hn
  simp [wordCells, wordB, List.getElem?_eq_getElem hl]

/-- The table is there, as the program's text lays it. -/
def Table (w : World) : Prop := ∃ t fr, w.heap[1]? = some (.cells wordCells.toArray t fr)
theorem Table.cell {w : World} (h : Table w) (n : Nat) (hn : n < 20) : w.cell? ⟨1, n, none⟩ = some (.string (wordB n)) := by
  obtain ⟨t, fr, h⟩ := h
  rw [cell_of_row w _ n _ t fr h, List.getElem?_toArray]
  exact wordCells_at n hn
theorem Table.lt {w : World} (h : Table w) : 1 < w.heap.size := by
  obtain ⟨t, fr, h⟩ := h
  exact (Array.getElem?_eq_some_iff.1 h).1
theorem Table.below {w w' : World} (h : Table w) (hb : Below w.heap.size w w') : Table w' := by
  have hl := h.lt
  obtain ⟨t, fr, h⟩ := h
  exact ⟨t, fr, by rw [hb.block _ hl]; exact h⟩

set_option maxHeartbeats 8000000 in
theorem specCodeWord_yes (n : Nat) (hn : n < 20) (w : World) :
    Calls Tryd.prog 137 #[.int .i64 n] w fun e w' => e = .returned (.string (wordB n)) ∧ Below w.heap.size w w' := by
  have hc : n = 0 ∨ n = 1 ∨ n = 2 ∨ n = 3 ∨ n = 4 ∨ n = 5 ∨ n = 6 ∨ n = 7 ∨ n = 8 ∨ n = 9 ∨ n = 10 ∨ n = 11 ∨ n = 12 ∨ n = 13 ∨ n = 14 ∨ n = 15 ∨ n = 16 ∨ n = 17 ∨ n = 18 ∨ n = 19 := by omega
  clear hn
  rcases hc with rfl | rfl | rfl | rfl | rfl | rfl | rfl | rfl | rfl | rfl | rfl | rfl | rfl | rfl | rfl | rfl | rfl | rfl | rfl | rfl
  all_goals
    go_enter Tryd.func137, Tryd.ntmps137
    go_wp2
    go_ret
    exact ⟨rfl, (Below.refl _ _).alloc (Nat.le_refl _) _⟩
theorem specCodeWord_no (n : Int) (hn : n < 0 ∨ 20 ≤ n) (w : World) :
    Calls Tryd.prog 137 #[.int .i64 n] w fun e w' => e = .returned (.string ByteArray.empty) ∧ Below w.heap.size w w' := by
  rcases hn with hn | hn
  all_goals
    go_enter Tryd.func137, Tryd.ntmps137
    go_wp2
    go_ret
    exact ⟨rfl, (Below.refl _ _).alloc (Nat.le_refl _) _⟩
theorem implCodeWord_yes (n : Nat) (hn : n < 20) (w : World) (hT : Table w) :
    Calls Tryd.prog 121 #[.int .i64 n] w fun e w' => e = .returned (.string (wordB n)) ∧ w = w' := by
  have hc := hT.cell n hn
  generalize wordB n = s at hc
  go_enter Tryd.func121, Tryd.ntmps121
  go_wp2
  go_ret
  exact ⟨rfl, rfl⟩
theorem implCodeWord_no (n : Int) (hn : n < 0 ∨ 20 ≤ n) (w : World) :
    Calls Tryd.prog 121 #[.int .i64 n] w fun e w' => e = .returned (.string ByteArray.empty) ∧ w = w' := by
  rcases hn with hn | hn
  all_goals
    go_enter Tryd.func121, Tryd.ntmps121
    go_wp2
    go_ret
    exact ⟨rfl, rfl⟩
end Go.Proofs.YtkmnnmgopnoffaaDoor
