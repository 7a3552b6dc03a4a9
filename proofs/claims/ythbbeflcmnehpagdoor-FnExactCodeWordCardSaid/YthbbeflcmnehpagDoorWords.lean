/-
  The words of the codes: the program's table (as its text lays it) and the specification's list hold the same twenty words; CodeWord, by contracts.
-/
import Derived.Test.YthbbeflcmnehpagDoorProg
import Derived.WalkKit
import Derived.WalkSpells
import Derived.WalkLawsBesides
import Derived.LaidLaws
import Derived.ChangeArms
import Derived.Lib.LaidTab
namespace Go.Proofs.YthbbeflcmnehpagDoor
open Go.RowKit

def wordsL : List (List UInt8) := [[111, 107], [98, 97, 100], [108, 111, 110, 103], [102, 111, 114, 109], [114, 97, 110, 103, 101], [110, 111, 110, 101], [109, 97, 110, 121], [102, 117, 108, 108], [115, 105, 122, 101], [115, 117, 109], [100, 111, 110, 101], [98, 108, 111, 99, 107, 101, 100], [97, 115, 115, 101, 114, 116], [102, 97, 117, 108, 116], [100, 101, 97, 100, 108, 111, 99, 107], [98, 117, 100, 103, 101, 116], [100, 111, 119, 110], [117, 112], [116, 111, 114, 110], [118, 101, 114, 115, 105, 111, 110]]
/-- The word of code n. -/
def wordB (n : Nat) : ByteArray := ⟨(wordsL.getD n []).toArray⟩
/-- The table as cells. -/
def wordCells : List Value := wordsL.map fun l => Value.string ⟨l.toArray⟩

/-- AN ARRAY OF TEXTS THAT READS AS THE TABLE HOLDS THE TABLE's TEXTS, CELL FOR CELL. -/
theorem cells_of_strs {H : Type} {enc : TypeId × Value → H} {P : Program} {w : World} {base : Nat} {sp : Nat → Bool} {held : Bool} {fuel : Nat} {t e : TypeId} {n : Nat} {cs : List Value} {zs : List (List UInt8)} {p : List MemPlace}
    (ht : P.underlying t = some (.array n e)) (he : P.underlying e = some .string) (hce : P.cellsOf e = 1) (hct : P.cellsOf t = n)
    (h : DataW.trod enc P w base sp held fuel t cs = some (.agg (zs.map fun z => .lit (.string z)), p)) : cs = zs.map fun z => Value.string ⟨z.toArray⟩ := by
  cases fuel with
  | zero => simp [DataW.trod] at h
  | succ fuel =>
    simp only [DataW.trod, ht, hce, hct, Nat.mul_one] at h
    split at h
    · rename_i hl
      obtain ⟨xs, hm, hx⟩ := Option.map_eq_some_iff.1 h
      have hxs : xs.map (·.1) = zs.map fun z => (DataW.lit (.string z) : DataW H) := by
        have := congrArg Prod.fst hx
        simpa using this
      have hxl : xs.length = n := by simpa using Lib.mapM_length hm
      have hzl : zs.length = n := by
        have := congrArg List.length hxs
        simp at this
        omega
      apply List.ext_getElem?
      intro i
      by_cases hi : i < n
      · obtain ⟨b, hb, hf⟩ := Lib.mapM_at hm i i (by simp [hi])
        obtain ⟨s, hc, rfl, _⟩ := DataW.trod_string he hf
        have h1 : cs[i]? = some (.string s) := by
          have := congrArg (·[0]?) hc
          simpa [List.getElem?_take, List.getElem?_drop] using this
        have h2 : (xs.map (·.1))[i]? = some (DataW.lit (.string s.data.toList) : DataW H) := by simp [hb]
        rw [hxs] at h2
        simp only [List.getElem?_map, Option.map_eq_some_iff, DataW.lit.injEq, Lit.string.injEq] at h2
        obtain ⟨z', hz', hz2⟩ := h2
        have hs : s = ⟨z'.toArray⟩ := by
          apply ByteArray.ext
          simp [hz2]
        simp [h1, hz', hs]
      · rw [List.getElem?_eq_none (by omega), List.getElem?_eq_none (by simp; omega)]
    · cases h

theorem wordCells_at (n : Nat) (hn : n < 20) : wordCells[n]? = some (.string (wordB n)) := by
  have hl : n < wordsL.length := hn
  simp [wordCells, wordB, List.getElem?_eq_getElem hl]

/-- The table is there, as the program's text lays it. -/
def Table (w : World) : Prop := ∃ t fr, w.heap[0]? = some (.cells wordCells.toArray t fr)
theorem Table.cell {w : World} (h : Table w) (n : Nat) (hn : n < 20) : w.cell? ⟨0, n, none⟩ = some (.string (wordB n)) := by
  obtain ⟨t, fr, h⟩ := h
  rw [cell_of_row w _ n _ t fr h, List.getElem?_toArray]
  exact wordCells_at n hn
theorem Table.lt {w : World} (h : Table w) : 0 < w.heap.size := by
  obtain ⟨t, fr, h⟩ := h
  exact (Array.getElem?_eq_some_iff.1 h).1
theorem Table.below {w w' : World} (h : Table w) (hb : Below w.heap.size w w') : Table w' := by
  have hl := h.lt
  obtain ⟨t, fr, h⟩ := h
  exact ⟨t, fr, by rw [hb.block _ hl]; exact h⟩

set_option maxHeartbeats 8000000 in
theorem specCodeWord_yes (n : Nat) (hn : n < 20) (w : World) :
    Calls Tryd.prog 6 #[.int .i64 n] w fun e w' => e = .returned (.string (wordB n)) ∧ Below w.heap.size w w' := by
  have hc : n = 0 ∨ n = 1 ∨ n = 2 ∨ n = 3 ∨ n = 4 ∨ n = 5 ∨ n = 6 ∨ n = 7 ∨ n = 8 ∨ n = 9 ∨ n = 10 ∨ n = 11 ∨ n = 12 ∨ n = 13 ∨ n = 14 ∨ n = 15 ∨ n = 16 ∨ n = 17 ∨ n = 18 ∨ n = 19 := by omega
  clear hn
  rcases hc with rfl | rfl | rfl | rfl | rfl | rfl | rfl | rfl | rfl | rfl | rfl | rfl | rfl | rfl | rfl | rfl | rfl | rfl | rfl | rfl
  all_goals
    go_enter Tryd.func6, Tryd.ntmps6
    go_wp2
    go_ret
    exact ⟨rfl, (Below.refl _ _).alloc (Nat.le_refl _) _⟩
theorem specCodeWord_no (n : Int) (hn : n < 0 ∨ 20 ≤ n) (w : World) :
    Calls Tryd.prog 6 #[.int .i64 n] w fun e w' => e = .returned (.string ByteArray.empty) ∧ Below w.heap.size w w' := by
  rcases hn with hn | hn
  all_goals
    go_enter Tryd.func6, Tryd.ntmps6
    go_wp2
    go_ret
    exact ⟨rfl, (Below.refl _ _).alloc (Nat.le_refl _) _⟩
theorem implCodeWord_yes (n : Nat) (hn : n < 20) (w : World) (hT : Table w) :
    Calls Tryd.prog 7 #[.int .i64 n] w fun e w' => e = .returned (.string (wordB n)) ∧ w = w' := by
  have hc := hT.cell n hn
  generalize wordB n = s at hc
  go_enter Tryd.func7, Tryd.ntmps7
  go_wp2
  go_ret
  exact ⟨rfl, rfl⟩
theorem implCodeWord_no (n : Int) (hn : n < 0 ∨ 20 ≤ n) (w : World) :
    Calls Tryd.prog 7 #[.int .i64 n] w fun e w' => e = .returned (.string ByteArray.empty) ∧ w = w' := by
  rcases hn with hn | hn
  all_goals
    go_enter Tryd.func7, Tryd.ntmps7
    go_wp2
    go_ret
    exact ⟨rfl, rfl⟩
end Go.Proofs.YthbbeflcmnehpagDoor
