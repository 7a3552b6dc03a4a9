
/-
  CodeOf, the program's and the specification's: the first code whose word is the text, -1 of any other text.
-/
import Derived.Test.YtkmnnmgopnoffaaDoorWords
namespace Go.Proofs.YtkmnnmgopnoffaaDoor
open Go.RowKit

/-- The word of code k is the text s. -/
def isWord (k : Nat) (s : ByteArray) : Prop := (wordB k).toList = s.toList
/-- c is the code of the text s, or -1 where no word is s. -/
def IsCode (s : ByteArray) (c : Int) : Prop := (∃ k : Nat, k < 20 ∧ c = k ∧ isWord k s ∧ ∀ j, j < k → ¬ isWord j s) ∨ (c = -1 ∧ ∀ j, j < 20 → ¬ isWord j s)
theorem IsCode.same {s : ByteArray} {c d : Int} (h : IsCode s c) (k : IsCode s d) : c = d := by
  rcases h with ⟨a, ha, rfl, ha1, ha2⟩ | ⟨rfl, ha⟩ <;> rcases k with ⟨b, hb, rfl, hb1, hb2⟩ | ⟨rfl, hb⟩
  · rcases Nat.lt_trichotomy a b with h | h | h
    · exact absurd ha1 (hb2 a h)
    · rw [h]
    · exact absurd hb1 (ha2 b h)
  · exact absurd ha1 (hb a ha)
  · exact absurd hb1 (ha b hb)
  · rfl
/-- No word ahead of code k is s. -/
def noneTo (s : ByteArray) (k : Nat) : Prop := ∀ j, j < k → ¬ isWord j s
theorem noneTo_succ {s : ByteArray} {k : Nat} (h : noneTo s k) (hk : ¬ isWord k s) : noneTo s (k + 1) := by
  intro j hj
  rcases Nat.lt_or_ge j k with h' | h'
  · exact h j h'
  · obtain rfl : j = k := by omega
    exact hk

set_option maxHeartbeats 1000000 in
theorem specCodeOf_any (s : ByteArray) (w : World) :
    Calls Tryd.prog 141 #[.string s] w fun e w' => (∃ c, e = .returned (.int .i64 c) ∧ IsCode s c) ∧ Below w.heap.size w w' := by
  go_enter Tryd.func141, Tryd.ntmps141
  go_wp2
  go_loopw [3] (fun i wr => ∃ k : Nat, k ≤ 20 ∧ i = .int .i64 k ∧ noneTo s k ∧ Below w.heap.size w wr) (fun i _ => 20 - (intOf i).toNat)
  case atStart => exact ⟨0, by omega, rfl, fun j hj => by omega, Below.refl _ _⟩
  case round =>
    obtain ⟨k, hk, rfl, hno, hbel⟩ := hrel
    by_cases hlt : k < 20
    · by_cases he : isWord k s
      · have hs : ((wordB k).toList == s.toList) = true := beq_iff_eq.2 he
        go_wp2_with (go_at_call 137; refine (specCodeWord_yes k hlt _).mono ?_; rintro e w1 ⟨rfl, hb1⟩)
        go_ret
        exact ⟨⟨_, rfl, .inl ⟨k, hlt, rfl, he, hno⟩⟩, hbel.trans (hb1.mono hbel.size)⟩
      · have hs : ((wordB k).toList == s.toList) = false := beq_eq_false_iff_ne.2 he
        go_wp2_with (go_at_call 137; refine (specCodeWord_yes k hlt _).mono ?_; rintro e w1 ⟨rfl, hb1⟩)
        go_roundw
        case rel => exact ⟨k + 1, by omega, by go_num, noneTo_succ hno he, hbel.trans (hb1.mono hbel.size)⟩
        case measure => simp [intOf]; omega
    · obtain rfl : k = 20 := by omega
      go_wp2
      go_ret
      exact ⟨⟨_, rfl, .inr ⟨rfl, hno⟩⟩, hbel⟩

theorem tab_index (k : Nat) (hk : k < 20) (w : World) : (Instr.index 184 (.agg wordCells.toArray) (.int .i64 k)).run Tryd.prog w = .ok (.string (wordB k)) w :=
  match k, hk with
  | 0, _ => by kernel_rfl
  | 1, _ => by kernel_rfl
  | 2, _ => by kernel_rfl
  | 3, _ => by kernel_rfl
  | 4, _ => by kernel_rfl
  | 5, _ => by kernel_rfl
  | 6, _ => by kernel_rfl
  | 7, _ => by kernel_rfl
  | 8, _ => by kernel_rfl
  | 9, _ => by kernel_rfl
  | 10, _ => by kernel_rfl
  | 11, _ => by kernel_rfl
  | 12, _ => by kernel_rfl
  | 13, _ => by kernel_rfl
  | 14, _ => by kernel_rfl
  | 15, _ => by kernel_rfl
  | 16, _ => by kernel_rfl
  | 17, _ => by kernel_rfl
  | 18, _ => by kernel_rfl
  | 19, _ => by kernel_rfl
  | k + 20, hk => absurd hk (by omega)

set_option maxHeartbeats 1000000 in
theorem implCodeOf_any (s : ByteArray) (w : World) (hT : Table w) :
    Calls Tryd.prog 123 #[.string s] w fun e w' => (∃ c, e = .returned (.int .i64 c) ∧ IsCode s c) ∧ w = w' := by
  obtain ⟨tt, fr, hg⟩ := hT
  have hsz : (Tryd.prog.info? 184).map (·.size) = some wordCells.toArray.size := by kernel_rfl
  have hix := fun k hk W => tab_index k hk W
  generalize wordCells.toArray = tb at hg hsz hix
  go_enter Tryd.func123, Tryd.ntmps123
  go_wp2_with (refine wpList_load_row rfl 184 _ rfl 1 rfl tt _ fr _ hg Tryd.underlying184 rfl hsz ?_)
  clear hg hsz
  go_loop [6] (fun i => ∃ k : Nat, k ≤ 20 ∧ i = .int .i64 k ∧ noneTo s k) (fun i => 20 - (intOf i).toNat)
  case atStart => exact ⟨0, by omega, rfl, fun j hj => by omega⟩
  case round =>
    obtain ⟨k, hk, rfl, hno⟩ := hrel
    by_cases hlt : k < 20
    · have hi := fun W => hix k hlt W
      clear hix
      by_cases he : isWord k s
      · have hs : ((wordB k).toList == s.toList) = true := beq_iff_eq.2 he
        go_wp2
        go_ret
        exact ⟨⟨_, rfl, .inl ⟨k, hlt, rfl, he, hno⟩⟩, rfl⟩
      · have hs : ((wordB k).toList == s.toList) = false := beq_eq_false_iff_ne.2 he
        go_wp2
        go_round
        case rel => exact ⟨k + 1, by omega, by go_num, noneTo_succ hno he⟩
        case measure => simp [intOf]; omega
    · obtain rfl : k = 20 := by omega
      go_wp2
      go_ret
      exact ⟨⟨_, rfl, .inr ⟨rfl, hno⟩⟩, rfl⟩

end Go.Proofs.YtkmnnmgopnoffaaDoor
