/-
  FnExactRunSchedule, part 36 of 50 (Digits, TextS, Tells, TextI).
-/
import Derived.Test.YtgjmangbigibbaaGreatDoorJ10
import Derived.Test.YtgjmangbigibbaaGreatDoorJ13
import Derived.Laws.OwnMore
import Derived.Test.YtgjmangbigibbaaGreatDoorJ03
import Derived.BigQuiet
import Derived.Deep.QuietTactic
import Derived.Deep.RegionHeld3
import Derived.Test.YtgjmangbigibbaaGreatDoorJ08

/-
  One digit's text: the program's strconv.Itoa and the specification's l00Digits at 0 to 9.
-/
namespace Go.Proofs.YtgjmangbigibbaaGreatDoor
open Go.RowKit

/-- A digit's text. -/
def digT (n : Nat) : ByteArray := strOfNums [48 + (n : Int)]

end Go.Proofs.YtgjmangbigibbaaGreatDoor


/-
  spec.l02Text: an instruction's text.
-/
namespace Go.Proofs.YtgjmangbigibbaaGreatDoor
open Go.RowKit

def opWL : List (List UInt8) := [[], [108, 111, 97, 100], [115, 116, 111, 114, 101], [115, 101, 116], [97, 100, 100], [108, 111, 99, 107], [117, 110, 108, 111, 99, 107], [106, 117, 109, 112], [97, 115, 115, 101, 114, 116]]
/-- An instruction's word. -/
def opB (k : Nat) : ByteArray := ⟨(opWL.getD k []).toArray⟩

theorem bel_drewN' (w : World) (n : Nat) : Below w.heap.size w (w.drewN n) := ⟨rfl, rfl, rfl, Nat.le_refl _, fun _ _ => rfl⟩

theorem opB_size (k : Nat) : (opB k).size ≤ 6 := by
  match k with
  | 0 => decide
  | 1 => decide
  | 2 => decide
  | 3 => decide
  | 4 => decide
  | 5 => decide
  | 6 => decide
  | 7 => decide
  | 8 => decide
  | (k + 9) =>
    have : opWL.getD (k + 9) [] = [] := by simp [opWL]
    unfold opB
    rw [this]
    decide
theorem digT_size (a : Nat) : (digT a).size = 1 := rfl

/-- The text of an instruction that tells one number. -/
def txt1 (k a : Nat) : ByteArray := (opB k ++ ⟨#[32]⟩) ++ digT a

/-- .. that tells two. -/
def txt2 (k a b : Nat) : ByteArray := (txt1 k a ++ ⟨#[32]⟩) ++ digT b

end Go.Proofs.YtgjmangbigibbaaGreatDoor


/-
  tellsB: which instructions tell a second number.
-/
namespace Go.Proofs.YtgjmangbigibbaaGreatDoor
open Go.RowKit


theorem tb_shared (v : Value) (w : World) : (Instr.typeAssert (.iface 190 v) 181 193 true).run Tryz.prog w = .ok (.tuple #[.int .i64 0, .bool false]) w := by kernel_rfl
theorem tb_register (v : Value) (w : World) : (Instr.typeAssert (.iface 189 v) 181 193 true).run Tryz.prog w = .ok (.tuple #[.int .i64 0, .bool false]) w := by kernel_rfl
theorem tb_value (v : Value) (w : World) : (Instr.typeAssert (.iface 191 v) 181 193 true).run Tryz.prog w = .ok (.tuple #[.int .i64 0, .bool false]) w := by kernel_rfl
theorem tb_target (v : Value) (w : World) : (Instr.typeAssert (.iface 184 v) 181 193 true).run Tryz.prog w = .ok (.tuple #[.int .i64 0, .bool false]) w := by kernel_rfl
theorem tb_no (v : Value) (w : World) : (Instr.typeAssert (.iface 193 v) 181 193 true).run Tryz.prog w = .ok (.tuple #[v, .bool true]) w := by kernel_rfl
theorem tb_nil (w : World) : (Instr.typeAssert .nilIface 181 193 true).run Tryz.prog w = .ok (.tuple #[.int .i64 0, .bool false]) w := by kernel_rfl


end Go.Proofs.YtgjmangbigibbaaGreatDoor


/-
  impl.textOfInstr, InstrText on both sides.
-/
namespace Go.Proofs.YtgjmangbigibbaaGreatDoor
open Go.RowKit

/-- The program's table of words is there, as its text lays it. -/
def opCells : List Value := opWL.map fun l => Value.string ⟨l.toArray⟩
theorem opCells_at (n : Nat) (hn : n < 9) : opCells[n]? = some (.string (opB n)) := by
  have hl : n < opWL.length := hn
  simp [opCells, opB, List.getElem?_eq_getElem hl]
theorem okI_nats {x : I3} (h : okI x = true) : ∃ k a b : Nat, x = ((k : Int), (a : Int), (b : Int)) ∧ k ≠ 0 ∧ k < 9 ∧ a < 10 ∧ b < 10 := by
  have hs : (1 ≤ x.1 ∧ x.1 ≤ 8) ∧ (0 ≤ x.2.1 ∧ x.2.1 ≤ 9) ∧ (0 ≤ x.2.2 ∧ x.2.2 ≤ 9) := by
    unfold okI at h
    rcases op_cases x with h' | h' | h' | h' | h' | h' | h' | h' | h'
    all_goals first
      | (simp [h'] at h; simp only [inB_true] at h; omega)
      | (obtain ⟨h1, h2, h3, h4, h5, h6, h7, h8⟩ := h'; simp [h1, h2, h3, h4, h5, h6, h7, h8] at h)
  obtain ⟨c, a, b⟩ := x
  simp only [] at hs
  refine ⟨c.toNat, a.toNat, b.toNat, ?_, by omega, by omega, by omega, by omega⟩
  rw [Int.toNat_of_nonneg (by omega), Int.toNat_of_nonneg (by omega), Int.toNat_of_nonneg (by omega)]

end Go.Proofs.YtgjmangbigibbaaGreatDoor
