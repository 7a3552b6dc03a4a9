/-
  A right program's lines: thread by thread, the thread ahead of each instruction's text.
-/
import Derived.Test.YtiokkoaalakakaaDoorTextI
import Derived.Test.YtiokkoaalakakaaDoorCodeI
import Derived.Test.YtiokkoaalakakaaDoorParts
namespace Go.Proofs.YtiokkoaalakakaaDoor
open Go.RowKit

/-- An instruction's text. -/
def txtI (x : I3) : ByteArray := if x.1 = 5 ∨ x.1 = 6 then txt1 x.1.toNat x.2.1.toNat else txt2 x.1.toNat x.2.1.toNat x.2.2.toNat

theorem l02Text_is {x : I3} (h : okI x = true) (w : World) : Calls Tryd.prog 31 #[x.val] w fun e w' => e = .returned (.string (txtI x)) ∧ Below w.heap.size w w' := by
  obtain ⟨k, a, b, rfl, h0, h9, ha, hb⟩ := okI_nats h
  unfold I3.val
  by_cases hk : k = 5 ∨ k = 6
  · have e : txtI ((k : Int), (a : Int), (b : Int)) = txt1 k a := by unfold txtI; rw [if_pos (by simp only; omega)]; simp
    rw [e]
    exact l02Text_lock k a b w hk ha
  · have e : txtI ((k : Int), (a : Int), (b : Int)) = txt2 k a b := by unfold txtI; rw [if_neg (by simp only; omega)]; simp
    rw [e]
    exact l02Text_two k a b w h9 (by omega) (by omega) ha hb
theorem textOf_is {x : I3} (h : okI x = true) (w : World) (hT : OpTable w) : Calls Tryd.prog 33 #[x.val] w fun e w' => e = .returned (.string (txtI x)) ∧ Below w.heap.size w w' := by
  obtain ⟨k, a, b, rfl, h0, h9, ha, hb⟩ := okI_nats h
  unfold I3.val
  by_cases hk : k = 5 ∨ k = 6
  · have e : txtI ((k : Int), (a : Int), (b : Int)) = txt1 k a := by unfold txtI; rw [if_pos (by simp only; omega)]; simp
    rw [e]
    exact textOf_lock k a b w hT hk ha
  · have e : txtI ((k : Int), (a : Int), (b : Int)) = txt2 k a b := by unfold txtI; rw [if_neg (by simp only; omega)]; simp
    rw [e]
    exact textOf_two k a b w hT h0 h9 (by omega) (by omega) ha hb

theorem txtI_size (x : I3) : (txtI x).size ≤ 10 := by
  have h1 : ∀ k a, (txt1 k a).size ≤ 8 := fun k a => by
    have := opB_size k
    have h0 : (⟨#[32]⟩ : ByteArray).size = 1 := rfl
    have h2 := digT_size a
    unfold txt1
    rw [ByteArray.size_append, ByteArray.size_append]
    omega
  unfold txtI
  split
  · have := h1 x.1.toNat x.2.1.toNat
    omega
  · have := h1 x.1.toNat x.2.1.toNat
    have h0 : (⟨#[32]⟩ : ByteArray).size = 1 := rfl
    have h2 := digT_size x.2.2.toNat
    unfold txt2
    rw [ByteArray.size_append, ByteArray.size_append]
    omega

/-- The line of an instruction of thread k. -/
def lineOf (k : Nat) (x : I3) : ByteArray := (digT k ++ ⟨#[32]⟩) ++ txtI x
def rowLines (k : Nat) (xs : List I3) : List ByteArray := xs.map (lineOf k)
/-- The lines of the first j threads. -/
def linesTo (rows : List (List I3)) (j : Nat) : List ByteArray := (List.range j).flatMap fun k => rowLines k (rows.getD k [])

theorem linesTo_step (rows : List (List I3)) (j : Nat) : linesTo rows (j + 1) = linesTo rows j ++ rowLines j (rows.getD j []) := by
  unfold linesTo
  rw [List.range_succ, List.flatMap_append]
  simp
theorem rowLines_step {k i : Nat} {xs : List I3} (hi : i < xs.length) : rowLines k (xs.take (i + 1)) = rowLines k (xs.take i) ++ [lineOf k (xs.getD i (0, 0, 0))] := by
  unfold rowLines
  rw [List.take_succ_eq_append_getElem hi, List.map_append]
  simp [List.getD, hi]
theorem linesTo_len (rows : List (List I3)) (hr : ∀ k, (rows.getD k []).length ≤ 6) (j : Nat) : (linesTo rows j).length ≤ j * 6 := by
  induction j with
  | zero => simp [linesTo]
  | succ j ih =>
    rw [linesTo_step, List.length_append]
    have := hr j
    simp only [rowLines, List.length_map]
    omega
end Go.Proofs.YtiokkoaalakakaaDoor
