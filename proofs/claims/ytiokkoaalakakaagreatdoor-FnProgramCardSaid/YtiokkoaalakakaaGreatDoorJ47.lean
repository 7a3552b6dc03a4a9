/-
  FnProgram, part 47 of 50 (SizeB, PackWalk, PackInj, SameS).
-/
import Derived.Test.YtiokkoaalakakaaGreatDoorJ01
import Derived.Test.YtiokkoaalakakaaGreatDoorJ45
import Derived.Test.YtiokkoaalakakaaGreatDoorJ31

/-
  What the size of a program that came in tells of its rows.
-/
namespace Go.Proofs.YtiokkoaalakakaaGreatDoor
open Go.RowKit

theorem lessAll_each : ∀ (rows : List (List I3)) (left : Int), 0 ≤ lessAll left rows → 0 ≤ left → ∀ r ∈ rows, (r.length : Int) ≤ left
  | [], _, _, _, r, hr => by cases hr
  | x :: xs, left, h, h0, r, hr => by
    unfold lessAll at h
    split at h
    · omega
    · rcases List.mem_cons.1 hr with rfl | hr
      · omega
      · have := lessAll_each xs (left - x.length) h (by omega) r hr
        omega

theorem getD_length_le {rows : List (List I3)} {n : Nat} (h : ∀ r ∈ rows, r.length ≤ n) (t : Nat) : (rows.getD t []).length ≤ n := by
  by_cases ht : t < rows.length
  · have : rows.getD t [] = rows[t] := by simp [List.getD, ht]
    rw [this]
    exact h _ (List.getElem_mem ht)
  · have : rows.getD t [] = [] := by simp [List.getD, List.getElem?_eq_none (Nat.le_of_not_lt ht)]
    rw [this]
    exact Nat.zero_le _

/-- A program that is not too large has not too many rows, and none that is too long. -/
theorem size_bounds {rows : List (List I3)} {left : Int} (hm : left ≤ 1048576) (h : 0 ≤ sizeLeft left rows) (h0 : 0 ≤ left) : rows.length ≤ 1048576 ∧ ∀ t, (rows.getD t []).length ≤ 1048576 := by
  unfold sizeLeft at h
  split at h
  · omega
  · refine ⟨by omega, fun t => getD_length_le (fun r hr => ?_) t⟩
    have := lessAll_each rows _ h (by omega) r hr
    omega

end Go.Proofs.YtiokkoaalakakaaGreatDoor


/-
  FnExactPackProgram: both pack the same; the argument is left as it was. Also spec.PackProgram.
-/
namespace Go.Proofs.YtiokkoaalakakaaGreatDoor
open Go.RowKit

end Go.Proofs.YtiokkoaalakakaaGreatDoor


/-
  Right programs whose packed texts are one are one.
-/
namespace Go.Proofs.YtiokkoaalakakaaGreatDoor

theorem rowNums_inj : ∀ {xs ys : List I3}, rowNums xs = rowNums ys → xs = ys
  | [], [], _ => rfl
  | [], y :: ys, h => by simp [rowNums] at h
  | x :: xs, [], h => by simp [rowNums] at h
  | x :: xs, y :: ys, h => by
    simp only [rowNums, List.flatMap_cons, List.cons_append, List.nil_append, List.cons.injEq] at h
    obtain ⟨h0, h1, h2, h3⟩ := h
    obtain ⟨a, b, c⟩ := x
    obtain ⟨d, e, f⟩ := y
    simp only [] at h0 h1 h2
    rw [h0, h1, h2, rowNums_inj (show rowNums xs = rowNums ys from h3)]
theorem progNums_inj : ∀ {ra rb : List (List I3)}, ra.length = rb.length → progNums ra = progNums rb → ra = rb
  | [], [], _, _ => rfl
  | [], y :: ys, h, _ => by simp at h
  | x :: xs, [], h, _ => by simp at h
  | x :: xs, y :: ys, hl, h => by
    simp only [progNums, List.flatMap_cons, List.cons_append, List.cons.injEq] at h
    obtain ⟨h0, h1⟩ := h
    have hlen : x.length = y.length := by omega
    obtain ⟨h2, h3⟩ := List.append_inj h1 (by rw [rowNums_length, rowNums_length, hlen])
    rw [rowNums_inj h2, progNums_inj (by simpa using hl) (show progNums xs = progNums ys from h3)]
theorem pack_inj {ra rb : List (List I3)} (ha : progOk ra = true) (hb : progOk rb = true) (h : strOfNums (packL (progNums ra)) = strOfNums (packL (progNums rb))) : ra = rb := by
  obtain ⟨la, hra⟩ := progOk_parts ha
  obtain ⟨lb, hrb⟩ := progOk_parts hb
  obtain ⟨na, ea, ma⟩ := nats_of (progNums_ok ha)
  obtain ⟨nb, eb, mb⟩ := nats_of (progNums_ok hb)
  have pa := progNums_len (rows := ra) (fun r hr => (hra r hr).1)
  have pb := progNums_len (rows := rb) (fun r hr => (hrb r hr).1)
  have la' : na.length = (progNums ra).length := by rw [ea]; simp
  have lb' : nb.length = (progNums rb).length := by rw [eb]; simp
  have La := listed_pack ma (by omega)
  have Lb := listed_pack mb (by omega)
  rw [← packL_nats, ← ea] at La
  rw [← packL_nats, ← eb, ← h] at Lb
  have hn := La.only Lb
  exact progNums_inj (by omega) (by rw [ea, eb, hn])
end Go.Proofs.YtiokkoaalakakaaGreatDoor


/-
  spec.SameProgram: both are right, and one.
-/
namespace Go.Proofs.YtiokkoaalakakaaGreatDoor
open Go.RowKit

/-- Both are right, and one. -/
def sameP (ra rb : List (List I3)) : Bool := (progOk ra && progOk rb) && decide (ra = rb)

theorem beq_texts (x y : ByteArray) : (x.toList == y.toList) = decide (x = y) := by
  by_cases h : x = y
  · subst h; simp
  · rw [decide_eq_false h, beq_eq_false_iff_ne]
    intro e
    rw [ByteArray.toList_eq, ByteArray.toList_eq] at e
    apply h
    cases x
    cases y
    simp at e
    rw [e]

end Go.Proofs.YtiokkoaalakakaaGreatDoor
