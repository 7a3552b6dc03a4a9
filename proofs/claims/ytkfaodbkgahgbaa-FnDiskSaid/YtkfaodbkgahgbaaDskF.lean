
/-
  The calls on disks in plain words; the frame that all of them have.
-/
import Derived.Test.YtkfaodbkgahgbaaDskI
import Derived.Test.YtkfaodbkgahgbaaInOK
namespace Go.Proofs.Ytkfaodbkgahgbaa
open Go.RowKit
set_option linter.unusedVariables false
set_option linter.unusedSimpArgs false

abbrev noT : ByteArray := ⟨#[]⟩
def noD : D2 := (noT, noT)
/-- What the calls answer. -/
def appD (d : D2) (t : ByteArray) : D2 × Int := if 65536 < t.size then (noD, 2) else if ¬ d.1.size + d.2.size ≤ 60000 then (noD, 1) else if ¬ d.1.size + d.2.size + t.size ≤ 60000 then (d, 7) else ((d.1, d.2 ++ t), 0)
def flushD (d : D2) : D2 × Int := if ¬ d.1.size + d.2.size ≤ 60000 then (noD, 1) else ((d.1 ++ d.2, noT), 0)
def crashD (d : D2) (k : Int) : D2 × Int := if ¬ d.1.size + d.2.size ≤ 60000 then (noD, 1) else if ¬ (0 ≤ k ∧ k ≤ 60000) then (noD, 4) else ((d.1 ++ d.2.extract 0 (min k (d.2.size : Int)).toNat, noT), 0)
def cutD (d : D2) (n : Int) : D2 × Int := if ¬ d.1.size + d.2.size ≤ 60000 then (noD, 1) else if ¬ d.2.size = 0 then (noD, 1) else if ¬ (0 ≤ n ∧ n ≤ d.1.size) then (noD, 4) else ((d.1.extract 0 n.toNat, noT), 0)
def replD (d : D2) (t : ByteArray) : D2 × Int := if 65536 < t.size then (noD, 2) else if ¬ d.1.size + d.2.size ≤ 60000 then (noD, 1) else if ¬ t.size ≤ 60000 then (d, 7) else ((t, noT), 0)
def ResD (r : D2 × Int) : Ending := .returned (.tuple #[r.1.val, .int .i64 r.2])

/-- Where a call on a disk works: the box, the answer's block. -/
def FrD (w w' : World) (d : D2) : Prop := DBox w' w.heap.size d ∧ Blk w' (w.heap.size + 1) 26 [.string ⟨#[]⟩, .string ⟨#[]⟩] ∧ Below w.heap.size w w'
theorem FrD.new (w : World) (d : D2) : FrD w ((w.alloc (.cells #[.string d.1, .string d.2] 26)).alloc (.cells #[.string ⟨#[]⟩, .string ⟨#[]⟩] 26)) d := by
  have h := box_new w d
  have h2 := Blk.new (w.alloc (.cells #[.string d.1, .string d.2] 26)) 26 [.string ⟨#[]⟩, .string ⟨#[]⟩]
  have hs : (w.alloc (.cells #[.string d.1, .string d.2] 26)).heap.size = w.heap.size + 1 := by
    show (w.heap.push _).size = _
    simp
  refine ⟨h.below (bel_new _ _), ?_, belD (bel_new w _) (bel_new _ _)⟩
  rw [hs] at h2
  exact h2
theorem FrD.below {w w' w'' : World} {d : D2} (h : FrD w w' d) (b : Below w'.heap.size w' w'') : FrD w w'' d := ⟨h.1.below b, h.2.1.below b, h.2.2.trans (b.mono (by have := h.2.1.lt; omega))⟩
theorem FrD.grown {w w' w'' : World} {d d' : D2} (h : FrD w w' d) (k : w'.grownBy w'' (some w.heap.size)) (hB : DBox w'' w.heap.size d') : FrD w w'' d' := by
  have hl := h.2.1.lt
  have hn : w.heap.size < w'.heap.size := by omega
  refine ⟨hB, ?_, ⟨k.os.trans h.2.2.os, k.tape.trans h.2.2.tape, k.output.trans h.2.2.output, Nat.le_trans h.2.2.size k.size, fun j hj => ?_⟩⟩
  · exact (k.block _ hl (by intro e; injection e with e; omega)).trans h.2.1
  · exact (k.block j (by omega) (by intro e; injection e with e; omega)).trans (h.2.2.block j hj)
theorem FrD.cells {w w' : World} {d : D2} (h : FrD w w' d) : w'.cell? ⟨w.heap.size, 0, none⟩ = some (.string d.1) ∧ w'.cell? ⟨w.heap.size, 1, none⟩ = some (.string d.2) ∧ w'.cell? ⟨w.heap.size + 1, 0, none⟩ = some (.string ⟨#[]⟩) ∧ w'.cell? ⟨w.heap.size + 1, 1, none⟩ = some (.string ⟨#[]⟩) ∧ w'.frozen? ⟨w.heap.size + 1, 0, none⟩ = false ∧ w'.frozen? ⟨w.heap.size + 1, 1, none⟩ = false := ⟨h.1.c0, h.1.c1, h.2.1.cell 0, h.2.1.cell 1, h.2.1.frozen 0, h.2.1.frozen 1⟩
theorem FrD.fin {w w' : World} {d : D2} (h : FrD w w' d) (s q : ByteArray) : ∃ W, W = (w'.setCell ⟨w.heap.size + 1, 0, none⟩ (.string s)).setCell ⟨w.heap.size + 1, 1, none⟩ (.string q) ∧ W.cell? ⟨w.heap.size + 1, 0, none⟩ = some (.string s) ∧ W.cell? ⟨w.heap.size + 1, 1, none⟩ = some (.string q) ∧ Below w.heap.size w W :=
  ⟨_, rfl, ((h.2.1.set 0 (.string s)).set 1 (.string q)).cell 0, ((h.2.1.set 0 (.string s)).set 1 (.string q)).cell 1, h.2.2.trans ((Below.setCell (Below.refl _ w') (p := ⟨w.heap.size + 1, 0, none⟩) (Nat.le_succ _) _).trans (Below.setCell (Below.refl _ _) (p := ⟨w.heap.size + 1, 1, none⟩) (Nat.le_succ _) _))⟩

set_option maxHeartbeats 4000000 in
set_option maxRecDepth 100000 in
theorem flush_is (g : Nat) (d : D2) (w : World) (hd : d.few) (hB : DBox w g d) :
    Calls Try.prog 31 #[.pointer (some ⟨g, 0, none⟩)] w fun e w' => e = .returned (.tuple #[]) ∧ DBox w' g (d.1 ++ d.2, noT) ∧ w.grownBy w' (some g) := by
  have r1 := hB.c1
  have hx : d.2.extract 0 d.2.size = d.2 := by simp
  go_enter Try.func31, Try.ntmps31
  go_wp2_with fail
  refine (settle_is g d (d.2.size : Int) d.2.size w hd hB (by omega) (by omega)).mono ?_
  rw [hx]
  rintro e w1 ⟨rfl, b1, g1⟩
  go_wp2
  go_returns
  exact ⟨rfl, b1, g1⟩

theorem few_app (s q : ByteArray) (h : s.size + q.size ≤ 60000) : D2.few (s ++ q, noT) := by
  show (s ++ q).size + 0 ≤ _
  rw [ByteArray.size_append]
  omega
theorem few_app2 (s q t : ByteArray) (h : s.size + q.size + t.size ≤ 60000) : D2.few (s, q ++ t) := by
  show s.size + (q ++ t).size ≤ _
  rw [ByteArray.size_append]
  omega
theorem few_ext (s q : ByteArray) (j : Nat) (h : s.size + q.size ≤ 60000) : D2.few (s ++ q.extract 0 j, noT) := by
  show (s ++ q.extract 0 j).size + 0 ≤ _
  rw [ByteArray.size_append, ByteArray.size_extract]
  omega
theorem few_cut (s : ByteArray) (j : Nat) (h : s.size ≤ 60000) : D2.few (s.extract 0 j, noT) := by
  show (s.extract 0 j).size + 0 ≤ _
  rw [ByteArray.size_extract]
  omega
theorem noT_of {q : ByteArray} (h : q.size = 0) : q = ⟨#[]⟩ := by
  obtain ⟨d⟩ := q
  congr 1
  exact Array.eq_empty_of_size_eq_zero h
theorem emptyD_no {x : ByteArray} (h : ¬ x.size = 0) : x.toList.isEmpty = false := by
  rw [← decide_eq_emptyBytes]
  simpa using h
theorem cutD_4 (s : ByteArray) (n : Int) (h : s.size + (⟨#[]⟩ : ByteArray).size ≤ 60000) (hin : ¬ (0 ≤ n ∧ n ≤ s.size)) : cutD (s, ⟨#[]⟩) n = (noD, 4) := by
  unfold cutD
  exact (if_neg (not_not_intro h)).trans ((if_neg (not_not_intro (show (⟨#[]⟩ : ByteArray).size = 0 from rfl))).trans (if_pos hin))
theorem cutD_0 (s : ByteArray) (n : Int) (h : s.size + (⟨#[]⟩ : ByteArray).size ≤ 60000) (hin : 0 ≤ n ∧ n ≤ s.size) : cutD (s, ⟨#[]⟩) n = ((s.extract 0 n.toNat, noT), 0) := by
  unfold cutD
  exact (if_neg (not_not_intro h)).trans ((if_neg (not_not_intro (show (⟨#[]⟩ : ByteArray).size = 0 from rfl))).trans (if_neg (not_not_intro hin)))
theorem few_one (s : ByteArray) (h : s.size ≤ 60000) : D2.few (s, noT) := by
  show s.size + 0 ≤ _
  omega
end Go.Proofs.Ytkfaodbkgahgbaa
