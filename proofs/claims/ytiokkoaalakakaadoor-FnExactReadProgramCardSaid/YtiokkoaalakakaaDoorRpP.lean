/-
  Lines of a program: what each says, and the rows that they make.
-/
import Derived.Test.YtiokkoaalakakaaDoorReadP
import Derived.Test.YtiokkoaalakakaaDoorWordsP
import Derived.Test.YtiokkoaalakakaaDoorParts
namespace Go.Proofs.YtiokkoaalakakaaDoor
open Go.RowKit

/-- What a line says: nothing; or an instruction of a thread. -/
def StepOf (t : ByteArray) : Option (Nat × I3) → Prop
  | none => wordsT t = []
  | some (k, x) => ∃ w0 rest, wordsT t = w0 :: rest ∧ IsDec w0 k ∧ k < 3 ∧ IsRead rest x
def BadLine (t : ByteArray) : Prop := ∀ o, ¬ StepOf t o
theorem StepOf.only {t : ByteArray} {o o' : Option (Nat × I3)} (h : StepOf t o) (g : StepOf t o') : o = o' := by
  match o, o', h, g with
  | none, none, _, _ => rfl
  | none, some (k, x), h, ⟨w0, rest, e, _⟩ =>
    have h' : wordsT t = [] := h
    rw [h'] at e; cases e
  | some (k, x), none, ⟨w0, rest, e, _⟩, h =>
    have h' : wordsT t = [] := h
    rw [h'] at e; cases e
  | some (k, x), some (k', x'), ⟨w0, rest, e, h1, _, h2⟩, ⟨w0', rest', e', g1, _, g2⟩ =>
    rw [e] at e'
    cases e'
    rw [h1.only g1, h2.only g2]
theorem bad_of_head {t w0 : ByteArray} {rest : List ByteArray} (e : wordsT t = w0 :: rest) (h : ∀ k, IsDec w0 k → k < 3 → NoRead rest) : BadLine t := by
  intro o ho
  match o, ho with
  | none, ho =>
    have h' : wordsT t = [] := ho
    rw [h'] at e; cases e
  | some (k, x), ⟨w0', rest', e', h1, h3, h2⟩ =>
    rw [e] at e'
    cases e'
    exact h k h1 h3 x h2

def AllSteps : List ByteArray → List (Option (Nat × I3)) → Prop
  | [], [] => True
  | t :: ts, o :: os => StepOf t o ∧ AllSteps ts os
  | _, _ => False
theorem allSteps_snoc : ∀ {ts : List ByteArray} {os : List (Option (Nat × I3))} {t : ByteArray} {o : Option (Nat × I3)}, AllSteps ts os → StepOf t o → AllSteps (ts ++ [t]) (os ++ [o])
  | [], [], _, _, _, h => ⟨h, trivial⟩
  | [], _ :: _, _, _, h, _ => h.elim
  | _ :: _, [], _, _, h, _ => h.elim
  | _ :: _, _ :: _, _, _, h, g => ⟨h.1, allSteps_snoc h.2 g⟩
theorem AllSteps.only : ∀ {ts : List ByteArray} {os os' : List (Option (Nat × I3))}, AllSteps ts os → AllSteps ts os' → os = os'
  | [], [], [], _, _ => rfl
  | [], [], _ :: _, _, h => h.elim
  | [], _ :: _, _, h, _ => h.elim
  | _ :: _, [], _, h, _ => h.elim
  | _ :: _, _ :: _, [], _, h => h.elim
  | _ :: _, _ :: _, _ :: _, h, g => by rw [h.1.only g.1, AllSteps.only h.2 g.2]
theorem AllSteps.good : ∀ {ts : List ByteArray} {os : List (Option (Nat × I3))}, AllSteps ts os → ∀ t ∈ ts, ¬ BadLine t
  | [], [], _, _, ht => by cases ht
  | [], _ :: _, h, _, _ => h.elim
  | _ :: _, [], h, _, _ => h.elim
  | s :: ts, o :: os, h, t, ht => by
    rcases List.mem_cons.1 ht with rfl | ht
    · exact fun hb => hb o h.1
    · exact AllSteps.good h.2 t ht

/-- One more instruction. -/
def addTo (rows : List (List I3)) : Option (Nat × I3) → List (List I3)
  | none => rows
  | some (k, x) => rows.set k (rows.getD k [] ++ [x])
def rowsOf (os : List (Option (Nat × I3))) : List (List I3) := os.foldl addTo [[], [], []]
theorem rowsOf_snoc (os : List (Option (Nat × I3))) (o : Option (Nat × I3)) : rowsOf (os ++ [o]) = addTo (rowsOf os) o := by simp [rowsOf]

/-- What ReadProgram answers of at most 4096 lines: the rows and the code. -/
def IsRP (ts : List ByteArray) (rows : List (List I3)) (c : Int) : Prop :=
  (c = 0 ∧ ∃ os, AllSteps ts os ∧ rows = rowsOf os ∧ progOk rows = true) ∨
  (c = 1 ∧ rows = [] ∧ ∃ os, AllSteps ts os ∧ progOk (rowsOf os) = false) ∨
  (c = 3 ∧ rows = [] ∧ ∃ t ∈ ts, BadLine t)
theorem IsRP.same {ts : List ByteArray} {r r' : List (List I3)} {c c' : Int} (h : IsRP ts r c) (g : IsRP ts r' c') : r = r' ∧ c = c' := by
  rcases h with ⟨rfl, os, h1, rfl, h3⟩ | ⟨rfl, rfl, os, h1, h3⟩ | ⟨rfl, rfl, t, ht, hb⟩ <;> rcases g with ⟨rfl, os', g1, rfl, g3⟩ | ⟨rfl, rfl, os', g1, g3⟩ | ⟨rfl, rfl, t', ht', hb'⟩
  · rw [h1.only g1]; exact ⟨rfl, rfl⟩
  · rw [h1.only g1, g3] at h3; cases h3
  · exact absurd hb' (h1.good t' ht')
  · rw [h1.only g1, g3] at h3; cases h3
  · exact ⟨rfl, rfl⟩
  · exact absurd hb' (h1.good t' ht')
  · exact absurd hb (g1.good t ht)
  · exact absurd hb (g1.good t ht)
  · exact ⟨rfl, rfl⟩
theorem IsRP.ok {ts : List ByteArray} {r : List (List I3)} {c : Int} (h : IsRP ts r c) : r = [] ∨ progOk r = true := by
  rcases h with ⟨_, _, _, _, h⟩ | ⟨_, rfl, _⟩ | ⟨_, rfl, _⟩
  · exact .inr h
  · exact .inl rfl
  · exact .inl rfl
theorem isRP_exists (ts : List ByteArray) : ∃ rows c, IsRP ts rows c := by
  by_cases h : ∃ t ∈ ts, BadLine t
  · exact ⟨[], 3, .inr (.inr ⟨rfl, rfl, h⟩)⟩
  · have : ∃ os, AllSteps ts os := by
      induction ts with
      | nil => exact ⟨[], trivial⟩
      | cons t ts ih =>
        obtain ⟨os, hos⟩ := ih (fun ⟨s, hs, hb⟩ => h ⟨s, by simp [hs], hb⟩)
        by_cases hb : ∃ o, StepOf t o
        · obtain ⟨o, ho⟩ := hb
          exact ⟨o :: os, ho, hos⟩
        · exact absurd ⟨t, by simp, fun o ho => hb ⟨o, ho⟩⟩ h
    obtain ⟨os, hos⟩ := this
    cases hp : progOk (rowsOf os)
    · exact ⟨[], 1, .inr (.inl ⟨rfl, rfl, os, hos, hp⟩)⟩
    · exact ⟨rowsOf os, 0, .inl ⟨rfl, os, hos, rfl, hp⟩⟩

theorem getD_set_same {rows : List (List I3)} {k : Nat} (r : List I3) (h : k < rows.length) : (rows.set k r).getD k [] = r := by simp [List.getD, h]
theorem getD_set_other {rows : List (List I3)} {k j : Nat} (r : List I3) (h : j ≠ k) : (rows.set k r).getD j [] = rows.getD j [] := by simp [List.getD, List.getElem?_set_ne (Ne.symm h)]
theorem okI_fits {x : I3} (h : okI x = true) : I3.fits x := by
  obtain ⟨h0, h1, h2⟩ := okI_small h
  have wf : ∀ z : Int, 0 ≤ z ∧ z ≤ 9 → (Lit.int .i64 z).wf = true := fun z hz => by
    simp [Lit.wf, IntKind.min, IntKind.max, IntKind.signed, IntKind.bits]
    omega
  exact ⟨wf _ h0, wf _ h1, wf _ h2⟩
end Go.Proofs.YtiokkoaalakakaaDoor
