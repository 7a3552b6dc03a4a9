/-
  FnRun, part 27 of 50 (WordsP, RpP, Parse, CodeL).
-/
import Derived.Test.YtmhngodbnoonhaaDoorJ26
import Derived.Lib.FieldsP
import Derived.Test.YtmhngodbnoonhaaDoorJ07
import Derived.Test.YtmhngodbnoonhaaDoorJ02
import Derived.Deep.RegionHeld3

/-
  Plain mathematics of a text's words: what lies between blanks, byte by byte; Go's strings.FieldsFunc at 'is it a blank' finds the same.
-/
namespace Go.Proofs.YtmhngodbnoonhaaDoor
open Go.Lib

/-- Byte by byte: the spans that are closed, and where an open one began. -/
def spansB (s : ByteArray) : Nat → Nat → Option Nat → List (Nat × Nat) → List (Nat × Nat) × Option Nat
  | 0, _, st, acc => (acc, st)
  | f + 1, pos, st, acc =>
    if pos < s.size then
      (if bt s pos = 32 then
        (match st with
         | some a => spansB s f (pos + 1) none (acc ++ [(a, pos)])
         | none => spansB s f (pos + 1) none acc)
       else
        (match st with
         | some a => spansB s f (pos + 1) (some a) acc
         | none => spansB s f (pos + 1) (some pos) acc))
    else (acc, st)

theorem spansB_end (s : ByteArray) (f pos : Nat) (st : Option Nat) (acc : List (Nat × Nat)) (h : ¬ pos < s.size) : spansB s f pos st acc = (acc, st) := by
  cases f with
  | zero => rfl
  | succ f => simp [spansB, h]
theorem spansB_blank_some {s : ByteArray} {f pos a : Nat} {acc : List (Nat × Nat)} (h : pos < s.size) (hb : bt s pos = 32) : spansB s (f + 1) pos (some a) acc = spansB s f (pos + 1) none (acc ++ [(a, pos)]) := by
  simp [spansB, h, hb]
theorem spansB_blank_none {s : ByteArray} {f pos : Nat} {acc : List (Nat × Nat)} (h : pos < s.size) (hb : bt s pos = 32) : spansB s (f + 1) pos none acc = spansB s f (pos + 1) none acc := by
  simp [spansB, h, hb]
theorem spansB_word {s : ByteArray} {f pos : Nat} {st : Option Nat} {acc : List (Nat × Nat)} (h : pos < s.size) (hb : bt s pos ≠ 32) : spansB s (f + 1) pos st acc = spansB s f (pos + 1) (some (st.getD pos)) acc := by
  cases st <;> simp [spansB, h, hb]
/-- Several bytes that are no blanks. -/
theorem spansB_run {s : ByteArray} : ∀ (k : Nat) {f pos : Nat} {st : Option Nat} {acc : List (Nat × Nat)}, k < f → pos + k < s.size → (∀ j, j ≤ k → bt s (pos + j) ≠ 32) → spansB s f pos st acc = spansB s (f - (k + 1)) (pos + (k + 1)) (some (st.getD pos)) acc
  | 0, f, pos, st, acc, hf, hs, hb => by
    obtain ⟨g, rfl⟩ : ∃ g, f = g + 1 := ⟨f - 1, by omega⟩
    rw [spansB_word (by omega) (by simpa using hb 0 (Nat.le_refl _))]
    simp
  | k + 1, f, pos, st, acc, hf, hs, hb => by
    obtain ⟨g, rfl⟩ : ∃ g, f = g + 1 := ⟨f - 1, by omega⟩
    rw [spansB_word (by omega) (by simpa using hb 0 (by omega)), spansB_run k (by omega) (by omega) (fun j hj => by have := hb (j + 1) (by omega); rwa [show pos + (j + 1) = pos + 1 + j by omega] at this)]
    have e1 : g - (k + 1) = g + 1 - (k + 1 + 1) := by omega
    have e2 : pos + 1 + (k + 1) = pos + (k + 1 + 1) := by omega
    rw [e1, e2]
    simp

def isBl (r : Nat) : Bool := r == 32

theorem spans_same (s : ByteArray) : ∀ (f pos g : Nat) (st : Option Nat) (acc : List (Nat × Nat)), s.size ≤ pos + f → s.size ≤ pos + g → spansFromP isBl s f pos st acc = spansB s g pos st acc
  | 0, pos, g, st, acc, hf, hg => by
    rw [spansB_end _ _ _ _ _ (by omega)]
    rfl
  | f + 1, pos, g, st, acc, hf, hg => by
    by_cases hp : pos < s.size
    · obtain ⟨h, rfl⟩ : ∃ h, g = h + 1 := ⟨g - 1, by omega⟩
      by_cases ha : bt s pos < 128
      · have hd : Utf8.decode s pos = (bt s pos, 1) := by
          rw [decode_ascii s pos hp (by rw [bt_get]; exact ha), bt_get]
        by_cases hb : bt s pos = 32
        · cases st with
          | none =>
            rw [spansB_blank_none hp hb]
            simp only [spansFromP, hp, hd, hb, if_true]
            exact spans_same s f (pos + 1) h none acc (by omega) (by omega)
          | some a =>
            rw [spansB_blank_some hp hb]
            simp only [spansFromP, hp, hd, hb, if_true]
            exact spans_same s f (pos + 1) h none _ (by omega) (by omega)
        · have hq : isBl (bt s pos) = false := by simp [isBl, hb]
          rw [spansB_word hp hb]
          cases st with
          | none =>
            simp only [spansFromP, hp, hd, hq, if_true, Option.getD_none]
            exact spans_same s f (pos + 1) h (some pos) acc (by omega) (by omega)
          | some a =>
            simp only [spansFromP, hp, hd, hq, if_true, Option.getD_some]
            exact spans_same s f (pos + 1) h (some a) acc (by omega) (by omega)
      · have hsp := decode_span s pos hp (by omega)
        have hh := decode_high s pos hp (by rw [bt_get]; omega)
        have hq : isBl (Utf8.decode s pos).1 = false := by simp [isBl]; omega
        obtain ⟨k, hk⟩ : ∃ k, (Utf8.decode s pos).2 = k + 1 := ⟨(Utf8.decode s pos).2 - 1, by omega⟩
        have hend := (hsp k (by omega)).1
        rw [spansB_run k (by omega) hend (fun j hj => by have := (hsp j (by omega)).2; omega)]
        cases st with
        | none =>
          simp only [spansFromP, hp, hq, if_true, hk, Option.getD_none]
          exact spans_same s f (pos + (k + 1)) _ (some pos) acc (by omega) (by omega)
        | some a =>
          simp only [spansFromP, hp, hq, if_true, hk, Option.getD_some]
          exact spans_same s f (pos + (k + 1)) _ (some a) acc (by omega) (by omega)
    · rw [spansB_end _ _ _ _ _ hp]
      simp [spansFromP, hp]

/-- A text's words. -/
def wordsT (s : ByteArray) : List ByteArray := goFieldsP isBl s

/-- The words of the spans so far. -/
def cutAll (s : ByteArray) (l : List (Nat × Nat)) : List ByteArray := l.map fun x => s.extract x.1 x.2

theorem wordsT_is (s : ByteArray) : wordsT s = cutAll s (closeSpans s (spansB s s.size 0 none [])) := by
  unfold wordsT goFieldsP spansOfP cutAll
  rw [spans_same s s.size 0 s.size none [] (by omega) (by omega)]

theorem spans_count (s : ByteArray) : ∀ (f pos : Nat) (st : Option Nat) (acc : List (Nat × Nat)), (closeSpans s (spansB s f pos st acc)).length ≤ acc.length + 1 + f
  | 0, pos, st, acc => by cases st <;> simp [spansB, closeSpans]
  | f + 1, pos, st, acc => by
    by_cases hp : pos < s.size
    · by_cases hb : bt s pos = 32
      · cases st with
        | none =>
          rw [spansB_blank_none hp hb]
          have := spans_count s f (pos + 1) none acc
          omega
        | some a =>
          rw [spansB_blank_some hp hb]
          have := spans_count s f (pos + 1) none (acc ++ [(a, pos)])
          simp at this
          omega
      · rw [spansB_word hp hb]
        have := spans_count s f (pos + 1) (some (st.getD pos)) acc
        omega
    · rw [spansB_end _ _ _ _ _ hp]
      cases st <;> simp [closeSpans] <;> omega
theorem wordsT_count (s : ByteArray) : (wordsT s).length ≤ s.size + 1 := by
  rw [wordsT_is, cutAll, List.length_map]
  have := spans_count s s.size 0 none []
  simp at this
  omega
end Go.Proofs.YtmhngodbnoonhaaDoor


/-
  Lines of a program: what each says, and the rows that they make.
-/
namespace Go.Proofs.YtmhngodbnoonhaaDoor
open Go.RowKit

/-- What a line says: nothing; or an instruction of a thread. -/
def StepOf (t : ByteArray) : Option (Nat × I3) → Prop
  | none => wordsT t = []
  | some (k, x) => ∃ w0 rest, wordsT t = w0 :: rest ∧ IsDec w0 k ∧ k < 3 ∧ IsRead rest x
def BadLine (t : ByteArray) : Prop := ∀ o, ¬ StepOf t o
theorem StepOf.only {t : ByteArray} {o o' : Option (Nat × I3)} (h : StepOf t o) (g : StepOf t o') : o = o' := by
  match o, o', h, g with
  | none, none, _, _ => rfl
  | none, some (k, x), h, ⟨w0, rest, e, _⟩ =>
    have h' : wordsT t = [] := h
    rw [h'] at e; cases e
  | some (k, x), none, ⟨w0, rest, e, _⟩, h =>
    have h' : wordsT t = [] := h
    rw [h'] at e; cases e
  | some (k, x), some (k', x'), ⟨w0, rest, e, h1, _, h2⟩, ⟨w0', rest', e', g1, _, g2⟩ =>
    rw [e] at e'
    cases e'
    rw [h1.only g1, h2.only g2]
theorem bad_of_head {t w0 : ByteArray} {rest : List ByteArray} (e : wordsT t = w0 :: rest) (h : ∀ k, IsDec w0 k → k < 3 → NoRead rest) : BadLine t := by
  intro o ho
  match o, ho with
  | none, ho =>
    have h' : wordsT t = [] := ho
    rw [h'] at e; cases e
  | some (k, x), ⟨w0', rest', e', h1, h3, h2⟩ =>
    rw [e] at e'
    cases e'
    exact h k h1 h3 x h2

def AllSteps : List ByteArray → List (Option (Nat × I3)) → Prop
  | [], [] => True
  | t :: ts, o :: os => StepOf t o ∧ AllSteps ts os
  | _, _ => False
theorem allSteps_snoc : ∀ {ts : List ByteArray} {os : List (Option (Nat × I3))} {t : ByteArray} {o : Option (Nat × I3)}, AllSteps ts os → StepOf t o → AllSteps (ts ++ [t]) (os ++ [o])
  | [], [], _, _, _, h => ⟨h, trivial⟩
  | [], _ :: _, _, _, h, _ => h.elim
  | _ :: _, [], _, _, h, _ => h.elim
  | _ :: _, _ :: _, _, _, h, g => ⟨h.1, allSteps_snoc h.2 g⟩
theorem AllSteps.only : ∀ {ts : List ByteArray} {os os' : List (Option (Nat × I3))}, AllSteps ts os → AllSteps ts os' → os = os'
  | [], [], [], _, _ => rfl
  | [], [], _ :: _, _, h => h.elim
  | [], _ :: _, _, h, _ => h.elim
  | _ :: _, [], _, h, _ => h.elim
  | _ :: _, _ :: _, [], _, h => h.elim
  | _ :: _, _ :: _, _ :: _, h, g => by rw [h.1.only g.1, AllSteps.only h.2 g.2]
theorem AllSteps.good : ∀ {ts : List ByteArray} {os : List (Option (Nat × I3))}, AllSteps ts os → ∀ t ∈ ts, ¬ BadLine t
  | [], [], _, _, ht => by cases ht
  | [], _ :: _, h, _, _ => h.elim
  | _ :: _, [], h, _, _ => h.elim
  | s :: ts, o :: os, h, t, ht => by
    rcases List.mem_cons.1 ht with rfl | ht
    · exact fun hb => hb o h.1
    · exact AllSteps.good h.2 t ht

/-- One more instruction. -/
def addTo (rows : List (List I3)) : Option (Nat × I3) → List (List I3)
  | none => rows
  | some (k, x) => rows.set k (rows.getD k [] ++ [x])
def rowsOf (os : List (Option (Nat × I3))) : List (List I3) := os.foldl addTo [[], [], []]
theorem rowsOf_snoc (os : List (Option (Nat × I3))) (o : Option (Nat × I3)) : rowsOf (os ++ [o]) = addTo (rowsOf os) o := by simp [rowsOf]

/-- What ReadProgram answers of at most 4096 lines: the rows and the code. -/
def IsRP (ts : List ByteArray) (rows : List (List I3)) (c : Int) : Prop :=
  (c = 0 ∧ ∃ os, AllSteps ts os ∧ rows = rowsOf os ∧ progOk rows = true) ∨
  (c = 1 ∧ rows = [] ∧ ∃ os, AllSteps ts os ∧ progOk (rowsOf os) = false) ∨
  (c = 3 ∧ rows = [] ∧ ∃ t ∈ ts, BadLine t)
theorem IsRP.same {ts : List ByteArray} {r r' : List (List I3)} {c c' : Int} (h : IsRP ts r c) (g : IsRP ts r' c') : r = r' ∧ c = c' := by
  rcases h with ⟨rfl, os, h1, rfl, h3⟩ | ⟨rfl, rfl, os, h1, h3⟩ | ⟨rfl, rfl, t, ht, hb⟩ <;> rcases g with ⟨rfl, os', g1, rfl, g3⟩ | ⟨rfl, rfl, os', g1, g3⟩ | ⟨rfl, rfl, t', ht', hb'⟩
  · rw [h1.only g1]; exact ⟨rfl, rfl⟩
  · rw [h1.only g1, g3] at h3; cases h3
  · exact absurd hb' (h1.good t' ht')
  · rw [h1.only g1, g3] at h3; cases h3
  · exact ⟨rfl, rfl⟩
  · exact absurd hb' (h1.good t' ht')
  · exact absurd hb (g1.good t ht)
  · exact absurd hb (g1.good t ht)
  · exact ⟨rfl, rfl⟩
theorem IsRP.ok {ts : List ByteArray} {r : List (List I3)} {c : Int} (h : IsRP ts r c) : r = [] ∨ progOk r = true := by
  rcases h with ⟨_, _, _, _, h⟩ | ⟨_, rfl, _⟩ | ⟨_, rfl, _⟩
  · exact .inr h
  · exact .inl rfl
  · exact .inl rfl
theorem isRP_exists (ts : List ByteArray) : ∃ rows c, IsRP ts rows c := by
  by_cases h : ∃ t ∈ ts, BadLine t
  · exact ⟨[], 3, .inr (.inr ⟨rfl, rfl, h⟩)⟩
  · have : ∃ os, AllSteps ts os := by
      induction ts with
      | nil => exact ⟨[], trivial⟩
      | cons t ts ih =>
        obtain ⟨os, hos⟩ := ih (fun ⟨s, hs, hb⟩ => h ⟨s, by simp [hs], hb⟩)
        by_cases hb : ∃ o, StepOf t o
        · obtain ⟨o, ho⟩ := hb
          exact ⟨o :: os, ho, hos⟩
        · exact absurd ⟨t, by simp, fun o ho => hb ⟨o, ho⟩⟩ h
    obtain ⟨os, hos⟩ := this
    cases hp : progOk (rowsOf os)
    · exact ⟨[], 1, .inr (.inl ⟨rfl, rfl, os, hos, hp⟩)⟩
    · exact ⟨rowsOf os, 0, .inl ⟨rfl, os, hos, rfl, hp⟩⟩

theorem getD_set_same {rows : List (List I3)} {k : Nat} (r : List I3) (h : k < rows.length) : (rows.set k r).getD k [] = r := by simp [List.getD, h]
theorem getD_set_other {rows : List (List I3)} {k j : Nat} (r : List I3) (h : j ≠ k) : (rows.set k r).getD j [] = rows.getD j [] := by simp [List.getD, List.getElem?_set_ne (Ne.symm h)]
theorem okI_fits {x : I3} (h : okI x = true) : I3.fits x := by
  obtain ⟨h0, h1, h2⟩ := okI_small h
  have wf : ∀ z : Int, 0 ≤ z ∧ z ≤ 9 → (Lit.int .i64 z).wf = true := fun z hz => by
    simp [Lit.wf, IntKind.min, IntKind.max, IntKind.signed, IntKind.bits]
    omega
  exact ⟨wf _ h0, wf _ h1, wf _ h2⟩
end Go.Proofs.YtmhngodbnoonhaaDoor


/-
  Plain mathematics of a program's numbers read back: of each thread its length, and its instructions' three numbers.
-/
namespace Go.Proofs.YtmhngodbnoonhaaDoor

/-- Three numbers an instruction. -/
def triples : List Int → List I3
  | a :: b :: c :: r => (a, b, c) :: triples r
  | _ => []

theorem triples_length : ∀ (n : Nat) (zs : List Int), zs.length = 3 * n → (triples zs).length = n
  | 0, [], _ => rfl
  | 0, _ :: _, h => by simp at h
  | n + 1, [], h => by simp at h
  | n + 1, [_], h => by simp at h; omega
  | n + 1, [_, _], h => by simp at h; omega
  | n + 1, a :: b :: c :: r, h => by
    have := triples_length n r (by simp at h; omega)
    simp [triples, this]
theorem triples_get : ∀ (n : Nat) (zs : List Int) (i : Nat), zs.length = 3 * n → i < n → (triples zs).getD i (0, 0, 0) = (zs.getD (3 * i) 0, zs.getD (3 * i + 1) 0, zs.getD (3 * i + 2) 0)
  | 0, _, i, _, h => by omega
  | n + 1, [], i, h, _ => by simp at h
  | n + 1, [_], i, h, _ => by simp at h; omega
  | n + 1, [_, _], i, h, _ => by simp at h; omega
  | n + 1, a :: b :: c :: r, 0, _, _ => by simp [triples]
  | n + 1, a :: b :: c :: r, i + 1, h, hi => by
    have ih := triples_get n r i (by simp at h; omega) (by omega)
    rw [triples, List.getD_cons_succ, ih]
    have e0 : 3 * (i + 1) = 3 * i + 1 + 1 + 1 := by omega
    rw [e0]
    simp [List.getD]

/-- The codes of k threads, and nothing behind them. -/
def parse : Nat → List Int → Option (List (List I3))
  | 0, [] => some []
  | 0, _ :: _ => none
  | _ + 1, [] => none
  | k + 1, n :: zs => if (zs.length : Int) < 3 * n then none else (parse k (zs.drop (3 * n.toNat))).map (triples (zs.take (3 * n.toNat)) :: ·)

theorem parse_none_nil (k : Nat) : parse (k + 1) [] = none := rfl
theorem parse_short {k : Nat} {n : Int} {zs : List Int} (h : (zs.length : Int) < 3 * n) : parse (k + 1) (n :: zs) = none := by simp [parse, h]
theorem parse_step {k : Nat} {n : Int} {zs : List Int} (h : ¬ (zs.length : Int) < 3 * n) : parse (k + 1) (n :: zs) = (parse k (zs.drop (3 * n.toNat))).map (triples (zs.take (3 * n.toNat)) :: ·) := by simp [parse, h]
theorem parse_rest {zs : List Int} (h : zs ≠ []) : parse 0 zs = none := by
  cases zs with
  | nil => exact absurd rfl h
  | cons z zs => rfl

/-- What was read so far, and what is left, make the whole. -/
def PState (zs : List Int) (k : Nat) (done : List (List I3)) (rest : List Int) : Prop := parse 3 zs = (parse (3 - k) rest).map (done ++ ·)

theorem PState.start (zs : List Int) : PState zs 0 [] zs := by
  unfold PState
  simp
theorem PState.fail {zs : List Int} {k : Nat} {done : List (List I3)} {rest : List Int} (h : PState zs k done rest) (hn : parse (3 - k) rest = none) : parse 3 zs = none := by
  rw [h, hn]; rfl
theorem PState.empty {zs : List Int} {k : Nat} {done : List (List I3)} (h : PState zs k done []) (hk : k < 3) : parse 3 zs = none := by
  refine h.fail ?_
  obtain ⟨j, hj⟩ : ∃ j, 3 - k = j + 1 := ⟨3 - k - 1, by omega⟩
  rw [hj]; rfl
theorem PState.short {zs : List Int} {k : Nat} {done : List (List I3)} {n : Int} {ys : List Int} (h : PState zs k done (n :: ys)) (hk : k < 3) (hs : (ys.length : Int) < 3 * n) : parse 3 zs = none := by
  refine h.fail ?_
  obtain ⟨j, hj⟩ : ∃ j, 3 - k = j + 1 := ⟨3 - k - 1, by omega⟩
  rw [hj]; exact parse_short hs
theorem PState.step {zs : List Int} {k : Nat} {done : List (List I3)} {n : Int} {ys : List Int} (h : PState zs k done (n :: ys)) (hk : k < 3) (hs : ¬ (ys.length : Int) < 3 * n) : PState zs (k + 1) (done ++ [triples (ys.take (3 * n.toNat))]) (ys.drop (3 * n.toNat)) := by
  unfold PState at h ⊢
  obtain ⟨j, hj⟩ : ∃ j, 3 - k = j + 1 := ⟨3 - k - 1, by omega⟩
  rw [h, hj, parse_step hs, show 3 - (k + 1) = j by omega, Option.map_map]
  congr 1
  funext r
  simp
theorem PState.done {zs : List Int} {done : List (List I3)} (h : PState zs 3 done []) : parse 3 zs = some done := by
  unfold PState at h
  rw [h]; simp [parse]
theorem PState.more {zs : List Int} {done : List (List I3)} {rest : List Int} (h : PState zs 3 done rest) (hr : rest ≠ []) : parse 3 zs = none := h.fail (parse_rest hr)
/-- A thread's code that is too long is in any program that comes of it. -/
theorem PState.long {zs : List Int} {k : Nat} {done : List (List I3)} {n : Nat} {ys : List Int} (h : PState zs k done ((n : Int) :: ys)) (hk : k < 3) : ∀ rows, parse 3 zs = some rows → ∃ r ∈ rows, r.length = n := by
  intro rows hr
  unfold PState at h
  obtain ⟨j, hj⟩ : ∃ j, 3 - k = j + 1 := ⟨3 - k - 1, by omega⟩
  rw [h, hj] at hr
  by_cases hs : (ys.length : Int) < 3 * (n : Int)
  · rw [parse_short hs] at hr; cases hr
  · rw [parse_step hs, Option.map_map] at hr
    cases hp : parse j (ys.drop (3 * ((n : Int)).toNat)) with
    | none => rw [hp] at hr; cases hr
    | some R =>
      rw [hp] at hr
      simp at hr
      refine ⟨triples (ys.take (3 * n)), by rw [← hr]; simp, triples_length n _ ?_⟩
      rw [List.length_take]
      omega
end Go.Proofs.YtmhngodbnoonhaaDoor


/-
  impl.codeOfList.
-/
namespace Go.Proofs.YtmhngodbnoonhaaDoor
open Go.RowKit

end Go.Proofs.YtmhngodbnoonhaaDoor
