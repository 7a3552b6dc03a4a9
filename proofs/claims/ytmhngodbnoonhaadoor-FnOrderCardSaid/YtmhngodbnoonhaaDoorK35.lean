/-
  Joined: WordsP, RpP, Parse, CodeL, ProgL, SlI, ProgM, StrS, RpM.
-/
import Derived.Test.YtmhngodbnoonhaaDoorK34
import Derived.Lib.FieldsP
import Derived.Test.YtmhngodbnoonhaaDoorK07
import Derived.Test.YtmhngodbnoonhaaDoorK01
import Derived.Deep.RegionHeld3
import Derived.Test.YtmhngodbnoonhaaDoorK08
import Derived.Test.YtmhngodbnoonhaaDoorK04
import Derived.Maps.AppendAt

/-
  Plain mathematics of a text's words: what lies between blanks, byte by byte; Go's strings.FieldsFunc at 'is it a blank' finds the same.
-/
namespace Go.Proofs.YtmhngodbnoonhaaDoor
open Go.Lib

/-- Byte by byte: the spans that are closed, and where an open one began. -/
def spansB (s : ByteArray) : Nat → Nat → Option Nat → List (Nat × Nat) → List (Nat × Nat) × Option Nat
  | 0, _, st, acc => (acc, st)
  | f + 1, pos, st, acc =>
    if pos < s.size then
      (if bt s pos = 32 then
        (match st with
         | some a => spansB s f (pos + 1) none (acc ++ [(a, pos)])
         | none => spansB s f (pos + 1) none acc)
       else
        (match st with
         | some a => spansB s f (pos + 1) (some a) acc
         | none => spansB s f (pos + 1) (some pos) acc))
    else (acc, st)

theorem spansB_end (s : ByteArray) (f pos : Nat) (st : Option Nat) (acc : List (Nat × Nat)) (h : ¬ pos < s.size) : spansB s f pos st acc = (acc, st) := by
  cases f with
  | zero => rfl
  | succ f => simp [spansB, h]
theorem spansB_blank_some {s : ByteArray} {f pos a : Nat} {acc : List (Nat × Nat)} (h : pos < s.size) (hb : bt s pos = 32) : spansB s (f + 1) pos (some a) acc = spansB s f (pos + 1) none (acc ++ [(a, pos)]) := by
  simp [spansB, h, hb]
theorem spansB_blank_none {s : ByteArray} {f pos : Nat} {acc : List (Nat × Nat)} (h : pos < s.size) (hb : bt s pos = 32) : spansB s (f + 1) pos none acc = spansB s f (pos + 1) none acc := by
  simp [spansB, h, hb]
theorem spansB_word {s : ByteArray} {f pos : Nat} {st : Option Nat} {acc : List (Nat × Nat)} (h : pos < s.size) (hb : bt s pos ≠ 32) : spansB s (f + 1) pos st acc = spansB s f (pos + 1) (some (st.getD pos)) acc := by
  cases st <;> simp [spansB, h, hb]
/-- Several bytes that are no blanks. -/
theorem spansB_run {s : ByteArray} : ∀ (k : Nat) {f pos : Nat} {st : Option Nat} {acc : List (Nat × Nat)}, k < f → pos + k < s.size → (∀ j, j ≤ k → bt s (pos + j) ≠ 32) → spansB s f pos st acc = spansB s (f - (k + 1)) (pos + (k + 1)) (some (st.getD pos)) acc
  | 0, f, pos, st, acc, hf, hs, hb => by
    obtain ⟨g, rfl⟩ : ∃ g, f = g + 1 := ⟨f - 1, by omega⟩
    rw [spansB_word (by omega) (by simpa using hb 0 (Nat.le_refl _))]
    simp
  | k + 1, f, pos, st, acc, hf, hs, hb => by
    obtain ⟨g, rfl⟩ : ∃ g, f = g + 1 := ⟨f - 1, by omega⟩
    rw [spansB_word (by omega) (by simpa using hb 0 (by omega)), spansB_run k (by omega) (by omega) (fun j hj => by have := hb (j + 1) (by omega); rwa [show pos + (j + 1) = pos + 1 + j by omega] at this)]
    have e1 : g - (k + 1) = g + 1 - (k + 1 + 1) := by omega
    have e2 : pos + 1 + (k + 1) = pos + (k + 1 + 1) := by omega
    rw [e1, e2]
    simp

def isBl (r : Nat) : Bool := r == 32

theorem spans_same (s : ByteArray) : ∀ (f pos g : Nat) (st : Option Nat) (acc : List (Nat × Nat)), s.size ≤ pos + f → s.size ≤ pos + g → spansFromP isBl s f pos st acc = spansB s g pos st acc
  | 0, pos, g, st, acc, hf, hg => by
    rw [spansB_end _ _ _ _ _ (by omega)]
    rfl
  | f + 1, pos, g, st, acc, hf, hg => by
    by_cases hp : pos < s.size
    · obtain ⟨h, rfl⟩ : ∃ h, g = h + 1 := ⟨g - 1, by omega⟩
      by_cases ha : bt s pos < 128
      · have hd : Utf8.decode s pos = (bt s pos, 1) := by
          rw [decode_ascii s pos hp (by rw [bt_get]; exact ha), bt_get]
        by_cases hb : bt s pos = 32
        · cases st with
          | none =>
            rw [spansB_blank_none hp hb]
            simp only [spansFromP, hp, hd, hb, if_true]
            exact spans_same s f (pos + 1) h none acc (by omega) (by omega)
          | some a =>
            rw [spansB_blank_some hp hb]
            simp only [spansFromP, hp, hd, hb, if_true]
            exact spans_same s f (pos + 1) h none _ (by omega) (by omega)
        · have hq : isBl (bt s pos) = false := by simp [isBl, hb]
          rw [spansB_word hp hb]
          cases st with
          | none =>
            simp only [spansFromP, hp, hd, hq, if_true, Option.getD_none]
            exact spans_same s f (pos + 1) h (some pos) acc (by omega) (by omega)
          | some a =>
            simp only [spansFromP, hp, hd, hq, if_true, Option.getD_some]
            exact spans_same s f (pos + 1) h (some a) acc (by omega) (by omega)
      · have hsp := decode_span s pos hp (by omega)
        have hh := decode_high s pos hp (by rw [bt_get]; omega)
        have hq : isBl (Utf8.decode s pos).1 = false := by simp [isBl]; omega
        obtain ⟨k, hk⟩ : ∃ k, (Utf8.decode s pos).2 = k + 1 := ⟨(Utf8.decode s pos).2 - 1, by omega⟩
        have hend := (hsp k (by omega)).1
        rw [spansB_run k (by omega) hend (fun j hj => by have := (hsp j (by omega)).2; omega)]
        cases st with
        | none =>
          simp only [spansFromP, hp, hq, if_true, hk, Option.getD_none]
          exact spans_same s f (pos + (k + 1)) _ (some pos) acc (by omega) (by omega)
        | some a =>
          simp only [spansFromP, hp, hq, if_true, hk, Option.getD_some]
          exact spans_same s f (pos + (k + 1)) _ (some a) acc (by omega) (by omega)
    · rw [spansB_end _ _ _ _ _ hp]
      simp [spansFromP, hp]

/-- A text's words. -/
def wordsT (s : ByteArray) : List ByteArray := goFieldsP isBl s

/-- The words of the spans so far. -/
def cutAll (s : ByteArray) (l : List (Nat × Nat)) : List ByteArray := l.map fun x => s.extract x.1 x.2

theorem wordsT_is (s : ByteArray) : wordsT s = cutAll s (closeSpans s (spansB s s.size 0 none [])) := by
  unfold wordsT goFieldsP spansOfP cutAll
  rw [spans_same s s.size 0 s.size none [] (by omega) (by omega)]

theorem spans_count (s : ByteArray) : ∀ (f pos : Nat) (st : Option Nat) (acc : List (Nat × Nat)), (closeSpans s (spansB s f pos st acc)).length ≤ acc.length + 1 + f
  | 0, pos, st, acc => by cases st <;> simp [spansB, closeSpans]
  | f + 1, pos, st, acc => by
    by_cases hp : pos < s.size
    · by_cases hb : bt s pos = 32
      · cases st with
        | none =>
          rw [spansB_blank_none hp hb]
          have := spans_count s f (pos + 1) none acc
          omega
        | some a =>
          rw [spansB_blank_some hp hb]
          have := spans_count s f (pos + 1) none (acc ++ [(a, pos)])
          simp at this
          omega
      · rw [spansB_word hp hb]
        have := spans_count s f (pos + 1) (some (st.getD pos)) acc
        omega
    · rw [spansB_end _ _ _ _ _ hp]
      cases st <;> simp [closeSpans] <;> omega
theorem wordsT_count (s : ByteArray) : (wordsT s).length ≤ s.size + 1 := by
  rw [wordsT_is, cutAll, List.length_map]
  have := spans_count s s.size 0 none []
  simp at this
  omega
end Go.Proofs.YtmhngodbnoonhaaDoor


/-
  Lines of a program: what each says, and the rows that they make.
-/
namespace Go.Proofs.YtmhngodbnoonhaaDoor
open Go.RowKit

/-- What a line says: nothing; or an instruction of a thread. -/
def StepOf (t : ByteArray) : Option (Nat × I3) → Prop
  | none => wordsT t = []
  | some (k, x) => ∃ w0 rest, wordsT t = w0 :: rest ∧ IsDec w0 k ∧ k < 3 ∧ IsRead rest x
def BadLine (t : ByteArray) : Prop := ∀ o, ¬ StepOf t o
theorem StepOf.only {t : ByteArray} {o o' : Option (Nat × I3)} (h : StepOf t o) (g : StepOf t o') : o = o' := by
  match o, o', h, g with
  | none, none, _, _ => rfl
  | none, some (k, x), h, ⟨w0, rest, e, _⟩ =>
    have h' : wordsT t = [] := h
    rw [h'] at e; cases e
  | some (k, x), none, ⟨w0, rest, e, _⟩, h =>
    have h' : wordsT t = [] := h
    rw [h'] at e; cases e
  | some (k, x), some (k', x'), ⟨w0, rest, e, h1, _, h2⟩, ⟨w0', rest', e', g1, _, g2⟩ =>
    rw [e] at e'
    cases e'
    rw [h1.only g1, h2.only g2]
theorem bad_of_head {t w0 : ByteArray} {rest : List ByteArray} (e : wordsT t = w0 :: rest) (h : ∀ k, IsDec w0 k → k < 3 → NoRead rest) : BadLine t := by
  intro o ho
  match o, ho with
  | none, ho =>
    have h' : wordsT t = [] := ho
    rw [h'] at e; cases e
  | some (k, x), ⟨w0', rest', e', h1, h3, h2⟩ =>
    rw [e] at e'
    cases e'
    exact h k h1 h3 x h2

def AllSteps : List ByteArray → List (Option (Nat × I3)) → Prop
  | [], [] => True
  | t :: ts, o :: os => StepOf t o ∧ AllSteps ts os
  | _, _ => False
theorem allSteps_snoc : ∀ {ts : List ByteArray} {os : List (Option (Nat × I3))} {t : ByteArray} {o : Option (Nat × I3)}, AllSteps ts os → StepOf t o → AllSteps (ts ++ [t]) (os ++ [o])
  | [], [], _, _, _, h => ⟨h, trivial⟩
  | [], _ :: _, _, _, h, _ => h.elim
  | _ :: _, [], _, _, h, _ => h.elim
  | _ :: _, _ :: _, _, _, h, g => ⟨h.1, allSteps_snoc h.2 g⟩
theorem AllSteps.only : ∀ {ts : List ByteArray} {os os' : List (Option (Nat × I3))}, AllSteps ts os → AllSteps ts os' → os = os'
  | [], [], [], _, _ => rfl
  | [], [], _ :: _, _, h => h.elim
  | [], _ :: _, _, h, _ => h.elim
  | _ :: _, [], _, h, _ => h.elim
  | _ :: _, _ :: _, [], _, h => h.elim
  | _ :: _, _ :: _, _ :: _, h, g => by rw [h.1.only g.1, AllSteps.only h.2 g.2]
theorem AllSteps.good : ∀ {ts : List ByteArray} {os : List (Option (Nat × I3))}, AllSteps ts os → ∀ t ∈ ts, ¬ BadLine t
  | [], [], _, _, ht => by cases ht
  | [], _ :: _, h, _, _ => h.elim
  | _ :: _, [], h, _, _ => h.elim
  | s :: ts, o :: os, h, t, ht => by
    rcases List.mem_cons.1 ht with rfl | ht
    · exact fun hb => hb o h.1
    · exact AllSteps.good h.2 t ht

/-- One more instruction. -/
def addTo (rows : List (List I3)) : Option (Nat × I3) → List (List I3)
  | none => rows
  | some (k, x) => rows.set k (rows.getD k [] ++ [x])
def rowsOf (os : List (Option (Nat × I3))) : List (List I3) := os.foldl addTo [[], [], []]
theorem rowsOf_snoc (os : List (Option (Nat × I3))) (o : Option (Nat × I3)) : rowsOf (os ++ [o]) = addTo (rowsOf os) o := by simp [rowsOf]

/-- What ReadProgram answers of at most 4096 lines: the rows and the code. -/
def IsRP (ts : List ByteArray) (rows : List (List I3)) (c : Int) : Prop :=
  (c = 0 ∧ ∃ os, AllSteps ts os ∧ rows = rowsOf os ∧ progOk rows = true) ∨
  (c = 1 ∧ rows = [] ∧ ∃ os, AllSteps ts os ∧ progOk (rowsOf os) = false) ∨
  (c = 3 ∧ rows = [] ∧ ∃ t ∈ ts, BadLine t)
theorem IsRP.same {ts : List ByteArray} {r r' : List (List I3)} {c c' : Int} (h : IsRP ts r c) (g : IsRP ts r' c') : r = r' ∧ c = c' := by
  rcases h with ⟨rfl, os, h1, rfl, h3⟩ | ⟨rfl, rfl, os, h1, h3⟩ | ⟨rfl, rfl, t, ht, hb⟩ <;> rcases g with ⟨rfl, os', g1, rfl, g3⟩ | ⟨rfl, rfl, os', g1, g3⟩ | ⟨rfl, rfl, t', ht', hb'⟩
  · rw [h1.only g1]; exact ⟨rfl, rfl⟩
  · rw [h1.only g1, g3] at h3; cases h3
  · exact absurd hb' (h1.good t' ht')
  · rw [h1.only g1, g3] at h3; cases h3
  · exact ⟨rfl, rfl⟩
  · exact absurd hb' (h1.good t' ht')
  · exact absurd hb (g1.good t ht)
  · exact absurd hb (g1.good t ht)
  · exact ⟨rfl, rfl⟩
theorem IsRP.ok {ts : List ByteArray} {r : List (List I3)} {c : Int} (h : IsRP ts r c) : r = [] ∨ progOk r = true := by
  rcases h with ⟨_, _, _, _, h⟩ | ⟨_, rfl, _⟩ | ⟨_, rfl, _⟩
  · exact .inr h
  · exact .inl rfl
  · exact .inl rfl
theorem isRP_exists (ts : List ByteArray) : ∃ rows c, IsRP ts rows c := by
  by_cases h : ∃ t ∈ ts, BadLine t
  · exact ⟨[], 3, .inr (.inr ⟨rfl, rfl, h⟩)⟩
  · have : ∃ os, AllSteps ts os := by
      induction ts with
      | nil => exact ⟨[], trivial⟩
      | cons t ts ih =>
        obtain ⟨os, hos⟩ := ih (fun ⟨s, hs, hb⟩ => h ⟨s, by simp [hs], hb⟩)
        by_cases hb : ∃ o, StepOf t o
        · obtain ⟨o, ho⟩ := hb
          exact ⟨o :: os, ho, hos⟩
        · exact absurd ⟨t, by simp, fun o ho => hb ⟨o, ho⟩⟩ h
    obtain ⟨os, hos⟩ := this
    cases hp : progOk (rowsOf os)
    · exact ⟨[], 1, .inr (.inl ⟨rfl, rfl, os, hos, hp⟩)⟩
    · exact ⟨rowsOf os, 0, .inl ⟨rfl, os, hos, rfl, hp⟩⟩

theorem getD_set_same {rows : List (List I3)} {k : Nat} (r : List I3) (h : k < rows.length) : (rows.set k r).getD k [] = r := by simp [List.getD, h]
theorem getD_set_other {rows : List (List I3)} {k j : Nat} (r : List I3) (h : j ≠ k) : (rows.set k r).getD j [] = rows.getD j [] := by simp [List.getD, List.getElem?_set_ne (Ne.symm h)]
theorem okI_fits {x : I3} (h : okI x = true) : I3.fits x := by
  obtain ⟨h0, h1, h2⟩ := okI_small h
  have wf : ∀ z : Int, 0 ≤ z ∧ z ≤ 9 → (Lit.int .i64 z).wf = true := fun z hz => by
    simp [Lit.wf, IntKind.min, IntKind.max, IntKind.signed, IntKind.bits]
    omega
  exact ⟨wf _ h0, wf _ h1, wf _ h2⟩
end Go.Proofs.YtmhngodbnoonhaaDoor


/-
  Plain mathematics of a program's numbers read back: of each thread its length, and its instructions' three numbers.
-/
namespace Go.Proofs.YtmhngodbnoonhaaDoor

/-- Three numbers an instruction. -/
def triples : List Int → List I3
  | a :: b :: c :: r => (a, b, c) :: triples r
  | _ => []

theorem triples_length : ∀ (n : Nat) (zs : List Int), zs.length = 3 * n → (triples zs).length = n
  | 0, [], _ => rfl
  | 0, _ :: _, h => by simp at h
  | n + 1, [], h => by simp at h
  | n + 1, [_], h => by simp at h; omega
  | n + 1, [_, _], h => by simp at h; omega
  | n + 1, a :: b :: c :: r, h => by
    have := triples_length n r (by simp at h; omega)
    simp [triples, this]
theorem triples_get : ∀ (n : Nat) (zs : List Int) (i : Nat), zs.length = 3 * n → i < n → (triples zs).getD i (0, 0, 0) = (zs.getD (3 * i) 0, zs.getD (3 * i + 1) 0, zs.getD (3 * i + 2) 0)
  | 0, _, i, _, h => by omega
  | n + 1, [], i, h, _ => by simp at h
  | n + 1, [_], i, h, _ => by simp at h; omega
  | n + 1, [_, _], i, h, _ => by simp at h; omega
  | n + 1, a :: b :: c :: r, 0, _, _ => by simp [triples]
  | n + 1, a :: b :: c :: r, i + 1, h, hi => by
    have ih := triples_get n r i (by simp at h; omega) (by omega)
    rw [triples, List.getD_cons_succ, ih]
    have e0 : 3 * (i + 1) = 3 * i + 1 + 1 + 1 := by omega
    rw [e0]
    simp [List.getD]

/-- The codes of k threads, and nothing behind them. -/
def parse : Nat → List Int → Option (List (List I3))
  | 0, [] => some []
  | 0, _ :: _ => none
  | _ + 1, [] => none
  | k + 1, n :: zs => if (zs.length : Int) < 3 * n then none else (parse k (zs.drop (3 * n.toNat))).map (triples (zs.take (3 * n.toNat)) :: ·)

theorem parse_none_nil (k : Nat) : parse (k + 1) [] = none := rfl
theorem parse_short {k : Nat} {n : Int} {zs : List Int} (h : (zs.length : Int) < 3 * n) : parse (k + 1) (n :: zs) = none := by simp [parse, h]
theorem parse_step {k : Nat} {n : Int} {zs : List Int} (h : ¬ (zs.length : Int) < 3 * n) : parse (k + 1) (n :: zs) = (parse k (zs.drop (3 * n.toNat))).map (triples (zs.take (3 * n.toNat)) :: ·) := by simp [parse, h]
theorem parse_rest {zs : List Int} (h : zs ≠ []) : parse 0 zs = none := by
  cases zs with
  | nil => exact absurd rfl h
  | cons z zs => rfl

/-- What was read so far, and what is left, make the whole. -/
def PState (zs : List Int) (k : Nat) (done : List (List I3)) (rest : List Int) : Prop := parse 3 zs = (parse (3 - k) rest).map (done ++ ·)

theorem PState.start (zs : List Int) : PState zs 0 [] zs := by
  unfold PState
  simp
theorem PState.fail {zs : List Int} {k : Nat} {done : List (List I3)} {rest : List Int} (h : PState zs k done rest) (hn : parse (3 - k) rest = none) : parse 3 zs = none := by
  rw [h, hn]; rfl
theorem PState.empty {zs : List Int} {k : Nat} {done : List (List I3)} (h : PState zs k done []) (hk : k < 3) : parse 3 zs = none := by
  refine h.fail ?_
  obtain ⟨j, hj⟩ : ∃ j, 3 - k = j + 1 := ⟨3 - k - 1, by omega⟩
  rw [hj]; rfl
theorem PState.short {zs : List Int} {k : Nat} {done : List (List I3)} {n : Int} {ys : List Int} (h : PState zs k done (n :: ys)) (hk : k < 3) (hs : (ys.length : Int) < 3 * n) : parse 3 zs = none := by
  refine h.fail ?_
  obtain ⟨j, hj⟩ : ∃ j, 3 - k = j + 1 := ⟨3 - k - 1, by omega⟩
  rw [hj]; exact parse_short hs
theorem PState.step {zs : List Int} {k : Nat} {done : List (List I3)} {n : Int} {ys : List Int} (h : PState zs k done (n :: ys)) (hk : k < 3) (hs : ¬ (ys.length : Int) < 3 * n) : PState zs (k + 1) (done ++ [triples (ys.take (3 * n.toNat))]) (ys.drop (3 * n.toNat)) := by
  unfold PState at h ⊢
  obtain ⟨j, hj⟩ : ∃ j, 3 - k = j + 1 := ⟨3 - k - 1, by omega⟩
  rw [h, hj, parse_step hs, show 3 - (k + 1) = j by omega, Option.map_map]
  congr 1
  funext r
  simp
theorem PState.done {zs : List Int} {done : List (List I3)} (h : PState zs 3 done []) : parse 3 zs = some done := by
  unfold PState at h
  rw [h]; simp [parse]
theorem PState.more {zs : List Int} {done : List (List I3)} {rest : List Int} (h : PState zs 3 done rest) (hr : rest ≠ []) : parse 3 zs = none := h.fail (parse_rest hr)
/-- A thread's code that is too long is in any program that comes of it. -/
theorem PState.long {zs : List Int} {k : Nat} {done : List (List I3)} {n : Nat} {ys : List Int} (h : PState zs k done ((n : Int) :: ys)) (hk : k < 3) : ∀ rows, parse 3 zs = some rows → ∃ r ∈ rows, r.length = n := by
  intro rows hr
  unfold PState at h
  obtain ⟨j, hj⟩ : ∃ j, 3 - k = j + 1 := ⟨3 - k - 1, by omega⟩
  rw [h, hj] at hr
  by_cases hs : (ys.length : Int) < 3 * (n : Int)
  · rw [parse_short hs] at hr; cases hr
  · rw [parse_step hs, Option.map_map] at hr
    cases hp : parse j (ys.drop (3 * ((n : Int)).toNat)) with
    | none => rw [hp] at hr; cases hr
    | some R =>
      rw [hp] at hr
      simp at hr
      refine ⟨triples (ys.take (3 * n)), by rw [← hr]; simp, triples_length n _ ?_⟩
      rw [List.length_take]
      omega
end Go.Proofs.YtmhngodbnoonhaaDoor


/-
  impl.codeOfList.
-/
namespace Go.Proofs.YtmhngodbnoonhaaDoor
open Go.RowKit

end Go.Proofs.YtmhngodbnoonhaaDoor


/-
  impl.emptyProgram, impl.programOfList: a program read back from its numbers.
-/
namespace Go.Proofs.YtmhngodbnoonhaaDoor
open Go.RowKit

theorem owns_lower {w : World} {B B' e s n : Nat} {v : Value} {cs : List Value} (h : w.ownsRow B e s v n cs) (hB : B' ≤ B) : w.ownsRow B' e s v n cs := by
  refine ⟨h.1, ?_⟩
  rcases h.2 with h0 | ⟨g, cap, cur, hv, hg, r⟩
  · exact .inl h0
  · exact .inr ⟨g, cap, cur, hv, by omega, r⟩

end Go.Proofs.YtmhngodbnoonhaaDoor


/-
  Slices of slices of integers.
-/
namespace Go.Proofs.YtmhngodbnoonhaaDoor
open Go.RowKit

/-- s[lo:hi] of a slice of integers. -/
theorem slice_lh {w : World} {b off len cap lo hi : Nat} {xs : List Int} (h : Ints .i64 w (some ⟨b, off, none⟩) len cap xs) (h1 : lo ≤ hi) (h2 : hi ≤ len) :
    ∃ a, (∀ W, (Instr.slice 27 (.slice (some ⟨b, off, none⟩) len cap) (some (.int .i64 (lo : Int))) (some (.int .i64 (hi : Int))) none).run Tryd.prog W = .ok (.slice a (hi - lo) (cap - lo)) W) ∧ Ints .i64 w a (hi - lo) (cap - lo) ((xs.drop lo).take (hi - lo)) := by
  obtain ⟨hl, hlc, hcm, hcase⟩ := h
  have hhc : (hi : Int) ≤ (cap : Int) := by omega
  have hlh : (lo : Int) ≤ (hi : Int) := by omega
  by_cases hz : cap - lo = 0
  · refine ⟨some ⟨b, off, none⟩, fun W => ?_, by rw [List.length_take, List.length_drop]; omega, by omega, by omega, .inl (by omega)⟩
    go_simp
    omega
  · refine ⟨some ⟨b, off + lo, none⟩, fun W => ?_, by rw [List.length_take, List.length_drop]; omega, by omega, by omega, ?_⟩
    · go_simp
      omega
    · rcases hcase with h0 | ⟨b', off', he, hb, hc⟩
      · exact .inl (by omega)
      · cases he
        refine .inr ⟨b, off + lo, rfl, hb, fun t ht => ?_⟩
        have := hc (lo + t) (by omega)
        rw [show off + lo + t = off + (lo + t) by omega, this]
        simp [List.getD, ht]
/-- s[lo:] of a slice of integers. -/
theorem slice_l {w : World} {b off len cap lo : Nat} {xs : List Int} (h : Ints .i64 w (some ⟨b, off, none⟩) len cap xs) (h1 : lo ≤ len) :
    ∃ a, (∀ W, (Instr.slice 27 (.slice (some ⟨b, off, none⟩) len cap) (some (.int .i64 (lo : Int))) none none).run Tryd.prog W = .ok (.slice a (len - lo) (cap - lo)) W) ∧ Ints .i64 w a (len - lo) (cap - lo) (xs.drop lo) := by
  obtain ⟨hl, hlc, hcm, hcase⟩ := h
  have hlh : (lo : Int) ≤ (len : Int) := by omega
  by_cases hz : cap - lo = 0
  · refine ⟨some ⟨b, off, none⟩, fun W => ?_, by rw [List.length_drop]; omega, by omega, by omega, .inl (by omega)⟩
    go_simp
    omega
  · refine ⟨some ⟨b, off + lo, none⟩, fun W => ?_, by rw [List.length_drop]; omega, by omega, by omega, ?_⟩
    · go_simp
      omega
    · rcases hcase with h0 | ⟨b', off', he, hb, hc⟩
      · exact .inl (by omega)
      · cases he
        refine .inr ⟨b, off + lo, rfl, hb, fun t ht => ?_⟩
        have := hc (lo + t) (by omega)
        rw [show off + lo + t = off + (lo + t) by omega, this]
        simp [List.getD]
end Go.Proofs.YtmhngodbnoonhaaDoor


/-
  impl.programOfList: a program read back from its numbers.
-/
namespace Go.Proofs.YtmhngodbnoonhaaDoor
open Go.RowKit

/-- One row more, in a block that was not there before. -/
theorem RowsOwn.snoc {w w' : World} {B P k G len : Nat} {vs : List Value} {done : List (List I3)} {r : List I3} (h : RowsOwn w B k vs done) (hd : done.length = k) (hb : Below w.heap.size w w') (hk : k < vs.length) (hG : w.heap.size ≤ G)
    (hn : w'.ownsRow B 125 3 (.slice (some ⟨G, 0, none⟩) len len) r.length (flat r)) (hP : P < w.heap.size) (hPn : ∀ t, t < k → (vs.getD t undef).ownBlock ≠ some P) :
    RowsOwn (w'.setCell ⟨P, k, none⟩ (.slice (some ⟨G, 0, none⟩) len len)) B (k + 1) (vs.set k (.slice (some ⟨G, 0, none⟩) len len)) (done ++ [r]) := by
  have hold : ∀ t, t < k → (done ++ [r]).getD t [] = done.getD t [] := fun t ht => by simp [List.getD, List.getElem?_append_left (show t < done.length by omega)]
  have hnew : (done ++ [r]).getD k [] = r := by subst hd; simp [List.getD]
  have h' : RowsOwn w B k vs (done ++ [r]) := ⟨fun t ht => by rw [hold t ht]; exact h.1 t ht, h.2⟩
  exact h'.put hb hk hG (by rw [hnew]; exact hn) hP hPn

theorem wf_small {z : Int} (h : 0 ≤ z ∧ z ≤ 999999999) : (Lit.int .i64 z).wf = true := by
  simp [Lit.wf, IntKind.min, IntKind.max, IntKind.signed, IntKind.bits]
  omega
theorem triples_mem : ∀ (zs : List Int) (x : I3), x ∈ triples zs → x.1 ∈ zs ∧ x.2.1 ∈ zs ∧ x.2.2 ∈ zs
  | [], x, h => by simp [triples] at h
  | [_], x, h => by simp [triples] at h
  | [_, _], x, h => by simp [triples] at h
  | a :: b :: c :: r, x, h => by
    rw [triples] at h
    rcases List.mem_cons.1 h with rfl | h
    · simp
    · obtain ⟨h1, h2, h3⟩ := triples_mem r x h
      simp [h1, h2, h3]
def allFit (rows : List (List I3)) : Prop := ∀ r ∈ rows, ∀ x ∈ r, I3.fits x
def small (zs : List Int) : Prop := ∀ z ∈ zs, 0 ≤ z ∧ z ≤ 999999999
theorem allFit_snoc {rows : List (List I3)} {zs : List Int} (h : allFit rows) (hz : small zs) : allFit (rows ++ [triples zs]) := by
  intro r hr x hx
  rcases List.mem_append.1 hr with hr | hr
  · exact h r hr x hx
  · simp at hr
    subst hr
    obtain ⟨h1, h2, h3⟩ := triples_mem zs x hx
    exact ⟨wf_small (hz _ h1), wf_small (hz _ h2), wf_small (hz _ h3)⟩

theorem OwnProg.lower {w : World} {B B' : Nat} {v : Value} {rows : List (List I3)} (h : OwnProg w B v rows) (hB : B' ≤ B) : OwnProg w B' v rows := by
  obtain ⟨vs, h1, h2, h3, h4⟩ := h
  exact ⟨vs, owns_lower h1 hB, h2, fun t ht => owns_lower (h3 t ht) hB, h4⟩

/-- What programOfList answers. -/
def ProgRead (zs : List Int) (base : Nat) (e : Ending) (w' : World) : Prop :=
  (∃ rows v, parse 3 zs = some rows ∧ progOk rows = true ∧ e = .returned (.tuple #[.agg #[v], .bool true]) ∧ allFit rows ∧ OwnProg w' base v rows) ∨
  ((∀ rows, parse 3 zs = some rows → progOk rows = false) ∧ ∃ a l c, e = .returned (.tuple #[.agg #[.slice a l c], .bool false]))

end Go.Proofs.YtmhngodbnoonhaaDoor


/-
  Slices of strings in memory, and the laws' helpers that compare them (eqStringS).
-/
namespace Go.Proofs.YtmhngodbnoonhaaDoor
open Go.RowKit

/-- The elements of a slice of strings in memory are the texts ts. -/
def Strs (w : World) (a : Option Addr) (len cap : Nat) (ts : List ByteArray) : Prop :=
  ts.length = len ∧ len ≤ cap ∧ cap ≤ maxLen ∧
  (len = 0 ∨ ∃ b off, a = some ⟨b, off, none⟩ ∧ b < w.heap.size ∧ ∀ t, t < len → w.cell? ⟨b, off + t, none⟩ = some (.string (ts.getD t ByteArray.empty)))

theorem Strs.below {w w' : World} {a : Option Addr} {len cap : Nat} {ts : List ByteArray} (h : Strs w a len cap ts) (hb : Below w.heap.size w w') : Strs w' a len cap ts := by
  obtain ⟨h1, h2, h3, h4⟩ := h
  refine ⟨h1, h2, h3, ?_⟩
  rcases h4 with h4 | ⟨b, off, ha, hlt, hc⟩
  · exact .inl h4
  · exact .inr ⟨b, off, ha, by have := hb.size; omega, fun t ht => by rw [hb.cell (p := ⟨b, off + t, none⟩) hlt]; exact hc t ht⟩

theorem Strs.below_base {w w' : World} {a : Option Addr} {len cap base : Nat} {ts : List ByteArray} (h : Strs w a len cap ts) (hlo : ∀ x, a = some x → len ≠ 0 → x.block < base) (hb : Below base w w') : Strs w' a len cap ts := by
  obtain ⟨h1, h2, h3, h4⟩ := h
  refine ⟨h1, h2, h3, ?_⟩
  rcases h4 with h4 | ⟨b, off, ha, hlt, hc⟩
  · exact .inl h4
  · by_cases h0 : len = 0
    · exact .inl h0
    have hbl : b < base := hlo _ ha h0
    exact .inr ⟨b, off, ha, by have := hb.size; omega, fun t ht => by rw [hb.cell (p := ⟨b, off + t, none⟩) hbl]; exact hc t ht⟩

/-- A slice of strings in memory of its own, from block 'base' on. -/
def OwnT (base : Nat) (w : World) (a : Option Addr) (n cap : Nat) (ts : List ByteArray) : Prop :=
  ts.length = n ∧ n ≤ cap ∧ cap ≤ maxLen ∧ (n = 0 ∨ ∃ g, a = some ⟨g, 0, none⟩ ∧ w.ownsRow base 9 1 (.slice (some ⟨g, 0, none⟩) n cap) n (ts.map Value.string))

theorem OwnT.strs {base : Nat} {w : World} {a : Option Addr} {n cap : Nat} {ts : List ByteArray} (h : OwnT base w a n cap ts) : Strs w a n cap ts := by
  obtain ⟨h1, h2, h3, h4⟩ := h
  refine ⟨h1, h2, h3, ?_⟩
  rcases h4 with h4 | ⟨g, ha, h4⟩
  · exact .inl h4
  · refine .inr ⟨g, 0, ha, (h4.lt g rfl).2, fun t ht => ?_⟩
    have := h4.cellAt t (by simp; omega)
    rw [Nat.zero_add, this]
    simp [List.getElem?_eq_getElem (show t < ts.length by omega)]

theorem OwnT.of_owns {base : Nat} {w : World} {v : Value} {n : Nat} {ts : List ByteArray} (h : w.ownsRow base 9 1 v n (ts.map Value.string)) : ∃ a cap, v = .slice a n cap ∧ OwnT base w a n cap ts := by
  have hl : ts.length = n := by simpa using h.1
  rcases h.2 with ⟨h0, hn⟩ | ⟨g', cap', cur, hv, _, _, hn, hcap, _, _⟩
  · subst hn
    exact ⟨none, 0, h0, hl, Nat.le_refl _, by unfold maxLen; omega, .inl rfl⟩
  · subst hv
    exact ⟨some ⟨g', 0, none⟩, cap', rfl, hl, hn, hcap, .inr ⟨g', rfl, h⟩⟩

theorem OwnT.kept {base : Nat} {w w' : World} {a : Option Addr} {n cap : Nat} {ts : List ByteArray} (h : OwnT base w a n cap ts) (hb : Below w.heap.size w w') : OwnT base w' a n cap ts := by
  obtain ⟨h1, h2, h3, h4⟩ := h
  refine ⟨h1, h2, h3, ?_⟩
  rcases h4 with h4 | ⟨g, ha, h4⟩
  · exact .inl h4
  · refine .inr ⟨g, ha, h4.1, ?_⟩
    have hlt := (h4.lt g rfl).2
    rcases h4.2 with h0 | ⟨g', cap', cur, hv, hg, hh, hr⟩
    · exact .inl h0
    · cases hv
      exact .inr ⟨g, cap, cur, rfl, hg, by rw [hb.block _ hlt]; exact hh, hr⟩

theorem OwnT.block {base : Nat} {w : World} {a : Option Addr} {n cap : Nat} {ts : List ByteArray} (h : OwnT base w a n cap ts) : ∀ x, a = some x → n ≠ 0 → x.block < w.heap.size := by
  intro x hx hn
  rcases h.2.2.2 with h0 | ⟨g, e, ho⟩
  · exact absurd h0 hn
  · rw [e] at hx
    cases hx
    exact (ho.lt g rfl).2

end Go.Proofs.YtmhngodbnoonhaaDoor


/-
  ReadProgram, what both sides share: rows that grow, the outcome.
-/
namespace Go.Proofs.YtmhngodbnoonhaaDoor
open Go.RowKit

theorem ne_block {w : World} {B B' e e' s s' n n' c' X : Nat} {v : Value} {xs xs' : List Value} (h : w.ownsRow B e s v n xs) (hX : w.ownsRow B' e' s' (.slice (some ⟨X, 0, none⟩) n' c') n' xs') (he : e ≠ e') : v.ownBlock ≠ some X := by
  rcases owns_ne h hX he with h0 | h0
  · rw [h0]; simp
  · exact h0
theorem box_n (w : World) (v : Value) (t : TypeId) (B : Nat) (hB : B ≤ w.heap.size) : (w.alloc (.cells #[v] t)).ownsRow B t 1 (.slice (some ⟨w.heap.size, 0, none⟩) 1 1) 1 [v] := World.ownsRow_lit w #[v] 1 hB (by unfold maxLen; omega) rfl
theorem rows3_new (w : World) (x y z : Value) (t B : Nat) (hB : B ≤ w.heap.size) : (w.alloc (.cells #[x, y, z] t)).ownsRow B t 1 (.slice (some ⟨w.heap.size, 0, none⟩) 3 3) 3 [x, y, z] := World.ownsRow_lit w #[x, y, z] 3 hB (by unfold maxLen; omega) rfl
theorem three_dr (w : World) (x y z : Value) (t : TypeId) : ∀ j u, [x, y, z][j]? = some u → (w.alloc (.cells #[x, y, z] t)).drew.cell? ((⟨w.heap.size, 0, none⟩ : Addr).add j) = some u := cell_three_new w x y z t
theorem flat_snoc (xs : List I3) (x : I3) : flat (xs ++ [x]) = flat xs ++ [.int .i64 x.1, .int .i64 x.2.1, .int .i64 x.2.2] := by simp [flat, I3.cells]
theorem wordsT_sz {s : ByteArray} : ∀ t ∈ wordsT s, t.size ≤ s.size := by
  intro t ht
  rw [wordsT_is] at ht
  obtain ⟨x, _, rfl⟩ := List.mem_map.1 ht
  simp
  omega
theorem allFit_three : allFit [[], [], []] := by
  intro r hr x hx
  simp at hr
  subst hr
  cases hx
theorem allFit_set {rows : List (List I3)} {k : Nat} {x : I3} (h : allFit rows) (hx : I3.fits x) : allFit (rows.set k (rows.getD k [] ++ [x])) := by
  intro r hr y hy
  rcases List.mem_or_eq_of_mem_set hr with hr | rfl
  · exact h r hr y hy
  · rcases List.mem_append.1 hy with hy | hy
    · by_cases hk : k < rows.length
      · exact h _ (by simp [List.getD, hk] : rows.getD k [] ∈ rows) y hy
      · simp [List.getD, List.getElem?_eq_none (Nat.le_of_not_lt hk)] at hy
    · simp at hy
      subst hy
      exact hx
theorem RowsOwn.nils (w : World) (B : Nat) : RowsOwn w B 3 [.slice none 0 0, .slice none 0 0, .slice none 0 0] [[], [], []] := by
  refine ⟨fun t ht => ?_, fun t t' ht _ _ => ?_⟩
  · match t, ht with
    | 0, _ => exact World.ownsRow_nil _ _ _ _
    | 1, _ => exact World.ownsRow_nil _ _ _ _
    | 2, _ => exact World.ownsRow_nil _ _ _ _
  · match t, ht with
    | 0, _ => exact .inl rfl
    | 1, _ => exact .inl rfl
    | 2, _ => exact .inl rfl
theorem RowsOwn.three (w : World) (B : Nat) (hB : B ≤ w.heap.size) : RowsOwn (((w.alloc (.cells #[] 125)).alloc (.cells #[] 125)).alloc (.cells #[] 125)) B 3 [.slice (some ⟨w.heap.size, 0, none⟩) 0 0, .slice (some ⟨w.heap.size + 1, 0, none⟩) 0 0, .slice (some ⟨w.heap.size + 2, 0, none⟩) 0 0] [[], [], []] := by
  have e0 : ∀ (W : World), B ≤ W.heap.size → (W.alloc (.cells #[] 125)).ownsRow B 125 3 (.slice (some ⟨W.heap.size, 0, none⟩) 0 0) 0 [] := fun W h => World.ownsRow_lit W #[] 0 h (by unfold maxLen; omega) rfl
  have a0 := ((e0 w hB).alloc (.cells #[] 125)).alloc (.cells #[] 125)
  have a1 := (e0 (w.alloc (.cells #[] 125)) (by simp; omega)).alloc (.cells #[] 125)
  have a2 := e0 ((w.alloc (.cells #[] 125)).alloc (.cells #[] 125)) (by simp; omega)
  simp only [World.size_alloc] at a1 a2
  refine ⟨fun t ht => ?_, fun t t' ht ht' hne => .inr ?_⟩
  · match t, ht with
    | 0, _ => exact a0
    | 1, _ => exact a1
    | 2, _ => exact a2
  · match t, t', ht, ht', hne with
    | 0, 0, _, _, h => exact absurd rfl h
    | 0, 1, _, _, _ => simp [Value.ownBlock, List.getD]
    | 0, 2, _, _, _ => simp [Value.ownBlock, List.getD]
    | 1, 0, _, _, _ => simp [Value.ownBlock, List.getD]
    | 1, 1, _, _, h => exact absurd rfl h
    | 1, 2, _, _, _ => simp [Value.ownBlock, List.getD]
    | 2, 0, _, _, _ => simp [Value.ownBlock, List.getD]
    | 2, 1, _, _, _ => simp [Value.ownBlock, List.getD]
    | 2, 2, _, _, h => exact absurd rfl h
/-- One row has grown. -/
theorem RowsOwn.grow {w w' : World} {B k : Nat} {vs : List Value} {rows : List (List I3)} {x : I3} {o : Obj} {v' : Value} (h : RowsOwn w B 3 vs rows) (h3 : rows.length = 3) (hv : vs.length = 3) (hk : k < 3)
    (hg : (w.alloc o).drew.grownBy w' (vs.getD k undef).ownBlock) (hn : w'.ownsRow B 125 3 v' ((rows.getD k []).length + 1) (flat (rows.getD k [] ++ [x])))
    (hat : v'.ownBlock = (vs.getD k undef).ownBlock ∨ v'.ownBlock = some (w.alloc o).drew.heap.size) : RowsOwn w' B 3 (vs.set k v') (rows.set k (rows.getD k [] ++ [x])) := by
  have hold : ∀ t, t ≠ k → (vs.set k v').getD t undef = vs.getD t undef := fun t ht => by simp [List.getD, List.getElem?_set_ne (Ne.symm ht)]
  have hnew : (vs.set k v').getD k undef = v' := by simp [List.getD, show k < vs.length by omega]
  have hsz : (w.alloc o).drew.heap.size = w.heap.size + 1 := by simp
  rw [hsz] at hat
  refine ⟨fun t ht => ?_, fun t t' ht ht' hne => ?_⟩
  · by_cases e : t = k
    · subst e
      rw [hnew, getD_set_same _ (by omega)]
      simpa using hn
    · rw [hold t e, getD_set_other _ e]
      exact ((h.1 t ht).alloc o).drew.kept hg (h.2 t k ht hk e)
  · by_cases e : t = k
    · subst e
      rw [hnew, hold t' (Ne.symm hne)]
      rcases hat with hat | hat
      · rw [hat]; exact h.2 t t' ht ht' hne
      · refine .inr fun h' => ?_
        rw [hat] at h'
        have := ((h.1 t' ht').lt _ h'.symm).2
        omega
    · rw [hold t e]
      by_cases e' : t' = k
      · subst e'
        rw [hnew]
        rcases hat with hat | hat
        · rw [hat]; exact h.2 t t' ht ht' hne
        · rcases hb : (vs.getD t undef).ownBlock with _ | y
          · exact .inl rfl
          · refine .inr fun h' => ?_
            rw [hat] at h'
            cases h'
            have := ((h.1 t ht).lt _ hb).2
            omega
      · rw [hold t' e']
        exact h.2 t t' ht ht' hne

theorem step_append_run {P : Program} {ops : Array Oper} {o : Oper} {a : Act} {w : World} {K : Act → World → Prop} {Q : Exit → Act → World → Prop} {E : Prop}
    (hg : o.guard = none) (s x : Operand) (t : TypeId) (hop : o.op = Op.call { callee := Callee.builtin Builtin.append, args := #[s, x], argTypes := #[t, t] })
    (v vx : Value) (hs : a.eval s = v) (hx : a.eval x = vx) {v' : Value} {w' : World} (hrun : (Builtin.append_ #[t, t] o.type #[v, vx]).run P w = .ok v' w') (hK : K (a.put o.dst v') w') :
    if Region.wanted o (yielded ops a.tmps) = true then Oper.wp P o a w K Q else E := by
  have hw : Region.wanted o (yielded ops a.tmps) = true := by simp [Region.wanted, hg]
  rw [if_pos hw]
  subst hs hx
  unfold Oper.wp
  simp [execOp, hop, resolve, invoke, builtin, hrun, Result.andThen]
  exact hK

def RPOut (ts : List ByteArray) (base : Nat) (e : Ending) (w' : World) : Prop :=
  ∃ (v : Value) (rows : List (List I3)) (c : Int), IsRP ts rows c ∧ e = .returned (.tuple #[.agg #[v], .int .i64 c]) ∧ allFit rows ∧ OwnProg w' base v rows
end Go.Proofs.YtmhngodbnoonhaaDoor
