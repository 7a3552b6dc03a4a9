/-
  Joined: NumP, ReadP, WordsP, RpP, Parse.
-/
import Derived.Test.YtmhngodbnoonhaaGreatDoorK31
import Derived.Laws.BytesArg
import Derived.Lib.FieldsP
import Derived.Test.YtmhngodbnoonhaaGreatDoorK09
import Derived.Test.YtmhngodbnoonhaaGreatDoorK02

/-
  Plain mathematics of a number's digits: at most 18, none needless ahead; the digits of the value are the text itself.
-/
namespace Go.Proofs.YtmhngodbnoonhaaGreatDoor

/-- What the first k digits come to. -/
def digVal (s : ByteArray) : Nat → Nat
  | 0 => 0
  | k + 1 => 10 * digVal s k + (bt s k - 48)
def allDig (s : ByteArray) (k : Nat) : Prop := ∀ i, i < k → 48 ≤ bt s i ∧ bt s i ≤ 57
theorem allDig_zero (s : ByteArray) : allDig s 0 := fun i h => absurd h (by omega)
theorem allDig_succ {s : ByteArray} {k : Nat} (h : allDig s k) (h1 : 48 ≤ bt s k) (h2 : bt s k ≤ 57) : allDig s (k + 1) := by
  intro i hi
  rcases Nat.lt_or_ge i k with h' | h'
  · exact h i h'
  · obtain rfl : i = k := by omega
    exact ⟨h1, h2⟩
theorem digVal_lt {s : ByteArray} : ∀ {k : Nat}, allDig s k → digVal s k < 10 ^ k
  | 0, _ => by simp [digVal]
  | k + 1, h => by
    have ih := digVal_lt (k := k) (fun i hi => h i (by omega))
    have := h k (by omega)
    rw [digVal, Nat.pow_succ]
    omega
theorem digVal_small {s : ByteArray} {k : Nat} (h : allDig s k) (hk : k ≤ 18) : digVal s k < 1000000000000000000 := by
  have h1 := digVal_lt h
  have h2 : 10 ^ k ≤ 10 ^ 18 := Nat.pow_le_pow_right (by omega) hk
  have : (10 : Nat) ^ 18 = 1000000000000000000 := by decide
  omega
theorem digVal_small' {s : ByteArray} {k : Nat} (h : allDig s k) (hk : k ≤ 17) : digVal s k < 100000000000000000 := by
  have h1 := digVal_lt h
  have h2 : 10 ^ k ≤ 10 ^ 17 := Nat.pow_le_pow_right (by omega) hk
  have : (10 : Nat) ^ 17 = 100000000000000000 := by decide
  omega

/-- The text is the number n, as it is told. -/
def IsDec (s : ByteArray) (n : Nat) : Prop := 1 ≤ s.size ∧ s.size ≤ 18 ∧ ¬ (1 < s.size ∧ bt s 0 = 48) ∧ allDig s s.size ∧ n = digVal s s.size
def NoDec (s : ByteArray) : Prop := ∀ n, ¬ IsDec s n
theorem IsDec.only {s : ByteArray} {n m : Nat} (h : IsDec s n) (g : IsDec s m) : n = m := h.2.2.2.2.trans g.2.2.2.2.symm
theorem IsDec.lt {s : ByteArray} {n : Nat} (h : IsDec s n) : n < 1000000000000000000 := by
  obtain ⟨_, h2, _, h4, rfl⟩ := h
  exact digVal_small h4 h2
theorem noDec_empty {s : ByteArray} (h : s.size = 0) : NoDec s := fun n hn => by have := hn.1; omega
theorem noDec_long {s : ByteArray} (h : 18 < s.size) : NoDec s := fun n hn => by have := hn.2.1; omega
theorem noDec_zero {s : ByteArray} (h : 1 < s.size) (h0 : bt s 0 = 48) : NoDec s := fun _ hn => hn.2.2.1 ⟨h, h0⟩
theorem noDec_at {s : ByteArray} {k : Nat} (hk : k < s.size) (h : ¬ (48 ≤ bt s k ∧ bt s k ≤ 57)) : NoDec s := fun _ hn => h (hn.2.2.2.1 k hk)

/-- A number's digits. -/
def decT (n : Nat) : ByteArray := if _h : n < 10 then strOfNums [48 + (n : Int)] else decT (n / 10) ++ strOfNums [48 + ((n % 10 : Nat) : Int)]
termination_by n
decreasing_by omega

theorem byte_at (s : ByteArray) (k : Nat) (hk : k < s.size) {d : Nat} (hd : bt s k = 48 + d) : strOfNums [48 + (d : Int)] = s.extract k (k + 1) := by
  have e : UInt8.ofNat (48 + d) = s[k]'hk := by
    rw [← hd, ← bt_get s k hk]
    simp
  have e2 : (48 + (d : Int)).toNat = 48 + d := by omega
  apply ByteArray.ext
  apply Array.ext
  · simp [strOfNums]; omega
  · intro i h1 h2
    obtain rfl : i = 0 := by simp [strOfNums] at h1; omega
    simp only [strOfNums, List.map_cons, List.map_nil, e2]
    simp only [List.getElem_toArray, List.getElem_cons_zero]
    rw [e]
    simp [ByteArray.data_extract]
    rfl
theorem digVal_pos {s : ByteArray} : ∀ {k : Nat}, 1 ≤ k → allDig s k → bt s 0 ≠ 48 → 1 ≤ digVal s k
  | 0, h, _, _ => by omega
  | 1, _, h, h0 => by
    have := h 0 (by omega)
    simp only [digVal]
    omega
  | k + 2, _, h, h0 => by
    have := digVal_pos (k := k + 1) (by omega) (fun i hi => h i (by omega)) h0
    rw [digVal]
    omega
theorem decT_digVal {s : ByteArray} : ∀ {k : Nat}, 1 ≤ k → k ≤ s.size → allDig s k → ¬ (1 < k ∧ bt s 0 = 48) → decT (digVal s k) = s.extract 0 k
  | 0, h, _, _, _ => by omega
  | 1, _, hs, h, _ => by
    have hd := h 0 (by omega)
    have e : digVal s 1 = bt s 0 - 48 := by simp [digVal]
    rw [e, decT, dif_pos (by omega)]
    exact byte_at s 0 (by omega) (by omega)
  | k + 2, _, hs, h, h0 => by
    have hd := h (k + 1) (by omega)
    have hne : bt s 0 ≠ 48 := fun e => h0 ⟨by omega, e⟩
    have ih := decT_digVal (k := k + 1) (by omega) (by omega) (fun i hi => h i (by omega)) (fun hh => hne hh.2)
    have hp := digVal_pos (k := k + 1) (by omega) (fun i hi => h i (by omega)) hne
    have e : digVal s (k + 2) = 10 * digVal s (k + 1) + (bt s (k + 1) - 48) := rfl
    generalize digVal s (k + 1) = m at ih hp e
    rw [e, decT, dif_neg (by omega), show (10 * m + (bt s (k + 1) - 48)) / 10 = m by omega, show (10 * m + (bt s (k + 1) - 48)) % 10 = bt s (k + 1) - 48 by omega, ih, byte_at s (k + 1) (by omega) (by omega : bt s (k + 1) = 48 + (bt s (k + 1) - 48))]
    rw [ByteArray.extract_append_extract]
    congr 1 <;> omega
theorem IsDec.text {s : ByteArray} {n : Nat} (h : IsDec s n) : decT n = s := by
  obtain ⟨h1, _, h3, h4, rfl⟩ := h
  rw [decT_digVal h1 (Nat.le_refl _) h4 h3]
  simp
theorem decT_size : ∀ (f n : Nat), n < 10 ^ (f + 1) → (decT n).size ≤ f + 1
  | 0, n, h => by
    rw [decT, dif_pos (by simpa using h)]
    simp [strOfNums_size]
  | f + 1, n, h => by
    by_cases hn : n < 10
    · rw [decT, dif_pos hn]
      simp [strOfNums_size]
    · rw [decT, dif_neg hn, ByteArray.size_append, strOfNums_size]
      have := decT_size f (n / 10) (by rw [Nat.pow_succ] at h; omega)
      simp
      omega
end Go.Proofs.YtmhngodbnoonhaaGreatDoor


/-
  An instruction read from its words: which words are one, and which.
-/
namespace Go.Proofs.YtmhngodbnoonhaaGreatDoor
open Go.RowKit

/-- The number of a word; 0 of any other word. -/
def opK (t : ByteArray) : Nat := if t = opB 1 then 1 else if t = opB 2 then 2 else if t = opB 3 then 3 else if t = opB 4 then 4 else if t = opB 5 then 5 else if t = opB 6 then 6 else if t = opB 7 then 7 else if t = opB 8 then 8 else 0

theorem opK_opB (k : Nat) (hk : k < 9) : opK (opB k) = k := by
  match k, hk with
  | 0, _ => decide
  | 1, _ => decide
  | 2, _ => decide
  | 3, _ => decide
  | 4, _ => decide
  | 5, _ => decide
  | 6, _ => decide
  | 7, _ => decide
  | 8, _ => decide
theorem opK_cases (t : ByteArray) : opK t = 0 ∨ (opK t < 9 ∧ t = opB (opK t)) := by
  unfold opK
  split
  · rename_i h; exact .inr ⟨by omega, h⟩
  split
  · rename_i h; exact .inr ⟨by omega, h⟩
  split
  · rename_i h; exact .inr ⟨by omega, h⟩
  split
  · rename_i h; exact .inr ⟨by omega, h⟩
  split
  · rename_i h; exact .inr ⟨by omega, h⟩
  split
  · rename_i h; exact .inr ⟨by omega, h⟩
  split
  · rename_i h; exact .inr ⟨by omega, h⟩
  split
  · rename_i h; exact .inr ⟨by omega, h⟩
  · exact .inl rfl
theorem opK_lt (t : ByteArray) : opK t < 9 := by
  rcases opK_cases t with h | h
  · omega
  · exact h.1
theorem opK_eq {t : ByteArray} {k : Nat} (h0 : k ≠ 0) (hk : k < 9) : opB k = t ↔ opK t = k := by
  constructor
  · rintro rfl
    exact opK_opB k hk
  · intro h
    rcases opK_cases t with h' | h'
    · omega
    · rw [h] at h'; exact h'.2.symm
theorem opK_none {t : ByteArray} (h : ∀ j, j < 9 → opB j ≠ t) : opK t = 0 := by
  rcases opK_cases t with h' | h'
  · exact h'
  · exact absurd h'.2.symm (h _ h'.1)

/-- The words are the instruction x. -/
def IsRead (ws : List ByteArray) (x : I3) : Prop :=
  (∃ t0 t1 a, ws = [t0, t1] ∧ (opK t0 = 5 ∨ opK t0 = 6) ∧ IsDec t1 a ∧ x = ((opK t0 : Int), (a : Int), 0) ∧ okI x = true) ∨
  (∃ t0 t1 t2 a b, ws = [t0, t1, t2] ∧ ¬ (opK t0 = 5 ∨ opK t0 = 6) ∧ opK t0 ≠ 0 ∧ IsDec t1 a ∧ IsDec t2 b ∧ x = ((opK t0 : Int), (a : Int), (b : Int)) ∧ okI x = true)
def NoRead (ws : List ByteArray) : Prop := ∀ x, ¬ IsRead ws x
theorem IsRead.only {ws : List ByteArray} {x y : I3} (h : IsRead ws x) (g : IsRead ws y) : x = y := by
  rcases h with ⟨t0, t1, a, rfl, _, ha, rfl, _⟩ | ⟨t0, t1, t2, a, b, rfl, _, _, ha, hb, rfl, _⟩ <;> rcases g with ⟨s0, s1, c, e, _, hc, rfl, _⟩ | ⟨s0, s1, s2, c, d, e, _, _, hc, hd, rfl, _⟩
  · cases e
    rw [ha.only hc]
  · cases e
  · cases e
  · cases e
    rw [ha.only hc, hb.only hd]
theorem IsRead.ok {ws : List ByteArray} {x : I3} (h : IsRead ws x) : okI x = true := by
  rcases h with ⟨_, _, _, _, _, _, _, h⟩ | ⟨_, _, _, _, _, _, _, _, _, _, _, h⟩ <;> exact h
theorem noRead_nil : NoRead [] := by
  rintro x (⟨_, _, _, h, _⟩ | ⟨_, _, _, _, _, h, _⟩) <;> cases h
theorem noRead_op {ws : List ByteArray} {t0 : ByteArray} (h : ws[0]? = some t0) (hk : opK t0 = 0) : NoRead ws := by
  rintro x (⟨s0, s1, a, rfl, h5, _⟩ | ⟨s0, s1, s2, a, b, rfl, _, h0, _⟩)
  · simp at h; subst h; omega
  · simp at h; subst h; omega
theorem noRead_len2 {ws : List ByteArray} {t0 : ByteArray} (h : ws[0]? = some t0) (hk : opK t0 = 5 ∨ opK t0 = 6) (hl : ws.length ≠ 2) : NoRead ws := by
  rintro x (⟨s0, s1, a, rfl, h5, _⟩ | ⟨s0, s1, s2, a, b, rfl, hn, h0, _⟩)
  · simp at hl
  · simp at h; subst h; exact hn hk
theorem noRead_len3 {ws : List ByteArray} {t0 : ByteArray} (h : ws[0]? = some t0) (hk : ¬ (opK t0 = 5 ∨ opK t0 = 6)) (hl : ws.length ≠ 3) : NoRead ws := by
  rintro x (⟨s0, s1, a, rfl, h5, _⟩ | ⟨s0, s1, s2, a, b, rfl, hn, h0, _⟩)
  · simp at h; subst h; exact hk h5
  · simp at hl
theorem noRead_two_bad {t0 t1 : ByteArray} (h : NoDec t1) : NoRead [t0, t1] := by
  rintro x (⟨s0, s1, a, e, h5, ha, _⟩ | ⟨s0, s1, s2, a, b, e, hn, h0, _⟩)
  · cases e; exact h _ ha
  · cases e
theorem noRead_two_no {t0 t1 : ByteArray} {a : Nat} (ha : IsDec t1 a) (h : okI ((opK t0 : Int), (a : Int), 0) = false) : NoRead [t0, t1] := by
  rintro x (⟨s0, s1, c, e, h5, hc, rfl, hok⟩ | ⟨s0, s1, s2, c, b, e, hn, h0, _⟩)
  · cases e
    rw [hc.only ha, h] at hok
    cases hok
  · cases e
theorem noRead_three_bad {t0 t1 t2 : ByteArray} (h : NoDec t1 ∨ NoDec t2) : NoRead [t0, t1, t2] := by
  rintro x (⟨s0, s1, a, e, h5, ha, _⟩ | ⟨s0, s1, s2, a, b, e, hn, h0, ha, hb, _⟩)
  · cases e
  · cases e
    rcases h with h | h
    · exact h _ ha
    · exact h _ hb
theorem noRead_three_no {t0 t1 t2 : ByteArray} {a b : Nat} (ha : IsDec t1 a) (hb : IsDec t2 b) (h : okI ((opK t0 : Int), (a : Int), (b : Int)) = false) : NoRead [t0, t1, t2] := by
  rintro x (⟨s0, s1, c, e, h5, hc, rfl, hok⟩ | ⟨s0, s1, s2, c, d, e, hn, h0, hc, hd, rfl, hok⟩)
  · cases e
  · cases e
    rw [hc.only ha, hd.only hb, h] at hok
    cases hok

/-- What a reading of an instruction answers. -/
def ReadOut (ws : List ByteArray) (e : Ending) : Prop :=
  (∃ x, IsRead ws x ∧ e = .returned (.tuple #[x.val, .bool true])) ∨ (NoRead ws ∧ ∃ y : I3, e = .returned (.tuple #[y.val, .bool false]))

theorem beq_tx (x y : ByteArray) (h : x ≠ y) : (x.toList == y.toList) = false := by
  rw [beq_eq_false_iff_ne]
  intro e
  rw [ByteArray.toList_eq, ByteArray.toList_eq] at e
  apply h
  cases x; cases y
  simp at e
  rw [e]
end Go.Proofs.YtmhngodbnoonhaaGreatDoor


/-
  Plain mathematics of a text's words: what lies between blanks, byte by byte; Go's strings.FieldsFunc at 'is it a blank' finds the same.
-/
namespace Go.Proofs.YtmhngodbnoonhaaGreatDoor
open Go.Lib

/-- Byte by byte: the spans that are closed, and where an open one began. -/
def spansB (s : ByteArray) : Nat → Nat → Option Nat → List (Nat × Nat) → List (Nat × Nat) × Option Nat
  | 0, _, st, acc => (acc, st)
  | f + 1, pos, st, acc =>
    if pos < s.size then
      (if bt s pos = 32 then
        (match st with
         | some a => spansB s f (pos + 1) none (acc ++ [(a, pos)])
         | none => spansB s f (pos + 1) none acc)
       else
        (match st with
         | some a => spansB s f (pos + 1) (some a) acc
         | none => spansB s f (pos + 1) (some pos) acc))
    else (acc, st)

theorem spansB_end (s : ByteArray) (f pos : Nat) (st : Option Nat) (acc : List (Nat × Nat)) (h : ¬ pos < s.size) : spansB s f pos st acc = (acc, st) := by
  cases f with
  | zero => rfl
  | succ f => simp [spansB, h]
theorem spansB_blank_some {s : ByteArray} {f pos a : Nat} {acc : List (Nat × Nat)} (h : pos < s.size) (hb : bt s pos = 32) : spansB s (f + 1) pos (some a) acc = spansB s f (pos + 1) none (acc ++ [(a, pos)]) := by
  simp [spansB, h, hb]
theorem spansB_blank_none {s : ByteArray} {f pos : Nat} {acc : List (Nat × Nat)} (h : pos < s.size) (hb : bt s pos = 32) : spansB s (f + 1) pos none acc = spansB s f (pos + 1) none acc := by
  simp [spansB, h, hb]
theorem spansB_word {s : ByteArray} {f pos : Nat} {st : Option Nat} {acc : List (Nat × Nat)} (h : pos < s.size) (hb : bt s pos ≠ 32) : spansB s (f + 1) pos st acc = spansB s f (pos + 1) (some (st.getD pos)) acc := by
  cases st <;> simp [spansB, h, hb]
/-- Several bytes that are no blanks. -/
theorem spansB_run {s : ByteArray} : ∀ (k : Nat) {f pos : Nat} {st : Option Nat} {acc : List (Nat × Nat)}, k < f → pos + k < s.size → (∀ j, j ≤ k → bt s (pos + j) ≠ 32) → spansB s f pos st acc = spansB s (f - (k + 1)) (pos + (k + 1)) (some (st.getD pos)) acc
  | 0, f, pos, st, acc, hf, hs, hb => by
    obtain ⟨g, rfl⟩ : ∃ g, f = g + 1 := ⟨f - 1, by omega⟩
    rw [spansB_word (by omega) (by simpa using hb 0 (Nat.le_refl _))]
    simp
  | k + 1, f, pos, st, acc, hf, hs, hb => by
    obtain ⟨g, rfl⟩ : ∃ g, f = g + 1 := ⟨f - 1, by omega⟩
    rw [spansB_word (by omega) (by simpa using hb 0 (by omega)), spansB_run k (by omega) (by omega) (fun j hj => by have := hb (j + 1) (by omega); rwa [show pos + (j + 1) = pos + 1 + j by omega] at this)]
    have e1 : g - (k + 1) = g + 1 - (k + 1 + 1) := by omega
    have e2 : pos + 1 + (k + 1) = pos + (k + 1 + 1) := by omega
    rw [e1, e2]
    simp

def isBl (r : Nat) : Bool := r == 32

theorem spans_same (s : ByteArray) : ∀ (f pos g : Nat) (st : Option Nat) (acc : List (Nat × Nat)), s.size ≤ pos + f → s.size ≤ pos + g → spansFromP isBl s f pos st acc = spansB s g pos st acc
  | 0, pos, g, st, acc, hf, hg => by
    rw [spansB_end _ _ _ _ _ (by omega)]
    rfl
  | f + 1, pos, g, st, acc, hf, hg => by
    by_cases hp : pos < s.size
    · obtain ⟨h, rfl⟩ : ∃ h, g = h + 1 := ⟨g - 1, by omega⟩
      by_cases ha : bt s pos < 128
      · have hd : Utf8.decode s pos = (bt s pos, 1) := by
          rw [decode_ascii s pos hp (by rw [bt_get]; exact ha), bt_get]
        by_cases hb : bt s pos = 32
        · cases st with
          | none =>
            rw [spansB_blank_none hp hb]
            simp only [spansFromP, hp, hd, hb, if_true]
            exact spans_same s f (pos + 1) h none acc (by omega) (by omega)
          | some a =>
            rw [spansB_blank_some hp hb]
            simp only [spansFromP, hp, hd, hb, if_true]
            exact spans_same s f (pos + 1) h none _ (by omega) (by omega)
        · have hq : isBl (bt s pos) = false := by simp [isBl, hb]
          rw [spansB_word hp hb]
          cases st with
          | none =>
            simp only [spansFromP, hp, hd, hq, if_true, Option.getD_none]
            exact spans_same s f (pos + 1) h (some pos) acc (by omega) (by omega)
          | some a =>
            simp only [spansFromP, hp, hd, hq, if_true, Option.getD_some]
            exact spans_same s f (pos + 1) h (some a) acc (by omega) (by omega)
      · have hsp := decode_span s pos hp (by omega)
        have hh := decode_high s pos hp (by rw [bt_get]; omega)
        have hq : isBl (Utf8.decode s pos).1 = false := by simp [isBl]; omega
        obtain ⟨k, hk⟩ : ∃ k, (Utf8.decode s pos).2 = k + 1 := ⟨(Utf8.decode s pos).2 - 1, by omega⟩
        have hend := (hsp k (by omega)).1
        rw [spansB_run k (by omega) hend (fun j hj => by have := (hsp j (by omega)).2; omega)]
        cases st with
        | none =>
          simp only [spansFromP, hp, hq, if_true, hk, Option.getD_none]
          exact spans_same s f (pos + (k + 1)) _ (some pos) acc (by omega) (by omega)
        | some a =>
          simp only [spansFromP, hp, hq, if_true, hk, Option.getD_some]
          exact spans_same s f (pos + (k + 1)) _ (some a) acc (by omega) (by omega)
    · rw [spansB_end _ _ _ _ _ hp]
      simp [spansFromP, hp]

/-- A text's words. -/
def wordsT (s : ByteArray) : List ByteArray := goFieldsP isBl s

/-- The words of the spans so far. -/
def cutAll (s : ByteArray) (l : List (Nat × Nat)) : List ByteArray := l.map fun x => s.extract x.1 x.2

theorem wordsT_is (s : ByteArray) : wordsT s = cutAll s (closeSpans s (spansB s s.size 0 none [])) := by
  unfold wordsT goFieldsP spansOfP cutAll
  rw [spans_same s s.size 0 s.size none [] (by omega) (by omega)]

theorem spans_count (s : ByteArray) : ∀ (f pos : Nat) (st : Option Nat) (acc : List (Nat × Nat)), (closeSpans s (spansB s f pos st acc)).length ≤ acc.length + 1 + f
  | 0, pos, st, acc => by cases st <;> simp [spansB, closeSpans]
  | f + 1, pos, st, acc => by
    by_cases hp : pos < s.size
    · by_cases hb : bt s pos = 32
      · cases st with
        | none =>
          rw [spansB_blank_none hp hb]
          have := spans_count s f (pos + 1) none acc
          omega
        | some a =>
          rw [spansB_blank_some hp hb]
          have := spans_count s f (pos + 1) none (acc ++ [(a, pos)])
          simp at this
          omega
      · rw [spansB_word hp hb]
        have := spans_count s f (pos + 1) (some (st.getD pos)) acc
        omega
    · rw [spansB_end _ _ _ _ _ hp]
      cases st <;> simp [closeSpans] <;> omega
theorem wordsT_count (s : ByteArray) : (wordsT s).length ≤ s.size + 1 := by
  rw [wordsT_is, cutAll, List.length_map]
  have := spans_count s s.size 0 none []
  simp at this
  omega
end Go.Proofs.YtmhngodbnoonhaaGreatDoor


/-
  Lines of a program: what each says, and the rows that they make.
-/
namespace Go.Proofs.YtmhngodbnoonhaaGreatDoor
open Go.RowKit

/-- What a line says: nothing; or an instruction of a thread. -/
def StepOf (t : ByteArray) : Option (Nat × I3) → Prop
  | none => wordsT t = []
  | some (k, x) => ∃ w0 rest, wordsT t = w0 :: rest ∧ IsDec w0 k ∧ k < 3 ∧ IsRead rest x
def BadLine (t : ByteArray) : Prop := ∀ o, ¬ StepOf t o
theorem StepOf.only {t : ByteArray} {o o' : Option (Nat × I3)} (h : StepOf t o) (g : StepOf t o') : o = o' := by
  match o, o', h, g with
  | none, none, _, _ => rfl
  | none, some (k, x), h, ⟨w0, rest, e, _⟩ =>
    have h' : wordsT t = [] := h
    rw [h'] at e; cases e
  | some (k, x), none, ⟨w0, rest, e, _⟩, h =>
    have h' : wordsT t = [] := h
    rw [h'] at e; cases e
  | some (k, x), some (k', x'), ⟨w0, rest, e, h1, _, h2⟩, ⟨w0', rest', e', g1, _, g2⟩ =>
    rw [e] at e'
    cases e'
    rw [h1.only g1, h2.only g2]
theorem bad_of_head {t w0 : ByteArray} {rest : List ByteArray} (e : wordsT t = w0 :: rest) (h : ∀ k, IsDec w0 k → k < 3 → NoRead rest) : BadLine t := by
  intro o ho
  match o, ho with
  | none, ho =>
    have h' : wordsT t = [] := ho
    rw [h'] at e; cases e
  | some (k, x), ⟨w0', rest', e', h1, h3, h2⟩ =>
    rw [e] at e'
    cases e'
    exact h k h1 h3 x h2

def AllSteps : List ByteArray → List (Option (Nat × I3)) → Prop
  | [], [] => True
  | t :: ts, o :: os => StepOf t o ∧ AllSteps ts os
  | _, _ => False
theorem allSteps_snoc : ∀ {ts : List ByteArray} {os : List (Option (Nat × I3))} {t : ByteArray} {o : Option (Nat × I3)}, AllSteps ts os → StepOf t o → AllSteps (ts ++ [t]) (os ++ [o])
  | [], [], _, _, _, h => ⟨h, trivial⟩
  | [], _ :: _, _, _, h, _ => h.elim
  | _ :: _, [], _, _, h, _ => h.elim
  | _ :: _, _ :: _, _, _, h, g => ⟨h.1, allSteps_snoc h.2 g⟩
theorem AllSteps.only : ∀ {ts : List ByteArray} {os os' : List (Option (Nat × I3))}, AllSteps ts os → AllSteps ts os' → os = os'
  | [], [], [], _, _ => rfl
  | [], [], _ :: _, _, h => h.elim
  | [], _ :: _, _, h, _ => h.elim
  | _ :: _, [], _, h, _ => h.elim
  | _ :: _, _ :: _, [], _, h => h.elim
  | _ :: _, _ :: _, _ :: _, h, g => by rw [h.1.only g.1, AllSteps.only h.2 g.2]
theorem AllSteps.good : ∀ {ts : List ByteArray} {os : List (Option (Nat × I3))}, AllSteps ts os → ∀ t ∈ ts, ¬ BadLine t
  | [], [], _, _, ht => by cases ht
  | [], _ :: _, h, _, _ => h.elim
  | _ :: _, [], h, _, _ => h.elim
  | s :: ts, o :: os, h, t, ht => by
    rcases List.mem_cons.1 ht with rfl | ht
    · exact fun hb => hb o h.1
    · exact AllSteps.good h.2 t ht

/-- One more instruction. -/
def addTo (rows : List (List I3)) : Option (Nat × I3) → List (List I3)
  | none => rows
  | some (k, x) => rows.set k (rows.getD k [] ++ [x])
def rowsOf (os : List (Option (Nat × I3))) : List (List I3) := os.foldl addTo [[], [], []]
theorem rowsOf_snoc (os : List (Option (Nat × I3))) (o : Option (Nat × I3)) : rowsOf (os ++ [o]) = addTo (rowsOf os) o := by simp [rowsOf]

/-- What ReadProgram answers of at most 4096 lines: the rows and the code. -/
def IsRP (ts : List ByteArray) (rows : List (List I3)) (c : Int) : Prop :=
  (c = 0 ∧ ∃ os, AllSteps ts os ∧ rows = rowsOf os ∧ progOk rows = true) ∨
  (c = 1 ∧ rows = [] ∧ ∃ os, AllSteps ts os ∧ progOk (rowsOf os) = false) ∨
  (c = 3 ∧ rows = [] ∧ ∃ t ∈ ts, BadLine t)
theorem IsRP.same {ts : List ByteArray} {r r' : List (List I3)} {c c' : Int} (h : IsRP ts r c) (g : IsRP ts r' c') : r = r' ∧ c = c' := by
  rcases h with ⟨rfl, os, h1, rfl, h3⟩ | ⟨rfl, rfl, os, h1, h3⟩ | ⟨rfl, rfl, t, ht, hb⟩ <;> rcases g with ⟨rfl, os', g1, rfl, g3⟩ | ⟨rfl, rfl, os', g1, g3⟩ | ⟨rfl, rfl, t', ht', hb'⟩
  · rw [h1.only g1]; exact ⟨rfl, rfl⟩
  · rw [h1.only g1, g3] at h3; cases h3
  · exact absurd hb' (h1.good t' ht')
  · rw [h1.only g1, g3] at h3; cases h3
  · exact ⟨rfl, rfl⟩
  · exact absurd hb' (h1.good t' ht')
  · exact absurd hb (g1.good t ht)
  · exact absurd hb (g1.good t ht)
  · exact ⟨rfl, rfl⟩
theorem IsRP.ok {ts : List ByteArray} {r : List (List I3)} {c : Int} (h : IsRP ts r c) : r = [] ∨ progOk r = true := by
  rcases h with ⟨_, _, _, _, h⟩ | ⟨_, rfl, _⟩ | ⟨_, rfl, _⟩
  · exact .inr h
  · exact .inl rfl
  · exact .inl rfl
theorem isRP_exists (ts : List ByteArray) : ∃ rows c, IsRP ts rows c := by
  by_cases h : ∃ t ∈ ts, BadLine t
  · exact ⟨[], 3, .inr (.inr ⟨rfl, rfl, h⟩)⟩
  · have : ∃ os, AllSteps ts os := by
      induction ts with
      | nil => exact ⟨[], trivial⟩
      | cons t ts ih =>
        obtain ⟨os, hos⟩ := ih (fun ⟨s, hs, hb⟩ => h ⟨s, by simp [hs], hb⟩)
        by_cases hb : ∃ o, StepOf t o
        · obtain ⟨o, ho⟩ := hb
          exact ⟨o :: os, ho, hos⟩
        · exact absurd ⟨t, by simp, fun o ho => hb ⟨o, ho⟩⟩ h
    obtain ⟨os, hos⟩ := this
    cases hp : progOk (rowsOf os)
    · exact ⟨[], 1, .inr (.inl ⟨rfl, rfl, os, hos, hp⟩)⟩
    · exact ⟨rowsOf os, 0, .inl ⟨rfl, os, hos, rfl, hp⟩⟩

theorem getD_set_same {rows : List (List I3)} {k : Nat} (r : List I3) (h : k < rows.length) : (rows.set k r).getD k [] = r := by simp [List.getD, h]
theorem getD_set_other {rows : List (List I3)} {k j : Nat} (r : List I3) (h : j ≠ k) : (rows.set k r).getD j [] = rows.getD j [] := by simp [List.getD, List.getElem?_set_ne (Ne.symm h)]
theorem okI_fits {x : I3} (h : okI x = true) : I3.fits x := by
  obtain ⟨h0, h1, h2⟩ := okI_small h
  have wf : ∀ z : Int, 0 ≤ z ∧ z ≤ 9 → (Lit.int .i64 z).wf = true := fun z hz => by
    simp [Lit.wf, IntKind.min, IntKind.max, IntKind.signed, IntKind.bits]
    omega
  exact ⟨wf _ h0, wf _ h1, wf _ h2⟩
end Go.Proofs.YtmhngodbnoonhaaGreatDoor


/-
  Plain mathematics of a program's numbers read back: of each thread its length, and its instructions' three numbers.
-/
namespace Go.Proofs.YtmhngodbnoonhaaGreatDoor

/-- Three numbers an instruction. -/
def triples : List Int → List I3
  | a :: b :: c :: r => (a, b, c) :: triples r
  | _ => []

theorem triples_length : ∀ (n : Nat) (zs : List Int), zs.length = 3 * n → (triples zs).length = n
  | 0, [], _ => rfl
  | 0, _ :: _, h => by simp at h
  | n + 1, [], h => by simp at h
  | n + 1, [_], h => by simp at h; omega
  | n + 1, [_, _], h => by simp at h; omega
  | n + 1, a :: b :: c :: r, h => by
    have := triples_length n r (by simp at h; omega)
    simp [triples, this]
theorem triples_get : ∀ (n : Nat) (zs : List Int) (i : Nat), zs.length = 3 * n → i < n → (triples zs).getD i (0, 0, 0) = (zs.getD (3 * i) 0, zs.getD (3 * i + 1) 0, zs.getD (3 * i + 2) 0)
  | 0, _, i, _, h => by omega
  | n + 1, [], i, h, _ => by simp at h
  | n + 1, [_], i, h, _ => by simp at h; omega
  | n + 1, [_, _], i, h, _ => by simp at h; omega
  | n + 1, a :: b :: c :: r, 0, _, _ => by simp [triples]
  | n + 1, a :: b :: c :: r, i + 1, h, hi => by
    have ih := triples_get n r i (by simp at h; omega) (by omega)
    rw [triples, List.getD_cons_succ, ih]
    have e0 : 3 * (i + 1) = 3 * i + 1 + 1 + 1 := by omega
    rw [e0]
    simp [List.getD]

/-- The codes of k threads, and nothing behind them. -/
def parse : Nat → List Int → Option (List (List I3))
  | 0, [] => some []
  | 0, _ :: _ => none
  | _ + 1, [] => none
  | k + 1, n :: zs => if (zs.length : Int) < 3 * n then none else (parse k (zs.drop (3 * n.toNat))).map (triples (zs.take (3 * n.toNat)) :: ·)

theorem parse_none_nil (k : Nat) : parse (k + 1) [] = none := rfl
theorem parse_short {k : Nat} {n : Int} {zs : List Int} (h : (zs.length : Int) < 3 * n) : parse (k + 1) (n :: zs) = none := by simp [parse, h]
theorem parse_step {k : Nat} {n : Int} {zs : List Int} (h : ¬ (zs.length : Int) < 3 * n) : parse (k + 1) (n :: zs) = (parse k (zs.drop (3 * n.toNat))).map (triples (zs.take (3 * n.toNat)) :: ·) := by simp [parse, h]
theorem parse_rest {zs : List Int} (h : zs ≠ []) : parse 0 zs = none := by
  cases zs with
  | nil => exact absurd rfl h
  | cons z zs => rfl

/-- What was read so far, and what is left, make the whole. -/
def PState (zs : List Int) (k : Nat) (done : List (List I3)) (rest : List Int) : Prop := parse 3 zs = (parse (3 - k) rest).map (done ++ ·)

theorem PState.start (zs : List Int) : PState zs 0 [] zs := by
  unfold PState
  simp
theorem PState.fail {zs : List Int} {k : Nat} {done : List (List I3)} {rest : List Int} (h : PState zs k done rest) (hn : parse (3 - k) rest = none) : parse 3 zs = none := by
  rw [h, hn]; rfl
theorem PState.empty {zs : List Int} {k : Nat} {done : List (List I3)} (h : PState zs k done []) (hk : k < 3) : parse 3 zs = none := by
  refine h.fail ?_
  obtain ⟨j, hj⟩ : ∃ j, 3 - k = j + 1 := ⟨3 - k - 1, by omega⟩
  rw [hj]; rfl
theorem PState.short {zs : List Int} {k : Nat} {done : List (List I3)} {n : Int} {ys : List Int} (h : PState zs k done (n :: ys)) (hk : k < 3) (hs : (ys.length : Int) < 3 * n) : parse 3 zs = none := by
  refine h.fail ?_
  obtain ⟨j, hj⟩ : ∃ j, 3 - k = j + 1 := ⟨3 - k - 1, by omega⟩
  rw [hj]; exact parse_short hs
theorem PState.step {zs : List Int} {k : Nat} {done : List (List I3)} {n : Int} {ys : List Int} (h : PState zs k done (n :: ys)) (hk : k < 3) (hs : ¬ (ys.length : Int) < 3 * n) : PState zs (k + 1) (done ++ [triples (ys.take (3 * n.toNat))]) (ys.drop (3 * n.toNat)) := by
  unfold PState at h ⊢
  obtain ⟨j, hj⟩ : ∃ j, 3 - k = j + 1 := ⟨3 - k - 1, by omega⟩
  rw [h, hj, parse_step hs, show 3 - (k + 1) = j by omega, Option.map_map]
  congr 1
  funext r
  simp
theorem PState.done {zs : List Int} {done : List (List I3)} (h : PState zs 3 done []) : parse 3 zs = some done := by
  unfold PState at h
  rw [h]; simp [parse]
theorem PState.more {zs : List Int} {done : List (List I3)} {rest : List Int} (h : PState zs 3 done rest) (hr : rest ≠ []) : parse 3 zs = none := h.fail (parse_rest hr)
/-- A thread's code that is too long is in any program that comes of it. -/
theorem PState.long {zs : List Int} {k : Nat} {done : List (List I3)} {n : Nat} {ys : List Int} (h : PState zs k done ((n : Int) :: ys)) (hk : k < 3) : ∀ rows, parse 3 zs = some rows → ∃ r ∈ rows, r.length = n := by
  intro rows hr
  unfold PState at h
  obtain ⟨j, hj⟩ : ∃ j, 3 - k = j + 1 := ⟨3 - k - 1, by omega⟩
  rw [h, hj] at hr
  by_cases hs : (ys.length : Int) < 3 * (n : Int)
  · rw [parse_short hs] at hr; cases hr
  · rw [parse_step hs, Option.map_map] at hr
    cases hp : parse j (ys.drop (3 * ((n : Int)).toNat)) with
    | none => rw [hp] at hr; cases hr
    | some R =>
      rw [hp] at hr
      simp at hr
      refine ⟨triples (ys.take (3 * n)), by rw [← hr]; simp, triples_length n _ ?_⟩
      rw [List.length_take]
      omega
end Go.Proofs.YtmhngodbnoonhaaGreatDoor
