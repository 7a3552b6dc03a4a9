
/-
  An instruction read from its words: which words are one, and which.
-/
import Derived.Test.YtkmnnmgopnoffaaDoorTextI
import Derived.Test.YtkmnnmgopnoffaaDoorNumP
namespace Go.Proofs.YtkmnnmgopnoffaaDoor
open Go.RowKit

/-- The number of a word; 0 of any other word. -/
def opK (t : ByteArray) : Nat := if t = opB 1 then 1 else if t = opB 2 then 2 else if t = opB 3 then 3 else if t = opB 4 then 4 else if t = opB 5 then 5 else if t = opB 6 then 6 else if t = opB 7 then 7 else if t = opB 8 then 8 else 0

theorem opK_opB (k : Nat) (hk : k < 9) : opK (opB k) = k := by
  match k, hk with
  | 0, _ => decide
  | 1, _ => decide
  | 2, _ => decide
  | 3, _ => decide
  | 4, _ => decide
  | 5, _ => decide
  | 6, _ => decide
  | 7, _ => decide
  | 8, _ => decide
theorem opK_cases (t : ByteArray) : opK t = 0 ∨ (opK t < 9 ∧ t = opB (opK t)) := by
  unfold opK
  split
  · rename_i h; exact .inr ⟨by omega, h⟩
  split
  · rename_i h; exact .inr ⟨by omega, h⟩
  split
  · rename_i h; exact .inr ⟨by omega, h⟩
  split
  · rename_i h; exact .inr ⟨by omega, h⟩
  split
  · rename_i h; exact .inr ⟨by omega, h⟩
  split
  · rename_i h; exact .inr ⟨by omega, h⟩
  split
  · rename_i h; exact .inr ⟨by omega, h⟩
  split
  · rename_i h; exact .inr ⟨by omega, h⟩
  · exact .inl rfl
theorem opK_lt (t : ByteArray) : opK t < 9 := by
  rcases opK_cases t with h | h
  · omega
  · exact h.1
theorem opK_eq {t : ByteArray} {k : Nat} (h0 : k ≠ 0) (hk : k < 9) : opB k = t ↔ opK t = k := by
  constructor
  · rintro rfl
    exact opK_opB k hk
  · intro h
    rcases opK_cases t with h' | h'
    · omega
    · rw [h] at h'; exact h'.2.symm
theorem opK_none {t : ByteArray} (h : ∀ j, j < 9 → opB j ≠ t) : opK t = 0 := by
  rcases opK_cases t with h' | h'
  · exact h'
  · exact absurd h'.2.symm (h _ h'.1)

/-- The words are the instruction x. -/
def IsRead (ws : List ByteArray) (x : I3) : Prop :=
  (∃ t0 t1 a, ws = [t0, t1] ∧ (opK t0 = 5 ∨ opK t0 = 6) ∧ IsDec t1 a ∧ x = ((opK t0 : Int), (a : Int), 0) ∧ okI x = true) ∨
  (∃ t0 t1 t2 a b, ws = [t0, t1, t2] ∧ ¬ (opK t0 = 5 ∨ opK t0 = 6) ∧ opK t0 ≠ 0 ∧ IsDec t1 a ∧ IsDec t2 b ∧ x = ((opK t0 : Int), (a : Int), (b : Int)) ∧ okI x = true)
def NoRead (ws : List ByteArray) : Prop := ∀ x, ¬ IsRead ws x
theorem IsRead.only {ws : List ByteArray} {x y : I3} (h : IsRead ws x) (g : IsRead ws y) : x = y := by
  rcases h with ⟨t0, t1, a, rfl, _, ha, rfl, _⟩ | ⟨t0, t1, t2, a, b, rfl, _, _, ha, hb, rfl, _⟩ <;> rcases g with ⟨s0, s1, c, e, _, hc, rfl, _⟩ | ⟨s0, s1, s2, c, d, e, _, _, hc, hd, rfl, _⟩
  · cases e
    rw [ha.only hc]
  · cases e
  · cases e
  · cases e
    rw [ha.only hc, hb.only hd]
theorem IsRead.ok {ws : List ByteArray} {x : I3} (h : IsRead ws x) : okI x = true := by
  rcases h with ⟨_, _, _, _, _, _, _, h⟩ | ⟨_, _, _, _, _, _, _, _, _, _, _, h⟩ <;> exact h
theorem noRead_nil : NoRead [] := by
  rintro x (⟨_, _, _, h, _⟩ | ⟨_, _, _, _, _, h, _⟩) <;> cases h
theorem noRead_op {ws : List ByteArray} {t0 : ByteArray} (h : ws[0]? = some t0) (hk : opK t0 = 0) : NoRead ws := by
  rintro x (⟨s0, s1, a, rfl, h5, _⟩ | ⟨s0, s1, s2, a, b, rfl, _, h0, _⟩)
  · simp at h; subst h; omega
  · simp at h; subst h; omega
theorem noRead_len2 {ws : List ByteArray} {t0 : ByteArray} (h : ws[0]? = some t0) (hk : opK t0 = 5 ∨ opK t0 = 6) (hl : ws.length ≠ 2) : NoRead ws := by
  rintro x (⟨s0, s1, a, rfl, h5, _⟩ | ⟨s0, s1, s2, a, b, rfl, hn, h0, _⟩)
  · simp at hl
  · simp at h; subst h; exact hn hk
theorem noRead_len3 {ws : List ByteArray} {t0 : ByteArray} (h : ws[0]? = some t0) (hk : ¬ (opK t0 = 5 ∨ opK t0 = 6)) (hl : ws.length ≠ 3) : NoRead ws := by
  rintro x (⟨s0, s1, a, rfl, h5, _⟩ | ⟨s0, s1, s2, a, b, rfl, hn, h0, _⟩)
  · simp at h; subst h; exact hk h5
  · simp at hl
theorem noRead_two_bad {t0 t1 : ByteArray} (h : NoDec t1) : NoRead [t0, t1] := by
  rintro x (⟨s0, s1, a, e, h5, ha, _⟩ | ⟨s0, s1, s2, a, b, e, hn, h0, _⟩)
  · cases e; exact h _ ha
  · cases e
theorem noRead_two_no {t0 t1 : ByteArray} {a : Nat} (ha : IsDec t1 a) (h : okI ((opK t0 : Int), (a : Int), 0) = false) : NoRead [t0, t1] := by
  rintro x (⟨s0, s1, c, e, h5, hc, rfl, hok⟩ | ⟨s0, s1, s2, c, b, e, hn, h0, _⟩)
  · cases e
    rw [hc.only ha, h] at hok
    cases hok
  · cases e
theorem noRead_three_bad {t0 t1 t2 : ByteArray} (h : NoDec t1 ∨ NoDec t2) : NoRead [t0, t1, t2] := by
  rintro x (⟨s0, s1, a, e, h5, ha, _⟩ | ⟨s0, s1, s2, a, b, e, hn, h0, ha, hb, _⟩)
  · cases e
  · cases e
    rcases h with h | h
    · exact h _ ha
    · exact h _ hb
theorem noRead_three_no {t0 t1 t2 : ByteArray} {a b : Nat} (ha : IsDec t1 a) (hb : IsDec t2 b) (h : okI ((opK t0 : Int), (a : Int), (b : Int)) = false) : NoRead [t0, t1, t2] := by
  rintro x (⟨s0, s1, c, e, h5, hc, rfl, hok⟩ | ⟨s0, s1, s2, c, d, e, hn, h0, hc, hd, rfl, hok⟩)
  · cases e
  · cases e
    rw [hc.only ha, hd.only hb, h] at hok
    cases hok

/-- What a reading of an instruction answers. -/
def ReadOut (ws : List ByteArray) (e : Ending) : Prop :=
  (∃ x, IsRead ws x ∧ e = .returned (.tuple #[x.val, .bool true])) ∨ (NoRead ws ∧ ∃ y : I3, e = .returned (.tuple #[y.val, .bool false]))

theorem beq_tx (x y : ByteArray) (h : x ≠ y) : (x.toList == y.toList) = false := by
  rw [beq_eq_false_iff_ne]
  intro e
  rw [ByteArray.toList_eq, ByteArray.toList_eq] at e
  apply h
  cases x; cases y
  simp at e
  rw [e]
end Go.Proofs.YtkmnnmgopnoffaaDoor
