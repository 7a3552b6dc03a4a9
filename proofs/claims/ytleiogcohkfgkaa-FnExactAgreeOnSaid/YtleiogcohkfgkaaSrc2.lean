
/-
  The specification's source of choices, more of it: next hands a number below n; a source over a code; how what it hands is kept apart from all else.
-/
import Derived.Test.YtleiogcohkfgkaaSrc
namespace Go.Proofs.Ytleiogcohkfgkaa
open Go.RowKit

/-- All that was there but the source's own struct is as it was. -/
abbrev Went (p : Nat) (w w' : World) : Prop := w.grownBy w' (some p)
theorem Stepped.went {p : Nat} {w w' : World} (h : Stepped p w w') : Went p w w' :=
  ⟨h.1.os, h.1.tape, h.1.output, Nat.le_of_eq h.2.1.symm, fun k _ hk => h.2.2 k (fun e => hk (by rw [e]))⟩
theorem Went.trans {p : Nat} {a b c : World} (h : Went p a b) (k : Went p b c) : Went p a c :=
  ⟨k.os.trans h.os, k.tape.trans h.tape, k.output.trans h.output, Nat.le_trans h.size k.size, fun i hi hne => (k.block i (Nat.lt_of_lt_of_le hi h.size) hne).trans (h.block i hi hne)⟩
theorem Went.below {p : Nat} {w w' : World} (h : Went p w w') (hp : p ≤ w.heap.size) : Below p w w' :=
  (Below.refl _ _).grown h hp (fun k e => by cases e; exact Nat.le_refl _)
theorem Went.alloc {p : Nat} {w w' : World} (h : Went p w w') (o : Obj) : Went p w (w'.alloc o) := h.trans (World.grownBy_alloc w' o _)
theorem Went.refl (p : Nat) (w : World) : Went p w w := World.grownBy.refl _ _
/-- A law's step on a row that did not lie there. -/
theorem Went.grown {p : Nat} {w w' w'' : World} {row : Option Nat} (h : Went p w w') (g : w'.grownBy w'' row) (hr : ∀ k, row = some k → w.heap.size ≤ k) : Went p w w'' :=
  ⟨g.os.trans h.os, g.tape.trans h.tape, g.output.trans h.output, Nat.le_trans h.size g.size, fun i hi hne => (g.block i (Nat.lt_of_lt_of_le hi h.size) (fun e => by have := hr i e.symm; omega)).trans (h.block i hi hne)⟩
theorem Code.below {p n cap : Nat} {a : Option Addr} {w w' : World} (h : Code w p a n cap) (hb : Below p w w') : Code w' p a n cap := by
  obtain ⟨zs, ⟨h1, h2, h3, h4⟩, h5, h6, h7⟩ := h
  refine ⟨zs, ⟨h1, h2, h3, ?_⟩, h5, h6, h7⟩
  rcases h4 with h4 | ⟨b, off, ha, hlt, hc⟩
  · exact .inl h4
  · rcases Nat.eq_zero_or_pos n with h0 | h0
    · exact .inl h0
    · have hbB := h7 _ ha (by omega)
      exact .inr ⟨b, off, ha, by have := hb.size; omega, fun t ht => by rw [hb.cell (p := ⟨b, off + t, none⟩) hbB]; exact hc t ht⟩
theorem Code.went {p n cap : Nat} {a : Option Addr} {w w' : World} (h : Code w p a n cap) (hw : Went p w w') (hp : p ≤ w.heap.size) : Code w' p a n cap := h.below (hw.below hp)

/-- The code that came in lies below the source. -/
theorem code_of {a : Option Addr} {n cap : Nat} {zs : List Int} {w : World} (h : IsRow .u8 w a n cap zs) (hn : n ≤ 1048576) : Code w w.heap.size a n cap := by
  refine ⟨zs.take n, Ints.of_isRow h, ?_, hn, ?_⟩
  · intro z hz
    have hz' := List.mem_of_mem_take hz
    rcases h with ⟨_, _, _, rfl⟩ | ⟨x, _, _, _, _, _, hw⟩
    · simp at hz'
    · have := hw z hz'
      simp [Lit.wf, IntKind.min, IntKind.max, IntKind.signed, IntKind.bits] at this
      omega
  · intro x hx hn0
    obtain ⟨_, _, _, h4⟩ := Ints.of_isRow h
    rcases h4 with h4 | ⟨b, off, ha, hlt, _⟩
    · exact absurd h4 hn0
    · rw [ha] at hx
      cases hx
      exact hlt
end Go.Proofs.Ytleiogcohkfgkaa
