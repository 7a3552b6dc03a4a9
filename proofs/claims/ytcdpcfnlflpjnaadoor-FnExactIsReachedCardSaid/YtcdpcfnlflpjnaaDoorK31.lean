/-
  Joined: Src, Src2, TextS.
-/
import Derived.Test.YtcdpcfnlflpjnaaDoorProg
import Derived.Deep.RegionHeld3
import Derived.KernelRfl
import Derived.Tactics
import Derived.WalkKit
import Derived.WalkSpells
import Derived.WalkLawsBesides
import Derived.RegionTactic
import Derived.BigQuiet
import Derived.Deep.QuietTactic
import Derived.BigRegion
import Derived.Deep.Slices
import Derived.Deep.Strs
import Derived.Deep.Fields
import Derived.ChangeSame
import Derived.Handy
import Derived.Shelf.Abstract
import Derived.Laws.BytesArg
import Derived.Laws.OwnMore
import Derived.Test.YtcdpcfnlflpjnaaDoorK01

/-
  The specification's source of choices: byte hands a number from 0 to 255 and goes one place on; nothing but the source's own struct turns.
-/
namespace Go.Proofs.YtcdpcfnlflpjnaaDoor
open Go.RowKit

def Code (w : World) (p : Nat) (a : Option Addr) (n cap : Nat) : Prop := ∃ zs : List Int, Ints .u8 w a n cap zs ∧ (∀ z ∈ zs, 0 ≤ z ∧ z ≤ 255) ∧ n ≤ 1048576 ∧ ∀ x, a = some x → n ≠ 0 → x.block < p

end Go.Proofs.YtcdpcfnlflpjnaaDoor


/-
  The specification's source of choices, more of it: next hands a number below n; a source over a code; how what it hands is kept apart from all else.
-/
namespace Go.Proofs.YtcdpcfnlflpjnaaDoor
open Go.RowKit

abbrev Went (p : Nat) (w w' : World) : Prop := w.grownBy w' (some p)
theorem Went.trans {p : Nat} {a b c : World} (h : Went p a b) (k : Went p b c) : Went p a c :=
  ⟨k.os.trans h.os, k.tape.trans h.tape, k.output.trans h.output, Nat.le_trans h.size k.size, fun i hi hne => (k.block i (Nat.lt_of_lt_of_le hi h.size) hne).trans (h.block i hi hne)⟩
theorem Went.below {p : Nat} {w w' : World} (h : Went p w w') (hp : p ≤ w.heap.size) : Below p w w' :=
  (Below.refl _ _).grown h hp (fun k e => by cases e; exact Nat.le_refl _)
theorem Went.alloc {p : Nat} {w w' : World} (h : Went p w w') (o : Obj) : Went p w (w'.alloc o) := h.trans (World.grownBy_alloc w' o _)
theorem Went.refl (p : Nat) (w : World) : Went p w w := World.grownBy.refl _ _
theorem Went.grown {p : Nat} {w w' w'' : World} {row : Option Nat} (h : Went p w w') (g : w'.grownBy w'' row) (hr : ∀ k, row = some k → w.heap.size ≤ k) : Went p w w'' :=
  ⟨g.os.trans h.os, g.tape.trans h.tape, g.output.trans h.output, Nat.le_trans h.size g.size, fun i hi hne => (g.block i (Nat.lt_of_lt_of_le hi h.size) (fun e => by have := hr i e.symm; omega)).trans (h.block i hi hne)⟩
theorem Code.below {p n cap : Nat} {a : Option Addr} {w w' : World} (h : Code w p a n cap) (hb : Below p w w') : Code w' p a n cap := by
  obtain ⟨zs, ⟨h1, h2, h3, h4⟩, h5, h6, h7⟩ := h
  refine ⟨zs, ⟨h1, h2, h3, ?_⟩, h5, h6, h7⟩
  rcases h4 with h4 | ⟨b, off, ha, hlt, hc⟩
  · exact .inl h4
  · rcases Nat.eq_zero_or_pos n with h0 | h0
    · exact .inl h0
    · have hbB := h7 _ ha (by omega)
      exact .inr ⟨b, off, ha, by have := hb.size; omega, fun t ht => by rw [hb.cell (p := ⟨b, off + t, none⟩) hbB]; exact hc t ht⟩
end Go.Proofs.YtcdpcfnlflpjnaaDoor


/-
  spec.l02Text: an instruction's text.
-/
namespace Go.Proofs.YtcdpcfnlflpjnaaDoor
open Go.RowKit

def opWL : List (List UInt8) := [[], [108, 111, 97, 100], [115, 116, 111, 114, 101], [115, 101, 116], [97, 100, 100], [108, 111, 99, 107], [117, 110, 108, 111, 99, 107], [106, 117, 109, 112], [97, 115, 115, 101, 114, 116]]
def opB (k : Nat) : ByteArray := ⟨(opWL.getD k []).toArray⟩

end Go.Proofs.YtcdpcfnlflpjnaaDoor

