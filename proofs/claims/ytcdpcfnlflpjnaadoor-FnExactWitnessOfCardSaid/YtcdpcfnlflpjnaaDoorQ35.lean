/-
  Joined: RunS, CmtQ, NorI, ScI, LstM.
-/
import Derived.Test.YtcdpcfnlflpjnaaDoorProg
import Derived.Deep.RegionHeld3
import Derived.KernelRfl
import Derived.Tactics
import Derived.WalkKit
import Derived.WalkSpells
import Derived.WalkLawsBesides
import Derived.RegionTactic
import Derived.BigQuiet
import Derived.Deep.QuietTactic
import Derived.Deep.Slices
import Derived.Deep.Strs
import Derived.Deep.Fields
import Derived.ChangeSame
import Derived.Handy
import Derived.OwnWalk
import Derived.ChangeSlices
import Derived.Lib.SmallJoins
import Derived.Shelf.Abstract
import Derived.Laws.BytesArg
import Derived.Deep.RegionLaw
import Derived.Laws.OwnMore
import Derived.Laws.CopyOwn
import Derived.Laws.Tables
import Derived.BigRegion
import Derived.Maps.AppendAt
import Derived.Stop.Asserts
import Derived.Recover
import Derived.Laws.RangeString
import Derived.Laws.RangeAny
import Derived.Laws.Bits
import Derived.Lib.FieldsP
import Derived.Shelf.SlSortCmp.NoneTotal
import Derived.Shelf.Spec.SlicesGrow
import Derived.Laws.AppendOwnNone
import Derived.Lib.SliceRun
import Derived.Deep.MidRow
import Derived.IntWalk
import Derived.Test.YtcdpcfnlflpjnaaDoorQ01
import Derived.Test.YtcdpcfnlflpjnaaDoorQ02
import Derived.Test.YtcdpcfnlflpjnaaDoorQ03
import Derived.Test.YtcdpcfnlflpjnaaDoorQ06
import Derived.Test.YtcdpcfnlflpjnaaDoorQ09
import Derived.Test.YtcdpcfnlflpjnaaDoorQ10
import Derived.Test.YtcdpcfnlflpjnaaDoorQ11
import Derived.Test.YtcdpcfnlflpjnaaDoorQ25
import Derived.Test.YtcdpcfnlflpjnaaDoorQ26
import Derived.Test.YtcdpcfnlflpjnaaDoorQ27
import Derived.Test.YtcdpcfnlflpjnaaDoorQ30
import Derived.Test.YtcdpcfnlflpjnaaDoorQ31
import Derived.Test.YtcdpcfnlflpjnaaDoorQ33

/-
  The specification's l04Run.
-/
namespace Go.Proofs.YtcdpcfnlflpjnaaDoor
open Go.RowKit
set_option linter.unusedVariables false
set_option linter.unusedSimpArgs false

theorem foundM_ok {rows : List (List I3)} {m : V4} {k : Int} (hp : progOk rows = true) (hs : shapeOk m = true) (hz : haltM rows m k = 0) : (∀ x ∈ foundM rows m k, okB x = true) ∧ (foundM rows m k).length ≤ 2 := by
  have h1 := ownM_ok hp hs hz
  have h2 := ownM_len rows m k
  unfold foundM
  split
  · refine ⟨fun x hx => ?_, ?_⟩
    · rw [mem_putB] at hx
      rcases hx with hx | hx
      · exact h1 x hx
      · subst hx; rfl
    · have := putB_len (ownM rows m k) (14, 0, 0)
      omega
  · exact ⟨h1, by omega⟩
theorem ints_cellS {w : World} {a : Option Addr} {n c : Nat} {ks : List Int} (h : Ints .i64 w a n c ks) {i : Nat} (hi : i < n) : ∃ b off, a = some ⟨b, off, none⟩ ∧ w.cell? ⟨b, off + i, none⟩ = some (.int .i64 (ks.getD i 0)) ∧ b < w.heap.size := by
  obtain ⟨h1, h2, h3, h4⟩ := h
  rcases h4 with h4 | ⟨b, off, ha, hl, hc⟩
  · omega
  · exact ⟨b, off, ha, hc i hi, hl⟩

end Go.Proofs.YtcdpcfnlflpjnaaDoor


/-
  Neighbours of a schedule that do not depend on one another change places: the same state, the same events.
-/
namespace Go.Proofs.YtcdpcfnlflpjnaaDoor
open Go.RowKit
set_option linter.unusedVariables false
set_option linter.unusedSimpArgs false

theorem halt_go {rows : List (List I3)} {m : V4} {k : Nat} (hk : k < 3) (hc : canM rows m k = true) : haltM rows m (k : Int) = 0 := by
  have hd := (can_parts hc).1
  unfold haltM
  rw [if_pos (by omega), Int.toNat_natCast]
  simp [hd, hc]
end Go.Proofs.YtcdpcfnlflpjnaaDoor


/-
  The program's NormalOf.
-/
namespace Go.Proofs.YtcdpcfnlflpjnaaDoor
open Go.RowKit
set_option linter.unusedVariables false
set_option linter.unusedSimpArgs false

def LGot (e : Ending) (w : World) (B : Nat) (ks : List Int) (c : Int) : Prop := ∃ v, e = .returned (.tuple #[v, .int .i64 c]) ∧ w.ownsRow B 3 1 v ks.length (ks.map (Value.int .i64))
end Go.Proofs.YtcdpcfnlflpjnaaDoor


/-
  Slices of numbers that are equal; the specification's NormalOf; the program's SameClass.
-/
namespace Go.Proofs.YtcdpcfnlflpjnaaDoor
open Go.RowKit
set_option linter.unusedVariables false
set_option linter.unusedSimpArgs false

theorem ints_of_row {w : World} {B n c : Nat} {a : Option Addr} {xs : List Int} (h : w.ownsRow B 3 1 (.slice a n c) n (xs.map (Value.int .i64))) : Ints .i64 w a n c xs := by
  have hl := h.1
  rw [List.length_map, Nat.mul_one] at hl
  rcases h.2 with ⟨h1, h2⟩ | ⟨g, cap, cur, h1, _, _, h3, h4, _⟩
  · cases h1
    exact ⟨hl, Nat.le_refl _, Nat.zero_le _, .inl rfl⟩
  · cases h1
    exact Ints.of_owns h
end Go.Proofs.YtcdpcfnlflpjnaaDoor


/-
  Rows of numbers that were made: the laws' eqIntS, markIntS, heldIntS at them.
-/
namespace Go.Proofs.YtcdpcfnlflpjnaaDoor
open Go.RowKit
set_option linter.unusedVariables false

theorem lst_slice {w : World} {B : Nat} {v : Value} {xs : List Int} (h : w.ownsRow B 3 1 v xs.length (xs.map (Value.int .i64))) : ∃ a cap, v = .slice a xs.length cap ∧ Ints .i64 w a xs.length cap xs := by
  obtain ⟨a, cap, rfl⟩ := owns_sliceN h
  exact ⟨a, cap, rfl, ints_of_row h⟩
theorem lst_of {w : World} {B cap : Nat} {a : Option Addr} {xs : List Int} (h : w.ownsRow B 3 1 (.slice a xs.length cap) xs.length (xs.map (Value.int .i64))) : Ints .i64 w a xs.length cap xs := ints_of_row h
theorem eqL_same (a a' : Option Addr) (len cap cap' : Nat) (xs : List Int) (w : World) (h : Ints .i64 w a len cap xs) (h' : Ints .i64 w a' len cap' xs) :
    Calls Tryd.prog 19 #[.slice a len cap, .slice a' len cap'] w fun e w' => e = .returned (.bool true) ∧ Below w.heap.size w w' := by
  refine (eqIntS_same a a' len cap cap' xs w h h').mono ?_
  rintro e w' ⟨rfl, d, rfl⟩
  exact ⟨rfl, below_dN d⟩
theorem markL_any (base : Nat) (v : Value) (k : Int) (xs : List Int) (w : World) (hk0 : 0 ≤ k) (hk : k ≤ 1000000000) (hn : xs.length ≤ 1048576) (ho : w.ownsRow base 3 1 v xs.length (xs.map (Value.int .i64))) :
    Calls Tryd.prog 20 #[v, .int .i64 k] w fun e w' => e = .returned (.int .i64 (k + xs.length)) ∧
      w'.ownsRow base 3 1 v xs.length ((mkTo k xs xs.length).map (Value.int .i64)) ∧ w.grownBy w' v.ownBlock := by
  rcases ho.2 with ⟨rfl, h0⟩ | ⟨g, cap, cur, rfl, _⟩
  · have hx : xs = [] := List.eq_nil_of_length_eq_zero h0
    subst hx
    refine (markIntS_none none 0 k w).mono ?_
    rintro e w' ⟨rfl, rfl⟩
    exact ⟨by simp, ho, World.grownBy.refl _ _⟩
  · refine (markIntS_grown0 base g xs.length cap k xs w hk0 hk hn ho).mono ?_
    rintro e w' ⟨rfl, h1, h2⟩
    exact ⟨rfl, h1, h2⟩
theorem heldL_any (base : Nat) (v : Value) (k : Int) (xs : List Int) (w : World) (hk0 : 0 ≤ k) (hk : k ≤ 1000000000) (hn : xs.length ≤ 1048576) (ho : w.ownsRow base 3 1 v xs.length ((mkTo k xs xs.length).map (Value.int .i64))) :
    Calls Tryd.prog 21 #[v, .int .i64 k] w fun e w' => e = .returned (.int .i64 (k + xs.length)) ∧ w = w' := by
  obtain ⟨a, cap, rfl⟩ := owns_sliceN ho
  exact heldIntS_yes a xs.length cap k (mkTo k xs xs.length) w hk0 hk hn (ints_of_row ho) (fun i hi => mkTo_get k xs xs.length i hi (Nat.le_refl _))
end Go.Proofs.YtcdpcfnlflpjnaaDoor

