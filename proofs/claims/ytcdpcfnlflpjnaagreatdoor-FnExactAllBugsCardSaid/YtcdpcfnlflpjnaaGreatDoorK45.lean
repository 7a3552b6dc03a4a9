/-
  Joined: AstI.
-/
import Derived.Test.YtcdpcfnlflpjnaaGreatDoorProg
import Derived.Deep.RegionHeld3
import Derived.KernelRfl
import Derived.Tactics
import Derived.WalkKit
import Derived.WalkSpells
import Derived.WalkLawsBesides
import Derived.RegionTactic
import Derived.BigQuiet
import Derived.Deep.QuietTactic
import Derived.Deep.Slices
import Derived.Deep.Strs
import Derived.Deep.Fields
import Derived.ChangeSame
import Derived.Handy
import Derived.OwnWalk
import Derived.ChangeSlices
import Derived.Lib.SmallJoins
import Derived.Shelf.Abstract
import Derived.Laws.BytesArg
import Derived.Deep.RegionLaw
import Derived.Laws.OwnMore
import Derived.Laws.CopyOwn
import Derived.Laws.Tables
import Derived.BigRegion
import Derived.Maps.AppendAt
import Derived.Stop.Asserts
import Derived.Recover
import Derived.Laws.RangeString
import Derived.Laws.RangeAny
import Derived.Laws.Bits
import Derived.Lib.FieldsP
import Derived.Shelf.SlSortCmp.NoneTotal
import Derived.Shelf.Spec.SlicesGrow
import Derived.Laws.AppendOwnNone
import Derived.Lib.SliceRun
import Derived.Deep.MidRow
import Derived.Maps.OwnSet
import Derived.Carry
import Derived.Deep.CutRange
import Derived.Test.YtcdpcfnlflpjnaaGreatDoorK01
import Derived.Test.YtcdpcfnlflpjnaaGreatDoorK02
import Derived.Test.YtcdpcfnlflpjnaaGreatDoorK05
import Derived.Test.YtcdpcfnlflpjnaaGreatDoorK08
import Derived.Test.YtcdpcfnlflpjnaaGreatDoorK11
import Derived.Test.YtcdpcfnlflpjnaaGreatDoorK12
import Derived.Test.YtcdpcfnlflpjnaaGreatDoorK15
import Derived.Test.YtcdpcfnlflpjnaaGreatDoorK31
import Derived.Test.YtcdpcfnlflpjnaaGreatDoorK32
import Derived.Test.YtcdpcfnlflpjnaaGreatDoorK37
import Derived.Test.YtcdpcfnlflpjnaaGreatDoorK38
import Derived.Test.YtcdpcfnlflpjnaaGreatDoorK39
import Derived.Test.YtcdpcfnlflpjnaaGreatDoorK40
import Derived.Test.YtcdpcfnlflpjnaaGreatDoorK41

/-
  The program's AllStates and IsReached.
-/
namespace Go.Proofs.YtcdpcfnlflpjnaaGreatDoor
open Go.RowKit
set_option linter.unusedVariables false
set_option linter.unusedSimpArgs false
def CutF (w W : World) (c : Int) (s4 s5 : Value) : Prop := ∃ X, s4 = .pointer (some ⟨X, 0, none⟩) ∧ s5 = .int .i64 c ∧ Below w.heap.size w W
def CutK (w W : World) (cs : Sl × Sl × Sl) (rows : List (List I3)) (F : List (Rec6 V4)) (s4 s5 : Value) : Prop :=
  ∃ X va vc nb L, s4 = .pointer (some ⟨X, 0, none⟩) ∧ s5 = .int .i64 0 ∧ Blk W X 75 [.slice va L.length vc, .map (some nb)] ∧ SpcD W w.heap.size nb (.slice va L.length vc) cs (mvsOf rows F) L L.length ∧ L.map (·.1) = F ∧ w.heap.size ≤ X ∧ Below w.heap.size w W
theorem SpcD.lower {w : World} {B B' nb d : Nat} {vs : Value} {cs : Sl × Sl × Sl} {M : V4 → List I4} {L : List (Rec6 V4 × Value)} (h : SpcD w B nb vs cs M L d) (hB : B' ≤ B) : SpcD w B' nb vs cs M L d :=
  ⟨own_lower h.row hB, h.map, fun i r mv h1 h2 => own_lower (h.mvs i r mv h1 h2) hB, h.nil, Nat.le_trans hB h.low⟩
theorem CutK.mk9 {w W : World} {cs : Sl × Sl × Sl} {rows : List (List I3)} {F : List (Rec6 V4)} {s4 s5 va vs : Value} {X nb B : Nat} {L : List (Rec6 V4 × Value)} (h4 : s4 = .pointer (some ⟨X, 0, none⟩)) (h5 : s5 = .int .i64 0) (hX : Blk W X 75 [vs, .map (some nb)]) (sp : SpcD W B nb vs cs (mvsOf rows F) L L.length) (hL : L.map (·.1) = F) (hBX : w.heap.size ≤ X) (hB : w.heap.size ≤ B) (b : Below w.heap.size w W) : CutK w W cs rows F s4 s5 := by
  obtain ⟨va, vn, vc, rfl⟩ := own_slice6 sp.row
  obtain rfl : vn = L.length := by
    rcases sp.row.2 with ⟨h1, h2⟩ | ⟨gq, cq, cur, h1, _⟩
    · cases h1; exact h2.symm
    · cases h1; rfl
  exact ⟨X, va, vc, nb, L, h4, h5, hX, sp.lower hB, hL, hBX, b⟩

def codeF (rows : List (List I3)) : Int := if progOk rows then (if (fullS rows).length ≤ 2000 then 0 else 15) else 1
theorem spaceOf_not (a : Option Addr) (len cap : Nat) (rows : List (List I3)) (s : S4) (w : World) (hC : Codes w a len cap rows) (h : Vmem w s zeroV) (hV : VmShape w) (hc : codeF rows ≠ 0) :
    Calls Tryz.prog 37 #[.agg #[.slice a len cap], s.val] w fun e w' => e = .returned (.tuple #[.agg #[.slice none 0 0, .map none], .int .i64 (codeF rows)]) ∧ Below w.heap.size w w' := by
  unfold codeF at hc ⊢
  cases hp : progOk rows
  · exact spaceOf_bad a len cap rows s zeroV w hC h hV (by rw [hp]; rfl)
  · rw [hp] at hc
    by_cases hf : (fullS rows).length ≤ 2000
    · rw [if_pos rfl, if_pos hf] at hc
      exact absurd rfl hc
    · rw [if_pos rfl, if_neg hf]
      refine (spaceOf_is a len cap rows s w hC h hV hp).mono fun e w' h => ?_
      rw [if_neg hf] at h
      exact h
theorem spaceOf_yes (a : Option Addr) (len cap : Nat) (rows : List (List I3)) (s : S4) (w : World) (hC : Codes w a len cap rows) (h : Vmem w s zeroV) (hV : VmShape w) (hp : progOk rows = true) (hf : (fullS rows).length ≤ 2000) :
    Calls Tryz.prog 37 #[.agg #[.slice a len cap], s.val] w fun e w' => SpcGot e w w' a rows (fullS rows) := by
  refine (spaceOf_is a len cap rows s w hC h hV hp).mono fun e w' h => ?_
  rw [if_pos hf] at h
  exact h
theorem code_parts {rows : List (List I3)} (h : codeF rows = 0) : progOk rows = true ∧ (fullS rows).length ≤ 2000 := by
  unfold codeF at h
  cases hp : progOk rows
  · rw [hp] at h; simp at h
  · rw [hp] at h
    by_cases hf : (fullS rows).length ≤ 2000
    · exact ⟨rfl, hf⟩
    · rw [if_pos rfl, if_neg hf] at h
      simp at h
theorem rcC_one (cs : Sl × Sl × Sl) (r : Rec6 V4) {mv : Value} (h : mv.oneCell' = true) : (rcC cs r mv).all (·.oneCell') = true := by
  unfold rcC
  rw [List.all_cons, List.all_append, mach_one]
  simp only [List.all_cons, List.all_nil, h, Bool.and_true, Bool.and_self]
  rfl
theorem SpcD.mvone {w : World} {B nb : Nat} {vs : Value} {cs : Sl × Sl × Sl} {M : V4 → List I4} {L : List (Rec6 V4 × Value)} (h : SpcD w B nb vs cs M L L.length) {j : Nat} {r : Rec6 V4} {mv : Value} (hr : L[j]? = some (r, mv)) : mv.oneCell' = true := by
  obtain ⟨a, k, c, rfl⟩ := own_slice6 (h.mvs j r mv (List.getElem?_eq_some_iff.1 hr).1 hr)
  rfl
end Go.Proofs.YtcdpcfnlflpjnaaGreatDoor

