/-
  Joined: Tk, InOK.
-/
import Derived.Test.YthmgampabhbpoaaDoorProg
import Derived.Deep.RegionHeld3
import Derived.KernelRfl
import Derived.Tactics
import Derived.WalkKit
import Derived.WalkSpells
import Derived.WalkLawsBesides

namespace Go.Proofs.YthmgampabhbpoaaDoor
set_option maxRecDepth 100000
set_option maxHeartbeats 16000000
set_option linter.unusedVariables false

theorem tkx {P : Program} {ops : Array Oper} {Q : Exit → Act → World → Prop} {md : Region.Mode} {S : World → Prop} {fuel : Nat} {listed : Array Bool} {a : Act} {w : World} {o1 : Op} {o2 : TypeId} {o3 : String} {o4 : Array Edge} {o5 : Option (Nat × Bool)}
    (i d : Nat) (v : Value) (hy : ∀ w', S w' → (execOp a.eval { dst := some d, op := o1, type := o2, pos := o3, after := o4, guard := o5 }).run P w' = .ok (.value v) w')
    (h : wpAnyH P md ops Q S fuel (listed.setIfInBounds i true) (a.put (some d) v) w)
    (hi : ops[i]? = some { dst := some d, op := o1, type := o2, pos := o3, after := o4, guard := o5 } := by exact rfl)
    (hs : Region.noSelect ops = true := by kernel_rfl) (hf : Region.free md ops listed i = true := by kernel_rfl) (hr : (Region.ready md ops listed).contains i = true := by kernel_rfl)
    (hQ : ∀ c a w, Q (.panic c) (a.put (some d) v) w → Q (.panic c) a w := by exact (fun _ _ _ h => h))
    (hw : Region.wanted { dst := some d, op := o1, type := o2, pos := o3, after := o4, guard := o5 } (yielded ops a.tmps) = true := by rfl)
    (hS : S w := by assumption) : wpAnyH P md ops Q S (fuel + 1) listed a w :=
  wpAnyH_take hi hs hf hr hQ (Or.inl ⟨hw, hy⟩) hS h
theorem tkm {P : Program} {ops : Array Oper} {Q : Exit → Act → World → Prop} {md : Region.Mode} {S : World → Prop} {fuel : Nat} {listed : Array Bool} {a : Act} {w : World} {b : Act} {o1 : Op} {o2 : TypeId} {o3 : String} {o4 : Array Edge} {o5 : Option (Nat × Bool)}
    (i d : Nat) (v : Value) (h : wpAnyH P md ops Q S fuel (listed.setIfInBounds i true) b w)
    (hi : ops[i]? = some { dst := some d, op := o1, type := o2, pos := o3, after := o4, guard := o5 } := by exact rfl)
    (hs : Region.noSelect ops = true := by kernel_rfl) (hf : Region.free md ops listed i = true := by kernel_rfl) (hr : (Region.ready md ops listed).contains i = true := by kernel_rfl)
    (hQ : ∀ c a w, Q (.panic c) (a.put (some d) v) w → Q (.panic c) a w := by exact (fun _ _ _ h => h))
    (hw : Region.wanted { dst := some d, op := o1, type := o2, pos := o3, after := o4, guard := o5 } (yielded ops a.tmps) = true := by rfl)
    (hS : S w := by assumption)
    (hb : a.put (some d) v = b := by (simp only [Act.put, List.setIfInBounds_toArray, List.set_cons_zero, List.set_cons_succ]; exact rfl))
    (hy : ∀ w', S w' → (execOp a.eval { dst := some d, op := o1, type := o2, pos := o3, after := o4, guard := o5 }).run P w' = .ok (.value v) w' := by (intro w' hSw; (try dsimp only at hSw); go_simp; try rfl)) : wpAnyH P md ops Q S (fuel + 1) listed a w :=
  wpAnyH_take hi hs hf hr hQ (Or.inl ⟨hw, hy⟩) hS (hb ▸ h)
theorem tku {P : Program} {ops : Array Oper} {Q : Exit → Act → World → Prop} {md : Region.Mode} {S : World → Prop} {fuel : Nat} {listed : Array Bool} {a : Act} {w : World} {b : Act} {o1 : Op} {o2 : TypeId} {o3 : String} {o4 : Array Edge} {o5 : Option (Nat × Bool)}
    (i d : Nat) (h : wpAnyH P md ops Q S fuel (listed.setIfInBounds i true) b w)
    (hi : ops[i]? = some { dst := some d, op := o1, type := o2, pos := o3, after := o4, guard := o5 } := by exact rfl)
    (hs : Region.noSelect ops = true := by kernel_rfl) (hf : Region.free md ops listed i = true := by kernel_rfl) (hr : (Region.ready md ops listed).contains i = true := by kernel_rfl)
    (hQ : ∀ c a w, Q (.panic c) (a.put (some d) undef) w → Q (.panic c) a w := by exact (fun _ _ _ h => h))
    (hw : Region.wanted { dst := some d, op := o1, type := o2, pos := o3, after := o4, guard := o5 } (yielded ops a.tmps) = false := by rfl)
    (hS : S w := by assumption)
    (hb : a.put (some d) undef = b := by (simp only [Act.put, List.setIfInBounds_toArray, List.set_cons_zero, List.set_cons_succ]; exact rfl)) : wpAnyH P md ops Q S (fuel + 1) listed a w :=
  wpAnyH_take hi hs hf hr hQ (Or.inr ⟨hw, rfl⟩) hS (hb ▸ h)
theorem tkr {P : Program} {ops : Array Oper} {Q : Exit → Act → World → Prop} {md : Region.Mode} {S : World → Prop} {fuel : Nat} {listed : Array Bool} {a : Act} {w : World} {o1 : Op} {o2 : TypeId} {o3 : String} {o4 : Array Edge} {o5 : Option (Nat × Bool)}
    (i d : Nat) (h : ∀ K' : Act → World → Prop, Shut (∀ a w, S w → (S w → wpAnyH P md ops Q S fuel (listed.setIfInBounds i true) a w) → K' a w) → if Region.wanted { dst := some d, op := o1, type := o2, pos := o3, after := o4, guard := o5 } (yielded ops a.tmps) = true then Oper.wp P { dst := some d, op := o1, type := o2, pos := o3, after := o4, guard := o5 } a w K' Q else K' (a.put (some d) undef) w)
    (hi : ops[i]? = some { dst := some d, op := o1, type := o2, pos := o3, after := o4, guard := o5 } := by exact rfl)
    (hr : Region.ready md ops listed = [i] := by kernel_rfl) : wpAnyH P md ops Q S (fuel + 1) listed a w :=
  wpAnyH_ready hr (by simp) (AllReadyH.cons hi h AllReadyH.nil)
theorem tkz {P : Program} {ops : Array Oper} {Q : Exit → Act → World → Prop} {md : Region.Mode} {S : World → Prop} {fuel : Nat} {listed : Array Bool} {a : Act} {w : World} {o1 : Op} {o2 : TypeId} {o3 : String} {o4 : Array Edge} {o5 : Option (Nat × Bool)}
    (i : Nat) (h : ∀ K' : Act → World → Prop, Shut (∀ a w, S w → (S w → wpAnyH P md ops Q S fuel (listed.setIfInBounds i true) a w) → K' a w) → if Region.wanted { dst := none, op := o1, type := o2, pos := o3, after := o4, guard := o5 } (yielded ops a.tmps) = true then Oper.wp P { dst := none, op := o1, type := o2, pos := o3, after := o4, guard := o5 } a w K' Q else K' (a.put none undef) w)
    (hi : ops[i]? = some { dst := none, op := o1, type := o2, pos := o3, after := o4, guard := o5 } := by exact rfl)
    (hr : Region.ready md ops listed = [i] := by kernel_rfl) : wpAnyH P md ops Q S (fuel + 1) listed a w :=
  wpAnyH_ready hr (by simp) (AllReadyH.cons hi h AllReadyH.nil)
theorem tka {α : Type} {l : List α} {i : Nat} {a : α} : l.toArray.setIfInBounds i a = (l.set i a).toArray := by simp
theorem tkb {α : Type} {x a : α} {l : List α} : (x :: l).set 0 a = a :: l := rfl
theorem tkc {α : Type} {x a : α} {l : List α} {i : Nat} : (x :: l).set (i + 1) a = x :: l.set i a := rfl

open Go.RowKit

theorem l01In_yes (n a b:Int) (w:World) (h:a≤n∧n≤b):Calls Tryd.prog 111 #[.int .i64 n,.int .i64 a,.int .i64 b] w fun e w'=>e=.returned (.bool true)∧w=w':=by
 obtain ⟨h1,h2⟩:=h
 go_enter Tryd.func111,Tryd.ntmps111
 go_wp2
 go_ret
 exact ⟨rfl,rfl⟩
theorem l01In_no (n a b:Int) (w:World) (h:¬ (a≤n∧n≤b)):Calls Tryd.prog 111 #[.int .i64 n,.int .i64 a,.int .i64 b] w fun e w'=>e=.returned (.bool false)∧w=w':=by
 by_cases h1:a≤n
 ·have h2:decide (n≤b)=false:=by simp;omega
  clear h
  go_enter Tryd.func111,Tryd.ntmps111
  go_wp2
  go_ret
  exact ⟨rfl,rfl⟩
 ·clear h
  go_enter Tryd.func111,Tryd.ntmps111
  go_wp2
  go_ret
  exact ⟨rfl,rfl⟩

end Go.Proofs.YthmgampabhbpoaaDoor
