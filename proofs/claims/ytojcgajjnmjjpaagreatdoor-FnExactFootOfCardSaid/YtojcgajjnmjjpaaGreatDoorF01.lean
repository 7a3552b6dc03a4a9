/-
  Joined: Tk, InOK, ItmI.
-/
import Derived.Test.YtojcgajjnmjjpaaGreatDoorProg
import Derived.Deep.RegionHeld3
import Derived.KernelRfl
import Derived.Tactics
import Derived.WalkKit
import Derived.WalkSpells
import Derived.WalkLawsBesides
import Derived.OwnWalk

namespace Go.Proofs.YtojcgajjnmjjpaaGreatDoor
set_option maxRecDepth 100000
set_option linter.unusedVariables false

theorem tkm {P : Program} {ops : Array Oper} {Q : Exit → Act → World → Prop} {md : Region.Mode} {S : World → Prop} {fuel : Nat} {listed : Array Bool} {a : Act} {w : World} {b : Act} {o1 : Op} {o2 : TypeId} {o3 : String} {o4 : Array Edge} {o5 : Option (Nat × Bool)}
    (i d : Nat) (v : Value) (h : wpAnyH P md ops Q S fuel (listed.setIfInBounds i true) b w)
    (hi : ops[i]? = some { dst := some d, op := o1, type := o2, pos := o3, after := o4, guard := o5 } := by exact rfl)
    (hs : Region.noSelect ops = true := by kernel_rfl) (hf : Region.free md ops listed i = true := by kernel_rfl) (hr : (Region.ready md ops listed).contains i = true := by kernel_rfl)
    (hQ : ∀ c a w, Q (.panic c) (a.put (some d) v) w → Q (.panic c) a w := by exact (fun _ _ _ h => h))
    (hw : Region.wanted { dst := some d, op := o1, type := o2, pos := o3, after := o4, guard := o5 } (yielded ops a.tmps) = true := by rfl)
    (hS : S w := by assumption)
    (hb : a.put (some d) v = b := by (simp only [Act.put, List.setIfInBounds_toArray, List.set_cons_zero, List.set_cons_succ]; exact rfl))
    (hy : ∀ w', S w' → (execOp a.eval { dst := some d, op := o1, type := o2, pos := o3, after := o4, guard := o5 }).run P w' = .ok (.value v) w' := by (intro w' hSw; (try dsimp only at hSw); go_simp; try rfl)) : wpAnyH P md ops Q S (fuel + 1) listed a w :=
  wpAnyH_take hi hs hf hr hQ (Or.inl ⟨hw, hy⟩) hS (hb ▸ h)
theorem tku {P : Program} {ops : Array Oper} {Q : Exit → Act → World → Prop} {md : Region.Mode} {S : World → Prop} {fuel : Nat} {listed : Array Bool} {a : Act} {w : World} {b : Act} {o1 : Op} {o2 : TypeId} {o3 : String} {o4 : Array Edge} {o5 : Option (Nat × Bool)}
    (i d : Nat) (h : wpAnyH P md ops Q S fuel (listed.setIfInBounds i true) b w)
    (hi : ops[i]? = some { dst := some d, op := o1, type := o2, pos := o3, after := o4, guard := o5 } := by exact rfl)
    (hs : Region.noSelect ops = true := by kernel_rfl) (hf : Region.free md ops listed i = true := by kernel_rfl) (hr : (Region.ready md ops listed).contains i = true := by kernel_rfl)
    (hQ : ∀ c a w, Q (.panic c) (a.put (some d) undef) w → Q (.panic c) a w := by exact (fun _ _ _ h => h))
    (hw : Region.wanted { dst := some d, op := o1, type := o2, pos := o3, after := o4, guard := o5 } (yielded ops a.tmps) = false := by rfl)
    (hS : S w := by assumption)
    (hb : a.put (some d) undef = b := by (simp only [Act.put, List.setIfInBounds_toArray, List.set_cons_zero, List.set_cons_succ]; exact rfl)) : wpAnyH P md ops Q S (fuel + 1) listed a w :=
  wpAnyH_take hi hs hf hr hQ (Or.inr ⟨hw, rfl⟩) hS (hb ▸ h)
theorem tkr {P : Program} {ops : Array Oper} {Q : Exit → Act → World → Prop} {md : Region.Mode} {S : World → Prop} {fuel : Nat} {listed : Array Bool} {a : Act} {w : World} {o1 : Op} {o2 : TypeId} {o3 : String} {o4 : Array Edge} {o5 : Option (Nat × Bool)}
    (i d : Nat) (h : ∀ K' : Act → World → Prop, Shut (∀ a w, S w → (S w → wpAnyH P md ops Q S fuel (listed.setIfInBounds i true) a w) → K' a w) → if Region.wanted { dst := some d, op := o1, type := o2, pos := o3, after := o4, guard := o5 } (yielded ops a.tmps) = true then Oper.wp P { dst := some d, op := o1, type := o2, pos := o3, after := o4, guard := o5 } a w K' Q else K' (a.put (some d) undef) w)
    (hi : ops[i]? = some { dst := some d, op := o1, type := o2, pos := o3, after := o4, guard := o5 } := by exact rfl)
    (hr : Region.ready md ops listed = [i] := by kernel_rfl) : wpAnyH P md ops Q S (fuel + 1) listed a w :=
  wpAnyH_ready hr (by simp) (AllReadyH.cons hi h AllReadyH.nil)
theorem tkz {P : Program} {ops : Array Oper} {Q : Exit → Act → World → Prop} {md : Region.Mode} {S : World → Prop} {fuel : Nat} {listed : Array Bool} {a : Act} {w : World} {o1 : Op} {o2 : TypeId} {o3 : String} {o4 : Array Edge} {o5 : Option (Nat × Bool)}
    (i : Nat) (h : ∀ K' : Act → World → Prop, Shut (∀ a w, S w → (S w → wpAnyH P md ops Q S fuel (listed.setIfInBounds i true) a w) → K' a w) → if Region.wanted { dst := none, op := o1, type := o2, pos := o3, after := o4, guard := o5 } (yielded ops a.tmps) = true then Oper.wp P { dst := none, op := o1, type := o2, pos := o3, after := o4, guard := o5 } a w K' Q else K' (a.put none undef) w)
    (hi : ops[i]? = some { dst := none, op := o1, type := o2, pos := o3, after := o4, guard := o5 } := by exact rfl)
    (hr : Region.ready md ops listed = [i] := by kernel_rfl) : wpAnyH P md ops Q S (fuel + 1) listed a w :=
  wpAnyH_ready hr (by simp) (AllReadyH.cons hi h AllReadyH.nil)
theorem tka {α : Type} {l : List α} {i : Nat} {a : α} : l.toArray.setIfInBounds i a = (l.set i a).toArray := by simp
theorem tkb {α : Type} {x a : α} {l : List α} : (x :: l).set 0 a = a :: l := rfl
theorem tkc {α : Type} {x a : α} {l : List α} {i : Nat} : (x :: l).set (i + 1) a = x :: l.set i a := rfl

open Go.RowKit

theorem l01In_yes (n a b:Int) (w:World) (h:a≤n∧n≤b):Calls Tryz.prog 119 #[.int .i64 n,.int .i64 a,.int .i64 b] w fun e w'=>e=.returned (.bool true)∧w=w':=by
 obtain ⟨h1,h2⟩:=h
 go_enter Tryz.func119,Tryz.ntmps119
 go_wp2
 go_ret
 exact ⟨rfl,rfl⟩
theorem l01In_no (n a b:Int) (w:World) (h:¬ (a≤n∧n≤b)):Calls Tryz.prog 119 #[.int .i64 n,.int .i64 a,.int .i64 b] w fun e w'=>e=.returned (.bool false)∧w=w':=by
 by_cases h1:a≤n
 ·have h2:decide (n≤b)=false:=by simp;omega
  clear h
  go_enter Tryz.func119,Tryz.ntmps119
  go_wp2
  go_ret
  exact ⟨rfl,rfl⟩
 ·clear h
  go_enter Tryz.func119,Tryz.ntmps119
  go_wp2
  go_ret
  exact ⟨rfl,rfl⟩


def inB8 (n a b:Int):Bool:=decide (a≤n∧n≤b)
theorem inB8_true {n a b:Int}:inB8 n a b=true↔a≤n∧n≤b:=by simp [inB8]
theorem inB8_false {n a b:Int}:inB8 n a b=false↔¬ (a≤n∧n≤b):=by simp only [inB8,decide_eq_false_iff_not]
theorem isThread8 (n:Int) (w:World):Calls Tryz.prog 102 #[.int .i64 n] w fun e w'=>e=.returned (.bool (inB8 n 0 2))∧w=w':=by
 cases h:inB8 n 0 2
 ·rw [inB8_false] at h
  by_cases h1:0≤n
  ·have h2:decide (n<3)=false:=by simp;omega
   clear h
   go_enter Tryz.func102,Tryz.ntmps102
   go_wp2
   go_ret
   exact ⟨rfl,rfl⟩
  ·clear h
   go_enter Tryz.func102,Tryz.ntmps102
   go_wp2
   go_ret
   exact ⟨rfl,rfl⟩
 ·rw [inB8_true] at h
  obtain ⟨h1,h3⟩:=h
  have h2:decide (n<3)=true:=by simp;omega
  clear h3
  go_enter Tryz.func102,Tryz.ntmps102
  go_wp2
  go_ret
  exact ⟨by simp_all,rfl⟩

theorem isPlace8 (n:Int) (w:World):Calls Tryz.prog 137 #[.int .i64 n] w fun e w'=>e=.returned (.bool (inB8 n 0 6))∧w=w':=by
 cases h:inB8 n 0 6
 ·rw [inB8_false] at h
  by_cases h1:0≤n
  ·have h2:decide (n≤6)=false:=by simp;omega
   clear h
   go_enter Tryz.func137,Tryz.ntmps137
   go_wp2
   go_ret
   exact ⟨rfl,rfl⟩
  ·clear h
   go_enter Tryz.func137,Tryz.ntmps137
   go_wp2
   go_ret
   exact ⟨rfl,rfl⟩
 ·rw [inB8_true] at h
  obtain ⟨h1,h3⟩:=h
  have h2:decide (n≤6)=true:=by simp;omega
  clear h3
  go_enter Tryz.func137,Tryz.ntmps137
  go_wp2
  go_ret
  exact ⟨by simp_all,rfl⟩

def itemV (k pc:Int):Value:=if inB8 k 0 2=true∧inB8 pc 0 6=true then .tuple #[.int .i64 (8*k+pc),.int .i64 0] else .tuple #[.int .i64 0,.int .i64 4]
theorem itemV_yes {k pc:Int} (h1:inB8 k 0 2=true) (h2:inB8 pc 0 6=true):itemV k pc=.tuple #[.int .i64 (8*k+pc),.int .i64 0]:=if_pos ⟨h1,h2⟩
theorem itemV_no1 {k pc:Int} (h1:inB8 k 0 2=false):itemV k pc=.tuple #[.int .i64 0,.int .i64 4]:=if_neg (by rw [h1];simp)
theorem itemV_no2 {k pc:Int} (h2:inB8 pc 0 6=false):itemV k pc=.tuple #[.int .i64 0,.int .i64 4]:=if_neg (by rw [h2];simp)

set_option maxHeartbeats 1000000 in
theorem implItemOf_is (k pc:Int) (w:World):Calls Tryz.prog 101 #[.int .i64 k,.int .i64 pc] w fun e w'=>e=.returned (itemV k pc)∧w=w':=by
 have kT:=isThread8 k
 have kP:=isPlace8 pc
 cases hA:inB8 k 0 2
 ·rw [itemV_no1 hA]
  rw [hA] at kT
  clear hA
  go_enter Tryz.func101,Tryz.ntmps101
  go_wp2_with fail
  refine (kT _).mono ?_
  rintro e w1 ⟨rfl,rfl⟩
  go_wp2
  go_ret2
  exact ⟨rfl,rfl⟩
 ·cases hB:inB8 pc 0 6
  ·rw [itemV_no2 hB]
   rw [hA] at kT
   rw [hB] at kP
   clear hA hB
   go_enter Tryz.func101,Tryz.ntmps101
   go_wp2_with fail
   refine (kT _).mono ?_
   rintro e w1 ⟨rfl,rfl⟩
   go_wp2_with fail
   refine (kP _).mono ?_
   rintro e w1 ⟨rfl,rfl⟩
   go_wp2
   go_ret2
   exact ⟨rfl,rfl⟩
  ·rw [itemV_yes hA hB]
   rw [hA] at kT
   rw [hB] at kP
   obtain ⟨a1,a2⟩:=inB8_true.1 hA
   obtain ⟨b1,b2⟩:=inB8_true.1 hB
   clear hA hB
   have q1:IntKind.i64.wrap (8*k)=8*k:=by rw [IntKind.wrap_i64];omega
   have q2:IntKind.i64.wrap (8*k+pc)=8*k+pc:=by rw [IntKind.wrap_i64];omega
   go_enter Tryz.func101,Tryz.ntmps101
   go_wp2_with fail
   refine (kT _).mono ?_
   rintro e w1 ⟨rfl,rfl⟩
   go_wp2_with fail
   refine (kP _).mono ?_
   rintro e w1 ⟨rfl,rfl⟩
   go_wp2
   go_ret2
   exact ⟨rfl,rfl⟩

theorem l08Item_is (k pc:Int) (w:World) (h1:inB8 k 0 2=true) (h2:inB8 pc 0 6=true):Calls Tryz.prog 136 #[.int .i64 k,.int .i64 pc] w fun e w'=>e=.returned (.int .i64 (8*k+pc))∧w=w':=by
 obtain ⟨a1,a2⟩:=inB8_true.1 h1
 obtain ⟨b1,b2⟩:=inB8_true.1 h2
 clear h1 h2
 have q1:IntKind.i64.wrap (8*k)=8*k:=by rw [IntKind.wrap_i64];omega
 have q2:IntKind.i64.wrap (8*k+pc)=8*k+pc:=by rw [IntKind.wrap_i64];omega
 go_enter Tryz.func136,Tryz.ntmps136
 go_wp2
 go_ret
 exact ⟨rfl,rfl⟩

def itOk (n:Int):Bool:=decide (0≤n∧n≤22∧n % 8≤6)
end Go.Proofs.YtojcgajjnmjjpaaGreatDoor
