/-
  Joined: RdsI#1.
-/
import Derived.Laws.AppendOwnNone
import Derived.Deep.Cut
import Derived.Test.YtdopgkbegjfhjaaGreatDoorL18

namespace Go.Proofs.YtdopgkbegjfhjaaGreatDoor
set_option maxRecDepth 100000
set_option maxHeartbeats 16000000
open Go.RowKit
set_option linter.unusedVariables false
set_option linter.unusedSimpArgs false

theorem step_store_boxR {P:Program} {ops:Array Oper} {o:Oper} {a:Act} {w:World} {K:Act→World→Prop} {Q:Exit→Act→World→Prop} {E:Prop} (hgd:o.guard=none) (ty:TypeId) (x y:Operand) (ho:o.op=.store ty x y) (g:Nat) (vs:List Value) (hx:a.eval x=.pointer (some ⟨g,0,none⟩)) (hy:a.eval y=.agg vs.toArray) {t:Nat} {cs:List Value} (hB:Blk w g t cs)
  (hi:(P.info? ty).map (·.size)=some vs.length) (hl:cs.length=vs.length) (h1:vs.all (·.oneCell')=true)
  (h:∀ w',Hid (Blk w' g t vs)→w.grownBy w' (some g)→K (a.put o.dst undef) w'):if Region.wanted o (yielded ops a.tmps)=true then Oper.wp P o a w K Q else E:=by
 have hw:Region.wanted o (yielded ops a.tmps)=true:=by simp [Region.wanted,hgd]
 rw [if_pos hw]
 exact wp_store_row ty x y ho g vs.toArray hx hy t cs.toArray hB (by simpa using hi) (by simpa using hl) (by simpa using h1) (h _ (blk_setRow vs hB) (grown_setRow _ _ _))
end Go.Proofs.YtdopgkbegjfhjaaGreatDoor
