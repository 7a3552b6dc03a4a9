/-
  Joined: DedI, RpG.
-/
import Derived.Lib.FieldsP
import Derived.Test.YtfpopbbmnbehiaaGreatDoorC06
import Derived.Test.YtfpopbbmnbehiaaGreatDoorC43

namespace Go.Proofs.YtfpopbbmnbehiaaGreatDoor
set_option maxRecDepth 100000
set_option maxHeartbeats 16000000
open Go.RowKit
set_option linter.unusedVariables false
set_option linter.unusedSimpArgs false

def RowD (e:Ending) (w':World) (B:Nat) (xs:List I3):Prop:=∃ v,e=.returned v∧w'.ownsRow B 53 3 v xs.length (flat xs)
theorem deadlock_of {w:World} {p:Addr} {b:Bool} (k:Calls Tryz.prog 146 #[.pointer (some p)] w fun e w'=>e=.returned (.bool b)∧Below w.heap.size w w') :
  Calls Tryz.prog 115 #[.pointer (some p)] w fun e w'=>RowD e w' w.heap.size (if b then [(14,0,0)] else [])∧Below w.heap.size w w':=by
 cases b
 ·go_enter Tryz.func115,Tryz.ntmps115
  go_wp2_with fail
  refine k.mono ?_
  rintro e w1 ⟨rfl,hb⟩
  go_wp2
  go_ret
  exact ⟨⟨_,rfl,World.ownsRow_nil _ _ _ _⟩,hb⟩
 ·go_enter Tryz.func115,Tryz.ntmps115
  go_wp2_with fail
  refine k.mono ?_
  rintro e w1 ⟨rfl,hb⟩
  have q:=World.ownsRow_lit (e:=53) (base:=w.heap.size) (size:=3) w1 #[.int .i64 14,.int .i64 0,.int .i64 0] 1 hb.size (by unfold maxLen;omega) rfl
  have HD:Hid (RowD (.returned (.slice (some ⟨w1.heap.size,0,none⟩) 1 1)) (w1.alloc (.cells #[.int .i64 14,.int .i64 0,.int .i64 0] 53)) w.heap.size [(14,0,0)]):=⟨_,rfl,q⟩
  clear q
  go_wp2
  go_ret
  exact ⟨HD.out,bel8 hb (by go_grown)⟩


theorem bugs_sliceR {w:World} {B:Nat} {v:Value} {xs:List I3} (h:w.ownsRow B 53 3 v xs.length (flat xs)) (hf:∀ x ∈ xs,I3.fits x):∃ a cap,v=.slice a xs.length cap∧Instrs w a xs.length cap xs∧GoodS a cap:=by
 rcases h.2 with ⟨rfl,h0⟩ | ⟨g,cap,cur,hv,_⟩
 ·exact ⟨none,0,by rw [h0],⟨rfl,by omega,by unfold maxLen;omega,hf,.inl h0⟩,fun _=>rfl,fun x hx=>by cases hx⟩
 ·subst hv
  exact ⟨_,_,rfl,Instrs.of_owns h rfl hf rfl,(fun h=>by cases h),fun x hx=>by cases hx;rfl⟩

end Go.Proofs.YtfpopbbmnbehiaaGreatDoor
