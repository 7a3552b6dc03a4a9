/-
  Joined: RecT.
-/
import Derived.Test.YtdopgkbegjfhjaaGreatDoorR41
import Derived.Test.YtdopgkbegjfhjaaGreatDoorR44

namespace Go.Proofs.YtdopgkbegjfhjaaGreatDoor
set_option maxRecDepth 100000
set_option maxHeartbeats 16000000
open Go.RowKit
set_option linter.unusedVariables false
set_option linter.unusedSimpArgs false

theorem l13Text_is (r:R2) (w:World) (hk:1≤r.1∧r.1≤3) (hz:r.2.size<1000) :
  Calls Tryz.prog 50 #[r.val] w fun e w'=>e=.returned (.string (frameOf (recT r)))∧Below w.heap.size w w':=by
 obtain ⟨k,t⟩:=r
 have hs:=recT_size (k,t)
 simp only at hk hz hs
 have hB:=Blk.new w 24 [.int .i64 k,.string t]
 have b0:=bel_new w (.cells #[.int .i64 k,.string t] 24)
 have c0:=hB.cell 0
 have c1:=hB.cell 1
 simp only [List.getElem?_cons_zero,List.getElem?_cons_succ] at c0 c1
 have q1:IntKind.i64.wrap (48+k)=48+k:=IntWalk.i64_in _ ⟨by omega,by omega⟩
 have q2:IntKind.u8.wrap (48+k)=48+k:=by
  rcases (by omega:k=1∨k=2∨k=3) with rfl | rfl | rfl<;>rfl
 have hcv:∀ W:World,(convert 22 9 (.slice (some ⟨W.heap.size,0,none⟩) 1 1)).run Tryz.prog (W.alloc (.cells #[.int .u8 (48+k)] 5))=.ok (.string (strOfNums [48+k])) (W.alloc (.cells #[.int .u8 (48+k)] 5)):=fun W =>
  conv_owned (World.ownsRow_lit W #[.int .u8 (48+k)] 1 (Nat.le_refl _) (by unfold maxLen;omega) rfl)
 have hsz:(w.alloc (.cells #[.int .i64 k,.string t] 24)).heap.size=w.heap.size+1:=by
  show (w.heap.push _).size=_
  simp
 have hcw:=hcv (w.alloc (.cells #[.int .i64 k,.string t] 24))
 rw [hsz] at hcw
 clear hcv hsz
 have ha:=fun W=>run_string_add_sum (P:=Tryz.prog) W (strOfNums [48+k]) t (by have:(strOfNums [48+k]).size=1:=rfl;omega)
 have hr:strOfNums [48+k]++t=recT (k,t):=rfl
 unfold R2.val
 go_enter Tryz.func50,Tryz.ntmps50
 go_wp2_with fail
 refine (l01Frame_any _ _ (by omega)).mono ?_
 rintro e w1 ⟨rfl,b1⟩
 go_wp2
 go_ret
 exact ⟨rfl,belD (by go_grown) b1⟩
end Go.Proofs.YtdopgkbegjfhjaaGreatDoor
