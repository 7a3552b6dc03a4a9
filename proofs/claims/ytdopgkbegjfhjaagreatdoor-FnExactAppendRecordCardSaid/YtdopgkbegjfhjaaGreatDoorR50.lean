/-
  Joined: DskP.
-/
import Derived.Test.YtdopgkbegjfhjaaGreatDoorR30

namespace Go.Proofs.YtdopgkbegjfhjaaGreatDoor
set_option maxRecDepth 100000
set_option maxHeartbeats 16000000
open Go.RowKit
set_option linter.unusedVariables false
set_option linter.unusedSimpArgs false

theorem implAppendDisk_is (s q:ByteArray) (t:ByteArray) (w:World) (hd:s.size+q.size≤1048576) (ht:t.size≤1048576) :
  Calls Tryz.prog 35 #[.agg #[.string s,.string q],.string t] w fun e w'=>e=ResD (appD (s,q) t)∧Below w.heap.size w w':=by
 have hF:=FrD.new w (s,q)
 go_enter Tryz.func35,Tryz.ntmps35
 by_cases hl:65536<t.size
 ·have hl2:(65536:Int)<(t.size:Int):=by omega
  have hA:appD (s,q) t=(noD,2):=by unfold appD;simp [hl]
  go_wp2
  go_returns
  exact ⟨by first | rfl | (rw [hA];rfl),by go_grown⟩
 have hl2:¬ (65536:Int)<(t.size:Int):=by omega
 go_wp2_with fail
 refine (implDiskOK_is (s,q) _ hd).mono ?_
 rintro e w1 ⟨rfl,b1⟩
 replace hF:=hF.below b1
 clear b1
 by_cases h:s.size+q.size≤60000
 ·have hk:decide (s.size+q.size≤60000)=true:=decide_eq_true h
  simp only [hk]
  by_cases hr:s.size+q.size+t.size≤60000
  ·have hA:appD (s,q) t=((s,q++t),0):=by unfold appD;simp [hl,h,hr]
   go_wp2_with fail
   refine (add_yes _ (s,q) t _ hd hF.1 hr).mono ?_
   rintro e w2 ⟨rfl,b2,g2⟩
   replace hF:=hF.grown g2 b2
   clear b2 g2
   go_wp2_with fail
   refine (own_is _ (s,q++t) _ (few_app2 s q t hr) hF.1).mono ?_
   rintro e w3 ⟨rfl,b3⟩
   replace hF:=hF.below b3
   clear b3
   unfold D2.val
   obtain ⟨_,_,c2,c3,c4,c5⟩:=hF.cells
   go_wp2
   obtain ⟨W,hW,e0,e1,bW⟩:=hF.fin (s) (q++t)
   rw [← hW]
   clear hW
   refine bodyPost_ret (by simp [results,Tryz.results35,go_sem,e0,e1];try rfl) rfl ?_
   exact ⟨by first | rfl | (rw [hA];rfl),bW⟩
  ·have hA:appD (s,q) t=((s,q),7):=by unfold appD;simp [hl,h,hr]
   go_wp2_with fail
   refine (add_no _ (s,q) t _ hd hF.1 hr ht).mono ?_
   rintro e w2 ⟨rfl,b2⟩
   replace hF:=hF.below b2
   clear b2
   go_wp2_with fail
   refine (own_is _ (s,q) _ (hd) hF.1).mono ?_
   rintro e w3 ⟨rfl,b3⟩
   replace hF:=hF.below b3
   clear b3
   unfold D2.val
   obtain ⟨_,_,c2,c3,c4,c5⟩:=hF.cells
   go_wp2
   obtain ⟨W,hW,e0,e1,bW⟩:=hF.fin (s) (q)
   rw [← hW]
   clear hW
   refine bodyPost_ret (by simp [results,Tryz.results35,go_sem,e0,e1];try rfl) rfl ?_
   exact ⟨by first | rfl | (rw [hA];rfl),bW⟩
 ·have hk:decide (s.size+q.size≤60000)=false:=decide_eq_false h
  simp only [hk]
  have hA:appD (s,q) t=(noD,1):=by unfold appD;simp [hl,h]
  obtain ⟨_,_,c2,c3,c4,c5⟩:=hF.cells
  go_wp2
  obtain ⟨W,hW,e0,e1,bW⟩:=hF.fin (noT) (noT)
  rw [← hW]
  clear hW
  refine bodyPost_ret (by simp [results,Tryz.results35,go_sem,e0,e1];try rfl) rfl ?_
  exact ⟨by first | rfl | (rw [hA];rfl),bW⟩

end Go.Proofs.YtdopgkbegjfhjaaGreatDoor
