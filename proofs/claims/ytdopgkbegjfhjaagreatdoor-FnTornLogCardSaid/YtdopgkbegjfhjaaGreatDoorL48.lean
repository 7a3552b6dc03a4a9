/-
  Joined: DskC.
-/
import Derived.Test.YtdopgkbegjfhjaaGreatDoorL23

namespace Go.Proofs.YtdopgkbegjfhjaaGreatDoor
set_option maxRecDepth 100000
set_option maxHeartbeats 16000000
open Go.RowKit
set_option linter.unusedVariables false
set_option linter.unusedSimpArgs false

theorem implCutDisk_is (s q:ByteArray) (n:Int) (w:World) (hd:s.size+q.size≤1048576) :
  Calls Tryz.prog 43 #[.agg #[.string s,.string q],.int .i64 n] w fun e w'=>e=ResD (cutD (s,q) n)∧Below w.heap.size w w':=by
 have hF:=FrD.new w (s,q)
 go_enter Tryz.func43,Tryz.ntmps43
 go_wp2_with fail
 refine (implDiskOK_is (s,q) _ hd).mono ?_
 rintro e w1 ⟨rfl,b1⟩
 replace hF:=hF.below b1
 clear b1
 by_cases h:s.size+q.size≤60000
 ·have hk:decide (s.size+q.size≤60000)=true:=decide_eq_true h
  simp only [hk]
  obtain ⟨r0,r1,c2,c3,c4,c5⟩:=hF.cells
  by_cases hq:q=⟨#[]⟩
  ·subst hq
   by_cases hk0:n<0
   ·have hin:¬ (0≤n∧n≤s.size):=by omega
    have hA:cutD (s,⟨#[]⟩) n=(noD,4):=cutD_4 s n h hin
    obtain ⟨_,_,c2,c3,c4,c5⟩:=hF.cells
    go_wp2
    obtain ⟨W,hW,e0,e1,bW⟩:=hF.fin (noT) (noT)
    rw [← hW]
    clear hW
    refine bodyPost_ret (by simp [results,Tryz.results43,go_sem,e0,e1];try rfl) rfl ?_
    exact ⟨by first | rfl | (rw [hA];rfl),bW⟩
   by_cases hk1:(s.size:Int)<n
   ·have hin:¬ (0≤n∧n≤s.size):=by omega
    have hA:cutD (s,⟨#[]⟩) n=(noD,4):=cutD_4 s n h hin
    obtain ⟨_,_,c2,c3,c4,c5⟩:=hF.cells
    go_wp2
    obtain ⟨W,hW,e0,e1,bW⟩:=hF.fin (noT) (noT)
    rw [← hW]
    clear hW
    refine bodyPost_ret (by simp [results,Tryz.results43,go_sem,e0,e1];try rfl) rfl ?_
    exact ⟨by first | rfl | (rw [hA];rfl),bW⟩
   have hin:0≤n∧n≤s.size:=by omega
   have hA:cutD (s,⟨#[]⟩) n=((s.extract 0 n.toNat,noT),0):=cutD_0 s n h hin
   have f0:=Blk.frozen hF.1 0
   have hB2:=Blk.set hF.1 0 (.string (s.extract 0 n.toNat))
   have hF2:FrD w _ (s.extract 0 n.toNat,noT):=hF.grown (gcD w1 w.heap.size 0 _) hB2
   clear hB2
   go_wp2_with fail
   refine (own_is _ (s.extract 0 n.toNat,noT) _ (few_cut s _ (by have:ByteArray.size ⟨#[]⟩=0:=rfl;omega)) hF2.1).mono ?_
   rintro e w3 ⟨rfl,b3⟩
   replace hF:=hF2.below b3
   clear b3
   unfold D2.val
   obtain ⟨_,_,c2,c3,c4,c5⟩:=hF.cells
   go_wp2
   obtain ⟨W,hW,e0,e1,bW⟩:=hF.fin (s.extract 0 n.toNat) (noT)
   rw [← hW]
   clear hW
   refine bodyPost_ret (by simp [results,Tryz.results43,go_sem,e0,e1];try rfl) rfl ?_
   exact ⟨by first | rfl | (rw [hA];rfl),bW⟩
  ·have hq2:¬ q.size=0:=fun e=>hq (noT_of e)
   have hq3:q.toList.isEmpty=false:=emptyD_no hq2
   have hA:cutD (s,q) n=(noD,1):=by unfold cutD;simp [h,hq2]
   obtain ⟨_,_,c2,c3,c4,c5⟩:=hF.cells
   go_wp2
   obtain ⟨W,hW,e0,e1,bW⟩:=hF.fin (noT) (noT)
   rw [← hW]
   clear hW
   refine bodyPost_ret (by simp [results,Tryz.results43,go_sem,e0,e1];try rfl) rfl ?_
   exact ⟨by first | rfl | (rw [hA];rfl),bW⟩
 ·have hk:decide (s.size+q.size≤60000)=false:=decide_eq_false h
  simp only [hk]
  have hA:cutD (s,q) n=(noD,1):=by unfold cutD;simp [h]
  obtain ⟨_,_,c2,c3,c4,c5⟩:=hF.cells
  go_wp2
  obtain ⟨W,hW,e0,e1,bW⟩:=hF.fin (noT) (noT)
  rw [← hW]
  clear hW
  refine bodyPost_ret (by simp [results,Tryz.results43,go_sem,e0,e1];try rfl) rfl ?_
  exact ⟨by first | rfl | (rw [hA];rfl),bW⟩

end Go.Proofs.YtdopgkbegjfhjaaGreatDoor
