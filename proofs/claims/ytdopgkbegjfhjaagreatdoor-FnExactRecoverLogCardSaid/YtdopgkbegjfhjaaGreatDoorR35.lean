/-
  Joined: DskS.
-/
import Derived.Test.YtdopgkbegjfhjaaGreatDoorR30

namespace Go.Proofs.YtdopgkbegjfhjaaGreatDoor
set_option maxRecDepth 100000
set_option maxHeartbeats 16000000
open Go.RowKit
set_option linter.unusedVariables false
set_option linter.unusedSimpArgs false

theorem specDiskOK_is (d:D2) (w:World) (hd:d.few) :
  Calls Tryz.prog 51 #[d.val] w fun e w'=>e=.returned (.bool (decide (d.1.size+d.2.size≤60000)))∧Below w.heap.size w w':=by
 obtain ⟨s,q⟩:=d
 unfold D2.few at hd
 unfold D2.val
 simp only at hd ⊢
 have q1:IntKind.i64.wrap ((s.size:Int)+(q.size:Int))=(s.size:Int)+(q.size:Int):=IntWalk.i64_in _ ⟨by omega,by omega⟩
 have hx:decide ((s.size:Int)+(q.size:Int)≤60000)=decide (s.size+q.size≤60000):=by congr 1;apply propext;omega
 go_enter Tryz.func51,Tryz.ntmps51
 go_wp2
 go_ret
 exact ⟨rfl,by go_grown⟩

theorem specAppendDisk_is (s q:ByteArray) (t:ByteArray) (w:World) (hd:s.size+q.size≤1048576) (ht:t.size≤1048576) :
  Calls Tryz.prog 52 #[.agg #[.string s,.string q],.string t] w fun e w'=>e=ResD (appD (s,q) t)∧Below w.heap.size w w':=by
 have hF:=FrD.new w (s,q)
 go_enter Tryz.func52,Tryz.ntmps52
 by_cases hl:65536<t.size
 ·have hl2:(65536:Int)<(t.size:Int):=by omega
  have hA:appD (s,q) t=(noD,2):=by unfold appD;simp [hl]
  go_wp2
  go_returns
  exact ⟨by first | rfl | (rw [hA];rfl),by go_grown⟩
 have hl2:¬ (65536:Int)<(t.size:Int):=by omega
 go_wp2_with fail
 refine (specDiskOK_is (s,q) _ hd).mono ?_
 rintro e w1 ⟨rfl,b1⟩
 replace hF:=hF.below b1
 clear b1
 by_cases h:s.size+q.size≤60000
 ·have hk:decide (s.size+q.size≤60000)=true:=decide_eq_true h
  simp only [hk]
  have q1:IntKind.i64.wrap ((s.size:Int)+(q.size:Int))=(s.size:Int)+(q.size:Int):=IntWalk.i64_in _ ⟨by omega,by omega⟩
  have q2:IntKind.i64.wrap ((s.size:Int)+(q.size:Int)+(t.size:Int))=(s.size:Int)+(q.size:Int)+(t.size:Int):=IntWalk.i64_in _ ⟨by omega,by omega⟩
  have ha:=fun W=>run_string_add_sum (P:=Tryz.prog) W q t (by omega)
  by_cases hr:s.size+q.size+t.size≤60000
  ·have hA:appD (s,q) t=((s,q++t),0):=by unfold appD;simp [hl,h,hr]
   have hr2:¬ (60000:Int)<(s.size:Int)+(q.size:Int)+(t.size:Int):=by omega
   obtain ⟨r0,r1,c2,c3,c4,c5⟩:=hF.cells
   go_wp2
   obtain ⟨W,hW,e0,e1,bW⟩:=hF.fin (s) ((q++t))
   rw [← hW]
   clear hW
   refine bodyPost_ret (by simp [results,Tryz.results52,go_sem,e0,e1];try rfl) rfl ?_
   exact ⟨by first | rfl | (rw [hA];rfl),bW⟩
  ·have hA:appD (s,q) t=((s,q),7):=by unfold appD;simp [hl,h,hr]
   have hr2:(60000:Int)<(s.size:Int)+(q.size:Int)+(t.size:Int):=by omega
   obtain ⟨r0,r1,c2,c3,c4,c5⟩:=hF.cells
   go_wp2
   obtain ⟨W,hW,e0,e1,bW⟩:=hF.fin (s) (q)
   rw [← hW]
   clear hW
   refine bodyPost_ret (by simp [results,Tryz.results52,go_sem,e0,e1];try rfl) rfl ?_
   exact ⟨by first | rfl | (rw [hA];rfl),bW⟩
 ·have hk:decide (s.size+q.size≤60000)=false:=decide_eq_false h
  simp only [hk]
  have hA:appD (s,q) t=(noD,1):=by unfold appD;simp [hl,h]
  obtain ⟨_,_,c2,c3,c4,c5⟩:=hF.cells
  go_wp2
  obtain ⟨W,hW,e0,e1,bW⟩:=hF.fin (noT) (noT)
  rw [← hW]
  clear hW
  refine bodyPost_ret (by simp [results,Tryz.results52,go_sem,e0,e1];try rfl) rfl ?_
  exact ⟨by first | rfl | (rw [hA];rfl),bW⟩

end Go.Proofs.YtdopgkbegjfhjaaGreatDoor
