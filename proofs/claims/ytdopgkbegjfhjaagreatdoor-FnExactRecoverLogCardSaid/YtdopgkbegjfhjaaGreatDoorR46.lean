/-
  Joined: RecR.
-/
import Derived.Test.YtdopgkbegjfhjaaGreatDoorR35
import Derived.Test.YtdopgkbegjfhjaaGreatDoorR42
import Derived.Test.YtdopgkbegjfhjaaGreatDoorR45

namespace Go.Proofs.YtdopgkbegjfhjaaGreatDoor
set_option maxRecDepth 100000
set_option maxHeartbeats 16000000
open Go.RowKit
set_option linter.unusedVariables false
set_option linter.unusedSimpArgs false

open Classical in
noncomputable def recC (r:R2):ByteArray × Int:=if RecOk r then (frameOf (recT r),0) else (noT,1)
def ResT (r:ByteArray × Int):Ending:=.returned (.tuple #[.string r.1,.int .i64 r.2])
theorem recC_yes {r:R2} (h:RecOk r):recC r=(frameOf (recT r),0):=by unfold recC;rw [if_pos h]
theorem recC_no {r:R2} (h:¬ RecOk r):recC r=(noT,1):=by unfold recC;rw [if_neg h]
open Classical in
noncomputable def apR (d:D2) (r:R2):D2 × Int:=if d.1.size+d.2.size≤60000∧RecOk r then appD d (frameOf (recT r)) else (noD,1)
theorem apR_yes {d:D2} {r:R2} (h:d.1.size+d.2.size≤60000) (hr:RecOk r):apR d r=appD d (frameOf (recT r)):=by unfold apR;rw [if_pos ⟨h,hr⟩]
theorem apR_no {d:D2} {r:R2} (h:¬ (d.1.size+d.2.size≤60000∧RecOk r)):apR d r=(noD,1):=by unfold apR;rw [if_neg h]
theorem frame9_small {r:R2} (h:RecOk r):(frameOf (recT r)).size≤1007:=by
 have:=recT_small h
 have:=K9_le (recT r)
 rw [frame9_size]
 omega

theorem specRecordText_is (r:R2) (w:World) (hz:r.2.size≤1048576) :
  Calls Tryz.prog 23 #[r.val] w fun e w'=>e=ResT (recC r)∧Below w.heap.size w w':=by
 obtain ⟨k,t⟩:=r
 have hB:=Blk.new w 24 [.int .i64 k,.string t]
 have b0:=bel_new w (.cells #[.int .i64 k,.string t] 24)
 have c0:=hB.cell 0
 have c1:=hB.cell 1
 simp only [List.getElem?_cons_zero,List.getElem?_cons_succ] at c0 c1
 have kR:=fun W=>specRecordOK_is (k,t) W hz
 have kT:=fun W h1 h2=>l13Text_is (k,t) W h1 h2
 unfold R2.val at kR kT ⊢
 simp only at kR kT ⊢
 go_enter Tryz.func23,Tryz.ntmps23
 go_wp2_with fail
 clear c0 c1
 refine (kR _).mono ?_
 rintro e w1 ⟨rfl,b1⟩
 replace hB:=hB.below b1
 replace b0:=belD b0 b1
 clear b1 kR
 have c0:=hB.cell 0
 have c1:=hB.cell 1
 simp only [List.getElem?_cons_zero,List.getElem?_cons_succ] at c0 c1
 by_cases hr:RecOk (k,t)
 ·have hk:=recB_yes hr
  have HA:Hid (recC (k,t)=(frameOf (recT (k,t)),0)):=recC_yes hr
  have h1:=hr.kind
  have h2:=hr.1
  simp only [hk]
  go_wp2_with fail
  refine (kT _ h1 h2).mono ?_
  rintro e w2 ⟨rfl,b2⟩
  generalize frameOf (recT (k,t))=F at *
  go_wp2
  go_ret2
  exact ⟨by rw [HA.out];rfl,belD b0 b2⟩
 ·have hk:=recB_no hr
  have HA:Hid (recC (k,t)=(noT,1)):=recC_no hr
  simp only [hk]
  go_wp2
  go_ret2
  exact ⟨by rw [HA.out];rfl,b0⟩

def FrA (w w':World) (d:D2) (r:R2):Prop:=Blk w' w.heap.size 27 [.string d.1,.string d.2]∧Blk w' (w.heap.size+1) 24 [.int .i64 r.1,.string r.2]∧Blk w' (w.heap.size+2) 27 [.string ⟨#[]⟩,.string ⟨#[]⟩]∧Below w.heap.size w w'
theorem size_al (w:World) (o:Obj):(w.alloc o).heap.size=w.heap.size+1:=by
 show (w.heap.push _).size=_
 simp
theorem FrA.new (w:World) (d:D2) (r:R2):FrA w (((w.alloc (.cells #[.string d.1,.string d.2] 27)).alloc (.cells #[.int .i64 r.1,.string r.2] 24)).alloc (.cells #[.string ⟨#[]⟩,.string ⟨#[]⟩] 27)) d r:=by
 have h:=Blk.new w 27 [.string d.1,.string d.2]
 have h2:=Blk.new (w.alloc (.cells #[.string d.1,.string d.2] 27)) 24 [.int .i64 r.1,.string r.2]
 have h3:=Blk.new ((w.alloc (.cells #[.string d.1,.string d.2] 27)).alloc (.cells #[.int .i64 r.1,.string r.2] 24)) 27 [.string ⟨#[]⟩,.string ⟨#[]⟩]
 have g1:=size_al w (.cells #[.string d.1,.string d.2] 27)
 have g2:=size_al (w.alloc (.cells #[.string d.1,.string d.2] 27)) (.cells #[.int .i64 r.1,.string r.2] 24)
 rw [g1] at g2 h2
 rw [g2] at h3
 exact ⟨(h.below (bel_new _ _)).below (bel_new _ _),h2.below (bel_new _ _),h3,belD (belD (bel_new w _) (bel_new _ _)) (bel_new _ _)⟩
theorem FrA.below {w w' w'':World} {d:D2} {r:R2} (h:FrA w w' d r) (b:Below w'.heap.size w' w''):FrA w w'' d r:=⟨h.1.below b,h.2.1.below b,h.2.2.1.below b,h.2.2.2.trans (b.mono (by have:=h.2.1.lt;omega))⟩
theorem FrA.hid {w w' w'':World} {d:D2} {r:R2} (b:Below w'.heap.size w' w'') (h:Hid (FrA w w' d r)):Hid (FrA w w'' d r):=h.out.below b
theorem FrA.cells {w w':World} {d:D2} {r:R2} (h:FrA w w' d r):w'.cell? ⟨w.heap.size,0,none⟩=some (.string d.1)∧w'.cell? ⟨w.heap.size,1,none⟩=some (.string d.2)∧w'.cell? ⟨w.heap.size+1,0,none⟩=some (.int .i64 r.1)∧w'.cell? ⟨w.heap.size+1,1,none⟩=some (.string r.2)∧w'.cell? ⟨w.heap.size+2,0,none⟩=some (.string ⟨#[]⟩)∧w'.cell? ⟨w.heap.size+2,1,none⟩=some (.string ⟨#[]⟩)∧w'.frozen? ⟨w.heap.size+2,0,none⟩=false∧w'.frozen? ⟨w.heap.size+2,1,none⟩=false:=⟨h.1.cell 0,h.1.cell 1,h.2.1.cell 0,h.2.1.cell 1,h.2.2.1.cell 0,h.2.2.1.cell 1,h.2.2.1.frozen 0,h.2.2.1.frozen 1⟩
theorem FrA.fin {w w':World} {d:D2} {r:R2} (h:Hid (FrA w w' d r)) (s q:ByteArray):∃ W,W=(w'.setCell ⟨w.heap.size+2,0,none⟩ (.string s)).setCell ⟨w.heap.size+2,1,none⟩ (.string q)∧W.cell? ⟨w.heap.size+2,0,none⟩=some (.string s)∧W.cell? ⟨w.heap.size+2,1,none⟩=some (.string q)∧Below w.heap.size w W:=
 ⟨_,rfl,((h.out.2.2.1.set 0 (.string s)).set 1 (.string q)).cell 0,((h.out.2.2.1.set 0 (.string s)).set 1 (.string q)).cell 1,h.out.2.2.2.trans ((Below.setCell (Below.refl _ w') (p:=⟨w.heap.size+2,0,none⟩) (by simp) _).trans (Below.setCell (Below.refl _ _) (p:=⟨w.heap.size+2,1,none⟩) (by simp) _))⟩

theorem specAppendRecord_is (d:D2) (r:R2) (w:World) (hd:d.1.size+d.2.size≤1048576) (hz:r.2.size≤1048576) :
  Calls Tryz.prog 25 #[d.val,r.val] w fun e w'=>e=ResD (apR d r)∧Below w.heap.size w w':=by
 obtain ⟨s,q⟩:=d
 obtain ⟨k,t⟩:=r
 simp only at hd hz
 have hF:=FrA.new w (s,q) (k,t)
 have kD:=fun W=>specDiskOK_is (s,q) W hd
 have kR:=fun W=>specRecordOK_is (k,t) W hz
 have kT:=fun W h1 h2=>l13Text_is (k,t) W h1 h2
 unfold D2.val at kD ⊢
 unfold R2.val at kR kT ⊢
 simp only at kD kR kT ⊢
 go_enter Tryz.func25,Tryz.ntmps25
 go_wp2_with fail
 try dsimp only at hF
 generalize ((w.alloc (.cells #[.string s,.string q] 27)).alloc (.cells #[.int .i64 k,.string t] 24)).alloc (.cells #[.string ⟨#[]⟩,.string ⟨#[]⟩] 27)=W0 at *
 refine (kD _).mono ?_
 rintro e w1 ⟨rfl,b1⟩
 replace hF:=hF.below b1
 clear b1 kD
 by_cases h:s.size+q.size≤60000
 ·have hk:decide (s.size+q.size≤60000)=true:=decide_eq_true h
  simp only [hk]
  obtain ⟨_,_,c2,c3,_,_,_,_⟩:=hF.cells
  go_wp2_with fail
  refine (kR _).mono ?_
  rintro e w2 ⟨rfl,b1⟩
  replace hF:=hF.below b1
  clear b1 kR c2 c3
  by_cases hr:RecOk (k,t)
  ·have hk2:=recB_yes hr
   have HA:Hid (apR (s,q) (k,t)=appD (s,q) (frameOf (recT (k,t)))):=apR_yes h hr
   have h1:=hr.kind
   have h2:=hr.1
   have hfs:=frame9_small hr
   simp only [hk2]
   have kA:=fun W=>specAppendDisk_is s q (frameOf (recT (k,t))) W hd (by omega)
   generalize frameOf (recT (k,t))=F at *
   generalize appD (s,q) F=R at *
   obtain ⟨⟨u,x⟩,c⟩:=R
   unfold ResD D2.val at kA
   simp only at kA
   replace kT:=fun W=>kT W h1 h2
   clear h1 h2 hfs hr
   have HR:Hid (FrA w w2.drew (s,q) (k,t)):=hF.below (below_drewN (Below.refl _ w2) 1)
   obtain ⟨c0,c1,c2,c3,c4,c5,c6,c7⟩:=hF.cells
   clear hF
   go_wp2_with fail
   go_region_with (first | (go_at_call 50;refine (kT _).mono ?_;rintro e w' ⟨rfl,b1⟩;have HS:=FrA.hid b1 (by first | exact HR | assumption);obtain ⟨_,_,_,_,_,_,_,_⟩:=FrA.cells HS.out) | (go_at_call 52;refine (kA _).mono ?_;rintro e w'' ⟨rfl,b2⟩;have HT:=FrA.hid b2 (by first | exact HS | assumption);obtain ⟨_,_,_,_,_,_,_,_⟩:=FrA.cells HT.out))
   all_goals
    clear HR c0 c1 c2 c3 c4 c5 c6 c7
    obtain ⟨W,hW,e0,e1,bW⟩:=FrA.fin HT u x
    rw [← hW]
    clear hW HS HT
    go_wp2
    refine bodyPost_ret (by simp [results,Tryz.results25,go_sem,e0,e1];try rfl) rfl ?_
    exact ⟨by rw [HA.out];rfl,bW⟩
  ·have hk2:=recB_no hr
   have HA:Hid (apR (s,q) (k,t)=(noD,1)):=apR_no (fun h9=>hr h9.2)
   simp only [hk2]
   obtain ⟨c0,c1,c2,c3,c4,c5,c6,c7⟩:=hF.cells
   have HR:Hid (FrA w w2 (s,q) (k,t)):=hF
   clear hF
   go_wp2
   obtain ⟨W,hW,e0,e1,bW⟩:=FrA.fin HR noT noT
   rw [← hW]
   clear hW
   refine bodyPost_ret (by simp [results,Tryz.results25,go_sem,e0,e1];try rfl) rfl ?_
   exact ⟨by rw [HA.out];rfl,bW⟩
 ·have hk:decide (s.size+q.size≤60000)=false:=decide_eq_false h
  have HA:Hid (apR (s,q) (k,t)=(noD,1)):=apR_no (fun h9=>h h9.1)
  simp only [hk]
  obtain ⟨c0,c1,c2,c3,c4,c5,c6,c7⟩:=hF.cells
  have HR:Hid (FrA w w1 (s,q) (k,t)):=hF
  clear hF
  go_wp2
  obtain ⟨W,hW,e0,e1,bW⟩:=FrA.fin HR noT noT
  rw [← hW]
  clear hW
  refine bodyPost_ret (by simp [results,Tryz.results25,go_sem,e0,e1];try rfl) rfl ?_
  exact ⟨by rw [HA.out];rfl,bW⟩
end Go.Proofs.YtdopgkbegjfhjaaGreatDoor
