/-
  Joined: RcoI.
-/
import Derived.Test.YtdopgkbegjfhjaaGreatDoorR46
import Derived.Test.YtdopgkbegjfhjaaGreatDoorR50

namespace Go.Proofs.YtdopgkbegjfhjaaGreatDoor
set_option maxRecDepth 100000
set_option maxHeartbeats 16000000
open Go.RowKit
set_option linter.unusedVariables false
set_option linter.unusedSimpArgs false

theorem implRecordText_is (r:R2) (w:World) (hz:r.2.size≤1048576) (hV:VmShape w) (hE:ErrType w) :
  Calls Tryz.prog 13 #[r.val] w fun e w'=>e=ResT (recC r)∧Below w.heap.size w w':=by
 obtain ⟨k,t⟩:=r
 have hB:=Blk.new w 24 [.int .i64 k,.string t]
 have b0:=bel_new w (.cells #[.int .i64 k,.string t] 24)
 have c0:=hB.cell 0
 have c1:=hB.cell 1
 simp only [List.getElem?_cons_zero,List.getElem?_cons_succ] at c0 c1
 have kR0:=fun W (hb:Below w.heap.size w W)=>implRecordOK_is (k,t) W hz (hV.below hb) (hE.below hb)
 have kR:=kR0 _ b0
 clear kR0 hV hE
 unfold R2.val at kR ⊢
 simp only at kR ⊢
 go_enter Tryz.func13,Tryz.ntmps13
 go_wp2_with fail
 clear c0 c1
 refine kR.mono ?_
 rintro e w1 ⟨rfl,b1⟩
 replace hB:=hB.below b1
 replace b0:=belD b0 b1
 clear b1 kR
 have c0:=hB.cell 0
 have c1:=hB.cell 1
 simp only [List.getElem?_cons_zero,List.getElem?_cons_succ] at c0 c1
 by_cases hr:RecOk (k,t)
 ·have hk:=recB_yes hr
  have HA:Hid (recC (k,t)=(frameOf (recT (k,t)),0)):=recC_yes hr
  obtain ⟨h1,h1'⟩:=hr.kind
  have h2:=hr.1
  have hsz:=recT_small hr
  simp only at h1 h1' h2
  obtain ⟨m,rfl⟩:∃ m:Nat,k=(m:Int):=⟨k.toNat,by omega⟩
  have hm:m<10:=by omega
  have hT:digT m++t=recT ((m:Int),t):=rfl
  have kF:=fun W=>implFrameText_ok (digT m++t) W (by rw [hT];omega)
  rw [hT] at kF
  simp only [hk]
  have hadd:=fun W=>run_string_add_sum (P:=Tryz.prog) W (digT m) t (by unfold digT;rw [strOfNums_size];simp only [List.length_cons,List.length_nil];omega)
  rw [hT] at hadd
  generalize recT ((m:Int),t)=T at *
  clear hT hr
  go_wp2_with fail
  go_region_held3 (fun w'=>w'.cell? ⟨w.heap.size,0,none⟩=some (.int .i64 (m:Int))∧w'.cell? ⟨w.heap.size,1,none⟩=some (.string t)) (first | (exact ⟨c0,c1⟩) | (refine ⟨?_,?_⟩<;>(apply cells_kept (by assumption);assumption)) | go_keep)
   (first | (go_at_call 40;refine (itoa_digit m hm _).mono ?_;rintro e w3 ⟨rfl,rfl⟩) | (go_at_call 39;refine (kF _).mono ?_;rintro e w2 ⟨rfl,b2⟩))
  generalize frameOf T=F at *
  go_wp2
  go_ret2
  exact ⟨by rw [HA.out];rfl,by first | exact belD b0 b2 | exact belD (drew8 b0 _) b2⟩
 ·have hk:=recB_no hr
  have HA:Hid (recC (k,t)=(noT,1)):=recC_no hr
  simp only [hk]
  go_wp2
  go_ret2
  exact ⟨by rw [HA.out];rfl,b0⟩

theorem implAppendRecord_is (d:D2) (r:R2) (w:World) (hd:d.1.size+d.2.size≤1048576) (hz:r.2.size≤1048576) (hV:VmShape w) (hE:ErrType w) :
  Calls Tryz.prog 11 #[d.val,r.val] w fun e w'=>e=ResD (apR d r)∧Below w.heap.size w w':=by
 obtain ⟨s,q⟩:=d
 obtain ⟨k,t⟩:=r
 have hF:=FrA.new w (s,q) (k,t)
 have kR0:=fun W (hb:Below w.heap.size w W)=>implRecordText_is (k,t) W hz (hV.below hb) (hE.below hb)
 have kA:=fun x W=>implAppendDisk_is s q x W hd
 clear hV hE
 unfold R2.val D2.val at *
 simp only at kR0 hd hz ⊢
 go_enter Tryz.func11,Tryz.ntmps11
 obtain ⟨c0,c1,c2,c3,c4,c5,c6,c7⟩:=hF.cells
 go_wp2_with fail
 refine (kR0 _ hF.2.2.2).mono ?_
 rintro e w1 ⟨rfl,b1⟩
 replace hF:=hF.below b1
 clear b1 kR0 c0 c1 c2 c3 c4 c5 c6 c7
 obtain ⟨c0,c1,c2,c3,c4,c5,c6,c7⟩:=hF.cells
 by_cases hr:RecOk (k,t)
 ·have hfs:=frame9_small hr
  have HA:Hid (apR (s,q) (k,t)=appD (s,q) (frameOf (recT (k,t)))):=by
   by_cases h:s.size+q.size≤60000
   ·exact apR_yes h hr
   ·rw [Hid,apR_no (fun g=>h g.1)]
    unfold appD
    rw [if_neg (by omega),if_pos h]
  rw [recC_yes hr]
  have kA:=kA (frameOf (recT (k,t)))
  generalize frameOf (recT (k,t))=F at *
  have kA:=fun W=>kA W (by omega)
  generalize appD (s,q) F=R at *
  obtain ⟨⟨u,x⟩,c⟩:=R
  unfold ResD D2.val at *
  unfold ResT
  simp only at kA
  clear hr hfs
  go_wp2_with fail
  refine (kA _).mono ?_
  rintro e w2 ⟨rfl,b2⟩
  replace hF:=hF.below b2
  clear b2 kA c0 c1 c2 c3 c4 c5 c6 c7
  obtain ⟨c0,c1,c2,c3,c4,c5,c6,c7⟩:=hF.cells
  obtain ⟨W,hW,e0,e1,bW⟩:=FrA.fin (show Hid (FrA w _ (s,q) (k,t)) from hF) u x
  go_wp2
  rw [← hW]
  clear hW
  refine bodyPost_ret (by simp [results,Tryz.results11,go_sem,e0,e1];try rfl) rfl ?_
  exact ⟨by rw [HA.out];rfl,bW⟩
 ·have HA:Hid (apR (s,q) (k,t)=(noD,1)):=apR_no (fun g=>hr g.2)
  rw [recC_no hr]
  obtain ⟨W,hW,e0,e1,bW⟩:=FrA.fin (show Hid (FrA w _ (s,q) (k,t)) from hF) noT noT
  unfold ResT
  simp only
  clear kA hr
  go_wp2
  rw [← hW]
  clear hW
  refine bodyPost_ret (by simp [results,Tryz.results11,go_sem,e0,e1];try rfl) rfl ?_
  exact ⟨by rw [HA.out];rfl,bW⟩
end Go.Proofs.YtdopgkbegjfhjaaGreatDoor
