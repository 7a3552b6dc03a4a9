/-
  Joined: MachX.
-/
import Derived.Test.YtojcgajjnmjjpaaGreatDoorT13

set_option linter.unusedVariables false
namespace Go.Proofs.YtojcgajjnmjjpaaGreatDoor
set_option maxRecDepth 100000
set_option maxHeartbeats 16000000
open Go.RowKit

theorem isThreadX (n:Int) (w:World):Calls Tryz.prog 102 #[.int .i64 n] w fun e w'=>e=.returned (.bool (inB n 0 2))∧w=w':=by
 cases h:inB n 0 2
 ·rw [inB_false] at h
  by_cases h1:0≤n
  ·have h2:decide (n<3)=false:=by simp;omega
   clear h
   go_enter Tryz.func102,Tryz.ntmps102
   go_wp2
   go_ret
   exact ⟨rfl,rfl⟩
  ·clear h
   go_enter Tryz.func102,Tryz.ntmps102
   go_wp2
   go_ret
   exact ⟨rfl,rfl⟩
 ·rw [inB_true] at h
  obtain ⟨h1,h3⟩:=h
  have h2:decide (n<3)=true:=by simp;omega
  clear h3
  go_enter Tryz.func102,Tryz.ntmps102
  go_wp2
  go_ret
  exact ⟨by simp_all,rfl⟩

theorem threadAt_ok (a:Option Addr) (len cap:Nat) (rows:List (List I3)) (s:S4) (m:V4) (k:Nat) (w:World) (hC:Codes w a len cap rows) (h:Vmem w s m) (hV:VmShape w) (hp:progOk rows=true) (hs:shapeOk m=true) (hk:k<3) (cs:Sl × Sl × Sl) (hR:RowsAt w a cs rows) :
  Calls Tryz.prog 54 #[.agg #[.slice a len cap],s.val,.int .i64 k] w fun e w'=>e=.returned (.tuple #[.agg (machCells cs.1.val cs.2.1.val cs.2.2.val m).toArray,.int .i64 0])∧Below w.heap.size w w':=by
 have hM:=fun (W:World) (hb:Below w.heap.size w W)=>h.below hb
 have kM:=fun w hC h hV=>machineOf_ok a len cap rows s m w hC h hV hp hs
 obtain ⟨⟨a0,n0,c0⟩,⟨a1,n1,c1⟩,⟨a2,n2,c2⟩,⟨a3,n3,c3⟩⟩:=s
 have uA:S4.val ((a0,n0,c0),(a1,n1,c1),(a2,n2,c2),(a3,n3,c3))=.agg #[.slice a0 n0 c0,.slice a1 n1 c1,.slice a2 n2 c2,.slice a3 n3 c3]:=rfl
 rw [uA] at kM ⊢
 clear uA h
 have bw:Below w.heap.size w (((w.alloc (.cells #[.slice a len cap] 25)).alloc (.cells #[.slice a0 n0 c0,.slice a1 n1 c1,.slice a2 n2 c2,.slice a3 n3 c3] 37)).alloc (.cells #[.slice none 0 0,.int .i64 0,.int .i64 0,.int .i64 0,.slice none 0 0,.int .i64 0,.int .i64 0,.int .i64 0,.slice none 0 0,.int .i64 0,.int .i64 0,.int .i64 0,.int .i64 0,.int .i64 0,.int .i64 0,.int .i64 0,.int .i64 0,.int .i64 0] 70)):=by go_grown
 have pR:Blk (((w.alloc (.cells #[.slice a len cap] 25)).alloc (.cells #[.slice a0 n0 c0,.slice a1 n1 c1,.slice a2 n2 c2,.slice a3 n3 c3] 37)).alloc (.cells #[.slice none 0 0,.int .i64 0,.int .i64 0,.int .i64 0,.slice none 0 0,.int .i64 0,.int .i64 0,.int .i64 0,.slice none 0 0,.int .i64 0,.int .i64 0,.int .i64 0,.int .i64 0,.int .i64 0,.int .i64 0,.int .i64 0,.int .i64 0,.int .i64 0] 70)) (w.heap.size+1+1) 70 [.slice none 0 0,.int .i64 0,.int .i64 0,.int .i64 0,.slice none 0 0,.int .i64 0,.int .i64 0,.int .i64 0,.slice none 0 0,.int .i64 0,.int .i64 0,.int .i64 0,.int .i64 0,.int .i64 0,.int .i64 0,.int .i64 0,.int .i64 0,.int .i64 0]:=blkAt _ _ _ (by simp)
 go_enter Tryz.func54,Tryz.ntmps54
 go_wp2_with fail
 refine (kM _ (hC.below bw) (hM _ bw) (hV.below bw)).mono ?_
 rintro e w1 ⟨⟨cs9,rfl,HI⟩,hb⟩
 obtain rfl:=(hR.below bw).uniq HI
 replace bw:=bel_trans bw hb
 replace pR:=pR.below hb
 have hlR:=pR.lt
 have hg1:w.heap.size<w1.heap.size:=Nat.lt_of_lt_of_le (by simp;omega) hb.size
 clear hb kM hM hV hC
 have pN:=Blk.new w1 70 [.slice none 0 0,.int .i64 0,.int .i64 0,.int .i64 0,.slice none 0 0,.int .i64 0,.int .i64 0,.int .i64 0,.slice none 0 0,.int .i64 0,.int .i64 0,.int .i64 0,.int .i64 0,.int .i64 0,.int .i64 0,.int .i64 0,.int .i64 0,.int .i64 0]
 have bN:Below w1.heap.size w1 (w1.alloc (.cells #[.slice none 0 0,.int .i64 0,.int .i64 0,.int .i64 0,.slice none 0 0,.int .i64 0,.int .i64 0,.int .i64 0,.slice none 0 0,.int .i64 0,.int .i64 0,.int .i64 0,.int .i64 0,.int .i64 0,.int .i64 0,.int .i64 0,.int .i64 0,.int .i64 0] 70)):=by go_grown
 go_wp2_with (refine wpList_store_blk rfl 70 _ _ rfl w1.heap.size (machCells cs.1.val cs.2.1.val cs.2.2.val m) rfl rfl pN (by kernel_rfl) rfl rfl ?_)
 intro w2 pM g2
 replace pR:=(pR.below bN).kept g2 (by simp;omega)
 replace bw:=(bel_trans bw bN).grown g2 (by simp;omega) (fun x hx=>by cases hx;omega)
 clear g2 bN pN
 generalize w1.heap.size=gM at *
 have hk3:(k:Int)<3:=by omega
 have kT:=isThreadX k
 rw [show inB (k:Int) 0 2=true from inB_true.2 (by omega)] at kT
 go_wp2_with fail
 refine (kT _).mono ?_
 rintro e w9 ⟨rfl,rfl⟩
 go_wp2_with (first | refine wpList_load_blk rfl 70 _ rfl gM rfl pM.out _ Tryz.underlying70 rfl (by kernel_rfl) ?_ | refine wpList_store_blk rfl 70 _ _ rfl (w.heap.size+1+1) (machCells cs.1.val cs.2.1.val cs.2.2.val m) rfl rfl pR (by kernel_rfl) rfl rfl ?_)
 intro w3 pR3 g3
 replace bw:=bw.grown g3 bw.size (fun x hx=>by cases hx;omega)
 clear g3 pR pM
 go_wp2_with fail
 refine bodyPost_ret (results_blk2 Tryz.results54 _ _ _ _ _ _ rfl pR3.out Tryz.underlying70 rfl (by kernel_rfl)) rfl ?_
 exact ⟨rfl,bw⟩

theorem implEnabledOf_bad (a:Option Addr) (len cap:Nat) (rows:List (List I3)) (s:S4) (m:V4)  (w:World) (hC:Codes w a len cap rows) (h:Vmem w s m) (hV:VmShape w) (hok:(progOk rows && shapeOk m)=false) :
  Calls Tryz.prog 14 #[.agg #[.slice a len cap],s.val] w fun e w'=>e=.returned (.tuple #[.slice none 0 0,.int .i64 1])∧Below w.heap.size w w':=by
 have hM:=fun (W:World) (hb:Below w.heap.size w W)=>h.below hb
 have kM:=fun w hC h hV=>machineOf_bad a len cap rows s m w hC h hV hok
 obtain ⟨⟨a0,n0,c0⟩,⟨a1,n1,c1⟩,⟨a2,n2,c2⟩,⟨a3,n3,c3⟩⟩:=s
 have uA:S4.val ((a0,n0,c0),(a1,n1,c1),(a2,n2,c2),(a3,n3,c3))=.agg #[.slice a0 n0 c0,.slice a1 n1 c1,.slice a2 n2 c2,.slice a3 n3 c3]:=rfl
 rw [uA] at kM ⊢
 clear uA h
 have bw:Below w.heap.size w ((w.alloc (.cells #[.slice a len cap] 25)).alloc (.cells #[.slice a0 n0 c0,.slice a1 n1 c1,.slice a2 n2 c2,.slice a3 n3 c3] 37)):=by go_grown
 go_enter Tryz.func14,Tryz.ntmps14
 go_wp2_with fail
 refine (kM _ (hC.below bw) (hM _ bw) (hV.below bw)).mono ?_
 rintro e w1 ⟨rfl,hb⟩
 replace bw:=bel_trans bw hb
 skip
 skip
 have hg1:w.heap.size<w1.heap.size:=Nat.lt_of_lt_of_le (by simp;omega) hb.size
 clear hb kM hM hV hC
 have pN:=Blk.new w1 70 [.slice none 0 0,.int .i64 0,.int .i64 0,.int .i64 0,.slice none 0 0,.int .i64 0,.int .i64 0,.int .i64 0,.slice none 0 0,.int .i64 0,.int .i64 0,.int .i64 0,.int .i64 0,.int .i64 0,.int .i64 0,.int .i64 0,.int .i64 0,.int .i64 0]
 have bN:Below w1.heap.size w1 (w1.alloc (.cells #[.slice none 0 0,.int .i64 0,.int .i64 0,.int .i64 0,.slice none 0 0,.int .i64 0,.int .i64 0,.int .i64 0,.slice none 0 0,.int .i64 0,.int .i64 0,.int .i64 0,.int .i64 0,.int .i64 0,.int .i64 0,.int .i64 0,.int .i64 0,.int .i64 0] 70)):=by go_grown
 go_wp2_with (refine wpList_store_blk rfl 70 _ _ rfl w1.heap.size [.slice none 0 0,.int .i64 0,.int .i64 0,.int .i64 0,.slice none 0 0,.int .i64 0,.int .i64 0,.int .i64 0,.slice none 0 0,.int .i64 0,.int .i64 0,.int .i64 0,.int .i64 0,.int .i64 0,.int .i64 0,.int .i64 0,.int .i64 0,.int .i64 0] rfl rfl pN (by kernel_rfl) rfl rfl ?_)
 intro w2 pM g2
 skip
 replace bw:=(bel_trans bw bN).grown g2 (by simp;omega) (fun x hx=>by cases hx;omega)
 clear g2 bN pN
 generalize w1.heap.size=gM at *
 go_wp2
 go_ret2
 exact ⟨rfl,bw⟩

theorem implEnabledOf_ok (a:Option Addr) (len cap:Nat) (rows:List (List I3)) (s:S4) (m:V4)  (w:World) (hC:Codes w a len cap rows) (h:Vmem w s m) (hV:VmShape w) (hp:progOk rows=true) (hs:shapeOk m=true) :
  Calls Tryz.prog 14 #[.agg #[.slice a len cap],s.val] w fun e w'=>(∃ s9:Sl,e=.returned (.tuple #[.slice s9.1 s9.2.1 s9.2.2,.int .i64 0])∧OwnI w' w.heap.size s9 (enabM rows m 3))∧Below w.heap.size w w':=by
 obtain ⟨-,cs,hR⟩:=hC.rowsAt hp
 have hM:=fun (W:World) (hb:Below w.heap.size w W)=>h.below hb
 have kM:=fun w hC h hV=>machineOf_ok a len cap rows s m w hC h hV hp hs
 obtain ⟨⟨a0,n0,c0⟩,⟨a1,n1,c1⟩,⟨a2,n2,c2⟩,⟨a3,n3,c3⟩⟩:=s
 have uA:S4.val ((a0,n0,c0),(a1,n1,c1),(a2,n2,c2),(a3,n3,c3))=.agg #[.slice a0 n0 c0,.slice a1 n1 c1,.slice a2 n2 c2,.slice a3 n3 c3]:=rfl
 rw [uA] at kM ⊢
 clear uA h
 have bw:Below w.heap.size w ((w.alloc (.cells #[.slice a len cap] 25)).alloc (.cells #[.slice a0 n0 c0,.slice a1 n1 c1,.slice a2 n2 c2,.slice a3 n3 c3] 37)):=by go_grown
 go_enter Tryz.func14,Tryz.ntmps14
 go_wp2_with fail
 refine (kM _ (hC.below bw) (hM _ bw) (hV.below bw)).mono ?_
 rintro e w1 ⟨⟨cs9,rfl,HI⟩,hb⟩
 obtain rfl:=(hR.below bw).uniq HI
 replace bw:=bel_trans bw hb
 skip
 skip
 have hg1:w.heap.size<w1.heap.size:=Nat.lt_of_lt_of_le (by simp;omega) hb.size
 clear hb kM hM hV hC
 have pN:=Blk.new w1 70 [.slice none 0 0,.int .i64 0,.int .i64 0,.int .i64 0,.slice none 0 0,.int .i64 0,.int .i64 0,.int .i64 0,.slice none 0 0,.int .i64 0,.int .i64 0,.int .i64 0,.int .i64 0,.int .i64 0,.int .i64 0,.int .i64 0,.int .i64 0,.int .i64 0]
 have bN:Below w1.heap.size w1 (w1.alloc (.cells #[.slice none 0 0,.int .i64 0,.int .i64 0,.int .i64 0,.slice none 0 0,.int .i64 0,.int .i64 0,.int .i64 0,.slice none 0 0,.int .i64 0,.int .i64 0,.int .i64 0,.int .i64 0,.int .i64 0,.int .i64 0,.int .i64 0,.int .i64 0,.int .i64 0] 70)):=by go_grown
 go_wp2_with (refine wpList_store_blk rfl 70 _ _ rfl w1.heap.size (machCells cs.1.val cs.2.1.val cs.2.2.val m) rfl rfl pN (by kernel_rfl) rfl rfl ?_)
 intro w2 pM g2
 skip
 replace bw:=(bel_trans bw bN).grown g2 (by simp;omega) (fun x hx=>by cases hx;omega)
 clear g2 bN pN
 generalize w1.heap.size=gM at *
 have hMA:=(hR.below bw).mach pM.out
 have kE:=enabled_is gM cs rows m w2 hMA hp hs
 go_wp2_with fail
 refine kE.mono ?_
 rintro e w3 ⟨⟨⟨sa,sn,sc⟩,rfl,hO⟩,hb⟩
 have hO2:OwnI w3 w.heap.size (sa,sn,sc) (enabM rows m 3):=own_lower hO bw.size
 replace bw:=bel_trans bw hb
 simp only
 go_wp2
 go_ret2
 exact ⟨⟨(sa,sn,sc),rfl,hO2⟩,bw⟩

end Go.Proofs.YtojcgajjnmjjpaaGreatDoor
