/-
  Joined: SameInts, FftW, Vars.
-/
import Derived.WalkSmall
import Derived.ChangeOld
import Derived.Test.YtifoggpohlegmaaGreatDoorF46
import Derived.Test.YtifoggpohlegmaaGreatDoorF47
import Derived.Test.YtifoggpohlegmaaGreatDoorF48

namespace Go.Proofs.YtifoggpohlegmaaGreatDoor
set_option maxRecDepth 100000
set_option maxHeartbeats 16000000
open Go.RowKit

theorem sameInts_same (a a':Option Addr) (len cap cap':Nat) (zs:List Int) (w:World) (h:Ints .i64 w a len cap zs) (h':Ints .i64 w a' len cap' zs) :
  Calls Tryz.prog 21 #[.slice a len cap,.slice a' len cap'] w fun e w'=>e=.returned (.bool true)∧∃ d,w'=w.drewN d:=by
 obtain ⟨hl,hlc,hcm,hcase⟩:=h
 obtain ⟨_,hlc',hcm',hcase'⟩:=h'
 unfold maxLen at hcm hcm'
 have hne:((len:Int) != (len:Int))=false:=by simp
 by_cases h0:len=0
 ·subst h0
  go_enter Tryz.func21,Tryz.ntmps21
  go_wp2
  refine wp_loop_rounds 1 ?_
  rw [rounds_succ]
  go_wp2
  go_ret
  exact ⟨rfl,0,rfl⟩
 ·rcases hcase with h0' | ⟨b,off,rfl,hblt,hcell⟩
  ·exact absurd h0' h0
  rcases hcase' with h0' | ⟨b',off',rfl,hblt',hcell'⟩
  ·exact absurd h0' h0
  go_enter Tryz.func21,Tryz.ntmps21
  go_wp2
  go_loopw [5] (fun si wr=>∃ k d:Nat,k≤len∧si=.int .i64 k∧wr=w.drewN d) (fun si _=>len - (intOf si).toNat)
  case atStart=>exact ⟨0,0,by omega,rfl,rfl⟩
  case round =>
   obtain ⟨k,d,hk,rfl,rfl⟩:=hrel
   by_cases hlt:k<len
   ·have hc:=hcell k hlt
    have hc':=hcell' k hlt
    have hlt':(k:Int)<(len:Int):=by omega
    generalize zs.getD k 0=x at hc hc'
    clear hcell hcell'
    go_wp2
    go_quiet (fail)
    go_wp2
    go_roundw
    case rel=>exact ⟨k+1,_,by omega,by go_num,rfl⟩
    case measure=>simp [intOf];omega
   ·go_wp2
    go_ret
    exact ⟨rfl,d,rfl⟩

set_option linter.unusedVariables false
set_option linter.unusedSimpArgs false

theorem sameF8 (a a':Option Addr) (len cap cap':Nat) (zs:List Int) (w:World) (h:Ints .i64 w a len cap zs) (h':Ints .i64 w a' len cap' zs) :
  Calls Tryz.prog 21 #[.slice a len cap,.slice a' len cap'] w fun e w'=>e=.returned (.bool true)∧Below w.heap.size w w':=by
 refine (sameInts_same a a' len cap cap' zs w h h').mono ?_
 rintro e w' ⟨rfl,d,rfl⟩
 exact ⟨rfl,⟨rfl,rfl,rfl,Nat.le_refl _,fun _ _=>rfl⟩⟩
theorem foot_pos {rows:List (List I3)} (h:ProgS rows) {m:V4} (hs:shapeOk m=true):0<(footA rows m).length:=by
 have hr:(fullM rows m).length<2000:=by have:=small_roomM h hs;omega
 have:m.1.getD 0 0 ∈ footA rows m:=(foot_mem h.1 hs hr _).2 ⟨(m,0,0),List.mem_of_getElem? (fullM_head rows m),by simp [lookM]⟩
 exact List.length_pos_of_mem this
structure OnFf (rows:List (List I3)) (m:V4) (u2 wr:World) (va:Value) (la:Option Addr) (ln lc i:Nat):Prop where
 al:wr.ownsRow u2.heap.size 3 1 va (feetI rows m i).length ((feetI rows m i).map (Value.int .i64))
 ls:OwnI wr u2.heap.size (la,ln,lc) (enabM rows m 3)
 az:Ap3 (.slice la ln lc) va
 bl:Below u2.heap.size u2 wr

theorem fnFoot_walk (a0:Option Addr) (len0 cap0:Nat) (z0:List Int) (a1:Option Addr) (len1 cap1:Nat) (z1:List Int) (w:World) (h0:IsRow .u8 w a0 len0 cap0 z0) (h1:IsRow .u8 w a1 len1 cap1 z1) (hV:VmShape w) :
  Calls Tryz.prog 9 #[.slice a0 len0 cap0,.slice a1 len1 cap1] w fun e w'=>e=.returned (.bool true)∧Below w.heap.size w w':=by
 have m0:=h0.len_le
 have m1:=h1.len_le
 unfold maxLen at m0 m1
 by_cases hb0:1048576<len0
 ·go_enter Tryz.func9,Tryz.ntmps9
  go_wp2
  go_ret
  exact ⟨rfl,Below.refl _ _⟩
 by_cases hb1:1048576<len1
 ·go_enter Tryz.func9,Tryz.ntmps9
  go_wp2
  go_ret
  exact ⟨rfl,Below.refl _ _⟩
 have l0:len0≤1048576:=by omega
 have l1:len1≤1048576:=by omega
 clear hb0 hb1 m0 m1
 obtain ⟨i0,hi0,hz0,hz1,hz2⟩:=info_parts info_int
 have bw:Below w.heap.size w w:=Below.refl _ _
 go_enter Tryz.func9,Tryz.ntmps9
 go_wp2_with fail
 refine (smallDrawn_any _ _ _ z0 _ h0 l0).mono ?_
 rintro e w1 ⟨⟨v,rows,hok,rfl,ho⟩,hb⟩
 have h3:=(progOk_parts hok.1).1
 obtain ⟨a,cap,hv⟩:=ho.slice
 rw [h3] at hv
 subst hv
 have hC:=ho.codes (fun r hr x hx=>okI_fits ((progOk_parts hok.1).2 r hr |>.2 x hx))
 clear ho h0
 replace h1:=h1.below hb
 replace hV:=hV.below hb
 replace bw:=bel_trans bw hb
 clear hb h3
 have HOK:Hid (ProgS rows):=hok
 clear hok
 have ha:Below w1.heap.size w1 (w1.alloc (.cells #[.slice a 3 cap] 25)):=by go_grown
 have pP:Blk (w1.alloc (.cells #[.slice a 3 cap] 25)) w1.heap.size 25 [.slice a 3 cap]:=blkAt _ _ _ rfl
 replace h1:=h1.below ha
 replace hV:=hV.below ha
 replace hC:=hC.below ha
 replace bw:=bel_trans bw ha
 clear ha
 go_wp2_with (first | refine wpList_load_blk rfl 25 _ rfl w1.heap.size rfl pP _ Tryz.underlying25 rfl (by kernel_rfl) ?_)
 generalize (w1.alloc (.cells #[.slice a 3 cap] 25))=wp at *
 generalize w1.heap.size=P at *
 refine (vmDrawn_any _ _ _ z1 a cap rows _ h1 l1 hC HOK.out.1).mono ?_
 rintro e w2 ⟨⟨⟨⟨s0a,s0n,s0c⟩,⟨s1a,s1n,s1c⟩,⟨s2a,s2n,s2c⟩,⟨s3a,s3n,s3c⟩⟩,m,rfl,hO,hs⟩,hb⟩
 have us:S4.val ((s0a,s0n,s0c),(s1a,s1n,s1c),(s2a,s2n,s2c),(s3a,s3n,s3c))=.agg #[.slice s0a s0n s0c,.slice s1a s1n s1c,.slice s2a s2n s2c,.slice s3a s3n s3c]:=rfl
 rw [us]
 have hM:=hO.mem (shape_fits9 hs).1
 have HS:Hid (shapeOk m=true):=hs
 replace hV:=hV.below hb
 replace hC:=hC.below hb
 replace pP:=pP.below hb
 replace bw:=bel_trans bw hb
 clear hb hO hs h1
 have pN:=Blk.new w2 33 [.slice none 0 0,.slice none 0 0,.slice none 0 0,.slice none 0 0]
 have ha:Below w2.heap.size w2 (w2.alloc (.cells #[.slice none 0 0,.slice none 0 0,.slice none 0 0,.slice none 0 0] 33)):=by go_grown
 go_wp2_with (refine wpList_store_blk rfl 33 _ _ rfl w2.heap.size [.slice s0a s0n s0c,.slice s1a s1n s1c,.slice s2a s2n s2c,.slice s3a s3n s3c] rfl rfl pN (by kernel_rfl) rfl rfl ?_)
 intro w3 p3 g3
 have pX:=p3.out
 have hb:Below w2.heap.size w2 w3:=ha.grown g3 ha.size (fun q e=>by cases e;exact Nat.le_refl _)
 replace hV:=hV.below hb
 replace hC:=hC.below hb
 replace hM:=hM.below hb
 replace pP:=pP.below hb
 replace bw:=bel_trans bw hb
 clear p3 g3 ha pN hb
 generalize w2.heap.size=X at *
 have hroom:(fullM rows m).length<2000:=by have:=small_roomM HOK.out HS.out;omega
 have hok9:(progOk rows && shapeOk m)=true:=by rw [HOK.out.1,HS.out];rfl
 have eC:=footC_ok hok9 hroom
 obtain ⟨fI,fL⟩:=foot_items HOK.out.1 HS.out hroom
 have eL:lookA rows m=lookM m:=by unfold lookA;rw [hok9];rfl
 have eE:enabA rows m=enabM rows m 3:=by unfold enabA;rw [hok9];rfl
 have eS:stuckC rows m=0:=by unfold stuckC;rw [hok9];rfl
 have kF:=implFootOf_is a 3 cap rows ((s0a,s0n,s0c),(s1a,s1n,s1c),(s2a,s2n,s2c),(s3a,s3n,s3c)) m w3 hC hM hV
 have kG:=fun (W:World) (b:Below w3.heap.size w3 W)=>specFootOf_is a 3 cap rows ((s0a,s0n,s0c),(s1a,s1n,s1c),(s2a,s2n,s2c),(s3a,s3n,s3c)) m W (hC.below b) (hM.below b)
 have kL:=fun (W:World) (b:Below w3.heap.size w3 W)=>implLooksAt_is a 3 cap rows ((s0a,s0n,s0c),(s1a,s1n,s1c),(s2a,s2n,s2c),(s3a,s3n,s3c)) m W (hC.below b) (hM.below b) (hV.below b)
 have kE:=fun (W:World) (b:Below w3.heap.size w3 W)=>implEnabledOf_is a 3 cap rows ((s0a,s0n,s0c),(s1a,s1n,s1c),(s2a,s2n,s2c),(s3a,s3n,s3c)) m W (hC.below b) (hM.below b) (hV.below b)
 rw [us] at kF kG kL kE
 rw [eC] at kF kG
 rw [eL,eS] at kL
 rw [eE,eS] at kE
 clear eC eL eE eS hok9 us
 go_wp2_with (first | refine wpList_load_blk rfl 25 _ rfl P rfl pP _ Tryz.underlying25 rfl (by kernel_rfl) ?_ | refine wpList_load_blk rfl 33 _ rfl X rfl pX _ Tryz.underlying33 rfl (by kernel_rfl) ?_)
 refine kF.mono ?_
 rintro e u1 ⟨⟨⟨fa,fn,fc⟩,rfl,qF⟩,hb⟩
 have b1:=hb
 have hfn:(footA rows m).length=fn:=by have:=qF.1;simpa using this
 have iF:=qF.ints
 replace bw:=bel_trans bw hb
 replace pP:=pP.below hb
 replace pX:=pX.below hb
 have kGx:=kG u1 b1
 clear hb kF qF kG
 simp only
 go_wp2_with (first | refine wpList_load_blk rfl 25 _ rfl P rfl pP _ Tryz.underlying25 rfl (by kernel_rfl) ?_ | refine wpList_load_blk rfl 33 _ rfl X rfl pX _ Tryz.underlying33 rfl (by kernel_rfl) ?_)
 refine kGx.mono ?_
 rintro e u2 ⟨⟨⟨ga,gn,gc⟩,rfl,iG⟩,hb⟩
 have hgn:(footA rows m).length=gn:=iG.1
 obtain rfl:fn=gn:=by omega
 replace b1:=bel_trans b1 hb
 replace bw:=bel_trans bw hb
 replace pP:=pP.below hb
 replace pX:=pX.below hb
 replace iF:=iF.below hb
 replace hC:=hC.below b1
 replace hM:=hM.below b1
 replace hV:=hV.below b1
 have kLx:=kL u2 b1
 clear hb kGx kL hgn
 simp only
 go_wp2_with (first | refine wpList_load_blk rfl 25 _ rfl P rfl pP _ Tryz.underlying25 rfl (by kernel_rfl) ?_ | refine wpList_load_blk rfl 33 _ rfl X rfl pX _ Tryz.underlying33 rfl (by kernel_rfl) ?_)
 refine kLx.mono ?_
 rintro e u3 ⟨⟨⟨ra,rn,rc⟩,rfl,qR⟩,hb⟩
 have hrn:(lookM m).length=rn:=by have:=qR.1;simpa using this
 have hr3:rn=3:=by rw [← hrn];rfl
 subst hr3
 clear hrn
 have bl:=hb
 have b3:=bel_trans b1 hb
 have kEx:=kE u3 b3
 have pP3:=pP.below hb
 have pX3:=pX.below hb
 have iG3:=iG.below hb
 have hs2:=hb.size
 clear hb kLx kE b3 b1
 simp only
 go_wp2_with (first | refine wpList_load_blk rfl 25 _ rfl P rfl pP3 _ Tryz.underlying25 rfl (by kernel_rfl) ?_ | refine wpList_load_blk rfl 33 _ rfl X rfl pX3 _ Tryz.underlying33 rfl (by kernel_rfl) ?_)
 refine kEx.mono ?_
 rintro e u4 ⟨⟨⟨la,ln,lc⟩,rfl,qL⟩,hb⟩
 have hLn:(enabM rows m 3).length=ln:=by have:=qL.1;simpa using this
 have hn3:ln≤3:=by rw [← hLn];exact enabM_len rows m 3
 have az:Ap3 (.slice la ln lc) (.slice ra 3 rc):=(Ap3.fresh qR qL (Nat.le_refl _)).symm
 replace qR:=owns_below qR hb
 replace qL:OwnI u4 u2.heap.size (la,ln,lc) (enabM rows m 3):=own_lower qL hs2
 replace bl:=bel_trans bl hb
 have kS:=sameF8 fa ga fn fc gc (footA rows m) u4 (iF.below bl) (iG3.below hb)
 clear hb kEx iG iG3 pP3 pX3 hs2
 simp only
 go_wp2_with fail
 refine kS.mono ?_
 rintro e u5 ⟨rfl,hb⟩
 replace qR:=owns_below qR hb
 replace qL:=qL.below hb
 replace bl:=bel_trans bl hb
 clear hb kS
 have st0 : OnFf rows m u2 u5 (.slice ra 3 rc) la ln lc 0 := ⟨by have e9 : feetI rows m 0 = lookM m := by simp [feetI]
                                                                 rw [e9];exact qR,qL,az,bl⟩
 clear qR qL az bl
 go_wp2_with fail
 go_loopw [11,15] (fun s11 s15 wr=>∃ i:Nat,s15=.int .i64 i∧i≤ln∧OnFf rows m u2 wr s11 la ln lc i) (fun _ s15 _=>ln - (Go.RowKit.intOf s15).toNat)
 case atStart=>exact ⟨0,rfl,Nat.zero_le _,st0⟩
 case round =>
  clear st0
  obtain ⟨i,rfl,hin,qA,qL,az,bl⟩:=hrel
  obtain ⟨hfo,hfl⟩:=feetI_ok HOK.out HS.out i (by omega)
  obtain ⟨aa,ac,rfl⟩:=slice8 qA
  by_cases hlt:i<ln
  ·have hlt3:(i:Int)<(ln:Int):=by omega
   have hi9:(0:Int)≤(i:Int):=by omega
   have hkj:(enabM rows m 3)[i]?=some ((enabM rows m 3).getD i 0):=by rw [List.getD,List.getElem?_eq_getElem (by omega)];rfl
   have hz:=enab_halt (List.mem_of_getElem? hkj)
   obtain ⟨h0k,h2k,hd,hcn⟩:=halt_can hz
   obtain ⟨k,hk⟩:∃ k:Nat,(enabM rows m 3).getD i 0=(k:Int):=⟨_,(Int.toNat_of_nonneg h0k).symm⟩
   obtain ⟨lb,lo,rfl,hc,hlb⟩:=ints_cellS qL.ints (show i<ln from hlt)
   rw [hk] at hkj hz hd hcn h0k h2k hc
   rw [Int.toNat_natCast] at hd hcn
   have hk3:k<3:=by omega
   clear hk hlb
   have hw9:waitM rows m k=false:=by
    unfold canM at hcn
    unfold waitM
    rw [hd] at hcn ⊢
    simpa using hcn
   have hx:=goM_shape HOK.out.1 HS.out hz
   have HFs:Hid (feetI rows m (i+1)=feetI rows m i++footA rows (goM rows m (k:Int)).1):=feetI_succ hkj
   have hroom9:(fullM rows (goM rows m (k:Int)).1).length<2000:=by have:=small_roomM HOK.out hx;omega
   have hpos:=foot_pos HOK.out hx
   have hf23:=(foot_items HOK.out.1 hx hroom9).2
   have eC9:=footC_ok (rows:=rows) (m:=(goM rows m (k:Int)).1) (by rw [HOK.out.1,hx];rfl) hroom9
   have kP:=fun (W:World) (b:Below u2.heap.size u2 W)=>implStepVm_step a 3 cap rows ((s0a,s0n,s0c),(s1a,s1n,s1c),(s2a,s2n,s2c),(s3a,s3n,s3c)) m k W (hC.below b) (hM.below b) (hV.below b) HOK.out.1 HS.out hk3 hd hw9 (goM rows m (k:Int)).1 (goM rows m (k:Int)).2 (by rw [goM_nat]) hx
   have kF9:=fun (W:World) (b:Below u2.heap.size u2 W) (s:S4) (hm:Vmem W s (goM rows m (k:Int)).1)=>implFootOf_is a 3 cap rows s (goM rows m (k:Int)).1 W (hC.below b) hm (hV.below b)
   rw [eC9] at kF9
   have us:S4.val ((s0a,s0n,s0c),(s1a,s1n,s1c),(s2a,s2n,s2c),(s3a,s3n,s3c))=.agg #[.slice s0a s0n s0c,.slice s1a s1n s1c,.slice s2a s2n s2c,.slice s3a s3n s3c]:=rfl
   rw [us] at kP
   clear us eC9 hroom9 hkj hz hd hcn hw9
   generalize goM rows m (k:Int)=zf at *
   obtain ⟨z,fl⟩:=zf
   simp only at kP hx kF9 HFs hpos hf23
   have pPr:=pP.below bl
   have pXr:=pX.below bl
   go_wp2_with fail
   have hb9:Below wr.heap.size wr wr.drew:=by go_grown
   refine wp_region_held_drew (S:=(fun w'=>w'.cell? ⟨P,0,none⟩=some (.slice a 3 cap)∧w'.cell? ⟨X,0,none⟩=some (.slice s0a s0n s0c)∧w'.cell? ⟨X,1,none⟩=some (.slice s1a s1n s1c)∧w'.cell? ⟨X,2,none⟩=some (.slice s2a s2n s2c)∧w'.cell? ⟨X,3,none⟩=some (.slice s3a s3n s3c)∧w'.cell? ⟨lb,lo+i,none⟩=some (.int .i64 (k:Int)))) (by kernel_rfl) ⟨by simpa using pPr.cell 0,by simpa using pXr.cell 0,by simpa using pXr.cell 1,by simpa using pXr.cell 2,by simpa using pXr.cell 3,hc⟩ (fun hS0=>?_)
   refine tkm 0 88 (.agg #[.slice a 3 cap]) ?_
   refine tkm 1 89 (.agg #[.slice s0a s0n s0c,.slice s1a s1n s1c,.slice s2a s2n s2c,.slice s3a s3n s3c]) ?_
   refine tkm 2 90 (.slice (some ⟨lb,lo,none⟩) ln lc) ?_
   refine tkm 3 91 (.int .i64 (i:Int)) ?_
   refine tkm 4 92 (.pointer (some ⟨lb,lo+i,none⟩)) ?_
   refine tkm 5 93 (.int .i64 (k:Int)) ?_
   replace bl:=bel_trans bl hb9
   replace qA:=owns_below qA hb9
   replace qL:=qL.below hb9
   replace pPr:=pPr.below hb9
   clear hb9 pXr
   generalize wr.drew=V at *
   refine wpAnyH_ready (rs:=[6,11]) (by kernel_rfl) (by simp) ?_
   refine AllReadyH.cons (o:=⟨some 94,_,_,_,_,_⟩) rfl (fun K hK=>?_) (AllReadyH.cons (o:=⟨some 16,_,_,_,_,_⟩) rfl (fun K hK=>?_) AllReadyH.nil)
   ·have kPx:=kP V bl
    go_simp
    refine kPx.mono ?_
    rintro e V1 ⟨⟨⟨⟨z0a,z0n,z0c⟩,⟨z1a,z1n,z1c⟩,⟨z2a,z2n,z2c⟩,⟨z3a,z3n,z3c⟩⟩,rfl,hO2⟩,hb1⟩
    have uz:S4.val ((z0a,z0n,z0c),(z1a,z1n,z1c),(z2a,z2n,z2c),(z3a,z3n,z3c))=.agg #[.slice z0a z0n z0c,.slice z1a z1n z1c,.slice z2a z2n z2c,.slice z3a z3n z3c]:=rfl
    rw [uz]
    clear uz
    go_wp2_with fail
    refine hK.out _ _ ⟨cells_kept hb1 _ _ hS0.1,cells_kept hb1 _ _ hS0.2.1,cells_kept hb1 _ _ hS0.2.2.1,cells_kept hb1 _ _ hS0.2.2.2.1,cells_kept hb1 _ _ hS0.2.2.2.2.1,cells_kept hb1 _ _ hS0.2.2.2.2.2⟩ (fun hS5=>?_)
    clear hK kPx
    try simp only [Act.put,tka,tkb,tkc]
    refine tkm 7 87 (.tuple #[.agg #[.slice z0a z0n z0c,.slice z1a z1n z1c,.slice z2a z2n z2c,.slice z3a z3n z3c],.int .i64 fl,.int .i64 0]) ?_
    refine tkm 8 95 (.agg #[.slice z0a z0n z0c,.slice z1a z1n z1c,.slice z2a z2n z2c,.slice z3a z3n z3c]) ?_
    refine tkm 9 96 (.int .i64 fl) ?_
    refine tkm 10 97 (.int .i64 0) ?_
    refine tkr 11 16 (fun K hK=>?_)
    have hb2:Below V1.heap.size V1 (V1.alloc (.cells #[.slice none 0 0,.slice none 0 0,.slice none 0 0,.slice none 0 0] 33)):=by go_grown
    have pY:Blk (V1.alloc (.cells #[.slice none 0 0,.slice none 0 0,.slice none 0 0,.slice none 0 0] 33)) V1.heap.size 33 [.slice none 0 0,.slice none 0 0,.slice none 0 0,.slice none 0 0]:=blkAt _ _ _ rfl
    replace hO2:=hO2.below hb2
    have hbA:=bel_trans hb1 hb2
    have hYV:V.heap.size≤V1.heap.size:=hb1.size
    go_simp
    refine hK.out _ _ ⟨cells_kept hbA _ _ hS0.1,cells_kept hbA _ _ hS0.2.1,cells_kept hbA _ _ hS0.2.2.1,cells_kept hbA _ _ hS0.2.2.2.1,cells_kept hbA _ _ hS0.2.2.2.2.1,cells_kept hbA _ _ hS0.2.2.2.2.2⟩ (fun hS6=>?_)
    clear hK hb1 hb2
    generalize (V1.alloc (.cells #[.slice none 0 0,.slice none 0 0,.slice none 0 0,.slice none 0 0] 33))=V2 at *
    generalize V1.heap.size=Y at *
    try simp only [Act.put,tka,tkb,tkc]
    refine tkz 12 (fun K hK=>?_)
    refine step_store_blkD rfl 33 _ _ rfl Y [.slice z0a z0n z0c,.slice z1a z1n z1c,.slice z2a z2n z2c,.slice z3a z3n z3c] rfl rfl pY (by kernel_rfl) rfl rfl ?_
    intro V8 pY8 g8
    replace hO2:=hO2.kept9 g8 pY (by decide)
    have hbig:=hbA.grown g8 hbA.size (fun q hq=>by cases hq;exact hYV)
    refine hK.out _ _ ⟨cells_kept hbig _ _ hS0.1,cells_kept hbig _ _ hS0.2.1,cells_kept hbig _ _ hS0.2.2.1,cells_kept hbig _ _ hS0.2.2.2.1,cells_kept hbig _ _ hS0.2.2.2.2.1,cells_kept hbig _ _ hS0.2.2.2.2.2⟩ (fun hS7=>?_)
    clear hK pY g8 hbA hYV
    have pY:=pY8.out
    clear pY8
    try simp only [Act.put,tka,tkb,tkc]
    refine tkm 13 17 (.int .i64 fl) ?_
    refine tkm 14 18 (.int .i64 0) ?_
    refine wpAnyH_done (by kernel_rfl) ?_ _
    replace bl:=bel_trans bl hbig
    replace qA:=owns_below qA hbig
    replace qL:=qL.below hbig
    replace pPr:=pPr.below hbig
    clear hbig hS0 hS5 hS6 hS7 kP hc
    have kFx:=kF9 V8 bl ((z0a,z0n,z0c),(z1a,z1n,z1c),(z2a,z2n,z2c),(z3a,z3n,z3c)) (hO2.mem (shape_fits9 hx).1)
    have uz:S4.val ((z0a,z0n,z0c),(z1a,z1n,z1c),(z2a,z2n,z2c),(z3a,z3n,z3c))=.agg #[.slice z0a z0n z0c,.slice z1a z1n z1c,.slice z2a z2n z2c,.slice z3a z3n z3c]:=rfl
    rw [uz] at kFx
    clear uz kF9
    go_wp2_with (first | refine wpList_load_blk rfl 25 _ rfl P rfl pPr _ Tryz.underlying25 rfl (by kernel_rfl) ?_ | refine wpList_load_blk rfl 33 _ rfl Y rfl pY _ Tryz.underlying33 rfl (by kernel_rfl) ?_)
    refine kFx.mono ?_
    rintro e Va ⟨⟨⟨xa,xn,xc⟩,rfl,qX⟩,hb⟩
    have hxn:(footA rows z).length=xn:=by have:=qX.1;simpa using this
    obtain ⟨xg,xc9,e9⟩:=some8 (n:=xn) qX (by omega)
    simp only at e9
    cases e9
    replace bl:=bel_trans bl hb
    replace qA:=owns_below qA hb
    replace qL:=qL.below hb
    have iX:=qX.ints
    clear hb kFx pY hO2 hx pPr qX
    simp only
    have hbs:=bl.size
    generalize footA rows z=fz at *
    go_wp2_with (at_builtin;refine wpList_append_own_at _ rfl _ _ 27 rfl u2.heap.size 3 i0 (.int .i64 0) 1 8 Tryz.underlying27 hi0 hz0 hz1 hz2 rfl (by decide) _ _ _ rfl qA ⟨xg,0,none⟩ xn xc (fz.map (Value.int .i64)) rfl (by rw [List.length_map];omega) (news8 iX) (one8 _) ?c3 ?c4 hbs ?_)
    case c3=>unfold maxLen;omega
    case c4=>omega
    intro vb Vb qB gr _ atB
    have st9:OnFf rows m u2 Vb vb (some ⟨lb,lo,none⟩) ln lc (i+1):=by
     refine ⟨?_,World.ownsRow.kept qL gr az.or,Ap3.moved qL az atB,bl.grown gr bl.size (fun q hq=>(qA.lt q hq).1)⟩
     rw [HFs.out,List.length_append,hxn,List.map_append]
     exact qB
    clear qB gr atB qA qL az bl HFs iX
    go_wp2
    go_roundw
    case rel=>exact ⟨i+1,by go_num,by omega,st9⟩
    case measure=>simp [Go.RowKit.intOf];omega
   ·have hb1:Below V.heap.size V (V.alloc (.cells #[.slice none 0 0,.slice none 0 0,.slice none 0 0,.slice none 0 0] 33)):=by go_grown
    have pY:Blk (V.alloc (.cells #[.slice none 0 0,.slice none 0 0,.slice none 0 0,.slice none 0 0] 33)) V.heap.size 33 [.slice none 0 0,.slice none 0 0,.slice none 0 0,.slice none 0 0]:=blkAt _ _ _ rfl
    have hYV:V.heap.size≤V.heap.size:=Nat.le_refl _
    go_simp
    refine hK.out _ _ ⟨cells_kept hb1 _ _ hS0.1,cells_kept hb1 _ _ hS0.2.1,cells_kept hb1 _ _ hS0.2.2.1,cells_kept hb1 _ _ hS0.2.2.2.1,cells_kept hb1 _ _ hS0.2.2.2.2.1,cells_kept hb1 _ _ hS0.2.2.2.2.2⟩ (fun hS6=>?_)
    clear hK
    have kPx:=kP _ (bel_trans bl hb1)
    generalize (V.alloc (.cells #[.slice none 0 0,.slice none 0 0,.slice none 0 0,.slice none 0 0] 33))=V2 at *
    obtain ⟨Y,hY⟩:∃ Y,Y=V.heap.size:=⟨_,rfl⟩
    rw [← hY] at pY hYV ⊢
    replace hYV:V.heap.size≤Y:=by omega
    clear hY
    try simp only [Act.put,tka,tkb,tkc]
    refine tkr 6 94 (fun K hK=>?_)
    go_simp
    refine kPx.mono ?_
    rintro e V3 ⟨⟨⟨⟨z0a,z0n,z0c⟩,⟨z1a,z1n,z1c⟩,⟨z2a,z2n,z2c⟩,⟨z3a,z3n,z3c⟩⟩,rfl,hO2⟩,hb2⟩
    have uz:S4.val ((z0a,z0n,z0c),(z1a,z1n,z1c),(z2a,z2n,z2c),(z3a,z3n,z3c))=.agg #[.slice z0a z0n z0c,.slice z1a z1n z1c,.slice z2a z2n z2c,.slice z3a z3n z3c]:=rfl
    rw [uz]
    clear uz
    go_wp2_with fail
    have hbA:=bel_trans hb1 hb2
    replace pY:=pY.below hb2
    refine hK.out _ _ ⟨cells_kept hbA _ _ hS0.1,cells_kept hbA _ _ hS0.2.1,cells_kept hbA _ _ hS0.2.2.1,cells_kept hbA _ _ hS0.2.2.2.1,cells_kept hbA _ _ hS0.2.2.2.2.1,cells_kept hbA _ _ hS0.2.2.2.2.2⟩ (fun hS5=>?_)
    clear hK kPx hb1 hb2
    try simp only [Act.put,tka,tkb,tkc]
    refine tkm 7 87 (.tuple #[.agg #[.slice z0a z0n z0c,.slice z1a z1n z1c,.slice z2a z2n z2c,.slice z3a z3n z3c],.int .i64 fl,.int .i64 0]) ?_
    refine tkm 8 95 (.agg #[.slice z0a z0n z0c,.slice z1a z1n z1c,.slice z2a z2n z2c,.slice z3a z3n z3c]) ?_
    refine tkm 9 96 (.int .i64 fl) ?_
    refine tkm 10 97 (.int .i64 0) ?_
    refine tkz 12 (fun K hK=>?_)
    refine step_store_blkD rfl 33 _ _ rfl Y [.slice z0a z0n z0c,.slice z1a z1n z1c,.slice z2a z2n z2c,.slice z3a z3n z3c] rfl rfl pY (by kernel_rfl) rfl rfl ?_
    intro V8 pY8 g8
    replace hO2:=hO2.kept9 g8 pY (by decide)
    have hbig:=hbA.grown g8 hbA.size (fun q hq=>by cases hq;exact hYV)
    refine hK.out _ _ ⟨cells_kept hbig _ _ hS0.1,cells_kept hbig _ _ hS0.2.1,cells_kept hbig _ _ hS0.2.2.1,cells_kept hbig _ _ hS0.2.2.2.1,cells_kept hbig _ _ hS0.2.2.2.2.1,cells_kept hbig _ _ hS0.2.2.2.2.2⟩ (fun hS7=>?_)
    clear hK pY g8 hbA hYV
    have pY:=pY8.out
    clear pY8
    try simp only [Act.put,tka,tkb,tkc]
    refine tkm 13 17 (.int .i64 fl) ?_
    refine tkm 14 18 (.int .i64 0) ?_
    refine wpAnyH_done (by kernel_rfl) ?_ _
    replace bl:=bel_trans bl hbig
    replace qA:=owns_below qA hbig
    replace qL:=qL.below hbig
    replace pPr:=pPr.below hbig
    clear hbig hS0 hS5 hS6 hS7 kP hc
    have kFx:=kF9 V8 bl ((z0a,z0n,z0c),(z1a,z1n,z1c),(z2a,z2n,z2c),(z3a,z3n,z3c)) (hO2.mem (shape_fits9 hx).1)
    have uz:S4.val ((z0a,z0n,z0c),(z1a,z1n,z1c),(z2a,z2n,z2c),(z3a,z3n,z3c))=.agg #[.slice z0a z0n z0c,.slice z1a z1n z1c,.slice z2a z2n z2c,.slice z3a z3n z3c]:=rfl
    rw [uz] at kFx
    clear uz kF9
    go_wp2_with (first | refine wpList_load_blk rfl 25 _ rfl P rfl pPr _ Tryz.underlying25 rfl (by kernel_rfl) ?_ | refine wpList_load_blk rfl 33 _ rfl Y rfl pY _ Tryz.underlying33 rfl (by kernel_rfl) ?_)
    refine kFx.mono ?_
    rintro e Va ⟨⟨⟨xa,xn,xc⟩,rfl,qX⟩,hb⟩
    have hxn:(footA rows z).length=xn:=by have:=qX.1;simpa using this
    obtain ⟨xg,xc9,e9⟩:=some8 (n:=xn) qX (by omega)
    simp only at e9
    cases e9
    replace bl:=bel_trans bl hb
    replace qA:=owns_below qA hb
    replace qL:=qL.below hb
    have iX:=qX.ints
    clear hb kFx pY hO2 hx pPr qX
    simp only
    have hbs:=bl.size
    generalize footA rows z=fz at *
    go_wp2_with (at_builtin;refine wpList_append_own_at _ rfl _ _ 27 rfl u2.heap.size 3 i0 (.int .i64 0) 1 8 Tryz.underlying27 hi0 hz0 hz1 hz2 rfl (by decide) _ _ _ rfl qA ⟨xg,0,none⟩ xn xc (fz.map (Value.int .i64)) rfl (by rw [List.length_map];omega) (news8 iX) (one8 _) ?c3 ?c4 hbs ?_)
    case c3=>unfold maxLen;omega
    case c4=>omega
    intro vb Vb qB gr _ atB
    have st9:OnFf rows m u2 Vb vb (some ⟨lb,lo,none⟩) ln lc (i+1):=by
     refine ⟨?_,World.ownsRow.kept qL gr az.or,Ap3.moved qL az atB,bl.grown gr bl.size (fun q hq=>(qA.lt q hq).1)⟩
     rw [HFs.out,List.length_append,hxn,List.map_append]
     exact qB
    clear qB gr atB qA qL az bl HFs iX
    go_wp2
    go_roundw
    case rel=>exact ⟨i+1,by go_num,by omega,st9⟩
    case measure=>simp [Go.RowKit.intOf];omega
  ·have hge:¬ (i:Int)<(ln:Int):=by omega
   have HLw:Hid (mrgI (feetI rows m i)=footA rows m):=feet_law HOK.out HS.out (by omega)
   have iA:=ints8 qA
   have hb9:Below wr.heap.size wr (wr.alloc (.cells #[] 3)):=by go_grown
   have aF:allIt (feetI rows m i)=true:=List.all_eq_true.2 hfo
   have iN:Ints .i64 (wr.alloc (.cells #[] 3)) (some ⟨wr.heap.size,0,none⟩) 0 0 ([]:List Int):=⟨rfl,Nat.le_refl _,Nat.zero_le _,.inl rfl⟩
   have kM:=implMergeItems_is aa (feetI rows m i).length ac (feetI rows m i) (some ⟨wr.heap.size,0,none⟩) 0 0 [] _ (iA.below hb9) iN (by omega) (by omega) (allIt_wf aF) (fun x hx=>by simp at hx)
   rw [mgC_ok (by omega) (by simp) (by rw [aF];rfl),mgZ_ok (by omega) (by simp) (by rw [aF];rfl),List.append_nil,HLw.out] at kM
   have iF9:=iF.below (bel_trans bl hb9)
   replace bl:=bel_trans bl hb9
   clear HLw iA hb9 aF iN qA qL az hfo hfl
   generalize footA rows m=fz at *
   go_wp2_with fail
   generalize (wr.alloc (.cells #[] 3))=wz at *
   refine kM.mono ?_
   rintro e wy ⟨⟨vy,rfl,qy⟩,hb⟩
   obtain ⟨ya,yc,rfl⟩:=slice8 qy
   have iY:=ints8 qy
   replace iF9:=iF9.below hb
   replace bl:=bel_trans bl hb
   clear hb kM qy
   subst hfn
   have kS9:=sameF8 ya fa fz.length yc fc fz wy iY iF9
   go_wp2_with fail
   refine kS9.mono ?_
   rintro e wx ⟨rfl,hb⟩
   replace bl:=bel_trans bl hb
   clear hb kS9
   have bz:=bel_trans bw bl
   go_wp2
   go_ret
   exact ⟨rfl,bz⟩

theorem fnFoot_laid {W:World} (h:laidMetH Tryz.prog Rows.fnFootRow.laid W):VmShape W:=vmShape_of_laid rfl h
theorem fnFoot_door_met (os:Os) (args:Array Value):laidMetH Tryz.prog Rows.fnFootRow.laid ((World.doorLaid Tryz.prog 400 os).forCall (fun _ _=>0) ⟨#[],args,[]⟩).memory:=
 laidMetH_of_parts3 (fuel:=8) (laidMet_of_run' 8 (by kernel_rfl) (by kernel_rfl)) (by kernel_rfl) (by kernel_rfl)


def varsFit (P:Program) (ns:List String):Bool:=ns.all fun n =>
 match P.globalNamed n with
 | some g=>match (P.globals[g]?).map (·.type) with
  | some t=>P.readableRec t && decide (t<P.types.size)
  | none=>false
 | none=>false

theorem var?_lt {P:Program} {W:World} {n:String} {g:Nat} {cs:Array Value} (hg:P.globalNamed n=some g) (hv:W.var? P n=some cs):g<W.heap.size:=by
 rcases Nat.lt_or_ge g W.heap.size with h | h
 ·exact h
 ·unfold World.var? at hv
  simp [hg,Array.getElem?_eq_none h] at hv

theorem vars_below {H:Type} {enc:TypeId × Value→H} {P:Program} {W W':World} (hl:laidOutB P=true) (bel:Below W.heap.size W W') :
  ∀ {ns:List String} {gs:List (DataW H)} {ps:List MemPlace},varsFit P ns=true→DataW.TrodVars enc P W (fun _=>true) ns gs ps→DataW.TrodVars enc P W' (fun b=>decide (b<W.heap.size)) ns gs ps
 | [],[],ps,_,h=>h
 | [],_::_,_,_,h=>by cases h
 | _::_,[],_,_,h=>by cases h
 | n::ns,d::ds,ps,hf,h=>by
  obtain ⟨g,t,cs,fuel,p,q,hg,ht,hv,hd,hr,e⟩:=h
  simp only [varsFit,List.all_cons,Bool.and_eq_true] at hf
  obtain ⟨hf1,hf2⟩:=hf
  rw [hg] at hf1
  simp only [ht,Bool.and_eq_true,decide_eq_true_eq] at hf1
  obtain ⟨fuel',hd'⟩:=Below.trod hl hf1.1 hf1.2 (v:=.agg cs) (⟨fuel,by simpa [Value.cells] using hd⟩:DataW.Trod enc P W 0 (fun _=>true) true t (.agg cs) d p) bel (DataW.trod_lt fuel _ _ _ hd)
  exact ⟨g,t,cs,fuel',p,q,hg,ht,var?_below bel hg (var?_lt hg hv) hv,by simpa [Value.cells] using hd',vars_below hl bel hf2 hr,e⟩

theorem vars_len {H:Type} {enc:TypeId × Value→H} {P:Program} {W:World} {spare:Nat→Bool}:∀ {ns:List String} {gs:List (DataW H)} {ps:List MemPlace},DataW.TrodVars enc P W spare ns gs ps→gs.length=ns.length
 | [],[],_,_=>rfl
 | [],_::_,_,h=>by cases h
 | _::_,[],_,h=>by cases h
 | _::_,_::_,_,h=>by
  obtain ⟨_,_,_,_,_,_,_,_,_,_,hr,_⟩:=h
  simp [vars_len hr]
end Go.Proofs.YtifoggpohlegmaaGreatDoor
