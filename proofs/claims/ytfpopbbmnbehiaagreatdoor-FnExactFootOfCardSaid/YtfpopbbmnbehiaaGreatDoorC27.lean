/-
  Joined: SpecE, MachP.
-/
import Derived.Test.YtfpopbbmnbehiaaGreatDoorC26

namespace Go.Proofs.YtfpopbbmnbehiaaGreatDoor
set_option maxRecDepth 100000
set_option maxHeartbeats 16000000
open Go.RowKit
set_option linter.unusedVariables false

theorem own_ne_blk {w:World} {B e s n g t:Nat} {v:Value} {xs cs:List Value} (h:w.ownsRow B e s v n xs) (hB:Blk w g t cs) (he:e≠t):v.ownBlock≠some g:=by
 rcases h.2 with ⟨rfl,_⟩ | ⟨g',cap,cur,rfl,_,hg,_⟩
 ·simp [Value.ownBlock]
 ·simp only [Value.ownBlock,ne_eq,Option.some.injEq]
  rintro rfl
  unfold Blk at hB
  rw [hg] at hB
  simp at hB
  exact he hB.2

theorem l03Enabled_is (a:Option Addr) (len cap:Nat) (rows:List (List I3)) (s:S4) (m:V4) (cs:Sl × Sl × Sl) (w:World) (hl:len=3) (hR:RowsAt w a cs rows) (h:Vmem w s m) (hp:progOk rows=true) (hs:shapeOk m=true) :
  Calls Tryz.prog 79 #[.agg #[.slice a len cap],s.val] w fun e w'=>(∃ s9:Sl,e=.returned (.slice s9.1 s9.2.1 s9.2.2)∧OwnI w' w.heap.size s9 (enabM rows m 3))∧Below w.heap.size w w':=by
 obtain ⟨i0,hi,hz0,hz1,hz2⟩:=info_parts info_int
 have kC:=fun (W:World) (hR:RowsAt W a cs rows) (h:Vmem W s m) (k:Nat) (hk:k<3)=>l03Can_is (cap:=cap) hl hR h hp hs hk
 have hM:=fun (W:World) (hb:Below w.heap.size w W)=>h.below hb
 obtain ⟨⟨a0,n0,c0⟩,⟨a1,n1,c1⟩,⟨a2,n2,c2⟩,⟨a3,n3,c3⟩⟩:=s
 have uA:S4.val ((a0,n0,c0),(a1,n1,c1),(a2,n2,c2),(a3,n3,c3))=.agg #[.slice a0 n0 c0,.slice a1 n1 c1,.slice a2 n2 c2,.slice a3 n3 c3]:=rfl
 rw [uA] at kC ⊢
 clear uA h hl
 have bw:Below w.heap.size w (((w.alloc (.cells #[.slice a len cap] 25)).alloc (.cells #[.slice a0 n0 c0,.slice a1 n1 c1,.slice a2 n2 c2,.slice a3 n3 c3] 33)).alloc (.cells #[] 3)):=by go_grown
 have pP:Blk (((w.alloc (.cells #[.slice a len cap] 25)).alloc (.cells #[.slice a0 n0 c0,.slice a1 n1 c1,.slice a2 n2 c2,.slice a3 n3 c3] 33)).alloc (.cells #[] 3)) w.heap.size 25 [.slice a len cap]:=blkOld _ (blkOld _ (blkAt _ _ _ rfl))
 have pS:Blk (((w.alloc (.cells #[.slice a len cap] 25)).alloc (.cells #[.slice a0 n0 c0,.slice a1 n1 c1,.slice a2 n2 c2,.slice a3 n3 c3] 33)).alloc (.cells #[] 3)) (w.heap.size+1) 33 [.slice a0 n0 c0,.slice a1 n1 c1,.slice a2 n2 c2,.slice a3 n3 c3]:=blkOld _ (blkAt _ _ _ (by simp))
 have hq:(((w.alloc (.cells #[.slice a len cap] 25)).alloc (.cells #[.slice a0 n0 c0,.slice a1 n1 c1,.slice a2 n2 c2,.slice a3 n3 c3] 33)).alloc (.cells #[] 3)).ownsRow w.heap.size 3 1 (.slice (some ⟨w.heap.size+1+1,0,none⟩) 0 0) 0 ((enabM rows m 0).map (Value.int .i64)):=by
  have h9:=own_empty ((w.alloc (.cells #[.slice a len cap] 25)).alloc (.cells #[.slice a0 n0 c0,.slice a1 n1 c1,.slice a2 n2 c2,.slice a3 n3 c3] 33)) 3 1 w.heap.size (by simp;omega)
  simp only [World.size_alloc] at h9
  exact h9
 go_enter Tryz.func79,Tryz.ntmps79
 go_wp2_with fail
 generalize ((w.alloc (.cells #[.slice a len cap] 25)).alloc (.cells #[.slice a0 n0 c0,.slice a1 n1 c1,.slice a2 n2 c2,.slice a3 n3 c3] 33)).alloc (.cells #[] 3)=W0 at *
 go_loopw [5,6] (fun so si wr=>∃ (k:Nat) (n:Nat) (v:Value),v=so∧k≤3∧si=.int .i64 k∧Hid (n=(enabM rows m k).length)∧wr.ownsRow w.heap.size 3 1 v n ((enabM rows m k).map (Value.int .i64))∧Blk wr w.heap.size 25 [.slice a len cap]∧Blk wr (w.heap.size+1) 33 [.slice a0 n0 c0,.slice a1 n1 c1,.slice a2 n2 c2,.slice a3 n3 c3]∧Below w.heap.size w wr) (fun _ si _=>3 - (intOf si).toNat)
 case atStart=>exact ⟨0,0,_,rfl,by omega,rfl,rfl,hq,pP,pS,bw⟩
 case round =>
  clear hq pP pS bw
  obtain ⟨k,n,so,rfl,hk,rfl,HN,hr,pP,pS,hbw⟩:=hrel
  by_cases hlt:k<3
  ·have hk3:(k:Int)<3:=by omega
   have kC1:=kC _ (hR.below hbw) (hM _ hbw) k hlt
   have gP:=pP.cell 0
   have gS0:=pS.cell 0
   have gS1:=pS.cell 1
   have gS2:=pS.cell 2
   have gS3:=pS.cell 3
   simp only [List.getElem?_cons_zero,List.getElem?_cons_succ] at gP gS0 gS1 gS2 gS3
   cases hcan:canM rows m k
   ·rw [hcan] at kC1
    have HN2:Hid (n=(enabM rows m (k+1)).length):=by rw [Hid,enabM_no hcan];exact HN.out
    rw [← enabM_no hcan] at hr
    go_wp2_with fail
    refine kC1.mono ?_
    rintro e w1 ⟨rfl,hb⟩
    replace hr:=owns_below hr hb
    replace pP:=pP.below hb
    replace pS:=pS.below hb
    replace hbw:=bel_trans hbw hb
    clear hb gP gS0 gS1 gS2 gS3 kC1
    go_wp2
    go_roundw
    case rel=>exact ⟨k+1,n,_,rfl,by omega,by go_num,HN2,hr,pP,pS,hbw⟩
    case measure=>simp [intOf];omega
   ·rw [hcan] at kC1
    have hn3:n≤3:=by have:=enabM_len rows m k;have:=HN.out;omega
    have HN2:Hid (n+1=(enabM rows m (k+1)).length):=by rw [Hid,enabM_yes hcan,List.length_append,← HN.out];rfl
    have HX:Hid (enabM rows m (k+1)=enabM rows m k++[(k:Int)]):=enabM_yes hcan
    go_wp2_with fail
    refine kC1.mono ?_
    rintro e w2 ⟨rfl,hb⟩
    replace hr:=owns_below hr hb
    replace pP:=pP.below hb
    replace pS:=pS.below hb
    replace hbw:=bel_trans hbw hb
    have hsz:=hbw.size
    clear hb gP gS0 gS1 gS2 gS3 kC1
    go_wp2_with (at_builtin;refine wpList_append_own _ rfl _ _ 31 rfl w.heap.size 3 i0 (.int .i64 0) 1 8 Tryz.underlying31 hi hz0 hz1 hz2 rfl (by decide) _ _ _ rfl (hr.alloc _) ⟨w2.heap.size,0,none⟩ 1 1 [.int .i64 (k:Int)] rfl rfl (cell_one_new _ _ _) (by simp [Value.oneCell']) ?c3 ?c4 ?c5 ?_)
    case c3=>unfold maxLen;omega
    case c4=>omega
    case c5=>simp;omega
    intro v' wn hown' hgrow _
    have R:wn.ownsRow w.heap.size 3 1 v' (n+1) ((enabM rows m (k+1)).map (Value.int .i64)):=by
     rw [HX.out,List.map_append]
     exact hown'
    have bn:Below w.heap.size w wn:=(hbw.alloc hsz _).grown hgrow (by simp;omega) (fun k hk=>(hr.lt k hk).1)
    have pP2:Blk wn w.heap.size 25 [.slice a len cap]:=(blkOld _ pP).kept hgrow (own_ne_blk hr pP (by decide))
    have pS2:Blk wn (w.heap.size+1) 33 [.slice a0 n0 c0,.slice a1 n1 c1,.slice a2 n2 c2,.slice a3 n3 c3]:=(blkOld _ pS).kept hgrow (own_ne_blk hr pS (by decide))
    clear hown' hgrow hr hbw HX pP pS
    go_wp2
    go_roundw
    case rel=>exact ⟨k+1,n+1,_,rfl,by omega,by go_num,HN2,R,pP2,pS2,bn⟩
    case measure=>simp [intOf];omega
  ·obtain rfl:k=3:=by omega
   obtain ⟨a',c',rfl⟩:∃ a c,so=.slice a n c:=by
    rcases hr.2 with ⟨rfl,rfl⟩ | ⟨g',cap',cur,hv,_⟩
    ·exact ⟨none,0,rfl⟩
    ·exact ⟨_,cap',hv⟩
   clear kC hM
   go_wp2
   go_ret
   exact ⟨⟨(a',n,c'),rfl,hr⟩,hbw⟩

theorem l03Stuck_is (a:Option Addr) (len cap:Nat) (rows:List (List I3)) (s:S4) (m:V4) (cs:Sl × Sl × Sl) (w:World) (hl:len=3) (hR:RowsAt w a cs rows) (h:Vmem w s m) (hp:progOk rows=true) (hs:shapeOk m=true) :
  Calls Tryz.prog 77 #[.agg #[.slice a len cap],s.val] w fun e w'=>e=.returned (.bool (stuckM rows m))∧Below w.heap.size w w':=by
 have kE:=fun (W:World) (hR:RowsAt W a cs rows) (h:Vmem W s m)=>l03Enabled_is a len cap rows s m cs W hl hR h hp hs
 have kD:=fun (W:World) (hR:RowsAt W a cs rows) (h:Vmem W s m) (k:Nat) (hk:k<3)=>l03Done_is (cap:=cap) hl hR h hs hk
 have hM:=fun (W:World) (hb:Below w.heap.size w W)=>h.below hb
 obtain ⟨fin,hfin⟩:∃ fin,fin=stuckM rows m:=⟨_,rfl⟩
 rw [← hfin]
 have HF:Hid (fin=(decide (enabM rows m 3=[]) && leftM rows m 0)):=hfin
 clear hfin
 obtain ⟨⟨a0,n0,c0⟩,⟨a1,n1,c1⟩,⟨a2,n2,c2⟩,⟨a3,n3,c3⟩⟩:=s
 have uA:S4.val ((a0,n0,c0),(a1,n1,c1),(a2,n2,c2),(a3,n3,c3))=.agg #[.slice a0 n0 c0,.slice a1 n1 c1,.slice a2 n2 c2,.slice a3 n3 c3]:=rfl
 rw [uA] at kE kD ⊢
 clear uA h hl
 have bw:Below w.heap.size w ((w.alloc (.cells #[.slice a len cap] 25)).alloc (.cells #[.slice a0 n0 c0,.slice a1 n1 c1,.slice a2 n2 c2,.slice a3 n3 c3] 33)):=by go_grown
 have pP:Blk ((w.alloc (.cells #[.slice a len cap] 25)).alloc (.cells #[.slice a0 n0 c0,.slice a1 n1 c1,.slice a2 n2 c2,.slice a3 n3 c3] 33)) w.heap.size 25 [.slice a len cap]:=blkOld _ (blkAt _ _ _ rfl)
 have pS:Blk ((w.alloc (.cells #[.slice a len cap] 25)).alloc (.cells #[.slice a0 n0 c0,.slice a1 n1 c1,.slice a2 n2 c2,.slice a3 n3 c3] 33)) (w.heap.size+1) 33 [.slice a0 n0 c0,.slice a1 n1 c1,.slice a2 n2 c2,.slice a3 n3 c3]:=blkAt _ _ _ (by simp)
 go_enter Tryz.func77,Tryz.ntmps77
 go_wp2_with fail
 refine (kE _ (hR.below bw) (hM _ bw)).mono ?_
 rintro e w1 ⟨⟨⟨a',n,c'⟩,rfl,ho⟩,hb⟩
 have hn:(enabM rows m 3).length=n:=by
  have:=ho.1
  simpa using this
 replace bw:=bel_trans bw hb
 replace pP:=pP.below hb
 replace pS:=pS.below hb
 clear ho kE hb
 simp only
 by_cases h0:n=0
 ·subst h0
  have HL:Hid (fin=leftM rows m 0):=by rw [Hid,HF.out,List.eq_nil_of_length_eq_zero hn];rfl
  clear HF hn
  go_wp2_with fail
  go_loopw [5] (fun si wr=>∃ k:Nat,k≤3∧si=.int .i64 k∧Hid (fin=leftM rows m k)∧Blk wr w.heap.size 25 [.slice a len cap]∧Blk wr (w.heap.size+1) 33 [.slice a0 n0 c0,.slice a1 n1 c1,.slice a2 n2 c2,.slice a3 n3 c3]∧Below w.heap.size w wr) (fun si _=>3 - (intOf si).toNat)
  case atStart=>exact ⟨0,by omega,rfl,HL,pP,pS,bw⟩
  case round =>
   clear pP pS bw HL
   obtain ⟨k,hk,rfl,HL,pP,pS,bw⟩:=hrel
   by_cases hlt:k<3
   ·have hk3:(k:Int)<3:=by omega
    have kD1:=kD _ (hR.below bw) (hM _ bw) k hlt
    have hst:=leftM_step rows m hlt
    have HS:Hid (leftM rows m k=(!doneM rows m k || leftM rows m (k+1))):=hst
    clear hst
    have gP:=pP.cell 0
    have gS0:=pS.cell 0
    have gS1:=pS.cell 1
    have gS2:=pS.cell 2
    have gS3:=pS.cell 3
    simp only [List.getElem?_cons_zero,List.getElem?_cons_succ] at gP gS0 gS1 gS2 gS3
    cases hd:doneM rows m k
    ·rw [hd] at kD1
     obtain rfl:fin=true:=by rw [HL.out,HS.out,hd];rfl
     clear HL HS
     go_wp2_with fail
     refine kD1.mono ?_
     rintro e w2 ⟨rfl,hb⟩
     replace bw:=bel_trans bw hb
     clear hb gP gS0 gS1 gS2 gS3 kD1
     go_wp2
     go_ret
     exact ⟨rfl,bw⟩
    ·rw [hd] at kD1
     have HL2:Hid (fin=leftM rows m (k+1)):=by rw [Hid,HL.out,HS.out,hd];rfl
     clear HL HS
     go_wp2_with fail
     refine kD1.mono ?_
     rintro e w2 ⟨rfl,hb⟩
     replace bw:=bel_trans bw hb
     replace pP:=pP.below hb
     replace pS:=pS.below hb
     clear hb gP gS0 gS1 gS2 gS3 kD1
     go_wp2
     go_roundw
     case rel=>exact ⟨k+1,by omega,by go_num,HL2,pP,pS,bw⟩
     case measure=>simp [intOf];omega
   ·obtain rfl:k=3:=by omega
    obtain rfl:fin=false:=HL.out.trans (leftM_end _ _)
    clear kD HL hM
    go_wp2
    go_ret
    exact ⟨rfl,bw⟩
 ·obtain rfl:fin=false:=by
   rw [HF.out,decide_eq_false]
   ·rfl
   ·intro e
    rw [e] at hn
    exact h0 hn.symm
  have hpos:(0:Int)<(n:Int):=by omega
  clear HF hn kD hM
  go_wp2
  go_ret
  exact ⟨rfl,bw⟩

set_option linter.unusedSimpArgs false

def LenOk (m:V4):Prop:=m.1.length=3∧m.2.1.length=4∧m.2.2.1.length=2∧m.2.2.2.length=6
theorem LenOk.of {m:V4} (h:shapeOk m=true):LenOk m:=by
 obtain ⟨a,b,c,d,_⟩:=shape_parts h
 exact ⟨a,b,c,d⟩
theorem LenOk.lists {m:V4} (h:LenOk m):∃ p0 p1 p2 v0 v1 v2 v3 h0 h1 x0 y0 x1 y1 x2 y2:Int,m=([p0,p1,p2],[v0,v1,v2,v3],[h0,h1],[x0,y0,x1,y1,x2,y2]):=by
 obtain ⟨l0,l1,l2,l3⟩:=h
 obtain ⟨a,b,c,d⟩:=m
 simp only at l0 l1 l2 l3
 match a,b,c,d,l0,l1,l2,l3 with
 | [p0,p1,p2],[v0,v1,v2,v3],[h0,h1],[x0,y0,x1,y1,x2,y2],_,_,_,_=>exact ⟨p0,p1,p2,v0,v1,v2,v3,h0,h1,x0,y0,x1,y1,x2,y2,rfl⟩
section
variable (c0 c1 c2 : Value) (m : V4) (h : LenOk m)
include h
theorem mt_pc {k:Nat} (hk:k<3) (v:Int):(machCells c0 c1 c2 m).set (k*4+1) (.int .i64 v)=machCells c0 c1 c2 (m.1.set k v,m.2):=by
 obtain ⟨p0,p1,p2,v0,v1,v2,v3,h0,h1,x0,y0,x1,y1,x2,y2,rfl⟩:=h.lists
 match k,hk with
 | 0,_=>rfl
 | 1,_=>rfl
 | 2,_=>rfl
theorem mt_reg {k a:Nat} (hk:k<3) (ha:a<2) (v:Int):(machCells c0 c1 c2 m).set (k*4+2+a) (.int .i64 v)=machCells c0 c1 c2 (m.1,m.2.1,m.2.2.1,m.2.2.2.set (k*2+a) v):=by
 obtain ⟨p0,p1,p2,v0,v1,v2,v3,h0,h1,x0,y0,x1,y1,x2,y2,rfl⟩:=h.lists
 match k,hk,a,ha with
 | 0,_,0,_=>rfl
 | 1,_,0,_=>rfl
 | 2,_,0,_=>rfl
 | 0,_,1,_=>rfl
 | 1,_,1,_=>rfl
 | 2,_,1,_=>rfl
theorem mt_var {a:Nat} (ha:a<4) (v:Int):(machCells c0 c1 c2 m).set (12+a) (.int .i64 v)=machCells c0 c1 c2 (m.1,m.2.1.set a v,m.2.2.1,m.2.2.2):=by
 obtain ⟨p0,p1,p2,v0,v1,v2,v3,h0,h1,x0,y0,x1,y1,x2,y2,rfl⟩:=h.lists
 match a,ha with
 | 0,_=>rfl
 | 1,_=>rfl
 | 2,_=>rfl
 | 3,_=>rfl
theorem mt_held {a:Nat} (ha:a<2) (v:Int):(machCells c0 c1 c2 m).set (16+a) (.int .i64 v)=machCells c0 c1 c2 (m.1,m.2.1,m.2.2.1.set a v,m.2.2.2):=by
 obtain ⟨p0,p1,p2,v0,v1,v2,v3,h0,h1,x0,y0,x1,y1,x2,y2,rfl⟩:=h.lists
 match a,ha with
 | 0,_=>rfl
 | 1,_=>rfl
end
theorem LenOk.pc {m:V4} (h:LenOk m) (k:Nat) (v:Int):LenOk (m.1.set k v,m.2):=⟨by simpa using h.1,h.2⟩
theorem grown_tr {a b c:World} {r:Option Nat} (h:a.grownBy b r) (k:b.grownBy c r):a.grownBy c r:=grownBy_tr h k
theorem grown_new {a b:World} {r:Option Nat} (h:Below a.heap.size a b):a.grownBy b r:=⟨h.os,h.tape,h.output,h.size,fun i hi _=>h.block i hi⟩
theorem grown_cell (W:World) (g i:Nat) (v:Value):W.grownBy (W.setCell ⟨g,i,none⟩ v) (some g):=grownBy_set W g i v

theorem grown_drew {a b:World} {r:Option Nat} (h:a.grownBy b r):a.grownBy b.drew r:=⟨h.os,h.tape,h.output,h.size,h.block⟩
theorem grown_drewN {a b:World} {r:Option Nat} (h:a.grownBy b r) (d:Nat):a.grownBy (b.drewN d) r:=⟨h.os,h.tape,h.output,h.size,h.block⟩

theorem unlock_yes (g k a:Nat) (cs:Sl × Sl × Sl) (m:V4) (w:World) (hk:k<3) (ha:a<2) (hL:LenOk m) (hM:Blk w g 95 (machCells cs.1.val cs.2.1.val cs.2.2.val m)) (hv:m.2.2.1.getD a 0=(k:Int)+1) :
  Calls Tryz.prog 107 #[.pointer (some ⟨g,0,none⟩),.int .i64 k,.int .i64 a] w fun e w'=>e=.returned (.int .i64 0)∧Blk w' g 95 (machCells cs.1.val cs.2.1.val cs.2.2.val (m.1,m.2.1,m.2.2.1.set a 0,m.2.2.2))∧w.grownBy w' (some g):=by
 have r1:w.cell? ⟨g,16+a,none⟩=some (.int .i64 ((k:Int)+1)):=(hM.cell _).trans ((mc_held _ _ _ _ ha).trans (by rw [← hv]))
 have f1:=hM.frozen (16+a)
 have hM4:=hM.set (16+a) (.int .i64 0)
 rw [mt_held _ _ _ _ hL ha] at hM4
 have g4:=grown_cell w g (16+a) (.int .i64 0)
 have ha2:(a:Int)<2:=by omega
 have hne:(((k:Int)+1) != ((k:Int)+1))=false:=by simp
 have hkw:IntKind.i64.wrap ((k:Int)+1)=(k:Int)+1:=IntWalk.i64_in _ (by omega)
 clear hv hM
 go_enter Tryz.func107,Tryz.ntmps107
 go_wp2
 go_ret
 exact ⟨rfl,hM4,g4⟩
theorem unlock_no (g k a:Nat) (cs:Sl × Sl × Sl) (m:V4) (w:World) (hk:k<3) (ha:a<2) (hM:Blk w g 95 (machCells cs.1.val cs.2.1.val cs.2.2.val m)) (hv:m.2.2.1.getD a 0≠(k:Int)+1) :
  Calls Tryz.prog 107 #[.pointer (some ⟨g,0,none⟩),.int .i64 k,.int .i64 a] w fun e w'=>e=.returned (.int .i64 13)∧w=w':=by
 have r1:w.cell? ⟨g,16+a,none⟩=some (.int .i64 (m.2.2.1.getD a 0)):=(hM.cell _).trans (mc_held _ _ _ _ ha)
 have ha2:(a:Int)<2:=by omega
 generalize m.2.2.1.getD a 0=hh at *
 have hne:(hh != ((k:Int)+1))=true:=by simp [hv]
 have hkw:IntKind.i64.wrap ((k:Int)+1)=(k:Int)+1:=IntWalk.i64_in _ (by omega)
 clear hM
 go_enter Tryz.func107,Tryz.ntmps107
 go_wp2
 go_ret
 exact ⟨rfl,rfl⟩

theorem step_load (g k p b off n c:Nat) (a q:Nat) (vv:Int) (cs:Sl × Sl × Sl) (m:V4) (w:World) (hk:k<3) (hp:p<n) (hp6:p≤6) (hL:LenOk m) (hM:Blk w g 95 (machCells cs.1.val cs.2.1.val cs.2.2.val m)) (hg:g≠b∨True)
  (e0:w.cell? ⟨g,k*4,none⟩=some (.slice (some ⟨b,off,none⟩) n c)) (e1:w.cell? ⟨g,k*4+1,none⟩=some (.int .i64 p)) (q0:w.cell? ⟨b,off+p*3,none⟩=some (.int .i64 1)) (q1:w.cell? ⟨b,off+p*3+1,none⟩=some (.int .i64 a)) (q2:w.cell? ⟨b,off+p*3+2,none⟩=some (.int .i64 q)) (ha:a<2) (hq:q<4) (hvv:m.2.1.getD q 0=vv) :
  Calls Tryz.prog 63 #[.pointer (some ⟨g,0,none⟩),.int .i64 k] w fun e w'=>e=.returned (.int .i64 0)∧Blk w' g 95 (machCells cs.1.val cs.2.1.val cs.2.2.val (m.1.set k ((p:Int)+1),m.2.1,m.2.2.1,m.2.2.2.set (k*2+a) vv))∧w.grownBy w' (some g):=by
 have hk3:(k:Int)<3:=by omega
 have hpn:(p:Int)<(n:Int):=by omega
 go_enter Tryz.func63,Tryz.ntmps63
 go_wp2_with fail
 refine wp_region_held_drew (S:=(fun w'=>w'.cell? ⟨g,k*4,none⟩=some (.slice (some ⟨b,off,none⟩) n c)∧w'.cell? ⟨g,k*4+1,none⟩=some (.int .i64 p)∧w'.cell? ⟨b,off+p*3,none⟩=some (.int .i64 1)∧w'.cell? ⟨b,off+p*3+1,none⟩=some (.int .i64 a)∧w'.cell? ⟨b,off+p*3+2,none⟩=some (.int .i64 q))) (by kernel_rfl) ⟨e0,e1,q0,q1,q2⟩ (fun hS0=>?_)
 refine tkm 0 12 (.pointer (some ⟨g,k*4,none⟩)) ?_
 refine tkm 1 13 (.pointer (some ⟨g,k*4,none⟩)) ?_
 refine tkm 2 14 (.pointer (some ⟨g,k*4,none⟩)) ?_
 refine tkm 3 15 (.slice (some ⟨b,off,none⟩) n c) ?_
 refine tkm 4 16 (.pointer (some ⟨g,k*4,none⟩)) ?_
 refine tkm 5 17 (.pointer (some ⟨g,k*4,none⟩)) ?_
 refine tkm 6 18 (.pointer (some ⟨g,k*4+1,none⟩)) ?_
 refine tkm 7 19 (.int .i64 p) ?_
 refine tkm 8 20 (.pointer (some ⟨b,off+p*3,none⟩)) ?_
 refine tkm 9 21 (.agg #[.int .i64 1,.int .i64 a,.int .i64 q]) ?_
 refine tkr 10 6 (fun K hK=>?_)
 have hal:Below w.drew.heap.size w.drew (w.drew.alloc (.cells #[.int .i64 0,.int .i64 0,.int .i64 0] 144)):=by go_grown
 go_simp
 refine hK.out _ _ ?_ (fun hS1=>?_)
 ·exact ⟨cells_kept hal _ _ hS0.1,cells_kept hal _ _ hS0.2.1,cells_kept hal _ _ hS0.2.2.1,cells_kept hal _ _ hS0.2.2.2.1,cells_kept hal _ _ hS0.2.2.2.2⟩
 clear hK
 try simp only [Act.put,tka,tkb,tkc]
 refine tkz 11 (fun K hK=>?_)
 have hal2:Below w.drew.heap.size w.drew (w.drew.alloc (.cells #[.int .i64 1,.int .i64 a,.int .i64 q] 144)):=by go_grown
 go_simp
 refine hK.out _ _ ?_ (fun hS2=>?_)
 ·exact ⟨cells_kept hal2 _ _ hS0.1,cells_kept hal2 _ _ hS0.2.1,cells_kept hal2 _ _ hS0.2.2.1,cells_kept hal2 _ _ hS0.2.2.2.1,cells_kept hal2 _ _ hS0.2.2.2.2⟩
 clear hK
 try simp only [Act.put,tka,tkb,tkc]
 refine wpAnyH_done (by kernel_rfl) ?_ _
 clear hal hal2 hS0 hS1 hS2
 have bx:Below w.heap.size w (w.alloc (.cells #[.int .i64 1,.int .i64 a,.int .i64 q] 144)).drew:=by go_grown
 have pX:Blk (w.alloc (.cells #[.int .i64 1,.int .i64 a,.int .i64 q] 144)).drew w.heap.size 144 [.int .i64 1,.int .i64 a,.int .i64 q]:=Blk.new w 144 [.int .i64 1,.int .i64 a,.int .i64 q]
 have hgl:=hM.lt
 replace hM:=hM.below bx
 replace e1:=cells_kept bx _ _ e1
 have gx:w.grownBy (w.alloc (.cells #[.int .i64 1,.int .i64 a,.int .i64 q] 144)).drew (some g):=grown_new bx
 clear bx e0 q0 q1 q2
 generalize hW2:(w.alloc (.cells #[.int .i64 1,.int .i64 a,.int .i64 q] 144)).drew=W2 at *
 clear hW2
 have hne:w.heap.size≠g:=by omega
 generalize w.heap.size=gX at *
 have f1:=hM.frozen (k*4+1)
 have hM3:=hM.set (k*4+1) (.int .i64 ((p:Int)+1))
 rw [mt_pc _ _ _ _ hL hk] at hM3
 have pX3:=pX.off ⟨g,k*4+1,none⟩ (.int .i64 ((p:Int)+1)) hne
 have g3:=grown_tr gx (grown_cell W2 g (k*4+1) (.int .i64 ((p:Int)+1)))
 have u0:=pX3.cell 0
 have u1:=pX3.cell 1
 have u2:=pX3.cell 2
 simp only [List.getElem?_cons_zero,List.getElem?_cons_succ] at u0 u1 u2
 have r1:(W2.setCell ⟨g,k*4+1,none⟩ (.int .i64 ((p:Int)+1))).cell? ⟨g,12+q,none⟩=some (.int .i64 vv):=(hM3.cell _).trans ((mc_var _ _ _ _ hq).trans (congrArg (fun z=>some (Value.int .i64 z)) hvv))
 obtain ⟨old,r2⟩:∃ u,(W2.setCell ⟨g,k*4+1,none⟩ (.int .i64 ((p:Int)+1))).cell? ⟨g,k*4+2+a,none⟩=some u:=⟨_,(hM3.cell _).trans (mc_reg _ _ _ _ hk ha)⟩
 have f_s:=hM3.frozen (k*4+2+a)
 have hM4:=hM3.set (k*4+2+a) (.int .i64 vv)
 rw [mt_reg _ _ _ _ (hL.pc _ _) hk ha] at hM4
 simp only at hM4
 have g4:=grown_tr g3 (grown_cell (W2.setCell ⟨g,k*4+1,none⟩ (.int .i64 ((p:Int)+1))) g (k*4+2+a) (.int .i64 vv))
 have ha2:(a:Int)<2:=by omega
 have hq4:(q:Int)<4:=by omega

 have hpw:IntKind.i64.wrap ((p:Int)+1)=(p:Int)+1:=IntWalk.i64_in _ (by omega)
 clear hM gx pX
 clear hvv hM3 g3 pX3
 go_wp2_with fail
 generalize (W2.setCell ⟨g,k*4+1,none⟩ (.int .i64 ((p:Int)+1)))=W3 at *
 go_region
 go_wp2
 go_ret
 exact ⟨rfl,hM4,grown_drew g4⟩

theorem step_store (g k p b off n c:Nat) (a q:Nat) (vv:Int) (cs:Sl × Sl × Sl) (m:V4) (w:World) (hk:k<3) (hp:p<n) (hp6:p≤6) (hL:LenOk m) (hM:Blk w g 95 (machCells cs.1.val cs.2.1.val cs.2.2.val m)) (hg:g≠b∨True)
  (e0:w.cell? ⟨g,k*4,none⟩=some (.slice (some ⟨b,off,none⟩) n c)) (e1:w.cell? ⟨g,k*4+1,none⟩=some (.int .i64 p)) (q0:w.cell? ⟨b,off+p*3,none⟩=some (.int .i64 2)) (q1:w.cell? ⟨b,off+p*3+1,none⟩=some (.int .i64 q)) (q2:w.cell? ⟨b,off+p*3+2,none⟩=some (.int .i64 a)) (ha:a<2) (hq:q<4) (hvv:m.2.2.2.getD (k*2+a) 0=vv) :
  Calls Tryz.prog 63 #[.pointer (some ⟨g,0,none⟩),.int .i64 k] w fun e w'=>e=.returned (.int .i64 0)∧Blk w' g 95 (machCells cs.1.val cs.2.1.val cs.2.2.val (m.1.set k ((p:Int)+1),m.2.1.set q vv,m.2.2.1,m.2.2.2))∧w.grownBy w' (some g):=by
 have hk3:(k:Int)<3:=by omega
 have hpn:(p:Int)<(n:Int):=by omega
 go_enter Tryz.func63,Tryz.ntmps63
 go_wp2_with fail
 refine wp_region_held_drew (S:=(fun w'=>w'.cell? ⟨g,k*4,none⟩=some (.slice (some ⟨b,off,none⟩) n c)∧w'.cell? ⟨g,k*4+1,none⟩=some (.int .i64 p)∧w'.cell? ⟨b,off+p*3,none⟩=some (.int .i64 2)∧w'.cell? ⟨b,off+p*3+1,none⟩=some (.int .i64 q)∧w'.cell? ⟨b,off+p*3+2,none⟩=some (.int .i64 a))) (by kernel_rfl) ⟨e0,e1,q0,q1,q2⟩ (fun hS0=>?_)
 refine tkm 0 12 (.pointer (some ⟨g,k*4,none⟩)) ?_
 refine tkm 1 13 (.pointer (some ⟨g,k*4,none⟩)) ?_
 refine tkm 2 14 (.pointer (some ⟨g,k*4,none⟩)) ?_
 refine tkm 3 15 (.slice (some ⟨b,off,none⟩) n c) ?_
 refine tkm 4 16 (.pointer (some ⟨g,k*4,none⟩)) ?_
 refine tkm 5 17 (.pointer (some ⟨g,k*4,none⟩)) ?_
 refine tkm 6 18 (.pointer (some ⟨g,k*4+1,none⟩)) ?_
 refine tkm 7 19 (.int .i64 p) ?_
 refine tkm 8 20 (.pointer (some ⟨b,off+p*3,none⟩)) ?_
 refine tkm 9 21 (.agg #[.int .i64 2,.int .i64 q,.int .i64 a]) ?_
 refine tkr 10 6 (fun K hK=>?_)
 have hal:Below w.drew.heap.size w.drew (w.drew.alloc (.cells #[.int .i64 0,.int .i64 0,.int .i64 0] 144)):=by go_grown
 go_simp
 refine hK.out _ _ ?_ (fun hS1=>?_)
 ·exact ⟨cells_kept hal _ _ hS0.1,cells_kept hal _ _ hS0.2.1,cells_kept hal _ _ hS0.2.2.1,cells_kept hal _ _ hS0.2.2.2.1,cells_kept hal _ _ hS0.2.2.2.2⟩
 clear hK
 try simp only [Act.put,tka,tkb,tkc]
 refine tkz 11 (fun K hK=>?_)
 have hal2:Below w.drew.heap.size w.drew (w.drew.alloc (.cells #[.int .i64 2,.int .i64 q,.int .i64 a] 144)):=by go_grown
 go_simp
 refine hK.out _ _ ?_ (fun hS2=>?_)
 ·exact ⟨cells_kept hal2 _ _ hS0.1,cells_kept hal2 _ _ hS0.2.1,cells_kept hal2 _ _ hS0.2.2.1,cells_kept hal2 _ _ hS0.2.2.2.1,cells_kept hal2 _ _ hS0.2.2.2.2⟩
 clear hK
 try simp only [Act.put,tka,tkb,tkc]
 refine wpAnyH_done (by kernel_rfl) ?_ _
 clear hal hal2 hS0 hS1 hS2
 have bx:Below w.heap.size w (w.alloc (.cells #[.int .i64 2,.int .i64 q,.int .i64 a] 144)).drew:=by go_grown
 have pX:Blk (w.alloc (.cells #[.int .i64 2,.int .i64 q,.int .i64 a] 144)).drew w.heap.size 144 [.int .i64 2,.int .i64 q,.int .i64 a]:=Blk.new w 144 [.int .i64 2,.int .i64 q,.int .i64 a]
 have hgl:=hM.lt
 replace hM:=hM.below bx
 replace e1:=cells_kept bx _ _ e1
 have gx:w.grownBy (w.alloc (.cells #[.int .i64 2,.int .i64 q,.int .i64 a] 144)).drew (some g):=grown_new bx
 clear bx e0 q0 q1 q2
 generalize hW2:(w.alloc (.cells #[.int .i64 2,.int .i64 q,.int .i64 a] 144)).drew=W2 at *
 clear hW2
 have hne:w.heap.size≠g:=by omega
 generalize w.heap.size=gX at *
 have f1:=hM.frozen (k*4+1)
 have hM3:=hM.set (k*4+1) (.int .i64 ((p:Int)+1))
 rw [mt_pc _ _ _ _ hL hk] at hM3
 have pX3:=pX.off ⟨g,k*4+1,none⟩ (.int .i64 ((p:Int)+1)) hne
 have g3:=grown_tr gx (grown_cell W2 g (k*4+1) (.int .i64 ((p:Int)+1)))
 have u0:=pX3.cell 0
 have u1:=pX3.cell 1
 have u2:=pX3.cell 2
 simp only [List.getElem?_cons_zero,List.getElem?_cons_succ] at u0 u1 u2
 have r1:(W2.setCell ⟨g,k*4+1,none⟩ (.int .i64 ((p:Int)+1))).cell? ⟨g,k*4+2+a,none⟩=some (.int .i64 vv):=(hM3.cell _).trans ((mc_reg _ _ _ _ hk ha).trans (congrArg (fun z=>some (Value.int .i64 z)) hvv))
 obtain ⟨old,r2⟩:∃ u,(W2.setCell ⟨g,k*4+1,none⟩ (.int .i64 ((p:Int)+1))).cell? ⟨g,12+q,none⟩=some u:=⟨_,(hM3.cell _).trans (mc_var _ _ _ _ hq)⟩
 have f_s:=hM3.frozen (12+q)
 have hM4:=hM3.set (12+q) (.int .i64 vv)
 rw [mt_var _ _ _ _ (hL.pc _ _) hq] at hM4
 simp only at hM4
 have g4:=grown_tr g3 (grown_cell (W2.setCell ⟨g,k*4+1,none⟩ (.int .i64 ((p:Int)+1))) g (12+q) (.int .i64 vv))
 have ha2:(a:Int)<2:=by omega
 have hq4:(q:Int)<4:=by omega

 have hpw:IntKind.i64.wrap ((p:Int)+1)=(p:Int)+1:=IntWalk.i64_in _ (by omega)
 clear hM gx pX
 clear hvv hM3 g3 pX3
 go_wp2_with fail
 generalize (W2.setCell ⟨g,k*4+1,none⟩ (.int .i64 ((p:Int)+1)))=W3 at *
 go_region
 go_wp2
 go_ret
 exact ⟨rfl,hM4,grown_drew g4⟩

theorem step_set (g k p b off n c:Nat) (a:Nat) (z:Int) (cs:Sl × Sl × Sl) (m:V4) (w:World) (hk:k<3) (hp:p<n) (hp6:p≤6) (hL:LenOk m) (hM:Blk w g 95 (machCells cs.1.val cs.2.1.val cs.2.2.val m)) (hg:g≠b∨True)
  (e0:w.cell? ⟨g,k*4,none⟩=some (.slice (some ⟨b,off,none⟩) n c)) (e1:w.cell? ⟨g,k*4+1,none⟩=some (.int .i64 p)) (q0:w.cell? ⟨b,off+p*3,none⟩=some (.int .i64 3)) (q1:w.cell? ⟨b,off+p*3+1,none⟩=some (.int .i64 a)) (q2:w.cell? ⟨b,off+p*3+2,none⟩=some (.int .i64 z)) (ha:a<2) :
  Calls Tryz.prog 63 #[.pointer (some ⟨g,0,none⟩),.int .i64 k] w fun e w'=>e=.returned (.int .i64 0)∧Blk w' g 95 (machCells cs.1.val cs.2.1.val cs.2.2.val (m.1.set k ((p:Int)+1),m.2.1,m.2.2.1,m.2.2.2.set (k*2+a) z))∧w.grownBy w' (some g):=by
 have hk3:(k:Int)<3:=by omega
 have hpn:(p:Int)<(n:Int):=by omega
 go_enter Tryz.func63,Tryz.ntmps63
 go_wp2_with fail
 refine wp_region_held_drew (S:=(fun w'=>w'.cell? ⟨g,k*4,none⟩=some (.slice (some ⟨b,off,none⟩) n c)∧w'.cell? ⟨g,k*4+1,none⟩=some (.int .i64 p)∧w'.cell? ⟨b,off+p*3,none⟩=some (.int .i64 3)∧w'.cell? ⟨b,off+p*3+1,none⟩=some (.int .i64 a)∧w'.cell? ⟨b,off+p*3+2,none⟩=some (.int .i64 z))) (by kernel_rfl) ⟨e0,e1,q0,q1,q2⟩ (fun hS0=>?_)
 refine tkm 0 12 (.pointer (some ⟨g,k*4,none⟩)) ?_
 refine tkm 1 13 (.pointer (some ⟨g,k*4,none⟩)) ?_
 refine tkm 2 14 (.pointer (some ⟨g,k*4,none⟩)) ?_
 refine tkm 3 15 (.slice (some ⟨b,off,none⟩) n c) ?_
 refine tkm 4 16 (.pointer (some ⟨g,k*4,none⟩)) ?_
 refine tkm 5 17 (.pointer (some ⟨g,k*4,none⟩)) ?_
 refine tkm 6 18 (.pointer (some ⟨g,k*4+1,none⟩)) ?_
 refine tkm 7 19 (.int .i64 p) ?_
 refine tkm 8 20 (.pointer (some ⟨b,off+p*3,none⟩)) ?_
 refine tkm 9 21 (.agg #[.int .i64 3,.int .i64 a,.int .i64 z]) ?_
 refine tkr 10 6 (fun K hK=>?_)
 have hal:Below w.drew.heap.size w.drew (w.drew.alloc (.cells #[.int .i64 0,.int .i64 0,.int .i64 0] 144)):=by go_grown
 go_simp
 refine hK.out _ _ ?_ (fun hS1=>?_)
 ·exact ⟨cells_kept hal _ _ hS0.1,cells_kept hal _ _ hS0.2.1,cells_kept hal _ _ hS0.2.2.1,cells_kept hal _ _ hS0.2.2.2.1,cells_kept hal _ _ hS0.2.2.2.2⟩
 clear hK
 try simp only [Act.put,tka,tkb,tkc]
 refine tkz 11 (fun K hK=>?_)
 have hal2:Below w.drew.heap.size w.drew (w.drew.alloc (.cells #[.int .i64 3,.int .i64 a,.int .i64 z] 144)):=by go_grown
 go_simp
 refine hK.out _ _ ?_ (fun hS2=>?_)
 ·exact ⟨cells_kept hal2 _ _ hS0.1,cells_kept hal2 _ _ hS0.2.1,cells_kept hal2 _ _ hS0.2.2.1,cells_kept hal2 _ _ hS0.2.2.2.1,cells_kept hal2 _ _ hS0.2.2.2.2⟩
 clear hK
 try simp only [Act.put,tka,tkb,tkc]
 refine wpAnyH_done (by kernel_rfl) ?_ _
 clear hal hal2 hS0 hS1 hS2
 have bx:Below w.heap.size w (w.alloc (.cells #[.int .i64 3,.int .i64 a,.int .i64 z] 144)).drew:=by go_grown
 have pX:Blk (w.alloc (.cells #[.int .i64 3,.int .i64 a,.int .i64 z] 144)).drew w.heap.size 144 [.int .i64 3,.int .i64 a,.int .i64 z]:=Blk.new w 144 [.int .i64 3,.int .i64 a,.int .i64 z]
 have hgl:=hM.lt
 replace hM:=hM.below bx
 replace e1:=cells_kept bx _ _ e1
 have gx:w.grownBy (w.alloc (.cells #[.int .i64 3,.int .i64 a,.int .i64 z] 144)).drew (some g):=grown_new bx
 clear bx e0 q0 q1 q2
 generalize hW2:(w.alloc (.cells #[.int .i64 3,.int .i64 a,.int .i64 z] 144)).drew=W2 at *
 clear hW2
 have hne:w.heap.size≠g:=by omega
 generalize w.heap.size=gX at *
 have f1:=hM.frozen (k*4+1)
 have hM3:=hM.set (k*4+1) (.int .i64 ((p:Int)+1))
 rw [mt_pc _ _ _ _ hL hk] at hM3
 have pX3:=pX.off ⟨g,k*4+1,none⟩ (.int .i64 ((p:Int)+1)) hne
 have g3:=grown_tr gx (grown_cell W2 g (k*4+1) (.int .i64 ((p:Int)+1)))
 have u0:=pX3.cell 0
 have u1:=pX3.cell 1
 have u2:=pX3.cell 2
 simp only [List.getElem?_cons_zero,List.getElem?_cons_succ] at u0 u1 u2
 obtain ⟨old,r2⟩:∃ u,(W2.setCell ⟨g,k*4+1,none⟩ (.int .i64 ((p:Int)+1))).cell? ⟨g,k*4+2+a,none⟩=some u:=⟨_,(hM3.cell _).trans (mc_reg _ _ _ _ hk ha)⟩
 have f_s:=hM3.frozen (k*4+2+a)
 have hM4:=hM3.set (k*4+2+a) (.int .i64 z)
 rw [mt_reg _ _ _ _ (hL.pc _ _) hk ha] at hM4
 simp only at hM4
 have g4:=grown_tr g3 (grown_cell (W2.setCell ⟨g,k*4+1,none⟩ (.int .i64 ((p:Int)+1))) g (k*4+2+a) (.int .i64 z))
 have ha2:(a:Int)<2:=by omega

 have hpw:IntKind.i64.wrap ((p:Int)+1)=(p:Int)+1:=IntWalk.i64_in _ (by omega)
 clear hM gx pX
 clear hM3 g3 pX3
 go_wp2_with fail
 generalize (W2.setCell ⟨g,k*4+1,none⟩ (.int .i64 ((p:Int)+1)))=W3 at *
 go_region
 go_wp2
 go_ret
 exact ⟨rfl,hM4,grown_drew g4⟩

theorem step_add (g k p b off n c:Nat) (a:Nat) (z vv t:Int) (cs:Sl × Sl × Sl) (m:V4) (w:World) (hk:k<3) (hp:p<n) (hp6:p≤6) (hL:LenOk m) (hM:Blk w g 95 (machCells cs.1.val cs.2.1.val cs.2.2.val m)) (hg:g≠b∨True)
  (e0:w.cell? ⟨g,k*4,none⟩=some (.slice (some ⟨b,off,none⟩) n c)) (e1:w.cell? ⟨g,k*4+1,none⟩=some (.int .i64 p)) (q0:w.cell? ⟨b,off+p*3,none⟩=some (.int .i64 4)) (q1:w.cell? ⟨b,off+p*3+1,none⟩=some (.int .i64 a)) (q2:w.cell? ⟨b,off+p*3+2,none⟩=some (.int .i64 z)) (ha:a<2) (hvv:m.2.2.2.getD (k*2+a) 0=vv) (hz:0≤z∧z≤9) (hv9:0≤vv∧vv≤9) (ht:(vv+z) % 10=t) :
  Calls Tryz.prog 63 #[.pointer (some ⟨g,0,none⟩),.int .i64 k] w fun e w'=>e=.returned (.int .i64 0)∧Blk w' g 95 (machCells cs.1.val cs.2.1.val cs.2.2.val (m.1.set k ((p:Int)+1),m.2.1,m.2.2.1,m.2.2.2.set (k*2+a) t))∧w.grownBy w' (some g):=by
 have hk3:(k:Int)<3:=by omega
 have hpn:(p:Int)<(n:Int):=by omega
 go_enter Tryz.func63,Tryz.ntmps63
 go_wp2_with fail
 refine wp_region_held_drew (S:=(fun w'=>w'.cell? ⟨g,k*4,none⟩=some (.slice (some ⟨b,off,none⟩) n c)∧w'.cell? ⟨g,k*4+1,none⟩=some (.int .i64 p)∧w'.cell? ⟨b,off+p*3,none⟩=some (.int .i64 4)∧w'.cell? ⟨b,off+p*3+1,none⟩=some (.int .i64 a)∧w'.cell? ⟨b,off+p*3+2,none⟩=some (.int .i64 z))) (by kernel_rfl) ⟨e0,e1,q0,q1,q2⟩ (fun hS0=>?_)
 refine tkm 0 12 (.pointer (some ⟨g,k*4,none⟩)) ?_
 refine tkm 1 13 (.pointer (some ⟨g,k*4,none⟩)) ?_
 refine tkm 2 14 (.pointer (some ⟨g,k*4,none⟩)) ?_
 refine tkm 3 15 (.slice (some ⟨b,off,none⟩) n c) ?_
 refine tkm 4 16 (.pointer (some ⟨g,k*4,none⟩)) ?_
 refine tkm 5 17 (.pointer (some ⟨g,k*4,none⟩)) ?_
 refine tkm 6 18 (.pointer (some ⟨g,k*4+1,none⟩)) ?_
 refine tkm 7 19 (.int .i64 p) ?_
 refine tkm 8 20 (.pointer (some ⟨b,off+p*3,none⟩)) ?_
 refine tkm 9 21 (.agg #[.int .i64 4,.int .i64 a,.int .i64 z]) ?_
 refine tkr 10 6 (fun K hK=>?_)
 have hal:Below w.drew.heap.size w.drew (w.drew.alloc (.cells #[.int .i64 0,.int .i64 0,.int .i64 0] 144)):=by go_grown
 go_simp
 refine hK.out _ _ ?_ (fun hS1=>?_)
 ·exact ⟨cells_kept hal _ _ hS0.1,cells_kept hal _ _ hS0.2.1,cells_kept hal _ _ hS0.2.2.1,cells_kept hal _ _ hS0.2.2.2.1,cells_kept hal _ _ hS0.2.2.2.2⟩
 clear hK
 try simp only [Act.put,tka,tkb,tkc]
 refine tkz 11 (fun K hK=>?_)
 have hal2:Below w.drew.heap.size w.drew (w.drew.alloc (.cells #[.int .i64 4,.int .i64 a,.int .i64 z] 144)):=by go_grown
 go_simp
 refine hK.out _ _ ?_ (fun hS2=>?_)
 ·exact ⟨cells_kept hal2 _ _ hS0.1,cells_kept hal2 _ _ hS0.2.1,cells_kept hal2 _ _ hS0.2.2.1,cells_kept hal2 _ _ hS0.2.2.2.1,cells_kept hal2 _ _ hS0.2.2.2.2⟩
 clear hK
 try simp only [Act.put,tka,tkb,tkc]
 refine wpAnyH_done (by kernel_rfl) ?_ _
 clear hal hal2 hS0 hS1 hS2
 have bx:Below w.heap.size w (w.alloc (.cells #[.int .i64 4,.int .i64 a,.int .i64 z] 144)).drew:=by go_grown
 have pX:Blk (w.alloc (.cells #[.int .i64 4,.int .i64 a,.int .i64 z] 144)).drew w.heap.size 144 [.int .i64 4,.int .i64 a,.int .i64 z]:=Blk.new w 144 [.int .i64 4,.int .i64 a,.int .i64 z]
 have hgl:=hM.lt
 replace hM:=hM.below bx
 replace e1:=cells_kept bx _ _ e1
 have gx:w.grownBy (w.alloc (.cells #[.int .i64 4,.int .i64 a,.int .i64 z] 144)).drew (some g):=grown_new bx
 clear bx e0 q0 q1 q2
 generalize hW2:(w.alloc (.cells #[.int .i64 4,.int .i64 a,.int .i64 z] 144)).drew=W2 at *
 clear hW2
 have hne:w.heap.size≠g:=by omega
 generalize w.heap.size=gX at *
 have f1:=hM.frozen (k*4+1)
 have hM3:=hM.set (k*4+1) (.int .i64 ((p:Int)+1))
 rw [mt_pc _ _ _ _ hL hk] at hM3
 have pX3:=pX.off ⟨g,k*4+1,none⟩ (.int .i64 ((p:Int)+1)) hne
 have g3:=grown_tr gx (grown_cell W2 g (k*4+1) (.int .i64 ((p:Int)+1)))
 have u0:=pX3.cell 0
 have u1:=pX3.cell 1
 have u2:=pX3.cell 2
 simp only [List.getElem?_cons_zero,List.getElem?_cons_succ] at u0 u1 u2
 have r1:(W2.setCell ⟨g,k*4+1,none⟩ (.int .i64 ((p:Int)+1))).cell? ⟨g,k*4+2+a,none⟩=some (.int .i64 vv):=(hM3.cell _).trans ((mc_reg _ _ _ _ hk ha).trans (congrArg (fun z=>some (Value.int .i64 z)) hvv))
 have f_s:=hM3.frozen (k*4+2+a)
 have hM4:=hM3.set (k*4+2+a) (.int .i64 t)
 rw [mt_reg _ _ _ _ (hL.pc _ _) hk ha] at hM4
 simp only at hM4
 have g4:=grown_tr g3 (grown_cell (W2.setCell ⟨g,k*4+1,none⟩ (.int .i64 ((p:Int)+1))) g (k*4+2+a) (.int .i64 t))
 have ha2:(a:Int)<2:=by omega
 have hw1:IntKind.i64.wrap (vv+z)=vv+z:=IntWalk.i64_in _ (by omega)
 have hw2:(vv+z).tmod 10=t:=by rw [← ht,Int.tmod_eq_emod_of_nonneg (by omega)]
 have hw3:IntKind.i64.wrap t=t:=IntWalk.i64_in _ (by omega)

 have hpw:IntKind.i64.wrap ((p:Int)+1)=(p:Int)+1:=IntWalk.i64_in _ (by omega)
 clear hM gx pX
 clear hvv hM3 g3 pX3
 go_wp2_with fail
 generalize (W2.setCell ⟨g,k*4+1,none⟩ (.int .i64 ((p:Int)+1)))=W3 at *
 go_region
 go_wp2
 go_ret
 exact ⟨rfl,hM4,grown_drew g4⟩

theorem step_lock (g k p b off n c:Nat) (a:Nat) (z:Int) (cs:Sl × Sl × Sl) (m:V4) (w:World) (hk:k<3) (hp:p<n) (hp6:p≤6) (hL:LenOk m) (hM:Blk w g 95 (machCells cs.1.val cs.2.1.val cs.2.2.val m)) (hg:g≠b∨True)
  (e0:w.cell? ⟨g,k*4,none⟩=some (.slice (some ⟨b,off,none⟩) n c)) (e1:w.cell? ⟨g,k*4+1,none⟩=some (.int .i64 p)) (q0:w.cell? ⟨b,off+p*3,none⟩=some (.int .i64 5)) (q1:w.cell? ⟨b,off+p*3+1,none⟩=some (.int .i64 a)) (q2:w.cell? ⟨b,off+p*3+2,none⟩=some (.int .i64 z)) (ha:a<2) :
  Calls Tryz.prog 63 #[.pointer (some ⟨g,0,none⟩),.int .i64 k] w fun e w'=>e=.returned (.int .i64 0)∧Blk w' g 95 (machCells cs.1.val cs.2.1.val cs.2.2.val (m.1.set k ((p:Int)+1),m.2.1,m.2.2.1.set a ((k:Int)+1),m.2.2.2))∧w.grownBy w' (some g):=by
 have hk3:(k:Int)<3:=by omega
 have hpn:(p:Int)<(n:Int):=by omega
 go_enter Tryz.func63,Tryz.ntmps63
 go_wp2_with fail
 refine wp_region_held_drew (S:=(fun w'=>w'.cell? ⟨g,k*4,none⟩=some (.slice (some ⟨b,off,none⟩) n c)∧w'.cell? ⟨g,k*4+1,none⟩=some (.int .i64 p)∧w'.cell? ⟨b,off+p*3,none⟩=some (.int .i64 5)∧w'.cell? ⟨b,off+p*3+1,none⟩=some (.int .i64 a)∧w'.cell? ⟨b,off+p*3+2,none⟩=some (.int .i64 z))) (by kernel_rfl) ⟨e0,e1,q0,q1,q2⟩ (fun hS0=>?_)
 refine tkm 0 12 (.pointer (some ⟨g,k*4,none⟩)) ?_
 refine tkm 1 13 (.pointer (some ⟨g,k*4,none⟩)) ?_
 refine tkm 2 14 (.pointer (some ⟨g,k*4,none⟩)) ?_
 refine tkm 3 15 (.slice (some ⟨b,off,none⟩) n c) ?_
 refine tkm 4 16 (.pointer (some ⟨g,k*4,none⟩)) ?_
 refine tkm 5 17 (.pointer (some ⟨g,k*4,none⟩)) ?_
 refine tkm 6 18 (.pointer (some ⟨g,k*4+1,none⟩)) ?_
 refine tkm 7 19 (.int .i64 p) ?_
 refine tkm 8 20 (.pointer (some ⟨b,off+p*3,none⟩)) ?_
 refine tkm 9 21 (.agg #[.int .i64 5,.int .i64 a,.int .i64 z]) ?_
 refine tkr 10 6 (fun K hK=>?_)
 have hal:Below w.drew.heap.size w.drew (w.drew.alloc (.cells #[.int .i64 0,.int .i64 0,.int .i64 0] 144)):=by go_grown
 go_simp
 refine hK.out _ _ ?_ (fun hS1=>?_)
 ·exact ⟨cells_kept hal _ _ hS0.1,cells_kept hal _ _ hS0.2.1,cells_kept hal _ _ hS0.2.2.1,cells_kept hal _ _ hS0.2.2.2.1,cells_kept hal _ _ hS0.2.2.2.2⟩
 clear hK
 try simp only [Act.put,tka,tkb,tkc]
 refine tkz 11 (fun K hK=>?_)
 have hal2:Below w.drew.heap.size w.drew (w.drew.alloc (.cells #[.int .i64 5,.int .i64 a,.int .i64 z] 144)):=by go_grown
 go_simp
 refine hK.out _ _ ?_ (fun hS2=>?_)
 ·exact ⟨cells_kept hal2 _ _ hS0.1,cells_kept hal2 _ _ hS0.2.1,cells_kept hal2 _ _ hS0.2.2.1,cells_kept hal2 _ _ hS0.2.2.2.1,cells_kept hal2 _ _ hS0.2.2.2.2⟩
 clear hK
 try simp only [Act.put,tka,tkb,tkc]
 refine wpAnyH_done (by kernel_rfl) ?_ _
 clear hal hal2 hS0 hS1 hS2
 have bx:Below w.heap.size w (w.alloc (.cells #[.int .i64 5,.int .i64 a,.int .i64 z] 144)).drew:=by go_grown
 have pX:Blk (w.alloc (.cells #[.int .i64 5,.int .i64 a,.int .i64 z] 144)).drew w.heap.size 144 [.int .i64 5,.int .i64 a,.int .i64 z]:=Blk.new w 144 [.int .i64 5,.int .i64 a,.int .i64 z]
 have hgl:=hM.lt
 replace hM:=hM.below bx
 replace e1:=cells_kept bx _ _ e1
 have gx:w.grownBy (w.alloc (.cells #[.int .i64 5,.int .i64 a,.int .i64 z] 144)).drew (some g):=grown_new bx
 clear bx e0 q0 q1 q2
 generalize hW2:(w.alloc (.cells #[.int .i64 5,.int .i64 a,.int .i64 z] 144)).drew=W2 at *
 clear hW2
 have hne:w.heap.size≠g:=by omega
 generalize w.heap.size=gX at *
 have f1:=hM.frozen (k*4+1)
 have hM3:=hM.set (k*4+1) (.int .i64 ((p:Int)+1))
 rw [mt_pc _ _ _ _ hL hk] at hM3
 have pX3:=pX.off ⟨g,k*4+1,none⟩ (.int .i64 ((p:Int)+1)) hne
 have g3:=grown_tr gx (grown_cell W2 g (k*4+1) (.int .i64 ((p:Int)+1)))
 have u0:=pX3.cell 0
 have u1:=pX3.cell 1
 have u2:=pX3.cell 2
 simp only [List.getElem?_cons_zero,List.getElem?_cons_succ] at u0 u1 u2
 obtain ⟨old,r2⟩:∃ u,(W2.setCell ⟨g,k*4+1,none⟩ (.int .i64 ((p:Int)+1))).cell? ⟨g,16+a,none⟩=some u:=⟨_,(hM3.cell _).trans (mc_held _ _ _ _ ha)⟩
 have f_s:=hM3.frozen (16+a)
 have hM4:=hM3.set (16+a) (.int .i64 ((k:Int)+1))
 rw [mt_held _ _ _ _ (hL.pc _ _) ha] at hM4
 simp only at hM4
 have g4:=grown_tr g3 (grown_cell (W2.setCell ⟨g,k*4+1,none⟩ (.int .i64 ((p:Int)+1))) g (16+a) (.int .i64 ((k:Int)+1)))
 have ha2:(a:Int)<2:=by omega
 have hkw:IntKind.i64.wrap ((k:Int)+1)=(k:Int)+1:=IntWalk.i64_in _ (by omega)

 have hpw:IntKind.i64.wrap ((p:Int)+1)=(p:Int)+1:=IntWalk.i64_in _ (by omega)
 clear hM gx pX
 clear hM3 g3 pX3
 go_wp2_with fail
 generalize (W2.setCell ⟨g,k*4+1,none⟩ (.int .i64 ((p:Int)+1)))=W3 at *
 go_region
 go_wp2
 go_ret
 exact ⟨rfl,hM4,grown_drew g4⟩

theorem step_unlock_yes (g k p b off n c:Nat) (a:Nat) (z:Int) (cs:Sl × Sl × Sl) (m:V4) (w:World) (hk:k<3) (hp:p<n) (hp6:p≤6) (hL:LenOk m) (hM:Blk w g 95 (machCells cs.1.val cs.2.1.val cs.2.2.val m)) (hg:g≠b∨True)
  (e0:w.cell? ⟨g,k*4,none⟩=some (.slice (some ⟨b,off,none⟩) n c)) (e1:w.cell? ⟨g,k*4+1,none⟩=some (.int .i64 p)) (q0:w.cell? ⟨b,off+p*3,none⟩=some (.int .i64 6)) (q1:w.cell? ⟨b,off+p*3+1,none⟩=some (.int .i64 a)) (q2:w.cell? ⟨b,off+p*3+2,none⟩=some (.int .i64 z)) (ha:a<2) (hv:m.2.2.1.getD a 0=(k:Int)+1) :
  Calls Tryz.prog 63 #[.pointer (some ⟨g,0,none⟩),.int .i64 k] w fun e w'=>e=.returned (.int .i64 0)∧Blk w' g 95 (machCells cs.1.val cs.2.1.val cs.2.2.val (m.1.set k ((p:Int)+1),m.2.1,m.2.2.1.set a 0,m.2.2.2))∧w.grownBy w' (some g):=by
 have hk3:(k:Int)<3:=by omega
 have hpn:(p:Int)<(n:Int):=by omega
 go_enter Tryz.func63,Tryz.ntmps63
 go_wp2_with fail
 refine wp_region_held_drew (S:=(fun w'=>w'.cell? ⟨g,k*4,none⟩=some (.slice (some ⟨b,off,none⟩) n c)∧w'.cell? ⟨g,k*4+1,none⟩=some (.int .i64 p)∧w'.cell? ⟨b,off+p*3,none⟩=some (.int .i64 6)∧w'.cell? ⟨b,off+p*3+1,none⟩=some (.int .i64 a)∧w'.cell? ⟨b,off+p*3+2,none⟩=some (.int .i64 z))) (by kernel_rfl) ⟨e0,e1,q0,q1,q2⟩ (fun hS0=>?_)
 refine tkm 0 12 (.pointer (some ⟨g,k*4,none⟩)) ?_
 refine tkm 1 13 (.pointer (some ⟨g,k*4,none⟩)) ?_
 refine tkm 2 14 (.pointer (some ⟨g,k*4,none⟩)) ?_
 refine tkm 3 15 (.slice (some ⟨b,off,none⟩) n c) ?_
 refine tkm 4 16 (.pointer (some ⟨g,k*4,none⟩)) ?_
 refine tkm 5 17 (.pointer (some ⟨g,k*4,none⟩)) ?_
 refine tkm 6 18 (.pointer (some ⟨g,k*4+1,none⟩)) ?_
 refine tkm 7 19 (.int .i64 p) ?_
 refine tkm 8 20 (.pointer (some ⟨b,off+p*3,none⟩)) ?_
 refine tkm 9 21 (.agg #[.int .i64 6,.int .i64 a,.int .i64 z]) ?_
 refine tkr 10 6 (fun K hK=>?_)
 have hal:Below w.drew.heap.size w.drew (w.drew.alloc (.cells #[.int .i64 0,.int .i64 0,.int .i64 0] 144)):=by go_grown
 go_simp
 refine hK.out _ _ ?_ (fun hS1=>?_)
 ·exact ⟨cells_kept hal _ _ hS0.1,cells_kept hal _ _ hS0.2.1,cells_kept hal _ _ hS0.2.2.1,cells_kept hal _ _ hS0.2.2.2.1,cells_kept hal _ _ hS0.2.2.2.2⟩
 clear hK
 try simp only [Act.put,tka,tkb,tkc]
 refine tkz 11 (fun K hK=>?_)
 have hal2:Below w.drew.heap.size w.drew (w.drew.alloc (.cells #[.int .i64 6,.int .i64 a,.int .i64 z] 144)):=by go_grown
 go_simp
 refine hK.out _ _ ?_ (fun hS2=>?_)
 ·exact ⟨cells_kept hal2 _ _ hS0.1,cells_kept hal2 _ _ hS0.2.1,cells_kept hal2 _ _ hS0.2.2.1,cells_kept hal2 _ _ hS0.2.2.2.1,cells_kept hal2 _ _ hS0.2.2.2.2⟩
 clear hK
 try simp only [Act.put,tka,tkb,tkc]
 refine wpAnyH_done (by kernel_rfl) ?_ _
 clear hal hal2 hS0 hS1 hS2
 have bx:Below w.heap.size w (w.alloc (.cells #[.int .i64 6,.int .i64 a,.int .i64 z] 144)).drew:=by go_grown
 have pX:Blk (w.alloc (.cells #[.int .i64 6,.int .i64 a,.int .i64 z] 144)).drew w.heap.size 144 [.int .i64 6,.int .i64 a,.int .i64 z]:=Blk.new w 144 [.int .i64 6,.int .i64 a,.int .i64 z]
 have hgl:=hM.lt
 replace hM:=hM.below bx
 replace e1:=cells_kept bx _ _ e1
 have gx:w.grownBy (w.alloc (.cells #[.int .i64 6,.int .i64 a,.int .i64 z] 144)).drew (some g):=grown_new bx
 clear bx e0 q0 q1 q2
 generalize hW2:(w.alloc (.cells #[.int .i64 6,.int .i64 a,.int .i64 z] 144)).drew=W2 at *
 clear hW2
 have hne:w.heap.size≠g:=by omega
 generalize w.heap.size=gX at *
 have f1:=hM.frozen (k*4+1)
 have hM3:=hM.set (k*4+1) (.int .i64 ((p:Int)+1))
 rw [mt_pc _ _ _ _ hL hk] at hM3
 have pX3:=pX.off ⟨g,k*4+1,none⟩ (.int .i64 ((p:Int)+1)) hne
 have g3:=grown_tr gx (grown_cell W2 g (k*4+1) (.int .i64 ((p:Int)+1)))
 have u0:=pX3.cell 0
 have u1:=pX3.cell 1
 have u2:=pX3.cell 2
 simp only [List.getElem?_cons_zero,List.getElem?_cons_succ] at u0 u1 u2

 have hpw:IntKind.i64.wrap ((p:Int)+1)=(p:Int)+1:=IntWalk.i64_in _ (by omega)
 clear hM gx pX
 have kU:=unlock_yes g k a cs (m.1.set k ((p:Int)+1),m.2) (W2.setCell ⟨g,k*4+1,none⟩ (.int .i64 ((p:Int)+1))) hk ha (hL.pc _ _) hM3 hv
 clear hv
 go_wp2_with fail
 generalize (W2.setCell ⟨g,k*4+1,none⟩ (.int .i64 ((p:Int)+1)))=W3 at *
 refine kU.mono ?_
 rintro e w4 ⟨rfl,hM4,g4⟩
 go_wp2
 go_ret
 exact ⟨rfl,hM4,grown_tr g3 g4⟩

theorem step_unlock_no (g k p b off n c:Nat) (a:Nat) (z:Int) (cs:Sl × Sl × Sl) (m:V4) (w:World) (hk:k<3) (hp:p<n) (hp6:p≤6) (hL:LenOk m) (hM:Blk w g 95 (machCells cs.1.val cs.2.1.val cs.2.2.val m)) (hg:g≠b∨True)
  (e0:w.cell? ⟨g,k*4,none⟩=some (.slice (some ⟨b,off,none⟩) n c)) (e1:w.cell? ⟨g,k*4+1,none⟩=some (.int .i64 p)) (q0:w.cell? ⟨b,off+p*3,none⟩=some (.int .i64 6)) (q1:w.cell? ⟨b,off+p*3+1,none⟩=some (.int .i64 a)) (q2:w.cell? ⟨b,off+p*3+2,none⟩=some (.int .i64 z)) (ha:a<2) (hv:m.2.2.1.getD a 0≠(k:Int)+1) :
  Calls Tryz.prog 63 #[.pointer (some ⟨g,0,none⟩),.int .i64 k] w fun e w'=>e=.returned (.int .i64 13)∧Blk w' g 95 (machCells cs.1.val cs.2.1.val cs.2.2.val (m.1.set k ((p:Int)+1),m.2))∧w.grownBy w' (some g):=by
 have hk3:(k:Int)<3:=by omega
 have hpn:(p:Int)<(n:Int):=by omega
 go_enter Tryz.func63,Tryz.ntmps63
 go_wp2_with fail
 refine wp_region_held_drew (S:=(fun w'=>w'.cell? ⟨g,k*4,none⟩=some (.slice (some ⟨b,off,none⟩) n c)∧w'.cell? ⟨g,k*4+1,none⟩=some (.int .i64 p)∧w'.cell? ⟨b,off+p*3,none⟩=some (.int .i64 6)∧w'.cell? ⟨b,off+p*3+1,none⟩=some (.int .i64 a)∧w'.cell? ⟨b,off+p*3+2,none⟩=some (.int .i64 z))) (by kernel_rfl) ⟨e0,e1,q0,q1,q2⟩ (fun hS0=>?_)
 refine tkm 0 12 (.pointer (some ⟨g,k*4,none⟩)) ?_
 refine tkm 1 13 (.pointer (some ⟨g,k*4,none⟩)) ?_
 refine tkm 2 14 (.pointer (some ⟨g,k*4,none⟩)) ?_
 refine tkm 3 15 (.slice (some ⟨b,off,none⟩) n c) ?_
 refine tkm 4 16 (.pointer (some ⟨g,k*4,none⟩)) ?_
 refine tkm 5 17 (.pointer (some ⟨g,k*4,none⟩)) ?_
 refine tkm 6 18 (.pointer (some ⟨g,k*4+1,none⟩)) ?_
 refine tkm 7 19 (.int .i64 p) ?_
 refine tkm 8 20 (.pointer (some ⟨b,off+p*3,none⟩)) ?_
 refine tkm 9 21 (.agg #[.int .i64 6,.int .i64 a,.int .i64 z]) ?_
 refine tkr 10 6 (fun K hK=>?_)
 have hal:Below w.drew.heap.size w.drew (w.drew.alloc (.cells #[.int .i64 0,.int .i64 0,.int .i64 0] 144)):=by go_grown
 go_simp
 refine hK.out _ _ ?_ (fun hS1=>?_)
 ·exact ⟨cells_kept hal _ _ hS0.1,cells_kept hal _ _ hS0.2.1,cells_kept hal _ _ hS0.2.2.1,cells_kept hal _ _ hS0.2.2.2.1,cells_kept hal _ _ hS0.2.2.2.2⟩
 clear hK
 try simp only [Act.put,tka,tkb,tkc]
 refine tkz 11 (fun K hK=>?_)
 have hal2:Below w.drew.heap.size w.drew (w.drew.alloc (.cells #[.int .i64 6,.int .i64 a,.int .i64 z] 144)):=by go_grown
 go_simp
 refine hK.out _ _ ?_ (fun hS2=>?_)
 ·exact ⟨cells_kept hal2 _ _ hS0.1,cells_kept hal2 _ _ hS0.2.1,cells_kept hal2 _ _ hS0.2.2.1,cells_kept hal2 _ _ hS0.2.2.2.1,cells_kept hal2 _ _ hS0.2.2.2.2⟩
 clear hK
 try simp only [Act.put,tka,tkb,tkc]
 refine wpAnyH_done (by kernel_rfl) ?_ _
 clear hal hal2 hS0 hS1 hS2
 have bx:Below w.heap.size w (w.alloc (.cells #[.int .i64 6,.int .i64 a,.int .i64 z] 144)).drew:=by go_grown
 have pX:Blk (w.alloc (.cells #[.int .i64 6,.int .i64 a,.int .i64 z] 144)).drew w.heap.size 144 [.int .i64 6,.int .i64 a,.int .i64 z]:=Blk.new w 144 [.int .i64 6,.int .i64 a,.int .i64 z]
 have hgl:=hM.lt
 replace hM:=hM.below bx
 replace e1:=cells_kept bx _ _ e1
 have gx:w.grownBy (w.alloc (.cells #[.int .i64 6,.int .i64 a,.int .i64 z] 144)).drew (some g):=grown_new bx
 clear bx e0 q0 q1 q2
 generalize hW2:(w.alloc (.cells #[.int .i64 6,.int .i64 a,.int .i64 z] 144)).drew=W2 at *
 clear hW2
 have hne:w.heap.size≠g:=by omega
 generalize w.heap.size=gX at *
 have f1:=hM.frozen (k*4+1)
 have hM3:=hM.set (k*4+1) (.int .i64 ((p:Int)+1))
 rw [mt_pc _ _ _ _ hL hk] at hM3
 have pX3:=pX.off ⟨g,k*4+1,none⟩ (.int .i64 ((p:Int)+1)) hne
 have g3:=grown_tr gx (grown_cell W2 g (k*4+1) (.int .i64 ((p:Int)+1)))
 have u0:=pX3.cell 0
 have u1:=pX3.cell 1
 have u2:=pX3.cell 2
 simp only [List.getElem?_cons_zero,List.getElem?_cons_succ] at u0 u1 u2

 have hpw:IntKind.i64.wrap ((p:Int)+1)=(p:Int)+1:=IntWalk.i64_in _ (by omega)
 clear hM gx pX
 have kU:=unlock_no g k a cs (m.1.set k ((p:Int)+1),m.2) (W2.setCell ⟨g,k*4+1,none⟩ (.int .i64 ((p:Int)+1))) hk ha hM3 hv
 clear hv
 go_wp2_with fail
 generalize (W2.setCell ⟨g,k*4+1,none⟩ (.int .i64 ((p:Int)+1)))=W3 at *
 refine kU.mono ?_
 rintro e w4 ⟨rfl,rfl⟩
 go_wp2
 go_ret
 exact ⟨rfl,hM3,g3⟩

theorem step_stay (g k p b off n c:Nat) (a:Nat) (z:Int) (cs:Sl × Sl × Sl) (m:V4) (w:World) (hk:k<3) (hp:p<n) (hp6:p≤6) (hL:LenOk m) (hM:Blk w g 95 (machCells cs.1.val cs.2.1.val cs.2.2.val m)) (hg:g≠b∨True)
  (e0:w.cell? ⟨g,k*4,none⟩=some (.slice (some ⟨b,off,none⟩) n c)) (e1:w.cell? ⟨g,k*4+1,none⟩=some (.int .i64 p)) (q0:w.cell? ⟨b,off+p*3,none⟩=some (.int .i64 7)) (q1:w.cell? ⟨b,off+p*3+1,none⟩=some (.int .i64 a)) (q2:w.cell? ⟨b,off+p*3+2,none⟩=some (.int .i64 z)) (ha:a<2) (hvv:m.2.2.2.getD (k*2+a) 0=0) :
  Calls Tryz.prog 63 #[.pointer (some ⟨g,0,none⟩),.int .i64 k] w fun e w'=>e=.returned (.int .i64 0)∧Blk w' g 95 (machCells cs.1.val cs.2.1.val cs.2.2.val (m.1.set k ((p:Int)+1),m.2))∧w.grownBy w' (some g):=by
 have hk3:(k:Int)<3:=by omega
 have hpn:(p:Int)<(n:Int):=by omega
 go_enter Tryz.func63,Tryz.ntmps63
 go_wp2_with fail
 refine wp_region_held_drew (S:=(fun w'=>w'.cell? ⟨g,k*4,none⟩=some (.slice (some ⟨b,off,none⟩) n c)∧w'.cell? ⟨g,k*4+1,none⟩=some (.int .i64 p)∧w'.cell? ⟨b,off+p*3,none⟩=some (.int .i64 7)∧w'.cell? ⟨b,off+p*3+1,none⟩=some (.int .i64 a)∧w'.cell? ⟨b,off+p*3+2,none⟩=some (.int .i64 z))) (by kernel_rfl) ⟨e0,e1,q0,q1,q2⟩ (fun hS0=>?_)
 refine tkm 0 12 (.pointer (some ⟨g,k*4,none⟩)) ?_
 refine tkm 1 13 (.pointer (some ⟨g,k*4,none⟩)) ?_
 refine tkm 2 14 (.pointer (some ⟨g,k*4,none⟩)) ?_
 refine tkm 3 15 (.slice (some ⟨b,off,none⟩) n c) ?_
 refine tkm 4 16 (.pointer (some ⟨g,k*4,none⟩)) ?_
 refine tkm 5 17 (.pointer (some ⟨g,k*4,none⟩)) ?_
 refine tkm 6 18 (.pointer (some ⟨g,k*4+1,none⟩)) ?_
 refine tkm 7 19 (.int .i64 p) ?_
 refine tkm 8 20 (.pointer (some ⟨b,off+p*3,none⟩)) ?_
 refine tkm 9 21 (.agg #[.int .i64 7,.int .i64 a,.int .i64 z]) ?_
 refine tkr 10 6 (fun K hK=>?_)
 have hal:Below w.drew.heap.size w.drew (w.drew.alloc (.cells #[.int .i64 0,.int .i64 0,.int .i64 0] 144)):=by go_grown
 go_simp
 refine hK.out _ _ ?_ (fun hS1=>?_)
 ·exact ⟨cells_kept hal _ _ hS0.1,cells_kept hal _ _ hS0.2.1,cells_kept hal _ _ hS0.2.2.1,cells_kept hal _ _ hS0.2.2.2.1,cells_kept hal _ _ hS0.2.2.2.2⟩
 clear hK
 try simp only [Act.put,tka,tkb,tkc]
 refine tkz 11 (fun K hK=>?_)
 have hal2:Below w.drew.heap.size w.drew (w.drew.alloc (.cells #[.int .i64 7,.int .i64 a,.int .i64 z] 144)):=by go_grown
 go_simp
 refine hK.out _ _ ?_ (fun hS2=>?_)
 ·exact ⟨cells_kept hal2 _ _ hS0.1,cells_kept hal2 _ _ hS0.2.1,cells_kept hal2 _ _ hS0.2.2.1,cells_kept hal2 _ _ hS0.2.2.2.1,cells_kept hal2 _ _ hS0.2.2.2.2⟩
 clear hK
 try simp only [Act.put,tka,tkb,tkc]
 refine wpAnyH_done (by kernel_rfl) ?_ _
 clear hal hal2 hS0 hS1 hS2
 have bx:Below w.heap.size w (w.alloc (.cells #[.int .i64 7,.int .i64 a,.int .i64 z] 144)).drew:=by go_grown
 have pX:Blk (w.alloc (.cells #[.int .i64 7,.int .i64 a,.int .i64 z] 144)).drew w.heap.size 144 [.int .i64 7,.int .i64 a,.int .i64 z]:=Blk.new w 144 [.int .i64 7,.int .i64 a,.int .i64 z]
 have hgl:=hM.lt
 replace hM:=hM.below bx
 replace e1:=cells_kept bx _ _ e1
 have gx:w.grownBy (w.alloc (.cells #[.int .i64 7,.int .i64 a,.int .i64 z] 144)).drew (some g):=grown_new bx
 clear bx e0 q0 q1 q2
 generalize hW2:(w.alloc (.cells #[.int .i64 7,.int .i64 a,.int .i64 z] 144)).drew=W2 at *
 clear hW2
 have hne:w.heap.size≠g:=by omega
 generalize w.heap.size=gX at *
 have f1:=hM.frozen (k*4+1)
 have hM3:=hM.set (k*4+1) (.int .i64 ((p:Int)+1))
 rw [mt_pc _ _ _ _ hL hk] at hM3
 have pX3:=pX.off ⟨g,k*4+1,none⟩ (.int .i64 ((p:Int)+1)) hne
 have g3:=grown_tr gx (grown_cell W2 g (k*4+1) (.int .i64 ((p:Int)+1)))
 have u0:=pX3.cell 0
 have u1:=pX3.cell 1
 have u2:=pX3.cell 2
 simp only [List.getElem?_cons_zero,List.getElem?_cons_succ] at u0 u1 u2
 have r1:(W2.setCell ⟨g,k*4+1,none⟩ (.int .i64 ((p:Int)+1))).cell? ⟨g,k*4+2+a,none⟩=some (.int .i64 0):=(hM3.cell _).trans ((mc_reg _ _ _ _ hk ha).trans (congrArg (fun z=>some (Value.int .i64 z)) hvv))
 have ha2:(a:Int)<2:=by omega

 have hpw:IntKind.i64.wrap ((p:Int)+1)=(p:Int)+1:=IntWalk.i64_in _ (by omega)
 clear hM gx pX
 clear hvv pX3
 go_wp2_with fail
 generalize (W2.setCell ⟨g,k*4+1,none⟩ (.int .i64 ((p:Int)+1)))=W3 at *
 go_quiet (fail)
 go_wp2
 go_ret
 exact ⟨rfl,hM3,grown_drewN g3 _⟩

theorem step_jump (g k p b off n c:Nat) (a:Nat) (z vv:Int) (cs:Sl × Sl × Sl) (m:V4) (w:World) (hk:k<3) (hp:p<n) (hp6:p≤6) (hL:LenOk m) (hM:Blk w g 95 (machCells cs.1.val cs.2.1.val cs.2.2.val m)) (hg:g≠b∨True)
  (e0:w.cell? ⟨g,k*4,none⟩=some (.slice (some ⟨b,off,none⟩) n c)) (e1:w.cell? ⟨g,k*4+1,none⟩=some (.int .i64 p)) (q0:w.cell? ⟨b,off+p*3,none⟩=some (.int .i64 7)) (q1:w.cell? ⟨b,off+p*3+1,none⟩=some (.int .i64 a)) (q2:w.cell? ⟨b,off+p*3+2,none⟩=some (.int .i64 z)) (ha:a<2) (hvv:m.2.2.2.getD (k*2+a) 0=vv) (hv0:vv≠0) :
  Calls Tryz.prog 63 #[.pointer (some ⟨g,0,none⟩),.int .i64 k] w fun e w'=>e=.returned (.int .i64 0)∧Blk w' g 95 (machCells cs.1.val cs.2.1.val cs.2.2.val (m.1.set k z,m.2))∧w.grownBy w' (some g):=by
 have hk3:(k:Int)<3:=by omega
 have hpn:(p:Int)<(n:Int):=by omega
 go_enter Tryz.func63,Tryz.ntmps63
 go_wp2_with fail
 refine wp_region_held_drew (S:=(fun w'=>w'.cell? ⟨g,k*4,none⟩=some (.slice (some ⟨b,off,none⟩) n c)∧w'.cell? ⟨g,k*4+1,none⟩=some (.int .i64 p)∧w'.cell? ⟨b,off+p*3,none⟩=some (.int .i64 7)∧w'.cell? ⟨b,off+p*3+1,none⟩=some (.int .i64 a)∧w'.cell? ⟨b,off+p*3+2,none⟩=some (.int .i64 z))) (by kernel_rfl) ⟨e0,e1,q0,q1,q2⟩ (fun hS0=>?_)
 refine tkm 0 12 (.pointer (some ⟨g,k*4,none⟩)) ?_
 refine tkm 1 13 (.pointer (some ⟨g,k*4,none⟩)) ?_
 refine tkm 2 14 (.pointer (some ⟨g,k*4,none⟩)) ?_
 refine tkm 3 15 (.slice (some ⟨b,off,none⟩) n c) ?_
 refine tkm 4 16 (.pointer (some ⟨g,k*4,none⟩)) ?_
 refine tkm 5 17 (.pointer (some ⟨g,k*4,none⟩)) ?_
 refine tkm 6 18 (.pointer (some ⟨g,k*4+1,none⟩)) ?_
 refine tkm 7 19 (.int .i64 p) ?_
 refine tkm 8 20 (.pointer (some ⟨b,off+p*3,none⟩)) ?_
 refine tkm 9 21 (.agg #[.int .i64 7,.int .i64 a,.int .i64 z]) ?_
 refine tkr 10 6 (fun K hK=>?_)
 have hal:Below w.drew.heap.size w.drew (w.drew.alloc (.cells #[.int .i64 0,.int .i64 0,.int .i64 0] 144)):=by go_grown
 go_simp
 refine hK.out _ _ ?_ (fun hS1=>?_)
 ·exact ⟨cells_kept hal _ _ hS0.1,cells_kept hal _ _ hS0.2.1,cells_kept hal _ _ hS0.2.2.1,cells_kept hal _ _ hS0.2.2.2.1,cells_kept hal _ _ hS0.2.2.2.2⟩
 clear hK
 try simp only [Act.put,tka,tkb,tkc]
 refine tkz 11 (fun K hK=>?_)
 have hal2:Below w.drew.heap.size w.drew (w.drew.alloc (.cells #[.int .i64 7,.int .i64 a,.int .i64 z] 144)):=by go_grown
 go_simp
 refine hK.out _ _ ?_ (fun hS2=>?_)
 ·exact ⟨cells_kept hal2 _ _ hS0.1,cells_kept hal2 _ _ hS0.2.1,cells_kept hal2 _ _ hS0.2.2.1,cells_kept hal2 _ _ hS0.2.2.2.1,cells_kept hal2 _ _ hS0.2.2.2.2⟩
 clear hK
 try simp only [Act.put,tka,tkb,tkc]
 refine wpAnyH_done (by kernel_rfl) ?_ _
 clear hal hal2 hS0 hS1 hS2
 have bx:Below w.heap.size w (w.alloc (.cells #[.int .i64 7,.int .i64 a,.int .i64 z] 144)).drew:=by go_grown
 have pX:Blk (w.alloc (.cells #[.int .i64 7,.int .i64 a,.int .i64 z] 144)).drew w.heap.size 144 [.int .i64 7,.int .i64 a,.int .i64 z]:=Blk.new w 144 [.int .i64 7,.int .i64 a,.int .i64 z]
 have hgl:=hM.lt
 replace hM:=hM.below bx
 replace e1:=cells_kept bx _ _ e1
 have gx:w.grownBy (w.alloc (.cells #[.int .i64 7,.int .i64 a,.int .i64 z] 144)).drew (some g):=grown_new bx
 clear bx e0 q0 q1 q2
 generalize hW2:(w.alloc (.cells #[.int .i64 7,.int .i64 a,.int .i64 z] 144)).drew=W2 at *
 clear hW2
 have hne:w.heap.size≠g:=by omega
 generalize w.heap.size=gX at *
 have f1:=hM.frozen (k*4+1)
 have hM3:=hM.set (k*4+1) (.int .i64 ((p:Int)+1))
 rw [mt_pc _ _ _ _ hL hk] at hM3
 have pX3:=pX.off ⟨g,k*4+1,none⟩ (.int .i64 ((p:Int)+1)) hne
 have g3:=grown_tr gx (grown_cell W2 g (k*4+1) (.int .i64 ((p:Int)+1)))
 have u0:=pX3.cell 0
 have u1:=pX3.cell 1
 have u2:=pX3.cell 2
 simp only [List.getElem?_cons_zero,List.getElem?_cons_succ] at u0 u1 u2
 have r1:(W2.setCell ⟨g,k*4+1,none⟩ (.int .i64 ((p:Int)+1))).cell? ⟨g,k*4+2+a,none⟩=some (.int .i64 vv):=(hM3.cell _).trans ((mc_reg _ _ _ _ hk ha).trans (congrArg (fun z=>some (Value.int .i64 z)) hvv))
 have ha2:(a:Int)<2:=by omega
 have hn0:(vv != 0)=true:=by simp [hv0]
 have r2:(W2.setCell ⟨g,k*4+1,none⟩ (.int .i64 ((p:Int)+1))).cell? ⟨g,k*4+1,none⟩=some (.int .i64 ((p:Int)+1)):=(hM3.cell _).trans ((mc_pc _ _ _ _ hk).trans (by simp [List.getD,hL.1,hk]))
 have f2:=hM3.frozen (k*4+1)
 have hM4:=hM3.set (k*4+1) (.int .i64 z)
 rw [mt_pc _ _ _ _ (hL.pc _ _) hk] at hM4
 simp only [List.set_set] at hM4
 have g4:=grown_tr g3 (grown_cell (W2.setCell ⟨g,k*4+1,none⟩ (.int .i64 ((p:Int)+1))) g (k*4+1) (.int .i64 z))

 have hpw:IntKind.i64.wrap ((p:Int)+1)=(p:Int)+1:=IntWalk.i64_in _ (by omega)
 clear hM gx pX
 clear hvv hM3 g3 pX3
 go_wp2_with fail
 generalize (W2.setCell ⟨g,k*4+1,none⟩ (.int .i64 ((p:Int)+1)))=W3 at *
 go_quiet (fail)
 go_wp2
 go_ret
 exact ⟨rfl,hM4,grown_drewN g4 _⟩

theorem step_assert_yes (g k p b off n c:Nat) (a:Nat) (z:Int) (cs:Sl × Sl × Sl) (m:V4) (w:World) (hk:k<3) (hp:p<n) (hp6:p≤6) (hL:LenOk m) (hM:Blk w g 95 (machCells cs.1.val cs.2.1.val cs.2.2.val m)) (hg:g≠b∨True)
  (e0:w.cell? ⟨g,k*4,none⟩=some (.slice (some ⟨b,off,none⟩) n c)) (e1:w.cell? ⟨g,k*4+1,none⟩=some (.int .i64 p)) (q0:w.cell? ⟨b,off+p*3,none⟩=some (.int .i64 8)) (q1:w.cell? ⟨b,off+p*3+1,none⟩=some (.int .i64 a)) (q2:w.cell? ⟨b,off+p*3+2,none⟩=some (.int .i64 z)) (ha:a<2) (hvv:m.2.2.2.getD (k*2+a) 0=z) :
  Calls Tryz.prog 63 #[.pointer (some ⟨g,0,none⟩),.int .i64 k] w fun e w'=>e=.returned (.int .i64 0)∧Blk w' g 95 (machCells cs.1.val cs.2.1.val cs.2.2.val (m.1.set k ((p:Int)+1),m.2))∧w.grownBy w' (some g):=by
 have hk3:(k:Int)<3:=by omega
 have hpn:(p:Int)<(n:Int):=by omega
 go_enter Tryz.func63,Tryz.ntmps63
 go_wp2_with fail
 refine wp_region_held_drew (S:=(fun w'=>w'.cell? ⟨g,k*4,none⟩=some (.slice (some ⟨b,off,none⟩) n c)∧w'.cell? ⟨g,k*4+1,none⟩=some (.int .i64 p)∧w'.cell? ⟨b,off+p*3,none⟩=some (.int .i64 8)∧w'.cell? ⟨b,off+p*3+1,none⟩=some (.int .i64 a)∧w'.cell? ⟨b,off+p*3+2,none⟩=some (.int .i64 z))) (by kernel_rfl) ⟨e0,e1,q0,q1,q2⟩ (fun hS0=>?_)
 refine tkm 0 12 (.pointer (some ⟨g,k*4,none⟩)) ?_
 refine tkm 1 13 (.pointer (some ⟨g,k*4,none⟩)) ?_
 refine tkm 2 14 (.pointer (some ⟨g,k*4,none⟩)) ?_
 refine tkm 3 15 (.slice (some ⟨b,off,none⟩) n c) ?_
 refine tkm 4 16 (.pointer (some ⟨g,k*4,none⟩)) ?_
 refine tkm 5 17 (.pointer (some ⟨g,k*4,none⟩)) ?_
 refine tkm 6 18 (.pointer (some ⟨g,k*4+1,none⟩)) ?_
 refine tkm 7 19 (.int .i64 p) ?_
 refine tkm 8 20 (.pointer (some ⟨b,off+p*3,none⟩)) ?_
 refine tkm 9 21 (.agg #[.int .i64 8,.int .i64 a,.int .i64 z]) ?_
 refine tkr 10 6 (fun K hK=>?_)
 have hal:Below w.drew.heap.size w.drew (w.drew.alloc (.cells #[.int .i64 0,.int .i64 0,.int .i64 0] 144)):=by go_grown
 go_simp
 refine hK.out _ _ ?_ (fun hS1=>?_)
 ·exact ⟨cells_kept hal _ _ hS0.1,cells_kept hal _ _ hS0.2.1,cells_kept hal _ _ hS0.2.2.1,cells_kept hal _ _ hS0.2.2.2.1,cells_kept hal _ _ hS0.2.2.2.2⟩
 clear hK
 try simp only [Act.put,tka,tkb,tkc]
 refine tkz 11 (fun K hK=>?_)
 have hal2:Below w.drew.heap.size w.drew (w.drew.alloc (.cells #[.int .i64 8,.int .i64 a,.int .i64 z] 144)):=by go_grown
 go_simp
 refine hK.out _ _ ?_ (fun hS2=>?_)
 ·exact ⟨cells_kept hal2 _ _ hS0.1,cells_kept hal2 _ _ hS0.2.1,cells_kept hal2 _ _ hS0.2.2.1,cells_kept hal2 _ _ hS0.2.2.2.1,cells_kept hal2 _ _ hS0.2.2.2.2⟩
 clear hK
 try simp only [Act.put,tka,tkb,tkc]
 refine wpAnyH_done (by kernel_rfl) ?_ _
 clear hal hal2 hS0 hS1 hS2
 have bx:Below w.heap.size w (w.alloc (.cells #[.int .i64 8,.int .i64 a,.int .i64 z] 144)).drew:=by go_grown
 have pX:Blk (w.alloc (.cells #[.int .i64 8,.int .i64 a,.int .i64 z] 144)).drew w.heap.size 144 [.int .i64 8,.int .i64 a,.int .i64 z]:=Blk.new w 144 [.int .i64 8,.int .i64 a,.int .i64 z]
 have hgl:=hM.lt
 replace hM:=hM.below bx
 replace e1:=cells_kept bx _ _ e1
 have gx:w.grownBy (w.alloc (.cells #[.int .i64 8,.int .i64 a,.int .i64 z] 144)).drew (some g):=grown_new bx
 clear bx e0 q0 q1 q2
 generalize hW2:(w.alloc (.cells #[.int .i64 8,.int .i64 a,.int .i64 z] 144)).drew=W2 at *
 clear hW2
 have hne:w.heap.size≠g:=by omega
 generalize w.heap.size=gX at *
 have f1:=hM.frozen (k*4+1)
 have hM3:=hM.set (k*4+1) (.int .i64 ((p:Int)+1))
 rw [mt_pc _ _ _ _ hL hk] at hM3
 have pX3:=pX.off ⟨g,k*4+1,none⟩ (.int .i64 ((p:Int)+1)) hne
 have g3:=grown_tr gx (grown_cell W2 g (k*4+1) (.int .i64 ((p:Int)+1)))
 have u0:=pX3.cell 0
 have u1:=pX3.cell 1
 have u2:=pX3.cell 2
 simp only [List.getElem?_cons_zero,List.getElem?_cons_succ] at u0 u1 u2
 have r1:(W2.setCell ⟨g,k*4+1,none⟩ (.int .i64 ((p:Int)+1))).cell? ⟨g,k*4+2+a,none⟩=some (.int .i64 z):=(hM3.cell _).trans ((mc_reg _ _ _ _ hk ha).trans (congrArg (fun z=>some (Value.int .i64 z)) hvv))
 have ha2:(a:Int)<2:=by omega
 have hn0:(z != z)=false:=by simp

 have hpw:IntKind.i64.wrap ((p:Int)+1)=(p:Int)+1:=IntWalk.i64_in _ (by omega)
 clear hM gx pX
 clear hvv pX3
 go_wp2_with fail
 generalize (W2.setCell ⟨g,k*4+1,none⟩ (.int .i64 ((p:Int)+1)))=W3 at *
 go_quiet (fail)
 go_wp2
 go_ret
 exact ⟨rfl,hM3,grown_drewN g3 _⟩

theorem step_assert_no (g k p b off n c:Nat) (a:Nat) (z vv:Int) (cs:Sl × Sl × Sl) (m:V4) (w:World) (hk:k<3) (hp:p<n) (hp6:p≤6) (hL:LenOk m) (hM:Blk w g 95 (machCells cs.1.val cs.2.1.val cs.2.2.val m)) (hg:g≠b∨True)
  (e0:w.cell? ⟨g,k*4,none⟩=some (.slice (some ⟨b,off,none⟩) n c)) (e1:w.cell? ⟨g,k*4+1,none⟩=some (.int .i64 p)) (q0:w.cell? ⟨b,off+p*3,none⟩=some (.int .i64 8)) (q1:w.cell? ⟨b,off+p*3+1,none⟩=some (.int .i64 a)) (q2:w.cell? ⟨b,off+p*3+2,none⟩=some (.int .i64 z)) (ha:a<2) (hvv:m.2.2.2.getD (k*2+a) 0=vv) (hv0:vv≠z) :
  Calls Tryz.prog 63 #[.pointer (some ⟨g,0,none⟩),.int .i64 k] w fun e w'=>e=.returned (.int .i64 12)∧Blk w' g 95 (machCells cs.1.val cs.2.1.val cs.2.2.val (m.1.set k ((p:Int)+1),m.2))∧w.grownBy w' (some g):=by
 have hk3:(k:Int)<3:=by omega
 have hpn:(p:Int)<(n:Int):=by omega
 go_enter Tryz.func63,Tryz.ntmps63
 go_wp2_with fail
 refine wp_region_held_drew (S:=(fun w'=>w'.cell? ⟨g,k*4,none⟩=some (.slice (some ⟨b,off,none⟩) n c)∧w'.cell? ⟨g,k*4+1,none⟩=some (.int .i64 p)∧w'.cell? ⟨b,off+p*3,none⟩=some (.int .i64 8)∧w'.cell? ⟨b,off+p*3+1,none⟩=some (.int .i64 a)∧w'.cell? ⟨b,off+p*3+2,none⟩=some (.int .i64 z))) (by kernel_rfl) ⟨e0,e1,q0,q1,q2⟩ (fun hS0=>?_)
 refine tkm 0 12 (.pointer (some ⟨g,k*4,none⟩)) ?_
 refine tkm 1 13 (.pointer (some ⟨g,k*4,none⟩)) ?_
 refine tkm 2 14 (.pointer (some ⟨g,k*4,none⟩)) ?_
 refine tkm 3 15 (.slice (some ⟨b,off,none⟩) n c) ?_
 refine tkm 4 16 (.pointer (some ⟨g,k*4,none⟩)) ?_
 refine tkm 5 17 (.pointer (some ⟨g,k*4,none⟩)) ?_
 refine tkm 6 18 (.pointer (some ⟨g,k*4+1,none⟩)) ?_
 refine tkm 7 19 (.int .i64 p) ?_
 refine tkm 8 20 (.pointer (some ⟨b,off+p*3,none⟩)) ?_
 refine tkm 9 21 (.agg #[.int .i64 8,.int .i64 a,.int .i64 z]) ?_
 refine tkr 10 6 (fun K hK=>?_)
 have hal:Below w.drew.heap.size w.drew (w.drew.alloc (.cells #[.int .i64 0,.int .i64 0,.int .i64 0] 144)):=by go_grown
 go_simp
 refine hK.out _ _ ?_ (fun hS1=>?_)
 ·exact ⟨cells_kept hal _ _ hS0.1,cells_kept hal _ _ hS0.2.1,cells_kept hal _ _ hS0.2.2.1,cells_kept hal _ _ hS0.2.2.2.1,cells_kept hal _ _ hS0.2.2.2.2⟩
 clear hK
 try simp only [Act.put,tka,tkb,tkc]
 refine tkz 11 (fun K hK=>?_)
 have hal2:Below w.drew.heap.size w.drew (w.drew.alloc (.cells #[.int .i64 8,.int .i64 a,.int .i64 z] 144)):=by go_grown
 go_simp
 refine hK.out _ _ ?_ (fun hS2=>?_)
 ·exact ⟨cells_kept hal2 _ _ hS0.1,cells_kept hal2 _ _ hS0.2.1,cells_kept hal2 _ _ hS0.2.2.1,cells_kept hal2 _ _ hS0.2.2.2.1,cells_kept hal2 _ _ hS0.2.2.2.2⟩
 clear hK
 try simp only [Act.put,tka,tkb,tkc]
 refine wpAnyH_done (by kernel_rfl) ?_ _
 clear hal hal2 hS0 hS1 hS2
 have bx:Below w.heap.size w (w.alloc (.cells #[.int .i64 8,.int .i64 a,.int .i64 z] 144)).drew:=by go_grown
 have pX:Blk (w.alloc (.cells #[.int .i64 8,.int .i64 a,.int .i64 z] 144)).drew w.heap.size 144 [.int .i64 8,.int .i64 a,.int .i64 z]:=Blk.new w 144 [.int .i64 8,.int .i64 a,.int .i64 z]
 have hgl:=hM.lt
 replace hM:=hM.below bx
 replace e1:=cells_kept bx _ _ e1
 have gx:w.grownBy (w.alloc (.cells #[.int .i64 8,.int .i64 a,.int .i64 z] 144)).drew (some g):=grown_new bx
 clear bx e0 q0 q1 q2
 generalize hW2:(w.alloc (.cells #[.int .i64 8,.int .i64 a,.int .i64 z] 144)).drew=W2 at *
 clear hW2
 have hne:w.heap.size≠g:=by omega
 generalize w.heap.size=gX at *
 have f1:=hM.frozen (k*4+1)
 have hM3:=hM.set (k*4+1) (.int .i64 ((p:Int)+1))
 rw [mt_pc _ _ _ _ hL hk] at hM3
 have pX3:=pX.off ⟨g,k*4+1,none⟩ (.int .i64 ((p:Int)+1)) hne
 have g3:=grown_tr gx (grown_cell W2 g (k*4+1) (.int .i64 ((p:Int)+1)))
 have u0:=pX3.cell 0
 have u1:=pX3.cell 1
 have u2:=pX3.cell 2
 simp only [List.getElem?_cons_zero,List.getElem?_cons_succ] at u0 u1 u2
 have r1:(W2.setCell ⟨g,k*4+1,none⟩ (.int .i64 ((p:Int)+1))).cell? ⟨g,k*4+2+a,none⟩=some (.int .i64 vv):=(hM3.cell _).trans ((mc_reg _ _ _ _ hk ha).trans (congrArg (fun z=>some (Value.int .i64 z)) hvv))
 have ha2:(a:Int)<2:=by omega
 have hn0:(vv != z)=true:=by simp [hv0]

 have hpw:IntKind.i64.wrap ((p:Int)+1)=(p:Int)+1:=IntWalk.i64_in _ (by omega)
 clear hM gx pX
 clear hvv pX3
 go_wp2_with fail
 generalize (W2.setCell ⟨g,k*4+1,none⟩ (.int .i64 ((p:Int)+1)))=W3 at *
 go_quiet (fail)
 go_wp2
 go_ret
 exact ⟨rfl,hM3,grown_drewN g3 _⟩

end Go.Proofs.YtfpopbbmnbehiaaGreatDoor
