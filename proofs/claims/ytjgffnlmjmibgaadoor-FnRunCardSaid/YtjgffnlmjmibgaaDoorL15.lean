/-
  Joined: SpecE.
-/
import Derived.Test.YtjgffnlmjmibgaaDoorL14

namespace Go.Proofs.YtjgffnlmjmibgaaDoor
set_option maxRecDepth 100000
set_option maxHeartbeats 16000000
open Go.RowKit
set_option linter.unusedVariables false

theorem own_ne_blk {w:World} {B e s n g t:Nat} {v:Value} {xs cs:List Value} (h:w.ownsRow B e s v n xs) (hB:Blk w g t cs) (he:e≠t):v.ownBlock≠some g:=by
 rcases h.2 with ⟨rfl,_⟩ | ⟨g',cap,cur,rfl,_,hg,_⟩
 ·simp [Value.ownBlock]
 ·simp only [Value.ownBlock,ne_eq,Option.some.injEq]
  rintro rfl
  unfold Blk at hB
  rw [hg] at hB
  simp at hB
  exact he hB.2

theorem l03Enabled_is (a:Option Addr) (len cap:Nat) (rows:List (List I3)) (s:S4) (m:V4) (cs:Sl × Sl × Sl) (w:World) (hl:len=3) (hR:RowsAt w a cs rows) (h:Vmem w s m) (hp:progOk rows=true) (hs:shapeOk m=true) :
  Calls Tryd.prog 57 #[.agg #[.slice a len cap],s.val] w fun e w'=>(∃ s9:Sl,e=.returned (.slice s9.1 s9.2.1 s9.2.2)∧OwnI w' w.heap.size s9 (enabM rows m 3))∧Below w.heap.size w w':=by
 obtain ⟨i0,hi,hz0,hz1,hz2⟩:=info_parts info_int
 have kC:=fun (W:World) (hR:RowsAt W a cs rows) (h:Vmem W s m) (k:Nat) (hk:k<3)=>l03Can_is (cap:=cap) hl hR h hp hs hk
 have hM:=fun (W:World) (hb:Below w.heap.size w W)=>h.below hb
 obtain ⟨⟨a0,n0,c0⟩,⟨a1,n1,c1⟩,⟨a2,n2,c2⟩,⟨a3,n3,c3⟩⟩:=s
 have uA:S4.val ((a0,n0,c0),(a1,n1,c1),(a2,n2,c2),(a3,n3,c3))=.agg #[.slice a0 n0 c0,.slice a1 n1 c1,.slice a2 n2 c2,.slice a3 n3 c3]:=rfl
 rw [uA] at kC ⊢
 clear uA h hl
 have bw:Below w.heap.size w (((w.alloc (.cells #[.slice a len cap] 25)).alloc (.cells #[.slice a0 n0 c0,.slice a1 n1 c1,.slice a2 n2 c2,.slice a3 n3 c3] 30)).alloc (.cells #[] 3)):=by go_grown
 have pP:Blk (((w.alloc (.cells #[.slice a len cap] 25)).alloc (.cells #[.slice a0 n0 c0,.slice a1 n1 c1,.slice a2 n2 c2,.slice a3 n3 c3] 30)).alloc (.cells #[] 3)) w.heap.size 25 [.slice a len cap]:=blkOld _ (blkOld _ (blkAt _ _ _ rfl))
 have pS:Blk (((w.alloc (.cells #[.slice a len cap] 25)).alloc (.cells #[.slice a0 n0 c0,.slice a1 n1 c1,.slice a2 n2 c2,.slice a3 n3 c3] 30)).alloc (.cells #[] 3)) (w.heap.size+1) 30 [.slice a0 n0 c0,.slice a1 n1 c1,.slice a2 n2 c2,.slice a3 n3 c3]:=blkOld _ (blkAt _ _ _ (by simp))
 have hq:(((w.alloc (.cells #[.slice a len cap] 25)).alloc (.cells #[.slice a0 n0 c0,.slice a1 n1 c1,.slice a2 n2 c2,.slice a3 n3 c3] 30)).alloc (.cells #[] 3)).ownsRow w.heap.size 3 1 (.slice (some ⟨w.heap.size+1+1,0,none⟩) 0 0) 0 ((enabM rows m 0).map (Value.int .i64)):=by
  have h9:=own_empty ((w.alloc (.cells #[.slice a len cap] 25)).alloc (.cells #[.slice a0 n0 c0,.slice a1 n1 c1,.slice a2 n2 c2,.slice a3 n3 c3] 30)) 3 1 w.heap.size (by simp;omega)
  simp only [World.size_alloc] at h9
  exact h9
 go_enter Tryd.func57,Tryd.ntmps57
 go_wp2_with fail
 generalize ((w.alloc (.cells #[.slice a len cap] 25)).alloc (.cells #[.slice a0 n0 c0,.slice a1 n1 c1,.slice a2 n2 c2,.slice a3 n3 c3] 30)).alloc (.cells #[] 3)=W0 at *
 go_loopw [5,6] (fun so si wr=>∃ (k:Nat) (n:Nat) (v:Value),v=so∧k≤3∧si=.int .i64 k∧Hid (n=(enabM rows m k).length)∧wr.ownsRow w.heap.size 3 1 v n ((enabM rows m k).map (Value.int .i64))∧Blk wr w.heap.size 25 [.slice a len cap]∧Blk wr (w.heap.size+1) 30 [.slice a0 n0 c0,.slice a1 n1 c1,.slice a2 n2 c2,.slice a3 n3 c3]∧Below w.heap.size w wr) (fun _ si _=>3 - (intOf si).toNat)
 case atStart=>exact ⟨0,0,_,rfl,by omega,rfl,rfl,hq,pP,pS,bw⟩
 case round =>
  clear hq pP pS bw
  obtain ⟨k,n,so,rfl,hk,rfl,HN,hr,pP,pS,hbw⟩:=hrel
  by_cases hlt:k<3
  ·have hk3:(k:Int)<3:=by omega
   have kC1:=kC _ (hR.below hbw) (hM _ hbw) k hlt
   have gP:=pP.cell 0
   have gS0:=pS.cell 0
   have gS1:=pS.cell 1
   have gS2:=pS.cell 2
   have gS3:=pS.cell 3
   simp only [List.getElem?_cons_zero,List.getElem?_cons_succ] at gP gS0 gS1 gS2 gS3
   cases hcan:canM rows m k
   ·rw [hcan] at kC1
    have HN2:Hid (n=(enabM rows m (k+1)).length):=by rw [Hid,enabM_no hcan];exact HN.out
    rw [← enabM_no hcan] at hr
    go_wp2_with fail
    refine kC1.mono ?_
    rintro e w1 ⟨rfl,hb⟩
    replace hr:=owns_below hr hb
    replace pP:=pP.below hb
    replace pS:=pS.below hb
    replace hbw:=bel_trans hbw hb
    clear hb gP gS0 gS1 gS2 gS3 kC1
    go_wp2
    go_roundw
    case rel=>exact ⟨k+1,n,_,rfl,by omega,by go_num,HN2,hr,pP,pS,hbw⟩
    case measure=>simp [intOf];omega
   ·rw [hcan] at kC1
    have hn3:n≤3:=by have:=enabM_len rows m k;have:=HN.out;omega
    have HN2:Hid (n+1=(enabM rows m (k+1)).length):=by rw [Hid,enabM_yes hcan,List.length_append,← HN.out];rfl
    have HX:Hid (enabM rows m (k+1)=enabM rows m k++[(k:Int)]):=enabM_yes hcan
    go_wp2_with fail
    refine kC1.mono ?_
    rintro e w2 ⟨rfl,hb⟩
    replace hr:=owns_below hr hb
    replace pP:=pP.below hb
    replace pS:=pS.below hb
    replace hbw:=bel_trans hbw hb
    have hsz:=hbw.size
    clear hb gP gS0 gS1 gS2 gS3 kC1
    go_wp2_with (at_builtin;refine wpList_append_own _ rfl _ _ 27 rfl w.heap.size 3 i0 (.int .i64 0) 1 8 Tryd.underlying27 hi hz0 hz1 hz2 rfl (by decide) _ _ _ rfl (hr.alloc _) ⟨w2.heap.size,0,none⟩ 1 1 [.int .i64 (k:Int)] rfl rfl (cell_one_new _ _ _) (by simp [Value.oneCell']) ?c3 ?c4 ?c5 ?_)
    case c3=>unfold maxLen;omega
    case c4=>omega
    case c5=>simp;omega
    intro v' wn hown' hgrow _
    have R:wn.ownsRow w.heap.size 3 1 v' (n+1) ((enabM rows m (k+1)).map (Value.int .i64)):=by
     rw [HX.out,List.map_append]
     exact hown'
    have bn:Below w.heap.size w wn:=(hbw.alloc hsz _).grown hgrow (by simp;omega) (fun k hk=>(hr.lt k hk).1)
    have pP2:Blk wn w.heap.size 25 [.slice a len cap]:=(blkOld _ pP).kept hgrow (own_ne_blk hr pP (by decide))
    have pS2:Blk wn (w.heap.size+1) 30 [.slice a0 n0 c0,.slice a1 n1 c1,.slice a2 n2 c2,.slice a3 n3 c3]:=(blkOld _ pS).kept hgrow (own_ne_blk hr pS (by decide))
    clear hown' hgrow hr hbw HX pP pS
    go_wp2
    go_roundw
    case rel=>exact ⟨k+1,n+1,_,rfl,by omega,by go_num,HN2,R,pP2,pS2,bn⟩
    case measure=>simp [intOf];omega
  ·obtain rfl:k=3:=by omega
   obtain ⟨a',c',rfl⟩:∃ a c,so=.slice a n c:=by
    rcases hr.2 with ⟨rfl,rfl⟩ | ⟨g',cap',cur,hv,_⟩
    ·exact ⟨none,0,rfl⟩
    ·exact ⟨_,cap',hv⟩
   clear kC hM
   go_wp2
   go_ret
   exact ⟨⟨(a',n,c'),rfl,hr⟩,hbw⟩

theorem l03Stuck_is (a:Option Addr) (len cap:Nat) (rows:List (List I3)) (s:S4) (m:V4) (cs:Sl × Sl × Sl) (w:World) (hl:len=3) (hR:RowsAt w a cs rows) (h:Vmem w s m) (hp:progOk rows=true) (hs:shapeOk m=true) :
  Calls Tryd.prog 67 #[.agg #[.slice a len cap],s.val] w fun e w'=>e=.returned (.bool (stuckM rows m))∧Below w.heap.size w w':=by
 have kE:=fun (W:World) (hR:RowsAt W a cs rows) (h:Vmem W s m)=>l03Enabled_is a len cap rows s m cs W hl hR h hp hs
 have kD:=fun (W:World) (hR:RowsAt W a cs rows) (h:Vmem W s m) (k:Nat) (hk:k<3)=>l03Done_is (cap:=cap) hl hR h hs hk
 have hM:=fun (W:World) (hb:Below w.heap.size w W)=>h.below hb
 obtain ⟨fin,hfin⟩:∃ fin,fin=stuckM rows m:=⟨_,rfl⟩
 rw [← hfin]
 have HF:Hid (fin=(decide (enabM rows m 3=[]) && leftM rows m 0)):=hfin
 clear hfin
 obtain ⟨⟨a0,n0,c0⟩,⟨a1,n1,c1⟩,⟨a2,n2,c2⟩,⟨a3,n3,c3⟩⟩:=s
 have uA:S4.val ((a0,n0,c0),(a1,n1,c1),(a2,n2,c2),(a3,n3,c3))=.agg #[.slice a0 n0 c0,.slice a1 n1 c1,.slice a2 n2 c2,.slice a3 n3 c3]:=rfl
 rw [uA] at kE kD ⊢
 clear uA h hl
 have bw:Below w.heap.size w ((w.alloc (.cells #[.slice a len cap] 25)).alloc (.cells #[.slice a0 n0 c0,.slice a1 n1 c1,.slice a2 n2 c2,.slice a3 n3 c3] 30)):=by go_grown
 have pP:Blk ((w.alloc (.cells #[.slice a len cap] 25)).alloc (.cells #[.slice a0 n0 c0,.slice a1 n1 c1,.slice a2 n2 c2,.slice a3 n3 c3] 30)) w.heap.size 25 [.slice a len cap]:=blkOld _ (blkAt _ _ _ rfl)
 have pS:Blk ((w.alloc (.cells #[.slice a len cap] 25)).alloc (.cells #[.slice a0 n0 c0,.slice a1 n1 c1,.slice a2 n2 c2,.slice a3 n3 c3] 30)) (w.heap.size+1) 30 [.slice a0 n0 c0,.slice a1 n1 c1,.slice a2 n2 c2,.slice a3 n3 c3]:=blkAt _ _ _ (by simp)
 go_enter Tryd.func67,Tryd.ntmps67
 go_wp2_with fail
 refine (kE _ (hR.below bw) (hM _ bw)).mono ?_
 rintro e w1 ⟨⟨⟨a',n,c'⟩,rfl,ho⟩,hb⟩
 have hn:(enabM rows m 3).length=n:=by
  have:=ho.1
  simpa using this
 replace bw:=bel_trans bw hb
 replace pP:=pP.below hb
 replace pS:=pS.below hb
 clear ho kE hb
 simp only
 by_cases h0:n=0
 ·subst h0
  have HL:Hid (fin=leftM rows m 0):=by rw [Hid,HF.out,List.eq_nil_of_length_eq_zero hn];rfl
  clear HF hn
  go_wp2_with fail
  go_loopw [5] (fun si wr=>∃ k:Nat,k≤3∧si=.int .i64 k∧Hid (fin=leftM rows m k)∧Blk wr w.heap.size 25 [.slice a len cap]∧Blk wr (w.heap.size+1) 30 [.slice a0 n0 c0,.slice a1 n1 c1,.slice a2 n2 c2,.slice a3 n3 c3]∧Below w.heap.size w wr) (fun si _=>3 - (intOf si).toNat)
  case atStart=>exact ⟨0,by omega,rfl,HL,pP,pS,bw⟩
  case round =>
   clear pP pS bw HL
   obtain ⟨k,hk,rfl,HL,pP,pS,bw⟩:=hrel
   by_cases hlt:k<3
   ·have hk3:(k:Int)<3:=by omega
    have kD1:=kD _ (hR.below bw) (hM _ bw) k hlt
    have hst:=leftM_step rows m hlt
    have HS:Hid (leftM rows m k=(!doneM rows m k || leftM rows m (k+1))):=hst
    clear hst
    have gP:=pP.cell 0
    have gS0:=pS.cell 0
    have gS1:=pS.cell 1
    have gS2:=pS.cell 2
    have gS3:=pS.cell 3
    simp only [List.getElem?_cons_zero,List.getElem?_cons_succ] at gP gS0 gS1 gS2 gS3
    cases hd:doneM rows m k
    ·rw [hd] at kD1
     obtain rfl:fin=true:=by rw [HL.out,HS.out,hd];rfl
     clear HL HS
     go_wp2_with fail
     refine kD1.mono ?_
     rintro e w2 ⟨rfl,hb⟩
     replace bw:=bel_trans bw hb
     clear hb gP gS0 gS1 gS2 gS3 kD1
     go_wp2
     go_ret
     exact ⟨rfl,bw⟩
    ·rw [hd] at kD1
     have HL2:Hid (fin=leftM rows m (k+1)):=by rw [Hid,HL.out,HS.out,hd];rfl
     clear HL HS
     go_wp2_with fail
     refine kD1.mono ?_
     rintro e w2 ⟨rfl,hb⟩
     replace bw:=bel_trans bw hb
     replace pP:=pP.below hb
     replace pS:=pS.below hb
     clear hb gP gS0 gS1 gS2 gS3 kD1
     go_wp2
     go_roundw
     case rel=>exact ⟨k+1,by omega,by go_num,HL2,pP,pS,bw⟩
     case measure=>simp [intOf];omega
   ·obtain rfl:k=3:=by omega
    obtain rfl:fin=false:=HL.out.trans (leftM_end _ _)
    clear kD HL hM
    go_wp2
    go_ret
    exact ⟨rfl,bw⟩
 ·obtain rfl:fin=false:=by
   rw [HF.out,decide_eq_false]
   ·rfl
   ·intro e
    rw [e] at hn
    exact h0 hn.symm
  have hpos:(0:Int)<(n:Int):=by omega
  clear HF hn kD hM
  go_wp2
  go_ret
  exact ⟨rfl,bw⟩

end Go.Proofs.YtjgffnlmjmibgaaDoor
