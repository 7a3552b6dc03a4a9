/-
  Joined: SpecE, DoneA, LokA.
-/
import Derived.Test.YtojcgajjnmjjpaaGreatDoorF20

namespace Go.Proofs.YtojcgajjnmjjpaaGreatDoor
set_option maxRecDepth 100000
open Go.RowKit
set_option linter.unusedVariables false

theorem own_ne_blk {w:World} {B e s n g t:Nat} {v:Value} {xs cs:List Value} (h:w.ownsRow B e s v n xs) (hB:Blk w g t cs) (he:e≠t):v.ownBlock≠some g:=by
 rcases h.2 with ⟨rfl,_⟩ | ⟨g',cap,cur,rfl,_,hg,_⟩
 ·simp [Value.ownBlock]
 ·simp only [Value.ownBlock,ne_eq,Option.some.injEq]
  rintro rfl
  unfold Blk at hB
  rw [hg] at hB
  simp at hB
  exact he hB.2

set_option maxHeartbeats 4000000 in
theorem l03Enabled_is (a:Option Addr) (len cap:Nat) (rows:List (List I3)) (s:S4) (m:V4) (cs:Sl × Sl × Sl) (w:World) (hl:len=3) (hR:RowsAt w a cs rows) (h:Vmem w s m) (hp:progOk rows=true) (hs:shapeOk m=true) :
  Calls Tryz.prog 79 #[.agg #[.slice a len cap],s.val] w fun e w'=>(∃ s9:Sl,e=.returned (.slice s9.1 s9.2.1 s9.2.2)∧OwnI w' w.heap.size s9 (enabM rows m 3))∧Below w.heap.size w w':=by
 obtain ⟨i0,hi,hz0,hz1,hz2⟩:=info_parts info_int
 have kC:=fun (W:World) (hR:RowsAt W a cs rows) (h:Vmem W s m) (k:Nat) (hk:k<3)=>l03Can_is (cap:=cap) hl hR h hp hs hk
 have hM:=fun (W:World) (hb:Below w.heap.size w W)=>h.below hb
 obtain ⟨⟨a0,n0,c0⟩,⟨a1,n1,c1⟩,⟨a2,n2,c2⟩,⟨a3,n3,c3⟩⟩:=s
 have uA:S4.val ((a0,n0,c0),(a1,n1,c1),(a2,n2,c2),(a3,n3,c3))=.agg #[.slice a0 n0 c0,.slice a1 n1 c1,.slice a2 n2 c2,.slice a3 n3 c3]:=rfl
 rw [uA] at kC ⊢
 clear uA h hl
 have bw:Below w.heap.size w (((w.alloc (.cells #[.slice a len cap] 25)).alloc (.cells #[.slice a0 n0 c0,.slice a1 n1 c1,.slice a2 n2 c2,.slice a3 n3 c3] 37)).alloc (.cells #[] 3)):=by go_grown
 have pP:Blk (((w.alloc (.cells #[.slice a len cap] 25)).alloc (.cells #[.slice a0 n0 c0,.slice a1 n1 c1,.slice a2 n2 c2,.slice a3 n3 c3] 37)).alloc (.cells #[] 3)) w.heap.size 25 [.slice a len cap]:=blkOld _ (blkOld _ (blkAt _ _ _ rfl))
 have pS:Blk (((w.alloc (.cells #[.slice a len cap] 25)).alloc (.cells #[.slice a0 n0 c0,.slice a1 n1 c1,.slice a2 n2 c2,.slice a3 n3 c3] 37)).alloc (.cells #[] 3)) (w.heap.size+1) 37 [.slice a0 n0 c0,.slice a1 n1 c1,.slice a2 n2 c2,.slice a3 n3 c3]:=blkOld _ (blkAt _ _ _ (by simp))
 have hq:(((w.alloc (.cells #[.slice a len cap] 25)).alloc (.cells #[.slice a0 n0 c0,.slice a1 n1 c1,.slice a2 n2 c2,.slice a3 n3 c3] 37)).alloc (.cells #[] 3)).ownsRow w.heap.size 3 1 (.slice (some ⟨w.heap.size+1+1,0,none⟩) 0 0) 0 ((enabM rows m 0).map (Value.int .i64)):=by
  have h9:=own_empty ((w.alloc (.cells #[.slice a len cap] 25)).alloc (.cells #[.slice a0 n0 c0,.slice a1 n1 c1,.slice a2 n2 c2,.slice a3 n3 c3] 37)) 3 1 w.heap.size (by simp;omega)
  simp only [World.size_alloc] at h9
  exact h9
 go_enter Tryz.func79,Tryz.ntmps79
 go_wp2_with fail
 generalize ((w.alloc (.cells #[.slice a len cap] 25)).alloc (.cells #[.slice a0 n0 c0,.slice a1 n1 c1,.slice a2 n2 c2,.slice a3 n3 c3] 37)).alloc (.cells #[] 3)=W0 at *
 go_loopw [5,6] (fun so si wr=>∃ (k:Nat) (n:Nat) (v:Value),v=so∧k≤3∧si=.int .i64 k∧Hid (n=(enabM rows m k).length)∧wr.ownsRow w.heap.size 3 1 v n ((enabM rows m k).map (Value.int .i64))∧Blk wr w.heap.size 25 [.slice a len cap]∧Blk wr (w.heap.size+1) 37 [.slice a0 n0 c0,.slice a1 n1 c1,.slice a2 n2 c2,.slice a3 n3 c3]∧Below w.heap.size w wr) (fun _ si _=>3 - (intOf si).toNat)
 case atStart=>exact ⟨0,0,_,rfl,by omega,rfl,rfl,hq,pP,pS,bw⟩
 case round =>
  clear hq pP pS bw
  obtain ⟨k,n,so,rfl,hk,rfl,HN,hr,pP,pS,hbw⟩:=hrel
  by_cases hlt:k<3
  ·have hk3:(k:Int)<3:=by omega
   have kC1:=kC _ (hR.below hbw) (hM _ hbw) k hlt
   have gP:=pP.cell 0
   have gS0:=pS.cell 0
   have gS1:=pS.cell 1
   have gS2:=pS.cell 2
   have gS3:=pS.cell 3
   simp only [List.getElem?_cons_zero,List.getElem?_cons_succ] at gP gS0 gS1 gS2 gS3
   cases hcan:canM rows m k
   ·rw [hcan] at kC1
    have HN2:Hid (n=(enabM rows m (k+1)).length):=by rw [Hid,enabM_no hcan];exact HN.out
    rw [← enabM_no hcan] at hr
    go_wp2_with fail
    refine kC1.mono ?_
    rintro e w1 ⟨rfl,hb⟩
    replace hr:=owns_below hr hb
    replace pP:=pP.below hb
    replace pS:=pS.below hb
    replace hbw:=bel_trans hbw hb
    clear hb gP gS0 gS1 gS2 gS3 kC1
    go_wp2
    go_roundw
    case rel=>exact ⟨k+1,n,_,rfl,by omega,by go_num,HN2,hr,pP,pS,hbw⟩
    case measure=>simp [intOf];omega
   ·rw [hcan] at kC1
    have hn3:n≤3:=by have:=enabM_len rows m k;have:=HN.out;omega
    have HN2:Hid (n+1=(enabM rows m (k+1)).length):=by rw [Hid,enabM_yes hcan,List.length_append,← HN.out];rfl
    have HX:Hid (enabM rows m (k+1)=enabM rows m k++[(k:Int)]):=enabM_yes hcan
    go_wp2_with fail
    refine kC1.mono ?_
    rintro e w2 ⟨rfl,hb⟩
    replace hr:=owns_below hr hb
    replace pP:=pP.below hb
    replace pS:=pS.below hb
    replace hbw:=bel_trans hbw hb
    have hsz:=hbw.size
    clear hb gP gS0 gS1 gS2 gS3 kC1
    go_wp2_with (at_builtin;refine wpList_append_own _ rfl _ _ 35 rfl w.heap.size 3 i0 (.int .i64 0) 1 8 Tryz.underlying35 hi hz0 hz1 hz2 rfl (by decide) _ _ _ rfl (hr.alloc _) ⟨w2.heap.size,0,none⟩ 1 1 [.int .i64 (k:Int)] rfl rfl (cell_one_new _ _ _) (by simp [Value.oneCell']) ?c3 ?c4 ?c5 ?_)
    case c3=>unfold maxLen;omega
    case c4=>omega
    case c5=>simp;omega
    intro v' wn hown' hgrow _
    have R:wn.ownsRow w.heap.size 3 1 v' (n+1) ((enabM rows m (k+1)).map (Value.int .i64)):=by
     rw [HX.out,List.map_append]
     exact hown'
    have bn:Below w.heap.size w wn:=(hbw.alloc hsz _).grown hgrow (by simp;omega) (fun k hk=>(hr.lt k hk).1)
    have pP2:Blk wn w.heap.size 25 [.slice a len cap]:=(blkOld _ pP).kept hgrow (own_ne_blk hr pP (by decide))
    have pS2:Blk wn (w.heap.size+1) 37 [.slice a0 n0 c0,.slice a1 n1 c1,.slice a2 n2 c2,.slice a3 n3 c3]:=(blkOld _ pS).kept hgrow (own_ne_blk hr pS (by decide))
    clear hown' hgrow hr hbw HX pP pS
    go_wp2
    go_roundw
    case rel=>exact ⟨k+1,n+1,_,rfl,by omega,by go_num,HN2,R,pP2,pS2,bn⟩
    case measure=>simp [intOf];omega
  ·obtain rfl:k=3:=by omega
   obtain ⟨a',c',rfl⟩:∃ a c,so=.slice a n c:=by
    rcases hr.2 with ⟨rfl,rfl⟩ | ⟨g',cap',cur,hv,_⟩
    ·exact ⟨none,0,rfl⟩
    ·exact ⟨_,cap',hv⟩
   clear kC hM
   go_wp2
   go_ret
   exact ⟨⟨(a',n,c'),rfl,hr⟩,hbw⟩


theorem both_ok {rows:List (List I3)} {m:V4} (h:(progOk rows && shapeOk m)=true):progOk rows=true∧shapeOk m=true:=by simpa using h

set_option linter.unusedSimpArgs false

theorem look_take (m:V4) {k:Nat} (hk:k<3):(lookM m).take (k+1)=(lookM m).take k++[8*(k:Int)+m.1.getD k 0]:=by
 match k,hk with
 | 0,_=>simp [lookM]
 | 1,_=>simp [lookM]
 | 2,_=>simp [lookM]
set_option maxHeartbeats 2000000 in
theorem l08Looks_is (s:S4) (m:V4) (w:World) (h:Vmem w s m) (hs:shapeOk m=true) :
  Calls Tryz.prog 100 #[s.val] w fun e w'=>RowGot e w' w.heap.size (lookM m)∧Below w.heap.size w w':=by
 obtain ⟨i0,hi,hz0,hz1,hz2⟩:=info_parts info_int
 obtain ⟨h1,_⟩:=h
 have hl3:=(shape_parts hs).1
 have hpc:=fun k hk=>pcs_ok hs (k:=k) hk
 obtain ⟨⟨a0,n0,c0⟩,⟨a1,n1,c1⟩,⟨a2,n2,c2⟩,⟨a3,n3,c3⟩⟩:=s
 have uA:S4.val ((a0,n0,c0),(a1,n1,c1),(a2,n2,c2),(a3,n3,c3))=.agg #[.slice a0 n0 c0,.slice a1 n1 c1,.slice a2 n2 c2,.slice a3 n3 c3]:=rfl
 simp only [uA] at *
 clear uA
 replace h1:Ints .i64 w a0 n0 c0 m.1:=h1.1
 have bw:Below w.heap.size w ((w.alloc (.cells #[.slice a0 n0 c0,.slice a1 n1 c1,.slice a2 n2 c2,.slice a3 n3 c3] 37)).alloc (.cells #[] 3)):=by go_grown
 have pS:Blk ((w.alloc (.cells #[.slice a0 n0 c0,.slice a1 n1 c1,.slice a2 n2 c2,.slice a3 n3 c3] 37)).alloc (.cells #[] 3)) w.heap.size 37 [.slice a0 n0 c0,.slice a1 n1 c1,.slice a2 n2 c2,.slice a3 n3 c3]:=blkOld _ (blkAt _ _ _ rfl)
 have q0:=empty8 (w.alloc (.cells #[.slice a0 n0 c0,.slice a1 n1 c1,.slice a2 n2 c2,.slice a3 n3 c3] 37)) 3 1 (w.heap.size+1) (by simp)
 go_enter Tryz.func100,Tryz.ntmps100
 go_wp2_with fail
 generalize (w.alloc (.cells #[.slice a0 n0 c0,.slice a1 n1 c1,.slice a2 n2 c2,.slice a3 n3 c3] 37)).alloc (.cells #[] 3)=W0 at *
 simp only [World.size_alloc] at q0
 go_loopw [3,4] (fun so si wr=>∃ (k:Nat) (v:Value),v=so∧k≤3∧si=.int .i64 k∧wr.ownsRow (w.heap.size+1) 3 1 v k (((lookM m).take k).map (Value.int .i64))∧Blk wr w.heap.size 37 [.slice a0 n0 c0,.slice a1 n1 c1,.slice a2 n2 c2,.slice a3 n3 c3]∧Below w.heap.size w wr) (fun _ si _=>3 - (Go.RowKit.intOf si).toNat)
 case atStart=>exact ⟨0,_,rfl,by omega,rfl,q0,pS,bw⟩
 case round =>
  clear q0 pS bw
  obtain ⟨k,so,rfl,hk,rfl,q,pS,bw⟩:=hrel
  by_cases hlt:k<3
  ·have hk3:(k:Int)<3:=by omega
   have hk0:(0:Int)≤(k:Int):=by omega
   have hln:=h1.1
   have hkn:(k:Int)<(n0:Int):=by omega
   have HT:Hid ((lookM m).take (k+1)=(lookM m).take k++[8*(k:Int)+m.1.getD k 0]):=look_take m hlt
   have kI:=l08Item_is (k:Int) (m.1.getD k 0) wr (inB8_true.2 (by omega)) (hpc k hlt)
   obtain ⟨_,_,_,hcase⟩:=h1.below bw
   rcases hcase with e0 | ⟨b,off,rfl,hb9,hc⟩
   ·omega
   have d0:=hc k (by omega)
   have gS0:wr.cell? ⟨w.heap.size,0,none⟩=some (.slice (some ⟨b,off,none⟩) n0 c0):=by simpa using pS.cell 0
   generalize m.1.getD k 0=p at d0 HT kI
   have hsz:=bw.size
   have hsl:=pS.lt
   clear hc hb9 hln
   go_wp2_with fail
   refine kI.mono ?_
   rintro e w3 ⟨rfl,rfl⟩
   clear kI
   generalize 8*(k:Int)+p=zz at *
   go_wp2_with (at_builtin;refine wpList_append_own _ rfl _ _ 35 rfl (w.heap.size+1) 3 i0 (.int .i64 0) 1 8 Tryz.underlying35 hi hz0 hz1 hz2 rfl (by decide) _ _ _ rfl (q.alloc _) ⟨wr.heap.size,0,none⟩ 1 1 [.int .i64 zz] rfl rfl (cell_one_new _ _ _) (by simp [Value.oneCell']) ?c3 ?c4 ?c5 ?_)
   case c3=>unfold maxLen;omega
   case c4=>omega
   case c5=>simp;omega
   intro v' wn hown' hgrow _
   have R:wn.ownsRow (w.heap.size+1) 3 1 v' (k+1) (((lookM m).take (k+1)).map (Value.int .i64)):=by
    rw [HT.out,List.map_append]
    simpa [List.map_take] using hown'
   have bn:Below w.heap.size w wn:=(bw.alloc hsz _).grown hgrow (by simp;omega) (fun k hk=>by have:=(q.lt k hk).1;omega)
   have pn:Blk wn w.heap.size 37 [.slice (some ⟨b,off,none⟩) n0 c0,.slice a1 n1 c1,.slice a2 n2 c2,.slice a3 n3 c3]:=(pS.below (by go_grown:Below wr.heap.size wr (wr.alloc (.cells #[.int .i64 zz] 3)))).kept hgrow (fun e=>by have:=(q.lt _ e).1;omega)
   clear hown' hgrow q bw pS HT gS0 d0
   go_wp2
   go_roundw
   case rel=>exact ⟨k+1,_,rfl,by omega,by go_num,R,pn,bn⟩
   case measure=>simp [Go.RowKit.intOf];omega
  ·obtain rfl:k=3:=by omega
   obtain ⟨ga,gc,rfl⟩:=some8 q (by omega)
   go_wp2
   go_ret
   exact ⟨⟨_,rfl,lower8 q (by omega)⟩,bw⟩
end Go.Proofs.YtojcgajjnmjjpaaGreatDoor
