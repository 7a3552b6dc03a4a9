/-
  Joined: SmlW, FulP, EvA, CmtP.
-/
import Derived.Deep.CutRange
import Derived.Deep.LoopGhost
import Derived.Test.YtifoggpohlegmaaGreatDoorS18

namespace Go.Proofs.YtifoggpohlegmaaGreatDoor
set_option maxRecDepth 100000
set_option maxHeartbeats 16000000
open Go.RowKit
set_option linter.unusedVariables false
set_option linter.unusedSimpArgs false

theorem step_append_none7 {P:Program} {ops:Array Oper} {o:Oper} {a:Act} {w:World} {K:Act→World→Prop} {Q:Exit→Act→World→Prop} {E:Prop}
  (hg:o.guard=none) (s x:Operand) (t:TypeId) (hop:o.op=Op.call { callee:=Callee.builtin Builtin.append,args:=#[s,x],argTypes:=#[t,t] })
  (base:Nat) (e:TypeId) (i:TypeInfo) (size:Nat) (h1:P.underlying t=some (.slice e)) (h2:P.info? e=some i)
  (v:Value) (n:Nat) (olds:List Value) (hs:a.eval s=v) (hown:w.ownsRow base e size v n olds) (hx:a.eval x=.slice none 0 0)
  (hK:K (a.put o.dst v) w):if Region.wanted o (yielded ops a.tmps)=true then Oper.wp P o a w K Q else E:=by
 have hw:Region.wanted o (yielded ops a.tmps)=true:=by simp [Region.wanted,hg]
 rw [if_pos hw]
 have hrun:=run_append_owned_none (P:=P) (w:=w) base t o.type e i size h1 h2 v n olds hown
 subst hs
 unfold Oper.wp
 simp [execOp,hop,resolve,invoke,builtin,hx,hrun,Result.andThen]
 exact hK

def CutR (p:Nat) (w W:World) (X g c k:Nat) (rows:List (List I3)) (r:List I3):Prop:=∃ (vs:List Value) (N c2:Nat),vs.getD k undef=.slice (some ⟨N,0,none⟩) (smN r) c2∧ProgAt W (w.heap.size+1) g c vs ((smK rows k).set k (smJ r 0))∧Blk W X 25 [.slice (some ⟨g,0,none⟩) 3 c]∧Blk W w.heap.size 25 [.slice none 0 0]∧Below p w W

theorem lay_all8 {p X g c k N c2:Nat} {w Y0 Y2:World} {vs:List Value} {rows:List (List I3)} {r:List I3} (hP:ProgAt Y0 (w.heap.size+1) g c vs (smK rows k)) (pX:Blk Y0 X 25 [.slice (some ⟨g,0,none⟩) 3 c]) (pR:Blk Y0 w.heap.size 25 [.slice none 0 0]) (bw:Below p w Y0) (bY:Below Y0.heap.size Y0 Y2)
  (q2:Y2.ownsRow (w.heap.size+1) 159 3 (.slice (some ⟨N,0,none⟩) (smN r) c2) (smN r) (flat (r.take 2))) (hNg:Y0.heap.size≤N) (hlt:k<3) (hvl:vs.length=3) (hpw:p≤w.heap.size) :
  (ProgAt Y2 (w.heap.size+1) g c vs (smK rows k)∧Blk Y2 X 25 [.slice (some ⟨g,0,none⟩) 3 c])∧Blk (Y2.setCell ⟨g,k,none⟩ (.slice (some ⟨N,0,none⟩) (smN r) c2)) X 25 [.slice (some ⟨g,0,none⟩) 3 c]∧CutR p w (Y2.setCell ⟨g,k,none⟩ (.slice (some ⟨N,0,none⟩) (smN r) c2)) X g c k rows r:=by
 have hXg:X≠g:=fun e=>own_ne_blk hP.1 pX (by decide) (by simp [Value.ownBlock,e])
 have hRg:w.heap.size≠g:=fun e=>own_ne_blk hP.1 pR (by decide) (by simp [Value.ownBlock,e])
 have hBg:w.heap.size+1≤g:=(hP.1.lt g rfl).1
 have hap:=fun t (ht:t<3)=>hP.apart hNg ht
 have hP2:=hP.below bY
 have pX2:=pX.below bY
 have pR2:=pR.below bY
 have bw2:=bw.trans (bY.mono (by have:=pR.lt;omega))
 have hP3:=hP2.lay hlt (nv:=.slice (some ⟨N,0,none⟩) (smN r) c2) (xs:=r.take 2) q2 (fun t ht=>hap t ht)
 have g3:=(hP2.1.stored k (.slice (some ⟨N,0,none⟩) (smN r) c2)).2
 have pX3:=pX2.kept g3 (by simp;omega)
 have pR3:=pR2.kept g3 (by simp;omega)
 have bw3:=bw2.grown g3 (by have:=bw2.size;omega) (fun x hx=>by cases hx;omega)
 have hv3:(vs.set k (.slice (some ⟨N,0,none⟩) (smN r) c2)).getD k undef=.slice (some ⟨N,0,none⟩) (smN r) c2:=by rw [getD_set6,if_pos ⟨rfl,by omega⟩]
 rw [← smJ_zero] at hP3
 exact ⟨⟨hP2,pX2⟩,pX3,_,N,c2,hv3,hP3,pX3,pR3,bw3⟩

theorem smallProgram_any (p:Nat) (a:Option Addr) (n cap:Nat) (w:World) (hS:Src w p (.slice a n cap) 0) (hC:Code w p a n cap) :
  Calls Tryz.prog 66 #[.pointer (some ⟨p,0,none⟩)] w fun e w'=>(∃ (v:Value) (rows:List (List I3)),ProgS rows∧e=.returned (.agg #[v])∧OwnProg w' w.heap.size v rows)∧Below p w w':=by
 obtain ⟨i0,hi,hz0,hz1,hz2⟩:=info_parts info_instr
 have hpl:=hS.lt
 have pR:Blk (w.alloc (.cells #[.slice none 0 0] 25)) w.heap.size 25 [.slice none 0 0]:=blkAt _ _ _ rfl
 have bw:Below p w (w.alloc (.cells #[.slice none 0 0] 25)):=(Went.refl p w).alloc _ |>.below (Nat.le_of_lt hpl)
 replace hC:=hC.below bw
 replace hS:=hS.alloc (.cells #[.slice none 0 0] 25)
 have hpB:(w.alloc (.cells #[.slice none 0 0] 25)).heap.size=w.heap.size+1:=by simp
 go_enter Tryz.func66,Tryz.ntmps66
 go_wp2_with fail
 generalize (w.alloc (.cells #[.slice none 0 0] 25))=W0 at *
 refine (programQ_went p a n cap _ hS hC).mono ?_
 rintro e w1 ⟨⟨v,rows,hok,rfl,hOP⟩,hb1⟩
 have HOK:Hid (ProgS rows):=hok
 have h3:=(progOk_parts hok.1).1
 obtain ⟨g,c,vs,rfl,hP⟩:=ProgAt.of hOP h3
 clear hok hOP hS hC
 rw [hpB] at hP
 replace pR:=pR.kept hb1 (by simp;omega)
 replace bw:=bw.trans (hb1.below (by omega))
 have hRl:=pR.lt
 clear hb1 hpB
 have ha:Below w1.heap.size w1 (w1.alloc (.cells #[.slice (some ⟨g,0,none⟩) 3 c] 25)):=by go_grown
 have pX:Blk (w1.alloc (.cells #[.slice (some ⟨g,0,none⟩) 3 c] 25)) w1.heap.size 25 [.slice (some ⟨g,0,none⟩) 3 c]:=blkAt _ _ _ rfl
 replace hP:=hP.below ha
 replace pR:=pR.below ha
 replace bw:=bw.trans (ha.mono (by omega))
 clear ha
 go_wp2_with fail
 generalize (w1.alloc (.cells #[.slice (some ⟨g,0,none⟩) 3 c] 25))=W1 at *
 generalize w1.heap.size=X at *
 rw [← smK_zero rows] at hP
 have H3:Hid (rows.length=3):=h3
 clear h3
 go_loopg [4] 3 (fun gg s4 wr=>∃ (k:Nat) (vs:List Value),k≤3∧3 - k≤gg∧s4=.int .i64 k∧ProgAt wr (w.heap.size+1) g c vs (smK rows k)∧Blk wr X 25 [.slice (some ⟨g,0,none⟩) 3 c]∧Blk wr w.heap.size 25 [.slice none 0 0]∧Below p w wr)
 case atStart=>exact ⟨0,vs,by omega,by omega,rfl,hP,pX,pR,bw⟩
 case round =>
  clear hP pX pR bw vs
  obtain ⟨k,vs,hk,hgg,rfl,hP,pX,pR,bw⟩:=hrel
  by_cases hlt:k<3
  ·have hlt':(k:Int)<3:=by omega
   have hk0:(0:Int)≤(k:Int):=by omega
   have cX:wr.cell? ⟨X,0,none⟩=some (.slice (some ⟨g,0,none⟩) 3 c):=by simpa using pX.cell 0
   have cK:=hP.cell hlt
   have hrow:=hP.2.1.2.1 k (by rw [smK_len];have:=H3.out;omega)
   rw [smK_at (by have:=H3.out;omega)] at hrow
   obtain ⟨r,hr⟩:∃ r,r=rows.getD k []:=⟨_,rfl⟩
   rw [← hr] at hrow
   have HR:Hid (r=rows.getD k []):=hr
   clear hr
   have hvl:vs.length=3:=by rw [hP.2.1.1,smK_len];exact H3.out
   generalize hvk:vs.getD k undef=vk at *
   go_wp2_with fail
   go_cut [] from 8 to 64 (fun W=>CutR p w W X g c k rows r)
   case first =>
    rcases hrow.2 with ⟨rfl,h0⟩ | ⟨b,cc,cur,rfl,_,_,hncc,_⟩
    ·have hsm:smN r=0:=by rw [smN_eq];omega
     have htk:r.take 2=[]:=List.eq_nil_of_length_eq_zero hsm
     refine wp_region_held_drew (S:=(fun w'=>w'.cell? ⟨X,0,none⟩=some (.slice (some ⟨g,0,none⟩) 3 c))) (by kernel_rfl) cX (fun hS0=>?_)
     refine tkm 0 12 (.pointer (some ⟨X,0,none⟩)) ?_
     refine tkm 1 13 (.slice (some ⟨g,0,none⟩) 3 c) ?_
     refine tkm 2 14 (.int .i64 (k:Int)) ?_
     refine tkm 4 16 (.pointer (some ⟨X,0,none⟩)) ?_
     refine tkm 5 17 (.slice (some ⟨g,0,none⟩) 3 c) ?_
     refine tkm 6 18 (.int .i64 (k:Int)) ?_
     refine tkm 7 19 (.pointer (some ⟨g,k,none⟩)) ?_
     refine tkm 9 21 (.pointer (some ⟨X,0,none⟩)) ?_
     refine tkm 10 22 (.slice (some ⟨g,0,none⟩) 3 c) ?_
     refine tkm 11 23 (.int .i64 (k:Int)) ?_
     refine tkm 12 24 (.pointer (some ⟨g,k,none⟩)) ?_
     have hdr:Below wr.heap.size wr wr.drew:=by go_grown
     replace bw:=bw.trans (hdr.mono (by have:=pR.lt;omega))
     replace hP:=hP.below hdr
     replace pX:=pX.below hdr
     replace pR:=pR.below hdr
     replace hrow:=owns_below hrow hdr
     clear hdr
     generalize wr.drew=Y0 at *
     have hal:Below Y0.heap.size Y0 (Y0.alloc (.cells #[] 159)):=by go_grown
     have q:=own_emptyB Y0 159 3 (w.heap.size+1) (by have:=pR.lt;omega)
     have hsz:Y0.heap.size<(Y0.alloc (.cells #[] 159)).heap.size:=by simp
     have cY:Y0.cell? ⟨g,k,none⟩=some (.slice none 0 0):=hvk▸hP.cell hlt
     have cZ:(Y0.alloc (.cells #[] 159)).cell? ⟨g,k,none⟩=some (.slice none 0 0):=cells_kept hal _ _ cY
     refine wpAnyH_ready (rs:=[3,8,13]) (by kernel_rfl) (by simp) ?_
     refine AllReadyH.cons (o:=⟨some 15,_,_,_,_,_⟩) rfl (fun K hK=>?_) (AllReadyH.cons (o:=⟨some 20,_,_,_,_,_⟩) rfl (fun K hK=>?_) (AllReadyH.cons (o:=⟨some 25,_,_,_,_,_⟩) rfl (fun K hK=>?_) AllReadyH.nil))
     ·go_simp
      refine hK.out _ _ (by simpa using (pX.below hal).cell 0) (fun hS11=>?_)
      clear hK
      generalize (Y0.alloc (.cells #[] 159))=Y1 at *
      try simp only [Act.put,tka,tkb,tkc]
      refine wpAnyH_ready (rs:=[8,13]) (by kernel_rfl) (by simp) ?_
      refine AllReadyH.cons (o:=⟨some 20,_,_,_,_,_⟩) rfl (fun K hK=>?_) (AllReadyH.cons (o:=⟨some 25,_,_,_,_,_⟩) rfl (fun K hK=>?_) AllReadyH.nil)
      ·go_simp
       refine hK.out _ _ (by simpa using (pX.below hal).cell 0) (fun hS12=>?_)
       clear hK
       try simp only [Act.put,tka,tkb,tkc]
       refine tkr 13 25 (fun K hK=>?_)
       go_simp
       refine hK.out _ _ (by simpa using (pX.below hal).cell 0) (fun hS13=>?_)
       clear hK
       try simp only [Act.put,tka,tkb,tkc]
       refine tkm 14 26 (.int .i64 0) ?_
       refine tkx 15 27 (.int .i64 0) ?_ ?_
       ·intro w' hSw;(try dsimp only at hSw);go_simp;try rfl
       simp only [Act.put,tka,tkb,tkc]
       refine tkx 16 28 (.slice none 0 0) ?_ ?_
       ·intro w' hSw;(try dsimp only at hSw);go_simp;try rfl
       simp only [Act.put,tka,tkb,tkc]
       refine tkr 17 29 (fun K hK=>?_)
       refine step_append_none7 rfl _ _ 82 rfl (w.heap.size+1) 159 i0 3 Tryz.underlying82 hi _ _ _ rfl q rfl ?_
       obtain ⟨N,hN⟩:∃ N,N=Y0.heap.size:=⟨_,rfl⟩
       have hNg:Y0.heap.size≤N:=by omega
       obtain ⟨c2,hc2⟩:∃ c2:Nat,c2=0:=⟨_,rfl⟩
       have eV:Value.slice (some ⟨Y0.heap.size,0,none⟩) 0 0=.slice (some ⟨N,0,none⟩) (smN r) c2:=by rw [hN,hsm,hc2]
       have q2:Y1.ownsRow (w.heap.size+1) 159 3 (.slice (some ⟨N,0,none⟩) (smN r) c2) (smN r) (flat (r.take 2)):=by rw [← eV,htk,hsm];exact q
       rw [eV]
       have bY:=hal
       obtain ⟨Y2,hY2⟩:∃ Y2,Y2=Y1:=⟨_,rfl⟩
       rw [← hY2] at q2 bY ⊢
       clear eV hN hc2 hY2 q hsm htk
       obtain ⟨⟨hP2,pX2⟩,pX3,hcut9⟩:=lay_all8 hP pX pR bw bY q2 hNg hlt hvl (by omega)
       refine hK.out _ _ (by simpa using pX2.cell 0) (fun hS8=>?_)
       clear hK
       try simp only [Act.put,tka,tkb,tkc]
       refine tkm 18 30 (.pointer (some ⟨g,k,none⟩)) ?_
       have cK2:=hP2.cell hlt
       rw [hvk] at cK2
       have fK2:=hP2.1.frozenAt k
       refine tkz 19 (fun K hK=>?_)
       go_simp
       refine hK.out _ _ (by simpa using pX3.cell 0) (fun hS9=>?_)
       clear hK
       try simp only [Act.put,tka,tkb,tkc]
       refine wpAnyH_done (by kernel_rfl) ?_ _
       go_wp2_with fail
       go_meet
       case rel=>exact hcut9
      ·go_simp
       refine hK.out _ _ (by simpa using (pX.below hal).cell 0) (fun hS14=>?_)
       clear hK
       try simp only [Act.put,tka,tkb,tkc]
       refine tkm 14 26 (.int .i64 0) ?_
       refine tkx 15 27 (.int .i64 0) ?_ ?_
       ·intro w' hSw;(try dsimp only at hSw);go_simp;try rfl
       simp only [Act.put,tka,tkb,tkc]
       refine tkr 8 20 (fun K hK=>?_)
       go_simp
       refine hK.out _ _ (by simpa using (pX.below hal).cell 0) (fun hS15=>?_)
       clear hK
       try simp only [Act.put,tka,tkb,tkc]
       refine tkx 16 28 (.slice none 0 0) ?_ ?_
       ·intro w' hSw;(try dsimp only at hSw);go_simp;try rfl
       simp only [Act.put,tka,tkb,tkc]
       refine tkr 17 29 (fun K hK=>?_)
       refine step_append_none7 rfl _ _ 82 rfl (w.heap.size+1) 159 i0 3 Tryz.underlying82 hi _ _ _ rfl q rfl ?_
       obtain ⟨N,hN⟩:∃ N,N=Y0.heap.size:=⟨_,rfl⟩
       have hNg:Y0.heap.size≤N:=by omega
       obtain ⟨c2,hc2⟩:∃ c2:Nat,c2=0:=⟨_,rfl⟩
       have eV:Value.slice (some ⟨Y0.heap.size,0,none⟩) 0 0=.slice (some ⟨N,0,none⟩) (smN r) c2:=by rw [hN,hsm,hc2]
       have q2:Y1.ownsRow (w.heap.size+1) 159 3 (.slice (some ⟨N,0,none⟩) (smN r) c2) (smN r) (flat (r.take 2)):=by rw [← eV,htk,hsm];exact q
       rw [eV]
       have bY:=hal
       obtain ⟨Y2,hY2⟩:∃ Y2,Y2=Y1:=⟨_,rfl⟩
       rw [← hY2] at q2 bY ⊢
       clear eV hN hc2 hY2 q hsm htk
       obtain ⟨⟨hP2,pX2⟩,pX3,hcut9⟩:=lay_all8 hP pX pR bw bY q2 hNg hlt hvl (by omega)
       refine hK.out _ _ (by simpa using pX2.cell 0) (fun hS8=>?_)
       clear hK
       try simp only [Act.put,tka,tkb,tkc]
       refine tkm 18 30 (.pointer (some ⟨g,k,none⟩)) ?_
       have cK2:=hP2.cell hlt
       rw [hvk] at cK2
       have fK2:=hP2.1.frozenAt k
       refine tkz 19 (fun K hK=>?_)
       go_simp
       refine hK.out _ _ (by simpa using pX3.cell 0) (fun hS9=>?_)
       clear hK
       try simp only [Act.put,tka,tkb,tkc]
       refine wpAnyH_done (by kernel_rfl) ?_ _
       go_wp2_with fail
       go_meet
       case rel=>exact hcut9
     ·go_simp
      refine hK.out _ _ (by simpa using pX.cell 0) (fun hS16=>?_)
      clear hK
      try simp only [Act.put,tka,tkb,tkc]
      refine wpAnyH_ready (rs:=[3,13]) (by kernel_rfl) (by simp) ?_
      refine AllReadyH.cons (o:=⟨some 15,_,_,_,_,_⟩) rfl (fun K hK=>?_) (AllReadyH.cons (o:=⟨some 25,_,_,_,_,_⟩) rfl (fun K hK=>?_) AllReadyH.nil)
      ·go_simp
       refine hK.out _ _ (by simpa using (pX.below hal).cell 0) (fun hS17=>?_)
       clear hK
       generalize (Y0.alloc (.cells #[] 159))=Y1 at *
       try simp only [Act.put,tka,tkb,tkc]
       refine tkr 13 25 (fun K hK=>?_)
       go_simp
       refine hK.out _ _ (by simpa using (pX.below hal).cell 0) (fun hS18=>?_)
       clear hK
       try simp only [Act.put,tka,tkb,tkc]
       refine tkm 14 26 (.int .i64 0) ?_
       refine tkx 15 27 (.int .i64 0) ?_ ?_
       ·intro w' hSw;(try dsimp only at hSw);go_simp;try rfl
       simp only [Act.put,tka,tkb,tkc]
       refine tkx 16 28 (.slice none 0 0) ?_ ?_
       ·intro w' hSw;(try dsimp only at hSw);go_simp;try rfl
       simp only [Act.put,tka,tkb,tkc]
       refine tkr 17 29 (fun K hK=>?_)
       refine step_append_none7 rfl _ _ 82 rfl (w.heap.size+1) 159 i0 3 Tryz.underlying82 hi _ _ _ rfl q rfl ?_
       obtain ⟨N,hN⟩:∃ N,N=Y0.heap.size:=⟨_,rfl⟩
       have hNg:Y0.heap.size≤N:=by omega
       obtain ⟨c2,hc2⟩:∃ c2:Nat,c2=0:=⟨_,rfl⟩
       have eV:Value.slice (some ⟨Y0.heap.size,0,none⟩) 0 0=.slice (some ⟨N,0,none⟩) (smN r) c2:=by rw [hN,hsm,hc2]
       have q2:Y1.ownsRow (w.heap.size+1) 159 3 (.slice (some ⟨N,0,none⟩) (smN r) c2) (smN r) (flat (r.take 2)):=by rw [← eV,htk,hsm];exact q
       rw [eV]
       have bY:=hal
       obtain ⟨Y2,hY2⟩:∃ Y2,Y2=Y1:=⟨_,rfl⟩
       rw [← hY2] at q2 bY ⊢
       clear eV hN hc2 hY2 q hsm htk
       obtain ⟨⟨hP2,pX2⟩,pX3,hcut9⟩:=lay_all8 hP pX pR bw bY q2 hNg hlt hvl (by omega)
       refine hK.out _ _ (by simpa using pX2.cell 0) (fun hS8=>?_)
       clear hK
       try simp only [Act.put,tka,tkb,tkc]
       refine tkm 18 30 (.pointer (some ⟨g,k,none⟩)) ?_
       have cK2:=hP2.cell hlt
       rw [hvk] at cK2
       have fK2:=hP2.1.frozenAt k
       refine tkz 19 (fun K hK=>?_)
       go_simp
       refine hK.out _ _ (by simpa using pX3.cell 0) (fun hS9=>?_)
       clear hK
       try simp only [Act.put,tka,tkb,tkc]
       refine wpAnyH_done (by kernel_rfl) ?_ _
       go_wp2_with fail
       go_meet
       case rel=>exact hcut9
      ·go_simp
       refine hK.out _ _ (by simpa using pX.cell 0) (fun hS19=>?_)
       clear hK
       try simp only [Act.put,tka,tkb,tkc]
       refine tkm 14 26 (.int .i64 0) ?_
       refine tkx 15 27 (.int .i64 0) ?_ ?_
       ·intro w' hSw;(try dsimp only at hSw);go_simp;try rfl
       simp only [Act.put,tka,tkb,tkc]
       refine tkx 16 28 (.slice none 0 0) ?_ ?_
       ·intro w' hSw;(try dsimp only at hSw);go_simp;try rfl
       simp only [Act.put,tka,tkb,tkc]
       refine tkr 3 15 (fun K hK=>?_)
       go_simp
       refine hK.out _ _ (by simpa using (pX.below hal).cell 0) (fun hS20=>?_)
       clear hK
       generalize (Y0.alloc (.cells #[] 159))=Y1 at *
       try simp only [Act.put,tka,tkb,tkc]
       refine tkr 17 29 (fun K hK=>?_)
       refine step_append_none7 rfl _ _ 82 rfl (w.heap.size+1) 159 i0 3 Tryz.underlying82 hi _ _ _ rfl q rfl ?_
       obtain ⟨N,hN⟩:∃ N,N=Y0.heap.size:=⟨_,rfl⟩
       have hNg:Y0.heap.size≤N:=by omega
       obtain ⟨c2,hc2⟩:∃ c2:Nat,c2=0:=⟨_,rfl⟩
       have eV:Value.slice (some ⟨Y0.heap.size,0,none⟩) 0 0=.slice (some ⟨N,0,none⟩) (smN r) c2:=by rw [hN,hsm,hc2]
       have q2:Y1.ownsRow (w.heap.size+1) 159 3 (.slice (some ⟨N,0,none⟩) (smN r) c2) (smN r) (flat (r.take 2)):=by rw [← eV,htk,hsm];exact q
       rw [eV]
       have bY:=hal
       obtain ⟨Y2,hY2⟩:∃ Y2,Y2=Y1:=⟨_,rfl⟩
       rw [← hY2] at q2 bY ⊢
       clear eV hN hc2 hY2 q hsm htk
       obtain ⟨⟨hP2,pX2⟩,pX3,hcut9⟩:=lay_all8 hP pX pR bw bY q2 hNg hlt hvl (by omega)
       refine hK.out _ _ (by simpa using pX2.cell 0) (fun hS8=>?_)
       clear hK
       try simp only [Act.put,tka,tkb,tkc]
       refine tkm 18 30 (.pointer (some ⟨g,k,none⟩)) ?_
       have cK2:=hP2.cell hlt
       rw [hvk] at cK2
       have fK2:=hP2.1.frozenAt k
       refine tkz 19 (fun K hK=>?_)
       go_simp
       refine hK.out _ _ (by simpa using pX3.cell 0) (fun hS9=>?_)
       clear hK
       try simp only [Act.put,tka,tkb,tkc]
       refine wpAnyH_done (by kernel_rfl) ?_ _
       go_wp2_with fail
       go_meet
       case rel=>exact hcut9
     ·go_simp
      refine hK.out _ _ (by simpa using pX.cell 0) (fun hS21=>?_)
      clear hK
      try simp only [Act.put,tka,tkb,tkc]
      refine tkm 14 26 (.int .i64 0) ?_
      refine tkx 15 27 (.int .i64 0) ?_ ?_
      ·intro w' hSw;(try dsimp only at hSw);go_simp;try rfl
      simp only [Act.put,tka,tkb,tkc]
      refine wpAnyH_ready (rs:=[3,8]) (by kernel_rfl) (by simp) ?_
      refine AllReadyH.cons (o:=⟨some 15,_,_,_,_,_⟩) rfl (fun K hK=>?_) (AllReadyH.cons (o:=⟨some 20,_,_,_,_,_⟩) rfl (fun K hK=>?_) AllReadyH.nil)
      ·go_simp
       refine hK.out _ _ (by simpa using (pX.below hal).cell 0) (fun hS22=>?_)
       clear hK
       generalize (Y0.alloc (.cells #[] 159))=Y1 at *
       try simp only [Act.put,tka,tkb,tkc]
       refine tkr 8 20 (fun K hK=>?_)
       go_simp
       refine hK.out _ _ (by simpa using (pX.below hal).cell 0) (fun hS23=>?_)
       clear hK
       try simp only [Act.put,tka,tkb,tkc]
       refine tkx 16 28 (.slice none 0 0) ?_ ?_
       ·intro w' hSw;(try dsimp only at hSw);go_simp;try rfl
       simp only [Act.put,tka,tkb,tkc]
       refine tkr 17 29 (fun K hK=>?_)
       refine step_append_none7 rfl _ _ 82 rfl (w.heap.size+1) 159 i0 3 Tryz.underlying82 hi _ _ _ rfl q rfl ?_
       obtain ⟨N,hN⟩:∃ N,N=Y0.heap.size:=⟨_,rfl⟩
       have hNg:Y0.heap.size≤N:=by omega
       obtain ⟨c2,hc2⟩:∃ c2:Nat,c2=0:=⟨_,rfl⟩
       have eV:Value.slice (some ⟨Y0.heap.size,0,none⟩) 0 0=.slice (some ⟨N,0,none⟩) (smN r) c2:=by rw [hN,hsm,hc2]
       have q2:Y1.ownsRow (w.heap.size+1) 159 3 (.slice (some ⟨N,0,none⟩) (smN r) c2) (smN r) (flat (r.take 2)):=by rw [← eV,htk,hsm];exact q
       rw [eV]
       have bY:=hal
       obtain ⟨Y2,hY2⟩:∃ Y2,Y2=Y1:=⟨_,rfl⟩
       rw [← hY2] at q2 bY ⊢
       clear eV hN hc2 hY2 q hsm htk
       obtain ⟨⟨hP2,pX2⟩,pX3,hcut9⟩:=lay_all8 hP pX pR bw bY q2 hNg hlt hvl (by omega)
       refine hK.out _ _ (by simpa using pX2.cell 0) (fun hS8=>?_)
       clear hK
       try simp only [Act.put,tka,tkb,tkc]
       refine tkm 18 30 (.pointer (some ⟨g,k,none⟩)) ?_
       have cK2:=hP2.cell hlt
       rw [hvk] at cK2
       have fK2:=hP2.1.frozenAt k
       refine tkz 19 (fun K hK=>?_)
       go_simp
       refine hK.out _ _ (by simpa using pX3.cell 0) (fun hS9=>?_)
       clear hK
       try simp only [Act.put,tka,tkb,tkc]
       refine wpAnyH_done (by kernel_rfl) ?_ _
       go_wp2_with fail
       go_meet
       case rel=>exact hcut9
      ·go_simp
       refine hK.out _ _ (by simpa using pX.cell 0) (fun hS24=>?_)
       clear hK
       try simp only [Act.put,tka,tkb,tkc]
       refine tkx 16 28 (.slice none 0 0) ?_ ?_
       ·intro w' hSw;(try dsimp only at hSw);go_simp;try rfl
       simp only [Act.put,tka,tkb,tkc]
       refine tkr 3 15 (fun K hK=>?_)
       go_simp
       refine hK.out _ _ (by simpa using (pX.below hal).cell 0) (fun hS25=>?_)
       clear hK
       generalize (Y0.alloc (.cells #[] 159))=Y1 at *
       try simp only [Act.put,tka,tkb,tkc]
       refine tkr 17 29 (fun K hK=>?_)
       refine step_append_none7 rfl _ _ 82 rfl (w.heap.size+1) 159 i0 3 Tryz.underlying82 hi _ _ _ rfl q rfl ?_
       obtain ⟨N,hN⟩:∃ N,N=Y0.heap.size:=⟨_,rfl⟩
       have hNg:Y0.heap.size≤N:=by omega
       obtain ⟨c2,hc2⟩:∃ c2:Nat,c2=0:=⟨_,rfl⟩
       have eV:Value.slice (some ⟨Y0.heap.size,0,none⟩) 0 0=.slice (some ⟨N,0,none⟩) (smN r) c2:=by rw [hN,hsm,hc2]
       have q2:Y1.ownsRow (w.heap.size+1) 159 3 (.slice (some ⟨N,0,none⟩) (smN r) c2) (smN r) (flat (r.take 2)):=by rw [← eV,htk,hsm];exact q
       rw [eV]
       have bY:=hal
       obtain ⟨Y2,hY2⟩:∃ Y2,Y2=Y1:=⟨_,rfl⟩
       rw [← hY2] at q2 bY ⊢
       clear eV hN hc2 hY2 q hsm htk
       obtain ⟨⟨hP2,pX2⟩,pX3,hcut9⟩:=lay_all8 hP pX pR bw bY q2 hNg hlt hvl (by omega)
       refine hK.out _ _ (by simpa using pX2.cell 0) (fun hS8=>?_)
       clear hK
       try simp only [Act.put,tka,tkb,tkc]
       refine tkm 18 30 (.pointer (some ⟨g,k,none⟩)) ?_
       have cK2:=hP2.cell hlt
       rw [hvk] at cK2
       have fK2:=hP2.1.frozenAt k
       refine tkz 19 (fun K hK=>?_)
       go_simp
       refine hK.out _ _ (by simpa using pX3.cell 0) (fun hS9=>?_)
       clear hK
       try simp only [Act.put,tka,tkb,tkc]
       refine wpAnyH_done (by kernel_rfl) ?_ _
       go_wp2_with fail
       go_meet
       case rel=>exact hcut9
    ·have hsl:smN r≤cc:=by have:=smN_eq r;omega
     have hmin:(if (2:Int)<(r.length:Int) then (2:Int) else (r.length:Int))=(smN r:Int):=by have:=smN_eq r;split<;>omega
     refine wp_region_held_drew (S:=(fun w'=>w'.cell? ⟨X,0,none⟩=some (.slice (some ⟨g,0,none⟩) 3 c))) (by kernel_rfl) cX (fun hS0=>?_)
     refine tkm 0 12 (.pointer (some ⟨X,0,none⟩)) ?_
     refine tkm 1 13 (.slice (some ⟨g,0,none⟩) 3 c) ?_
     refine tkm 2 14 (.int .i64 (k:Int)) ?_
     refine tkm 4 16 (.pointer (some ⟨X,0,none⟩)) ?_
     refine tkm 5 17 (.slice (some ⟨g,0,none⟩) 3 c) ?_
     refine tkm 6 18 (.int .i64 (k:Int)) ?_
     refine tkm 7 19 (.pointer (some ⟨g,k,none⟩)) ?_
     refine tkm 9 21 (.pointer (some ⟨X,0,none⟩)) ?_
     refine tkm 10 22 (.slice (some ⟨g,0,none⟩) 3 c) ?_
     refine tkm 11 23 (.int .i64 (k:Int)) ?_
     refine tkm 12 24 (.pointer (some ⟨g,k,none⟩)) ?_
     have hdr:Below wr.heap.size wr wr.drew:=by go_grown
     replace bw:=bw.trans (hdr.mono (by have:=pR.lt;omega))
     replace hP:=hP.below hdr
     replace pX:=pX.below hdr
     replace pR:=pR.below hdr
     replace hrow:=owns_below hrow hdr
     clear hdr
     generalize wr.drew=Y0 at *
     have hal:Below Y0.heap.size Y0 (Y0.alloc (.cells #[] 159)):=by go_grown
     have q:=own_emptyB Y0 159 3 (w.heap.size+1) (by have:=pR.lt;omega)
     have hsz:Y0.heap.size<(Y0.alloc (.cells #[] 159)).heap.size:=by simp
     have cY:Y0.cell? ⟨g,k,none⟩=some (.slice (some ⟨b,0,none⟩) r.length cc):=hvk▸hP.cell hlt
     have cZ:(Y0.alloc (.cells #[] 159)).cell? ⟨g,k,none⟩=some (.slice (some ⟨b,0,none⟩) r.length cc):=cells_kept hal _ _ cY
     refine wpAnyH_ready (rs:=[3,8,13]) (by kernel_rfl) (by simp) ?_
     refine AllReadyH.cons (o:=⟨some 15,_,_,_,_,_⟩) rfl (fun K hK=>?_) (AllReadyH.cons (o:=⟨some 20,_,_,_,_,_⟩) rfl (fun K hK=>?_) (AllReadyH.cons (o:=⟨some 25,_,_,_,_,_⟩) rfl (fun K hK=>?_) AllReadyH.nil))
     ·go_simp
      refine hK.out _ _ (by simpa using (pX.below hal).cell 0) (fun hS26=>?_)
      clear hK
      generalize (Y0.alloc (.cells #[] 159))=Y1 at *
      try simp only [Act.put,tka,tkb,tkc]
      refine wpAnyH_ready (rs:=[8,13]) (by kernel_rfl) (by simp) ?_
      refine AllReadyH.cons (o:=⟨some 20,_,_,_,_,_⟩) rfl (fun K hK=>?_) (AllReadyH.cons (o:=⟨some 25,_,_,_,_,_⟩) rfl (fun K hK=>?_) AllReadyH.nil)
      ·go_simp
       refine hK.out _ _ (by simpa using (pX.below hal).cell 0) (fun hS27=>?_)
       clear hK
       try simp only [Act.put,tka,tkb,tkc]
       refine tkr 13 25 (fun K hK=>?_)
       go_simp
       refine hK.out _ _ (by simpa using (pX.below hal).cell 0) (fun hS28=>?_)
       clear hK
       try simp only [Act.put,tka,tkb,tkc]
       refine tkm 14 26 (.int .i64 (r.length:Int)) ?_
       refine tkx 15 27 (.int .i64 (smN r:Int)) ?_ ?_
       ·intro w' hSw;(try dsimp only at hSw);go_simp;try (have h9:=smN_eq r;omega)
       simp only [Act.put,tka,tkb,tkc]
       refine tkx 16 28 (.slice (some ⟨b,0,none⟩) (smN r) cc) ?_ ?_
       ·intro w' hSw;(try dsimp only at hSw);go_simp
       simp only [Act.put,tka,tkb,tkc]
       refine tkr 17 29 (fun K hK=>?_)
       refine step_append_atB rfl _ _ 82 rfl (w.heap.size+1) 159 i0 _ 3 24 Tryz.underlying82 hi hz0 hz1 hz2 rfl (by decide) _ 0 [] rfl q ⟨b,0,none⟩ (smN r) cc (flat (r.take 2)) rfl (by rw [flat_length];rfl) (own_news7 (owns_below hrow hal)) (flat_one7 _) (by have:=smN_le r;unfold maxLen;omega) (by have:=smN_le r;omega) (by have:=(pR.below hal).lt;omega) ?_
       intro v2 Y2 q2 gr hob
       have bY:Below Y0.heap.size Y0 Y2:=hal.grown gr hal.size (fun x hx=>by have e9:some Y0.heap.size=some x:=hx;cases e9;exact Nat.le_refl _)
       rw [Nat.zero_add,List.nil_append] at q2
       obtain ⟨N,hN,hNg⟩:∃ N,v2.ownBlock=some N∧Y0.heap.size≤N:=by
        rcases hob with e | e
        ·exact ⟨_,e,Nat.le_refl _⟩
        ·exact ⟨_,e,by omega⟩
       obtain ⟨c2,rfl⟩:=own_new7 q2 hN
       clear gr hob hN q
       obtain ⟨⟨hP2,pX2⟩,pX3,hcut9⟩:=lay_all8 hP pX pR bw bY q2 hNg hlt hvl (by omega)
       refine hK.out _ _ (by simpa using pX2.cell 0) (fun hS8=>?_)
       clear hK
       try simp only [Act.put,tka,tkb,tkc]
       refine tkm 18 30 (.pointer (some ⟨g,k,none⟩)) ?_
       have cK2:=hP2.cell hlt
       rw [hvk] at cK2
       have fK2:=hP2.1.frozenAt k
       refine tkz 19 (fun K hK=>?_)
       go_simp
       refine hK.out _ _ (by simpa using pX3.cell 0) (fun hS9=>?_)
       clear hK
       try simp only [Act.put,tka,tkb,tkc]
       refine wpAnyH_done (by kernel_rfl) ?_ _
       go_wp2_with fail
       go_meet
       case rel=>exact hcut9
      ·go_simp
       refine hK.out _ _ (by simpa using (pX.below hal).cell 0) (fun hS29=>?_)
       clear hK
       try simp only [Act.put,tka,tkb,tkc]
       refine tkm 14 26 (.int .i64 (r.length:Int)) ?_
       refine tkx 15 27 (.int .i64 (smN r:Int)) ?_ ?_
       ·intro w' hSw;(try dsimp only at hSw);go_simp;try (have h9:=smN_eq r;omega)
       simp only [Act.put,tka,tkb,tkc]
       refine tkr 8 20 (fun K hK=>?_)
       go_simp
       refine hK.out _ _ (by simpa using (pX.below hal).cell 0) (fun hS30=>?_)
       clear hK
       try simp only [Act.put,tka,tkb,tkc]
       refine tkx 16 28 (.slice (some ⟨b,0,none⟩) (smN r) cc) ?_ ?_
       ·intro w' hSw;(try dsimp only at hSw);go_simp
       simp only [Act.put,tka,tkb,tkc]
       refine tkr 17 29 (fun K hK=>?_)
       refine step_append_atB rfl _ _ 82 rfl (w.heap.size+1) 159 i0 _ 3 24 Tryz.underlying82 hi hz0 hz1 hz2 rfl (by decide) _ 0 [] rfl q ⟨b,0,none⟩ (smN r) cc (flat (r.take 2)) rfl (by rw [flat_length];rfl) (own_news7 (owns_below hrow hal)) (flat_one7 _) (by have:=smN_le r;unfold maxLen;omega) (by have:=smN_le r;omega) (by have:=(pR.below hal).lt;omega) ?_
       intro v2 Y2 q2 gr hob
       have bY:Below Y0.heap.size Y0 Y2:=hal.grown gr hal.size (fun x hx=>by have e9:some Y0.heap.size=some x:=hx;cases e9;exact Nat.le_refl _)
       rw [Nat.zero_add,List.nil_append] at q2
       obtain ⟨N,hN,hNg⟩:∃ N,v2.ownBlock=some N∧Y0.heap.size≤N:=by
        rcases hob with e | e
        ·exact ⟨_,e,Nat.le_refl _⟩
        ·exact ⟨_,e,by omega⟩
       obtain ⟨c2,rfl⟩:=own_new7 q2 hN
       clear gr hob hN q
       obtain ⟨⟨hP2,pX2⟩,pX3,hcut9⟩:=lay_all8 hP pX pR bw bY q2 hNg hlt hvl (by omega)
       refine hK.out _ _ (by simpa using pX2.cell 0) (fun hS8=>?_)
       clear hK
       try simp only [Act.put,tka,tkb,tkc]
       refine tkm 18 30 (.pointer (some ⟨g,k,none⟩)) ?_
       have cK2:=hP2.cell hlt
       rw [hvk] at cK2
       have fK2:=hP2.1.frozenAt k
       refine tkz 19 (fun K hK=>?_)
       go_simp
       refine hK.out _ _ (by simpa using pX3.cell 0) (fun hS9=>?_)
       clear hK
       try simp only [Act.put,tka,tkb,tkc]
       refine wpAnyH_done (by kernel_rfl) ?_ _
       go_wp2_with fail
       go_meet
       case rel=>exact hcut9
     ·go_simp
      refine hK.out _ _ (by simpa using pX.cell 0) (fun hS31=>?_)
      clear hK
      try simp only [Act.put,tka,tkb,tkc]
      refine wpAnyH_ready (rs:=[3,13]) (by kernel_rfl) (by simp) ?_
      refine AllReadyH.cons (o:=⟨some 15,_,_,_,_,_⟩) rfl (fun K hK=>?_) (AllReadyH.cons (o:=⟨some 25,_,_,_,_,_⟩) rfl (fun K hK=>?_) AllReadyH.nil)
      ·go_simp
       refine hK.out _ _ (by simpa using (pX.below hal).cell 0) (fun hS32=>?_)
       clear hK
       generalize (Y0.alloc (.cells #[] 159))=Y1 at *
       try simp only [Act.put,tka,tkb,tkc]
       refine tkr 13 25 (fun K hK=>?_)
       go_simp
       refine hK.out _ _ (by simpa using (pX.below hal).cell 0) (fun hS33=>?_)
       clear hK
       try simp only [Act.put,tka,tkb,tkc]
       refine tkm 14 26 (.int .i64 (r.length:Int)) ?_
       refine tkx 15 27 (.int .i64 (smN r:Int)) ?_ ?_
       ·intro w' hSw;(try dsimp only at hSw);go_simp;try (have h9:=smN_eq r;omega)
       simp only [Act.put,tka,tkb,tkc]
       refine tkx 16 28 (.slice (some ⟨b,0,none⟩) (smN r) cc) ?_ ?_
       ·intro w' hSw;(try dsimp only at hSw);go_simp
       simp only [Act.put,tka,tkb,tkc]
       refine tkr 17 29 (fun K hK=>?_)
       refine step_append_atB rfl _ _ 82 rfl (w.heap.size+1) 159 i0 _ 3 24 Tryz.underlying82 hi hz0 hz1 hz2 rfl (by decide) _ 0 [] rfl q ⟨b,0,none⟩ (smN r) cc (flat (r.take 2)) rfl (by rw [flat_length];rfl) (own_news7 (owns_below hrow hal)) (flat_one7 _) (by have:=smN_le r;unfold maxLen;omega) (by have:=smN_le r;omega) (by have:=(pR.below hal).lt;omega) ?_
       intro v2 Y2 q2 gr hob
       have bY:Below Y0.heap.size Y0 Y2:=hal.grown gr hal.size (fun x hx=>by have e9:some Y0.heap.size=some x:=hx;cases e9;exact Nat.le_refl _)
       rw [Nat.zero_add,List.nil_append] at q2
       obtain ⟨N,hN,hNg⟩:∃ N,v2.ownBlock=some N∧Y0.heap.size≤N:=by
        rcases hob with e | e
        ·exact ⟨_,e,Nat.le_refl _⟩
        ·exact ⟨_,e,by omega⟩
       obtain ⟨c2,rfl⟩:=own_new7 q2 hN
       clear gr hob hN q
       obtain ⟨⟨hP2,pX2⟩,pX3,hcut9⟩:=lay_all8 hP pX pR bw bY q2 hNg hlt hvl (by omega)
       refine hK.out _ _ (by simpa using pX2.cell 0) (fun hS8=>?_)
       clear hK
       try simp only [Act.put,tka,tkb,tkc]
       refine tkm 18 30 (.pointer (some ⟨g,k,none⟩)) ?_
       have cK2:=hP2.cell hlt
       rw [hvk] at cK2
       have fK2:=hP2.1.frozenAt k
       refine tkz 19 (fun K hK=>?_)
       go_simp
       refine hK.out _ _ (by simpa using pX3.cell 0) (fun hS9=>?_)
       clear hK
       try simp only [Act.put,tka,tkb,tkc]
       refine wpAnyH_done (by kernel_rfl) ?_ _
       go_wp2_with fail
       go_meet
       case rel=>exact hcut9
      ·go_simp
       refine hK.out _ _ (by simpa using pX.cell 0) (fun hS34=>?_)
       clear hK
       try simp only [Act.put,tka,tkb,tkc]
       refine tkm 14 26 (.int .i64 (r.length:Int)) ?_
       refine tkx 15 27 (.int .i64 (smN r:Int)) ?_ ?_
       ·intro w' hSw;(try dsimp only at hSw);go_simp;try (have h9:=smN_eq r;omega)
       simp only [Act.put,tka,tkb,tkc]
       refine tkx 16 28 (.slice (some ⟨b,0,none⟩) (smN r) cc) ?_ ?_
       ·intro w' hSw;(try dsimp only at hSw);go_simp
       simp only [Act.put,tka,tkb,tkc]
       refine tkr 3 15 (fun K hK=>?_)
       go_simp
       refine hK.out _ _ (by simpa using (pX.below hal).cell 0) (fun hS35=>?_)
       clear hK
       generalize (Y0.alloc (.cells #[] 159))=Y1 at *
       try simp only [Act.put,tka,tkb,tkc]
       refine tkr 17 29 (fun K hK=>?_)
       refine step_append_atB rfl _ _ 82 rfl (w.heap.size+1) 159 i0 _ 3 24 Tryz.underlying82 hi hz0 hz1 hz2 rfl (by decide) _ 0 [] rfl q ⟨b,0,none⟩ (smN r) cc (flat (r.take 2)) rfl (by rw [flat_length];rfl) (own_news7 (owns_below hrow hal)) (flat_one7 _) (by have:=smN_le r;unfold maxLen;omega) (by have:=smN_le r;omega) (by have:=(pR.below hal).lt;omega) ?_
       intro v2 Y2 q2 gr hob
       have bY:Below Y0.heap.size Y0 Y2:=hal.grown gr hal.size (fun x hx=>by have e9:some Y0.heap.size=some x:=hx;cases e9;exact Nat.le_refl _)
       rw [Nat.zero_add,List.nil_append] at q2
       obtain ⟨N,hN,hNg⟩:∃ N,v2.ownBlock=some N∧Y0.heap.size≤N:=by
        rcases hob with e | e
        ·exact ⟨_,e,Nat.le_refl _⟩
        ·exact ⟨_,e,by omega⟩
       obtain ⟨c2,rfl⟩:=own_new7 q2 hN
       clear gr hob hN q
       obtain ⟨⟨hP2,pX2⟩,pX3,hcut9⟩:=lay_all8 hP pX pR bw bY q2 hNg hlt hvl (by omega)
       refine hK.out _ _ (by simpa using pX2.cell 0) (fun hS8=>?_)
       clear hK
       try simp only [Act.put,tka,tkb,tkc]
       refine tkm 18 30 (.pointer (some ⟨g,k,none⟩)) ?_
       have cK2:=hP2.cell hlt
       rw [hvk] at cK2
       have fK2:=hP2.1.frozenAt k
       refine tkz 19 (fun K hK=>?_)
       go_simp
       refine hK.out _ _ (by simpa using pX3.cell 0) (fun hS9=>?_)
       clear hK
       try simp only [Act.put,tka,tkb,tkc]
       refine wpAnyH_done (by kernel_rfl) ?_ _
       go_wp2_with fail
       go_meet
       case rel=>exact hcut9
     ·go_simp
      refine hK.out _ _ (by simpa using pX.cell 0) (fun hS36=>?_)
      clear hK
      try simp only [Act.put,tka,tkb,tkc]
      refine tkm 14 26 (.int .i64 (r.length:Int)) ?_
      refine tkx 15 27 (.int .i64 (smN r:Int)) ?_ ?_
      ·intro w' hSw;(try dsimp only at hSw);go_simp;try (have h9:=smN_eq r;omega)
      simp only [Act.put,tka,tkb,tkc]
      refine wpAnyH_ready (rs:=[3,8]) (by kernel_rfl) (by simp) ?_
      refine AllReadyH.cons (o:=⟨some 15,_,_,_,_,_⟩) rfl (fun K hK=>?_) (AllReadyH.cons (o:=⟨some 20,_,_,_,_,_⟩) rfl (fun K hK=>?_) AllReadyH.nil)
      ·go_simp
       refine hK.out _ _ (by simpa using (pX.below hal).cell 0) (fun hS37=>?_)
       clear hK
       generalize (Y0.alloc (.cells #[] 159))=Y1 at *
       try simp only [Act.put,tka,tkb,tkc]
       refine tkr 8 20 (fun K hK=>?_)
       go_simp
       refine hK.out _ _ (by simpa using (pX.below hal).cell 0) (fun hS38=>?_)
       clear hK
       try simp only [Act.put,tka,tkb,tkc]
       refine tkx 16 28 (.slice (some ⟨b,0,none⟩) (smN r) cc) ?_ ?_
       ·intro w' hSw;(try dsimp only at hSw);go_simp
       simp only [Act.put,tka,tkb,tkc]
       refine tkr 17 29 (fun K hK=>?_)
       refine step_append_atB rfl _ _ 82 rfl (w.heap.size+1) 159 i0 _ 3 24 Tryz.underlying82 hi hz0 hz1 hz2 rfl (by decide) _ 0 [] rfl q ⟨b,0,none⟩ (smN r) cc (flat (r.take 2)) rfl (by rw [flat_length];rfl) (own_news7 (owns_below hrow hal)) (flat_one7 _) (by have:=smN_le r;unfold maxLen;omega) (by have:=smN_le r;omega) (by have:=(pR.below hal).lt;omega) ?_
       intro v2 Y2 q2 gr hob
       have bY:Below Y0.heap.size Y0 Y2:=hal.grown gr hal.size (fun x hx=>by have e9:some Y0.heap.size=some x:=hx;cases e9;exact Nat.le_refl _)
       rw [Nat.zero_add,List.nil_append] at q2
       obtain ⟨N,hN,hNg⟩:∃ N,v2.ownBlock=some N∧Y0.heap.size≤N:=by
        rcases hob with e | e
        ·exact ⟨_,e,Nat.le_refl _⟩
        ·exact ⟨_,e,by omega⟩
       obtain ⟨c2,rfl⟩:=own_new7 q2 hN
       clear gr hob hN q
       obtain ⟨⟨hP2,pX2⟩,pX3,hcut9⟩:=lay_all8 hP pX pR bw bY q2 hNg hlt hvl (by omega)
       refine hK.out _ _ (by simpa using pX2.cell 0) (fun hS8=>?_)
       clear hK
       try simp only [Act.put,tka,tkb,tkc]
       refine tkm 18 30 (.pointer (some ⟨g,k,none⟩)) ?_
       have cK2:=hP2.cell hlt
       rw [hvk] at cK2
       have fK2:=hP2.1.frozenAt k
       refine tkz 19 (fun K hK=>?_)
       go_simp
       refine hK.out _ _ (by simpa using pX3.cell 0) (fun hS9=>?_)
       clear hK
       try simp only [Act.put,tka,tkb,tkc]
       refine wpAnyH_done (by kernel_rfl) ?_ _
       go_wp2_with fail
       go_meet
       case rel=>exact hcut9
      ·go_simp
       refine hK.out _ _ (by simpa using pX.cell 0) (fun hS39=>?_)
       clear hK
       try simp only [Act.put,tka,tkb,tkc]
       refine tkx 16 28 (.slice (some ⟨b,0,none⟩) (smN r) cc) ?_ ?_
       ·intro w' hSw;(try dsimp only at hSw);go_simp
       simp only [Act.put,tka,tkb,tkc]
       refine tkr 3 15 (fun K hK=>?_)
       go_simp
       refine hK.out _ _ (by simpa using (pX.below hal).cell 0) (fun hS40=>?_)
       clear hK
       generalize (Y0.alloc (.cells #[] 159))=Y1 at *
       try simp only [Act.put,tka,tkb,tkc]
       refine tkr 17 29 (fun K hK=>?_)
       refine step_append_atB rfl _ _ 82 rfl (w.heap.size+1) 159 i0 _ 3 24 Tryz.underlying82 hi hz0 hz1 hz2 rfl (by decide) _ 0 [] rfl q ⟨b,0,none⟩ (smN r) cc (flat (r.take 2)) rfl (by rw [flat_length];rfl) (own_news7 (owns_below hrow hal)) (flat_one7 _) (by have:=smN_le r;unfold maxLen;omega) (by have:=smN_le r;omega) (by have:=(pR.below hal).lt;omega) ?_
       intro v2 Y2 q2 gr hob
       have bY:Below Y0.heap.size Y0 Y2:=hal.grown gr hal.size (fun x hx=>by have e9:some Y0.heap.size=some x:=hx;cases e9;exact Nat.le_refl _)
       rw [Nat.zero_add,List.nil_append] at q2
       obtain ⟨N,hN,hNg⟩:∃ N,v2.ownBlock=some N∧Y0.heap.size≤N:=by
        rcases hob with e | e
        ·exact ⟨_,e,Nat.le_refl _⟩
        ·exact ⟨_,e,by omega⟩
       obtain ⟨c2,rfl⟩:=own_new7 q2 hN
       clear gr hob hN q
       obtain ⟨⟨hP2,pX2⟩,pX3,hcut9⟩:=lay_all8 hP pX pR bw bY q2 hNg hlt hvl (by omega)
       refine hK.out _ _ (by simpa using pX2.cell 0) (fun hS8=>?_)
       clear hK
       try simp only [Act.put,tka,tkb,tkc]
       refine tkm 18 30 (.pointer (some ⟨g,k,none⟩)) ?_
       have cK2:=hP2.cell hlt
       rw [hvk] at cK2
       have fK2:=hP2.1.frozenAt k
       refine tkz 19 (fun K hK=>?_)
       go_simp
       refine hK.out _ _ (by simpa using pX3.cell 0) (fun hS9=>?_)
       clear hK
       try simp only [Act.put,tka,tkb,tkc]
       refine wpAnyH_done (by kernel_rfl) ?_ _
       go_wp2_with fail
       go_meet
       case rel=>exact hcut9
   clear hP pX pR bw cX cK hrow hvk hvl
   clear vs
   obtain ⟨vs3,N,c2,hv3,hP3,pX3,pR3,bw3⟩:=hcut
   go_wp2_with fail
   go_loopg [5] (smN r) (fun gg s5 wz=>∃ j:Nat,j≤smN r∧smN r - j≤gg∧s5=.int .i64 j∧ProgAt wz (w.heap.size+1) g c vs3 ((smK rows k).set k (smJ r j))∧Blk wz X 25 [.slice (some ⟨g,0,none⟩) 3 c]∧Blk wz w.heap.size 25 [.slice none 0 0]∧Below p w wz)
   case atStart=>exact ⟨0,by omega,by omega,rfl,hP3,pX3,pR3,bw3⟩
   case round =>
    clear hP3 pX3 pR3 bw3
    obtain ⟨j,hj,hg2,rfl,hP,pX,pR,bw⟩:=hrel
    have hlen3:(smK rows k).length=3:=by rw [smK_len];exact H3.out
    have cX:wr.cell? ⟨X,0,none⟩=some (.slice (some ⟨g,0,none⟩) 3 c):=by simpa using pX.cell 0
    have cK:=hP.cell hlt
    rw [hv3] at cK
    by_cases hjl:j<smN r
    ·have hjl':(j:Int)<(smN r:Int):=by omega
     have hj0:(0:Int)≤(j:Int):=by omega
     have hrow:=hP.row (by omega)
     rw [hv3,smJ_len] at hrow
     have cJ:=hrow.cellAt (j*3) (by omega)
     rw [flat_get7 _ _ (by rw [smJ_len];exact hjl),smJ_at hjl] at cJ
     obtain ⟨u2,cB⟩:∃ u,wr.cell? ⟨N,j*3+2,none⟩=some u:=⟨_,by rw [hrow.cellAt _ (by omega)];exact List.getElem?_eq_getElem (by rw [flat_length,smJ_len];omega)⟩
     have hsN:=smN_le r
     by_cases h7:((r.take 2).getD j (0,0,0)).1=7
     ·have hdr:Below wr.heap.size wr wr.drew:=by go_grown
      have bw4:=bw.trans (hdr.mono (by have:=pR.lt;omega))
      have hrd:=owns_below hrow hdr
      have gT:=(hrd.stored (j*3+2) (.int .i64 (smN r:Int))).2
      have hT:=(hP.below hdr).turn7 hlt hlen3 hv3 hjl h7
      have hNX:N≠X:=fun e=>own_ne_blk hrow pX (by decide) (by simp [Value.ownBlock,e])
      have hNB:w.heap.size+1≤N:=(hrow.lt N rfl).1
      have pX4:=(pX.below hdr).kept gT (by simp;omega)
      have pR4:=(pR.below hdr).kept gT (by simp;omega)
      replace bw4:=bw4.grown gT (by have:=bw4.size;omega) (fun x hx=>by cases hx;omega)
      have cB4:=cells_kept hdr _ _ cB
      have fB4:=hrd.frozenAt (j*3+2)
      have hgN:g≠N:=fun e=>own_ne_own6 hrow hP.1 (by decide) (by simp [Value.ownBlock,e])
      rw [h7] at cJ
      have cX4:(wr.drew.setCell ⟨N,j*3+2,none⟩ (.int .i64 (smN r:Int))).cell? ⟨X,0,none⟩=some (.slice (some ⟨g,0,none⟩) 3 c):=by simpa using pX4.cell 0
      have cK4:=hT.cell hlt
      rw [hv3] at cK4
      clear hP pX pR bw hrow hrd gT hdr h7
      go_wp2_with fail
      refine wp_region_held_drew (S:=(fun w'=>w'.cell? ⟨X,0,none⟩=some (.slice (some ⟨g,0,none⟩) 3 c)∧w'.cell? ⟨g,k,none⟩=some (.slice (some ⟨N,0,none⟩) (smN r) c2))) (by kernel_rfl) ⟨cX,cK⟩ (fun hS0=>?_)
      refine tkm 0 51 (.pointer (some ⟨X,0,none⟩)) ?_
      refine tkm 1 52 (.slice (some ⟨g,0,none⟩) 3 c) ?_
      refine tkm 2 53 (.int .i64 (k:Int)) ?_
      refine tkm 3 54 (.pointer (some ⟨g,k,none⟩)) ?_
      refine tkm 4 55 (.slice (some ⟨N,0,none⟩) (smN r) c2) ?_
      refine tkm 5 56 (.int .i64 (j:Int)) ?_
      refine tkm 6 57 (.pointer (some ⟨X,0,none⟩)) ?_
      refine tkm 7 58 (.slice (some ⟨g,0,none⟩) 3 c) ?_
      refine tkm 8 59 (.int .i64 (k:Int)) ?_
      refine tkm 9 60 (.pointer (some ⟨g,k,none⟩)) ?_
      refine tkm 10 61 (.slice (some ⟨N,0,none⟩) (smN r) c2) ?_
      refine tkm 11 62 (.int .i64 (smN r:Int)) ?_
      refine tkm 12 63 (.pointer (some ⟨N,j*3,none⟩)) ?_
      refine tkm 13 64 (.pointer (some ⟨N,j*3+2,none⟩)) ?_
      refine tkz 14 (fun K hK=>?_)
      go_simp
      refine hK.out _ _ ⟨cX4,cK4⟩ (fun hS9=>?_)
      clear hK
      try simp only [Act.put,tka,tkb,tkc]
      refine wpAnyH_done (by kernel_rfl) ?_ _
      rw [World.setCell_drew] at hT pX4 pR4 bw4
      clear cX4 cK4 hS9 hS0
      generalize (wr.setCell ⟨N,j*3+2,none⟩ (.int .i64 (smN r:Int))).drew=V4 at *
      clear cX cK cJ cB cB4 fB4
      go_wp2
      go_roundg (smN r - (j+1))
      case measure=>omega
      case rel=>exact ⟨j+1,by omega,by omega,by go_num,hT,pX4,pR4,bw4⟩
     ·have hsame:=smJ_same hjl h7
      rw [← hsame] at hP
      have h7b:(((r.take 2).getD j (0,0,0)).1 == 7)=false:=by simpa using h7
      generalize ((r.take 2).getD j (0,0,0)).1=z7 at *
      clear hrow hsame
      go_wp2
      go_roundg (smN r - (j+1))
      case measure=>omega
      case rel=>exact ⟨j+1,by omega,by omega,by go_num,hP,pX,pR,bw⟩
    ·obtain rfl:j=smN r:=by omega
     have hnl:¬ ((smN r:Int)<(smN r:Int)):=by omega
     have hP9:ProgAt wr (w.heap.size+1) g c vs3 (smK rows (k+1)):=by
      rw [smK_succ (by have:=H3.out;omega),← HR.out]
      rw [smJ_all (Nat.le_refl _)] at hP
      exact hP
     clear hP
     go_wp2
     go_roundg (3 - (k+1))
     case measure=>omega
     case rel=>exact ⟨k+1,vs3,by omega,by omega,by go_num,hP9,pX,pR,bw⟩
  ·obtain rfl:k=3:=by omega
   go_wp2_with (first | refine wpList_load_blk rfl 25 _ rfl X rfl pX _ Tryz.underlying25 rfl (by kernel_rfl) ?_ | refine wpList_store_blk rfl 25 _ _ rfl w.heap.size [.slice (some ⟨g,0,none⟩) 3 c] rfl rfl pR (by kernel_rfl) rfl rfl ?_)
   intro V9 pR9 g9
   have hP9:=hP.low g9 (by omega)
   have bw9:=bw.grown g9 (by have:=bw.size;omega) (fun x hx=>by cases hx;omega)
   have k9:V9.cell? ⟨w.heap.size,0,none⟩=some (.slice (some ⟨g,0,none⟩) 3 c):=by simpa using pR9.out.cell 0
   have HS9:Hid (ProgS (smK rows 3)):=smK_all HOK.out.1
   clear hP pX pR bw g9 pR9
   go_wp2
   refine bodyPost_ret (by simp [results,Tryz.results66,go_sem,k9];try rfl) rfl ?_
   exact ⟨⟨_,_,HS9.out,rfl,hP9.own.lower (by omega)⟩,bw9⟩

theorem smallDrawn_any (a:Option Addr) (n cap:Nat) (zs:List Int) (w:World) (hI:IsRow .u8 w a n cap zs) (hn:n≤1048576) :
  Calls Tryz.prog 22 #[.slice a n cap] w fun e w'=>(∃ (v:Value) (rows:List (List I3)),ProgS rows∧e=.returned (.agg #[v])∧OwnProg w' w.heap.size v rows)∧Below w.heap.size w w':=by
 have hCo:=code_of hI hn
 have hb0:Below w.heap.size w (w.alloc (.cells #[.slice none 0 0] 25)):=by go_grown
 have hRr:=box_n w (.slice none 0 0) 25 w.heap.size (Nat.le_refl _)
 go_enter Tryz.func22,Tryz.ntmps22
 go_wp2_with fail
 refine (l00Source_any a n cap _ hn).mono ?_
 rintro e w1 ⟨rfl,hS,hb1⟩
 simp only [World.size_alloc] at hS
 try simp only [World.size_alloc]
 have hRr1:=owns_below hRr hb1
 have b1:Below w.heap.size w w1:=bel_trans hb0 hb1
 have hC1:Code w1 (w.heap.size+1) a n cap:=by
  obtain ⟨zs',q1,q2,q3,q4⟩:=hCo
  exact ⟨zs',q1.below b1,q2,q3,fun x hx h0=>by have:=q4 x hx h0;omega⟩
 have hpw:w.heap.size+1<w1.heap.size:=hS.lt
 clear hb1 hb0 hRr hCo
 have hpw':w.heap.size<w.heap.size+1:=by omega
 generalize w.heap.size+1=p at hS hC1 hpw hpw'
 go_wp2_with fail
 refine (smallProgram_any p a n cap _ hS hC1).mono ?_
 rintro e w2 ⟨⟨v,rows,hok,rfl,hOP⟩,hb2⟩
 obtain ⟨aV,capV,hv⟩:=hOP.slice
 generalize rows.length=lr at hv
 subst hv
 have HP:Hid (ProgS rows):=hok
 have hRr2:=owns_belowp hRr1 hb2 (fun x e=>by cases e;omega)
 have b2:Below w.heap.size w w2:=b1.trans (hb2.mono (by omega))
 have kR:w2.cell? ⟨w.heap.size,0,none⟩=some (.slice none 0 0):=by simpa using hRr2.cellAt 0 (by omega)
 have fR:=hRr2.frozenAt 0
 have hOP3:=(hOP.low (p:=⟨w.heap.size,0,none⟩) (show w.heap.size<w1.heap.size by omega) (.slice aV lr capV)).lower (B':=w.heap.size) (by omega)
 have b3:Below w.heap.size w (w2.setCell ⟨w.heap.size,0,none⟩ (.slice aV lr capV)):=b2.setCell (Nat.le_refl _) _
 have k3:(w2.setCell ⟨w.heap.size,0,none⟩ (.slice aV lr capV)).cell? ⟨w.heap.size,0,none⟩=some (.slice aV lr capV):=World.cell?_setCell_same' _ _ _ (by rw [kR];rfl)
 clear hok hOP hRr1 hRr2 b1 b2 hb2 hS hC1
 go_wp2
 clear kR fR
 generalize w2.setCell ⟨w.heap.size,0,none⟩ (.slice aV lr capV)=w9 at hOP3 b3 k3
 refine bodyPost_ret (by simp [results,Tryz.results22,go_sem,k3];try rfl) rfl ?_
 exact ⟨⟨_,rows,HP.out,rfl,hOP3⟩,b3⟩


section
variable {σ : Type} [DecidableEq σ]
abbrev Rec6 (σ:Type):=σ × Nat × Int
def hasS (S:List (Rec6 σ)) (x:σ):Bool:=S.any fun r=>decide (r.1=x)
theorem hasS_iff {S:List (Rec6 σ)} {x:σ}:hasS S x=true↔x ∈ S.map (·.1):=by
 unfold hasS
 simp
def putS (i:Nat) (S:List (Rec6 σ)) (kx:Int × σ):List (Rec6 σ):=if hasS S kx.2 then S else S++[(kx.2,i,kx.1)]
def onS (i:Nat) (S:List (Rec6 σ)) (ts:List (Int × σ)):List (Rec6 σ):=ts.foldl (putS i) S
def srch (nx:σ→List (Int × σ)):Nat→Nat→List (Rec6 σ)→List (Rec6 σ)
 | 0,_,S=>S
 | f+1,i,S=>match S[i]? with
  | none=>S
  | some r=>srch nx f (i+1) (onS i S (nx r.1))
theorem putS_pre (i:Nat) (S:List (Rec6 σ)) (kx:Int × σ):S <+: putS i S kx:=by
 unfold putS
 split
 ·exact List.prefix_refl _
 ·exact List.prefix_append _ _
theorem onS_pre (i:Nat):∀ (ts:List (Int × σ)) (S:List (Rec6 σ)),S <+: onS i S ts
 | [],S=>List.prefix_refl _
 | t::ts,S=>(putS_pre i S t).trans (onS_pre i ts (putS i S t))
theorem srch_pre (nx:σ→List (Int × σ)):∀ (f i:Nat) (S:List (Rec6 σ)),S <+: srch nx f i S
 | 0,_,S=>List.prefix_refl _
 | f+1,i,S=>by
  unfold srch
  split
  ·exact List.prefix_refl _
  ·exact (onS_pre i _ S).trans (srch_pre nx f (i+1) _)
theorem srch_end {nx:σ→List (Int × σ)} {f i:Nat} {S:List (Rec6 σ)} (h:S.length≤i):srch nx f i S=S:=by
 cases f with
 | zero=>rfl
 | succ f=>unfold srch;rw [List.getElem?_eq_none h]
theorem srch_go {nx:σ→List (Int × σ)} {f i:Nat} {S:List (Rec6 σ)} (h:i<S.length):srch nx (f+1) i S=srch nx f (i+1) (onS i S (nx (S[i]'h).1)):=by
 conv=>lhs;unfold srch
 rw [List.getElem?_eq_getElem h]
theorem onS_cons (i:Nat) (S:List (Rec6 σ)) (t:Int × σ) (ts:List (Int × σ)):onS i S (t::ts)=onS i (putS i S t) ts:=rfl
theorem putS_nodup {i:Nat} {S:List (Rec6 σ)} {kx:Int × σ} (h:(S.map (·.1)).Nodup):((putS i S kx).map (·.1)).Nodup:=by
 unfold putS
 split
 ·exact h
 ·rename_i hn
  rw [List.map_append,List.nodup_append]
  refine ⟨h,by simp,?_⟩
  intro a ha b hb
  simp at hb
  subst hb
  intro e
  subst e
  exact hn (hasS_iff.2 ha)
theorem onS_nodup {i:Nat}:∀ (ts:List (Int × σ)) (S:List (Rec6 σ)),(S.map (·.1)).Nodup→((onS i S ts).map (·.1)).Nodup
 | [],S,h=>h
 | t::ts,S,h=>onS_nodup ts _ (putS_nodup h)
theorem srch_nodup {nx:σ→List (Int × σ)}:∀ (f i:Nat) (S:List (Rec6 σ)),(S.map (·.1)).Nodup→((srch nx f i S).map (·.1)).Nodup
 | 0,_,S,h=>h
 | f+1,i,S,h=>by
  unfold srch
  split
  ·exact h
  ·exact srch_nodup f (i+1) _ (onS_nodup _ S h)
theorem putS_has (i:Nat) (S:List (Rec6 σ)) (kx:Int × σ):kx.2 ∈ (putS i S kx).map (·.1):=by
 unfold putS
 split
 ·rename_i h;exact hasS_iff.1 h
 ·simp
omit [DecidableEq σ] in
theorem pre_mem {S T:List (Rec6 σ)} {x:σ} (h:S <+: T) (hx:x ∈ S.map (·.1)):x ∈ T.map (·.1):=by
 obtain ⟨r,rfl⟩:=h
 rw [List.map_append]
 exact List.mem_append_left _ hx
theorem onS_has {i:Nat}:∀ (ts:List (Int × σ)) (S:List (Rec6 σ)) (t:Int × σ),t ∈ ts→t.2 ∈ (onS i S ts).map (·.1)
 | [],S,t,h=>by simp at h
 | u::ts,S,t,h=>by
  rw [onS_cons]
  rcases List.mem_cons.1 h with rfl | h
  ·exact pre_mem (onS_pre i ts _) (putS_has i S t)
  ·exact onS_has ts _ t h
theorem srch_closed {nx:σ→List (Int × σ)}:∀ (f i:Nat) (S:List (Rec6 σ)),(∀ j r,j<i→S[j]?=some r→∀ t ∈ nx r.1,t.2 ∈ S.map (·.1))→i≤S.length→(srch nx f i S).length≤i+f →
  ∀ r ∈ srch nx f i S,∀ t ∈ nx r.1,t.2 ∈ (srch nx f i S).map (·.1)
 | 0,i,S,h,hi,hl=>by
  intro r hr t ht
  obtain ⟨j,hj,rfl⟩:=List.getElem_of_mem hr
  have hl':S.length≤i:=hl
  exact h j _ (by have:j<S.length:=hj;omega) (List.getElem?_eq_getElem hj) t ht
 | f+1,i,S,h,hi,hl=>by
  by_cases he:i<S.length
  ·rw [srch_go he] at hl ⊢
   refine srch_closed f (i+1) _ ?_ ?_ (by omega)
   ·intro j r hj hr t ht
    obtain ⟨rest,hrest⟩:=onS_pre i (nx (S[i]'he).1) S
    have hjS:j<S.length:=by omega
    have hr':S[j]?=some r:=by
     rw [← hrest,List.getElem?_append_left hjS] at hr
     exact hr
    by_cases e:j=i
    ·subst e
     rw [List.getElem?_eq_getElem he] at hr'
     cases hr'
     exact onS_has _ S t ht
    ·exact pre_mem ⟨rest,hrest⟩ (h j r (by omega) hr' t ht)
   ·have:=(onS_pre i (nx (S[i]'he).1) S).length_le
    omega
  ·rw [srch_end (by omega)] at hl ⊢
   intro r hr t ht
   obtain ⟨j,hj,rfl⟩:=List.getElem_of_mem hr
   exact h j _ (by omega) (List.getElem?_eq_getElem hj) t ht
def Came (nx:σ→List (Int × σ)) (S:List (Rec6 σ)):Prop:=∀ j r,0<j→S[j]?=some r→r.2.1<j∧∃ q,S[r.2.1]?=some q∧(r.2.2,r.1) ∈ nx q.1
theorem putS_came {nx:σ→List (Int × σ)} {i:Nat} {S:List (Rec6 σ)} {kx:Int × σ} {q:Rec6 σ} (h:Came nx S) (hq:S[i]?=some q) (hm:kx ∈ nx q.1):Came nx (putS i S kx)∧(putS i S kx)[i]?=some q:=by
 have hi:i<S.length:=(List.getElem?_eq_some_iff.1 hq).1
 unfold putS
 split
 ·exact ⟨h,hq⟩
 ·refine ⟨fun j r hj hr=>?_,by rw [List.getElem?_append_left hi];exact hq⟩
  by_cases hjl:j<S.length
  ·rw [List.getElem?_append_left hjl] at hr
   obtain ⟨h1,q',h2,h3⟩:=h j r hj hr
   exact ⟨h1,q',by rw [List.getElem?_append_left (by omega)];exact h2,h3⟩
  ·have e:j=S.length:=by
    have:=(List.getElem?_eq_some_iff.1 hr).1
    simp at this
    omega
   subst e
   simp at hr
   subst hr
   exact ⟨hi,q,by rw [List.getElem?_append_left hi];exact hq,hm⟩
theorem onS_came {nx:σ→List (Int × σ)} {i:Nat} {q:Rec6 σ}:∀ (ts:List (Int × σ)) (S:List (Rec6 σ)),Came nx S→S[i]?=some q→(∀ t ∈ ts,t ∈ nx q.1)→Came nx (onS i S ts)
 | [],S,h,_,_=>h
 | t::ts,S,h,hq,hm=>by
  obtain ⟨h1,h2⟩:=putS_came h hq (hm t (by simp))
  exact onS_came ts _ h1 h2 (fun u hu=>hm u (by simp [hu]))
theorem srch_came {nx:σ→List (Int × σ)}:∀ (f i:Nat) (S:List (Rec6 σ)),Came nx S→Came nx (srch nx f i S)
 | 0,_,S,h=>h
 | f+1,i,S,h=>by
  unfold srch
  split
  ·exact h
  ·rename_i r hr
   exact srch_came f (i+1) _ (onS_came _ S h hr (fun t ht=>ht))
end


def objM (x:I3):Int:=if x.1=1 then x.2.2 else if x.1=2 then x.2.1 else if x.1=5∨x.1=6 then 4+x.2.1 else -1
def eventM (rows:List (List I3)) (m:V4) (k:Nat):Int × Int × Int × Int:=(k,m.1.getD k 0,(insM rows m k).1,objM (insM rows m k))

theorem objOf_is (x0 x1 x2:Int) (hx:-1000≤x1∧x1≤1000) (w:World):Calls Tryz.prog 120 #[.agg #[.int .i64 x0,.int .i64 x1,.int .i64 x2]] w fun e w'=>e=.returned (.int .i64 (objM (x0,x1,x2)))∧Below w.heap.size w w':=by
 obtain ⟨r,hr⟩:∃ r,r=objM (x0,x1,x2):=⟨_,rfl⟩
 rw [← hr]
 unfold objM at hr
 simp only at hr
 have HR:Hid (r=if x0=1 then x2 else if x0=2 then x1 else if x0=5∨x0=6 then 4+x1 else -1):=hr
 clear hr
 have h4:IntKind.i64.wrap (4+x1)=4+x1:=IntWalk.i64_in _ (by omega)
 by_cases q1:x0=1
 ·have HF:Hid (r=x2):=by rw [Hid,HR.out];simp [q1]
  subst q1
  clear HR 
  go_enter Tryz.func120,Tryz.ntmps120
  go_wp2
  go_ret
  exact ⟨by rw [HF.out];rfl,by go_grown⟩
 by_cases q2:x0=2
 ·have HF:Hid (r=x1):=by rw [Hid,HR.out];simp [q2]
  subst q2
  clear HR q1
  go_enter Tryz.func120,Tryz.ntmps120
  go_wp2
  go_ret
  exact ⟨by rw [HF.out];rfl,by go_grown⟩
 by_cases q5:x0=5
 ·have HF:Hid (r=4+x1):=by rw [Hid,HR.out];simp [q5]
  subst q5
  clear HR q1 q2
  go_enter Tryz.func120,Tryz.ntmps120
  go_wp2
  go_ret
  exact ⟨by rw [HF.out];rfl,by go_grown⟩
 by_cases q6:x0=6
 ·have HF:Hid (r=4+x1):=by rw [Hid,HR.out];simp [q6]
  subst q6
  clear HR q1 q2 q5
  go_enter Tryz.func120,Tryz.ntmps120
  go_wp2
  go_ret
  exact ⟨by rw [HF.out];rfl,by go_grown⟩
 have HF:Hid (r=-1):=by rw [Hid,HR.out,if_neg q1,if_neg q2,if_neg (by omega)]
 have r1:(x0 == 1)=false:=by simp [q1]
 have r2:(x0 == 2)=false:=by simp [q2]
 have r5:(x0 == 5)=false:=by simp [q5]
 have r6:(x0 == 6)=false:=by simp [q6]
 clear HR q1 q2 q5 q6
 go_enter Tryz.func120,Tryz.ntmps120
 go_wp2
 go_ret
 exact ⟨by rw [HF.out];rfl,by go_grown⟩

theorem l05Obj_is (x0 x1 x2:Int) (hx:-1000≤x1∧x1≤1000) (w:World):Calls Tryz.prog 168 #[.agg #[.int .i64 x0,.int .i64 x1,.int .i64 x2]] w fun e w'=>e=.returned (.int .i64 (objM (x0,x1,x2)))∧Below w.heap.size w w':=by
 obtain ⟨r,hr⟩:∃ r,r=objM (x0,x1,x2):=⟨_,rfl⟩
 rw [← hr]
 unfold objM at hr
 simp only at hr
 have HR:Hid (r=if x0=1 then x2 else if x0=2 then x1 else if x0=5∨x0=6 then 4+x1 else -1):=hr
 clear hr
 have h4:IntKind.i64.wrap (4+x1)=4+x1:=IntWalk.i64_in _ (by omega)
 by_cases q1:x0=1
 ·have HF:Hid (r=x2):=by rw [Hid,HR.out];simp [q1]
  subst q1
  clear HR 
  go_enter Tryz.func168,Tryz.ntmps168
  go_wp2
  go_ret
  exact ⟨by rw [HF.out];rfl,by go_grown⟩
 by_cases q2:x0=2
 ·have HF:Hid (r=x1):=by rw [Hid,HR.out];simp [q2]
  subst q2
  clear HR q1
  go_enter Tryz.func168,Tryz.ntmps168
  go_wp2
  go_ret
  exact ⟨by rw [HF.out];rfl,by go_grown⟩
 by_cases q5:x0=5
 ·have HF:Hid (r=4+x1):=by rw [Hid,HR.out];simp [q5]
  subst q5
  clear HR q1 q2
  go_enter Tryz.func168,Tryz.ntmps168
  go_wp2
  go_ret
  exact ⟨by rw [HF.out];rfl,by go_grown⟩
 by_cases q6:x0=6
 ·have HF:Hid (r=4+x1):=by rw [Hid,HR.out];simp [q6]
  subst q6
  clear HR q1 q2 q5
  go_enter Tryz.func168,Tryz.ntmps168
  go_wp2
  go_ret
  exact ⟨by rw [HF.out];rfl,by go_grown⟩
 have HF:Hid (r=-1):=by rw [Hid,HR.out,if_neg q1,if_neg q2,if_neg (by omega)]
 have r1:(x0 == 1)=false:=by simp [q1]
 have r2:(x0 == 2)=false:=by simp [q2]
 have r5:(x0 == 5)=false:=by simp [q5]
 have r6:(x0 == 6)=false:=by simp [q6]
 clear HR q1 q2 q5 q6
 go_enter Tryz.func168,Tryz.ntmps168
 go_wp2
 go_ret
 exact ⟨by rw [HF.out];rfl,by go_grown⟩

theorem event_raw (g k p b off n c:Nat) (x0 x1 x2:Int) (w:World) (hk:k<3) (hp:p<n) (hp6:p≤6) (hx:-1000≤x1∧x1≤1000)
  (e0:w.cell? ⟨g,k*4,none⟩=some (.slice (some ⟨b,off,none⟩) n c)) (e1:w.cell? ⟨g,k*4+1,none⟩=some (.int .i64 p)) (q0:w.cell? ⟨b,off+p*3,none⟩=some (.int .i64 x0)) (q1:w.cell? ⟨b,off+p*3+1,none⟩=some (.int .i64 x1)) (q2:w.cell? ⟨b,off+p*3+2,none⟩=some (.int .i64 x2)) :
  Calls Tryz.prog 56 #[.pointer (some ⟨g,0,none⟩),.int .i64 k] w fun e w'=>e=.returned (.agg #[.int .i64 k,.int .i64 p,.int .i64 x0,.int .i64 (objM (x0,x1,x2))])∧Below w.heap.size w w':=by
 have hgl:g<w.heap.size:=World.block_lt_of_cell? _ _ e1
 have hk3:(k:Int)<3:=by omega
 have hpn:(p:Int)<(n:Int):=by omega
 have kO:=objOf_is x0 x1 x2 hx
 generalize objM (x0,x1,x2)=ob at *
 have bw:Below w.heap.size w (w.alloc (.cells #[.int .i64 0,.int .i64 0,.int .i64 0,.int .i64 0] 38)):=by go_grown
 have pR:Blk (w.alloc (.cells #[.int .i64 0,.int .i64 0,.int .i64 0,.int .i64 0] 38)) w.heap.size 38 [.int .i64 0,.int .i64 0,.int .i64 0,.int .i64 0]:=blkAt _ _ _ rfl
 replace e0:=cells_kept bw _ _ e0
 replace e1:=cells_kept bw _ _ e1
 replace q0:=cells_kept bw _ _ q0
 replace q1:=cells_kept bw _ _ q1
 replace q2:=cells_kept bw _ _ q2
 go_enter Tryz.func56,Tryz.ntmps56
 go_wp2_with fail
 have hX9:w.heap.size<(w.alloc (.cells #[.int .i64 0,.int .i64 0,.int .i64 0,.int .i64 0] 38)).heap.size:=pR.lt
 generalize (w.alloc (.cells #[.int .i64 0,.int .i64 0,.int .i64 0,.int .i64 0] 38))=W at *
 refine wp_region_held_drew (S:=(fun w'=>w'.cell? ⟨g,k*4,none⟩=some (.slice (some ⟨b,off,none⟩) n c)∧w'.cell? ⟨g,k*4+1,none⟩=some (.int .i64 p)∧w'.cell? ⟨b,off+p*3,none⟩=some (.int .i64 x0)∧w'.cell? ⟨b,off+p*3+1,none⟩=some (.int .i64 x1)∧w'.cell? ⟨b,off+p*3+2,none⟩=some (.int .i64 x2))) (by kernel_rfl) ⟨e0,e1,q0,q1,q2⟩ (fun hS0=>?_)
 refine tkm 0 12 (.pointer (some ⟨g,k*4,none⟩)) ?_
 refine tkm 1 13 (.pointer (some ⟨g,k*4,none⟩)) ?_
 refine tkm 2 14 (.pointer (some ⟨g,k*4,none⟩)) ?_
 refine tkm 3 15 (.slice (some ⟨b,off,none⟩) n c) ?_
 refine tkm 4 16 (.pointer (some ⟨g,k*4,none⟩)) ?_
 refine tkm 5 17 (.pointer (some ⟨g,k*4,none⟩)) ?_
 refine tkm 6 18 (.pointer (some ⟨g,k*4+1,none⟩)) ?_
 refine tkm 7 19 (.int .i64 p) ?_
 refine tkm 8 20 (.pointer (some ⟨b,off+p*3,none⟩)) ?_
 refine tkm 9 21 (.agg #[.int .i64 x0,.int .i64 x1,.int .i64 x2]) ?_
 refine tkr 10 6 (fun K hK=>?_)
 have hal:Below W.drew.heap.size W.drew (W.drew.alloc (.cells #[.int .i64 0,.int .i64 0,.int .i64 0] 159)):=by go_grown
 go_simp
 refine hK.out _ _ ?_ (fun hS1=>?_)
 ·exact ⟨cells_kept hal _ _ hS0.1,cells_kept hal _ _ hS0.2.1,cells_kept hal _ _ hS0.2.2.1,cells_kept hal _ _ hS0.2.2.2.1,cells_kept hal _ _ hS0.2.2.2.2⟩
 clear hK
 try simp only [Act.put,tka,tkb,tkc]
 refine tkz 11 (fun K hK=>?_)
 have hal2:Below W.drew.heap.size W.drew (W.drew.alloc (.cells #[.int .i64 x0,.int .i64 x1,.int .i64 x2] 159)):=by go_grown
 go_simp
 refine hK.out _ _ ?_ (fun hS2=>?_)
 ·exact ⟨cells_kept hal2 _ _ hS0.1,cells_kept hal2 _ _ hS0.2.1,cells_kept hal2 _ _ hS0.2.2.1,cells_kept hal2 _ _ hS0.2.2.2.1,cells_kept hal2 _ _ hS0.2.2.2.2⟩
 clear hK
 try simp only [Act.put,tka,tkb,tkc]
 refine wpAnyH_done (by kernel_rfl) ?_ _
 have hb:Below W.heap.size W (W.alloc (.cells #[.int .i64 x0,.int .i64 x1,.int .i64 x2] 159)).drew:=by go_grown
 have pX:Blk (W.alloc (.cells #[.int .i64 x0,.int .i64 x1,.int .i64 x2] 159)).drew W.heap.size 159 [.int .i64 x0,.int .i64 x1,.int .i64 x2]:=blkAt _ _ _ rfl
 replace bw:=bel_trans bw hb
 replace pR:=pR.below hb
 replace e1:=cells_kept hb _ _ e1
 skip
 clear hal hal2 hS0 hS1 hS2 e0 q0 q1 q2 hb
 go_wp2_with fail
 generalize (W.alloc (.cells #[.int .i64 x0,.int .i64 x1,.int .i64 x2] 159)).drew=V at *
 generalize W.heap.size=X at *
 have c0:=pX.cell 0
 have c1:=pX.cell 1
 have c2:=pX.cell 2
 simp only [List.getElem?_cons_zero,List.getElem?_cons_succ] at c0 c1 c2
 have hdr:Below V.heap.size V V.drew:=by go_grown
 refine wp_region_held_drew (S:=(fun w'=>w'.cell? ⟨g,k*4+1,none⟩=some (.int .i64 p)∧w'.cell? ⟨X,0,none⟩=some (.int .i64 x0)∧w'.cell? ⟨X,1,none⟩=some (.int .i64 x1)∧w'.cell? ⟨X,2,none⟩=some (.int .i64 x2))) (by kernel_rfl) ⟨e1,c0,c1,c2⟩ (fun hS0=>?_)
 refine tkm 0 22 (.int .i64 (k:Int)) ?_
 refine tkm 1 23 (.pointer (some ⟨g,k*4,none⟩)) ?_
 refine tkm 2 24 (.pointer (some ⟨g,k*4,none⟩)) ?_
 refine tkm 3 25 (.pointer (some ⟨g,k*4+1,none⟩)) ?_
 refine tkm 4 26 (.int .i64 p) ?_
 refine tkm 5 27 (.pointer (some ⟨X,0,none⟩)) ?_
 refine tkm 6 28 (.int .i64 x0) ?_
 refine tkm 7 29 (.agg #[.int .i64 x0,.int .i64 x1,.int .i64 x2]) ?_
 refine tkr 8 30 (fun K hK=>?_)
 go_simp
 refine (kO _).mono ?_
 rintro e U ⟨rfl,hb8⟩
 go_wp2_with fail
 refine hK.out _ _ ?_ (fun hS1=>?_)
 ·exact ⟨cells_kept hb8 _ _ hS0.1,cells_kept hb8 _ _ hS0.2.1,cells_kept hb8 _ _ hS0.2.2.1,cells_kept hb8 _ _ hS0.2.2.2⟩
 clear hK
 refine tkm 9 31 (.agg #[.int .i64 (k:Int),.int .i64 p,.int .i64 x0,.int .i64 ob]) ?_
 replace pR:=pR.below (bel_trans hdr hb8)
 replace bw:=bel_trans bw (bel_trans hdr hb8)
 refine tkz 10 (fun K hK=>?_)
 refine step_store_blkD rfl 38 _ _ rfl w.heap.size [.int .i64 (k:Int),.int .i64 p,.int .i64 x0,.int .i64 ob] rfl rfl pR (by kernel_rfl) rfl rfl ?_
 intro U2 pR2 g2
 have bz:=bw.grown g2 bw.size (fun j hj=>by cases hj;omega)
 have n1:(some g:Option Nat)≠some w.heap.size:=by simp;omega
 have n2:(some X:Option Nat)≠some w.heap.size:=by simp;omega
 refine hK.out _ _ ⟨cell_grownB g2 hS1.1 n1,cell_grownB g2 hS1.2.1 n2,cell_grownB g2 hS1.2.2.1 n2,cell_grownB g2 hS1.2.2.2 n2⟩ (fun hS2=>?_)
 clear hK
 try simp only [Act.put,tka,tkb,tkc]
 refine wpAnyH_done (by kernel_rfl) ?_ _
 clear hS0 hS1 hS2 n1 n2 g2 bw pR hdr hb8 kO c0 c1 c2 e1 pX
 go_wp2_with fail
 refine bodyPost_ret (results_blk1 Tryz.results56 _ _ _ _ _ _ rfl pR2.out Tryz.underlying38 rfl (by kernel_rfl)) rfl ?_
 exact ⟨rfl,bz⟩

theorem okI_mid {x:I3} (h:okI x=true):-1000≤x.2.1∧x.2.1≤1000:=by
 rcases okI_parts h with ⟨a,q,rfl,ha,hq⟩ | ⟨q,a,rfl,hq,ha⟩ | ⟨a,z,rfl,ha⟩ | ⟨a,z,rfl,ha,hz⟩ | ⟨a,z,rfl,ha⟩ | ⟨a,z,rfl,ha⟩ | ⟨a,z,rfl,ha,hz⟩ | ⟨a,z,rfl,ha⟩<;>(simp only;omega)
theorem event_is {w:World} {g:Nat} {cs:Sl × Sl × Sl} {rows:List (List I3)} {m:V4} (h:MachAt w g cs rows m) (hp:progOk rows=true) (hs:shapeOk m=true) {k:Nat} (hk:k<3) (hd:doneM rows m k=false) :
  Calls Tryz.prog 56 #[.pointer (some ⟨g,0,none⟩),.int .i64 k] w fun e w'=>e=.returned (.agg #[.int .i64 (eventM rows m k).1,.int .i64 (eventM rows m k).2.1,.int .i64 (eventM rows m k).2.2.1,.int .i64 (eventM rows m k).2.2.2])∧Below w.heap.size w w':=by
 obtain ⟨p,ep,hlt,hi,hok⟩:=at_ins hp hs hk hd
 have hl6:=(codeM_len hp hk).1
 have e0:=h.code hk
 have e1:=h.pc hk
 rw [ep] at e1
 obtain ⟨b,off,ea,hpn,q0,q1,q2⟩:=ins_at (h.2 k hk) hlt
 rw [← hi] at q0 q1 q2
 rw [ea] at e0
 have hm:=okI_mid hok
 unfold eventM
 rw [ep]
 generalize insM rows m k=x at *
 obtain ⟨x0,x1,x2⟩:=x
 exact event_raw g k p b off _ _ x0 x1 x2 w hk hpn (by omega) hm e0 e1 q0 q1 q2


def pcC (m:V4) (x:I3) (k:Nat):Int:=if x.1=7∧m.2.2.2.getD (k*2+x.2.1.toNat) 0≠0 then x.2.2 else m.1.getD k 0+1
def shC (m:V4) (x:I3) (k:Nat):List Int:=if x.1=2 then m.2.1.set x.2.1.toNat (m.2.2.2.getD (k*2+x.2.2.toNat) 0) else m.2.1
def lkC (m:V4) (x:I3) (k:Nat):List Int:=if x.1=5 then m.2.2.1.set x.2.1.toNat (k+1) else if x.1=6∧m.2.2.1.getD x.2.1.toNat 0=k+1 then m.2.2.1.set x.2.1.toNat 0 else m.2.2.1
def rgC (m:V4) (x:I3) (k:Nat):List Int:=if x.1=1 then m.2.2.2.set (k*2+x.2.1.toNat) (m.2.1.getD x.2.2.toNat 0) else if x.1=3 then m.2.2.2.set (k*2+x.2.1.toNat) x.2.2 else if x.1=4 then m.2.2.2.set (k*2+x.2.1.toNat) ((m.2.2.2.getD (k*2+x.2.1.toNat) 0+x.2.2) % 10) else m.2.2.2
theorem step_parts (m:V4) (x:I3) (k:Nat):(stepM m x k).1=(m.1.set k (pcC m x k),shC m x k,lkC m x k,rgC m x k):=by
 unfold stepM pcC shC lkC rgC
 rcases op_cases x with h | h | h | h | h | h | h | h | ⟨h1,h2,h3,h4,h5,h6,h7,h8⟩
 ·simp [h]
 ·simp [h]
 ·simp [h]
 ·simp [h]
 ·simp [h]
 ·simp [h];split<;>simp
 ·simp [h];split<;>simp_all
 ·simp [h];split<;>simp
 ·simp [h1,h2,h3,h4,h5,h6,h7];split<;>simp
theorem reg_own {k l:Nat} (h:k≠l) {a b:Int} (ha:0≤a∧a≤1) (hb:0≤b∧b≤1):k*2+a.toNat≠l*2+b.toNat:=by omega
theorem ok_bounds {x:I3} (h:okI x=true):(x.1≠2→0≤x.2.1∧x.2.1≤1)∧(x.1=1→0≤x.2.2∧x.2.2≤3)∧(x.1=2→(0≤x.2.1∧x.2.1≤3)∧0≤x.2.2∧x.2.2≤1):=by
 unfold okI at h
 simp only [inB,Bool.and_eq_true,decide_eq_true_eq] at h
 repeat' split at h
 all_goals simp_all
def clashI (x y:I3):Prop:=0≤objM x∧objM x=objM y∧¬ (x.1=1∧y.1=1)
theorem reg_kept {m:V4} {y:I3} {k l:Nat} (h:k≠l) (hy:okI y=true) {a:Int} (ha:0≤a∧a≤1):(rgC m y l).getD (k*2+a.toNat) 0=m.2.2.2.getD (k*2+a.toNat) 0:=by
 have hb:=ok_bounds hy
 unfold rgC
 repeat' split
 all_goals first
  | rfl
  | (refine getD_set_ne (reg_own h ha (hb.1 ?_));omega)
theorem sh_kept {m:V4} {x y:I3} {l:Nat} (hx:okI x=true) (hy:okI y=true) (hc:¬ clashI x y) (h1:x.1=1):(shC m y l).getD x.2.2.toNat 0=m.2.1.getD x.2.2.toNat 0:=by
 have ha:=ok_bounds hx
 have hb:=ok_bounds hy
 unfold shC
 split
 ·rename_i h2
  refine getD_set_ne (fun e=>hc ?_)
  have:=ha.2.1 h1
  have:=(hb.2.2 h2).1
  unfold clashI objM
  simp [h1,h2]
  omega
 ·rfl
theorem lk_kept {m:V4} {x y:I3} {l:Nat} (hx:okI x=true) (hy:okI y=true) (hc:¬ clashI x y) (h1:x.1=5∨x.1=6):(lkC m y l).getD x.2.1.toNat 0=m.2.2.1.getD x.2.1.toNat 0:=by
 have ha:=(ok_bounds hx).1
 have hb:=(ok_bounds hy).1
 have key:y.1=5∨y.1=6→x.2.1.toNat≠y.2.1.toNat:=fun h2 e=>hc (by
  have h3:=ha (by omega)
  have h4:=hb (by omega)
  have hxo:objM x=4+x.2.1:=by unfold objM;rw [if_neg (by omega),if_neg (by omega),if_pos h1]
  have hyo:objM y=4+y.2.1:=by unfold objM;rw [if_neg (by omega),if_neg (by omega),if_pos h2]
  refine ⟨by omega,by rw [hxo,hyo];omega,by omega⟩)
 unfold lkC
 repeat' split
 ·exact getD_set_ne (key (by omega))
 ·exact getD_set_ne (key (by omega))
 ·rfl
theorem clash_symm {x y:I3} (h:¬ clashI x y):¬ clashI y x:=fun ⟨a,b,c⟩=>h ⟨by omega,b.symm,fun e=>c ⟨e.2,e.1⟩⟩
theorem pcC_kept {m:V4} {x y:I3} {k l:Nat} (h:k≠l) (hx:okI x=true) (hy:okI y=true):pcC (stepM m y l).1 x k=pcC m x k:=by
 rw [step_parts]
 have ha:=ok_bounds hx
 unfold pcC
 simp only
 rw [getD_set_ne h]
 by_cases h7:x.1=7
 ·rw [reg_kept h hy (ha.1 (by omega))]
 ·simp [h7]
def putO (u:Option Int) (R:List Int) (i:Nat):List Int:=match u with | none=>R | some z=>R.set i z
theorem step_commute {m:V4} {x y:I3} {k l:Nat} (h:k≠l) (hx:okI x=true) (hy:okI y=true) (hc:¬ clashI x y):(stepM (stepM m x k).1 y l).1=(stepM (stepM m y l).1 x k).1:=by
 have hc':=clash_symm hc
 have bx:=ok_bounds hx
 have by':=ok_bounds hy
 have p1:=pcC_kept (m:=m) h hx hy
 have p2:=pcC_kept (m:=m) (Ne.symm h) hy hx
 rw [step_parts (stepM m x k).1,step_parts (stepM m y l).1,p1,p2]
 have e1:(stepM m x k).1.1=m.1.set k (pcC m x k):=by rw [step_parts]
 have e2:(stepM m y l).1.1=m.1.set l (pcC m y l):=by rw [step_parts]
 have hsx:(stepM m x k).1.2.1=shC m x k:=by rw [step_parts]
 have hsy:(stepM m y l).1.2.1=shC m y l:=by rw [step_parts]
 have hlx:(stepM m x k).1.2.2.1=lkC m x k:=by rw [step_parts]
 have hly:(stepM m y l).1.2.2.1=lkC m y l:=by rw [step_parts]
 have hrx:(stepM m x k).1.2.2.2=rgC m x k:=by rw [step_parts]
 have hry:(stepM m y l).1.2.2.2=rgC m y l:=by rw [step_parts]
 refine Prod.ext ?_ (Prod.ext ?_ (Prod.ext ?_ ?_))
 ·simp only
  rw [e1,e2,List.set_comm _ _ h]
 ·simp only
  unfold shC
  rw [hsx,hsy,hrx,hry]
  by_cases x2:x.1=2
  ·have rx:=reg_kept (m:=m) (y:=y) h hy (bx.2.2 x2).2
   by_cases y2:y.1=2
   ·have ry:=reg_kept (m:=m) (y:=x) (Ne.symm h) hx (by'.2.2 y2).2
    have hne:x.2.1.toNat≠y.2.1.toNat:=fun e=>hc (by
     have:=(bx.2.2 x2).1
     have:=(by'.2.2 y2).1
     unfold clashI objM
     simp [x2,y2]
     omega)
    rw [if_pos y2,if_pos x2,rx,ry]
    unfold shC
    rw [if_pos x2,if_pos y2,List.set_comm _ _ hne]
   ·rw [if_neg y2,if_pos x2,rx]
    unfold shC
    rw [if_pos x2,if_neg y2]
  ·by_cases y2:y.1=2
   ·have ry:=reg_kept (m:=m) (y:=x) (Ne.symm h) hx (by'.2.2 y2).2
    rw [if_pos y2,if_neg x2,ry]
    unfold shC
    rw [if_neg x2,if_pos y2]
   ·rw [if_neg y2,if_neg x2]
    unfold shC
    rw [if_neg x2,if_neg y2]
 ·simp only
  have kx:(x.1=5∨x.1=6)→(lkC m y l).getD x.2.1.toNat 0=m.2.2.1.getD x.2.1.toNat 0:=fun g=>lk_kept hx hy hc g
  have ky:(y.1=5∨y.1=6)→(lkC m x k).getD y.2.1.toNat 0=m.2.2.1.getD y.2.1.toNat 0:=fun g=>lk_kept hy hx hc' g
  have hne:(x.1=5∨x.1=6)→(y.1=5∨y.1=6)→x.2.1.toNat≠y.2.1.toNat:=fun h1 h2 e=>hc (by
   have h3:=bx.1 (by omega)
   have h4:=by'.1 (by omega)
   have hxo:objM x=4+x.2.1:=by unfold objM;rw [if_neg (by omega),if_neg (by omega),if_pos h1]
   have hyo:objM y=4+y.2.1:=by unfold objM;rw [if_neg (by omega),if_neg (by omega),if_pos h2]
   exact ⟨by omega,by rw [hxo,hyo];omega,by omega⟩)
  have ex:∀ L:List Int,(x.1=5∨x.1=6→L.getD x.2.1.toNat 0=m.2.2.1.getD x.2.1.toNat 0)→(if x.1=5 then L.set x.2.1.toNat ((k:Int)+1) else if x.1=6∧L.getD x.2.1.toNat 0=(k:Int)+1 then L.set x.2.1.toNat 0 else L)=(if x.1=5 then L.set x.2.1.toNat ((k:Int)+1) else if x.1=6∧m.2.2.1.getD x.2.1.toNat 0=(k:Int)+1 then L.set x.2.1.toNat 0 else L):=fun L g=>by
   by_cases a6:x.1=6
   ·rw [g (.inr a6)]
   ·simp [a6]
  have ey:∀ L:List Int,(y.1=5∨y.1=6→L.getD y.2.1.toNat 0=m.2.2.1.getD y.2.1.toNat 0)→(if y.1=5 then L.set y.2.1.toNat ((l:Int)+1) else if y.1=6∧L.getD y.2.1.toNat 0=(l:Int)+1 then L.set y.2.1.toNat 0 else L)=(if y.1=5 then L.set y.2.1.toNat ((l:Int)+1) else if y.1=6∧m.2.2.1.getD y.2.1.toNat 0=(l:Int)+1 then L.set y.2.1.toNat 0 else L):=fun L g=>by
   by_cases a6:y.1=6
   ·rw [g (.inr a6)]
   ·simp [a6]
  unfold lkC
  rw [hlx,hly,ey _ ky,ex _ kx]
  unfold lkC
  by_cases x5:x.1=5
  ·by_cases y5:y.1=5
   ·simp only [x5,y5,if_true]
    exact List.set_comm _ _ (hne (.inl x5) (.inl y5))
   ·by_cases y6:y.1=6∧m.2.2.1.getD y.2.1.toNat 0=(l:Int)+1
    ·simp only [if_pos x5,if_neg y5,if_pos y6]
     exact List.set_comm _ _ (hne (.inl x5) (.inr y6.1))
    ·simp only [if_pos x5,if_neg y5,if_neg y6]
  ·by_cases x6:x.1=6∧m.2.2.1.getD x.2.1.toNat 0=(k:Int)+1
   ·by_cases y5:y.1=5
    ·simp only [if_neg x5,if_pos x6,if_pos y5]
     exact List.set_comm _ _ (hne (.inr x6.1) (.inl y5))
    ·by_cases y6:y.1=6∧m.2.2.1.getD y.2.1.toNat 0=(l:Int)+1
     ·simp only [if_neg x5,if_pos x6,if_neg y5,if_pos y6]
      exact List.set_comm _ _ (hne (.inr x6.1) (.inr y6.1))
     ·simp only [if_neg x5,if_pos x6,if_neg y5,if_neg y6]
   ·simp only [if_neg x5,if_neg x6]
 ·simp only
  have sx:x.1=1→(shC m y l).getD x.2.2.toNat 0=m.2.1.getD x.2.2.toNat 0:=fun g=>sh_kept hx hy hc g
  have sy:y.1=1→(shC m x k).getD y.2.2.toNat 0=m.2.1.getD y.2.2.toNat 0:=fun g=>sh_kept hy hx hc' g
  have rx:x.1=4→(rgC m y l).getD (k*2+x.2.1.toNat) 0=m.2.2.2.getD (k*2+x.2.1.toNat) 0:=fun g=>reg_kept h hy (bx.1 (by omega))
  have ry:y.1=4→(rgC m x k).getD (l*2+y.2.1.toNat) 0=m.2.2.2.getD (l*2+y.2.1.toNat) 0:=fun g=>reg_kept (Ne.symm h) hx (by'.1 (by omega))
  have hne:x.1≠2→y.1≠2→k*2+x.2.1.toNat≠l*2+y.2.1.toNat:=fun a b=>reg_own h (bx.1 a) (by'.1 b)
  obtain ⟨u,hu⟩:∃ u:Option Int,∀ (S R:List Int),(x.1=1→S.getD x.2.2.toNat 0=m.2.1.getD x.2.2.toNat 0)→(x.1=4→R.getD (k*2+x.2.1.toNat) 0=m.2.2.2.getD (k*2+x.2.1.toNat) 0)→(if x.1=1 then R.set (k*2+x.2.1.toNat) (S.getD x.2.2.toNat 0) else if x.1=3 then R.set (k*2+x.2.1.toNat) x.2.2 else if x.1=4 then R.set (k*2+x.2.1.toNat) ((R.getD (k*2+x.2.1.toNat) 0+x.2.2) % 10) else R)=putO u (R) (k*2+x.2.1.toNat)∧(u≠none→x.1≠2):=by
   by_cases a1:x.1=1
   ·exact ⟨some (m.2.1.getD x.2.2.toNat 0),fun S R g1 g4=>⟨by rw [if_pos a1,g1 a1];rfl,fun _=>by omega⟩⟩
   ·by_cases a3:x.1=3
    ·exact ⟨some x.2.2,fun S R g1 g4=>⟨by rw [if_neg a1,if_pos a3];rfl,fun _=>by omega⟩⟩
    ·by_cases a4:x.1=4
     ·exact ⟨some ((m.2.2.2.getD (k*2+x.2.1.toNat) 0+x.2.2) % 10),fun S R g1 g4=>⟨by rw [if_neg a1,if_neg a3,if_pos a4,g4 a4];rfl,fun _=>by omega⟩⟩
     ·exact ⟨none,fun S R g1 g4=>⟨by rw [if_neg a1,if_neg a3,if_neg a4];rfl,fun g=>absurd rfl g⟩⟩
  obtain ⟨v,hv⟩:∃ v:Option Int,∀ (S R:List Int),(y.1=1→S.getD y.2.2.toNat 0=m.2.1.getD y.2.2.toNat 0)→(y.1=4→R.getD (l*2+y.2.1.toNat) 0=m.2.2.2.getD (l*2+y.2.1.toNat) 0)→(if y.1=1 then R.set (l*2+y.2.1.toNat) (S.getD y.2.2.toNat 0) else if y.1=3 then R.set (l*2+y.2.1.toNat) y.2.2 else if y.1=4 then R.set (l*2+y.2.1.toNat) ((R.getD (l*2+y.2.1.toNat) 0+y.2.2) % 10) else R)=putO v (R) (l*2+y.2.1.toNat)∧(v≠none→y.1≠2):=by
   by_cases a1:y.1=1
   ·exact ⟨some (m.2.1.getD y.2.2.toNat 0),fun S R g1 g4=>⟨by rw [if_pos a1,g1 a1];rfl,fun _=>by omega⟩⟩
   ·by_cases a3:y.1=3
    ·exact ⟨some y.2.2,fun S R g1 g4=>⟨by rw [if_neg a1,if_pos a3];rfl,fun _=>by omega⟩⟩
    ·by_cases a4:y.1=4
     ·exact ⟨some ((m.2.2.2.getD (l*2+y.2.1.toNat) 0+y.2.2) % 10),fun S R g1 g4=>⟨by rw [if_neg a1,if_neg a3,if_pos a4,g4 a4];rfl,fun _=>by omega⟩⟩
     ·exact ⟨none,fun S R g1 g4=>⟨by rw [if_neg a1,if_neg a3,if_neg a4];rfl,fun g=>absurd rfl g⟩⟩
  have f1:=hv (shC m x k) (rgC m x k) sy ry
  have f2:=hu (shC m y l) (rgC m y l) sx rx
  have f3:=hu m.2.1 m.2.2.2 (fun _=>rfl) (fun _=>rfl)
  have f4:=hv m.2.1 m.2.2.2 (fun _=>rfl) (fun _=>rfl)
  have g3:rgC m x k=putO u (m.2.2.2) (k*2+x.2.1.toNat):=f3.1
  have g4:rgC m y l=putO v (m.2.2.2) (l*2+y.2.1.toNat):=f4.1
  have g1:rgC (stepM m x k).1 y l=putO v (rgC m x k) (l*2+y.2.1.toNat):=by
   rw [← f1.1]
   show rgC (stepM m x k).1 y l=_
   unfold rgC
   rw [hsx,hrx]
   rfl
  have g2:rgC (stepM m y l).1 x k=putO u (rgC m y l) (k*2+x.2.1.toNat):=by
   rw [← f2.1]
   show rgC (stepM m y l).1 x k=_
   unfold rgC
   rw [hsy,hry]
   rfl
  rw [g1,g2,g3,g4]
  cases u with
  | none=>cases v<;>rfl
  | some a =>
   cases v with
   | none=>rfl
   | some b=>exact List.set_comm _ _ (hne (f3.2 (by simp)) (f4.2 (by simp)))
end Go.Proofs.YtifoggpohlegmaaGreatDoor
