/-
  Joined: SmlW.
-/
import Derived.Deep.LoopGhost
import Derived.Test.YtgmhhegckcionaaGreatDoorF43

namespace Go.Proofs.YtgmhhegckcionaaGreatDoor
set_option maxRecDepth 100000
set_option maxHeartbeats 16000000
open Go.RowKit
set_option linter.unusedVariables false
set_option linter.unusedSimpArgs false

theorem SZ {P:Program} {ops:Array Oper} {o:Oper} {a:Act} {w:World} {K:Act→World→Prop} {Q:Exit→Act→World→Prop} {E:Prop}
  (hg:o.guard=none) (s x:Operand) (t:TypeId) (hop:o.op=Op.call { callee:=Callee.builtin Builtin.append,args:=#[s,x],argTypes:=#[t,t] })
  (base:Nat) (e:TypeId) (i:TypeInfo) (size:Nat) (h1:P.underlying t=some (.slice e)) (h2:P.info? e=some i)
  (v:Value) (n:Nat) (olds:List Value) (hs:a.eval s=v) (hown:w.ownsRow base e size v n olds) (hx:a.eval x=.slice none 0 0)
  (hK:K (a.put o.dst v) w):if Region.wanted o (yielded ops a.tmps)=true then Oper.wp P o a w K Q else E:=by
 have hw:Region.wanted o (yielded ops a.tmps)=true:=by simp [Region.wanted,hg]
 rw [if_pos hw]
 have hrun:=run_append_owned_none (P:=P) (w:=w) base t o.type e i size h1 h2 v n olds hown
 subst hs
 unfold Oper.wp
 simp [execOp,hop,resolve,invoke,builtin,hx,hrun,Result.andThen]
 exact hK
def Bd (p:Nat) (w W:World) (X g c k:Nat) (rows:List (List I3)) (r:List I3):Prop:=∃ (vs:List Value) (N c2:Nat),vs.getD k undef=.slice (some ⟨N,0,none⟩) (smN r) c2∧Ye W (w.heap.size+1) g c vs ((smK rows k).set k (smJ r 0))∧Blk W X 25 [.slice (some ⟨g,0,none⟩) 3 c]∧Blk W w.heap.size 25 [.slice none 0 0]∧Below p w W

theorem FE {p X g c k N c2:Nat} {w Y0 Y2:World} {vs:List Value} {rows:List (List I3)} {r:List I3} (hP:Ye Y0 (w.heap.size+1) g c vs (smK rows k)) (pX:Blk Y0 X 25 [.slice (some ⟨g,0,none⟩) 3 c]) (pR:Blk Y0 w.heap.size 25 [.slice none 0 0]) (bw:Below p w Y0) (bY:Below Y0.heap.size Y0 Y2)
  (q2:Y2.ownsRow (w.heap.size+1) 122 3 (.slice (some ⟨N,0,none⟩) (smN r) c2) (smN r) (Zn (r.take 2))) (hNg:Y0.heap.size≤N) (hlt:k<3) (hvl:vs.length=3) (hpw:p≤w.heap.size) :
  (Ye Y2 (w.heap.size+1) g c vs (smK rows k)∧Blk Y2 X 25 [.slice (some ⟨g,0,none⟩) 3 c])∧Blk (Y2.setCell ⟨g,k,none⟩ (.slice (some ⟨N,0,none⟩) (smN r) c2)) X 25 [.slice (some ⟨g,0,none⟩) 3 c]∧Bd p w (Y2.setCell ⟨g,k,none⟩ (.slice (some ⟨N,0,none⟩) (smN r) c2)) X g c k rows r:=by
 have hXg:X≠g:=fun e=>WE hP.1 pX (by decide) (by simp [Value.ownBlock,e])
 have hRg:w.heap.size≠g:=fun e=>WE hP.1 pR (by decide) (by simp [Value.ownBlock,e])
 have hBg:w.heap.size+1≤g:=(hP.1.lt g rfl).1
 have hap:=fun t (ht:t<3)=>hP.apart hNg ht
 have hP2:=hP.below bY
 have pX2:=pX.below bY
 have pR2:=pR.below bY
 have bw2:=bw.trans (bY.mono (by have:=pR.lt;omega))
 have hP3:=hP2.lay hlt (nv:=.slice (some ⟨N,0,none⟩) (smN r) c2) (xs:=r.take 2) q2 (fun t ht=>hap t ht)
 have g3:=(hP2.1.stored k (.slice (some ⟨N,0,none⟩) (smN r) c2)).2
 have pX3:=pX2.kept g3 (by simp;omega)
 have pR3:=pR2.kept g3 (by simp;omega)
 have bw3:=bw2.grown g3 (by have:=bw2.size;omega) (fun x hx=>by cases hx;omega)
 have hv3:(vs.set k (.slice (some ⟨N,0,none⟩) (smN r) c2)).getD k undef=.slice (some ⟨N,0,none⟩) (smN r) c2:=by rw [XI,if_pos ⟨rfl,by omega⟩]
 rw [← F9] at hP3
 exact ⟨⟨hP2,pX2⟩,pX3,_,N,c2,hv3,hP3,pX3,pR3,bw3⟩
theorem Rs (p:Nat) (a:Option Addr) (n cap:Nat) (w:World) (hS:Src w p (.slice a n cap) 0) (hC:TO w p a n cap) :
  Calls Tryz.prog 24 #[.pointer (some ⟨p,0,none⟩)] w fun e w'=>(∃ (v:Value) (rows:List (List I3)),Vs rows∧e=.returned (.agg #[v])∧Xb w' w.heap.size v rows)∧Below p w w':=by
 obtain ⟨i0,hi,hz0,hz1,hz2⟩:=info_parts QA
 have hpl:=hS.lt
 have pR:Blk (w.alloc (.cells #[.slice none 0 0] 25)) w.heap.size 25 [.slice none 0 0]:=Zj _ _ _ rfl
 have bw:Below p w (w.alloc (.cells #[.slice none 0 0] 25)):=(YG.refl p w).alloc _ |>.below (Nat.le_of_lt hpl)
 replace hC:=hC.below bw
 replace hS:=hS.alloc (.cells #[.slice none 0 0] 25)
 have hpB:(w.alloc (.cells #[.slice none 0 0] 25)).heap.size=w.heap.size+1:=by simp
 go_enter Tryz.func24,Tryz.ntmps24
 go_wp2_with fail
 generalize (w.alloc (.cells #[.slice none 0 0] 25))=W0 at *
 refine (Px p a n cap _ hS hC).mono ?_
 rintro e w1 ⟨⟨v,rows,hok,rfl,hOP⟩,hb1⟩
 have HOK:Hid (Vs rows):=hok
 have h3:=(Xo hok.1).1
 obtain ⟨g,c,vs,rfl,hP⟩:=Ye.of hOP h3
 clear hok hOP hS hC
 rw [hpB] at hP
 replace pR:=pR.kept hb1 (by simp;omega)
 replace bw:=bw.trans (hb1.below (by omega))
 have hRl:=pR.lt
 clear hb1 hpB
 have ha:Below w1.heap.size w1 (w1.alloc (.cells #[.slice (some ⟨g,0,none⟩) 3 c] 25)):=by go_grown
 have pX:Blk (w1.alloc (.cells #[.slice (some ⟨g,0,none⟩) 3 c] 25)) w1.heap.size 25 [.slice (some ⟨g,0,none⟩) 3 c]:=Zj _ _ _ rfl
 replace hP:=hP.below ha
 replace pR:=pR.below ha
 replace bw:=bw.trans (ha.mono (by omega))
 clear ha
 go_wp2_with fail
 generalize (w1.alloc (.cells #[.slice (some ⟨g,0,none⟩) 3 c] 25))=W1 at *
 generalize w1.heap.size=X at *
 rw [← Db rows] at hP
 have H3:Hid (rows.length=3):=h3
 clear h3
 go_loopg [4] 3 (fun gg s4 wr=>∃ (k:Nat) (vs:List Value),k≤3∧3 - k≤gg∧s4=.int .i64 k∧Ye wr (w.heap.size+1) g c vs (smK rows k)∧Blk wr X 25 [.slice (some ⟨g,0,none⟩) 3 c]∧Blk wr w.heap.size 25 [.slice none 0 0]∧Below p w wr)
 case atStart=>exact ⟨0,vs,by omega,by omega,rfl,hP,pX,pR,bw⟩
 case round =>
  clear hP pX pR bw vs
  obtain ⟨k,vs,hk,hgg,rfl,hP,pX,pR,bw⟩:=hrel
  by_cases hlt:k<3
  ·have hlt':(k:Int)<3:=by omega
   have hk0:(0:Int)≤(k:Int):=by omega
   have cX:wr.cell? ⟨X,0,none⟩=some (.slice (some ⟨g,0,none⟩) 3 c):=by simpa using pX.cell 0
   have cK:=hP.cell hlt
   have hrow:=hP.2.1.2.1 k (by rw [Mo];have:=H3.out;omega)
   rw [C7 (by have:=H3.out;omega)] at hrow
   obtain ⟨r,hr⟩:∃ r,r=rows.getD k []:=⟨_,rfl⟩
   rw [← hr] at hrow
   have HR:Hid (r=rows.getD k []):=hr
   clear hr
   have hvl:vs.length=3:=by rw [hP.2.1.1,Mo];exact H3.out
   generalize hvk:vs.getD k undef=vk at *
   go_wp2_with fail
   go_cut [] from 8 to 64 (fun W=>Bd p w W X g c k rows r)
   case first =>
    rcases hrow.2 with ⟨rfl,h0⟩ | ⟨b,cc,cur,rfl,_,_,hncc,_⟩
    focus
     have hsm:smN r=0:=by rw [Tr];omega
     have htk:r.take 2=[]:=List.eq_nil_of_length_eq_zero hsm
     refine wp_region_held_drew (S:=(fun w'=>w'.cell? ⟨X,0,none⟩=some (.slice (some ⟨g,0,none⟩) 3 c))) (by kernel_rfl) cX (fun hS0=>?_)
     refine tkm 0 12 (.pointer (some ⟨X,0,none⟩)) ?_
     refine tkm 1 13 (.slice (some ⟨g,0,none⟩) 3 c) ?_
     refine tkm 2 14 (.int .i64 (k:Int)) ?_
     refine tkm 4 16 (.pointer (some ⟨X,0,none⟩)) ?_
     refine tkm 5 17 (.slice (some ⟨g,0,none⟩) 3 c) ?_
     refine tkm 6 18 (.int .i64 (k:Int)) ?_
     refine tkm 7 19 (.pointer (some ⟨g,k,none⟩)) ?_
     refine tkm 9 21 (.pointer (some ⟨X,0,none⟩)) ?_
     refine tkm 10 22 (.slice (some ⟨g,0,none⟩) 3 c) ?_
     refine tkm 11 23 (.int .i64 (k:Int)) ?_
     refine tkm 12 24 (.pointer (some ⟨g,k,none⟩)) ?_
     have hdr:Below wr.heap.size wr wr.drew:=by go_grown
     replace bw:=bw.trans (hdr.mono (by have:=pR.lt;omega))
     replace hP:=hP.below hdr
     replace pX:=pX.below hdr
     replace pR:=pR.below hdr
     replace hrow:=Zs hrow hdr
     clear hdr
     generalize wr.drew=Y0 at *
     have hal:Below Y0.heap.size Y0 (Y0.alloc (.cells #[] 122)):=by go_grown
     have q:=Y4 Y0 122 3 (w.heap.size+1) (by have:=pR.lt;omega)
     have hsz:Y0.heap.size<(Y0.alloc (.cells #[] 122)).heap.size:=by simp
     have cY:Y0.cell? ⟨g,k,none⟩=some (.slice none 0 0):=hvk▸hP.cell hlt
     have cZ:(Y0.alloc (.cells #[] 122)).cell? ⟨g,k,none⟩=some (.slice none 0 0):=Za hal _ _ cY
     refine wpAnyH_ready (rs:=[3,8,13]) (by kernel_rfl) (by simp) ?_
     refine AllReadyH.cons (o:=⟨some 15,_,_,_,_,_⟩) rfl (fun K hK=>?_) (AllReadyH.cons (o:=⟨some 20,_,_,_,_,_⟩) rfl (fun K hK=>?_) (AllReadyH.cons (o:=⟨some 25,_,_,_,_,_⟩) rfl (fun K hK=>?_) AllReadyH.nil))
     focus
      go_simp
      refine hK.out _ _ (by simpa using (pX.below hal).cell 0) (fun hS11=>?_)
      clear hK
      generalize (Y0.alloc (.cells #[] 122))=Y1 at *
      try simp only [Act.put,tka,tkb,tkc]
      refine wpAnyH_ready (rs:=[8,13]) (by kernel_rfl) (by simp) ?_
      refine AllReadyH.cons (o:=⟨some 20,_,_,_,_,_⟩) rfl (fun K hK=>?_) (AllReadyH.cons (o:=⟨some 25,_,_,_,_,_⟩) rfl (fun K hK=>?_) AllReadyH.nil)
      focus
       go_simp
       refine hK.out _ _ (by simpa using (pX.below hal).cell 0) (fun hS12=>?_)
       clear hK
       try simp only [Act.put,tka,tkb,tkc]
       refine tkr 13 25 (fun K hK=>?_)
       go_simp
       refine hK.out _ _ (by simpa using (pX.below hal).cell 0) (fun hS13=>?_)
       clear hK
       try simp only [Act.put,tka,tkb,tkc]
       refine tkm 14 26 (.int .i64 0) ?_
       refine tkx 15 27 (.int .i64 0) ?_ ?_
       ·intro w' hSw;(try dsimp only at hSw);go_simp;try rfl
       simp only [Act.put,tka,tkb,tkc]
      rotate_left
      focus
       go_simp
       refine hK.out _ _ (by simpa using (pX.below hal).cell 0) (fun hS14=>?_)
       clear hK
       try simp only [Act.put,tka,tkb,tkc]
       refine tkm 14 26 (.int .i64 0) ?_
       refine tkx 15 27 (.int .i64 0) ?_ ?_
       ·intro w' hSw;(try dsimp only at hSw);go_simp;try rfl
       simp only [Act.put,tka,tkb,tkc]
       refine tkr 8 20 (fun K hK=>?_)
       go_simp
       refine hK.out _ _ (by simpa using (pX.below hal).cell 0) (fun hS15=>?_)
       clear hK
       try simp only [Act.put,tka,tkb,tkc]
      all_goals
       refine tkx 16 28 (.slice none 0 0) ?_ ?_
       ·intro w' hSw;(try dsimp only at hSw);go_simp;try rfl
       simp only [Act.put,tka,tkb,tkc]
     rotate_left 2
     focus
      go_simp
      refine hK.out _ _ (by simpa using pX.cell 0) (fun hS16=>?_)
      clear hK
      try simp only [Act.put,tka,tkb,tkc]
      refine wpAnyH_ready (rs:=[3,13]) (by kernel_rfl) (by simp) ?_
      refine AllReadyH.cons (o:=⟨some 15,_,_,_,_,_⟩) rfl (fun K hK=>?_) (AllReadyH.cons (o:=⟨some 25,_,_,_,_,_⟩) rfl (fun K hK=>?_) AllReadyH.nil)
      focus
       go_simp
       refine hK.out _ _ (by simpa using (pX.below hal).cell 0) (fun hS17=>?_)
       clear hK
       generalize (Y0.alloc (.cells #[] 122))=Y1 at *
       try simp only [Act.put,tka,tkb,tkc]
       refine tkr 13 25 (fun K hK=>?_)
       go_simp
       refine hK.out _ _ (by simpa using (pX.below hal).cell 0) (fun hS18=>?_)
       clear hK
       try simp only [Act.put,tka,tkb,tkc]
       refine tkm 14 26 (.int .i64 0) ?_
       refine tkx 15 27 (.int .i64 0) ?_ ?_
       ·intro w' hSw;(try dsimp only at hSw);go_simp;try rfl
       simp only [Act.put,tka,tkb,tkc]
       refine tkx 16 28 (.slice none 0 0) ?_ ?_
       ·intro w' hSw;(try dsimp only at hSw);go_simp;try rfl
       simp only [Act.put,tka,tkb,tkc]
      rotate_left
      focus
       go_simp
       refine hK.out _ _ (by simpa using pX.cell 0) (fun hS19=>?_)
       clear hK
       try simp only [Act.put,tka,tkb,tkc]
       refine tkm 14 26 (.int .i64 0) ?_
       refine tkx 15 27 (.int .i64 0) ?_ ?_
       ·intro w' hSw;(try dsimp only at hSw);go_simp;try rfl
       simp only [Act.put,tka,tkb,tkc]
       refine tkx 16 28 (.slice none 0 0) ?_ ?_
       ·intro w' hSw;(try dsimp only at hSw);go_simp;try rfl
       simp only [Act.put,tka,tkb,tkc]
       refine tkr 3 15 (fun K hK=>?_)
       go_simp
       refine hK.out _ _ (by simpa using (pX.below hal).cell 0) (fun hS20=>?_)
       clear hK
       generalize (Y0.alloc (.cells #[] 122))=Y1 at *
       try simp only [Act.put,tka,tkb,tkc]
     rotate_left 2
     focus
      go_simp
      refine hK.out _ _ (by simpa using pX.cell 0) (fun hS21=>?_)
      clear hK
      try simp only [Act.put,tka,tkb,tkc]
      refine tkm 14 26 (.int .i64 0) ?_
      refine tkx 15 27 (.int .i64 0) ?_ ?_
      ·intro w' hSw;(try dsimp only at hSw);go_simp;try rfl
      simp only [Act.put,tka,tkb,tkc]
      refine wpAnyH_ready (rs:=[3,8]) (by kernel_rfl) (by simp) ?_
      refine AllReadyH.cons (o:=⟨some 15,_,_,_,_,_⟩) rfl (fun K hK=>?_) (AllReadyH.cons (o:=⟨some 20,_,_,_,_,_⟩) rfl (fun K hK=>?_) AllReadyH.nil)
      focus
       go_simp
       refine hK.out _ _ (by simpa using (pX.below hal).cell 0) (fun hS22=>?_)
       clear hK
       generalize (Y0.alloc (.cells #[] 122))=Y1 at *
       try simp only [Act.put,tka,tkb,tkc]
       refine tkr 8 20 (fun K hK=>?_)
       go_simp
       refine hK.out _ _ (by simpa using (pX.below hal).cell 0) (fun hS23=>?_)
       clear hK
       try simp only [Act.put,tka,tkb,tkc]
       refine tkx 16 28 (.slice none 0 0) ?_ ?_
       ·intro w' hSw;(try dsimp only at hSw);go_simp;try rfl
       simp only [Act.put,tka,tkb,tkc]
      rotate_left
      focus
       go_simp
       refine hK.out _ _ (by simpa using pX.cell 0) (fun hS24=>?_)
       clear hK
       try simp only [Act.put,tka,tkb,tkc]
       refine tkx 16 28 (.slice none 0 0) ?_ ?_
       ·intro w' hSw;(try dsimp only at hSw);go_simp;try rfl
       simp only [Act.put,tka,tkb,tkc]
       refine tkr 3 15 (fun K hK=>?_)
       go_simp
       refine hK.out _ _ (by simpa using (pX.below hal).cell 0) (fun hS25=>?_)
       clear hK
       generalize (Y0.alloc (.cells #[] 122))=Y1 at *
       try simp only [Act.put,tka,tkb,tkc]
     all_goals
      refine tkr 17 29 (fun K hK=>?_)
      refine SZ rfl _ _ 91 rfl (w.heap.size+1) 122 i0 3 Tryz.underlying91 hi _ _ _ rfl q rfl ?_
      obtain ⟨N,hN⟩:∃ N,N=Y0.heap.size:=⟨_,rfl⟩
      have hNg:Y0.heap.size≤N:=by omega
      obtain ⟨c2,hc2⟩:∃ c2:Nat,c2=0:=⟨_,rfl⟩
      have eV:Value.slice (some ⟨Y0.heap.size,0,none⟩) 0 0=.slice (some ⟨N,0,none⟩) (smN r) c2:=by rw [hN,hsm,hc2]
      have q2:Y1.ownsRow (w.heap.size+1) 122 3 (.slice (some ⟨N,0,none⟩) (smN r) c2) (smN r) (Zn (r.take 2)):=by rw [← eV,htk,hsm];exact q
      rw [eV]
      have bY:=hal
      obtain ⟨Y2,hY2⟩:∃ Y2,Y2=Y1:=⟨_,rfl⟩
      rw [← hY2] at q2 bY ⊢
      clear eV hN hc2 hY2 q hsm htk
    rotate_left 6
    focus
     have hsl:smN r≤cc:=by have:=Tr r;omega
     have hmin:(if (2:Int)<(r.length:Int) then (2:Int) else (r.length:Int))=(smN r:Int):=by have:=Tr r;split<;>omega
     refine wp_region_held_drew (S:=(fun w'=>w'.cell? ⟨X,0,none⟩=some (.slice (some ⟨g,0,none⟩) 3 c))) (by kernel_rfl) cX (fun hS0=>?_)
     refine tkm 0 12 (.pointer (some ⟨X,0,none⟩)) ?_
     refine tkm 1 13 (.slice (some ⟨g,0,none⟩) 3 c) ?_
     refine tkm 2 14 (.int .i64 (k:Int)) ?_
     refine tkm 4 16 (.pointer (some ⟨X,0,none⟩)) ?_
     refine tkm 5 17 (.slice (some ⟨g,0,none⟩) 3 c) ?_
     refine tkm 6 18 (.int .i64 (k:Int)) ?_
     refine tkm 7 19 (.pointer (some ⟨g,k,none⟩)) ?_
     refine tkm 9 21 (.pointer (some ⟨X,0,none⟩)) ?_
     refine tkm 10 22 (.slice (some ⟨g,0,none⟩) 3 c) ?_
     refine tkm 11 23 (.int .i64 (k:Int)) ?_
     refine tkm 12 24 (.pointer (some ⟨g,k,none⟩)) ?_
     have hdr:Below wr.heap.size wr wr.drew:=by go_grown
     replace bw:=bw.trans (hdr.mono (by have:=pR.lt;omega))
     replace hP:=hP.below hdr
     replace pX:=pX.below hdr
     replace pR:=pR.below hdr
     replace hrow:=Zs hrow hdr
     clear hdr
     generalize wr.drew=Y0 at *
     have hal:Below Y0.heap.size Y0 (Y0.alloc (.cells #[] 122)):=by go_grown
     have q:=Y4 Y0 122 3 (w.heap.size+1) (by have:=pR.lt;omega)
     have hsz:Y0.heap.size<(Y0.alloc (.cells #[] 122)).heap.size:=by simp
     have cY:Y0.cell? ⟨g,k,none⟩=some (.slice (some ⟨b,0,none⟩) r.length cc):=hvk▸hP.cell hlt
     have cZ:(Y0.alloc (.cells #[] 122)).cell? ⟨g,k,none⟩=some (.slice (some ⟨b,0,none⟩) r.length cc):=Za hal _ _ cY
     refine wpAnyH_ready (rs:=[3,8,13]) (by kernel_rfl) (by simp) ?_
     refine AllReadyH.cons (o:=⟨some 15,_,_,_,_,_⟩) rfl (fun K hK=>?_) (AllReadyH.cons (o:=⟨some 20,_,_,_,_,_⟩) rfl (fun K hK=>?_) (AllReadyH.cons (o:=⟨some 25,_,_,_,_,_⟩) rfl (fun K hK=>?_) AllReadyH.nil))
     focus
      go_simp
      refine hK.out _ _ (by simpa using (pX.below hal).cell 0) (fun hS26=>?_)
      clear hK
      generalize (Y0.alloc (.cells #[] 122))=Y1 at *
      try simp only [Act.put,tka,tkb,tkc]
      refine wpAnyH_ready (rs:=[8,13]) (by kernel_rfl) (by simp) ?_
      refine AllReadyH.cons (o:=⟨some 20,_,_,_,_,_⟩) rfl (fun K hK=>?_) (AllReadyH.cons (o:=⟨some 25,_,_,_,_,_⟩) rfl (fun K hK=>?_) AllReadyH.nil)
      focus
       go_simp
       refine hK.out _ _ (by simpa using (pX.below hal).cell 0) (fun hS27=>?_)
       clear hK
       try simp only [Act.put,tka,tkb,tkc]
       refine tkr 13 25 (fun K hK=>?_)
       go_simp
       refine hK.out _ _ (by simpa using (pX.below hal).cell 0) (fun hS28=>?_)
       clear hK
       try simp only [Act.put,tka,tkb,tkc]
       refine tkm 14 26 (.int .i64 (r.length:Int)) ?_
       refine tkx 15 27 (.int .i64 (smN r:Int)) ?_ ?_
       ·intro w' hSw;(try dsimp only at hSw);go_simp;try (have h9:=Tr r;omega)
       simp only [Act.put,tka,tkb,tkc]
      rotate_left
      focus
       go_simp
       refine hK.out _ _ (by simpa using (pX.below hal).cell 0) (fun hS29=>?_)
       clear hK
       try simp only [Act.put,tka,tkb,tkc]
       refine tkm 14 26 (.int .i64 (r.length:Int)) ?_
       refine tkx 15 27 (.int .i64 (smN r:Int)) ?_ ?_
       ·intro w' hSw;(try dsimp only at hSw);go_simp;try (have h9:=Tr r;omega)
       simp only [Act.put,tka,tkb,tkc]
       refine tkr 8 20 (fun K hK=>?_)
       go_simp
       refine hK.out _ _ (by simpa using (pX.below hal).cell 0) (fun hS30=>?_)
       clear hK
       try simp only [Act.put,tka,tkb,tkc]
      all_goals
       refine tkx 16 28 (.slice (some ⟨b,0,none⟩) (smN r) cc) ?_ ?_
       ·intro w' hSw;(try dsimp only at hSw);go_simp
       simp only [Act.put,tka,tkb,tkc]
     rotate_left 2
     focus
      go_simp
      refine hK.out _ _ (by simpa using pX.cell 0) (fun hS31=>?_)
      clear hK
      try simp only [Act.put,tka,tkb,tkc]
      refine wpAnyH_ready (rs:=[3,13]) (by kernel_rfl) (by simp) ?_
      refine AllReadyH.cons (o:=⟨some 15,_,_,_,_,_⟩) rfl (fun K hK=>?_) (AllReadyH.cons (o:=⟨some 25,_,_,_,_,_⟩) rfl (fun K hK=>?_) AllReadyH.nil)
      focus
       go_simp
       refine hK.out _ _ (by simpa using (pX.below hal).cell 0) (fun hS32=>?_)
       clear hK
       generalize (Y0.alloc (.cells #[] 122))=Y1 at *
       try simp only [Act.put,tka,tkb,tkc]
       refine tkr 13 25 (fun K hK=>?_)
       go_simp
       refine hK.out _ _ (by simpa using (pX.below hal).cell 0) (fun hS33=>?_)
       clear hK
       try simp only [Act.put,tka,tkb,tkc]
       refine tkm 14 26 (.int .i64 (r.length:Int)) ?_
       refine tkx 15 27 (.int .i64 (smN r:Int)) ?_ ?_
       ·intro w' hSw;(try dsimp only at hSw);go_simp;try (have h9:=Tr r;omega)
       simp only [Act.put,tka,tkb,tkc]
       refine tkx 16 28 (.slice (some ⟨b,0,none⟩) (smN r) cc) ?_ ?_
       ·intro w' hSw;(try dsimp only at hSw);go_simp
       simp only [Act.put,tka,tkb,tkc]
      rotate_left
      focus
       go_simp
       refine hK.out _ _ (by simpa using pX.cell 0) (fun hS34=>?_)
       clear hK
       try simp only [Act.put,tka,tkb,tkc]
       refine tkm 14 26 (.int .i64 (r.length:Int)) ?_
       refine tkx 15 27 (.int .i64 (smN r:Int)) ?_ ?_
       ·intro w' hSw;(try dsimp only at hSw);go_simp;try (have h9:=Tr r;omega)
       simp only [Act.put,tka,tkb,tkc]
       refine tkx 16 28 (.slice (some ⟨b,0,none⟩) (smN r) cc) ?_ ?_
       ·intro w' hSw;(try dsimp only at hSw);go_simp
       simp only [Act.put,tka,tkb,tkc]
       refine tkr 3 15 (fun K hK=>?_)
       go_simp
       refine hK.out _ _ (by simpa using (pX.below hal).cell 0) (fun hS35=>?_)
       clear hK
       generalize (Y0.alloc (.cells #[] 122))=Y1 at *
       try simp only [Act.put,tka,tkb,tkc]
     rotate_left 2
     focus
      go_simp
      refine hK.out _ _ (by simpa using pX.cell 0) (fun hS36=>?_)
      clear hK
      try simp only [Act.put,tka,tkb,tkc]
      refine tkm 14 26 (.int .i64 (r.length:Int)) ?_
      refine tkx 15 27 (.int .i64 (smN r:Int)) ?_ ?_
      ·intro w' hSw;(try dsimp only at hSw);go_simp;try (have h9:=Tr r;omega)
      simp only [Act.put,tka,tkb,tkc]
      refine wpAnyH_ready (rs:=[3,8]) (by kernel_rfl) (by simp) ?_
      refine AllReadyH.cons (o:=⟨some 15,_,_,_,_,_⟩) rfl (fun K hK=>?_) (AllReadyH.cons (o:=⟨some 20,_,_,_,_,_⟩) rfl (fun K hK=>?_) AllReadyH.nil)
      focus
       go_simp
       refine hK.out _ _ (by simpa using (pX.below hal).cell 0) (fun hS37=>?_)
       clear hK
       generalize (Y0.alloc (.cells #[] 122))=Y1 at *
       try simp only [Act.put,tka,tkb,tkc]
       refine tkr 8 20 (fun K hK=>?_)
       go_simp
       refine hK.out _ _ (by simpa using (pX.below hal).cell 0) (fun hS38=>?_)
       clear hK
       try simp only [Act.put,tka,tkb,tkc]
       refine tkx 16 28 (.slice (some ⟨b,0,none⟩) (smN r) cc) ?_ ?_
       ·intro w' hSw;(try dsimp only at hSw);go_simp
       simp only [Act.put,tka,tkb,tkc]
      rotate_left
      focus
       go_simp
       refine hK.out _ _ (by simpa using pX.cell 0) (fun hS39=>?_)
       clear hK
       try simp only [Act.put,tka,tkb,tkc]
       refine tkx 16 28 (.slice (some ⟨b,0,none⟩) (smN r) cc) ?_ ?_
       ·intro w' hSw;(try dsimp only at hSw);go_simp
       simp only [Act.put,tka,tkb,tkc]
       refine tkr 3 15 (fun K hK=>?_)
       go_simp
       refine hK.out _ _ (by simpa using (pX.below hal).cell 0) (fun hS40=>?_)
       clear hK
       generalize (Y0.alloc (.cells #[] 122))=Y1 at *
       try simp only [Act.put,tka,tkb,tkc]
     all_goals
      refine tkr 17 29 (fun K hK=>?_)
      refine ZV rfl _ _ 91 rfl (w.heap.size+1) 122 i0 _ 3 24 Tryz.underlying91 hi hz0 hz1 hz2 rfl (by decide) _ 0 [] rfl q ⟨b,0,none⟩ (smN r) cc (Zn (r.take 2)) rfl (by rw [Zw];rfl) (Gr (Zs hrow hal)) (J7 _) (by have:=KO r;unfold maxLen;omega) (by have:=KO r;omega) (by have:=(pR.below hal).lt;omega) ?_
      intro v2 Y2 q2 gr hob
      have bY:Below Y0.heap.size Y0 Y2:=hal.grown gr hal.size (fun x hx=>by have e9:some Y0.heap.size=some x:=hx;cases e9;exact Nat.le_refl _)
      rw [Nat.zero_add,List.nil_append] at q2
      obtain ⟨N,hN,hNg⟩:∃ N,v2.ownBlock=some N∧Y0.heap.size≤N:=by
       rcases hob with e | e
       ·exact ⟨_,e,Nat.le_refl _⟩
       exact ⟨_,e,by omega⟩
      obtain ⟨c2,rfl⟩:=FU q2 hN
      clear gr hob hN q
    all_goals
     obtain ⟨⟨hP2,pX2⟩,pX3,hcut9⟩:=FE hP pX pR bw bY q2 hNg hlt hvl (by omega)
     refine hK.out _ _ (by simpa using pX2.cell 0) (fun hS8=>?_)
     clear hK
     try simp only [Act.put,tka,tkb,tkc]
     refine tkm 18 30 (.pointer (some ⟨g,k,none⟩)) ?_
     have cK2:=hP2.cell hlt
     rw [hvk] at cK2
     have fK2:=hP2.1.frozenAt k
     refine tkz 19 (fun K hK=>?_)
     go_simp
     refine hK.out _ _ (by simpa using pX3.cell 0) (fun hS9=>?_)
     clear hK
     try simp only [Act.put,tka,tkb,tkc]
     refine wpAnyH_done (by kernel_rfl) ?_ _
     go_wp2_with fail
     go_meet
     case rel=>exact hcut9
   clear hP pX pR bw cX cK hrow hvk hvl
   clear vs
   obtain ⟨vs3,N,c2,hv3,hP3,pX3,pR3,bw3⟩:=hcut
   go_wp2_with fail
   go_loopg [5] (smN r) (fun gg s5 wz=>∃ j:Nat,j≤smN r∧smN r - j≤gg∧s5=.int .i64 j∧Ye wz (w.heap.size+1) g c vs3 ((smK rows k).set k (smJ r j))∧Blk wz X 25 [.slice (some ⟨g,0,none⟩) 3 c]∧Blk wz w.heap.size 25 [.slice none 0 0]∧Below p w wz)
   case atStart=>exact ⟨0,by omega,by omega,rfl,hP3,pX3,pR3,bw3⟩
   case round =>
    clear hP3 pX3 pR3 bw3
    obtain ⟨j,hj,hg2,rfl,hP,pX,pR,bw⟩:=hrel
    have hlen3:(smK rows k).length=3:=by rw [Mo];exact H3.out
    have cX:wr.cell? ⟨X,0,none⟩=some (.slice (some ⟨g,0,none⟩) 3 c):=by simpa using pX.cell 0
    have cK:=hP.cell hlt
    rw [hv3] at cK
    by_cases hjl:j<smN r
    ·have hjl':(j:Int)<(smN r:Int):=by omega
     have hj0:(0:Int)≤(j:Int):=by omega
     have hrow:=hP.row (by omega)
     rw [hv3,SW] at hrow
     have cJ:=hrow.cellAt (j*3) (by omega)
     rw [PO _ _ (by rw [SW];exact hjl),KN hjl] at cJ
     obtain ⟨u2,cB⟩:∃ u,wr.cell? ⟨N,j*3+2,none⟩=some u:=⟨_,by rw [hrow.cellAt _ (by omega)];exact List.getElem?_eq_getElem (by rw [Zw,SW];omega)⟩
     have hsN:=KO r
     by_cases h7:((r.take 2).getD j (0,0,0)).1=7
     ·have hdr:Below wr.heap.size wr wr.drew:=by go_grown
      have bw4:=bw.trans (hdr.mono (by have:=pR.lt;omega))
      have hrd:=Zs hrow hdr
      have gT:=(hrd.stored (j*3+2) (.int .i64 (smN r:Int))).2
      have hT:=(hP.below hdr).turn7 hlt hlen3 hv3 hjl h7
      have hNX:N≠X:=fun e=>WE hrow pX (by decide) (by simp [Value.ownBlock,e])
      have hNB:w.heap.size+1≤N:=(hrow.lt N rfl).1
      have pX4:=(pX.below hdr).kept gT (by simp;omega)
      have pR4:=(pR.below hdr).kept gT (by simp;omega)
      replace bw4:=bw4.grown gT (by have:=bw4.size;omega) (fun x hx=>by cases hx;omega)
      have cB4:=Za hdr _ _ cB
      have fB4:=hrd.frozenAt (j*3+2)
      have hgN:g≠N:=fun e=>VQ hrow hP.1 (by decide) (by simp [Value.ownBlock,e])
      rw [h7] at cJ
      have cX4:(wr.drew.setCell ⟨N,j*3+2,none⟩ (.int .i64 (smN r:Int))).cell? ⟨X,0,none⟩=some (.slice (some ⟨g,0,none⟩) 3 c):=by simpa using pX4.cell 0
      have cK4:=hT.cell hlt
      rw [hv3] at cK4
      clear hP pX pR bw hrow hrd gT hdr h7
      go_wp2_with fail
      refine wp_region_held_drew (S:=(fun w'=>w'.cell? ⟨X,0,none⟩=some (.slice (some ⟨g,0,none⟩) 3 c)∧w'.cell? ⟨g,k,none⟩=some (.slice (some ⟨N,0,none⟩) (smN r) c2))) (by kernel_rfl) ⟨cX,cK⟩ (fun hS0=>?_)
      refine tkm 0 51 (.pointer (some ⟨X,0,none⟩)) ?_
      refine tkm 1 52 (.slice (some ⟨g,0,none⟩) 3 c) ?_
      refine tkm 2 53 (.int .i64 (k:Int)) ?_
      refine tkm 3 54 (.pointer (some ⟨g,k,none⟩)) ?_
      refine tkm 4 55 (.slice (some ⟨N,0,none⟩) (smN r) c2) ?_
      refine tkm 5 56 (.int .i64 (j:Int)) ?_
      refine tkm 6 57 (.pointer (some ⟨X,0,none⟩)) ?_
      refine tkm 7 58 (.slice (some ⟨g,0,none⟩) 3 c) ?_
      refine tkm 8 59 (.int .i64 (k:Int)) ?_
      refine tkm 9 60 (.pointer (some ⟨g,k,none⟩)) ?_
      refine tkm 10 61 (.slice (some ⟨N,0,none⟩) (smN r) c2) ?_
      refine tkm 11 62 (.int .i64 (smN r:Int)) ?_
      refine tkm 12 63 (.pointer (some ⟨N,j*3,none⟩)) ?_
      refine tkm 13 64 (.pointer (some ⟨N,j*3+2,none⟩)) ?_
      refine tkz 14 (fun K hK=>?_)
      go_simp
      refine hK.out _ _ ⟨cX4,cK4⟩ (fun hS9=>?_)
      clear hK
      try simp only [Act.put,tka,tkb,tkc]
      refine wpAnyH_done (by kernel_rfl) ?_ _
      rw [World.setCell_drew] at hT pX4 pR4 bw4
      clear cX4 cK4 hS9 hS0
      generalize (wr.setCell ⟨N,j*3+2,none⟩ (.int .i64 (smN r:Int))).drew=V4 at *
      clear cX cK cJ cB cB4 fB4
      go_wp2
      go_roundg (smN r - (j+1))
      case measure=>omega
      case rel=>exact ⟨j+1,by omega,by omega,by go_num,hT,pX4,pR4,bw4⟩
     have hsame:=F7 hjl h7
     rw [← hsame] at hP
     have h7b:(((r.take 2).getD j (0,0,0)).1 == 7)=false:=by simpa using h7
     generalize ((r.take 2).getD j (0,0,0)).1=z7 at *
     clear hrow hsame
     go_wp2
     go_roundg (smN r - (j+1))
     case measure=>omega
     case rel=>exact ⟨j+1,by omega,by omega,by go_num,hP,pX,pR,bw⟩
    obtain rfl:j=smN r:=by omega
    have hnl:¬ ((smN r:Int)<(smN r:Int)):=by omega
    have hP9:Ye wr (w.heap.size+1) g c vs3 (smK rows (k+1)):=by
     rw [Da (by have:=H3.out;omega),← HR.out]
     rw [Cl (Nat.le_refl _)] at hP
     exact hP
    clear hP
    go_wp2
    go_roundg (3 - (k+1))
    case measure=>omega
    case rel=>exact ⟨k+1,vs3,by omega,by omega,by go_num,hP9,pX,pR,bw⟩
  obtain rfl:k=3:=by omega
  go_wp2_with (first | refine Zd rfl 25 _ rfl X rfl pX _ Tryz.underlying25 rfl (by kernel_rfl) ?_ | refine Ze rfl 25 _ _ rfl w.heap.size [.slice (some ⟨g,0,none⟩) 3 c] rfl rfl pR (by kernel_rfl) rfl rfl ?_)
  intro V9 pR9 g9
  have hP9:=hP.low g9 (by omega)
  have bw9:=bw.grown g9 (by have:=bw.size;omega) (fun x hx=>by cases hx;omega)
  have k9:V9.cell? ⟨w.heap.size,0,none⟩=some (.slice (some ⟨g,0,none⟩) 3 c):=by simpa using pR9.out.cell 0
  have HS9:Hid (Vs (smK rows 3)):=Cm HOK.out.1
  clear hP pX pR bw g9 pR9
  go_wp2
  refine bodyPost_ret (by simp [results,Tryz.results24,go_sem,k9];try rfl) rfl ?_
  exact ⟨⟨_,_,HS9.out,rfl,hP9.own.lower (by omega)⟩,bw9⟩
theorem Q7 (a:Option Addr) (n cap:Nat) (zs:List Int) (w:World) (hI:IsRow .u8 w a n cap zs) (hn:n≤1048576) :
  Calls Tryz.prog 6 #[.slice a n cap] w fun e w'=>(∃ (v:Value) (rows:List (List I3)),Vs rows∧e=.returned (.agg #[v])∧Xb w' w.heap.size v rows)∧Below w.heap.size w w':=by
 have hCo:=DH hI hn
 have hb0:Below w.heap.size w (w.alloc (.cells #[.slice none 0 0] 25)):=by go_grown
 have hRr:=Fe w (.slice none 0 0) 25 w.heap.size (Nat.le_refl _)
 go_enter Tryz.func6,Tryz.ntmps6
 go_wp2_with fail
 refine (Pu a n cap _ hn).mono ?_
 rintro e w1 ⟨rfl,hS,hb1⟩
 simp only [World.size_alloc] at hS
 try simp only [World.size_alloc]
 have hRr1:=Zs hRr hb1
 have b1:Below w.heap.size w w1:=Zb hb0 hb1
 have hC1:TO w1 (w.heap.size+1) a n cap:=by
  obtain ⟨zs',q1,q2,q3,q4⟩:=hCo
  exact ⟨zs',q1.below b1,q2,q3,fun x hx h0=>by have:=q4 x hx h0;omega⟩
 have hpw:w.heap.size+1<w1.heap.size:=hS.lt
 clear hb1 hb0 hRr hCo
 have hpw':w.heap.size<w.heap.size+1:=by omega
 generalize w.heap.size+1=p at hS hC1 hpw hpw'
 go_wp2_with fail
 refine (Rs p a n cap _ hS hC1).mono ?_
 rintro e w2 ⟨⟨v,rows,hok,rfl,hOP⟩,hb2⟩
 obtain ⟨aV,capV,hv⟩:=hOP.slice
 generalize rows.length=lr at hv
 subst hv
 have HP:Hid (Vs rows):=hok
 have hRr2:=Ll hRr1 hb2 (fun x e=>by cases e;omega)
 have b2:Below w.heap.size w w2:=b1.trans (hb2.mono (by omega))
 have kR:w2.cell? ⟨w.heap.size,0,none⟩=some (.slice none 0 0):=by simpa using hRr2.cellAt 0 (by omega)
 have fR:=hRr2.frozenAt 0
 have hOP3:=(hOP.low (p:=⟨w.heap.size,0,none⟩) (show w.heap.size<w1.heap.size by omega) (.slice aV lr capV)).lower (B':=w.heap.size) (by omega)
 have b3:Below w.heap.size w (w2.setCell ⟨w.heap.size,0,none⟩ (.slice aV lr capV)):=b2.setCell (Nat.le_refl _) _
 have k3:(w2.setCell ⟨w.heap.size,0,none⟩ (.slice aV lr capV)).cell? ⟨w.heap.size,0,none⟩=some (.slice aV lr capV):=World.cell?_setCell_same' _ _ _ (by rw [kR];rfl)
 clear hok hOP hRr1 hRr2 b1 b2 hb2 hS hC1
 go_wp2
 clear kR fR
 generalize w2.setCell ⟨w.heap.size,0,none⟩ (.slice aV lr capV)=w9 at hOP3 b3 k3
 refine bodyPost_ret (by simp [results,Tryz.results6,go_sem,k3];try rfl) rfl ?_
 exact ⟨⟨_,rows,HP.out,rfl,hOP3⟩,b3⟩
end Go.Proofs.YtgmhhegckcionaaGreatDoor
