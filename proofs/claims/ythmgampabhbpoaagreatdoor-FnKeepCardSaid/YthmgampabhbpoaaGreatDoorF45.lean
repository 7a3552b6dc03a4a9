/-
  Joined: MmoD, SameVmI, EqlB.
-/
import Derived.Laws.StructEq
import Derived.Test.YthmgampabhbpoaaGreatDoorF44

namespace Go.Proofs.YthmgampabhbpoaaGreatDoor
set_option maxRecDepth 100000
set_option maxHeartbeats 16000000
open Go.RowKit
set_option linter.unusedVariables false
set_option linter.unusedSimpArgs false

theorem row_ne_blk {w:World} {B e s n X t:Nat} {v:Value} {xs cs:List Value} (h:w.ownsRow B e s v n xs) (hb:Blk w X t cs) (hne:e≠t):v.ownBlock≠some X:=by
 rcases h.2 with ⟨rfl,_⟩ | ⟨g,cap,cur,rfl,_,hg,_⟩
 ·simp [Value.ownBlock]
 ·intro h9
  simp [Value.ownBlock] at h9
  subst h9
  unfold Blk at hb
  rw [hg] at hb
  simp at hb
  exact hne hb.2
theorem OwnE.went9 {p:Nat} {w w':World} {B:Nat} {vb vf:Value} {e:E3} (h:OwnE w B vb vf e) (hw:Went p w w') (hp:p<B):OwnE w' B vb vf e:=⟨owns_wn h.1 hw hp,owns_wn h.2 hw hp⟩
def MemDr (x:Ending) (w':World) (B:Nat):Prop:=∃ (es:List E3) (v:Value),memOk es=true∧(∀ e ∈ es,e.fits)∧es.length≤7∧x=.returned (.agg #[v])∧OwnM w' B v es
theorem MemDr.mk9 {w':World} {B:Nat} {es:List E3} {v:Value} (h1:memOk es=true) (h2:∀ e ∈ es,e.fits) (h3:es.length≤7) (h4:OwnM w' B v es):MemDr (.returned (.agg #[v])) w' B:=⟨es,v,h1,h2,h3,rfl,h4⟩

theorem memo_any (p T:Nat) (a:Option Addr) (n cap:Nat) (w:World) (hS:Src w p (.slice a n cap) T) (hC:Code w p a n cap) (hT:T≤400000) :
  Calls Tryz.prog 29 #[.pointer (some ⟨p,0,none⟩)] w fun e w'=>MemDr e w' w.heap.size∧Went p w w':=by
 have hpw:p<w.heap.size:=hS.lt
 have hP:Went p w (((w.alloc (.cells #[.slice none 0 0] 25)).alloc (.cells #[] 33)).alloc (.cells #[.slice (some ⟨w.heap.size+1,0,none⟩) 0 0] 25)):=(((Went.refl p w).alloc _).alloc _).alloc _
 have pR:Blk (((w.alloc (.cells #[.slice none 0 0] 25)).alloc (.cells #[] 33)).alloc (.cells #[.slice (some ⟨w.heap.size+1,0,none⟩) 0 0] 25)) w.heap.size 25 [.slice none 0 0]:=blkOld _ (blkOld _ (blkAt _ _ _ rfl))
 have pX:Blk (((w.alloc (.cells #[.slice none 0 0] 25)).alloc (.cells #[] 33)).alloc (.cells #[.slice (some ⟨w.heap.size+1,0,none⟩) 0 0] 25)) (w.heap.size+1+1) 25 [.slice (some ⟨w.heap.size+1,0,none⟩) 0 0]:=blkAt _ _ _ (by simp)
 have q0:(((w.alloc (.cells #[.slice none 0 0] 25)).alloc (.cells #[] 33)).alloc (.cells #[.slice (some ⟨w.heap.size+1,0,none⟩) 0 0] 25)).ownsRow (w.heap.size+1) 33 3 (.slice (some ⟨w.heap.size+1,0,none⟩) 0 0) 0 (entL []):=by
  have h9:=empty8 (w.alloc (.cells #[.slice none 0 0] 25)) 33 3 (w.heap.size+1) (by simp)
  have h8:=owns8 h9 (show Below _ _ ((w.alloc (.cells #[.slice none 0 0] 25)).alloc (.cells #[] 33)|>.alloc (.cells #[.slice (some ⟨w.heap.size+1,0,none⟩) 0 0] 25)) by go_grown)
  simpa [entL] using h8
 have hS1:=((hS.alloc (.cells #[.slice none 0 0] 25)).alloc (.cells #[] 33)).alloc (.cells #[.slice (some ⟨w.heap.size+1,0,none⟩) 0 0] 25)
 have hC1:=hC.went hP (Nat.le_of_lt hpw)
 have hsw0:w.heap.size+3≤(((w.alloc (.cells #[.slice none 0 0] 25)).alloc (.cells #[] 33)).alloc (.cells #[.slice (some ⟨w.heap.size+1,0,none⟩) 0 0] 25)).heap.size:=by simp
 have hnX:w.heap.size+1+1≠p:=by omega
 have hnR:w.heap.size≠p:=by omega
 go_enter Tryz.func29,Tryz.ntmps29
 go_wp2_with fail
 generalize (((w.alloc (.cells #[.slice none 0 0] 25)).alloc (.cells #[] 33)).alloc (.cells #[.slice (some ⟨w.heap.size+1,0,none⟩) 0 0] 25))=W1 at *
 refine (next_any p T a n cap 7 W1 hS1 hC1 (by omega) (by omega)).mono ?_
 rintro x w2 ⟨⟨v,hv,rfl⟩,hS2,hWn⟩
 replace hP:=hP.trans hWn
 replace pR:=pR.went hWn hnR
 replace pX:=pX.went hWn hnX
 replace q0:=owns_wn q0 hWn (by omega)
 replace hC1:=hC1.went hWn (by omega)
 replace hsw0:=Nat.le_trans hsw0 hWn.size
 have hv6:v≤7:=by omega
 clear hWn hS1 hv
 go_wp2_with fail
 go_loopw [4] (fun si wr=>∃ (i TT:Nat) (L:List EQ) (va:Option Addr) (vn vc:Nat),si=.int .i64 i∧i≤7∧L.length+i≤7∧TT≤T+3+(7 - i)*600∧vn=L.length∧memOk (L.map (·.1))=true∧wr.ownsRow (w.heap.size+1) 33 3 (.slice va vn vc) L.length (entL L)∧(∀ x ∈ L,OwnE wr (w.heap.size+1) (.slice x.2.1.1 x.2.1.2.1 x.2.1.2.2) (.slice x.2.2.1 x.2.2.2.1 x.2.2.2.2) x.1∧x.1.fits)∧Blk wr (w.heap.size+1+1) 25 [.slice va vn vc]∧Blk wr w.heap.size 25 [.slice none 0 0]∧Src wr p (.slice a n cap) TT∧Code wr p a n cap∧Went p w wr∧w.heap.size+3≤wr.heap.size) (fun si _=>(intOf si).toNat)
 case atStart=>exact ⟨v,T+3,[],_,_,_,rfl,hv6,by simpa using hv6,by omega,rfl,rfl,q0,by simp,pX,pR,hS2,hC1,hP,hsw0⟩
 case round =>
  clear hP pR pX q0 hC1 hS2 hsw0 hv6
  obtain ⟨i,TT,L,va,vn,vc,rfl,hi,hLi,hTT,hvn,hok,q,hL,pX,pR,hS,hC,hP,hsw⟩:=hrel
  by_cases hi0:0<i
  ·have hip:(0:Int)<(i:Int):=by omega
   have bd:Below wr.heap.size wr wr.drew:=by go_grown
   replace hP:=hP.trans (Went.of_below bd)
   replace hS:=hS.belowD bd
   replace hC:=hC.went (Went.of_below bd) (by omega)
   replace pX:=pX.below bd
   replace pR:=pR.below bd
   replace q:=owns8 q bd
   replace hL:=fun x hx=>(⟨(hL x hx).1.below bd,(hL x hx).2⟩:OwnE wr.drew (w.heap.size+1) (.slice x.2.1.1 x.2.1.2.1 x.2.1.2.2) (.slice x.2.2.1 x.2.2.2.1 x.2.2.2.2) x.1∧x.1.fits)
   replace hsw:=Nat.le_trans hsw bd.size
   have kE:=entry_any p TT a n cap wr.drew hS hC (by omega)
   clear bd
   subst hvn
   go_wp2_with fail
   refine wp_region_held_drew (S:=(fun _=>True)) (by kernel_rfl) trivial (fun hS0=>?_)
   refine tkx 1 14 (.pointer (some ⟨p,0,none⟩)) ?_ ?_
   ·(intro w' hSw;(try dsimp only at hSw);go_simp;first | done | rfl | omega | (intro h9;omega) | (rw [IntKind.wrap_i64];omega))
   simp only [Act.put,tka,tkb,tkc]
   refine wpAnyH_ready (rs:=[0,2]) (by kernel_rfl) (by simp) ?_
   refine AllReadyH.cons (o:=⟨some 13,_,_,_,_,_⟩) rfl (fun K hK=>?_) (AllReadyH.cons (o:=⟨some 15,_,_,_,_,_⟩) rfl (fun K hK=>?_) AllReadyH.nil)
   ·skip
    have x0:=pX.cell 0
    simp only [List.getElem?_cons_zero] at x0
    go_simp
    refine hK.out _ _ trivial (fun hSa=>?_)
    clear hK x0 hSa
    try simp only [Act.put,tka,tkb,tkc]
    refine tkr 2 15 (fun K hK=>?_)
    go_simp
    refine (kE).mono ?_
    rintro e w1 ⟨⟨en,es2,heok,hef,rfl,hO⟩,hS1,hW1⟩
    go_wp2_with fail
    refine hK.out _ _ ?_ (fun hS2=>?_)
    ·exact trivial
    clear hK
    clear hS2
    replace hP:=hP.trans hW1
    replace hS:=hS1
    replace hC:=hC.went hW1 (by omega)
    replace pX:=pX.went hW1 hnX
    replace pR:=pR.went hW1 hnR
    replace q:=owns_wn q hW1 (by omega)
    replace hL:=fun x hx=>(⟨(hL x hx).1.went9 hW1 (by omega),(hL x hx).2⟩:OwnE w1 (w.heap.size+1) (.slice x.2.1.1 x.2.1.2.1 x.2.1.2.2) (.slice x.2.2.1 x.2.2.2.1 x.2.2.2.2) x.1∧x.1.fits)
    have hO1:=hO.lower (show w.heap.size+1≤wr.drew.heap.size by omega)
    have hs1:w.heap.size+3≤w1.heap.size:=by have:=hW1.size;omega
    clear hW1 hS1 hO kE
    have hQ:=EntQ.of_owns q (fun x hx=>OwnE.mem (s:=x.2) (hL x hx).1 (hL x hx).2)
    have kP:=l10Put_row va L.length vc L en es2 w1 hQ (own_nil0 q) hok hef.1
    obtain ⟨ek,eb,ez⟩:=en
    obtain ⟨⟨e1,m1,d1⟩,⟨e2,m2,d2⟩⟩:=es2
    unfold entV at kP ⊢
    simp only at kP hO1 ⊢
    clear hQ
    refine tkr 3 16 (fun K hK=>?_)
    go_simp
    refine (kP).mono ?_
    rintro e w2 ⟨⟨v2,rfl,q2⟩,hb⟩
    go_wp2_with fail
    refine hK.out _ _ ?_ (fun hS3=>?_)
    ·exact trivial
    clear hK
    obtain ⟨va2,vc2,rfl⟩:=slice8 q2
    obtain ⟨PL,hPL⟩:∃ PL,PL=putQ L (ek,eb,ez) ((e1,m1,d1),(e2,m2,d2)):=⟨_,rfl⟩
    rw [← hPL] at q2 ⊢
    replace q2:=lower8 q2 (show w.heap.size+1≤w1.heap.size by omega)
    have hPm:PL.map (·.1)=putE (L.map (·.1)) (ek,eb,ez):=by rw [hPL,putQ_map]
    have hok2:memOk (PL.map (·.1))=true:=by rw [hPm];exact putE_ok hok heok (.inr (by rw [List.length_map];omega))
    have hln2:PL.length≤L.length+1:=by have h9:=putE_len (es:=L.map (·.1)) (e:=(ek,eb,ez));rw [← hPm,List.length_map,List.length_map] at h9;split at h9<;>omega
    replace hP:=hP.trans (Went.of_below hb)
    replace hS:=hS.belowD hb
    replace hC:=hC.went (Went.of_below hb) (by omega)
    replace pX:=pX.below hb
    replace pR:=pR.below hb
    have hLn:∀ x ∈ PL,OwnE w2 (w.heap.size+1) (.slice x.2.1.1 x.2.1.2.1 x.2.1.2.2) (.slice x.2.2.1 x.2.2.2.1 x.2.2.2.2) x.1∧x.1.fits:=fun x hx=>by
     rw [hPL] at hx
     rcases putQ_mem hx with h9 | h9
     ·exact ⟨(hL x h9).1.below hb,(hL x h9).2⟩
     ·rw [h9];exact ⟨hO1.below hb,hef⟩
    have hs2:=Nat.le_trans hs1 hb.size
    clear hb kP hO1 hL q hs1 hPL hPm hok hef heok
    have r0:=pX.cell 0
    have fr0:=pX.frozen 0
    have pZ:=pX.set 0 (.slice va2 PL.length vc2)
    simp only [List.set_cons_zero] at pZ
    have z0:=pZ.cell 0
    simp only [List.getElem?_cons_zero] at z0 r0
    have g9:=grownBy_set w2 (w.heap.size+1+1) 0 (.slice va2 PL.length vc2)
    replace hP:=hP.grown g9 (fun k e=>by cases e;omega)
    replace hS:=hS.grown g9 (fun k e=>by cases e;omega)
    replace hC:=hC.below (grown_below g9 (show p≤w.heap.size+1+1 by omega) (by omega))
    have q3:(w2.setCell ⟨w.heap.size+1+1,0,none⟩ (.slice va2 PL.length vc2)).ownsRow (w.heap.size+1) 33 3 (.slice va2 PL.length vc2) PL.length (entL PL):=ownsRow_setCell_other q2 (row_ne_blk q2 pX (by decide)) _
    have hL3:∀ x ∈ PL,OwnE (w2.setCell ⟨w.heap.size+1+1,0,none⟩ (.slice va2 PL.length vc2)) (w.heap.size+1) (.slice x.2.1.1 x.2.1.2.1 x.2.1.2.2) (.slice x.2.2.1 x.2.2.2.1 x.2.2.2.2) x.1∧x.1.fits:=fun x hx=>⟨(hLn x hx).1.setP (row_ne_blk (hLn x hx).1.1 pX (by decide)) (row_ne_blk (hLn x hx).1.2 pX (by decide)) _,(hLn x hx).2⟩
    have pR3:=pR.off ⟨w.heap.size+1+1,0,none⟩ (.slice va2 PL.length vc2) (by simp;omega)
    have hs3:w.heap.size+3≤(w2.setCell ⟨w.heap.size+1+1,0,none⟩ (.slice va2 PL.length vc2)).heap.size:=Nat.le_trans hs2 g9.size
    clear g9 q2 hLn pR
    refine tkz 4 (fun K hK=>?_)
    go_simp
    refine hK.out _ _ ?_ (fun hS4=>?_)
    ·exact trivial
    clear hK
    try simp only [Act.put,tka,tkb,tkc]
    refine wpAnyH_done (by kernel_rfl) ?_ _
    clear hS0 hS3 hS4 pX r0 fr0
    go_wp2
    go_roundw
    case rel=>exact ⟨i - 1,TT+600,PL,_,_,_,by go_num,by omega,by omega,by omega,rfl,hok2,q3,hL3,pZ,pR3,hS,hC,hP,hs3⟩
    case measure=>simp [intOf];omega
   ·skip
    go_simp
    refine kE.mono ?_
    rintro e w1 ⟨⟨en,es2,heok,hef,rfl,hO⟩,hS1,hW1⟩
    go_wp2_with fail
    refine hK.out _ _ trivial (fun hS2=>?_)
    clear hK hS2
    replace hP:=hP.trans hW1
    replace hS:=hS1
    replace hC:=hC.went hW1 (by omega)
    replace pX:=pX.went hW1 hnX
    replace pR:=pR.went hW1 hnR
    replace q:=owns_wn q hW1 (by omega)
    replace hL:=fun x hx=>(⟨(hL x hx).1.went9 hW1 (by omega),(hL x hx).2⟩:OwnE w1 (w.heap.size+1) (.slice x.2.1.1 x.2.1.2.1 x.2.1.2.2) (.slice x.2.2.1 x.2.2.2.1 x.2.2.2.2) x.1∧x.1.fits)
    have hO1:=hO.lower (show w.heap.size+1≤wr.drew.heap.size by omega)
    have hs1:w.heap.size+3≤w1.heap.size:=by have:=hW1.size;omega
    clear hW1 hS1 hO kE
    have hQ:=EntQ.of_owns q (fun x hx=>OwnE.mem (s:=x.2) (hL x hx).1 (hL x hx).2)
    have kP:=l10Put_row va L.length vc L en es2 w1 hQ (own_nil0 q) hok hef.1
    obtain ⟨ek,eb,ez⟩:=en
    obtain ⟨⟨e1,m1,d1⟩,⟨e2,m2,d2⟩⟩:=es2
    unfold entV at kP ⊢
    simp only at kP hO1 ⊢
    clear hQ
    have x0:=pX.cell 0
    simp only [List.getElem?_cons_zero] at x0
    refine tkr 0 13 (fun K hK=>?_)
    go_simp
    refine hK.out _ _ ?_ (fun hSa=>?_)
    ·exact trivial
    clear hK
    try simp only [Act.put,tka,tkb,tkc]
    clear x0 hSa
    refine tkr 3 16 (fun K hK=>?_)
    go_simp
    refine (kP).mono ?_
    rintro e w2 ⟨⟨v2,rfl,q2⟩,hb⟩
    go_wp2_with fail
    refine hK.out _ _ ?_ (fun hS3=>?_)
    ·exact trivial
    clear hK
    obtain ⟨va2,vc2,rfl⟩:=slice8 q2
    obtain ⟨PL,hPL⟩:∃ PL,PL=putQ L (ek,eb,ez) ((e1,m1,d1),(e2,m2,d2)):=⟨_,rfl⟩
    rw [← hPL] at q2 ⊢
    replace q2:=lower8 q2 (show w.heap.size+1≤w1.heap.size by omega)
    have hPm:PL.map (·.1)=putE (L.map (·.1)) (ek,eb,ez):=by rw [hPL,putQ_map]
    have hok2:memOk (PL.map (·.1))=true:=by rw [hPm];exact putE_ok hok heok (.inr (by rw [List.length_map];omega))
    have hln2:PL.length≤L.length+1:=by have h9:=putE_len (es:=L.map (·.1)) (e:=(ek,eb,ez));rw [← hPm,List.length_map,List.length_map] at h9;split at h9<;>omega
    replace hP:=hP.trans (Went.of_below hb)
    replace hS:=hS.belowD hb
    replace hC:=hC.went (Went.of_below hb) (by omega)
    replace pX:=pX.below hb
    replace pR:=pR.below hb
    have hLn:∀ x ∈ PL,OwnE w2 (w.heap.size+1) (.slice x.2.1.1 x.2.1.2.1 x.2.1.2.2) (.slice x.2.2.1 x.2.2.2.1 x.2.2.2.2) x.1∧x.1.fits:=fun x hx=>by
     rw [hPL] at hx
     rcases putQ_mem hx with h9 | h9
     ·exact ⟨(hL x h9).1.below hb,(hL x h9).2⟩
     ·rw [h9];exact ⟨hO1.below hb,hef⟩
    have hs2:=Nat.le_trans hs1 hb.size
    clear hb kP hO1 hL q hs1 hPL hPm hok hef heok
    have r0:=pX.cell 0
    have fr0:=pX.frozen 0
    have pZ:=pX.set 0 (.slice va2 PL.length vc2)
    simp only [List.set_cons_zero] at pZ
    have z0:=pZ.cell 0
    simp only [List.getElem?_cons_zero] at z0 r0
    have g9:=grownBy_set w2 (w.heap.size+1+1) 0 (.slice va2 PL.length vc2)
    replace hP:=hP.grown g9 (fun k e=>by cases e;omega)
    replace hS:=hS.grown g9 (fun k e=>by cases e;omega)
    replace hC:=hC.below (grown_below g9 (show p≤w.heap.size+1+1 by omega) (by omega))
    have q3:(w2.setCell ⟨w.heap.size+1+1,0,none⟩ (.slice va2 PL.length vc2)).ownsRow (w.heap.size+1) 33 3 (.slice va2 PL.length vc2) PL.length (entL PL):=ownsRow_setCell_other q2 (row_ne_blk q2 pX (by decide)) _
    have hL3:∀ x ∈ PL,OwnE (w2.setCell ⟨w.heap.size+1+1,0,none⟩ (.slice va2 PL.length vc2)) (w.heap.size+1) (.slice x.2.1.1 x.2.1.2.1 x.2.1.2.2) (.slice x.2.2.1 x.2.2.2.1 x.2.2.2.2) x.1∧x.1.fits:=fun x hx=>⟨(hLn x hx).1.setP (row_ne_blk (hLn x hx).1.1 pX (by decide)) (row_ne_blk (hLn x hx).1.2 pX (by decide)) _,(hLn x hx).2⟩
    have pR3:=pR.off ⟨w.heap.size+1+1,0,none⟩ (.slice va2 PL.length vc2) (by simp;omega)
    have hs3:w.heap.size+3≤(w2.setCell ⟨w.heap.size+1+1,0,none⟩ (.slice va2 PL.length vc2)).heap.size:=Nat.le_trans hs2 g9.size
    clear g9 q2 hLn pR
    refine tkz 4 (fun K hK=>?_)
    go_simp
    refine hK.out _ _ ?_ (fun hS4=>?_)
    ·exact trivial
    clear hK
    try simp only [Act.put,tka,tkb,tkc]
    refine wpAnyH_done (by kernel_rfl) ?_ _
    clear hS0 hS3 hS4 pX r0 fr0
    go_wp2
    go_roundw
    case rel=>exact ⟨i - 1,TT+600,PL,_,_,_,by go_num,by omega,by omega,by omega,rfl,hok2,q3,hL3,pZ,pR3,hS,hC,hP,hs3⟩
    case measure=>simp [intOf];omega
  ·obtain rfl:i=0:=by omega
   subst hvn
   have hQ:=EntQ.of_owns q (fun x hx=>OwnE.mem (s:=x.2) (hL x hx).1 (hL x hx).2)
   have kO:=l10Own_is va L.length vc (L.map (·.1)) wr hQ.ents hok
   have g0:=pX.cell 0
   simp only [List.getElem?_cons_zero] at g0
   clear hQ
   have hff:∀ e ∈ L.map (·.1),e.fits:=fun e he=>by
    obtain ⟨x,hx,rfl⟩:=List.mem_map.1 he
    exact (hL x hx).2
   have hml:(L.map (·.1)).length≤7:=by rw [List.length_map];omega
   generalize L.map (·.1)=es at *
   go_wp2_with fail
   refine kO.mono ?_
   rintro x w3 ⟨⟨v9,rfl,hM⟩,hb⟩
   obtain ⟨va9,vc9,rfl⟩:=hM.slice9
   replace hP:=hP.trans (Went.of_below hb)
   replace pR:=pR.below hb
   clear hb kO g0 pX q hL hS hC
   have r0:=pR.cell 0
   have fr0:=pR.frozen 0
   have pZ:=pR.set 0 (.slice va9 es.length vc9)
   simp only [List.set_cons_zero] at pZ
   have z0:=pZ.cell 0
   simp only [List.getElem?_cons_zero] at z0 r0
   have g9:=grownBy_set w3 w.heap.size 0 (.slice va9 es.length vc9)
   replace hP:=hP.grown g9 (fun k e=>by cases e;exact Nat.le_refl _)
   have hM9:=(hM.low (p:=⟨w.heap.size,0,none⟩) (show w.heap.size<wr.heap.size by omega) (.slice va9 es.length vc9)).lower (show w.heap.size≤wr.heap.size by omega)
   clear g9 pZ pR hM
   go_wp2
   refine bodyPost_ret (by simp [results,Tryz.results29,go_sem,z0];try rfl) rfl ?_
   exact ⟨MemDr.mk9 hok hff (by omega) hM9,hP⟩


theorem bel_dN (w:World) (n:Nat):Below w.heap.size w (w.drewN n):=⟨rfl,rfl,rfl,Nat.le_refl _,fun _ _=>rfl⟩

theorem equalI_is (a a':Option Addr) (len cap cap':Nat) (xs ys:List Int) (w:World) (h:Ints .i64 w a len cap xs) (h':Ints .i64 w a' len cap' ys) (hpos:len≠0) :
  Calls Tryz.prog 76 #[.slice a len cap,.slice a' len cap'] w fun e w'=>e=.returned (.bool (decide (xs=ys)))∧Below w.heap.size w w':=by
 obtain ⟨hl,hlc,hcm,hcase⟩:=h
 obtain ⟨hl',hlc',hcm',hcase'⟩:=h'
 unfold maxLen at hcm hcm'
 rcases hcase with h0' | ⟨b,off,rfl,hblt,hcell⟩
 ·exact absurd h0' hpos
 rcases hcase' with h0' | ⟨b',off',rfl,hblt',hcell'⟩
 ·exact absurd h0' hpos
 have hne:((len:Int) != (len:Int))=false:=by simp
 obtain ⟨fin,hfin⟩:∃ fin,fin=decide (xs=ys):=⟨_,rfl⟩
 rw [← hfin]
 have HF:Hid (fin=decide (xs=ys)):=hfin
 clear hfin
 go_enter Tryz.func76,Tryz.ntmps76
 go_wp2
 go_loopw [13] (fun si wr=>∃ (k:Nat),k≤len∧si=.int .i64 k∧Hid (xs.take k=ys.take k)∧Below w.heap.size w wr) (fun si _=>len - (intOf si).toNat)
 case atStart=>exact ⟨0,by omega,rfl,by simp [Hid],Below.refl _ _⟩
 case round =>
  obtain ⟨k,hk,rfl,hH',hbel⟩:=hrel
  by_cases hlt:k<len
  ·have c0:=hcell k hlt
   have e0:=hcell' k hlt
   rw [← hbel.cell (p:=⟨b,_,none⟩) hblt] at c0
   rw [← hbel.cell (p:=⟨b',_,none⟩) hblt'] at e0
   have hlt':(k:Int)<(len:Int):=by omega
   have hk0:(0:Int)≤(k:Int):=by omega
   have hxg:Hid (xs.getD k 0=xs[k]'(by omega)∧ys.getD k 0=ys[k]'(by omega)):=⟨by simp [List.getD,hl,hlt],by simp [List.getD,hl',hlt]⟩
   by_cases hxy:xs.getD k 0=ys.getD k 0
   ·have hH2:Hid (xs.take (k+1)=ys.take (k+1)):=by
     rw [Hid,List.take_succ_eq_append_getElem (by omega),List.take_succ_eq_append_getElem (by omega),hH'.out,← hxg.out.1,← hxg.out.2,hxy]
    rw [← hxy] at e0
    clear hcell hcell' hxg hxy hH'
    generalize xs.getD k 0=x at c0 e0
    have hxx:(x != x)=false:=by simp
    go_wp2_with fail
    go_quiet (fail)
    have hb2:Below w.heap.size w (wr.drewN nq):=bel_trans hbel (bel_dN _ _)
    go_wp2
    go_roundw
    case rel=>exact ⟨k+1,by omega,by go_num,hH2,hb2⟩
    case measure=>simp [intOf];omega
   ·obtain rfl:fin=false:=by
     rw [HF.out,decide_eq_false_iff_not]
     intro h
     subst h
     exact hxy rfl
    clear hcell hcell' hxg hH' HF
    generalize xs.getD k 0=x at c0 hxy
    generalize ys.getD k 0=y at e0 hxy
    have hxx:(x != y)=true:=by simp [hxy]
    have hb2:∀ nq,Below w.heap.size w (wr.drewN nq):=fun nq=>bel_trans hbel (bel_dN _ _)
    go_wp2_with fail
    go_quiet (fail)
    go_wp2
    go_ret
    exact ⟨rfl,hb2 _⟩
  ·obtain rfl:k=len:=by omega
   obtain rfl:fin=true:=by
    rw [HF.out,decide_eq_true_eq]
    have h9:=hH'.out
    rwa [List.take_of_length_le (by omega),List.take_of_length_le (by omega)] at h9
   clear hcell hcell' hH' HF
   go_wp2
   go_ret
   exact ⟨rfl,hbel⟩


theorem bel_drewN9 (w:World) (n:Nat):Below w.heap.size w (w.drewN n):=⟨rfl,rfl,rfl,Nat.le_refl _,fun _ _=>rfl⟩

theorem eqlB_is (a a':Option Addr) (len len' cap cap':Nat) (xs ys:List I3) (w:World) (h:Instrs w a len cap xs) (h':Instrs w a' len' cap' ys) (hlen:len=len') (hpos:len≠0) :
  Calls Tryz.prog 75 #[.slice a len cap,.slice a' len' cap'] w fun e w'=>e=.returned (.bool (decide (xs=ys)))∧Below w.heap.size w w':=by
 subst hlen
 obtain ⟨hl,hlc,hcm,_,hcase⟩:=h
 obtain ⟨hl',hlc',hcm',_,hcase'⟩:=h'
 unfold maxLen at hcm hcm'
 rcases hcase with h0' | ⟨b,off,rfl,hblt,hcell⟩
 ·exact absurd h0' hpos
 rcases hcase' with h0' | ⟨b',off',rfl,hblt',hcell'⟩
 ·exact absurd h0' hpos
 have hne:((len:Int) != (len:Int))=false:=by simp
 go_enter Tryz.func75,Tryz.ntmps75
 go_wp2
 go_loopw [13] (fun si wr=>∃ (k:Nat),k≤len∧si=.int .i64 k∧xs.take k=ys.take k∧Below w.heap.size w wr) (fun si _=>len - (intOf si).toNat)
 case atStart=>exact ⟨0,by omega,rfl,by simp,Below.refl _ _⟩
 case round =>
  obtain ⟨k,hk,rfl,hH,hbel⟩:=hrel
  have hH':Hid (xs.take k=ys.take k):=hH
  clear hH
  by_cases hlt:k<len
  ·obtain ⟨c0,c1,c2⟩:=hcell k hlt
   obtain ⟨e0,e1,e2⟩:=hcell' k hlt
   rw [← hbel.cell (p:=⟨b,_,none⟩) hblt] at c0 c1 c2
   rw [← hbel.cell (p:=⟨b',_,none⟩) hblt'] at e0 e1 e2
   have hlt':(k:Int)<(len:Int):=by omega
   have hk0:(0:Int)≤(k:Int):=by omega
   have hxg:Hid (xs.getD k (0,0,0)=xs[k]'(by omega)∧ys.getD k (0,0,0)=ys[k]'(by omega)):=⟨by simp [List.getD,hl,hlt],by simp [List.getD,hl',hlt]⟩
   by_cases hxy:xs.getD k (0,0,0)=ys.getD k (0,0,0)
   ·have hH2:Hid (xs.take (k+1)=ys.take (k+1)):=by
     rw [Hid,List.take_succ_eq_append_getElem (by omega),List.take_succ_eq_append_getElem (by omega),hH'.out,← hxg.out.1,← hxg.out.2,hxy]
    rw [← hxy] at e0 e1 e2
    clear hcell hcell' hxg hxy hH'
    generalize xs.getD k (0,0,0)=x at c0 c1 c2 e0 e1 e2
    obtain ⟨x0,x1,x2⟩:=x
    simp only [] at c0 c1 c2 e0 e1 e2
    go_wp2_with fail
    go_quiet (fail)
    have hb2:Below w.heap.size w (wr.drewN nq):=bel_trans hbel (bel_drewN9 _ _)
    go_wp2
    go_roundw
    case rel=>exact ⟨k+1,by omega,by go_num,hH2.out,hb2⟩
    case measure=>simp [intOf];omega
   ·have hff:Hid (decide (xs=ys)=false):=by
     rw [Hid,decide_eq_false_iff_not]
     intro h
     subst h
     exact hxy rfl
    clear hcell hcell' hxg hH'
    generalize xs.getD k (0,0,0)=x at c0 c1 c2 hxy
    generalize ys.getD k (0,0,0)=y at e0 e1 e2 hxy
    obtain ⟨x0,x1,x2⟩:=x
    obtain ⟨y0,y1,y2⟩:=y
    simp only [] at c0 c1 c2 e0 e1 e2
    have hb2:∀ nq,Below w.heap.size w (wr.drewN nq):=fun nq=>bel_trans hbel (bel_drewN9 _ _)
    by_cases h0:x0=y0
    ·subst h0
     by_cases h1:x1=y1
     ·subst h1
      have h2:(x2 == y2)=false:=by
       simp only [beq_eq_false_iff_ne]
       intro h
       exact hxy (by rw [h])
      clear hxy
      go_wp2_with fail
      go_quiet (fail)
      go_wp2
      go_ret
      exact ⟨by rw [hff.out];rfl,hb2 _⟩
     ·have h1':(x1 == y1)=false:=by simpa using h1
      clear hxy
      go_wp2_with fail
      go_quiet (fail)
      go_wp2
      go_ret
      exact ⟨by rw [hff.out];rfl,hb2 _⟩
    ·have h0':(x0 == y0)=false:=by simpa using h0
     clear hxy
     go_wp2_with fail
     go_quiet (fail)
     go_wp2
     go_ret
     exact ⟨by rw [hff.out];rfl,hb2 _⟩
  ·obtain rfl:k=len:=by omega
   have hff:decide (xs=ys)=true:=by
    have:=hH'.out
    rw [List.take_of_length_le (by omega),List.take_of_length_le (by omega)] at this
    simpa using this
   clear hcell hcell' hH'
   go_wp2
   go_ret
   exact ⟨by rw [hff];rfl,hbel⟩

theorem eqlB_lens (a a':Option Addr) (len len' cap cap':Nat) (w:World) (hlen:len≠len') :
  Calls Tryz.prog 75 #[.slice a len cap,.slice a' len' cap'] w fun e w'=>e=.returned (.bool false)∧Below w.heap.size w w':=by
 have hne:((len:Int) != (len':Int))=true:=by simp;omega
 go_enter Tryz.func75,Tryz.ntmps75
 go_wp2
 go_ret
 exact ⟨rfl,Below.refl _ _⟩
theorem eqlB_none (a a':Option Addr) (cap cap':Nat) (w:World) :
  Calls Tryz.prog 75 #[.slice a 0 cap,.slice a' 0 cap'] w fun e w'=>e=.returned (.bool true)∧Below w.heap.size w w':=by
 go_enter Tryz.func75,Tryz.ntmps75
 go_wp2
 refine wp_loop_rounds 1 ?_
 rw [rounds_succ]
 go_wp2
 go_ret
 exact ⟨rfl,Below.refl _ _⟩
theorem eqlB_any (a a':Option Addr) (len len' cap cap':Nat) (xs ys:List I3) (w:World) (h:Instrs w a len cap xs) (h':Instrs w a' len' cap' ys) :
  Calls Tryz.prog 75 #[.slice a len cap,.slice a' len' cap'] w fun e w'=>e=.returned (.bool (decide (xs=ys)))∧Below w.heap.size w w':=by
 by_cases hl:len=len'
 ·by_cases h0:len=0
  ·subst h0
   subst hl
   obtain rfl:xs=[]:=List.length_eq_zero_iff.1 h.1
   obtain rfl:ys=[]:=List.length_eq_zero_iff.1 h'.1
   simpa using eqlB_none a a' cap cap' w
  ·exact eqlB_is a a' len len' cap cap' xs ys w h h' hl h0
 ·have hd:decide (xs=ys)=false:=by
   rw [decide_eq_false_iff_not]
   intro e
   subst e
   exact hl (h.1.symm.trans h'.1)
  rw [hd]
  exact eqlB_lens a a' len len' cap cap' w hl
theorem eqlI_lens (a a':Option Addr) (len len' cap cap':Nat) (w:World) (hlen:len≠len') :
  Calls Tryz.prog 76 #[.slice a len cap,.slice a' len' cap'] w fun e w'=>e=.returned (.bool false)∧Below w.heap.size w w':=by
 have hne:((len:Int) != (len':Int))=true:=by simp;omega
 go_enter Tryz.func76,Tryz.ntmps76
 go_wp2
 go_ret
 exact ⟨rfl,Below.refl _ _⟩
theorem eqlI_none (a a':Option Addr) (cap cap':Nat) (w:World) :
  Calls Tryz.prog 76 #[.slice a 0 cap,.slice a' 0 cap'] w fun e w'=>e=.returned (.bool true)∧Below w.heap.size w w':=by
 go_enter Tryz.func76,Tryz.ntmps76
 go_wp2
 refine wp_loop_rounds 1 ?_
 rw [rounds_succ]
 go_wp2
 go_ret
 exact ⟨rfl,Below.refl _ _⟩
theorem eqlI_any (a a':Option Addr) (len len' cap cap':Nat) (xs ys:List Int) (w:World) (h:Ints .i64 w a len cap xs) (h':Ints .i64 w a' len' cap' ys) :
  Calls Tryz.prog 76 #[.slice a len cap,.slice a' len' cap'] w fun e w'=>e=.returned (.bool (decide (xs=ys)))∧Below w.heap.size w w':=by
 by_cases hl:len=len'
 ·by_cases h0:len=0
  ·subst h0
   subst hl
   obtain rfl:xs=[]:=List.length_eq_zero_iff.1 h.1
   obtain rfl:ys=[]:=List.length_eq_zero_iff.1 h'.1
   simpa using eqlI_none a a' cap cap' w
  ·exact (by subst hl;exact equalI_is a a' len cap cap' xs ys w h h' h0)
 ·have hd:decide (xs=ys)=false:=by
   rw [decide_eq_false_iff_not]
   intro e
   subst e
   exact hl (h.1.symm.trans h'.1)
  rw [hd]
  exact eqlI_lens a a' len len' cap cap' w hl
end Go.Proofs.YthmgampabhbpoaaGreatDoor
