/-
  Joined: MmoD, SameVmI, EqlB, NumOK, PackList, Lists, PackRead, NumbersPlain, TxeP, PackListI, TxeI, SmeI.
-/
import Derived.Laws.StructEq
import Derived.Test.YtbdfbdbpjijcdaaGreatDoorM37
import Derived.Test.YtbdfbdbpjijcdaaGreatDoorM40

namespace Go.Proofs.YtbdfbdbpjijcdaaGreatDoor
set_option maxRecDepth 100000
set_option maxHeartbeats 16000000
open Go.RowKit
set_option linter.unusedVariables false
set_option linter.unusedSimpArgs false

theorem row_ne_blk {w:World} {B e s n X t:Nat} {v:Value} {xs cs:List Value} (h:w.ownsRow B e s v n xs) (hb:Blk w X t cs) (hne:e≠t):v.ownBlock≠some X:=by
 rcases h.2 with ⟨rfl,_⟩ | ⟨g,cap,cur,rfl,_,hg,_⟩
 ·simp [Value.ownBlock]
 ·intro h9
  simp [Value.ownBlock] at h9
  subst h9
  unfold Blk at hb
  rw [hg] at hb
  simp at hb
  exact hne hb.2
theorem OwnE.went9 {p:Nat} {w w':World} {B:Nat} {vb vf:Value} {e:E3} (h:OwnE w B vb vf e) (hw:Went p w w') (hp:p<B):OwnE w' B vb vf e:=⟨owns_wn h.1 hw hp,owns_wn h.2 hw hp⟩
def MemDr (x:Ending) (w':World) (B:Nat):Prop:=∃ (es:List E3) (v:Value),memOk es=true∧(∀ e ∈ es,e.fits)∧es.length≤7∧x=.returned (.agg #[v])∧OwnM w' B v es
theorem MemDr.mk9 {w':World} {B:Nat} {es:List E3} {v:Value} (h1:memOk es=true) (h2:∀ e ∈ es,e.fits) (h3:es.length≤7) (h4:OwnM w' B v es):MemDr (.returned (.agg #[v])) w' B:=⟨es,v,h1,h2,h3,rfl,h4⟩

theorem memo_any (p T:Nat) (a:Option Addr) (n cap:Nat) (w:World) (hS:Src w p (.slice a n cap) T) (hC:Code w p a n cap) (hT:T≤400000) :
  Calls Tryz.prog 70 #[.pointer (some ⟨p,0,none⟩)] w fun e w'=>MemDr e w' w.heap.size∧Went p w w':=by
 have hpw:p<w.heap.size:=hS.lt
 have hP:Went p w (((w.alloc (.cells #[.slice none 0 0] 33)).alloc (.cells #[] 45)).alloc (.cells #[.slice (some ⟨w.heap.size+1,0,none⟩) 0 0] 33)):=(((Went.refl p w).alloc _).alloc _).alloc _
 have pR:Blk (((w.alloc (.cells #[.slice none 0 0] 33)).alloc (.cells #[] 45)).alloc (.cells #[.slice (some ⟨w.heap.size+1,0,none⟩) 0 0] 33)) w.heap.size 33 [.slice none 0 0]:=blkOld _ (blkOld _ (blkAt _ _ _ rfl))
 have pX:Blk (((w.alloc (.cells #[.slice none 0 0] 33)).alloc (.cells #[] 45)).alloc (.cells #[.slice (some ⟨w.heap.size+1,0,none⟩) 0 0] 33)) (w.heap.size+1+1) 33 [.slice (some ⟨w.heap.size+1,0,none⟩) 0 0]:=blkAt _ _ _ (by simp)
 have q0:(((w.alloc (.cells #[.slice none 0 0] 33)).alloc (.cells #[] 45)).alloc (.cells #[.slice (some ⟨w.heap.size+1,0,none⟩) 0 0] 33)).ownsRow (w.heap.size+1) 45 3 (.slice (some ⟨w.heap.size+1,0,none⟩) 0 0) 0 (entL []):=by
  have h9:=empty8 (w.alloc (.cells #[.slice none 0 0] 33)) 45 3 (w.heap.size+1) (by simp)
  have h8:=owns8 h9 (show Below _ _ ((w.alloc (.cells #[.slice none 0 0] 33)).alloc (.cells #[] 45)|>.alloc (.cells #[.slice (some ⟨w.heap.size+1,0,none⟩) 0 0] 33)) by go_grown)
  simpa [entL] using h8
 have hS1:=((hS.alloc (.cells #[.slice none 0 0] 33)).alloc (.cells #[] 45)).alloc (.cells #[.slice (some ⟨w.heap.size+1,0,none⟩) 0 0] 33)
 have hC1:=hC.went hP (Nat.le_of_lt hpw)
 have hsw0:w.heap.size+3≤(((w.alloc (.cells #[.slice none 0 0] 33)).alloc (.cells #[] 45)).alloc (.cells #[.slice (some ⟨w.heap.size+1,0,none⟩) 0 0] 33)).heap.size:=by simp
 have hnX:w.heap.size+1+1≠p:=by omega
 have hnR:w.heap.size≠p:=by omega
 go_enter Tryz.func70,Tryz.ntmps70
 go_wp2_with fail
 generalize (((w.alloc (.cells #[.slice none 0 0] 33)).alloc (.cells #[] 45)).alloc (.cells #[.slice (some ⟨w.heap.size+1,0,none⟩) 0 0] 33))=W1 at *
 refine (next_any p T a n cap 7 W1 hS1 hC1 (by omega) (by omega)).mono ?_
 rintro x w2 ⟨⟨v,hv,rfl⟩,hS2,hWn⟩
 replace hP:=hP.trans hWn
 replace pR:=pR.went hWn hnR
 replace pX:=pX.went hWn hnX
 replace q0:=owns_wn q0 hWn (by omega)
 replace hC1:=hC1.went hWn (by omega)
 replace hsw0:=Nat.le_trans hsw0 hWn.size
 have hv6:v≤7:=by omega
 clear hWn hS1 hv
 go_wp2_with fail
 go_loopw [4] (fun si wr=>∃ (i TT:Nat) (L:List EQ) (va:Option Addr) (vn vc:Nat),si=.int .i64 i∧i≤7∧L.length+i≤7∧TT≤T+3+(7 - i)*600∧vn=L.length∧memOk (L.map (·.1))=true∧wr.ownsRow (w.heap.size+1) 45 3 (.slice va vn vc) L.length (entL L)∧(∀ x ∈ L,OwnE wr (w.heap.size+1) (.slice x.2.1.1 x.2.1.2.1 x.2.1.2.2) (.slice x.2.2.1 x.2.2.2.1 x.2.2.2.2) x.1∧x.1.fits)∧Blk wr (w.heap.size+1+1) 33 [.slice va vn vc]∧Blk wr w.heap.size 33 [.slice none 0 0]∧Src wr p (.slice a n cap) TT∧Code wr p a n cap∧Went p w wr∧w.heap.size+3≤wr.heap.size) (fun si _=>(intOf si).toNat)
 case atStart=>exact ⟨v,T+3,[],_,_,_,rfl,hv6,by simpa using hv6,by omega,rfl,rfl,q0,by simp,pX,pR,hS2,hC1,hP,hsw0⟩
 case round =>
  clear hP pR pX q0 hC1 hS2 hsw0 hv6
  obtain ⟨i,TT,L,va,vn,vc,rfl,hi,hLi,hTT,hvn,hok,q,hL,pX,pR,hS,hC,hP,hsw⟩:=hrel
  by_cases hi0:0<i
  ·have hip:(0:Int)<(i:Int):=by omega
   have bd:Below wr.heap.size wr wr.drew:=by go_grown
   replace hP:=hP.trans (Went.of_below bd)
   replace hS:=hS.belowD bd
   replace hC:=hC.went (Went.of_below bd) (by omega)
   replace pX:=pX.below bd
   replace pR:=pR.below bd
   replace q:=owns8 q bd
   replace hL:=fun x hx=>(⟨(hL x hx).1.below bd,(hL x hx).2⟩:OwnE wr.drew (w.heap.size+1) (.slice x.2.1.1 x.2.1.2.1 x.2.1.2.2) (.slice x.2.2.1 x.2.2.2.1 x.2.2.2.2) x.1∧x.1.fits)
   replace hsw:=Nat.le_trans hsw bd.size
   have kE:=entry_any p TT a n cap wr.drew hS hC (by omega)
   clear bd
   subst hvn
   go_wp2_with fail
   refine wp_region_held_drew (S:=(fun _=>True)) (by kernel_rfl) trivial (fun hS0=>?_)
   refine tkx 1 14 (.pointer (some ⟨p,0,none⟩)) ?_ ?_
   ·(intro w' hSw;(try dsimp only at hSw);go_simp;first | done | rfl | omega | (intro h9;omega) | (rw [IntKind.wrap_i64];omega))
   simp only [Act.put,tka,tkb,tkc]
   refine wpAnyH_ready (rs:=[0,2]) (by kernel_rfl) (by simp) ?_
   refine AllReadyH.cons (o:=⟨some 13,_,_,_,_,_⟩) rfl (fun K hK=>?_) (AllReadyH.cons (o:=⟨some 15,_,_,_,_,_⟩) rfl (fun K hK=>?_) AllReadyH.nil)
   ·skip
    have x0:=pX.cell 0
    simp only [List.getElem?_cons_zero] at x0
    go_simp
    refine hK.out _ _ trivial (fun hSa=>?_)
    clear hK x0 hSa
    try simp only [Act.put,tka,tkb,tkc]
    refine tkr 2 15 (fun K hK=>?_)
    go_simp
    refine (kE).mono ?_
    rintro e w1 ⟨⟨en,es2,heok,hef,rfl,hO⟩,hS1,hW1⟩
    go_wp2_with fail
    refine hK.out _ _ ?_ (fun hS2=>?_)
    ·exact trivial
    clear hK
    clear hS2
    replace hP:=hP.trans hW1
    replace hS:=hS1
    replace hC:=hC.went hW1 (by omega)
    replace pX:=pX.went hW1 hnX
    replace pR:=pR.went hW1 hnR
    replace q:=owns_wn q hW1 (by omega)
    replace hL:=fun x hx=>(⟨(hL x hx).1.went9 hW1 (by omega),(hL x hx).2⟩:OwnE w1 (w.heap.size+1) (.slice x.2.1.1 x.2.1.2.1 x.2.1.2.2) (.slice x.2.2.1 x.2.2.2.1 x.2.2.2.2) x.1∧x.1.fits)
    have hO1:=hO.lower (show w.heap.size+1≤wr.drew.heap.size by omega)
    have hs1:w.heap.size+3≤w1.heap.size:=by have:=hW1.size;omega
    clear hW1 hS1 hO kE
    have hQ:=EntQ.of_owns q (fun x hx=>OwnE.mem (s:=x.2) (hL x hx).1 (hL x hx).2)
    have kP:=l10Put_row va L.length vc L en es2 w1 hQ (own_nil0 q) hok hef.1
    obtain ⟨ek,eb,ez⟩:=en
    obtain ⟨⟨e1,m1,d1⟩,⟨e2,m2,d2⟩⟩:=es2
    unfold entV at kP ⊢
    simp only at kP hO1 ⊢
    clear hQ
    refine tkr 3 16 (fun K hK=>?_)
    go_simp
    refine (kP).mono ?_
    rintro e w2 ⟨⟨v2,rfl,q2⟩,hb⟩
    go_wp2_with fail
    refine hK.out _ _ ?_ (fun hS3=>?_)
    ·exact trivial
    clear hK
    obtain ⟨va2,vc2,rfl⟩:=slice8 q2
    obtain ⟨PL,hPL⟩:∃ PL,PL=putQ L (ek,eb,ez) ((e1,m1,d1),(e2,m2,d2)):=⟨_,rfl⟩
    rw [← hPL] at q2 ⊢
    replace q2:=lower8 q2 (show w.heap.size+1≤w1.heap.size by omega)
    have hPm:PL.map (·.1)=putE (L.map (·.1)) (ek,eb,ez):=by rw [hPL,putQ_map]
    have hok2:memOk (PL.map (·.1))=true:=by rw [hPm];exact putE_ok hok heok (.inr (by rw [List.length_map];omega))
    have hln2:PL.length≤L.length+1:=by have h9:=putE_len (es:=L.map (·.1)) (e:=(ek,eb,ez));rw [← hPm,List.length_map,List.length_map] at h9;split at h9<;>omega
    replace hP:=hP.trans (Went.of_below hb)
    replace hS:=hS.belowD hb
    replace hC:=hC.went (Went.of_below hb) (by omega)
    replace pX:=pX.below hb
    replace pR:=pR.below hb
    have hLn:∀ x ∈ PL,OwnE w2 (w.heap.size+1) (.slice x.2.1.1 x.2.1.2.1 x.2.1.2.2) (.slice x.2.2.1 x.2.2.2.1 x.2.2.2.2) x.1∧x.1.fits:=fun x hx=>by
     rw [hPL] at hx
     rcases putQ_mem hx with h9 | h9
     ·exact ⟨(hL x h9).1.below hb,(hL x h9).2⟩
     ·rw [h9];exact ⟨hO1.below hb,hef⟩
    have hs2:=Nat.le_trans hs1 hb.size
    clear hb kP hO1 hL q hs1 hPL hPm hok hef heok
    have r0:=pX.cell 0
    have fr0:=pX.frozen 0
    have pZ:=pX.set 0 (.slice va2 PL.length vc2)
    simp only [List.set_cons_zero] at pZ
    have z0:=pZ.cell 0
    simp only [List.getElem?_cons_zero] at z0 r0
    have g9:=grownBy_set w2 (w.heap.size+1+1) 0 (.slice va2 PL.length vc2)
    replace hP:=hP.grown g9 (fun k e=>by cases e;omega)
    replace hS:=hS.grown g9 (fun k e=>by cases e;omega)
    replace hC:=hC.below (grown_below g9 (show p≤w.heap.size+1+1 by omega) (by omega))
    have q3:(w2.setCell ⟨w.heap.size+1+1,0,none⟩ (.slice va2 PL.length vc2)).ownsRow (w.heap.size+1) 45 3 (.slice va2 PL.length vc2) PL.length (entL PL):=ownsRow_setCell_other q2 (row_ne_blk q2 pX (by decide)) _
    have hL3:∀ x ∈ PL,OwnE (w2.setCell ⟨w.heap.size+1+1,0,none⟩ (.slice va2 PL.length vc2)) (w.heap.size+1) (.slice x.2.1.1 x.2.1.2.1 x.2.1.2.2) (.slice x.2.2.1 x.2.2.2.1 x.2.2.2.2) x.1∧x.1.fits:=fun x hx=>⟨(hLn x hx).1.setP (row_ne_blk (hLn x hx).1.1 pX (by decide)) (row_ne_blk (hLn x hx).1.2 pX (by decide)) _,(hLn x hx).2⟩
    have pR3:=pR.off ⟨w.heap.size+1+1,0,none⟩ (.slice va2 PL.length vc2) (by simp;omega)
    have hs3:w.heap.size+3≤(w2.setCell ⟨w.heap.size+1+1,0,none⟩ (.slice va2 PL.length vc2)).heap.size:=Nat.le_trans hs2 g9.size
    clear g9 q2 hLn pR
    refine tkz 4 (fun K hK=>?_)
    go_simp
    refine hK.out _ _ ?_ (fun hS4=>?_)
    ·exact trivial
    clear hK
    try simp only [Act.put,tka,tkb,tkc]
    refine wpAnyH_done (by kernel_rfl) ?_ _
    clear hS0 hS3 hS4 pX r0 fr0
    go_wp2
    go_roundw
    case rel=>exact ⟨i - 1,TT+600,PL,_,_,_,by go_num,by omega,by omega,by omega,rfl,hok2,q3,hL3,pZ,pR3,hS,hC,hP,hs3⟩
    case measure=>simp [intOf];omega
   ·skip
    go_simp
    refine kE.mono ?_
    rintro e w1 ⟨⟨en,es2,heok,hef,rfl,hO⟩,hS1,hW1⟩
    go_wp2_with fail
    refine hK.out _ _ trivial (fun hS2=>?_)
    clear hK hS2
    replace hP:=hP.trans hW1
    replace hS:=hS1
    replace hC:=hC.went hW1 (by omega)
    replace pX:=pX.went hW1 hnX
    replace pR:=pR.went hW1 hnR
    replace q:=owns_wn q hW1 (by omega)
    replace hL:=fun x hx=>(⟨(hL x hx).1.went9 hW1 (by omega),(hL x hx).2⟩:OwnE w1 (w.heap.size+1) (.slice x.2.1.1 x.2.1.2.1 x.2.1.2.2) (.slice x.2.2.1 x.2.2.2.1 x.2.2.2.2) x.1∧x.1.fits)
    have hO1:=hO.lower (show w.heap.size+1≤wr.drew.heap.size by omega)
    have hs1:w.heap.size+3≤w1.heap.size:=by have:=hW1.size;omega
    clear hW1 hS1 hO kE
    have hQ:=EntQ.of_owns q (fun x hx=>OwnE.mem (s:=x.2) (hL x hx).1 (hL x hx).2)
    have kP:=l10Put_row va L.length vc L en es2 w1 hQ (own_nil0 q) hok hef.1
    obtain ⟨ek,eb,ez⟩:=en
    obtain ⟨⟨e1,m1,d1⟩,⟨e2,m2,d2⟩⟩:=es2
    unfold entV at kP ⊢
    simp only at kP hO1 ⊢
    clear hQ
    have x0:=pX.cell 0
    simp only [List.getElem?_cons_zero] at x0
    refine tkr 0 13 (fun K hK=>?_)
    go_simp
    refine hK.out _ _ ?_ (fun hSa=>?_)
    ·exact trivial
    clear hK
    try simp only [Act.put,tka,tkb,tkc]
    clear x0 hSa
    refine tkr 3 16 (fun K hK=>?_)
    go_simp
    refine (kP).mono ?_
    rintro e w2 ⟨⟨v2,rfl,q2⟩,hb⟩
    go_wp2_with fail
    refine hK.out _ _ ?_ (fun hS3=>?_)
    ·exact trivial
    clear hK
    obtain ⟨va2,vc2,rfl⟩:=slice8 q2
    obtain ⟨PL,hPL⟩:∃ PL,PL=putQ L (ek,eb,ez) ((e1,m1,d1),(e2,m2,d2)):=⟨_,rfl⟩
    rw [← hPL] at q2 ⊢
    replace q2:=lower8 q2 (show w.heap.size+1≤w1.heap.size by omega)
    have hPm:PL.map (·.1)=putE (L.map (·.1)) (ek,eb,ez):=by rw [hPL,putQ_map]
    have hok2:memOk (PL.map (·.1))=true:=by rw [hPm];exact putE_ok hok heok (.inr (by rw [List.length_map];omega))
    have hln2:PL.length≤L.length+1:=by have h9:=putE_len (es:=L.map (·.1)) (e:=(ek,eb,ez));rw [← hPm,List.length_map,List.length_map] at h9;split at h9<;>omega
    replace hP:=hP.trans (Went.of_below hb)
    replace hS:=hS.belowD hb
    replace hC:=hC.went (Went.of_below hb) (by omega)
    replace pX:=pX.below hb
    replace pR:=pR.below hb
    have hLn:∀ x ∈ PL,OwnE w2 (w.heap.size+1) (.slice x.2.1.1 x.2.1.2.1 x.2.1.2.2) (.slice x.2.2.1 x.2.2.2.1 x.2.2.2.2) x.1∧x.1.fits:=fun x hx=>by
     rw [hPL] at hx
     rcases putQ_mem hx with h9 | h9
     ·exact ⟨(hL x h9).1.below hb,(hL x h9).2⟩
     ·rw [h9];exact ⟨hO1.below hb,hef⟩
    have hs2:=Nat.le_trans hs1 hb.size
    clear hb kP hO1 hL q hs1 hPL hPm hok hef heok
    have r0:=pX.cell 0
    have fr0:=pX.frozen 0
    have pZ:=pX.set 0 (.slice va2 PL.length vc2)
    simp only [List.set_cons_zero] at pZ
    have z0:=pZ.cell 0
    simp only [List.getElem?_cons_zero] at z0 r0
    have g9:=grownBy_set w2 (w.heap.size+1+1) 0 (.slice va2 PL.length vc2)
    replace hP:=hP.grown g9 (fun k e=>by cases e;omega)
    replace hS:=hS.grown g9 (fun k e=>by cases e;omega)
    replace hC:=hC.below (grown_below g9 (show p≤w.heap.size+1+1 by omega) (by omega))
    have q3:(w2.setCell ⟨w.heap.size+1+1,0,none⟩ (.slice va2 PL.length vc2)).ownsRow (w.heap.size+1) 45 3 (.slice va2 PL.length vc2) PL.length (entL PL):=ownsRow_setCell_other q2 (row_ne_blk q2 pX (by decide)) _
    have hL3:∀ x ∈ PL,OwnE (w2.setCell ⟨w.heap.size+1+1,0,none⟩ (.slice va2 PL.length vc2)) (w.heap.size+1) (.slice x.2.1.1 x.2.1.2.1 x.2.1.2.2) (.slice x.2.2.1 x.2.2.2.1 x.2.2.2.2) x.1∧x.1.fits:=fun x hx=>⟨(hLn x hx).1.setP (row_ne_blk (hLn x hx).1.1 pX (by decide)) (row_ne_blk (hLn x hx).1.2 pX (by decide)) _,(hLn x hx).2⟩
    have pR3:=pR.off ⟨w.heap.size+1+1,0,none⟩ (.slice va2 PL.length vc2) (by simp;omega)
    have hs3:w.heap.size+3≤(w2.setCell ⟨w.heap.size+1+1,0,none⟩ (.slice va2 PL.length vc2)).heap.size:=Nat.le_trans hs2 g9.size
    clear g9 q2 hLn pR
    refine tkz 4 (fun K hK=>?_)
    go_simp
    refine hK.out _ _ ?_ (fun hS4=>?_)
    ·exact trivial
    clear hK
    try simp only [Act.put,tka,tkb,tkc]
    refine wpAnyH_done (by kernel_rfl) ?_ _
    clear hS0 hS3 hS4 pX r0 fr0
    go_wp2
    go_roundw
    case rel=>exact ⟨i - 1,TT+600,PL,_,_,_,by go_num,by omega,by omega,by omega,rfl,hok2,q3,hL3,pZ,pR3,hS,hC,hP,hs3⟩
    case measure=>simp [intOf];omega
  ·obtain rfl:i=0:=by omega
   subst hvn
   have hQ:=EntQ.of_owns q (fun x hx=>OwnE.mem (s:=x.2) (hL x hx).1 (hL x hx).2)
   have kO:=l10Own_is va L.length vc (L.map (·.1)) wr hQ.ents hok
   have g0:=pX.cell 0
   simp only [List.getElem?_cons_zero] at g0
   clear hQ
   have hff:∀ e ∈ L.map (·.1),e.fits:=fun e he=>by
    obtain ⟨x,hx,rfl⟩:=List.mem_map.1 he
    exact (hL x hx).2
   have hml:(L.map (·.1)).length≤7:=by rw [List.length_map];omega
   generalize L.map (·.1)=es at *
   go_wp2_with fail
   refine kO.mono ?_
   rintro x w3 ⟨⟨v9,rfl,hM⟩,hb⟩
   obtain ⟨va9,vc9,rfl⟩:=hM.slice9
   replace hP:=hP.trans (Went.of_below hb)
   replace pR:=pR.below hb
   clear hb kO g0 pX q hL hS hC
   have r0:=pR.cell 0
   have fr0:=pR.frozen 0
   have pZ:=pR.set 0 (.slice va9 es.length vc9)
   simp only [List.set_cons_zero] at pZ
   have z0:=pZ.cell 0
   simp only [List.getElem?_cons_zero] at z0 r0
   have g9:=grownBy_set w3 w.heap.size 0 (.slice va9 es.length vc9)
   replace hP:=hP.grown g9 (fun k e=>by cases e;exact Nat.le_refl _)
   have hM9:=(hM.low (p:=⟨w.heap.size,0,none⟩) (show w.heap.size<wr.heap.size by omega) (.slice va9 es.length vc9)).lower (show w.heap.size≤wr.heap.size by omega)
   clear g9 pZ pR hM
   go_wp2
   refine bodyPost_ret (by simp [results,Tryz.results70,go_sem,z0];try rfl) rfl ?_
   exact ⟨MemDr.mk9 hok hff (by omega) hM9,hP⟩


theorem bel_dN (w:World) (n:Nat):Below w.heap.size w (w.drewN n):=⟨rfl,rfl,rfl,Nat.le_refl _,fun _ _=>rfl⟩

theorem equalI_is (a a':Option Addr) (len cap cap':Nat) (xs ys:List Int) (w:World) (h:Ints .i64 w a len cap xs) (h':Ints .i64 w a' len cap' ys) (hpos:len≠0) :
  Calls Tryz.prog 133 #[.slice a len cap,.slice a' len cap'] w fun e w'=>e=.returned (.bool (decide (xs=ys)))∧Below w.heap.size w w':=by
 obtain ⟨hl,hlc,hcm,hcase⟩:=h
 obtain ⟨hl',hlc',hcm',hcase'⟩:=h'
 unfold maxLen at hcm hcm'
 rcases hcase with h0' | ⟨b,off,rfl,hblt,hcell⟩
 ·exact absurd h0' hpos
 rcases hcase' with h0' | ⟨b',off',rfl,hblt',hcell'⟩
 ·exact absurd h0' hpos
 have hne:((len:Int) != (len:Int))=false:=by simp
 obtain ⟨fin,hfin⟩:∃ fin,fin=decide (xs=ys):=⟨_,rfl⟩
 rw [← hfin]
 have HF:Hid (fin=decide (xs=ys)):=hfin
 clear hfin
 go_enter Tryz.func133,Tryz.ntmps133
 go_wp2
 go_loopw [13] (fun si wr=>∃ (k:Nat),k≤len∧si=.int .i64 k∧Hid (xs.take k=ys.take k)∧Below w.heap.size w wr) (fun si _=>len - (intOf si).toNat)
 case atStart=>exact ⟨0,by omega,rfl,by simp [Hid],Below.refl _ _⟩
 case round =>
  obtain ⟨k,hk,rfl,hH',hbel⟩:=hrel
  by_cases hlt:k<len
  ·have c0:=hcell k hlt
   have e0:=hcell' k hlt
   rw [← hbel.cell (p:=⟨b,_,none⟩) hblt] at c0
   rw [← hbel.cell (p:=⟨b',_,none⟩) hblt'] at e0
   have hlt':(k:Int)<(len:Int):=by omega
   have hk0:(0:Int)≤(k:Int):=by omega
   have hxg:Hid (xs.getD k 0=xs[k]'(by omega)∧ys.getD k 0=ys[k]'(by omega)):=⟨by simp [List.getD,hl,hlt],by simp [List.getD,hl',hlt]⟩
   by_cases hxy:xs.getD k 0=ys.getD k 0
   ·have hH2:Hid (xs.take (k+1)=ys.take (k+1)):=by
     rw [Hid,List.take_succ_eq_append_getElem (by omega),List.take_succ_eq_append_getElem (by omega),hH'.out,← hxg.out.1,← hxg.out.2,hxy]
    rw [← hxy] at e0
    clear hcell hcell' hxg hxy hH'
    generalize xs.getD k 0=x at c0 e0
    have hxx:(x != x)=false:=by simp
    go_wp2_with fail
    go_quiet (fail)
    have hb2:Below w.heap.size w (wr.drewN nq):=bel_trans hbel (bel_dN _ _)
    go_wp2
    go_roundw
    case rel=>exact ⟨k+1,by omega,by go_num,hH2,hb2⟩
    case measure=>simp [intOf];omega
   ·obtain rfl:fin=false:=by
     rw [HF.out,decide_eq_false_iff_not]
     intro h
     subst h
     exact hxy rfl
    clear hcell hcell' hxg hH' HF
    generalize xs.getD k 0=x at c0 hxy
    generalize ys.getD k 0=y at e0 hxy
    have hxx:(x != y)=true:=by simp [hxy]
    have hb2:∀ nq,Below w.heap.size w (wr.drewN nq):=fun nq=>bel_trans hbel (bel_dN _ _)
    go_wp2_with fail
    go_quiet (fail)
    go_wp2
    go_ret
    exact ⟨rfl,hb2 _⟩
  ·obtain rfl:k=len:=by omega
   obtain rfl:fin=true:=by
    rw [HF.out,decide_eq_true_eq]
    have h9:=hH'.out
    rwa [List.take_of_length_le (by omega),List.take_of_length_le (by omega)] at h9
   clear hcell hcell' hH' HF
   go_wp2
   go_ret
   exact ⟨rfl,hbel⟩


theorem bel_drewN9 (w:World) (n:Nat):Below w.heap.size w (w.drewN n):=⟨rfl,rfl,rfl,Nat.le_refl _,fun _ _=>rfl⟩

theorem eqlB_is (a a':Option Addr) (len len' cap cap':Nat) (xs ys:List I3) (w:World) (h:Instrs w a len cap xs) (h':Instrs w a' len' cap' ys) (hlen:len=len') (hpos:len≠0) :
  Calls Tryz.prog 132 #[.slice a len cap,.slice a' len' cap'] w fun e w'=>e=.returned (.bool (decide (xs=ys)))∧Below w.heap.size w w':=by
 subst hlen
 obtain ⟨hl,hlc,hcm,_,hcase⟩:=h
 obtain ⟨hl',hlc',hcm',_,hcase'⟩:=h'
 unfold maxLen at hcm hcm'
 rcases hcase with h0' | ⟨b,off,rfl,hblt,hcell⟩
 ·exact absurd h0' hpos
 rcases hcase' with h0' | ⟨b',off',rfl,hblt',hcell'⟩
 ·exact absurd h0' hpos
 have hne:((len:Int) != (len:Int))=false:=by simp
 go_enter Tryz.func132,Tryz.ntmps132
 go_wp2
 go_loopw [13] (fun si wr=>∃ (k:Nat),k≤len∧si=.int .i64 k∧xs.take k=ys.take k∧Below w.heap.size w wr) (fun si _=>len - (intOf si).toNat)
 case atStart=>exact ⟨0,by omega,rfl,by simp,Below.refl _ _⟩
 case round =>
  obtain ⟨k,hk,rfl,hH,hbel⟩:=hrel
  have hH':Hid (xs.take k=ys.take k):=hH
  clear hH
  by_cases hlt:k<len
  ·obtain ⟨c0,c1,c2⟩:=hcell k hlt
   obtain ⟨e0,e1,e2⟩:=hcell' k hlt
   rw [← hbel.cell (p:=⟨b,_,none⟩) hblt] at c0 c1 c2
   rw [← hbel.cell (p:=⟨b',_,none⟩) hblt'] at e0 e1 e2
   have hlt':(k:Int)<(len:Int):=by omega
   have hk0:(0:Int)≤(k:Int):=by omega
   have hxg:Hid (xs.getD k (0,0,0)=xs[k]'(by omega)∧ys.getD k (0,0,0)=ys[k]'(by omega)):=⟨by simp [List.getD,hl,hlt],by simp [List.getD,hl',hlt]⟩
   by_cases hxy:xs.getD k (0,0,0)=ys.getD k (0,0,0)
   ·have hH2:Hid (xs.take (k+1)=ys.take (k+1)):=by
     rw [Hid,List.take_succ_eq_append_getElem (by omega),List.take_succ_eq_append_getElem (by omega),hH'.out,← hxg.out.1,← hxg.out.2,hxy]
    rw [← hxy] at e0 e1 e2
    clear hcell hcell' hxg hxy hH'
    generalize xs.getD k (0,0,0)=x at c0 c1 c2 e0 e1 e2
    obtain ⟨x0,x1,x2⟩:=x
    simp only [] at c0 c1 c2 e0 e1 e2
    go_wp2_with fail
    go_quiet (fail)
    have hb2:Below w.heap.size w (wr.drewN nq):=bel_trans hbel (bel_drewN9 _ _)
    go_wp2
    go_roundw
    case rel=>exact ⟨k+1,by omega,by go_num,hH2.out,hb2⟩
    case measure=>simp [intOf];omega
   ·have hff:Hid (decide (xs=ys)=false):=by
     rw [Hid,decide_eq_false_iff_not]
     intro h
     subst h
     exact hxy rfl
    clear hcell hcell' hxg hH'
    generalize xs.getD k (0,0,0)=x at c0 c1 c2 hxy
    generalize ys.getD k (0,0,0)=y at e0 e1 e2 hxy
    obtain ⟨x0,x1,x2⟩:=x
    obtain ⟨y0,y1,y2⟩:=y
    simp only [] at c0 c1 c2 e0 e1 e2
    have hb2:∀ nq,Below w.heap.size w (wr.drewN nq):=fun nq=>bel_trans hbel (bel_drewN9 _ _)
    by_cases h0:x0=y0
    ·subst h0
     by_cases h1:x1=y1
     ·subst h1
      have h2:(x2 == y2)=false:=by
       simp only [beq_eq_false_iff_ne]
       intro h
       exact hxy (by rw [h])
      clear hxy
      go_wp2_with fail
      go_quiet (fail)
      go_wp2
      go_ret
      exact ⟨by rw [hff.out];rfl,hb2 _⟩
     ·have h1':(x1 == y1)=false:=by simpa using h1
      clear hxy
      go_wp2_with fail
      go_quiet (fail)
      go_wp2
      go_ret
      exact ⟨by rw [hff.out];rfl,hb2 _⟩
    ·have h0':(x0 == y0)=false:=by simpa using h0
     clear hxy
     go_wp2_with fail
     go_quiet (fail)
     go_wp2
     go_ret
     exact ⟨by rw [hff.out];rfl,hb2 _⟩
  ·obtain rfl:k=len:=by omega
   have hff:decide (xs=ys)=true:=by
    have:=hH'.out
    rw [List.take_of_length_le (by omega),List.take_of_length_le (by omega)] at this
    simpa using this
   clear hcell hcell' hH'
   go_wp2
   go_ret
   exact ⟨by rw [hff];rfl,hbel⟩

theorem eqlB_lens (a a':Option Addr) (len len' cap cap':Nat) (w:World) (hlen:len≠len') :
  Calls Tryz.prog 132 #[.slice a len cap,.slice a' len' cap'] w fun e w'=>e=.returned (.bool false)∧Below w.heap.size w w':=by
 have hne:((len:Int) != (len':Int))=true:=by simp;omega
 go_enter Tryz.func132,Tryz.ntmps132
 go_wp2
 go_ret
 exact ⟨rfl,Below.refl _ _⟩
theorem eqlB_none (a a':Option Addr) (cap cap':Nat) (w:World) :
  Calls Tryz.prog 132 #[.slice a 0 cap,.slice a' 0 cap'] w fun e w'=>e=.returned (.bool true)∧Below w.heap.size w w':=by
 go_enter Tryz.func132,Tryz.ntmps132
 go_wp2
 refine wp_loop_rounds 1 ?_
 rw [rounds_succ]
 go_wp2
 go_ret
 exact ⟨rfl,Below.refl _ _⟩
theorem eqlB_any (a a':Option Addr) (len len' cap cap':Nat) (xs ys:List I3) (w:World) (h:Instrs w a len cap xs) (h':Instrs w a' len' cap' ys) :
  Calls Tryz.prog 132 #[.slice a len cap,.slice a' len' cap'] w fun e w'=>e=.returned (.bool (decide (xs=ys)))∧Below w.heap.size w w':=by
 by_cases hl:len=len'
 ·by_cases h0:len=0
  ·subst h0
   subst hl
   obtain rfl:xs=[]:=List.length_eq_zero_iff.1 h.1
   obtain rfl:ys=[]:=List.length_eq_zero_iff.1 h'.1
   simpa using eqlB_none a a' cap cap' w
  ·exact eqlB_is a a' len len' cap cap' xs ys w h h' hl h0
 ·have hd:decide (xs=ys)=false:=by
   rw [decide_eq_false_iff_not]
   intro e
   subst e
   exact hl (h.1.symm.trans h'.1)
  rw [hd]
  exact eqlB_lens a a' len len' cap cap' w hl
theorem eqlI_lens (a a':Option Addr) (len len' cap cap':Nat) (w:World) (hlen:len≠len') :
  Calls Tryz.prog 133 #[.slice a len cap,.slice a' len' cap'] w fun e w'=>e=.returned (.bool false)∧Below w.heap.size w w':=by
 have hne:((len:Int) != (len':Int))=true:=by simp;omega
 go_enter Tryz.func133,Tryz.ntmps133
 go_wp2
 go_ret
 exact ⟨rfl,Below.refl _ _⟩
theorem eqlI_none (a a':Option Addr) (cap cap':Nat) (w:World) :
  Calls Tryz.prog 133 #[.slice a 0 cap,.slice a' 0 cap'] w fun e w'=>e=.returned (.bool true)∧Below w.heap.size w w':=by
 go_enter Tryz.func133,Tryz.ntmps133
 go_wp2
 refine wp_loop_rounds 1 ?_
 rw [rounds_succ]
 go_wp2
 go_ret
 exact ⟨rfl,Below.refl _ _⟩
theorem eqlI_any (a a':Option Addr) (len len' cap cap':Nat) (xs ys:List Int) (w:World) (h:Ints .i64 w a len cap xs) (h':Ints .i64 w a' len' cap' ys) :
  Calls Tryz.prog 133 #[.slice a len cap,.slice a' len' cap'] w fun e w'=>e=.returned (.bool (decide (xs=ys)))∧Below w.heap.size w w':=by
 by_cases hl:len=len'
 ·by_cases h0:len=0
  ·subst h0
   subst hl
   obtain rfl:xs=[]:=List.length_eq_zero_iff.1 h.1
   obtain rfl:ys=[]:=List.length_eq_zero_iff.1 h'.1
   simpa using eqlI_none a a' cap cap' w
  ·exact (by subst hl;exact equalI_is a a' len cap cap' xs ys w h h' h0)
 ·have hd:decide (xs=ys)=false:=by
   rw [decide_eq_false_iff_not]
   intro e
   subst e
   exact hl (h.1.symm.trans h'.1)
  rw [hd]
  exact eqlI_lens a a' len len' cap cap' w hl


theorem numberOK_yes (n:Int) (w:World) (h:0≤n∧n≤999999999):Calls Tryz.prog 150 #[.int .i64 n] w fun e w'=>e=.returned (.bool true)∧w=w':=by
 obtain ⟨h1,h2⟩:=h
 go_enter Tryz.func150,Tryz.ntmps150
 go_wp2
 go_ret
 exact ⟨rfl,rfl⟩
theorem numberOK_no (n:Int) (w:World) (h:¬ (0≤n∧n≤999999999)):Calls Tryz.prog 150 #[.int .i64 n] w fun e w'=>e=.returned (.bool false)∧w=w':=by
 by_cases h1:0≤n
 ·have h2:decide (n≤999999999)=false:=by simp;omega
  clear h
  go_enter Tryz.func150,Tryz.ntmps150
  go_wp2
  go_ret
  exact ⟨rfl,rfl⟩
 ·clear h
  go_enter Tryz.func150,Tryz.ntmps150
  go_wp2
  go_ret
  exact ⟨rfl,rfl⟩


def allOk (zs:List Int):Prop:=∀ z ∈ zs,0≤z∧z≤999999999
def packs (zs:List Int):List Int:=zs.flatMap fun z=>pack z.toNat
def packL (zs:List Int):List Int:=pack zs.length++packs zs

theorem packs_len:∀ zs:List Int,(packs zs).length≤5*zs.length
 | []=>by simp [packs]
 | z::zs=>by
  have h:=packs_len zs
  have h2:=(pack_len z.toNat).2
  simp only [packs,List.flatMap_cons,List.length_append,List.length_cons] at h ⊢
  omega
theorem packs_snoc (zs:List Int) (k:Nat) (h:k<zs.length):packs (zs.take (k+1))=packs (zs.take k)++pack (zs.getD k 0).toNat:=by
 have g:zs.getD k 0=zs[k]:=by simp [List.getElem?_eq_getElem h]
 rw [g,List.take_succ_eq_append_getElem h]
 unfold packs
 rw [List.flatMap_append]
 simp only [List.flatMap_cons,List.flatMap_nil,List.append_nil]
theorem getD_mem {zs:List Int} {k:Nat} (h:k<zs.length):zs.getD k 0 ∈ zs:=by
 simp [List.getElem?_eq_getElem h]


def NumsAt (s:ByteArray):Nat→List Nat→Nat→Prop
 | p,[],q=>q=p
 | p,z::zs,q=>∃ k,Num s p z k∧NumsAt s (p+k) zs q
theorem numsAt_snoc {s:ByteArray}:∀ {zs:List Nat} {p q z k:Nat},NumsAt s p zs q→Num s q z k→NumsAt s p (zs++[z]) (q+k)
 | [],p,q,z,k,h,hn=>by
  obtain rfl:q=p:=h
  exact ⟨k,hn,rfl⟩
 | y::zs,p,q,z,k,h,hn=>by
  obtain ⟨j,hj,hr⟩:=h
  exact ⟨j,hj,numsAt_snoc hr hn⟩
theorem numsAt_prefix {s:ByteArray}:∀ {zs ys:List Nat} {p q r:Nat},NumsAt s p zs q→NumsAt s p ys r→zs.length≤ys.length→∃ rest,ys=zs++rest∧NumsAt s q rest r
 | [],ys,p,q,r,h,g,_=>by
  obtain rfl:q=p:=h
  exact ⟨ys,rfl,g⟩
 | z::zs,[],_,_,_,_,_,hl=>by simp at hl
 | z::zs,y::ys,p,q,r,h,g,hl=>by
  obtain ⟨j,hj,hr⟩:=h
  obtain ⟨k,hk,gr⟩:=g
  obtain ⟨rfl,rfl⟩:=hj.only hk
  obtain ⟨rest,rfl,h'⟩:=numsAt_prefix hr gr (by simpa using hl)
  exact ⟨rest,rfl,h'⟩
def Listed (s:ByteArray) (zs:List Nat):Prop:=∃ k,Num s 0 zs.length k∧zs.length≤4096∧NumsAt s k zs s.size
def NoList (s:ByteArray):Prop:=∀ zs,¬ Listed s zs
theorem Listed.only {s:ByteArray} {zs ys:List Nat} (h:Listed s zs) (g:Listed s ys):zs=ys:=by
 obtain ⟨k,hk,_,hz⟩:=h
 obtain ⟨j,hj,_,hy⟩:=g
 obtain ⟨hl,rfl⟩:=hk.only hj
 obtain ⟨rest,rfl,_⟩:=numsAt_prefix hz hy (by omega)
 have:rest=[]:=by
  have e:=hl
  simp at e
  exact e
 rw [this,List.append_nil]
theorem noList_of_noNum {s:ByteArray} (h:NoNum s 0):NoList s:=fun _ ⟨_,hk,_⟩=>h _ _ hk
theorem noList_great {s:ByteArray} {n k:Nat} (h:Num s 0 n k) (hn:4096<n):NoList s:=by
 intro zs ⟨j,hj,hl,_⟩
 obtain ⟨rfl,_⟩:=h.only hj
 omega
theorem noList_stop {s:ByteArray} {n k q:Nat} {zs:List Nat} (h:Num s 0 n k) (hz:NumsAt s k zs q) (hl:zs.length<n) (hq:NoNum s q):NoList s:=by
 intro ys ⟨j,hj,_,hy⟩
 obtain ⟨e,rfl⟩:=h.only hj
 obtain ⟨rest,e2,hr⟩:=numsAt_prefix hz hy (by omega)
 cases rest with
 | nil=>rw [List.append_nil] at e2;rw [e2] at e;omega
 | cons y rest =>
  obtain ⟨i,hi,_⟩:=hr
  exact hq _ _ hi
theorem noList_more {s:ByteArray} {n k q:Nat} {zs:List Nat} (h:Num s 0 n k) (hz:NumsAt s k zs q) (hl:zs.length=n) (hq:q≠s.size):NoList s:=by
 intro ys ⟨j,hj,_,hy⟩
 obtain ⟨e,rfl⟩:=h.only hj
 obtain ⟨rest,e2,hr⟩:=numsAt_prefix hz hy (by omega)
 have:rest=[]:=by
  have e3:=congrArg List.length e2
  rw [List.length_append] at e3
  exact List.eq_nil_of_length_eq_zero (by omega)
 subst this
 exact hq hr.symm
theorem listed_of {s:ByteArray} {n k q:Nat} {zs:List Nat} (h:Num s 0 n k) (hn:n≤4096) (hz:NumsAt s k zs q) (hl:zs.length=n) (hq:q=s.size):Listed s zs:=by
 subst hl hq
 exact ⟨k,h,hn,hz⟩
theorem Num.le {s:ByteArray} {p n k:Nat} (h:Num s p n k):p+k≤s.size:=h.1.2.2.1
theorem Num.one {s:ByteArray} {p n k:Nat} (h:Num s p n k):1≤k:=h.1.1
theorem Num.val_le {s:ByteArray} {p n k:Nat} (h:Num s p n k):n≤999999999:=h.2.2.2


def bytesAt (s:ByteArray) (p:Nat) (xs:List Int):Prop:=p+xs.length≤s.size∧∀ i,i<xs.length→(bt s (p+i):Int)=xs.getD i 0
theorem bytesAt_left {s:ByteArray} {p:Nat} {xs ys:List Int} (h:bytesAt s p (xs++ys)):bytesAt s p xs:=by
 obtain ⟨h1,h2⟩:=h
 rw [List.length_append] at h1
 refine ⟨by omega,fun i hi=>?_⟩
 rw [h2 i (by rw [List.length_append];omega)]
 simp [List.getD,List.getElem?_append_left hi]
theorem bytesAt_right {s:ByteArray} {p:Nat} {xs ys:List Int} (h:bytesAt s p (xs++ys)):bytesAt s (p+xs.length) ys:=by
 obtain ⟨h1,h2⟩:=h
 rw [List.length_append] at h1
 refine ⟨by omega,fun i hi=>?_⟩
 have:=h2 (xs.length+i) (by rw [List.length_append];omega)
 rw [show p+xs.length+i=p+(xs.length+i) by omega,this]
 simp [List.getD,List.getElem?_append_right (show xs.length≤xs.length+i by omega)]

theorem num_of_bytes {s:ByteArray} {p n:Nat} (hn:n≤999999999) (h:bytesAt s p (pack n)):Num s p n (pack n).length:=by
 obtain ⟨hs,hb⟩:=h
 by_cases h1:n<128
 ·rw [pack_small h1] at hs hb ⊢
  have b0:=hb 0 (by simp)
  simp at b0 hs
  refine ⟨⟨by simp,by simp,by simpa using hs,fun i hi=>by simp at hi,by simp;omega⟩,by simp,?_,hn⟩
  simp only [List.length_cons,List.length_nil,val]
  omega
 by_cases h2:n<16384
 ·rw [pack2 (by omega) h2] at hs hb ⊢
  have b0:=hb 0 (by simp)
  have b1:=hb 1 (by simp)
  simp at b0 b1 hs
  refine ⟨⟨by simp,by simp,by simpa using hs,fun i hi=>?_,?_⟩,?_,?_,hn⟩
  ·simp at hi;obtain rfl:i=0:=by omega
   simp;omega
  ·simp only [List.length_cons,List.length_nil,show p+(0+1+1) - 1=p+1 by omega];omega
  ·simp only [List.length_cons,List.length_nil,show p+(0+1+1) - 1=p+1 by omega];omega
  ·simp only [List.length_cons,List.length_nil,val];omega
 by_cases h3:n<2097152
 ·rw [pack3 (by omega) h3] at hs hb ⊢
  have b0:=hb 0 (by simp)
  have b1:=hb 1 (by simp)
  have b2:=hb 2 (by simp)
  simp at b0 b1 b2 hs
  refine ⟨⟨by simp,by simp,by simpa using hs,fun i hi=>?_,?_⟩,?_,?_,hn⟩
  ·simp at hi
   have:i=0∨i=1:=by omega
   rcases this with rfl | rfl
   ·simp;omega
   ·omega
  ·simp only [List.length_cons,List.length_nil,show p+(0+1+1+1) - 1=p+2 by omega];omega
  ·simp only [List.length_cons,List.length_nil,show p+(0+1+1+1) - 1=p+2 by omega];omega
  ·simp only [List.length_cons,List.length_nil,val];omega
 by_cases h4:n<268435456
 ·rw [pack4 (by omega) h4] at hs hb ⊢
  have b0:=hb 0 (by simp)
  have b1:=hb 1 (by simp)
  have b2:=hb 2 (by simp)
  have b3:=hb 3 (by simp)
  simp at b0 b1 b2 b3 hs
  refine ⟨⟨by simp,by simp,by simpa using hs,fun i hi=>?_,?_⟩,?_,?_,hn⟩
  ·simp at hi
   have:i=0∨i=1∨i=2:=by omega
   rcases this with rfl | rfl | rfl
   ·simp;omega
   ·omega
   ·omega
  ·simp only [List.length_cons,List.length_nil,show p+(0+1+1+1+1) - 1=p+3 by omega];omega
  ·simp only [List.length_cons,List.length_nil,show p+(0+1+1+1+1) - 1=p+3 by omega];omega
  ·simp only [List.length_cons,List.length_nil,val];omega
 ·rw [pack5 (by omega)] at hs hb ⊢
  have b0:=hb 0 (by simp)
  have b1:=hb 1 (by simp)
  have b2:=hb 2 (by simp)
  have b3:=hb 3 (by simp)
  have b4:=hb 4 (by simp)
  simp at b0 b1 b2 b3 b4 hs
  refine ⟨⟨by simp,by simp,by simpa using hs,fun i hi=>?_,?_⟩,?_,?_,hn⟩
  ·simp at hi
   have:i=0∨i=1∨i=2∨i=3:=by omega
   rcases this with rfl | rfl | rfl | rfl
   ·simp;omega
   ·omega
   ·omega
   ·omega
  ·simp only [List.length_cons,List.length_nil,show p+(0+1+1+1+1+1) - 1=p+4 by omega];omega
  ·simp only [List.length_cons,List.length_nil,show p+(0+1+1+1+1+1) - 1=p+4 by omega];omega
  ·simp only [List.length_cons,List.length_nil,val];omega

def packsN (zs:List Nat):List Int:=zs.flatMap fun z=>pack z
theorem numsAt_of_bytes {s:ByteArray}:∀ {zs:List Nat} {p:Nat},(∀ z ∈ zs,z≤999999999)→bytesAt s p (packsN zs)→NumsAt s p zs (p+(packsN zs).length)
 | [],p,_,_=>by simp [packsN,NumsAt]
 | z::zs,p,hz,h=>by
  have e:packsN (z::zs)=pack z++packsN zs:=by simp [packsN]
  rw [e] at h ⊢
  refine ⟨_,num_of_bytes (hz z (by simp)) (bytesAt_left h),?_⟩
  have:=numsAt_of_bytes (fun y hy=>hz y (by simp [hy])) (bytesAt_right h)
  rw [List.length_append,← Nat.add_assoc]
  exact this

theorem bt_str (xs:List Int) (h:∀ x ∈ xs,0≤x∧x≤255) (i:Nat) (hi:i<xs.length):(bt (strOfNums xs) i:Int)=xs.getD i 0:=by
 have hs:i<(strOfNums xs).size:=by rw [strOfNums_size];exact hi
 unfold bt
 rw [dif_pos hs]
 have hx:=h xs[i] (List.getElem_mem hi)
 have e:((strOfNums xs)[i]'hs)=UInt8.ofNat xs[i].toNat:=by
  show (strOfNums xs).data[i]'(by simpa using hs)=_
  simp [strOfNums]
 rw [e]
 simp [List.getElem?_eq_getElem hi]
 omega
theorem bytesAt_str (xs:List Int) (h:∀ x ∈ xs,0≤x∧x≤255):bytesAt (strOfNums xs) 0 xs:=
 ⟨by rw [strOfNums_size];omega,fun i hi=>by rw [Nat.zero_add];exact bt_str xs h i hi⟩


theorem nats_of {zs:List Int} (h:∀ z ∈ zs,0≤z∧z≤999999999):∃ ns:List Nat,zs=ns.map (fun z:Nat=>(z:Int))∧∀ n ∈ ns,n≤999999999:=by
 refine ⟨zs.map Int.toNat,?_,?_⟩
 ·rw [List.map_map]
  conv=>lhs;rw [← List.map_id zs]
  apply List.map_congr_left
  intro z hz
  have:=h z hz
  simp only [id,Function.comp]
  omega
 ·intro n hn
  obtain ⟨z,hz,rfl⟩:=List.mem_map.1 hn
  have:=h z hz
  omega
theorem packL_nats (ns:List Nat):packL (ns.map (fun z:Nat=>(z:Int)))=pack ns.length++packsN ns:=by
 unfold packL packs packsN
 rw [List.length_map]
 congr 1
 induction ns with
 | nil=>rfl
 | cons n ns ih=>simp [List.flatMap_cons,ih]
theorem packsN_byte {ns:List Nat} (h:∀ n ∈ ns,n≤999999999):∀ x ∈ packsN ns,0≤x∧x≤255:=by
 intro x hx
 obtain ⟨n,hn,hx⟩:=List.mem_flatMap.1 hx
 exact pack_byte n (by have:=h n hn;omega) x hx
theorem packL_byte {ns:List Nat} (h:∀ n ∈ ns,n≤999999999) (hl:ns.length≤4096):∀ x ∈ pack ns.length++packsN ns,0≤x∧x≤255:=by
 intro x hx
 rcases List.mem_append.1 hx with hx | hx
 ·exact pack_byte _ (by omega) x hx
 ·exact packsN_byte h x hx
theorem listed_pack {ns:List Nat} (h:∀ n ∈ ns,n≤999999999) (hl:ns.length≤4096):Listed (strOfNums (pack ns.length++packsN ns)) ns:=by
 have hb:=bytesAt_str _ (packL_byte h hl)
 have hn:=num_of_bytes (by omega) (bytesAt_left hb)
 refine listed_of hn hl (numsAt_of_bytes h ?_) rfl ?_
 ·simpa using bytesAt_right hb
 ·rw [strOfNums_size,List.length_append]


def txtN (e:E3):List Int:=((e.2.1.length:Int)::rowNums e.2.1)++e.2.2
def txtE (e:E3):ByteArray:=e.1++strOfNums (packL (txtN e))
theorem riseB_okB {xs:List I3} (h:riseB xs=true):∀ x ∈ xs,okB x=true:=by
 intro x hx
 obtain ⟨t,ht,rfl⟩:=List.getElem_of_mem hx
 have:=allR_at h ht
 simp only [bStep,Bool.and_eq_true] at this
 simpa [List.getD,List.getElem?_eq_getElem ht] using this.1
theorem okB_small {x:I3} (h:okB x=true):(0≤x.1∧x.1≤14)∧(0≤x.2.1∧x.2.1≤2)∧0≤x.2.2∧x.2.2≤5:=by
 unfold okB at h
 split at h
 ·simp only [Bool.and_eq_true,decide_eq_true_eq] at h
  omega
 ·split at h
  ·simp only [Bool.and_eq_true,inB,decide_eq_true_eq] at h
   omega
  ·cases h
theorem riseI_itOk {xs:List Int} (h:riseI xs=true):∀ x ∈ xs,0≤x∧x≤22:=by
 intro x hx
 obtain ⟨t,ht,rfl⟩:=List.getElem_of_mem hx
 have:=(riseI_at h t ht).2
 simp only [List.getD,List.getElem?_eq_getElem ht,Option.getD_some,itOk,decide_eq_true_eq] at this
 omega
theorem entOk_parts {e:E3} (h:entOk e=true):keyOk9 e.1=true∧riseB e.2.1=true∧riseI e.2.2=true∧e.2.1.length≤30:=by
 simp only [entOk,Bool.and_eq_true,decide_eq_true_eq] at h
 exact h
theorem txtN_ok {e:E3} (h:entOk e=true):allOk (txtN e):=by
 obtain ⟨_,h1,h2,h3⟩:=entOk_parts h
 intro z hz
 unfold txtN at hz
 rcases List.mem_append.1 hz with hz | hz
 ·rcases List.mem_cons.1 hz with rfl | hz
  ·omega
  ·unfold rowNums at hz
   obtain ⟨x,hx,hz⟩:=List.mem_flatMap.1 hz
   have:=okB_small (riseB_okB h1 x hx)
   simp only [List.mem_cons,List.not_mem_nil,or_false] at hz
   omega
 ·have:=riseI_itOk h2 z hz
  omega
theorem txtN_len {e:E3} (h:entOk e=true):(txtN e).length≤114:=by
 have h1:=entOk_bugs h
 have h2:=entOk_foot h
 unfold txtN
 rw [List.length_append,List.length_cons,rowNums_length]
 omega
theorem packL_size {zs:List Int}:(strOfNums (packL zs)).size≤5+5*zs.length:=by
 rw [strOfNums_size]
 unfold packL
 rw [List.length_append]
 have:=packs_len zs
 have:=pack_len zs.length
 omega


theorem okTo_succ {zs:List Int} {k:Nat} (h:allOk (zs.take k)) (hk:k<zs.length) (hx:0≤zs.getD k 0∧zs.getD k 0≤999999999):allOk (zs.take (k+1)):=by
 have g:zs.getD k 0=zs[k]:=by simp [List.getElem?_eq_getElem hk]
 rw [List.take_succ_eq_append_getElem hk]
 intro z hz
 rcases List.mem_append.1 hz with hz | hz
 ·exact h z hz
 ·simp at hz;subst hz;rw [← g];exact hx
theorem okTo_zero (zs:List Int):allOk (zs.take 0):=by intro z hz;simp at hz

theorem implPackList_any (a:Option Addr) (len cap:Nat) (zs:List Int) (w:World) (h:Ints .i64 w a len cap zs) (hlen:len≤4096) :
  Calls Tryz.prog 81 #[.slice a len cap] w fun e w'=>((allOk zs∧e=.returned (.tuple #[.string (strOfNums (packL zs)),.int .i64 0]))∨(¬ allOk zs∧e=.returned (.tuple #[.string ByteArray.empty,.int .i64 4])))∧Below w.heap.size w w':=by
 obtain ⟨hl,hlc,hcm,hcase⟩:=h
 unfold maxLen at hcm
 rcases hcase with h0 | ⟨b,off,rfl,hblt,hcell⟩
 ·subst h0
  have hz:zs=[]:=by simpa using hl
  subst hz
  go_enter Tryz.func81,Tryz.ntmps81
  go_wp2_with fail
  refine (appendNumber_any w.heap.size 0 _ [] 0 _ (by omega) (World.ownsRow_nil _ _ _ _) (Nat.le_refl _) (by omega)).mono ?_
  rintro e w1 ⟨v',rfl,hown,hbel⟩
  have hcv:=conv_owned hown
  clear hown
  rw [List.nil_append] at hcv
  go_wp2
  refine wp_loop_rounds 1 ?_
  rw [rounds_succ]
  go_wp2
  go_ret2
  exact ⟨.inl ⟨(fun z hz=>by cases hz),rfl⟩,hbel⟩
 ·go_enter Tryz.func81,Tryz.ntmps81
  go_wp2_with fail
  refine (appendNumber_any w.heap.size 0 _ [] len _ (by omega) (World.ownsRow_nil _ _ _ _) (Nat.le_refl _) (by omega)).mono ?_
  rintro e w1 ⟨v',rfl,hown,hb1⟩
  rw [List.nil_append,Nat.zero_add] at hown
  go_wp2
  go_loopw [4,15] (fun sv si wr=>∃ k:Nat,k≤len∧si=.int .i64 k∧allOk (zs.take k)∧wr.ownsRow w.heap.size 5 1 sv (pack len++packs (zs.take k)).length (u8s (pack len++packs (zs.take k)))∧Below w.heap.size w wr) (fun _ si _=>len - (intOf si).toNat)
  case atStart=>exact ⟨0,by omega,rfl,okTo_zero zs,by simpa [packs] using hown,hb1⟩
  case round =>
   obtain ⟨k,hk,rfl,hto,ho,hbel⟩:=hrel
   by_cases hlt:k<len
   ·have hc:wr.cell? ⟨b,off+k,none⟩=some (.int .i64 (zs.getD k 0)):=by rw [hbel.cell (p:=⟨b,off+k,none⟩) hblt];exact hcell k hlt
    have hsn:=packs_snoc zs k (by omega)
    have hpl:=packs_len (zs.take k)
    have hp5:=(pack_len len).2
    have htl:(zs.take k).length≤4096:=by simp;omega
    have hm:(pack len++packs (zs.take k)).length≤1099511627776:=by rw [List.length_append];omega
    by_cases hx:0≤zs.getD k 0∧zs.getD k 0≤999999999
    ·have hto':=okTo_succ hto (by omega) hx
     generalize zs.getD k 0=x at hc hx hsn
     obtain ⟨n,rfl⟩:=Int.eq_ofNat_of_zero_le hx.1
     have hn:n≤999999999:=by omega
     rw [Int.toNat_natCast] at hsn
     have R:Hid (pack len++packs (zs.take k)++pack n=pack len++packs (zs.take (k+1))):=by rw [Hid,hsn,List.append_assoc]
     clear hsn hpl hp5 htl
     generalize pack len++packs (zs.take k)=ys at ho hm R
     have hbw:=hbel.size
     go_wp2_with (first | (go_at_call 150;refine (numberOK_yes _ _ hx).mono ?_;rintro e w' ⟨rfl,rfl⟩) | (go_at_call 149;refine (appendNumber_any w.heap.size _ _ ys n _ hn ho hbw hm).mono ?_;rintro e w2 ⟨v2,rfl,hown2,hb2⟩))
     rw [R.out,← List.length_append,R.out] at hown2
     go_roundw
     case rel=>exact ⟨k+1,by omega,by go_num,hto',hown2,hbel.trans hb2⟩
     case measure=>simp [intOf];omega
    ·have hbad:¬ allOk zs:=fun h=>hx (h _ (getD_mem (by omega)))
     generalize zs.getD k 0=x at hc hx hsn
     clear hsn hpl hp5 htl hm ho
     go_wp2_with (go_at_call 150;refine (numberOK_no _ _ hx).mono ?_;rintro e w' ⟨rfl,rfl⟩)
     go_ret2
     exact ⟨.inr ⟨hbad,rfl⟩,hbel⟩
   ·obtain rfl:k=len:=by omega
    rw [List.take_of_length_le (Nat.le_of_eq hl)] at hto ho
    have e:pack k++packs zs=packL zs:=by unfold packL;rw [hl]
    rw [e] at ho
    have hcv:=conv_owned ho
    clear ho
    go_wp2
    go_ret2
    exact ⟨.inl ⟨hto,rfl⟩,hbel⟩


theorem own_no9 {w:World} {B n:Nat} {a:Option Addr} {m c:Nat} {xs:List Int} (h:w.ownsRow B 3 1 (.slice a m c) n (xs.map (Value.int .i64))):a=none→m=0∧c=0:=by
 rcases h.2 with ⟨hv,h0⟩ | ⟨g,cap,cur,hv,_⟩
 ·injection hv with e1 e2 e3
  exact fun _=>⟨e2,e3⟩
 ·injection hv with e1 e2 e3
  intro ha
  rw [ha] at e1
  cases e1

theorem numbersOfBugs_is (a:Option Addr) (n cap:Nat) (xs:List I3) (w:World) (h:Instrs w a n cap xs) (hn:n≤30) :
  Calls Tryz.prog 80 #[.slice a n cap] w fun e w'=>RowGot e w' w.heap.size (rowNums xs)∧Below w.heap.size w w':=by
 obtain ⟨i1,hi1,hz10,hz11,hz12⟩:=info_parts info_int
 have hl:=h.1
 go_enter Tryz.func80,Tryz.ntmps80
 go_wp2_with fail
 go_loopw [3,8] (fun so si wr=>∃ (k:Nat) (va:Option Addr) (vn vc:Nat),k≤n∧si=.int .i64 k∧so=.slice va vn vc∧wr.ownsRow w.heap.size 3 1 (.slice va vn vc) (rowNums (xs.take k)).length ((rowNums (xs.take k)).map (Value.int .i64))∧Below w.heap.size w wr) (fun _ si _=>n - (intOf si).toNat)
 case atStart=>exact ⟨0,none,0,0,by omega,rfl,rfl,by simpa [rowNums] using World.ownsRow_nil _ _ _ _,Below.refl _ _⟩
 case round =>
  obtain ⟨k,xa,xn,xc,hk,rfl,rfl,ho,bw⟩:=hrel
  by_cases hlt:k<n
  ·obtain ⟨_,_,_,_,hcase⟩:=h.below bw
   rcases hcase with e0 | ⟨b,off,rfl,hb,hc⟩
   ·omega
   obtain ⟨x0,x1,x2⟩:=hc k hlt
   clear hc hb
   have hst:=rowNums_step (xs:=xs) (k:=k) (by omega)
   have hrl:(rowNums (xs.take k)).length≤90:=by rw [rowNums_length,List.length_take];omega
   generalize rowNums (xs.take k)=R at *
   generalize xs.getD k (0,0,0)=x at *
   obtain ⟨p0,p1,p2⟩:=x
   simp only at x0 x1 x2 hst
   have HS:Hid (rowNums (xs.take (k+1))=R++[p0,p1,p2]):=hst
   clear hst
   have hlt':(k:Int)<(n:Int):=by omega
   have hk0:(0:Int)≤(k:Int):=by omega
   have hb2:Below wr.heap.size wr ((wr.alloc (.cells #[.int .i64 p0,.int .i64 p1,.int .i64 p2] 158)).alloc (.cells #[.int .i64 p0,.int .i64 p1,.int .i64 p2] 3)):=by go_grown
   have ho2:=owns8 ho hb2
   have hs2:=bw.size
   have hs3:w.heap.size≤((wr.alloc (.cells #[.int .i64 p0,.int .i64 p1,.int .i64 p2] 158)).alloc (.cells #[.int .i64 p0,.int .i64 p1,.int .i64 p2] 3)).heap.size:=by have:=hb2.size;omega
   have hnw:∀ ad,some (⟨wr.heap.size+1,0,none⟩:Addr)=some ad→∀ j u,([p0,p1,p2].map (Value.int .i64))[j]?=some u→((wr.alloc (.cells #[.int .i64 p0,.int .i64 p1,.int .i64 p2] 158)).alloc (.cells #[.int .i64 p0,.int .i64 p1,.int .i64 p2] 3)).cell? (ad.add j)=some u:=by
    have h9:=news_new9 (wr.alloc (.cells #[.int .i64 p0,.int .i64 p1,.int .i64 p2] 158)) [.int .i64 p0,.int .i64 p1,.int .i64 p2] 3
    have e9:(wr.alloc (.cells #[.int .i64 p0,.int .i64 p1,.int .i64 p2] 158)).heap.size=wr.heap.size+1:=by simp
    rw [e9] at h9
    exact h9
   go_wp2_with (at_builtin;refine wpList_app9 rfl _ _ 36 rfl w.heap.size 3 i1 (.int .i64 0) 1 8 Tryz.underlying36 hi1 hz10 hz11 hz12 rfl (by decide) _ _ _ rfl ho2 _ 3 3 rfl (fun h9=>by cases h9) ([p0,p1,p2].map (Value.int .i64)) (by simp) hnw (one8 _) (by unfold maxLen;omega) (by omega) hs3 ?_)
   intro v3 w3 hown hgrow _
   have q3:w3.ownsRow w.heap.size 3 1 v3 (R++[p0,p1,p2]).length ((R++[p0,p1,p2]).map (Value.int .i64)):=by rw [List.map_append,List.length_append];exact hown
   obtain ⟨va9,vc9,rfl⟩:=slice8 q3
   have hgB:∀ g,(Value.ownBlock (.slice xa xn xc))=some g→w.heap.size≤g:=fun g hg=>(ho2.lt g hg).1
   have b3:Below w.heap.size w w3:=(bel8 bw hb2).grown hgrow hs3 (fun g hg=>hgB g hg)
   clear ho ho2 hs2 hs3 hown hgrow hgB hb2 hnw x0 x1 x2
   go_wp2
   go_roundw
   case rel=>exact ⟨k+1,_,_,_,by omega,by go_num,rfl,by rw [HS.out];exact q3,b3⟩
   case measure=>simp [intOf];omega
  ·obtain rfl:k=n:=by omega
   have e9:rowNums (xs.take k)=rowNums xs:=by rw [List.take_of_length_le (by omega)]
   rw [e9] at ho
   clear e9
   go_wp2
   go_ret
   exact ⟨⟨_,rfl,ho⟩,bw⟩

def etxT (e:E3):ByteArray:=if entOk e=true then txtE e else ⟨#[]⟩
def etxC (e:E3):Int:=if entOk e=true then 0 else 1

theorem implEntryText_is (e:E3) (s:Sl2) (w:World) (h:Emem w s e) (hV:VmShape w) :
  Calls Tryz.prog 24 #[entV e.1 s] w fun x w'=>x=.returned (.tuple #[.string (etxT e),.int .i64 (etxC e)])∧Below w.heap.size w w':=by
 obtain ⟨i1,hi1,hz10,hz11,hz12⟩:=info_parts info_int
 have kE:=fun W (hb:Below w.heap.size w W)=>implEntryOK_is e s W (h.below hb) (hV.below hb)
 clear hV
 unfold etxT etxC
 have hl1:=h.2.1.1
 have hl2:=h.2.2.1.1
 have hc1:=h.2.1.2.1
 have hc2:=h.2.2.1.2.1
 obtain ⟨⟨_,z1,z2⟩,hB,hF,hfw⟩:=h
 obtain ⟨ek,eb,ez⟩:=e
 obtain ⟨⟨a1,n1,c1⟩,⟨a2,n2,c2⟩⟩:=s
 unfold entV
 simp only at *
 have bw:Below w.heap.size w (w.alloc (.cells #[.string ek,.slice a1 n1 c1,.slice a2 n2 c2] 45)):=by go_grown
 have pX:Blk (w.alloc (.cells #[.string ek,.slice a1 n1 c1,.slice a2 n2 c2] 45)) w.heap.size 45 [.string ek,.slice a1 n1 c1,.slice a2 n2 c2]:=blkAt _ _ _ rfl
 unfold entV at kE
 simp only at kE
 cases hok:entOk (ek,eb,ez)
 ·rw [if_neg (by simp),if_neg (by simp)]
  rw [hok] at kE
  clear hok
  go_enter Tryz.func24,Tryz.ntmps24
  go_wp2_with fail
  refine (kE _ bw).mono ?_
  rintro e w1 ⟨rfl,hb⟩
  replace bw:=bel8 bw hb
  go_wp2
  go_ret2
  exact ⟨rfl,bw⟩
 ·rw [if_pos rfl,if_pos rfl]
  rw [hok] at kE
  have hb30:n1≤30:=by have:=entOk_bugs hok;simp only at this;omega
  have hf23:n2≤23:=by have:=entOk_foot hok;simp only at this;omega
  have hk15:ek.size=15:=entOk_key hok
  have hk16:ek.size≤15:=by omega
  have HOK:=txtN_ok hok
  have HLN:=txtN_len hok
  have hrl:(rowNums eb).length≤90:=by rw [rowNums_length];omega
  have no2:=nil_of0 (m:=0) (P:=True) z2 hc2
  have kN:=fun W (hb:Below w.heap.size w W)=>numbersOfBugs_is a1 n1 c1 eb W (hB.below hb) hb30
  obtain ⟨tn,htn⟩:∃ tn,tn=txtN (ek,eb,ez):=⟨_,rfl⟩
  obtain ⟨R7,hR7⟩:∃ R7,R7=(n1:Int)::rowNums eb:=⟨_,rfl⟩
  obtain ⟨L7,hL7⟩:∃ L7,L7=1+(rowNums eb).length:=⟨_,rfl⟩
  obtain ⟨L8,hL8⟩:∃ L8,L8=L7+n2:=⟨_,rfl⟩
  have HT:Hid (tn=R7++ez):=by rw [Hid,htn,hR7,txtN];simp only;rw [hl1]
  have HL8b:L8=tn.length:=by rw [HT.out,List.length_append,hR7,List.length_cons];omega
  have HL8m:L8≤114:=by rw [HL8b,htn];exact HLN
  have hL7m:L7≤91:=by omega
  obtain ⟨tx,htx⟩:∃ tx,tx=strOfNums (packL tn):=⟨_,rfl⟩
  have hts:tx.size≤575:=by rw [htx];have:=packL_size (zs:=tn);omega
  have HX:Hid (txtE (ek,eb,ez)=ek++tx):=by rw [Hid,txtE,htx,htn]
  have kP:∀ ma mc W,Ints .i64 W ma L8 mc tn→Calls Tryz.prog 81 #[.slice ma L8 mc] W fun e w'=>e=.returned (.tuple #[.string tx,.int .i64 0])∧Below W.heap.size W w':=fun ma mc W hI=>(implPackList_any ma L8 mc tn W hI (by omega)).mono (fun e w' h9=>by
   rcases h9.1 with ⟨_,h8⟩ | ⟨h8,_⟩
   ·exact ⟨by rw [h8,htx],h9.2⟩
   ·exact absurd (htn▸HOK) h8)
  obtain ⟨fx,hfx⟩:∃ fx,fx=txtE (ek,eb,ez):=⟨_,rfl⟩
  rw [← hfx]
  rw [← hfx] at HX
  have HR:Hid (R7=(n1:Int)::rowNums eb):=hR7
  have HL7:Hid (L7=1+(rowNums eb).length):=hL7
  replace HL8:Hid (L8=L7+n2):=hL8
  clear hok htn hR7 hL7 hL8 HL8b htx hfx HOK HLN hk15 hB z1 z2 hc1 hc2
  go_enter Tryz.func24,Tryz.ntmps24
  go_wp2_with fail
  refine (kE _ bw).mono ?_
  rintro e W ⟨rfl,hb⟩
  replace bw:=bel8 bw hb
  replace pX:=pX.below hb
  clear hb kE
  obtain ⟨B,hBq⟩:∃ B,B=W.heap.size:=⟨_,rfl⟩
  have hBw:w.heap.size<B:=by have:=pX.lt;omega
  have hBw2:w.heap.size≤B:=by omega
  have HBS:B≤W.drew.heap.size:=by simp;omega
  clear hBq
  go_wp2_with fail
  refine wp_region_held_drew (S:=(fun w'=>w'.cell? ⟨w.heap.size,0,none⟩=some (.string ek)∧w'.cell? ⟨w.heap.size,1,none⟩=some (.slice a1 n1 c1)∧w'.cell? ⟨w.heap.size,2,none⟩=some (.slice a2 n2 c2))) (by kernel_rfl) ⟨pX.cell 0,pX.cell 1,pX.cell 2⟩ (fun hS0=>?_)
  refine tkx 0 10 (.pointer (some ⟨w.heap.size,1,none⟩)) ?_ ?_
  ·(intro w' hSw;(try dsimp only at hSw);go_simp;first | done | rfl | omega | (intro h9;omega) | (rw [IntKind.wrap_i64];omega))
  simp only [Act.put,tka,tkb,tkc]
  refine tkx 1 11 (.slice a1 n1 c1) ?_ ?_
  ·(intro w' hSw;(try dsimp only at hSw);go_simp;first | done | rfl | omega | (intro h9;omega) | (rw [IntKind.wrap_i64];omega))
  simp only [Act.put,tka,tkb,tkc]
  refine tkx 2 12 (.int .i64 (n1:Int)) ?_ ?_
  ·(intro w' hSw;(try dsimp only at hSw);go_simp;first | done | rfl | omega | (intro h9;omega) | (rw [IntKind.wrap_i64];omega))
  simp only [Act.put,tka,tkb,tkc]
  refine tkx 4 14 (.pointer (some ⟨w.heap.size,1,none⟩)) ?_ ?_
  ·(intro w' hSw;(try dsimp only at hSw);go_simp;first | done | rfl | omega | (intro h9;omega) | (rw [IntKind.wrap_i64];omega))
  simp only [Act.put,tka,tkb,tkc]
  refine tkx 5 15 (.slice a1 n1 c1) ?_ ?_
  ·(intro w' hSw;(try dsimp only at hSw);go_simp;first | done | rfl | omega | (intro h9;omega) | (rw [IntKind.wrap_i64];omega))
  simp only [Act.put,tka,tkb,tkc]
  replace bw:=bel8 bw (show Below W.heap.size W W.drew by go_grown)
  replace pX:=pX.below (show Below W.heap.size W W.drew by go_grown)
  refine wpAnyH_ready (rs:=[3,6]) (by kernel_rfl) (by simp) ?_
  refine AllReadyH.cons (o:=⟨some 13,_,_,_,_,_⟩) rfl (fun K hK=>?_) (AllReadyH.cons (o:=⟨some 16,_,_,_,_,_⟩) rfl (fun K hK=>?_) AllReadyH.nil)
  ·skip
   have hbb:Below W.drew.heap.size W.drew (W.drew.alloc (.cells #[.int .i64 (n1:Int)] 3)):=by go_grown
   have q3:(W.drew.alloc (.cells #[.int .i64 (n1:Int)] 3)).ownsRow B 3 1 (.slice (some ⟨W.drew.heap.size,0,none⟩) 1 1) 1 ([(n1:Int)].map (Value.int .i64)):=World.ownsRow_lit W.drew #[.int .i64 (n1:Int)] 1 HBS (by unfold maxLen;omega) (by simp)
   have e9:(W.drew.alloc (.cells #[.int .i64 (n1:Int)] 3))=(W.alloc (.cells #[.int .i64 (n1:Int)] 3)).drew:=rfl
   rw [e9] at hbb q3
   clear e9
   go_simp
   refine hK.out _ _ ?_ (fun hS3=>?_)
   ·exact ⟨cells_kept hbb _ _ hS0.1,cells_kept hbb _ _ hS0.2.1,cells_kept hbb _ _ hS0.2.2⟩
   clear hK
   try simp only [Act.put,tka,tkb,tkc]
   replace bw:=bel8 bw hbb
   replace pX:=pX.below hbb
   have HB3:=hbb.size
   clear hbb
   have kN:=kN _ bw
   generalize (W.alloc (.cells #[.int .i64 (n1:Int)] 3)).drew=V1 at *
   refine tkr 6 16 (fun K hK=>?_)
   go_simp
   refine (kN).mono ?_
   rintro e V2 ⟨⟨v6,rfl,q6⟩,hb6⟩
   go_wp2_with fail
   refine hK.out _ _ ?_ (fun hS6=>?_)
   ·exact ⟨cells_kept hb6 _ _ hS3.1,cells_kept hb6 _ _ hS3.2.1,cells_kept hb6 _ _ hS3.2.2⟩
   clear hK
   obtain ⟨va6,vc6,rfl⟩:=slice8 q6
   replace bw:=bel8 bw hb6
   replace pX:=pX.below hb6
   replace q3:=owns8 q3 hb6
   have HB6:=hb6.size
   clear hb6 kN
   refine tkr 7 17 (fun K hK=>?_)
   refine step_app9 rfl _ _ 36 rfl B 3 i1 (.int .i64 0) 1 8 Tryz.underlying36 hi1 hz10 hz11 hz12 rfl (by decide) _ _ _ rfl q3 _ _ _ rfl (own_no9 q6) ((rowNums eb).map (Value.int .i64)) (by rw [List.length_map,Nat.mul_one]) (fun ad ha=>by subst ha;exact newsI9 (ints8 q6)) (one8 _) (by unfold maxLen;omega) (by omega) (by omega) ?_
   intro v7 W7 hown hgrow _
   have HB7:=hgrow.size
   have q7:W7.ownsRow B 3 1 v7 L7 (R7.map (Value.int .i64)):=by
    have e1:R7.map (Value.int .i64)=[(n1:Int)].map (Value.int .i64)++(rowNums eb).map (Value.int .i64):=by rw [← List.map_append,HR.out];rfl
    rw [e1,HL7.out]
    exact hown
   have hgB:∀ g,(Value.ownBlock (.slice (some ⟨W.drew.heap.size,0,none⟩) 1 1))=some g→B≤g:=fun g hg=>(q3.lt g hg).1
   replace bw:=bw.grown hgrow (by omega) (fun g hg=>by have:=hgB g hg;omega)
   replace pX:=pX.kept hgrow (fun e9=>by have:=hgB _ e9;omega)
   go_simp
   refine hK.out _ _ ?_ (fun hS7=>?_)
   ·exact ⟨pX.cell 0,pX.cell 1,pX.cell 2⟩
   clear hK
   try simp only [Act.put,tka,tkb,tkc]
   obtain ⟨la,lc,rfl⟩:=slice8 q7
   clear hown hgrow hgB q3 q6
   refine tkx 8 4 (.slice la L7 lc) ?_ ?_
   ·(intro w' hSw;(try dsimp only at hSw);go_simp;first | done | rfl | omega | (intro h9;omega) | (rw [IntKind.wrap_i64];omega))
   simp only [Act.put,tka,tkb,tkc]
   refine wpAnyH_done (by kernel_rfl) ?_ _
   clear hS0 hS3 hS6 hS7
   have b7s:=bw.size
   have y2:=pX.cell 2
   simp only [List.getElem?_cons_zero,List.getElem?_cons_succ] at y2
   have hB7:B≤W7.heap.size:=by omega
   go_wp2_with (at_builtin;refine wpList_app9 rfl _ _ 36 rfl B 3 i1 (.int .i64 0) 1 8 Tryz.underlying36 hi1 hz10 hz11 hz12 rfl (by decide) _ _ _ rfl q7 a2 n2 c2 rfl no2 (ez.map (Value.int .i64)) (by rw [List.length_map,Nat.mul_one];exact hl2) (fun ad ha=>by subst ha;exact newsI9 (hF.below bw)) (one8 ez) (by unfold maxLen;omega) (by omega) hB7 ?_)
   intro v8 W8 hown hgrow _
   have q8:W8.ownsRow B 3 1 v8 L8 (tn.map (Value.int .i64)):=by
    have e1:tn.map (Value.int .i64)=R7.map (Value.int .i64)++ez.map (Value.int .i64):=by rw [← List.map_append,HT.out]
    rw [e1,HL8.out]
    exact hown
   have hgB:∀ g,(Value.ownBlock (.slice la L7 lc))=some g→B≤g:=fun g hg=>(q7.lt g hg).1
   replace bw:=bw.grown hgrow (by omega) (fun g hg=>by have:=hgB g hg;omega)
   replace pX:=pX.kept hgrow (fun e9=>by have:=hgB _ e9;omega)
   obtain ⟨ma,mc,rfl⟩:=slice8 q8
   have hI:=ints8 q8
   clear hown hgrow hgB q7 q8 y2 b7s hB7
   go_wp2_with fail
   refine (kP ma mc W8 hI).mono ?_
   rintro e W9 ⟨rfl,hb⟩
   replace bw:=bel8 bw hb
   replace pX:=pX.below hb
   clear hb hI
   have y0:=pX.cell 0
   simp only [List.getElem?_cons_zero] at y0
   clear pX
   go_wp2
   go_ret2
   exact ⟨by rw [HX.out];rfl,bw⟩
  ·skip
   go_simp
   refine (kN _ bw).mono ?_
   rintro e V1 ⟨⟨v6,rfl,q6⟩,hb6⟩
   obtain ⟨va6,vc6,rfl⟩:=slice8 q6
   go_wp2_with fail
   refine hK.out _ _ ?_ (fun hS6=>?_)
   ·exact ⟨cells_kept hb6 _ _ hS0.1,cells_kept hb6 _ _ hS0.2.1,cells_kept hb6 _ _ hS0.2.2⟩
   clear hK
   replace bw:=bel8 bw hb6
   replace pX:=pX.below hb6
   have HB6:=hb6.size
   replace HBS:=Nat.le_trans HBS HB6
   clear hb6 kN
   refine tkr 3 13 (fun K hK=>?_)
   have hbb:Below V1.heap.size V1 (V1.alloc (.cells #[.int .i64 (n1:Int)] 3)):=by go_grown
   have q3:(V1.alloc (.cells #[.int .i64 (n1:Int)] 3)).ownsRow B 3 1 (.slice (some ⟨V1.heap.size,0,none⟩) 1 1) 1 ([(n1:Int)].map (Value.int .i64)):=World.ownsRow_lit V1 #[.int .i64 (n1:Int)] 1 HBS (by unfold maxLen;omega) (by simp)
   go_simp
   refine hK.out _ _ ?_ (fun hS3=>?_)
   ·exact ⟨cells_kept hbb _ _ hS6.1,cells_kept hbb _ _ hS6.2.1,cells_kept hbb _ _ hS6.2.2⟩
   clear hK
   try simp only [Act.put,tka,tkb,tkc]
   replace bw:=bel8 bw hbb
   replace pX:=pX.below hbb
   replace q6:=owns8 q6 hbb
   have HB3:=hbb.size
   clear hbb
   refine tkr 7 17 (fun K hK=>?_)
   refine step_app9 rfl _ _ 36 rfl B 3 i1 (.int .i64 0) 1 8 Tryz.underlying36 hi1 hz10 hz11 hz12 rfl (by decide) _ _ _ rfl q3 _ _ _ rfl (own_no9 q6) ((rowNums eb).map (Value.int .i64)) (by rw [List.length_map,Nat.mul_one]) (fun ad ha=>by subst ha;exact newsI9 (ints8 q6)) (one8 _) (by unfold maxLen;omega) (by omega) (by omega) ?_
   intro v7 W7 hown hgrow _
   have HB7:=hgrow.size
   have q7:W7.ownsRow B 3 1 v7 L7 (R7.map (Value.int .i64)):=by
    have e1:R7.map (Value.int .i64)=[(n1:Int)].map (Value.int .i64)++(rowNums eb).map (Value.int .i64):=by rw [← List.map_append,HR.out];rfl
    rw [e1,HL7.out]
    exact hown
   have hgB:∀ g,(Value.ownBlock (.slice (some ⟨V1.heap.size,0,none⟩) 1 1))=some g→B≤g:=fun g hg=>(q3.lt g hg).1
   replace bw:=bw.grown hgrow (by omega) (fun g hg=>by have:=hgB g hg;omega)
   replace pX:=pX.kept hgrow (fun e9=>by have:=hgB _ e9;omega)
   go_simp
   refine hK.out _ _ ?_ (fun hS7=>?_)
   ·exact ⟨pX.cell 0,pX.cell 1,pX.cell 2⟩
   clear hK
   try simp only [Act.put,tka,tkb,tkc]
   obtain ⟨la,lc,rfl⟩:=slice8 q7
   clear hown hgrow hgB q3 q6
   refine tkx 8 4 (.slice la L7 lc) ?_ ?_
   ·(intro w' hSw;(try dsimp only at hSw);go_simp;first | done | rfl | omega | (intro h9;omega) | (rw [IntKind.wrap_i64];omega))
   simp only [Act.put,tka,tkb,tkc]
   refine wpAnyH_done (by kernel_rfl) ?_ _
   clear hS0 hS3 hS6 hS7
   have b7s:=bw.size
   have y2:=pX.cell 2
   simp only [List.getElem?_cons_zero,List.getElem?_cons_succ] at y2
   have hB7:B≤W7.heap.size:=by omega
   go_wp2_with (at_builtin;refine wpList_app9 rfl _ _ 36 rfl B 3 i1 (.int .i64 0) 1 8 Tryz.underlying36 hi1 hz10 hz11 hz12 rfl (by decide) _ _ _ rfl q7 a2 n2 c2 rfl no2 (ez.map (Value.int .i64)) (by rw [List.length_map,Nat.mul_one];exact hl2) (fun ad ha=>by subst ha;exact newsI9 (hF.below bw)) (one8 ez) (by unfold maxLen;omega) (by omega) hB7 ?_)
   intro v8 W8 hown hgrow _
   have q8:W8.ownsRow B 3 1 v8 L8 (tn.map (Value.int .i64)):=by
    have e1:tn.map (Value.int .i64)=R7.map (Value.int .i64)++ez.map (Value.int .i64):=by rw [← List.map_append,HT.out]
    rw [e1,HL8.out]
    exact hown
   have hgB:∀ g,(Value.ownBlock (.slice la L7 lc))=some g→B≤g:=fun g hg=>(q7.lt g hg).1
   replace bw:=bw.grown hgrow (by omega) (fun g hg=>by have:=hgB g hg;omega)
   replace pX:=pX.kept hgrow (fun e9=>by have:=hgB _ e9;omega)
   obtain ⟨ma,mc,rfl⟩:=slice8 q8
   have hI:=ints8 q8
   clear hown hgrow hgB q7 q8 y2 b7s hB7
   go_wp2_with fail
   refine (kP ma mc W8 hI).mono ?_
   rintro e W9 ⟨rfl,hb⟩
   replace bw:=bel8 bw hb
   replace pX:=pX.below hb
   clear hb hI
   have y0:=pX.cell 0
   simp only [List.getElem?_cons_zero] at y0
   clear pX
   go_wp2
   go_ret2
   exact ⟨by rw [HX.out];rfl,bw⟩


theorem entrySame_is (e e':E3) (s s':Sl2) (w:World) (h:Emem w s e) (h':Emem w s' e') :
  Calls Tryz.prog 67 #[entV e.1 s,entV e'.1 s'] w fun x w'=>x=.returned (.bool (decide (e=e')))∧Below w.heap.size w w':=by
 obtain ⟨_,hB,hF,_⟩:=h
 obtain ⟨_,hB',hF',_⟩:=h'
 obtain ⟨k,eb,ez⟩:=e
 obtain ⟨k2,eb',ez'⟩:=e'
 obtain ⟨⟨a1,n1,c1⟩,⟨a2,n2,c2⟩⟩:=s
 obtain ⟨⟨b1,m1,d1⟩,⟨b2,m2,d2⟩⟩:=s'
 unfold entV
 simp only at *
 have kB:=fun W (hb:Below w.heap.size w W)=>eqlB_any a1 b1 n1 m1 c1 d1 eb eb' W (hB.below hb) (hB'.below hb)
 have kI:=fun W (hb:Below w.heap.size w W)=>eqlI_any a2 b2 n2 m2 c2 d2 ez ez' W (hF.below hb) (hF'.below hb)
 clear hB hF hB' hF'
 have bw:Below w.heap.size w ((w.alloc (.cells #[.string k,.slice a1 n1 c1,.slice a2 n2 c2] 45)).alloc (.cells #[.string k2,.slice b1 m1 d1,.slice b2 m2 d2] 45)):=by go_grown
 have pX:Blk ((w.alloc (.cells #[.string k,.slice a1 n1 c1,.slice a2 n2 c2] 45)).alloc (.cells #[.string k2,.slice b1 m1 d1,.slice b2 m2 d2] 45)) w.heap.size 45 [.string k,.slice a1 n1 c1,.slice a2 n2 c2]:=blkOld _ (blkAt _ _ _ rfl)
 have pY:Blk ((w.alloc (.cells #[.string k,.slice a1 n1 c1,.slice a2 n2 c2] 45)).alloc (.cells #[.string k2,.slice b1 m1 d1,.slice b2 m2 d2] 45)) (w.heap.size+1) 45 [.string k2,.slice b1 m1 d1,.slice b2 m2 d2]:=blkAt _ _ _ (by simp)
 obtain ⟨fin,hfin⟩:∃ fin,fin=decide ((k,eb,ez)=(k2,eb',ez')):=⟨_,rfl⟩
 rw [← hfin]
 have HF:Hid (fin=(decide (k=k2) && (decide (eb=eb') && decide (ez=ez')))):=by
  rw [Hid,hfin]
  simp only [Prod.mk.injEq,Bool.decide_and]
 clear hfin
 by_cases hk:k=k2
 ·subst hk
  have hke:(k.toList == k.toList)=true:=by simp
  rw [decide_eq_true rfl,Bool.true_and] at HF
  by_cases hb0:eb=eb'
  ·rw [decide_eq_true hb0] at HF kB
   rw [Bool.true_and] at HF
   clear hb0
   generalize decide (ez=ez')=u at *
   go_enter Tryz.func67,Tryz.ntmps67
   go_wp2_with fail
   generalize ((w.alloc (.cells #[.string k,.slice a1 n1 c1,.slice a2 n2 c2] 45)).alloc (.cells #[.string k,.slice b1 m1 d1,.slice b2 m2 d2] 45))=U at *
   refine (kB _ bw).mono ?_
   rintro x w1 ⟨rfl,hb⟩
   replace bw:=bel8 bw hb
   replace pX:=pX.below hb
   replace pY:=pY.below hb
   have x2:=pX.cell 2
   have y2:=pY.cell 2
   simp only [List.getElem?_cons_zero,List.getElem?_cons_succ] at x2 y2
   clear hb
   go_wp2_with fail
   refine (kI _ bw).mono ?_
   rintro x w2 ⟨rfl,hb⟩
   replace bw:=bel8 bw hb
   clear hb x2 y2 pX pY
   go_wp2
   go_ret
   exact ⟨by rw [HF.out];rfl,bw⟩
  ·rw [decide_eq_false hb0] at HF kB
   rw [Bool.false_and] at HF
   clear hb0 kI
   go_enter Tryz.func67,Tryz.ntmps67
   go_wp2_with fail
   refine (kB _ bw).mono ?_
   rintro x w1 ⟨rfl,hb⟩
   replace bw:=bel8 bw hb
   clear hb pX pY
   go_wp2
   go_ret
   exact ⟨by rw [HF.out];rfl,bw⟩
 ·have hke:(k.toList == k2.toList)=false:=by
   rw [beq_eq_false_iff_ne]
   exact fun h9=>hk (toList_inj9 h9)
  rw [decide_eq_false hk,Bool.false_and] at HF
  clear hk kB kI pX pY
  go_enter Tryz.func67,Tryz.ntmps67
  go_wp2
  go_ret
  exact ⟨by rw [HF.out];rfl,bw⟩

theorem equalFunc_is (a:Option Addr) (n c:Nat) (es:List E3) (a':Option Addr) (n' c':Nat) (es':List E3) (w:World) (h:Ents w a n c es) (h':Ents w a' n' c' es') :
  Calls Tryz.prog 66 #[.slice a n c,.slice a' n' c',.func (.func 67) #[] #[]] w fun x w'=>x=.returned (.bool (decide (es=es')))∧Below w.heap.size w w':=by
 have hl:=h.1
 have hl':=h'.1
 have hnm:n≤maxLen:=Nat.le_trans h.2.1 h.2.2.1
 unfold maxLen at hnm
 by_cases hnn:n=n'
 ·subst hnn
  have hne:((n:Int) != (n:Int))=false:=by simp
  obtain ⟨r,hr⟩:∃ r,r=decide (es=es'):=⟨_,rfl⟩
  rw [← hr]
  have HR:Hid (r=decide (es=es')):=hr
  clear hr
  go_enter Tryz.func66,Tryz.ntmps66
  go_wp2_with fail
  go_loopw [17] (fun si wr=>∃ k:Nat,k≤n∧si=.int .i64 k∧Hid (es.take k=es'.take k)∧Below w.heap.size w wr) (fun si _=>n - (intOf si).toNat)
  case atStart=>exact ⟨0,by omega,rfl,(by simp:es.take 0=es'.take 0),Below.refl _ _⟩
  case round =>
   obtain ⟨k,hk,rfl,HK,bw⟩:=hrel
   by_cases hlt:k<n
   ·obtain ⟨_,_,_,hcase⟩:=h.below bw
    obtain ⟨_,_,_,hcase'⟩:=h'.below bw
    rcases hcase with e0 | ⟨b,off,rfl,hb,hc⟩
    ·omega
    rcases hcase' with e0 | ⟨b',off',rfl,hb',hc'⟩
    ·omega
    obtain ⟨s,x0,x1,x2,hm⟩:=hc k hlt
    obtain ⟨s',y0,y1,y2,hm'⟩:=hc' k hlt
    clear hc hb hc' hb'
    have kE:=fun W (hb:Below wr.heap.size wr W)=>entrySame_is (es.getD k e3d) (es'.getD k e3d) s s' W (hm.below hb) (hm'.below hb)
    have ht:=take_snoc9 (es:=es) (k:=k) (by omega)
    have ht':=take_snoc9 (es:=es') (k:=k) (by omega)
    have HE:Hid (es=es'→es.getD k e3d=es'.getD k e3d):=fun h9=>by rw [h9]
    clear hm hm'
    generalize es.getD k e3d=x at *
    generalize es'.getD k e3d=y at *
    have HT:Hid (x=y→es.take (k+1)=es'.take (k+1)):=fun h9=>by rw [← ht,← ht',HK.out,h9]
    clear ht ht'
    by_cases hxy:x=y
    ·have HK2:Hid (es.take (k+1)=es'.take (k+1)):=HT.out hxy
     rw [decide_eq_true hxy] at kE
     clear HT HE hxy
     obtain ⟨k1,xb,xz⟩:=x
     obtain ⟨k2,yb,yz⟩:=y
     obtain ⟨⟨a1,n1,c1⟩,⟨a2,n2,c2⟩⟩:=s
     obtain ⟨⟨b1,m1,d1⟩,⟨b2,m2,d2⟩⟩:=s'
     unfold entV at kE
     simp only at x0 x1 x2 y0 y1 y2 kE
     have hlt':(k:Int)<(n:Int):=by omega
     have hk0:(0:Int)≤(k:Int):=by omega
     have bA:Below wr.heap.size wr (wr.alloc (.cells #[.string k1,.slice a1 n1 c1,.slice a2 n2 c2] 45)):=by go_grown
     replace y0:=cell8 bA y0
     replace y1:=cell8 bA y1
     replace y2:=cell8 bA y2
     clear bA
     go_wp2_with fail
     refine (kE _ (by go_grown)).mono ?_
     rintro e w1 ⟨rfl,hb1⟩
     have bw1:=bel8 bw (bel8 (by go_grown) hb1)
     clear hb1 x0 x1 x2 y0 y1 y2 kE HK
     go_wp2
     go_roundw
     case rel=>exact ⟨k+1,by omega,by go_num,HK2,bw1⟩
     case measure=>simp [intOf];omega
    ·have HF:Hid (r=false):=by rw [Hid,HR.out,decide_eq_false (fun h9=>hxy (HE.out h9))]
     rw [decide_eq_false hxy] at kE
     clear HT HE hxy HR
     obtain ⟨k1,xb,xz⟩:=x
     obtain ⟨k2,yb,yz⟩:=y
     obtain ⟨⟨a1,n1,c1⟩,⟨a2,n2,c2⟩⟩:=s
     obtain ⟨⟨b1,m1,d1⟩,⟨b2,m2,d2⟩⟩:=s'
     unfold entV at kE
     simp only at x0 x1 x2 y0 y1 y2 kE
     have hlt':(k:Int)<(n:Int):=by omega
     have hk0:(0:Int)≤(k:Int):=by omega
     have bA:Below wr.heap.size wr (wr.alloc (.cells #[.string k1,.slice a1 n1 c1,.slice a2 n2 c2] 45)):=by go_grown
     replace y0:=cell8 bA y0
     replace y1:=cell8 bA y1
     replace y2:=cell8 bA y2
     clear bA
     go_wp2_with fail
     refine (kE _ (by go_grown)).mono ?_
     rintro e w1 ⟨rfl,hb1⟩
     have bw1:=bel8 bw (bel8 (by go_grown) hb1)
     clear hb1 x0 x1 x2 y0 y1 y2 kE HK
     go_wp2
     go_ret
     exact ⟨by rw [HF.out];rfl,bw1⟩
   ·obtain rfl:k=n:=by omega
    have HF:Hid (r=true):=by
     rw [Hid,HR.out,decide_eq_true_iff]
     have:=HK.out
     rw [List.take_of_length_le (by omega),List.take_of_length_le (by omega)] at this
     exact this
    clear HK HR
    go_wp2
    go_ret
    exact ⟨by rw [HF.out];rfl,bw⟩
 ·have hne:((n:Int) != (n':Int))=true:=by simp;omega
  rw [decide_eq_false (fun h9=>hnn (by rw [← hl,← hl',h9]))]
  go_enter Tryz.func66,Tryz.ntmps66
  go_wp2
  go_ret
  exact ⟨rfl,Below.refl _ _⟩

def smeB (es es':List E3):Bool:=memOk es && (memOk es' && decide (es=es'))

theorem implSameMemo_is (a:Option Addr) (n c:Nat) (es:List E3) (a':Option Addr) (n' c':Nat) (es':List E3) (w:World) (h:Ents w a n c es) (h':Ents w a' n' c' es') (hV:VmShape w) :
  Calls Tryz.prog 17 #[.agg #[.slice a n c],.agg #[.slice a' n' c']] w fun x w'=>x=.returned (.bool (smeB es es'))∧Below w.heap.size w w':=by
 unfold smeB
 have kA:=fun W (hb:Below w.heap.size w W)=>implMemoOK_is a n c es W (h.below hb) (hV.below hb)
 have kB:=fun W (hb:Below w.heap.size w W)=>implMemoOK_is a' n' c' es' W (h'.below hb) (hV.below hb)
 have bw:Below w.heap.size w ((w.alloc (.cells #[.slice a n c] 33)).alloc (.cells #[.slice a' n' c'] 33)):=by go_grown
 have pM:Blk ((w.alloc (.cells #[.slice a n c] 33)).alloc (.cells #[.slice a' n' c'] 33)) w.heap.size 33 [.slice a n c]:=blkOld _ (blkAt _ _ _ rfl)
 have pN:Blk ((w.alloc (.cells #[.slice a n c] 33)).alloc (.cells #[.slice a' n' c'] 33)) (w.heap.size+1) 33 [.slice a' n' c']:=blkAt _ _ _ (by simp)
 have kE:=fun W (hb:Below w.heap.size w W)=>equalFunc_is a n c es a' n' c' es' W (h.below hb) (h'.below hb)
 clear h h' hV
 generalize decide (es=es')=u at *
 cases hA:memOk es
 ·rw [hA] at kA
  rw [Bool.false_and]
  clear kE kB hA
  go_enter Tryz.func17,Tryz.ntmps17
  go_wp2_with fail
  generalize ((w.alloc (.cells #[.slice a n c] 33)).alloc (.cells #[.slice a' n' c'] 33))=U at *
  refine (kA _ bw).mono ?_
  rintro x w1 ⟨rfl,hb⟩
  replace bw:=bel8 bw hb
  replace pM:=pM.below hb
  replace pN:=pN.below hb
  have g0:=pM.cell 0
  have g1:=pN.cell 0
  simp only [List.getElem?_cons_zero] at g0 g1
  clear hb kA
  go_wp2
  go_ret
  exact ⟨rfl,bw⟩
 ·rw [hA] at kA
  rw [Bool.true_and]
  clear hA
  cases hB:memOk es'
  ·rw [hB] at kB
   rw [Bool.false_and]
   clear kE hB
   go_enter Tryz.func17,Tryz.ntmps17
   go_wp2_with fail
   generalize ((w.alloc (.cells #[.slice a n c] 33)).alloc (.cells #[.slice a' n' c'] 33))=U at *
   refine (kA _ bw).mono ?_
   rintro x w1 ⟨rfl,hb⟩
   replace bw:=bel8 bw hb
   replace pM:=pM.below hb
   replace pN:=pN.below hb
   have g0:=pM.cell 0
   have g1:=pN.cell 0
   simp only [List.getElem?_cons_zero] at g0 g1
   clear hb kA
   go_wp2_with fail
   refine (kB _ bw).mono ?_
   rintro x w2 ⟨rfl,hb⟩
   replace bw:=bel8 bw hb
   replace pM:=pM.below hb
   replace pN:=pN.below hb
   replace g0:=pM.cell 0
   replace g1:=pN.cell 0
   simp only [List.getElem?_cons_zero] at g0 g1
   clear hb kB
   go_wp2
   go_ret
   exact ⟨rfl,bw⟩
  ·rw [hB] at kB
   rw [Bool.true_and]
   clear hB
   go_enter Tryz.func17,Tryz.ntmps17
   go_wp2_with fail
   generalize ((w.alloc (.cells #[.slice a n c] 33)).alloc (.cells #[.slice a' n' c'] 33))=U at *
   refine (kA _ bw).mono ?_
   rintro x w1 ⟨rfl,hb⟩
   replace bw:=bel8 bw hb
   replace pM:=pM.below hb
   replace pN:=pN.below hb
   have g0:=pM.cell 0
   have g1:=pN.cell 0
   simp only [List.getElem?_cons_zero] at g0 g1
   clear hb kA
   go_wp2_with fail
   refine (kB _ bw).mono ?_
   rintro x w2 ⟨rfl,hb⟩
   replace bw:=bel8 bw hb
   replace pM:=pM.below hb
   replace pN:=pN.below hb
   replace g0:=pM.cell 0
   replace g1:=pN.cell 0
   simp only [List.getElem?_cons_zero] at g0 g1
   clear hb kB
   go_wp2_with fail
   refine (kE _ bw).mono ?_
   rintro x w3 ⟨rfl,hb⟩
   replace bw:=bel8 bw hb
   clear hb g0 g1 pM pN kE
   go_wp2
   go_ret
   exact ⟨rfl,bw⟩

end Go.Proofs.YtbdfbdbpjijcdaaGreatDoor
