/-
  Joined: PtjI.
-/
import Derived.Test.YthlcdhddickdiaaDoorE32
import Derived.Test.YthlcdhddickdiaaDoorE44
import Derived.Test.YthlcdhddickdiaaDoorE47

namespace Go.Proofs.YthlcdhddickdiaaDoor
set_option maxRecDepth 100000
set_option maxHeartbeats 16000000
open Go.RowKit
set_option linter.unusedVariables false
set_option linter.unusedSimpArgs false

theorem implPutEntry_is (a:Option Addr) (n c:Nat) (es:List E3) (e:E3) (s:Sl2) (w:World) (h:Ents w a n c es) (hE:Emem w s e) (hV:VmShape w) :
  Calls Tryd.prog 11 #[.agg #[.slice a n c],entV e.1 s] w fun x w'=>MemGotC x w' w.heap.size (ptM es e) (ptC es e)∧Below w.heap.size w w':=by
 have kM:=fun W (hb:Below w.heap.size w W)=>implMemoOK_is a n c es W (h.below hb) (hV.below hb)
 have kE:=fun W (hb:Below w.heap.size w W)=>implEntryOK_is e s W (hE.below hb) (hV.below hb)
 have kC:=fun (hok:memOk es=true) W (hb:Below w.heap.size w W)=>memoCopied_is a n c es W (h.below hb) hok
 have kD:=fun (heo:entOk e=true) W (hb:Below w.heap.size w W)=>copied_is e s W (hE.below hb) (by have:=entOk_bugs heo;omega) (by have:=entOk_foot heo;omega) (by have:=entOk_key heo;omega)
 have hfit:=h.fits
 have hef:=hE.fits
 unfold ptM ptC
 obtain ⟨ek,eb,ez⟩:=e
 obtain ⟨⟨e1,m1,d1⟩,⟨e2,m2,d2⟩⟩:=s
 unfold entV at kE kD ⊢
 simp only at *
 have bw:Below w.heap.size w (((w.alloc (.cells #[.slice a n c] 33)).alloc (.cells #[.string ek,.slice e1 m1 d1,.slice e2 m2 d2] 39)).alloc (.cells #[.slice none 0 0] 33)):=by go_grown
 have pM:Blk (((w.alloc (.cells #[.slice a n c] 33)).alloc (.cells #[.string ek,.slice e1 m1 d1,.slice e2 m2 d2] 39)).alloc (.cells #[.slice none 0 0] 33)) w.heap.size 33 [.slice a n c]:=blkOld _ (blkOld _ (blkAt _ _ _ rfl))
 have pE:Blk (((w.alloc (.cells #[.slice a n c] 33)).alloc (.cells #[.string ek,.slice e1 m1 d1,.slice e2 m2 d2] 39)).alloc (.cells #[.slice none 0 0] 33)) (w.heap.size+1) 39 [.string ek,.slice e1 m1 d1,.slice e2 m2 d2]:=blkOld _ (blkAt _ _ _ (by simp))
 have pR:Blk (((w.alloc (.cells #[.slice a n c] 33)).alloc (.cells #[.string ek,.slice e1 m1 d1,.slice e2 m2 d2] 39)).alloc (.cells #[.slice none 0 0] 33)) (w.heap.size+1+1) 33 [.slice none 0 0]:=blkAt _ _ _ (by simp)
 have x0:=pE.cell 0
 have x1:=pE.cell 1
 have x2:=pE.cell 2
 have g0:=pM.cell 0
 simp only [List.getElem?_cons_zero,List.getElem?_cons_succ] at x0 x1 x2 g0
 clear h hE hV
 cases hok:memOk es
 ·rw [if_neg (by simp),if_neg (by simp)]
  rw [hok] at kM
  clear kE kC kD hok
  go_enter Tryd.func11,Tryd.ntmps11
  go_wp2_with fail
  generalize (((w.alloc (.cells #[.slice a n c] 33)).alloc (.cells #[.string ek,.slice e1 m1 d1,.slice e2 m2 d2] 39)).alloc (.cells #[.slice none 0 0] 33))=U at *
  refine (kM _ bw).mono ?_
  rintro x w1 ⟨rfl,hb⟩
  replace bw:=bel8 bw hb
  replace pM:=pM.below hb
  replace pE:=pE.below hb
  replace pR:=pR.below hb
  replace x0:=pE.cell 0
  replace x1:=pE.cell 1
  replace x2:=pE.cell 2
  replace g0:=pM.cell 0
  simp only [List.getElem?_cons_zero,List.getElem?_cons_succ] at x0 x1 x2 g0
  clear hb kM
  clear x0 x1 x2 g0
  have r0:=pR.cell 0
  have fr0:=pR.frozen 0
  have pZ:=pR.set 0 (.slice none 0 0)
  simp only [List.set_cons_zero] at pZ
  have z0:=pZ.cell 0
  simp only [List.getElem?_cons_zero] at z0 r0
  have bz:=bw.setCell (p:=⟨w.heap.size+1+1,0,none⟩) (show w.heap.size≤w.heap.size+1+1 by omega) (.slice none 0 0)
  clear pZ pR pM pE
  go_wp2
  refine bodyPost_ret (by simp [results,Tryd.results11,go_sem,z0];try rfl) rfl ?_
  exact ⟨MemGotC.mk9 (OwnM.nil9 _ _),bz⟩
 ·rw [hok] at kM
  cases heo:entOk (ek,eb,ez)
  ·rw [if_neg (by simp),if_neg (by simp)]
   rw [heo] at kE
   clear kC kD hok heo
   go_enter Tryd.func11,Tryd.ntmps11
   go_wp2_with fail
   generalize (((w.alloc (.cells #[.slice a n c] 33)).alloc (.cells #[.string ek,.slice e1 m1 d1,.slice e2 m2 d2] 39)).alloc (.cells #[.slice none 0 0] 33))=U at *
   refine (kM _ bw).mono ?_
   rintro x w1 ⟨rfl,hb⟩
   replace bw:=bel8 bw hb
   replace pM:=pM.below hb
   replace pE:=pE.below hb
   replace pR:=pR.below hb
   replace x0:=pE.cell 0
   replace x1:=pE.cell 1
   replace x2:=pE.cell 2
   replace g0:=pM.cell 0
   simp only [List.getElem?_cons_zero,List.getElem?_cons_succ] at x0 x1 x2 g0
   clear hb kM
   go_wp2_with fail
   refine (kE _ bw).mono ?_
   rintro x w2 ⟨rfl,hb⟩
   replace bw:=bel8 bw hb
   replace pM:=pM.below hb
   replace pE:=pE.below hb
   replace pR:=pR.below hb
   replace x0:=pE.cell 0
   replace x1:=pE.cell 1
   replace x2:=pE.cell 2
   replace g0:=pM.cell 0
   simp only [List.getElem?_cons_zero,List.getElem?_cons_succ] at x0 x1 x2 g0
   clear hb kE
   clear x0 x1 x2 g0
   have r0:=pR.cell 0
   have fr0:=pR.frozen 0
   have pZ:=pR.set 0 (.slice none 0 0)
   simp only [List.set_cons_zero] at pZ
   have z0:=pZ.cell 0
   simp only [List.getElem?_cons_zero] at z0 r0
   have bz:=bw.setCell (p:=⟨w.heap.size+1+1,0,none⟩) (show w.heap.size≤w.heap.size+1+1 by omega) (.slice none 0 0)
   clear pZ pR pM pE
   go_wp2
   refine bodyPost_ret (by simp [results,Tryd.results11,go_sem,z0];try rfl) rfl ?_
   exact ⟨MemGotC.mk9 (OwnM.nil9 _ _),bz⟩
  ·rw [heo] at kE
   have hAA:(true=true∧true=true):=⟨rfl,rfl⟩
   rw [if_pos hAA,if_pos hAA]
   clear hAA
   replace kC:=kC hok
   replace kD:=kD heo
   have hn2:=memOk_len hok
   by_cases hfull:isE es ek=false∧es.length=2000
   ·rw [if_pos hfull,if_pos hfull]
    have HRB:(isE es ek || decide (es.length<2000))=false:=by rw [hfull.1,decide_eq_false (by omega)];rfl
    clear hfull heo
    go_enter Tryd.func11,Tryd.ntmps11
    go_wp2_with fail
    generalize (((w.alloc (.cells #[.slice a n c] 33)).alloc (.cells #[.string ek,.slice e1 m1 d1,.slice e2 m2 d2] 39)).alloc (.cells #[.slice none 0 0] 33))=U at *
    refine (kM _ bw).mono ?_
    rintro x w1 ⟨rfl,hb⟩
    replace bw:=bel8 bw hb
    replace pM:=pM.below hb
    replace pE:=pE.below hb
    replace pR:=pR.below hb
    replace x0:=pE.cell 0
    replace x1:=pE.cell 1
    replace x2:=pE.cell 2
    replace g0:=pM.cell 0
    simp only [List.getElem?_cons_zero,List.getElem?_cons_succ] at x0 x1 x2 g0
    clear hb kM
    go_wp2_with fail
    refine (kE _ bw).mono ?_
    rintro x w2 ⟨rfl,hb⟩
    replace bw:=bel8 bw hb
    replace pM:=pM.below hb
    replace pE:=pE.below hb
    replace pR:=pR.below hb
    replace x0:=pE.cell 0
    replace x1:=pE.cell 1
    replace x2:=pE.cell 2
    replace g0:=pM.cell 0
    simp only [List.getElem?_cons_zero,List.getElem?_cons_succ] at x0 x1 x2 g0
    clear hb kE
    go_wp2_with fail
    refine (kC _ bw).mono ?_
    rintro x w3 ⟨⟨v,rfl,hM⟩,hb⟩
    have hB2:w.heap.size+1+1<w2.heap.size:=pR.lt
    obtain ⟨L,hLm,hrow,hQ⟩:=hM.q9
    obtain ⟨va,vc,rfl⟩:=slice8 hrow
    replace bw:=bel8 bw hb
    replace pM:=pM.below hb
    replace pE:=pE.below hb
    replace pR:=pR.below hb
    replace x0:=pE.cell 0
    replace x1:=pE.cell 1
    replace x2:=pE.cell 2
    replace g0:=pM.cell 0
    simp only [List.getElem?_cons_zero,List.getElem?_cons_succ] at x0 x1 x2 g0
    have hs3:=hb.size
    clear hb kC hM
    go_wp2_with fail
    refine (memoTable_is va L.length vc _).mono ?_
    rintro x w4 ⟨rfl,hb⟩
    replace bw:=bel8 bw hb
    replace pM:=pM.below hb
    replace pE:=pE.below hb
    replace pR:=pR.below hb
    replace x0:=pE.cell 0
    replace x1:=pE.cell 1
    replace x2:=pE.cell 2
    replace g0:=pM.cell 0
    simp only [List.getElem?_cons_zero,List.getElem?_cons_succ] at x0 x1 x2 g0
    replace hrow:=owns8 hrow hb
    replace hQ:=hQ.below hb
    replace hs3:=Nat.le_trans hs3 hb.size
    clear hb
    have bX:Below w4.heap.size w4 (w4.alloc (.cells #[.slice va L.length vc] 67)):=by go_grown
    have pX:Blk (w4.alloc (.cells #[.slice va L.length vc] 67)) w4.heap.size 67 [.slice va L.length vc]:=blkAt _ _ _ rfl
    replace bw:=bel8 bw bX
    replace pM:=pM.below bX
    replace pE:=pE.below bX
    replace pR:=pR.below bX
    replace x0:=pE.cell 0
    replace x1:=pE.cell 1
    replace x2:=pE.cell 2
    replace g0:=pM.cell 0
    simp only [List.getElem?_cons_zero,List.getElem?_cons_succ] at x0 x1 x2 g0
    replace hrow:=owns8 hrow bX
    replace hQ:=hQ.below bX
    have hs4:w2.heap.size≤(w4.alloc (.cells #[.slice va L.length vc] 67)).heap.size:=Nat.le_trans hs3 bX.size
    clear bX
    go_wp2_with fail
    obtain ⟨X,hX⟩:∃ X,X=w4.heap.size:=⟨_,rfl⟩
    rw [← hX] at pX ⊢
    have hXB:w2.heap.size≤X:=by omega
    clear hX
    generalize w4.alloc (.cells #[.slice va L.length vc] 67)=W5 at *
    obtain ⟨ln,hln⟩:∃ ln,ln=L.length:=⟨_,rfl⟩
    rw [← hln] at pX ⊢
    refine (kD _ bw).mono ?_
    rintro x w6 ⟨⟨⟨⟨f1,i1,j1⟩,⟨f2,i2,j2⟩⟩,rfl,hO⟩,hb⟩
    have hQ6:=hQ.below hb
    have hrow6:=owns8 hrow hb
    have hrow7:w6.ownsRow w2.heap.size 39 3 (.slice va ln vc) L.length (entL L):=by rw [hln];exact hrow6
    replace pX:=pX.below hb
    replace bw:=bel8 bw hb
    replace pM:=pM.below hb
    replace pE:=pE.below hb
    replace pR:=pR.below hb
    clear hb kD x0 x1 x2 g0 hrow hrow6
    unfold entV
    simp only at hO ⊢
    have kP:=put_is X w2.heap.size va ln vc L (ek,eb,ez) ((f1,i1,j1),(f2,i2,j2)) W5 w6 pX hrow7 hln hQ6 hQ hO (fun x hx=>hfit _ (by rw [← hLm];exact List.mem_map_of_mem hx)) (by rw [hLm];exact hok) hs4 hXB
    unfold entV at kP
    simp only at kP
    have hLl:L.length=es.length:=by rw [← hLm,List.length_map]
    rw [hLm,hLl] at kP
    rw [HRB] at kP
    simp only [Bool.false_eq_true,if_false] at kP
    clear hQ hQ6 hO hrow7 hLl hln hLm pX
    go_wp2_with fail
    refine kP.mono ?_
    rintro x w7 ⟨⟨ra,rn,rc,rfl,pX7,hM7⟩,hb⟩
    have bz0:Below w.heap.size w w7:=bw.trans (hb.mono (by omega))
    have pR7:Blk w7 (w.heap.size+1+1) 33 [.slice none 0 0]:=(hb.block _ hB2).trans pR
    clear hb kP pR pM pE bw
    have y0:=pX7.cell 0
    have r0:=pR7.cell 0
    have fr0:=pR7.frozen 0
    have pZ:=pR7.set 0 (.slice ra rn rc)
    simp only [List.set_cons_zero] at pZ
    have z0:=pZ.cell 0
    simp only [List.getElem?_cons_zero] at z0 r0 y0
    have bz:=bz0.setCell (p:=⟨w.heap.size+1+1,0,none⟩) (show w.heap.size≤w.heap.size+1+1 by omega) (.slice ra rn rc)
    have hM9:=(hM7.low (p:=⟨w.heap.size+1+1,0,none⟩) (show w.heap.size+1+1<w2.heap.size from hB2) (.slice ra rn rc)).lower (show w.heap.size≤w2.heap.size by omega)
    clear pZ pR7 pX7 hM7 bz0
    go_wp2
    refine bodyPost_ret (by simp [results,Tryd.results11,go_sem,z0];try rfl) rfl ?_
    exact ⟨MemGotC.mk9 hM9,bz⟩
   ·rw [if_neg hfull,if_neg hfull]
    have HRB:(isE es ek || decide (es.length<2000))=true:=by
     cases hI:isE es ek
     ·rw [Bool.false_or,decide_eq_true_eq]
      have:¬ es.length=2000:=fun e9=>hfull ⟨hI,e9⟩
      omega
     ·rfl
    clear hfull heo
    skip
    go_enter Tryd.func11,Tryd.ntmps11
    go_wp2_with fail
    generalize (((w.alloc (.cells #[.slice a n c] 33)).alloc (.cells #[.string ek,.slice e1 m1 d1,.slice e2 m2 d2] 39)).alloc (.cells #[.slice none 0 0] 33))=U at *
    refine (kM _ bw).mono ?_
    rintro x w1 ⟨rfl,hb⟩
    replace bw:=bel8 bw hb
    replace pM:=pM.below hb
    replace pE:=pE.below hb
    replace pR:=pR.below hb
    replace x0:=pE.cell 0
    replace x1:=pE.cell 1
    replace x2:=pE.cell 2
    replace g0:=pM.cell 0
    simp only [List.getElem?_cons_zero,List.getElem?_cons_succ] at x0 x1 x2 g0
    clear hb kM
    go_wp2_with fail
    refine (kE _ bw).mono ?_
    rintro x w2 ⟨rfl,hb⟩
    replace bw:=bel8 bw hb
    replace pM:=pM.below hb
    replace pE:=pE.below hb
    replace pR:=pR.below hb
    replace x0:=pE.cell 0
    replace x1:=pE.cell 1
    replace x2:=pE.cell 2
    replace g0:=pM.cell 0
    simp only [List.getElem?_cons_zero,List.getElem?_cons_succ] at x0 x1 x2 g0
    clear hb kE
    go_wp2_with fail
    refine (kC _ bw).mono ?_
    rintro x w3 ⟨⟨v,rfl,hM⟩,hb⟩
    have hB2:w.heap.size+1+1<w2.heap.size:=pR.lt
    obtain ⟨L,hLm,hrow,hQ⟩:=hM.q9
    obtain ⟨va,vc,rfl⟩:=slice8 hrow
    replace bw:=bel8 bw hb
    replace pM:=pM.below hb
    replace pE:=pE.below hb
    replace pR:=pR.below hb
    replace x0:=pE.cell 0
    replace x1:=pE.cell 1
    replace x2:=pE.cell 2
    replace g0:=pM.cell 0
    simp only [List.getElem?_cons_zero,List.getElem?_cons_succ] at x0 x1 x2 g0
    have hs3:=hb.size
    clear hb kC hM
    go_wp2_with fail
    refine (memoTable_is va L.length vc _).mono ?_
    rintro x w4 ⟨rfl,hb⟩
    replace bw:=bel8 bw hb
    replace pM:=pM.below hb
    replace pE:=pE.below hb
    replace pR:=pR.below hb
    replace x0:=pE.cell 0
    replace x1:=pE.cell 1
    replace x2:=pE.cell 2
    replace g0:=pM.cell 0
    simp only [List.getElem?_cons_zero,List.getElem?_cons_succ] at x0 x1 x2 g0
    replace hrow:=owns8 hrow hb
    replace hQ:=hQ.below hb
    replace hs3:=Nat.le_trans hs3 hb.size
    clear hb
    have bX:Below w4.heap.size w4 (w4.alloc (.cells #[.slice va L.length vc] 67)):=by go_grown
    have pX:Blk (w4.alloc (.cells #[.slice va L.length vc] 67)) w4.heap.size 67 [.slice va L.length vc]:=blkAt _ _ _ rfl
    replace bw:=bel8 bw bX
    replace pM:=pM.below bX
    replace pE:=pE.below bX
    replace pR:=pR.below bX
    replace x0:=pE.cell 0
    replace x1:=pE.cell 1
    replace x2:=pE.cell 2
    replace g0:=pM.cell 0
    simp only [List.getElem?_cons_zero,List.getElem?_cons_succ] at x0 x1 x2 g0
    replace hrow:=owns8 hrow bX
    replace hQ:=hQ.below bX
    have hs4:w2.heap.size≤(w4.alloc (.cells #[.slice va L.length vc] 67)).heap.size:=Nat.le_trans hs3 bX.size
    clear bX
    go_wp2_with fail
    obtain ⟨X,hX⟩:∃ X,X=w4.heap.size:=⟨_,rfl⟩
    rw [← hX] at pX ⊢
    have hXB:w2.heap.size≤X:=by omega
    clear hX
    generalize w4.alloc (.cells #[.slice va L.length vc] 67)=W5 at *
    obtain ⟨ln,hln⟩:∃ ln,ln=L.length:=⟨_,rfl⟩
    rw [← hln] at pX ⊢
    refine (kD _ bw).mono ?_
    rintro x w6 ⟨⟨⟨⟨f1,i1,j1⟩,⟨f2,i2,j2⟩⟩,rfl,hO⟩,hb⟩
    have hQ6:=hQ.below hb
    have hrow6:=owns8 hrow hb
    have hrow7:w6.ownsRow w2.heap.size 39 3 (.slice va ln vc) L.length (entL L):=by rw [hln];exact hrow6
    replace pX:=pX.below hb
    replace bw:=bel8 bw hb
    replace pM:=pM.below hb
    replace pE:=pE.below hb
    replace pR:=pR.below hb
    clear hb kD x0 x1 x2 g0 hrow hrow6
    unfold entV
    simp only at hO ⊢
    have kP:=put_is X w2.heap.size va ln vc L (ek,eb,ez) ((f1,i1,j1),(f2,i2,j2)) W5 w6 pX hrow7 hln hQ6 hQ hO (fun x hx=>hfit _ (by rw [← hLm];exact List.mem_map_of_mem hx)) (by rw [hLm];exact hok) hs4 hXB
    unfold entV at kP
    simp only at kP
    have hLl:L.length=es.length:=by rw [← hLm,List.length_map]
    rw [hLm,hLl] at kP
    rw [HRB] at kP
    simp only [if_true] at kP
    clear hQ hQ6 hO hrow7 hLl hln hLm pX
    go_wp2_with fail
    refine kP.mono ?_
    rintro x w7 ⟨⟨ra,rn,rc,rfl,pX7,hM7⟩,hb⟩
    have bz0:Below w.heap.size w w7:=bw.trans (hb.mono (by omega))
    have pR7:Blk w7 (w.heap.size+1+1) 33 [.slice none 0 0]:=(hb.block _ hB2).trans pR
    clear hb kP pR pM pE bw
    have y0:=pX7.cell 0
    have r0:=pR7.cell 0
    have fr0:=pR7.frozen 0
    have pZ:=pR7.set 0 (.slice ra rn rc)
    simp only [List.set_cons_zero] at pZ
    have z0:=pZ.cell 0
    simp only [List.getElem?_cons_zero] at z0 r0 y0
    have bz:=bz0.setCell (p:=⟨w.heap.size+1+1,0,none⟩) (show w.heap.size≤w.heap.size+1+1 by omega) (.slice ra rn rc)
    have hM9:=(hM7.low (p:=⟨w.heap.size+1+1,0,none⟩) (show w.heap.size+1+1<w2.heap.size from hB2) (.slice ra rn rc)).lower (show w.heap.size≤w2.heap.size by omega)
    clear pZ pR7 pX7 hM7 bz0
    go_wp2
    refine bodyPost_ret (by simp [results,Tryd.results11,go_sem,z0];try rfl) rfl ?_
    exact ⟨MemGotC.mk9 hM9,bz⟩
end Go.Proofs.YthlcdhddickdiaaDoor
