/-
  Joined: PtsI.
-/
import Derived.Test.YthlcdhddickdiaaDoorE34
import Derived.Test.YthlcdhddickdiaaDoorE43

namespace Go.Proofs.YthlcdhddickdiaaDoor
set_option maxRecDepth 100000
set_option maxHeartbeats 16000000
open Go.RowKit
set_option linter.unusedVariables false
set_option linter.unusedSimpArgs false

def ptM (es:List E3) (e:E3):List E3:=if memOk es=true∧entOk e=true then (if isE es e.1=false∧es.length=2000 then es else putE es e) else []
def ptC (es:List E3) (e:E3):Int:=if memOk es=true∧entOk e=true then (if isE es e.1=false∧es.length=2000 then 7 else 0) else 1

theorem specPutEntry_is (a:Option Addr) (n c:Nat) (es:List E3) (e:E3) (s:Sl2) (w:World) (h:Ents w a n c es) (hnil:a=none→c=0) (hE:Emem w s e) :
  Calls Tryd.prog 8 #[.agg #[.slice a n c],entV e.1 s] w fun x w'=>MemGotC x w' w.heap.size (ptM es e) (ptC es e)∧Below w.heap.size w w':=by
 have hl:=h.1
 have hl1:es.length≤n:=by omega
 have hl2:n≤es.length:=by omega
 clear hl
 have kM:=fun W (hb:Below w.heap.size w W)=>specMemoOK_is a n c es W (h.below hb)
 have kE:=fun W (hb:Below w.heap.size w W)=>specEntryOK_is e s W (hE.below hb)
 have kL:=fun (hok:memOk es=true) W (hb:Below w.heap.size w W)=>l10Place_is a n c es e.1 W (h.below hb) hok
 have kP:=fun (hok:memOk es=true) W (hb:Below w.heap.size w W)=>l10Put_is a n c es e s W (h.below hb) hnil hok (hE.below hb)
 have kO:=fun (hok:memOk es=true) W (hb:Below w.heap.size w W)=>l10Own_is a n c es W (h.below hb) hok
 have hput:=fun (hok:memOk es=true) (he:entOk e=true) hr=>putE_ok hok he hr
 unfold ptM ptC
 obtain ⟨ek,eb,ez⟩:=e
 obtain ⟨⟨e1,m1,d1⟩,⟨e2,m2,d2⟩⟩:=s
 unfold entV at *
 simp only at *
 have bw:Below w.heap.size w (((w.alloc (.cells #[.slice a n c] 33)).alloc (.cells #[.string ek,.slice e1 m1 d1,.slice e2 m2 d2] 39)).alloc (.cells #[.slice none 0 0] 33)):=by go_grown
 have pM:Blk (((w.alloc (.cells #[.slice a n c] 33)).alloc (.cells #[.string ek,.slice e1 m1 d1,.slice e2 m2 d2] 39)).alloc (.cells #[.slice none 0 0] 33)) w.heap.size 33 [.slice a n c]:=blkOld _ (blkOld _ (blkAt _ _ _ rfl))
 have pE:Blk (((w.alloc (.cells #[.slice a n c] 33)).alloc (.cells #[.string ek,.slice e1 m1 d1,.slice e2 m2 d2] 39)).alloc (.cells #[.slice none 0 0] 33)) (w.heap.size+1) 39 [.string ek,.slice e1 m1 d1,.slice e2 m2 d2]:=blkOld _ (blkAt _ _ _ (by simp))
 have pR:Blk (((w.alloc (.cells #[.slice a n c] 33)).alloc (.cells #[.string ek,.slice e1 m1 d1,.slice e2 m2 d2] 39)).alloc (.cells #[.slice none 0 0] 33)) (w.heap.size+1+1) 33 [.slice none 0 0]:=blkAt _ _ _ (by simp)
 have x0:=pE.cell 0
 have x1:=pE.cell 1
 have x2:=pE.cell 2
 have g0:=pM.cell 0
 simp only [List.getElem?_cons_zero,List.getElem?_cons_succ] at x0 x1 x2 g0
 clear h hE
 cases hok:memOk es
 ·rw [if_neg (by simp),if_neg (by simp)]
  rw [hok] at kM
  clear kE kL kP kO hput hok
  go_enter Tryd.func8,Tryd.ntmps8
  go_wp2_with fail
  generalize (((w.alloc (.cells #[.slice a n c] 33)).alloc (.cells #[.string ek,.slice e1 m1 d1,.slice e2 m2 d2] 39)).alloc (.cells #[.slice none 0 0] 33))=U at *
  refine (kM _ bw).mono ?_
  rintro x w1 ⟨rfl,hb⟩
  replace bw:=bel8 bw hb
  replace pM:=pM.below hb
  replace pE:=pE.below hb
  replace pR:=pR.below hb
  replace x0:=pE.cell 0
  replace x1:=pE.cell 1
  replace x2:=pE.cell 2
  replace g0:=pM.cell 0
  simp only [List.getElem?_cons_zero,List.getElem?_cons_succ] at x0 x1 x2 g0
  clear hb kM
  clear x0 x1 x2 g0
  have r0:=pR.cell 0
  have fr0:=pR.frozen 0
  have pZ:=pR.set 0 (.slice none 0 0)
  simp only [List.set_cons_zero] at pZ
  have z0:=pZ.cell 0
  simp only [List.getElem?_cons_zero] at z0 r0
  have bz:=bw.setCell (p:=⟨w.heap.size+1+1,0,none⟩) (show w.heap.size≤w.heap.size+1+1 by omega) (.slice none 0 0)
  clear pZ pR pM pE
  go_wp2
  refine bodyPost_ret (by simp [results,Tryd.results8,go_sem,z0];try rfl) rfl ?_
  exact ⟨MemGotC.mk9 (OwnM.nil9 _ _),bz⟩
 ·rw [hok] at kM
  cases heo:entOk (ek,eb,ez)
  ·rw [if_neg (by simp),if_neg (by simp)]
   rw [heo] at kE
   clear kL kP kO hput hok heo
   go_enter Tryd.func8,Tryd.ntmps8
   go_wp2_with fail
   generalize (((w.alloc (.cells #[.slice a n c] 33)).alloc (.cells #[.string ek,.slice e1 m1 d1,.slice e2 m2 d2] 39)).alloc (.cells #[.slice none 0 0] 33))=U at *
   refine (kM _ bw).mono ?_
   rintro x w1 ⟨rfl,hb⟩
   replace bw:=bel8 bw hb
   replace pM:=pM.below hb
   replace pE:=pE.below hb
   replace pR:=pR.below hb
   replace x0:=pE.cell 0
   replace x1:=pE.cell 1
   replace x2:=pE.cell 2
   replace g0:=pM.cell 0
   simp only [List.getElem?_cons_zero,List.getElem?_cons_succ] at x0 x1 x2 g0
   clear hb kM
   go_wp2_with fail
   refine (kE _ bw).mono ?_
   rintro x w2 ⟨rfl,hb⟩
   replace bw:=bel8 bw hb
   replace pM:=pM.below hb
   replace pE:=pE.below hb
   replace pR:=pR.below hb
   replace x0:=pE.cell 0
   replace x1:=pE.cell 1
   replace x2:=pE.cell 2
   replace g0:=pM.cell 0
   simp only [List.getElem?_cons_zero,List.getElem?_cons_succ] at x0 x1 x2 g0
   clear hb kE
   clear x0 x1 x2 g0
   have r0:=pR.cell 0
   have fr0:=pR.frozen 0
   have pZ:=pR.set 0 (.slice none 0 0)
   simp only [List.set_cons_zero] at pZ
   have z0:=pZ.cell 0
   simp only [List.getElem?_cons_zero] at z0 r0
   have bz:=bw.setCell (p:=⟨w.heap.size+1+1,0,none⟩) (show w.heap.size≤w.heap.size+1+1 by omega) (.slice none 0 0)
   clear pZ pR pM pE
   go_wp2
   refine bodyPost_ret (by simp [results,Tryd.results8,go_sem,z0];try rfl) rfl ?_
   exact ⟨MemGotC.mk9 (OwnM.nil9 _ _),bz⟩
  ·rw [heo] at kE
   have hAA:(true=true∧true=true):=⟨rfl,rfl⟩
   rw [if_pos hAA,if_pos hAA]
   clear hAA
   replace kL:=kL hok
   have hn2:=memOk_len hok
   cases hI:isE es ek
   ·rw [hI] at kL
    by_cases hfull:n=2000
    ·rw [if_pos ⟨rfl,by omega⟩,if_pos ⟨rfl,by omega⟩]
     replace kO:=kO hok
     have hfe:((n:Int) == 2000)=true:=by simp;omega
     have hf1:n≤2000:=by omega
     clear hfull
     clear kP hput hok heo hI
     go_enter Tryd.func8,Tryd.ntmps8
     go_wp2_with fail
     generalize (((w.alloc (.cells #[.slice a n c] 33)).alloc (.cells #[.string ek,.slice e1 m1 d1,.slice e2 m2 d2] 39)).alloc (.cells #[.slice none 0 0] 33))=U at *
     refine (kM _ bw).mono ?_
     rintro x w1 ⟨rfl,hb⟩
     replace bw:=bel8 bw hb
     replace pM:=pM.below hb
     replace pE:=pE.below hb
     replace pR:=pR.below hb
     replace x0:=pE.cell 0
     replace x1:=pE.cell 1
     replace x2:=pE.cell 2
     replace g0:=pM.cell 0
     simp only [List.getElem?_cons_zero,List.getElem?_cons_succ] at x0 x1 x2 g0
     clear hb kM
     go_wp2_with fail
     refine (kE _ bw).mono ?_
     rintro x w2 ⟨rfl,hb⟩
     replace bw:=bel8 bw hb
     replace pM:=pM.below hb
     replace pE:=pE.below hb
     replace pR:=pR.below hb
     replace x0:=pE.cell 0
     replace x1:=pE.cell 1
     replace x2:=pE.cell 2
     replace g0:=pM.cell 0
     simp only [List.getElem?_cons_zero,List.getElem?_cons_succ] at x0 x1 x2 g0
     clear hb kE
     go_wp2_with fail
     refine (kL _ bw).mono ?_
     rintro x w3 ⟨rfl,hb⟩
     replace bw:=bel8 bw hb
     replace pM:=pM.below hb
     replace pE:=pE.below hb
     replace pR:=pR.below hb
     replace x0:=pE.cell 0
     replace x1:=pE.cell 1
     replace x2:=pE.cell 2
     replace g0:=pM.cell 0
     simp only [List.getElem?_cons_zero,List.getElem?_cons_succ] at x0 x1 x2 g0
     clear hb kL
     go_wp2_with fail
     refine (kO _ bw).mono ?_
     rintro x w4 ⟨⟨v,rfl,hM⟩,hb⟩
     obtain ⟨va,vc,rfl⟩:=hM.slice9
     have hlow:=pR.lt
     replace bw:=bel8 bw hb
     replace pM:=pM.below hb
     replace pE:=pE.below hb
     replace pR:=pR.below hb
     clear hb
     have r0:=pR.cell 0
     have fr0:=pR.frozen 0
     have pZ:=pR.set 0 (.slice va es.length vc)
     simp only [List.set_cons_zero] at pZ
     have z0:=pZ.cell 0
     simp only [List.getElem?_cons_zero] at z0 r0
     have bz:=bw.setCell (p:=⟨w.heap.size+1+1,0,none⟩) (show w.heap.size≤w.heap.size+1+1 by omega) (.slice va es.length vc)
     have hM9:=(hM.low (p:=⟨w.heap.size+1+1,0,none⟩) (show w.heap.size+1+1<w3.heap.size from hlow) (.slice va es.length vc)).lower (show w.heap.size≤w3.heap.size by omega)
     clear pZ pR pM pE hM g0 x0 x1 x2
     go_wp2
     refine bodyPost_ret (by simp [results,Tryd.results8,go_sem,z0];try rfl) rfl ?_
     exact ⟨MemGotC.mk9 hM9,bz⟩
    ·rw [if_neg (by omega),if_neg (by omega)]
     replace kP:=kP hok
     have hokP:=hput hok heo (.inr (by omega))
     have hfe:((n:Int) == 2000)=false:=by simp;omega
     clear hfull
     clear kO hput hok heo hI
     generalize putE es (ek,eb,ez)=pes at *
     go_enter Tryd.func8,Tryd.ntmps8
     go_wp2_with fail
     generalize (((w.alloc (.cells #[.slice a n c] 33)).alloc (.cells #[.string ek,.slice e1 m1 d1,.slice e2 m2 d2] 39)).alloc (.cells #[.slice none 0 0] 33))=U at *
     refine (kM _ bw).mono ?_
     rintro x w1 ⟨rfl,hb⟩
     replace bw:=bel8 bw hb
     replace pM:=pM.below hb
     replace pE:=pE.below hb
     replace pR:=pR.below hb
     replace x0:=pE.cell 0
     replace x1:=pE.cell 1
     replace x2:=pE.cell 2
     replace g0:=pM.cell 0
     simp only [List.getElem?_cons_zero,List.getElem?_cons_succ] at x0 x1 x2 g0
     clear hb kM
     go_wp2_with fail
     refine (kE _ bw).mono ?_
     rintro x w2 ⟨rfl,hb⟩
     replace bw:=bel8 bw hb
     replace pM:=pM.below hb
     replace pE:=pE.below hb
     replace pR:=pR.below hb
     replace x0:=pE.cell 0
     replace x1:=pE.cell 1
     replace x2:=pE.cell 2
     replace g0:=pM.cell 0
     simp only [List.getElem?_cons_zero,List.getElem?_cons_succ] at x0 x1 x2 g0
     clear hb kE
     go_wp2_with fail
     refine (kL _ bw).mono ?_
     rintro x w3 ⟨rfl,hb⟩
     replace bw:=bel8 bw hb
     replace pM:=pM.below hb
     replace pE:=pE.below hb
     replace pR:=pR.below hb
     replace x0:=pE.cell 0
     replace x1:=pE.cell 1
     replace x2:=pE.cell 2
     replace g0:=pM.cell 0
     simp only [List.getElem?_cons_zero,List.getElem?_cons_succ] at x0 x1 x2 g0
     clear hb kL
     go_wp2_with fail
     refine (kP _ bw).mono ?_
     rintro x w4 ⟨⟨pa,pn,pc,rfl,hK⟩,hb⟩
     have kQ:=l10Own_is pa pn pc pes w4 hK hokP
     replace bw:=bel8 bw hb
     replace pM:=pM.below hb
     replace pE:=pE.below hb
     replace pR:=pR.below hb
     clear hb
     go_wp2_with fail
     refine kQ.mono ?_
     rintro x w5 ⟨⟨v,rfl,hM⟩,hb⟩
     obtain ⟨va,vc,rfl⟩:=hM.slice9
     have hlow:=pR.lt
     replace bw:=bel8 bw hb
     replace pM:=pM.below hb
     replace pE:=pE.below hb
     replace pR:=pR.below hb
     clear hb
     have r0:=pR.cell 0
     have fr0:=pR.frozen 0
     have pZ:=pR.set 0 (.slice va pes.length vc)
     simp only [List.set_cons_zero] at pZ
     have z0:=pZ.cell 0
     simp only [List.getElem?_cons_zero] at z0 r0
     have bz:=bw.setCell (p:=⟨w.heap.size+1+1,0,none⟩) (show w.heap.size≤w.heap.size+1+1 by omega) (.slice va pes.length vc)
     have hM9:=(hM.low (p:=⟨w.heap.size+1+1,0,none⟩) (show w.heap.size+1+1<w4.heap.size from hlow) (.slice va pes.length vc)).lower (show w.heap.size≤w4.heap.size by omega)
     clear pZ pR pM pE hM g0 x0 x1 x2
     go_wp2
     refine bodyPost_ret (by simp [results,Tryd.results8,go_sem,z0];try rfl) rfl ?_
     exact ⟨MemGotC.mk9 hM9,bz⟩
   ·rw [hI] at kL
    rw [if_neg (by simp),if_neg (by simp)]
    replace kP:=kP hok
    have hokP:=hput hok heo (.inl hI)
    clear kO hput hok heo hI
    generalize putE es (ek,eb,ez)=pes at *
    go_enter Tryd.func8,Tryd.ntmps8
    go_wp2_with fail
    generalize (((w.alloc (.cells #[.slice a n c] 33)).alloc (.cells #[.string ek,.slice e1 m1 d1,.slice e2 m2 d2] 39)).alloc (.cells #[.slice none 0 0] 33))=U at *
    refine (kM _ bw).mono ?_
    rintro x w1 ⟨rfl,hb⟩
    replace bw:=bel8 bw hb
    replace pM:=pM.below hb
    replace pE:=pE.below hb
    replace pR:=pR.below hb
    replace x0:=pE.cell 0
    replace x1:=pE.cell 1
    replace x2:=pE.cell 2
    replace g0:=pM.cell 0
    simp only [List.getElem?_cons_zero,List.getElem?_cons_succ] at x0 x1 x2 g0
    clear hb kM
    go_wp2_with fail
    refine (kE _ bw).mono ?_
    rintro x w2 ⟨rfl,hb⟩
    replace bw:=bel8 bw hb
    replace pM:=pM.below hb
    replace pE:=pE.below hb
    replace pR:=pR.below hb
    replace x0:=pE.cell 0
    replace x1:=pE.cell 1
    replace x2:=pE.cell 2
    replace g0:=pM.cell 0
    simp only [List.getElem?_cons_zero,List.getElem?_cons_succ] at x0 x1 x2 g0
    clear hb kE
    go_wp2_with fail
    refine (kL _ bw).mono ?_
    rintro x w3 ⟨rfl,hb⟩
    replace bw:=bel8 bw hb
    replace pM:=pM.below hb
    replace pE:=pE.below hb
    replace pR:=pR.below hb
    replace x0:=pE.cell 0
    replace x1:=pE.cell 1
    replace x2:=pE.cell 2
    replace g0:=pM.cell 0
    simp only [List.getElem?_cons_zero,List.getElem?_cons_succ] at x0 x1 x2 g0
    clear hb kL
    go_wp2_with fail
    refine (kP _ bw).mono ?_
    rintro x w4 ⟨⟨pa,pn,pc,rfl,hK⟩,hb⟩
    have kQ:=l10Own_is pa pn pc pes w4 hK hokP
    replace bw:=bel8 bw hb
    replace pM:=pM.below hb
    replace pE:=pE.below hb
    replace pR:=pR.below hb
    clear hb
    go_wp2_with fail
    refine kQ.mono ?_
    rintro x w5 ⟨⟨v,rfl,hM⟩,hb⟩
    obtain ⟨va,vc,rfl⟩:=hM.slice9
    have hlow:=pR.lt
    replace bw:=bel8 bw hb
    replace pM:=pM.below hb
    replace pE:=pE.below hb
    replace pR:=pR.below hb
    clear hb
    have r0:=pR.cell 0
    have fr0:=pR.frozen 0
    have pZ:=pR.set 0 (.slice va pes.length vc)
    simp only [List.set_cons_zero] at pZ
    have z0:=pZ.cell 0
    simp only [List.getElem?_cons_zero] at z0 r0
    have bz:=bw.setCell (p:=⟨w.heap.size+1+1,0,none⟩) (show w.heap.size≤w.heap.size+1+1 by omega) (.slice va pes.length vc)
    have hM9:=(hM.low (p:=⟨w.heap.size+1+1,0,none⟩) (show w.heap.size+1+1<w4.heap.size from hlow) (.slice va pes.length vc)).lower (show w.heap.size≤w4.heap.size by omega)
    clear pZ pR pM pE hM g0 x0 x1 x2
    go_wp2
    refine bodyPost_ret (by simp [results,Tryd.results8,go_sem,z0];try rfl) rfl ?_
    exact ⟨MemGotC.mk9 hM9,bz⟩
end Go.Proofs.YthlcdhddickdiaaDoor
