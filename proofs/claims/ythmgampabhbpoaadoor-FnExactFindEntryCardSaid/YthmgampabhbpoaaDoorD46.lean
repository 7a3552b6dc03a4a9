/-
  Joined: FdeI.
-/
import Derived.Test.YthmgampabhbpoaaDoorD38
import Derived.Test.YthmgampabhbpoaaDoorD39
import Derived.Test.YthmgampabhbpoaaDoorD41
import Derived.Test.YthmgampabhbpoaaDoorD42
import Derived.Test.YthmgampabhbpoaaDoorD44
import Derived.Test.YthmgampabhbpoaaDoorD45

namespace Go.Proofs.YthmgampabhbpoaaDoor
set_option maxRecDepth 100000
set_option maxHeartbeats 16000000
open Go.RowKit
set_option linter.unusedVariables false
set_option linter.unusedSimpArgs false

def fdeE (es:List E3) (key:ByteArray):E3:=if key.size≤65536∧memOk es=true∧isE es key=true then es.getD (plcE es key) e3d else e3d
def fdeC (es:List E3) (key:ByteArray):Int:=if 65536<key.size then 2 else if memOk es=true then (if isE es key=true then 0 else 5) else 1
def EntGotC (x:Ending) (w':World) (B:Nat) (e:E3) (c:Int):Prop:=∃ s:Sl2,x=.returned (.tuple #[entV e.1 s,.int .i64 c])∧OwnE w' B (.slice s.1.1 s.1.2.1 s.1.2.2) (.slice s.2.1 s.2.2.1 s.2.2.2) e
theorem EntGotC.mk9 {w':World} {B:Nat} {e:E3} {c:Int} (s:Sl2) (h:OwnE w' B (.slice s.1.1 s.1.2.1 s.1.2.2) (.slice s.2.1 s.2.2.1 s.2.2.2) e):EntGotC (.returned (.tuple #[entV e.1 s,.int .i64 c])) w' B e c:=⟨s,rfl,h⟩
theorem EntGotC.nil9 {w':World} {B:Nat} {c:Int}:EntGotC (.returned (.tuple #[.agg #[.string ⟨#[]⟩,.slice none 0 0,.slice none 0 0],.int .i64 c])) w' B e3d c:=⟨((none,0,0),(none,0,0)),rfl,OwnE.nil9 _ _ _⟩

theorem specFindEntry_is (a:Option Addr) (n cap:Nat) (es:List E3) (key:ByteArray) (w:World) (h:Ents w a n cap es) (hk:key.size≤1048576) :
  Calls Tryd.prog 20 #[.agg #[.slice a n cap],.string key] w fun e w'=>EntGotC e w' w.heap.size (fdeE es key) (fdeC es key)∧Below w.heap.size w w':=by
 have hl:=h.1
 have bw:Below w.heap.size w ((w.alloc (.cells #[.slice a n cap] 41)).alloc (.cells #[.string ⟨#[]⟩,.slice none 0 0,.slice none 0 0] 30)):=by go_grown
 have pM:Blk ((w.alloc (.cells #[.slice a n cap] 41)).alloc (.cells #[.string ⟨#[]⟩,.slice none 0 0,.slice none 0 0] 30)) w.heap.size 41 [.slice a n cap]:=blkOld _ (blkAt _ _ _ rfl)
 have pR:Blk ((w.alloc (.cells #[.slice a n cap] 41)).alloc (.cells #[.string ⟨#[]⟩,.slice none 0 0,.slice none 0 0] 30)) (w.heap.size+1) 30 [.string ⟨#[]⟩,.slice none 0 0,.slice none 0 0]:=blkAt _ _ _ (by simp)
 have g0:=pM.cell 0
 simp only [List.getElem?_cons_zero] at g0
 have kM:=fun W (hb:Below w.heap.size w W)=>specMemoOK_is a n cap es W (h.below hb)
 unfold fdeE fdeC
 by_cases h1:65536<key.size
 ·rw [if_neg (by omega),if_pos h1]
  have h2:(65536:Int)<(key.size:Int):=by omega
  clear kM g0
  go_enter Tryd.func20,Tryd.ntmps20
  have r0:=pR.cell 0
  have r1:=pR.cell 1
  have r2:=pR.cell 2
  have fr0:=pR.frozen 0
  have fr1:=pR.frozen 1
  have fr2:=pR.frozen 2
  have pZ:=((pR.set 0 (.string ⟨#[]⟩)).set 1 (.slice none 0 0)).set 2 (.slice none 0 0)
  simp only [List.set_cons_zero,List.set_cons_succ] at pZ
  have z0:=pZ.cell 0
  have z1:=pZ.cell 1
  have z2:=pZ.cell 2
  simp only [List.getElem?_cons_zero,List.getElem?_cons_succ] at z0 z1 z2 r0 r1 r2
  have hle:w.heap.size≤w.heap.size+1:=by omega
  have bz:=((bw.setCell (p:=⟨w.heap.size+1,0,none⟩) hle (.string ⟨#[]⟩)).setCell (p:=⟨w.heap.size+1,1,none⟩) hle (.slice none 0 0)).setCell (p:=⟨w.heap.size+1,2,none⟩) hle (.slice none 0 0)
  clear pZ pR pM
  go_wp2
  refine bodyPost_ret (by simp [results,Tryd.results20,go_sem,z0,z1,z2];try rfl) rfl ?_
  first | exact ⟨EntGotC.nil9,bz⟩ | exact ⟨EntGotC.nil9,by go_grown⟩
 ·have h2:¬ (65536:Int)<(key.size:Int):=by omega
  rw [if_neg h1]
  cases hok:memOk es
  ·rw [if_neg (by simp),if_neg (by simp)]
   rw [hok] at kM
   clear hok
   go_enter Tryd.func20,Tryd.ntmps20
   go_wp2_with fail
   generalize ((w.alloc (.cells #[.slice a n cap] 41)).alloc (.cells #[.string ⟨#[]⟩,.slice none 0 0,.slice none 0 0] 30))=U at *
   refine (kM _ bw).mono ?_
   rintro e w1 ⟨rfl,hb⟩
   replace bw:=bel8 bw hb
   replace pR:=pR.below hb
   replace pM:=pM.below hb
   replace g0:=pM.cell 0
   simp only [List.getElem?_cons_zero] at g0
   clear hb kM
   clear g0
   have r0:=pR.cell 0
   have r1:=pR.cell 1
   have r2:=pR.cell 2
   have fr0:=pR.frozen 0
   have fr1:=pR.frozen 1
   have fr2:=pR.frozen 2
   have pZ:=((pR.set 0 (.string ⟨#[]⟩)).set 1 (.slice none 0 0)).set 2 (.slice none 0 0)
   simp only [List.set_cons_zero,List.set_cons_succ] at pZ
   have z0:=pZ.cell 0
   have z1:=pZ.cell 1
   have z2:=pZ.cell 2
   simp only [List.getElem?_cons_zero,List.getElem?_cons_succ] at z0 z1 z2 r0 r1 r2
   have hle:w.heap.size≤w.heap.size+1:=by omega
   have bz:=((bw.setCell (p:=⟨w.heap.size+1,0,none⟩) hle (.string ⟨#[]⟩)).setCell (p:=⟨w.heap.size+1,1,none⟩) hle (.slice none 0 0)).setCell (p:=⟨w.heap.size+1,2,none⟩) hle (.slice none 0 0)
   clear pZ pR pM
   go_wp2
   refine bodyPost_ret (by simp [results,Tryd.results20,go_sem,z0,z1,z2];try rfl) rfl ?_
   first | exact ⟨EntGotC.nil9,bz⟩ | exact ⟨EntGotC.nil9,by go_grown⟩
  ·rw [hok] at kM
   have kP:=fun W (hb:Below w.heap.size w W)=>l10Place_is a n cap es key W (h.below hb) hok
   cases hI:isE es key
   ·rw [if_neg (by simp),if_pos rfl,if_neg (by simp)]
    rw [hI] at kP
    clear hI hok
    go_enter Tryd.func20,Tryd.ntmps20
    go_wp2_with fail
    generalize ((w.alloc (.cells #[.slice a n cap] 41)).alloc (.cells #[.string ⟨#[]⟩,.slice none 0 0,.slice none 0 0] 30))=U at *
    refine (kM _ bw).mono ?_
    rintro e w1 ⟨rfl,hb⟩
    replace bw:=bel8 bw hb
    replace pR:=pR.below hb
    replace pM:=pM.below hb
    replace g0:=pM.cell 0
    simp only [List.getElem?_cons_zero] at g0
    clear hb kM
    go_wp2_with fail
    refine (kP _ bw).mono ?_
    rintro e w3 ⟨rfl,hb⟩
    replace bw:=bel8 bw hb
    replace pR:=pR.below hb
    replace pM:=pM.below hb
    replace g0:=pM.cell 0
    simp only [List.getElem?_cons_zero] at g0
    clear hb kP
    clear g0
    have r0:=pR.cell 0
    have r1:=pR.cell 1
    have r2:=pR.cell 2
    have fr0:=pR.frozen 0
    have fr1:=pR.frozen 1
    have fr2:=pR.frozen 2
    have pZ:=((pR.set 0 (.string ⟨#[]⟩)).set 1 (.slice none 0 0)).set 2 (.slice none 0 0)
    simp only [List.set_cons_zero,List.set_cons_succ] at pZ
    have z0:=pZ.cell 0
    have z1:=pZ.cell 1
    have z2:=pZ.cell 2
    simp only [List.getElem?_cons_zero,List.getElem?_cons_succ] at z0 z1 z2 r0 r1 r2
    have hle:w.heap.size≤w.heap.size+1:=by omega
    have bz:=((bw.setCell (p:=⟨w.heap.size+1,0,none⟩) hle (.string ⟨#[]⟩)).setCell (p:=⟨w.heap.size+1,1,none⟩) hle (.slice none 0 0)).setCell (p:=⟨w.heap.size+1,2,none⟩) hle (.slice none 0 0)
    clear pZ pR pM
    go_wp2
    refine bodyPost_ret (by simp [results,Tryd.results20,go_sem,z0,z1,z2];try rfl) rfl ?_
    first | exact ⟨EntGotC.nil9,bz⟩ | exact ⟨EntGotC.nil9,by go_grown⟩
   ·rw [if_pos ⟨by omega,rfl,rfl⟩,if_pos rfl,if_pos rfl]
    rw [hI] at kP
    have hpl:plcE es key<n:=by
     simp only [isE,Bool.and_eq_true,decide_eq_true_eq] at hI
     omega
    have hek:=memOk_ent hok (i:=plcE es key) (by omega)
    clear hI hok
    generalize plcE es key=p at *
    have hpl2:(p:Int)<(n:Int):=by omega
    have hp0:(0:Int)≤(p:Int):=by omega
    have y1:=entOk_bugs hek
    have y2:=entOk_foot hek
    have y3:=entOk_key hek
    have h9:=h
    obtain ⟨_,_,_,hcase⟩:=h9
    rcases hcase with e0 | ⟨b,off,rfl,hblt,hcell⟩
    ·omega
    obtain ⟨s,c0,c1,c2,hm⟩:=hcell p hpl
    have kO:=fun W (hb:Below w.heap.size w W)=>l10OwnEntry_is (es.getD p e3d) s W (hm.below hb) (by omega) (by omega)
    clear hcell hm hek y1 y2 y3
    generalize es.getD p e3d=x at *
    obtain ⟨xk,xb,xz⟩:=x
    obtain ⟨⟨a1,n1,d1⟩,⟨a2,n2,d2⟩⟩:=s
    unfold entV at kO
    simp only at c0 c1 c2 kO
    go_enter Tryd.func20,Tryd.ntmps20
    go_wp2_with fail
    generalize ((w.alloc (.cells #[.slice (some ⟨b,off,none⟩) n cap] 41)).alloc (.cells #[.string ⟨#[]⟩,.slice none 0 0,.slice none 0 0] 30))=U at *
    refine (kM _ bw).mono ?_
    rintro e w1 ⟨rfl,hb⟩
    replace bw:=bel8 bw hb
    replace pR:=pR.below hb
    replace pM:=pM.below hb
    replace g0:=pM.cell 0
    simp only [List.getElem?_cons_zero] at g0
    clear hb kM
    go_wp2_with fail
    refine (kP _ bw).mono ?_
    rintro e w3 ⟨rfl,hb⟩
    replace bw:=bel8 bw hb
    replace pR:=pR.below hb
    replace pM:=pM.below hb
    replace g0:=pM.cell 0
    simp only [List.getElem?_cons_zero] at g0
    clear hb kP
    replace c0:=cell8 bw c0
    replace c1:=cell8 bw c1
    replace c2:=cell8 bw c2
    go_wp2_with fail
    refine (kO _ bw).mono ?_
    rintro e w4 ⟨⟨⟨⟨u1,m1,q1⟩,⟨u2,m2,q2⟩⟩,rfl,hO⟩,hb⟩
    have hlow:=pR.lt
    have hup:=bw.size
    replace bw:=bel8 bw hb
    replace pR:=pR.below hb
    clear hb kO c0 c1 c2 g0
    unfold entV
    simp only
    have r0:=pR.cell 0
    have r1:=pR.cell 1
    have r2:=pR.cell 2
    have fr0:=pR.frozen 0
    have fr1:=pR.frozen 1
    have fr2:=pR.frozen 2
    have pZ:=((pR.set 0 (.string xk)).set 1 (.slice u1 m1 q1)).set 2 (.slice u2 m2 q2)
    simp only [List.set_cons_zero,List.set_cons_succ] at pZ
    have z0:=pZ.cell 0
    have z1:=pZ.cell 1
    have z2:=pZ.cell 2
    simp only [List.getElem?_cons_zero,List.getElem?_cons_succ] at z0 z1 z2 r0 r1 r2
    have hle:w.heap.size≤w.heap.size+1:=by omega
    have bz:=((bw.setCell (p:=⟨w.heap.size+1,0,none⟩) hle (.string xk)).setCell (p:=⟨w.heap.size+1,1,none⟩) hle (.slice u1 m1 q1)).setCell (p:=⟨w.heap.size+1,2,none⟩) hle (.slice u2 m2 q2)
    have hO9:=((((hO.low (p:=⟨w.heap.size+1,0,none⟩) hlow (.string xk)).low (p:=⟨w.heap.size+1,1,none⟩) hlow (.slice u1 m1 q1)).low (p:=⟨w.heap.size+1,2,none⟩) hlow (.slice u2 m2 q2))).lower hup
    clear pZ pR pM hO hlow hup
    go_wp2
    refine bodyPost_ret (by simp [results,Tryd.results20,go_sem,z0,z1,z2];try rfl) rfl ?_
    exact ⟨EntGotC.mk9 (e:=(xk,xb,xz)) ((u1,m1,q1),(u2,m2,q2)) hO9,bz⟩

theorem implFindEntry_is (a:Option Addr) (n cap:Nat) (es:List E3) (key:ByteArray) (w:World) (h:Ents w a n cap es) (hk:key.size≤1048576) (hV:VmShape w) :
  Calls Tryd.prog 21 #[.agg #[.slice a n cap],.string key] w fun e w'=>EntGotC e w' w.heap.size (fdeE es key) (fdeC es key)∧Below w.heap.size w w':=by
 have hl:=h.1
 have bw:Below w.heap.size w ((w.alloc (.cells #[.slice a n cap] 41)).alloc (.cells #[.string ⟨#[]⟩,.slice none 0 0,.slice none 0 0] 30)):=by go_grown
 have pM:Blk ((w.alloc (.cells #[.slice a n cap] 41)).alloc (.cells #[.string ⟨#[]⟩,.slice none 0 0,.slice none 0 0] 30)) w.heap.size 41 [.slice a n cap]:=blkOld _ (blkAt _ _ _ rfl)
 have pR:Blk ((w.alloc (.cells #[.slice a n cap] 41)).alloc (.cells #[.string ⟨#[]⟩,.slice none 0 0,.slice none 0 0] 30)) (w.heap.size+1) 30 [.string ⟨#[]⟩,.slice none 0 0,.slice none 0 0]:=blkAt _ _ _ (by simp)
 have g0:=pM.cell 0
 simp only [List.getElem?_cons_zero] at g0
 have kM:=fun W (hb:Below w.heap.size w W)=>implMemoOK_is a n cap es W (h.below hb) (hV.below hb)
 unfold fdeE fdeC
 by_cases h1:65536<key.size
 ·rw [if_neg (by omega),if_pos h1]
  have h2:(65536:Int)<(key.size:Int):=by omega
  clear kM g0
  go_enter Tryd.func21,Tryd.ntmps21
  have r0:=pR.cell 0
  have r1:=pR.cell 1
  have r2:=pR.cell 2
  have fr0:=pR.frozen 0
  have fr1:=pR.frozen 1
  have fr2:=pR.frozen 2
  have pZ:=((pR.set 0 (.string ⟨#[]⟩)).set 1 (.slice none 0 0)).set 2 (.slice none 0 0)
  simp only [List.set_cons_zero,List.set_cons_succ] at pZ
  have z0:=pZ.cell 0
  have z1:=pZ.cell 1
  have z2:=pZ.cell 2
  simp only [List.getElem?_cons_zero,List.getElem?_cons_succ] at z0 z1 z2 r0 r1 r2
  have hle:w.heap.size≤w.heap.size+1:=by omega
  have bz:=((bw.setCell (p:=⟨w.heap.size+1,0,none⟩) hle (.string ⟨#[]⟩)).setCell (p:=⟨w.heap.size+1,1,none⟩) hle (.slice none 0 0)).setCell (p:=⟨w.heap.size+1,2,none⟩) hle (.slice none 0 0)
  clear pZ pR pM
  go_wp2
  refine bodyPost_ret (by simp [results,Tryd.results21,go_sem,z0,z1,z2];try rfl) rfl ?_
  first | exact ⟨EntGotC.nil9,bz⟩ | exact ⟨EntGotC.nil9,by go_grown⟩
 ·have h2:¬ (65536:Int)<(key.size:Int):=by omega
  rw [if_neg h1]
  cases hok:memOk es
  ·rw [if_neg (by simp),if_neg (by simp)]
   rw [hok] at kM
   clear hok
   go_enter Tryd.func21,Tryd.ntmps21
   go_wp2_with fail
   generalize ((w.alloc (.cells #[.slice a n cap] 41)).alloc (.cells #[.string ⟨#[]⟩,.slice none 0 0,.slice none 0 0] 30))=U at *
   refine (kM _ bw).mono ?_
   rintro e w1 ⟨rfl,hb⟩
   replace bw:=bel8 bw hb
   replace pR:=pR.below hb
   replace pM:=pM.below hb
   replace g0:=pM.cell 0
   simp only [List.getElem?_cons_zero] at g0
   clear hb kM
   clear g0
   have r0:=pR.cell 0
   have r1:=pR.cell 1
   have r2:=pR.cell 2
   have fr0:=pR.frozen 0
   have fr1:=pR.frozen 1
   have fr2:=pR.frozen 2
   have pZ:=((pR.set 0 (.string ⟨#[]⟩)).set 1 (.slice none 0 0)).set 2 (.slice none 0 0)
   simp only [List.set_cons_zero,List.set_cons_succ] at pZ
   have z0:=pZ.cell 0
   have z1:=pZ.cell 1
   have z2:=pZ.cell 2
   simp only [List.getElem?_cons_zero,List.getElem?_cons_succ] at z0 z1 z2 r0 r1 r2
   have hle:w.heap.size≤w.heap.size+1:=by omega
   have bz:=((bw.setCell (p:=⟨w.heap.size+1,0,none⟩) hle (.string ⟨#[]⟩)).setCell (p:=⟨w.heap.size+1,1,none⟩) hle (.slice none 0 0)).setCell (p:=⟨w.heap.size+1,2,none⟩) hle (.slice none 0 0)
   clear pZ pR pM
   go_wp2
   refine bodyPost_ret (by simp [results,Tryd.results21,go_sem,z0,z1,z2];try rfl) rfl ?_
   first | exact ⟨EntGotC.nil9,bz⟩ | exact ⟨EntGotC.nil9,by go_grown⟩
  ·rw [hok] at kM
   have kP:=fun W (hb:Below w.heap.size w W)=>tableFind_is a n cap es key W (h.below hb) hok
   cases hI:isE es key
   ·rw [if_neg (by simp),if_pos rfl,if_neg (by simp)]
    rw [hI] at kP
    clear hI hok
    go_enter Tryd.func21,Tryd.ntmps21
    go_wp2_with fail
    generalize ((w.alloc (.cells #[.slice a n cap] 41)).alloc (.cells #[.string ⟨#[]⟩,.slice none 0 0,.slice none 0 0] 30))=U at *
    refine (kM _ bw).mono ?_
    rintro e w1 ⟨rfl,hb⟩
    replace bw:=bel8 bw hb
    replace pR:=pR.below hb
    replace pM:=pM.below hb
    replace g0:=pM.cell 0
    simp only [List.getElem?_cons_zero] at g0
    clear hb kM
    go_wp2_with fail
    refine (memoTable_is a n cap _).mono ?_
    rintro e w2 ⟨rfl,hb⟩
    replace bw:=bel8 bw hb
    replace pR:=pR.below hb
    replace pM:=pM.below hb
    clear hb
    go_wp2_with fail
    refine (kP _ bw).mono ?_
    rintro e w3 ⟨rfl,hb⟩
    replace bw:=bel8 bw hb
    replace pR:=pR.below hb
    replace pM:=pM.below hb
    replace g0:=pM.cell 0
    simp only [List.getElem?_cons_zero] at g0
    clear hb kP
    clear g0
    have r0:=pR.cell 0
    have r1:=pR.cell 1
    have r2:=pR.cell 2
    have fr0:=pR.frozen 0
    have fr1:=pR.frozen 1
    have fr2:=pR.frozen 2
    have pZ:=((pR.set 0 (.string ⟨#[]⟩)).set 1 (.slice none 0 0)).set 2 (.slice none 0 0)
    simp only [List.set_cons_zero,List.set_cons_succ] at pZ
    have z0:=pZ.cell 0
    have z1:=pZ.cell 1
    have z2:=pZ.cell 2
    simp only [List.getElem?_cons_zero,List.getElem?_cons_succ] at z0 z1 z2 r0 r1 r2
    have hle:w.heap.size≤w.heap.size+1:=by omega
    have bz:=((bw.setCell (p:=⟨w.heap.size+1,0,none⟩) hle (.string ⟨#[]⟩)).setCell (p:=⟨w.heap.size+1,1,none⟩) hle (.slice none 0 0)).setCell (p:=⟨w.heap.size+1,2,none⟩) hle (.slice none 0 0)
    clear pZ pR pM
    go_wp2
    refine bodyPost_ret (by simp [results,Tryd.results21,go_sem,z0,z1,z2];try rfl) rfl ?_
    first | exact ⟨EntGotC.nil9,bz⟩ | exact ⟨EntGotC.nil9,by go_grown⟩
   ·rw [if_pos ⟨by omega,rfl,rfl⟩,if_pos rfl,if_pos rfl]
    rw [hI] at kP
    have hpl:plcE es key<n:=by
     simp only [isE,Bool.and_eq_true,decide_eq_true_eq] at hI
     omega
    have hek:=memOk_ent hok (i:=plcE es key) (by omega)
    clear hI hok
    generalize plcE es key=p at *
    have hpl2:(p:Int)<(n:Int):=by omega
    have hp0:(0:Int)≤(p:Int):=by omega
    have y1:=entOk_bugs hek
    have y2:=entOk_foot hek
    have y3:=entOk_key hek
    have h9:=h
    obtain ⟨_,_,_,hcase⟩:=h9
    rcases hcase with e0 | ⟨b,off,rfl,hblt,hcell⟩
    ·omega
    obtain ⟨s,c0,c1,c2,hm⟩:=hcell p hpl
    have kO:=fun W (hb:Below w.heap.size w W)=>copied_is (es.getD p e3d) s W (hm.below hb) (by omega) (by omega) (by omega)
    clear hcell hm hek y1 y2 y3
    generalize es.getD p e3d=x at *
    obtain ⟨xk,xb,xz⟩:=x
    obtain ⟨⟨a1,n1,d1⟩,⟨a2,n2,d2⟩⟩:=s
    unfold entV at kO
    simp only at c0 c1 c2 kO
    go_enter Tryd.func21,Tryd.ntmps21
    go_wp2_with fail
    generalize ((w.alloc (.cells #[.slice (some ⟨b,off,none⟩) n cap] 41)).alloc (.cells #[.string ⟨#[]⟩,.slice none 0 0,.slice none 0 0] 30))=U at *
    refine (kM _ bw).mono ?_
    rintro e w1 ⟨rfl,hb⟩
    replace bw:=bel8 bw hb
    replace pR:=pR.below hb
    replace pM:=pM.below hb
    replace g0:=pM.cell 0
    simp only [List.getElem?_cons_zero] at g0
    clear hb kM
    go_wp2_with fail
    refine (memoTable_is (some ⟨b,off,none⟩) n cap _).mono ?_
    rintro e w2 ⟨rfl,hb⟩
    replace bw:=bel8 bw hb
    replace pR:=pR.below hb
    replace pM:=pM.below hb
    clear hb
    go_wp2_with fail
    refine (kP _ bw).mono ?_
    rintro e w3 ⟨rfl,hb⟩
    replace bw:=bel8 bw hb
    replace pR:=pR.below hb
    replace pM:=pM.below hb
    replace g0:=pM.cell 0
    simp only [List.getElem?_cons_zero] at g0
    clear hb kP
    replace c0:=cell8 bw c0
    replace c1:=cell8 bw c1
    replace c2:=cell8 bw c2
    go_wp2_with fail
    refine (kO _ bw).mono ?_
    rintro e w4 ⟨⟨⟨⟨u1,m1,q1⟩,⟨u2,m2,q2⟩⟩,rfl,hO⟩,hb⟩
    have hlow:=pR.lt
    have hup:=bw.size
    replace bw:=bel8 bw hb
    replace pR:=pR.below hb
    clear hb kO c0 c1 c2 g0
    unfold entV
    simp only
    have r0:=pR.cell 0
    have r1:=pR.cell 1
    have r2:=pR.cell 2
    have fr0:=pR.frozen 0
    have fr1:=pR.frozen 1
    have fr2:=pR.frozen 2
    have pZ:=((pR.set 0 (.string xk)).set 1 (.slice u1 m1 q1)).set 2 (.slice u2 m2 q2)
    simp only [List.set_cons_zero,List.set_cons_succ] at pZ
    have z0:=pZ.cell 0
    have z1:=pZ.cell 1
    have z2:=pZ.cell 2
    simp only [List.getElem?_cons_zero,List.getElem?_cons_succ] at z0 z1 z2 r0 r1 r2
    have hle:w.heap.size≤w.heap.size+1:=by omega
    have bz:=((bw.setCell (p:=⟨w.heap.size+1,0,none⟩) hle (.string xk)).setCell (p:=⟨w.heap.size+1,1,none⟩) hle (.slice u1 m1 q1)).setCell (p:=⟨w.heap.size+1,2,none⟩) hle (.slice u2 m2 q2)
    have hO9:=((((hO.low (p:=⟨w.heap.size+1,0,none⟩) hlow (.string xk)).low (p:=⟨w.heap.size+1,1,none⟩) hlow (.slice u1 m1 q1)).low (p:=⟨w.heap.size+1,2,none⟩) hlow (.slice u2 m2 q2))).lower hup
    clear pZ pR pM hO hlow hup
    go_wp2
    refine bodyPost_ret (by simp [results,Tryd.results21,go_sem,z0,z1,z2];try rfl) rfl ?_
    exact ⟨EntGotC.mk9 (e:=(xk,xb,xz)) ((u1,m1,q1),(u2,m2,q2)) hO9,bz⟩
end Go.Proofs.YthmgampabhbpoaaDoor
