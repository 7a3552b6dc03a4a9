/-
  Joined: FndI, FdeI, VmLaid, RowBelow, FkpW.
-/
import Derived.Test.YtbdfbdbpjijcdaaGreatDoorRows
import Derived.ProofKit
import Derived.OpenShut
import Derived.LaidMore
import Derived.MakeChecks
import Derived.Stop.LaidErr
import Derived.Test.YtbdfbdbpjijcdaaGreatDoorM41

namespace Go.Proofs.YtbdfbdbpjijcdaaGreatDoor
set_option maxRecDepth 100000
set_option maxHeartbeats 16000000
open Go.RowKit
set_option linter.unusedVariables false
set_option linter.unusedSimpArgs false

theorem against_is (k key:ByteArray) (s:Sl2) (w:World) :
  Calls Tryz.prog 146 #[entV k s,.string key] w fun e w'=>e=.returned (.int .i64 (cmpS k key))∧Below w.heap.size w w':=by
 have kX:=fun W=>entryKey_is k s W
 have kC:=fun W=>stringsCompare_is k key W
 have mK:=fun v W=>methKey v W
 have eK:∀ args w,(callFunc 328 args).run Tryz.prog w=.ok (.enter 328 args) w:=Go.Proofs.enters_of Tryz.func328 (by kernel_rfl) rfl
 obtain ⟨⟨a1,n1,c1⟩,⟨a2,n2,c2⟩⟩:=s
 unfold entV at *
 simp only at *
 have bw:Below w.heap.size w (w.alloc (.cells #[.string k,.slice a1 n1 c1,.slice a2 n2 c2] 45)):=by go_grown
 go_enter Tryz.func146,Tryz.ntmps146
 go_wp2_with fail
 refine (kX _).mono ?_
 rintro e w1 ⟨rfl,hb⟩
 replace bw:=bel8 bw hb
 go_wp2_with fail
 refine (kC _).mono ?_
 rintro e w2 ⟨rfl,rfl⟩
 go_wp2
 go_ret
 exact ⟨rfl,bw⟩

theorem search_is (a:Option Addr) (n cap:Nat) (es:List E3) (key:ByteArray) (w:World) (h:Ents w a n cap es) (hok:memOk es=true) :
  Calls Tryz.prog 148 #[.slice a n cap,.string key,.func (.func 146) #[] #[]] w fun e w'=>e=.returned (.tuple #[.int .i64 (plcE es key),.bool (isE es key)])∧Below w.heap.size w w':=by
 have hn2:=memOk_len hok
 have hl:=h.1
 rw [hl] at hn2
 obtain ⟨pl,hpl⟩:∃ pl,pl=plcE es key:=⟨_,rfl⟩
 obtain ⟨fb,hfb⟩:∃ fb,fb=isE es key:=⟨_,rfl⟩
 rw [← hpl,← hfb]
 have HPL:Hid (pl=plcE es key):=hpl
 have HFB:Hid (fb=isE es key):=hfb
 clear hpl hfb
 go_enter Tryz.func148,Tryz.ntmps148
 go_wp2_with fail
 go_loopw [9,10] (fun sl sh wr=>∃ lo hi:Nat,lo≤hi∧hi≤n∧sl=.int .i64 lo∧sh=.int .i64 hi∧Hid ((∀ i,i<lo→ltS (es.getD i e3d).1 key=true)∧∀ i,hi≤i→i<n→ltS (es.getD i e3d).1 key=false)∧Below w.heap.size w wr) (fun sl sh _=>(intOf sh).toNat - (intOf sl).toNat)
 case atStart=>exact ⟨0,n,by omega,by omega,rfl,rfl,⟨fun i hi=>by omega,fun i h1 h2=>by omega⟩,Below.refl _ _⟩
 case round =>
  obtain ⟨lo,hi,h1,h2,rfl,rfl,HK,bw⟩:=hrel
  by_cases hlt:lo<hi
  ·obtain ⟨_,_,_,hcase⟩:=h.below bw
   rcases hcase with e0 | ⟨b,off,rfl,hblt,hcell⟩
   ·omega
   obtain ⟨s,c0,c1,c2,_⟩:=hcell ((lo+hi) / 2) (by omega)
   have hcl:=cmpS_lt (es.getD ((lo+hi) / 2) e3d).1 key
   have kC:=fun W=>against_is (es.getD ((lo+hi) / 2) e3d).1 key s W
   have hlo:(lo:Int)<(hi:Int):=by omega
   obtain ⟨⟨a1,n1,d1⟩,⟨a2,n2,d2⟩⟩:=s
   unfold entV at kC
   simp only at c0 c1 c2 kC
   clear hcell hblt
   by_cases hT:cmpS (es.getD ((lo+hi) / 2) e3d).1 key<0
   ·have hY:=hcl.1 hT
    have HK2:Hid ((∀ i,i<(lo+hi) / 2+1→ltS (es.getD i e3d).1 key=true)∧∀ i,hi≤i→i<n→ltS (es.getD i e3d).1 key=false):=⟨fun i h3=>by
     by_cases e:i=(lo+hi) / 2
     ·rw [e];exact hY
     ·exact ltS_trans (memOk_lt hok (i:=i) (j:=(lo+hi) / 2) (by omega) (by omega)) hY,HK.out.2⟩
    generalize cmpS (es.getD ((lo+hi) / 2) e3d).1 key=c at *
    generalize (es.getD ((lo+hi) / 2) e3d).1=xk at *
    clear HK hcl hY
    go_wp2_with fail
    refine (kC _).mono ?_
    rintro e w1 ⟨rfl,hb⟩
    replace bw:=bel8 bw hb
    clear hb c0 c1 c2 kC
    go_wp2
    go_roundw
    case rel=>exact ⟨(lo+hi) / 2+1,hi,by omega,by omega,by rw [show ((lo:Int)+(hi:Int)) / 2+1=(((lo+hi) / 2+1:Nat):Int) by omega],rfl,HK2,bw⟩
    case measure=>simp [intOf];omega
   ·have hY:ltS (es.getD ((lo+hi) / 2) e3d).1 key=false:=by
     cases hq:ltS (es.getD ((lo+hi) / 2) e3d).1 key
     ·rfl
     ·exact absurd (hcl.2 hq) hT
    have HK2:Hid ((∀ i,i<lo→ltS (es.getD i e3d).1 key=true)∧∀ i,(lo+hi) / 2≤i→i<n→ltS (es.getD i e3d).1 key=false):=⟨HK.out.1,fun i h3 h4=>by
     by_cases e:i=(lo+hi) / 2
     ·rw [e];exact hY
     ·cases hc:ltS (es.getD i e3d).1 key
      ·rfl
      ·have:=ltS_trans (memOk_lt hok (i:=(lo+hi) / 2) (j:=i) (by omega) (by omega)) hc
       rw [hY] at this
       cases this⟩
    generalize cmpS (es.getD ((lo+hi) / 2) e3d).1 key=c at *
    generalize (es.getD ((lo+hi) / 2) e3d).1=xk at *
    clear HK hcl hY
    go_wp2_with fail
    refine (kC _).mono ?_
    rintro e w1 ⟨rfl,hb⟩
    replace bw:=bel8 bw hb
    clear hb c0 c1 c2 kC
    go_wp2
    go_roundw
    case rel=>exact ⟨lo,(lo+hi) / 2,by omega,by omega,rfl,by rw [show ((lo:Int)+(hi:Int)) / 2=(((lo+hi) / 2:Nat):Int) by omega],HK2,bw⟩
    case measure=>simp [intOf];omega
  ·obtain rfl:lo=hi:=by omega
   have hp:plcE es key=lo:=plcE_of HK.out.1 (by omega) (fun h3=>HK.out.2 lo (Nat.le_refl _) (by omega))
   have HI:Hid (isE es key=(decide (lo<n) && decide ((es.getD lo e3d).1=key))):=by rw [Hid,isE,hp,hl]
   rw [← HFB.out] at HI
   have HP:Hid (pl=lo):=by rw [Hid,HPL.out];exact hp
   clear HK hp HPL HFB
   by_cases hln:lo<n
   ·obtain ⟨_,_,_,hcase⟩:=h.below bw
    rcases hcase with e0 | ⟨b,off,rfl,hblt,hcell⟩
    ·omega
    obtain ⟨s,c0,c1,c2,_⟩:=hcell lo hln
    have hz:=cmpS_zero (es.getD lo e3d).1 key
    have kC:=fun W=>against_is (es.getD lo e3d).1 key s W
    have hln2:(lo:Int)<(n:Int):=by omega
    have hl0:(0:Int)≤(lo:Int):=by omega
    obtain ⟨⟨a1,n1,d1⟩,⟨a2,n2,d2⟩⟩:=s
    unfold entV at kC
    simp only at c0 c1 c2 kC
    clear hcell hblt
    have HB:Hid (fb=decide (cmpS (es.getD lo e3d).1 key=0)):=by
     rw [Hid,HI.out,decide_eq_true hln,Bool.true_and]
     simp only [hz]
    clear HI hz
    generalize cmpS (es.getD lo e3d).1 key=c at *
    generalize (es.getD lo e3d).1=xk at *
    go_wp2_with fail
    refine (kC _).mono ?_
    rintro e w1 ⟨rfl,hb⟩
    replace bw:=bel8 bw hb
    clear hb c0 c1 c2 kC
    go_wp2
    go_ret2
    exact ⟨by rw [HP.out,HB.out];rfl,bw⟩
   ·have HB:Hid (fb=false):=by rw [Hid,HI.out,decide_eq_false hln,Bool.false_and]
    have hln2:¬ (lo:Int)<(n:Int):=by omega
    clear HI
    go_wp2
    go_ret2
    exact ⟨by rw [HP.out,HB.out];rfl,bw⟩
theorem tableFind_is (a:Option Addr) (n cap:Nat) (es:List E3) (key:ByteArray) (w:World) (h:Ents w a n cap es) (hok:memOk es=true) :
  Calls Tryz.prog 79 #[.agg #[.slice a n cap],.string key] w fun e w'=>e=.returned (.tuple #[.int .i64 (plcE es key),.bool (isE es key)])∧Below w.heap.size w w':=by
 have bw:Below w.heap.size w (w.alloc (.cells #[.slice a n cap] 114)):=by go_grown
 have k:=search_is a n cap es key _ (h.below bw) hok
 go_enter Tryz.func79,Tryz.ntmps79
 go_wp2_with fail
 refine k.mono ?_
 rintro e w1 ⟨rfl,hb⟩
 replace bw:=bel8 bw hb
 go_wp2
 go_ret2
 exact ⟨rfl,bw⟩


def fdeE (es:List E3) (key:ByteArray):E3:=if key.size≤65536∧memOk es=true∧isE es key=true then es.getD (plcE es key) e3d else e3d
def fdeC (es:List E3) (key:ByteArray):Int:=if 65536<key.size then 2 else if memOk es=true then (if isE es key=true then 0 else 5) else 1
def EntGotC (x:Ending) (w':World) (B:Nat) (e:E3) (c:Int):Prop:=∃ s:Sl2,x=.returned (.tuple #[entV e.1 s,.int .i64 c])∧OwnE w' B (.slice s.1.1 s.1.2.1 s.1.2.2) (.slice s.2.1 s.2.2.1 s.2.2.2) e
theorem EntGotC.mk9 {w':World} {B:Nat} {e:E3} {c:Int} (s:Sl2) (h:OwnE w' B (.slice s.1.1 s.1.2.1 s.1.2.2) (.slice s.2.1 s.2.2.1 s.2.2.2) e):EntGotC (.returned (.tuple #[entV e.1 s,.int .i64 c])) w' B e c:=⟨s,rfl,h⟩
theorem EntGotC.nil9 {w':World} {B:Nat} {c:Int}:EntGotC (.returned (.tuple #[.agg #[.string ⟨#[]⟩,.slice none 0 0,.slice none 0 0],.int .i64 c])) w' B e3d c:=⟨((none,0,0),(none,0,0)),rfl,OwnE.nil9 _ _ _⟩

theorem implFindEntry_is (a:Option Addr) (n cap:Nat) (es:List E3) (key:ByteArray) (w:World) (h:Ents w a n cap es) (hk:key.size≤1048576) (hV:VmShape w) :
  Calls Tryz.prog 23 #[.agg #[.slice a n cap],.string key] w fun e w'=>EntGotC e w' w.heap.size (fdeE es key) (fdeC es key)∧Below w.heap.size w w':=by
 have hl:=h.1
 have bw:Below w.heap.size w ((w.alloc (.cells #[.slice a n cap] 33)).alloc (.cells #[.string ⟨#[]⟩,.slice none 0 0,.slice none 0 0] 45)):=by go_grown
 have pM:Blk ((w.alloc (.cells #[.slice a n cap] 33)).alloc (.cells #[.string ⟨#[]⟩,.slice none 0 0,.slice none 0 0] 45)) w.heap.size 33 [.slice a n cap]:=blkOld _ (blkAt _ _ _ rfl)
 have pR:Blk ((w.alloc (.cells #[.slice a n cap] 33)).alloc (.cells #[.string ⟨#[]⟩,.slice none 0 0,.slice none 0 0] 45)) (w.heap.size+1) 45 [.string ⟨#[]⟩,.slice none 0 0,.slice none 0 0]:=blkAt _ _ _ (by simp)
 have g0:=pM.cell 0
 simp only [List.getElem?_cons_zero] at g0
 have kM:=fun W (hb:Below w.heap.size w W)=>implMemoOK_is a n cap es W (h.below hb) (hV.below hb)
 unfold fdeE fdeC
 by_cases h1:65536<key.size
 ·rw [if_neg (by omega),if_pos h1]
  have h2:(65536:Int)<(key.size:Int):=by omega
  clear kM g0
  go_enter Tryz.func23,Tryz.ntmps23
  have r0:=pR.cell 0
  have r1:=pR.cell 1
  have r2:=pR.cell 2
  have fr0:=pR.frozen 0
  have fr1:=pR.frozen 1
  have fr2:=pR.frozen 2
  have pZ:=((pR.set 0 (.string ⟨#[]⟩)).set 1 (.slice none 0 0)).set 2 (.slice none 0 0)
  simp only [List.set_cons_zero,List.set_cons_succ] at pZ
  have z0:=pZ.cell 0
  have z1:=pZ.cell 1
  have z2:=pZ.cell 2
  simp only [List.getElem?_cons_zero,List.getElem?_cons_succ] at z0 z1 z2 r0 r1 r2
  have hle:w.heap.size≤w.heap.size+1:=by omega
  have bz:=((bw.setCell (p:=⟨w.heap.size+1,0,none⟩) hle (.string ⟨#[]⟩)).setCell (p:=⟨w.heap.size+1,1,none⟩) hle (.slice none 0 0)).setCell (p:=⟨w.heap.size+1,2,none⟩) hle (.slice none 0 0)
  clear pZ pR pM
  go_wp2
  refine bodyPost_ret (by simp [results,Tryz.results23,go_sem,z0,z1,z2];try rfl) rfl ?_
  first | exact ⟨EntGotC.nil9,bz⟩ | exact ⟨EntGotC.nil9,by go_grown⟩
 ·have h2:¬ (65536:Int)<(key.size:Int):=by omega
  rw [if_neg h1]
  cases hok:memOk es
  ·rw [if_neg (by simp),if_neg (by simp)]
   rw [hok] at kM
   clear hok
   go_enter Tryz.func23,Tryz.ntmps23
   go_wp2_with fail
   generalize ((w.alloc (.cells #[.slice a n cap] 33)).alloc (.cells #[.string ⟨#[]⟩,.slice none 0 0,.slice none 0 0] 45))=U at *
   refine (kM _ bw).mono ?_
   rintro e w1 ⟨rfl,hb⟩
   replace bw:=bel8 bw hb
   replace pR:=pR.below hb
   replace pM:=pM.below hb
   replace g0:=pM.cell 0
   simp only [List.getElem?_cons_zero] at g0
   clear hb kM
   clear g0
   have r0:=pR.cell 0
   have r1:=pR.cell 1
   have r2:=pR.cell 2
   have fr0:=pR.frozen 0
   have fr1:=pR.frozen 1
   have fr2:=pR.frozen 2
   have pZ:=((pR.set 0 (.string ⟨#[]⟩)).set 1 (.slice none 0 0)).set 2 (.slice none 0 0)
   simp only [List.set_cons_zero,List.set_cons_succ] at pZ
   have z0:=pZ.cell 0
   have z1:=pZ.cell 1
   have z2:=pZ.cell 2
   simp only [List.getElem?_cons_zero,List.getElem?_cons_succ] at z0 z1 z2 r0 r1 r2
   have hle:w.heap.size≤w.heap.size+1:=by omega
   have bz:=((bw.setCell (p:=⟨w.heap.size+1,0,none⟩) hle (.string ⟨#[]⟩)).setCell (p:=⟨w.heap.size+1,1,none⟩) hle (.slice none 0 0)).setCell (p:=⟨w.heap.size+1,2,none⟩) hle (.slice none 0 0)
   clear pZ pR pM
   go_wp2
   refine bodyPost_ret (by simp [results,Tryz.results23,go_sem,z0,z1,z2];try rfl) rfl ?_
   first | exact ⟨EntGotC.nil9,bz⟩ | exact ⟨EntGotC.nil9,by go_grown⟩
  ·rw [hok] at kM
   have kP:=fun W (hb:Below w.heap.size w W)=>tableFind_is a n cap es key W (h.below hb) hok
   cases hI:isE es key
   ·rw [if_neg (by simp),if_pos rfl,if_neg (by simp)]
    rw [hI] at kP
    clear hI hok
    go_enter Tryz.func23,Tryz.ntmps23
    go_wp2_with fail
    generalize ((w.alloc (.cells #[.slice a n cap] 33)).alloc (.cells #[.string ⟨#[]⟩,.slice none 0 0,.slice none 0 0] 45))=U at *
    refine (kM _ bw).mono ?_
    rintro e w1 ⟨rfl,hb⟩
    replace bw:=bel8 bw hb
    replace pR:=pR.below hb
    replace pM:=pM.below hb
    replace g0:=pM.cell 0
    simp only [List.getElem?_cons_zero] at g0
    clear hb kM
    go_wp2_with fail
    refine (memoTable_is a n cap _).mono ?_
    rintro e w2 ⟨rfl,hb⟩
    replace bw:=bel8 bw hb
    replace pR:=pR.below hb
    replace pM:=pM.below hb
    clear hb
    go_wp2_with fail
    refine (kP _ bw).mono ?_
    rintro e w3 ⟨rfl,hb⟩
    replace bw:=bel8 bw hb
    replace pR:=pR.below hb
    replace pM:=pM.below hb
    replace g0:=pM.cell 0
    simp only [List.getElem?_cons_zero] at g0
    clear hb kP
    clear g0
    have r0:=pR.cell 0
    have r1:=pR.cell 1
    have r2:=pR.cell 2
    have fr0:=pR.frozen 0
    have fr1:=pR.frozen 1
    have fr2:=pR.frozen 2
    have pZ:=((pR.set 0 (.string ⟨#[]⟩)).set 1 (.slice none 0 0)).set 2 (.slice none 0 0)
    simp only [List.set_cons_zero,List.set_cons_succ] at pZ
    have z0:=pZ.cell 0
    have z1:=pZ.cell 1
    have z2:=pZ.cell 2
    simp only [List.getElem?_cons_zero,List.getElem?_cons_succ] at z0 z1 z2 r0 r1 r2
    have hle:w.heap.size≤w.heap.size+1:=by omega
    have bz:=((bw.setCell (p:=⟨w.heap.size+1,0,none⟩) hle (.string ⟨#[]⟩)).setCell (p:=⟨w.heap.size+1,1,none⟩) hle (.slice none 0 0)).setCell (p:=⟨w.heap.size+1,2,none⟩) hle (.slice none 0 0)
    clear pZ pR pM
    go_wp2
    refine bodyPost_ret (by simp [results,Tryz.results23,go_sem,z0,z1,z2];try rfl) rfl ?_
    first | exact ⟨EntGotC.nil9,bz⟩ | exact ⟨EntGotC.nil9,by go_grown⟩
   ·rw [if_pos ⟨by omega,rfl,rfl⟩,if_pos rfl,if_pos rfl]
    rw [hI] at kP
    have hpl:plcE es key<n:=by
     simp only [isE,Bool.and_eq_true,decide_eq_true_eq] at hI
     omega
    have hek:=memOk_ent hok (i:=plcE es key) (by omega)
    clear hI hok
    generalize plcE es key=p at *
    have hpl2:(p:Int)<(n:Int):=by omega
    have hp0:(0:Int)≤(p:Int):=by omega
    have y1:=entOk_bugs hek
    have y2:=entOk_foot hek
    have y3:=entOk_key hek
    have h9:=h
    obtain ⟨_,_,_,hcase⟩:=h9
    rcases hcase with e0 | ⟨b,off,rfl,hblt,hcell⟩
    ·omega
    obtain ⟨s,c0,c1,c2,hm⟩:=hcell p hpl
    have kO:=fun W (hb:Below w.heap.size w W)=>copied_is (es.getD p e3d) s W (hm.below hb) (by omega) (by omega) (by omega)
    clear hcell hm hek y1 y2 y3
    generalize es.getD p e3d=x at *
    obtain ⟨xk,xb,xz⟩:=x
    obtain ⟨⟨a1,n1,d1⟩,⟨a2,n2,d2⟩⟩:=s
    unfold entV at kO
    simp only at c0 c1 c2 kO
    go_enter Tryz.func23,Tryz.ntmps23
    go_wp2_with fail
    generalize ((w.alloc (.cells #[.slice (some ⟨b,off,none⟩) n cap] 33)).alloc (.cells #[.string ⟨#[]⟩,.slice none 0 0,.slice none 0 0] 45))=U at *
    refine (kM _ bw).mono ?_
    rintro e w1 ⟨rfl,hb⟩
    replace bw:=bel8 bw hb
    replace pR:=pR.below hb
    replace pM:=pM.below hb
    replace g0:=pM.cell 0
    simp only [List.getElem?_cons_zero] at g0
    clear hb kM
    go_wp2_with fail
    refine (memoTable_is (some ⟨b,off,none⟩) n cap _).mono ?_
    rintro e w2 ⟨rfl,hb⟩
    replace bw:=bel8 bw hb
    replace pR:=pR.below hb
    replace pM:=pM.below hb
    clear hb
    go_wp2_with fail
    refine (kP _ bw).mono ?_
    rintro e w3 ⟨rfl,hb⟩
    replace bw:=bel8 bw hb
    replace pR:=pR.below hb
    replace pM:=pM.below hb
    replace g0:=pM.cell 0
    simp only [List.getElem?_cons_zero] at g0
    clear hb kP
    replace c0:=cell8 bw c0
    replace c1:=cell8 bw c1
    replace c2:=cell8 bw c2
    go_wp2_with fail
    refine (kO _ bw).mono ?_
    rintro e w4 ⟨⟨⟨⟨u1,m1,q1⟩,⟨u2,m2,q2⟩⟩,rfl,hO⟩,hb⟩
    have hlow:=pR.lt
    have hup:=bw.size
    replace bw:=bel8 bw hb
    replace pR:=pR.below hb
    clear hb kO c0 c1 c2 g0
    unfold entV
    simp only
    have r0:=pR.cell 0
    have r1:=pR.cell 1
    have r2:=pR.cell 2
    have fr0:=pR.frozen 0
    have fr1:=pR.frozen 1
    have fr2:=pR.frozen 2
    have pZ:=((pR.set 0 (.string xk)).set 1 (.slice u1 m1 q1)).set 2 (.slice u2 m2 q2)
    simp only [List.set_cons_zero,List.set_cons_succ] at pZ
    have z0:=pZ.cell 0
    have z1:=pZ.cell 1
    have z2:=pZ.cell 2
    simp only [List.getElem?_cons_zero,List.getElem?_cons_succ] at z0 z1 z2 r0 r1 r2
    have hle:w.heap.size≤w.heap.size+1:=by omega
    have bz:=((bw.setCell (p:=⟨w.heap.size+1,0,none⟩) hle (.string xk)).setCell (p:=⟨w.heap.size+1,1,none⟩) hle (.slice u1 m1 q1)).setCell (p:=⟨w.heap.size+1,2,none⟩) hle (.slice u2 m2 q2)
    have hO9:=((((hO.low (p:=⟨w.heap.size+1,0,none⟩) hlow (.string xk)).low (p:=⟨w.heap.size+1,1,none⟩) hlow (.slice u1 m1 q1)).low (p:=⟨w.heap.size+1,2,none⟩) hlow (.slice u2 m2 q2))).lower hup
    clear pZ pR pM hO hlow hup
    go_wp2
    refine bodyPost_ret (by simp [results,Tryz.results23,go_sem,z0,z1,z2];try rfl) rfl ?_
    exact ⟨EntGotC.mk9 (e:=(xk,xb,xz)) ((u1,m1,q1),(u2,m2,q2)) hO9,bz⟩

open Go.RowKit Go.ChangeShapes

theorem gVmShape:Tryz.prog.globalNamed "loop.example/g00632/impl.vmShape"=some 0:=by kernel_rfl
theorem tVmShape:(Tryz.prog.globals[0]?).map (·.type)=some 280:=by kernel_rfl

section
variable {H : Type} {enc : TypeId × Value → H} {w : World} {base : Nat} {spare : Nat → Bool} {held : Bool}
theorem part_cells {fuel:Nat} {cs:List Value} {a b:Int} {p:List MemPlace} (h:DataW.trod enc Tryz.prog w base spare held fuel 279 cs=some (.agg [.lit (.int .i64 a),.lit (.int .i64 b)],p)):cs=[.int .i64 a,.int .i64 b]:=by
 obtain ⟨y0,y1,n,hx,hl,h0,h1⟩:=trod_struct2 Tryz.underlying279 h
 have hl2:cs.length=2:=hl.trans (by kernel_rfl)
 have hk:Tryz.prog.cellsOf 3=1:=by kernel_rfl
 match cs,hl2 with
 | [c0,c1],_ =>
  simp only [hk] at h0 h1
  obtain ⟨z0,e0,hy0,_⟩:=DataW.trod_int Tryz.underlying3 h0
  obtain ⟨z1,e1,hy1,_⟩:=DataW.trod_int Tryz.underlying3 h1
  simp at e0 e1
  subst hy0 hy1 e0 e1
  simp at hx
  simp [hx]
theorem shape_cells {fuel:Nat} {cs:List Value} {p:List MemPlace} (h:DataW.trod enc Tryz.prog w base spare held fuel 280 cs=some (Rows.laid_loop_example_g00632_impl_vmShape,p)):cs=[3,6,4,9,2,3,6,9].map (Value.int .i64):=by
 obtain ⟨xs,m,_,hx,hl,hn,hi⟩:=DataW.trod_array Tryz.underlying280 h
 have hk:Tryz.prog.cellsOf 279=2:=by kernel_rfl
 have hl8:cs.length=8:=hl.trans (by kernel_rfl)
 rw [hk] at hi
 match xs,hn with
 | [⟨x0,p0⟩,⟨x1,p1⟩,⟨x2,p2⟩,⟨x3,p3⟩],_ =>
  unfold Rows.laid_loop_example_g00632_impl_vmShape at hx
  simp at hx
  obtain ⟨⟨rfl,rfl,rfl,rfl⟩,_⟩:=hx
  match cs,hl8 with
  | [c0,c1,c2,c3,c4,c5,c6,c7],_ =>
   have g0:=part_cells (hi 0 (by decide))
   have g1:=part_cells (hi 1 (by decide))
   have g2:=part_cells (hi 2 (by decide))
   have g3:=part_cells (hi 3 (by decide))
   simp at g0 g1 g2 g3
   simp [g0,g1,g2,g3]
end

theorem vmShape_of_laid {W:World} {p:List (String × DataW Unit)} (hp:p=[("loop.example/g00632/impl.vmShape",Rows.laid_loop_example_g00632_impl_vmShape)]) (h:laidMetH Tryz.prog p W):VmShape W:=by
 subst hp
 rw [MakeChecks.laidMetH_plain _ _ _ (by kernel_rfl)] at h
 obtain ⟨ps,⟨g0,t0,cs0,f0,p0,q0,hg0,ht0,hv0,hd0,_,_⟩,_,_⟩:=h
 obtain rfl:=Option.some.inj (gVmShape.symm.trans hg0)
 obtain rfl:=Option.some.inj (tVmShape.symm.trans ht0)
 have hcs:=shape_cells hd0
 unfold World.var? at hv0
 simp only [gVmShape,Option.bind_some] at hv0
 cases hh:W.heap[0]? with
 | none=>rw [hh] at hv0;cases hv0
 | some o =>
  rw [hh] at hv0
  cases o with
  | cells cs t fr =>
   simp only [Option.some.injEq] at hv0
   subst hv0
   intro i v hi
   rw [← hcs] at hi
   simp only [World.cell?,hh]
   simpa using hi
  | _=>cases hv0


theorem IsRow.below {k:IntKind} {w w':World} {a:Option Addr} {len cap:Nat} {zs:List Int} (h:IsRow k w a len cap zs) (hb:Below w.heap.size w w'):IsRow k w' a len cap zs:=by
 rcases h with h | ⟨x,h1,h2,h3,h4,h5,h6⟩
 ·exact .inl h
 ·refine .inr ⟨x,h1,h2,h3,h4,fun i hi=>?_,h6⟩
  have hc:=h5 i hi
  have hlt:(x.add i).block<w.heap.size:=by
   rcases Nat.lt_or_ge (x.add i).block w.heap.size with h' | h'
   ·exact h'
   ·simp [World.cell?,Array.getElem?_eq_none h'] at hc
  rw [hb.cell hlt]
  exact hc
theorem IsRow.len_le {k:IntKind} {w:World} {a:Option Addr} {len cap:Nat} {zs:List Int} (h:IsRow k w a len cap zs):len≤maxLen:=by
 rcases h with ⟨_,rfl,_,_⟩ | ⟨x,h1,h2,h3,_⟩
 ·omega
 ·omega


theorem memoDrawn_any (a:Option Addr) (n cap:Nat) (zs:List Int) (w:World) (hI:IsRow .u8 w a n cap zs) (hn:n≤1048576) :
  Calls Tryz.prog 19 #[.slice a n cap] w fun e w'=>MemDr e w' w.heap.size∧Below w.heap.size w w':=by
 have bw:Below w.heap.size w (w.alloc (.cells #[.slice none 0 0] 33)):=by go_grown
 have pR:Blk (w.alloc (.cells #[.slice none 0 0] 33)) w.heap.size 33 [.slice none 0 0]:=blkAt _ _ _ rfl
 have hC:=code_of (hI.below bw) hn
 go_enter Tryz.func19,Tryz.ntmps19
 go_wp2_with fail
 generalize (w.alloc (.cells #[.slice none 0 0] 33))=W1 at *
 refine (l00Source_any a n cap W1 hn).mono ?_
 rintro e w1 ⟨rfl,hS1,hb1⟩
 have hC1:=hC.below hb1
 have hl:=pR.lt
 replace bw:=bel8 bw hb1
 replace pR:=pR.below hb1
 go_wp2_with fail
 refine (memo_any _ 0 a n cap _ hS1 hC1 (by omega)).mono ?_
 rintro e w2 ⟨⟨es,v,h1,h2,h3,rfl,hM⟩,hW2⟩
 have hb2:=hW2.below (Nat.le_of_lt hS1.lt)
 have bw2:Below w.heap.size w w2:=bw.trans (hb2.mono (by omega))
 replace pR:=pR.went hW2 (by omega)
 obtain ⟨va,vc,rfl⟩:=hM.slice9
 have hs1:=hS1.lt
 have r0:=pR.cell 0
 have fr0:=pR.frozen 0
 have pZ:=pR.set 0 (.slice va es.length vc)
 simp only [List.set_cons_zero] at pZ
 have z0:=pZ.cell 0
 simp only [List.getElem?_cons_zero] at z0 r0
 have bz:=bw2.setCell (p:=⟨w.heap.size,0,none⟩) (Nat.le_refl _) (.slice va es.length vc)
 have hM9:=(hM.low (p:=⟨w.heap.size,0,none⟩) (show w.heap.size<w1.heap.size by omega) (.slice va es.length vc)).lower (show w.heap.size≤w1.heap.size by omega)
 clear pZ pR hM hW2 hS1 hC1 hC hb2 bw bw2
 go_wp2
 refine bodyPost_ret (by simp [results,Tryz.results19,go_sem,z0];try rfl) rfl ?_
 exact ⟨MemDr.mk9 h1 h2 h3 hM9,bz⟩
theorem smeB_self {es:List E3} (h:memOk es=true):smeB es es=true:=by
 unfold smeB
 rw [h,decide_eq_true rfl]
 rfl

end Go.Proofs.YtbdfbdbpjijcdaaGreatDoor
