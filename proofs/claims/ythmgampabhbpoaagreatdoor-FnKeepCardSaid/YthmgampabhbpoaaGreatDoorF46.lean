/-
  Joined: SmeI, FndI.
-/
import Derived.Test.YthmgampabhbpoaaGreatDoorF45

namespace Go.Proofs.YthmgampabhbpoaaGreatDoor
set_option maxRecDepth 100000
set_option maxHeartbeats 16000000
open Go.RowKit
set_option linter.unusedVariables false
set_option linter.unusedSimpArgs false

theorem entrySame_is (e e':E3) (s s':Sl2) (w:World) (h:Emem w s e) (h':Emem w s' e') :
  Calls Tryz.prog 42 #[entV e.1 s,entV e'.1 s'] w fun x w'=>x=.returned (.bool (decide (e=e')))∧Below w.heap.size w w':=by
 obtain ⟨_,hB,hF,_⟩:=h
 obtain ⟨_,hB',hF',_⟩:=h'
 obtain ⟨k,eb,ez⟩:=e
 obtain ⟨k2,eb',ez'⟩:=e'
 obtain ⟨⟨a1,n1,c1⟩,⟨a2,n2,c2⟩⟩:=s
 obtain ⟨⟨b1,m1,d1⟩,⟨b2,m2,d2⟩⟩:=s'
 unfold entV
 simp only at *
 have kB:=fun W (hb:Below w.heap.size w W)=>eqlB_any a1 b1 n1 m1 c1 d1 eb eb' W (hB.below hb) (hB'.below hb)
 have kI:=fun W (hb:Below w.heap.size w W)=>eqlI_any a2 b2 n2 m2 c2 d2 ez ez' W (hF.below hb) (hF'.below hb)
 clear hB hF hB' hF'
 have bw:Below w.heap.size w ((w.alloc (.cells #[.string k,.slice a1 n1 c1,.slice a2 n2 c2] 33)).alloc (.cells #[.string k2,.slice b1 m1 d1,.slice b2 m2 d2] 33)):=by go_grown
 have pX:Blk ((w.alloc (.cells #[.string k,.slice a1 n1 c1,.slice a2 n2 c2] 33)).alloc (.cells #[.string k2,.slice b1 m1 d1,.slice b2 m2 d2] 33)) w.heap.size 33 [.string k,.slice a1 n1 c1,.slice a2 n2 c2]:=blkOld _ (blkAt _ _ _ rfl)
 have pY:Blk ((w.alloc (.cells #[.string k,.slice a1 n1 c1,.slice a2 n2 c2] 33)).alloc (.cells #[.string k2,.slice b1 m1 d1,.slice b2 m2 d2] 33)) (w.heap.size+1) 33 [.string k2,.slice b1 m1 d1,.slice b2 m2 d2]:=blkAt _ _ _ (by simp)
 obtain ⟨fin,hfin⟩:∃ fin,fin=decide ((k,eb,ez)=(k2,eb',ez')):=⟨_,rfl⟩
 rw [← hfin]
 have HF:Hid (fin=(decide (k=k2) && (decide (eb=eb') && decide (ez=ez')))):=by
  rw [Hid,hfin]
  simp only [Prod.mk.injEq,Bool.decide_and]
 clear hfin
 by_cases hk:k=k2
 ·subst hk
  have hke:(k.toList == k.toList)=true:=by simp
  rw [decide_eq_true rfl,Bool.true_and] at HF
  by_cases hb0:eb=eb'
  ·rw [decide_eq_true hb0] at HF kB
   rw [Bool.true_and] at HF
   clear hb0
   generalize decide (ez=ez')=u at *
   go_enter Tryz.func42,Tryz.ntmps42
   go_wp2_with fail
   generalize ((w.alloc (.cells #[.string k,.slice a1 n1 c1,.slice a2 n2 c2] 33)).alloc (.cells #[.string k,.slice b1 m1 d1,.slice b2 m2 d2] 33))=U at *
   refine (kB _ bw).mono ?_
   rintro x w1 ⟨rfl,hb⟩
   replace bw:=bel8 bw hb
   replace pX:=pX.below hb
   replace pY:=pY.below hb
   have x2:=pX.cell 2
   have y2:=pY.cell 2
   simp only [List.getElem?_cons_zero,List.getElem?_cons_succ] at x2 y2
   clear hb
   go_wp2_with fail
   refine (kI _ bw).mono ?_
   rintro x w2 ⟨rfl,hb⟩
   replace bw:=bel8 bw hb
   clear hb x2 y2 pX pY
   go_wp2
   go_ret
   exact ⟨by rw [HF.out];rfl,bw⟩
  ·rw [decide_eq_false hb0] at HF kB
   rw [Bool.false_and] at HF
   clear hb0 kI
   go_enter Tryz.func42,Tryz.ntmps42
   go_wp2_with fail
   refine (kB _ bw).mono ?_
   rintro x w1 ⟨rfl,hb⟩
   replace bw:=bel8 bw hb
   clear hb pX pY
   go_wp2
   go_ret
   exact ⟨by rw [HF.out];rfl,bw⟩
 ·have hke:(k.toList == k2.toList)=false:=by
   rw [beq_eq_false_iff_ne]
   exact fun h9=>hk (toList_inj9 h9)
  rw [decide_eq_false hk,Bool.false_and] at HF
  clear hk kB kI pX pY
  go_enter Tryz.func42,Tryz.ntmps42
  go_wp2
  go_ret
  exact ⟨by rw [HF.out];rfl,bw⟩

theorem equalFunc_is (a:Option Addr) (n c:Nat) (es:List E3) (a':Option Addr) (n' c':Nat) (es':List E3) (w:World) (h:Ents w a n c es) (h':Ents w a' n' c' es') :
  Calls Tryz.prog 41 #[.slice a n c,.slice a' n' c',.func (.func 42) #[] #[]] w fun x w'=>x=.returned (.bool (decide (es=es')))∧Below w.heap.size w w':=by
 have hl:=h.1
 have hl':=h'.1
 have hnm:n≤maxLen:=Nat.le_trans h.2.1 h.2.2.1
 unfold maxLen at hnm
 by_cases hnn:n=n'
 ·subst hnn
  have hne:((n:Int) != (n:Int))=false:=by simp
  obtain ⟨r,hr⟩:∃ r,r=decide (es=es'):=⟨_,rfl⟩
  rw [← hr]
  have HR:Hid (r=decide (es=es')):=hr
  clear hr
  go_enter Tryz.func41,Tryz.ntmps41
  go_wp2_with fail
  go_loopw [17] (fun si wr=>∃ k:Nat,k≤n∧si=.int .i64 k∧Hid (es.take k=es'.take k)∧Below w.heap.size w wr) (fun si _=>n - (intOf si).toNat)
  case atStart=>exact ⟨0,by omega,rfl,(by simp:es.take 0=es'.take 0),Below.refl _ _⟩
  case round =>
   obtain ⟨k,hk,rfl,HK,bw⟩:=hrel
   by_cases hlt:k<n
   ·obtain ⟨_,_,_,hcase⟩:=h.below bw
    obtain ⟨_,_,_,hcase'⟩:=h'.below bw
    rcases hcase with e0 | ⟨b,off,rfl,hb,hc⟩
    ·omega
    rcases hcase' with e0 | ⟨b',off',rfl,hb',hc'⟩
    ·omega
    obtain ⟨s,x0,x1,x2,hm⟩:=hc k hlt
    obtain ⟨s',y0,y1,y2,hm'⟩:=hc' k hlt
    clear hc hb hc' hb'
    have kE:=fun W (hb:Below wr.heap.size wr W)=>entrySame_is (es.getD k e3d) (es'.getD k e3d) s s' W (hm.below hb) (hm'.below hb)
    have ht:=take_snoc9 (es:=es) (k:=k) (by omega)
    have ht':=take_snoc9 (es:=es') (k:=k) (by omega)
    have HE:Hid (es=es'→es.getD k e3d=es'.getD k e3d):=fun h9=>by rw [h9]
    clear hm hm'
    generalize es.getD k e3d=x at *
    generalize es'.getD k e3d=y at *
    have HT:Hid (x=y→es.take (k+1)=es'.take (k+1)):=fun h9=>by rw [← ht,← ht',HK.out,h9]
    clear ht ht'
    by_cases hxy:x=y
    ·have HK2:Hid (es.take (k+1)=es'.take (k+1)):=HT.out hxy
     rw [decide_eq_true hxy] at kE
     clear HT HE hxy
     obtain ⟨k1,xb,xz⟩:=x
     obtain ⟨k2,yb,yz⟩:=y
     obtain ⟨⟨a1,n1,c1⟩,⟨a2,n2,c2⟩⟩:=s
     obtain ⟨⟨b1,m1,d1⟩,⟨b2,m2,d2⟩⟩:=s'
     unfold entV at kE
     simp only at x0 x1 x2 y0 y1 y2 kE
     have hlt':(k:Int)<(n:Int):=by omega
     have hk0:(0:Int)≤(k:Int):=by omega
     have bA:Below wr.heap.size wr (wr.alloc (.cells #[.string k1,.slice a1 n1 c1,.slice a2 n2 c2] 33)):=by go_grown
     replace y0:=cell8 bA y0
     replace y1:=cell8 bA y1
     replace y2:=cell8 bA y2
     clear bA
     go_wp2_with fail
     refine (kE _ (by go_grown)).mono ?_
     rintro e w1 ⟨rfl,hb1⟩
     have bw1:=bel8 bw (bel8 (by go_grown) hb1)
     clear hb1 x0 x1 x2 y0 y1 y2 kE HK
     go_wp2
     go_roundw
     case rel=>exact ⟨k+1,by omega,by go_num,HK2,bw1⟩
     case measure=>simp [intOf];omega
    ·have HF:Hid (r=false):=by rw [Hid,HR.out,decide_eq_false (fun h9=>hxy (HE.out h9))]
     rw [decide_eq_false hxy] at kE
     clear HT HE hxy HR
     obtain ⟨k1,xb,xz⟩:=x
     obtain ⟨k2,yb,yz⟩:=y
     obtain ⟨⟨a1,n1,c1⟩,⟨a2,n2,c2⟩⟩:=s
     obtain ⟨⟨b1,m1,d1⟩,⟨b2,m2,d2⟩⟩:=s'
     unfold entV at kE
     simp only at x0 x1 x2 y0 y1 y2 kE
     have hlt':(k:Int)<(n:Int):=by omega
     have hk0:(0:Int)≤(k:Int):=by omega
     have bA:Below wr.heap.size wr (wr.alloc (.cells #[.string k1,.slice a1 n1 c1,.slice a2 n2 c2] 33)):=by go_grown
     replace y0:=cell8 bA y0
     replace y1:=cell8 bA y1
     replace y2:=cell8 bA y2
     clear bA
     go_wp2_with fail
     refine (kE _ (by go_grown)).mono ?_
     rintro e w1 ⟨rfl,hb1⟩
     have bw1:=bel8 bw (bel8 (by go_grown) hb1)
     clear hb1 x0 x1 x2 y0 y1 y2 kE HK
     go_wp2
     go_ret
     exact ⟨by rw [HF.out];rfl,bw1⟩
   ·obtain rfl:k=n:=by omega
    have HF:Hid (r=true):=by
     rw [Hid,HR.out,decide_eq_true_iff]
     have:=HK.out
     rw [List.take_of_length_le (by omega),List.take_of_length_le (by omega)] at this
     exact this
    clear HK HR
    go_wp2
    go_ret
    exact ⟨by rw [HF.out];rfl,bw⟩
 ·have hne:((n:Int) != (n':Int))=true:=by simp;omega
  rw [decide_eq_false (fun h9=>hnn (by rw [← hl,← hl',h9]))]
  go_enter Tryz.func41,Tryz.ntmps41
  go_wp2
  go_ret
  exact ⟨rfl,Below.refl _ _⟩

def smeB (es es':List E3):Bool:=memOk es && (memOk es' && decide (es=es'))

theorem implSameMemo_is (a:Option Addr) (n c:Nat) (es:List E3) (a':Option Addr) (n' c':Nat) (es':List E3) (w:World) (h:Ents w a n c es) (h':Ents w a' n' c' es') (hV:VmShape w) :
  Calls Tryz.prog 12 #[.agg #[.slice a n c],.agg #[.slice a' n' c']] w fun x w'=>x=.returned (.bool (smeB es es'))∧Below w.heap.size w w':=by
 unfold smeB
 have kA:=fun W (hb:Below w.heap.size w W)=>implMemoOK_is a n c es W (h.below hb) (hV.below hb)
 have kB:=fun W (hb:Below w.heap.size w W)=>implMemoOK_is a' n' c' es' W (h'.below hb) (hV.below hb)
 have bw:Below w.heap.size w ((w.alloc (.cells #[.slice a n c] 25)).alloc (.cells #[.slice a' n' c'] 25)):=by go_grown
 have pM:Blk ((w.alloc (.cells #[.slice a n c] 25)).alloc (.cells #[.slice a' n' c'] 25)) w.heap.size 25 [.slice a n c]:=blkOld _ (blkAt _ _ _ rfl)
 have pN:Blk ((w.alloc (.cells #[.slice a n c] 25)).alloc (.cells #[.slice a' n' c'] 25)) (w.heap.size+1) 25 [.slice a' n' c']:=blkAt _ _ _ (by simp)
 have kE:=fun W (hb:Below w.heap.size w W)=>equalFunc_is a n c es a' n' c' es' W (h.below hb) (h'.below hb)
 clear h h' hV
 generalize decide (es=es')=u at *
 cases hA:memOk es
 ·rw [hA] at kA
  rw [Bool.false_and]
  clear kE kB hA
  go_enter Tryz.func12,Tryz.ntmps12
  go_wp2_with fail
  generalize ((w.alloc (.cells #[.slice a n c] 25)).alloc (.cells #[.slice a' n' c'] 25))=U at *
  refine (kA _ bw).mono ?_
  rintro x w1 ⟨rfl,hb⟩
  replace bw:=bel8 bw hb
  replace pM:=pM.below hb
  replace pN:=pN.below hb
  have g0:=pM.cell 0
  have g1:=pN.cell 0
  simp only [List.getElem?_cons_zero] at g0 g1
  clear hb kA
  go_wp2
  go_ret
  exact ⟨rfl,bw⟩
 ·rw [hA] at kA
  rw [Bool.true_and]
  clear hA
  cases hB:memOk es'
  ·rw [hB] at kB
   rw [Bool.false_and]
   clear kE hB
   go_enter Tryz.func12,Tryz.ntmps12
   go_wp2_with fail
   generalize ((w.alloc (.cells #[.slice a n c] 25)).alloc (.cells #[.slice a' n' c'] 25))=U at *
   refine (kA _ bw).mono ?_
   rintro x w1 ⟨rfl,hb⟩
   replace bw:=bel8 bw hb
   replace pM:=pM.below hb
   replace pN:=pN.below hb
   have g0:=pM.cell 0
   have g1:=pN.cell 0
   simp only [List.getElem?_cons_zero] at g0 g1
   clear hb kA
   go_wp2_with fail
   refine (kB _ bw).mono ?_
   rintro x w2 ⟨rfl,hb⟩
   replace bw:=bel8 bw hb
   replace pM:=pM.below hb
   replace pN:=pN.below hb
   replace g0:=pM.cell 0
   replace g1:=pN.cell 0
   simp only [List.getElem?_cons_zero] at g0 g1
   clear hb kB
   go_wp2
   go_ret
   exact ⟨rfl,bw⟩
  ·rw [hB] at kB
   rw [Bool.true_and]
   clear hB
   go_enter Tryz.func12,Tryz.ntmps12
   go_wp2_with fail
   generalize ((w.alloc (.cells #[.slice a n c] 25)).alloc (.cells #[.slice a' n' c'] 25))=U at *
   refine (kA _ bw).mono ?_
   rintro x w1 ⟨rfl,hb⟩
   replace bw:=bel8 bw hb
   replace pM:=pM.below hb
   replace pN:=pN.below hb
   have g0:=pM.cell 0
   have g1:=pN.cell 0
   simp only [List.getElem?_cons_zero] at g0 g1
   clear hb kA
   go_wp2_with fail
   refine (kB _ bw).mono ?_
   rintro x w2 ⟨rfl,hb⟩
   replace bw:=bel8 bw hb
   replace pM:=pM.below hb
   replace pN:=pN.below hb
   replace g0:=pM.cell 0
   replace g1:=pN.cell 0
   simp only [List.getElem?_cons_zero] at g0 g1
   clear hb kB
   go_wp2_with fail
   refine (kE _ bw).mono ?_
   rintro x w3 ⟨rfl,hb⟩
   replace bw:=bel8 bw hb
   clear hb g0 g1 pM pN kE
   go_wp2
   go_ret
   exact ⟨rfl,bw⟩


theorem against_is (k key:ByteArray) (s:Sl2) (w:World) :
  Calls Tryz.prog 71 #[entV k s,.string key] w fun e w'=>e=.returned (.int .i64 (cmpS k key))∧Below w.heap.size w w':=by
 have kX:=fun W=>entryKey_is k s W
 have kC:=fun W=>stringsCompare_is k key W
 have mK:=fun v W=>methKey v W
 have eK:∀ args w,(callFunc 199 args).run Tryz.prog w=.ok (.enter 199 args) w:=Go.Proofs.enters_of Tryz.func199 (by kernel_rfl) rfl
 obtain ⟨⟨a1,n1,c1⟩,⟨a2,n2,c2⟩⟩:=s
 unfold entV at *
 simp only at *
 have bw:Below w.heap.size w (w.alloc (.cells #[.string k,.slice a1 n1 c1,.slice a2 n2 c2] 33)):=by go_grown
 go_enter Tryz.func71,Tryz.ntmps71
 go_wp2_with fail
 refine (kX _).mono ?_
 rintro e w1 ⟨rfl,hb⟩
 replace bw:=bel8 bw hb
 go_wp2_with fail
 refine (kC _).mono ?_
 rintro e w2 ⟨rfl,rfl⟩
 go_wp2
 go_ret
 exact ⟨rfl,bw⟩

theorem search_is (a:Option Addr) (n cap:Nat) (es:List E3) (key:ByteArray) (w:World) (h:Ents w a n cap es) (hok:memOk es=true) :
  Calls Tryz.prog 73 #[.slice a n cap,.string key,.func (.func 71) #[] #[]] w fun e w'=>e=.returned (.tuple #[.int .i64 (plcE es key),.bool (isE es key)])∧Below w.heap.size w w':=by
 have hn2:=memOk_len hok
 have hl:=h.1
 rw [hl] at hn2
 obtain ⟨pl,hpl⟩:∃ pl,pl=plcE es key:=⟨_,rfl⟩
 obtain ⟨fb,hfb⟩:∃ fb,fb=isE es key:=⟨_,rfl⟩
 rw [← hpl,← hfb]
 have HPL:Hid (pl=plcE es key):=hpl
 have HFB:Hid (fb=isE es key):=hfb
 clear hpl hfb
 go_enter Tryz.func73,Tryz.ntmps73
 go_wp2_with fail
 go_loopw [9,10] (fun sl sh wr=>∃ lo hi:Nat,lo≤hi∧hi≤n∧sl=.int .i64 lo∧sh=.int .i64 hi∧Hid ((∀ i,i<lo→ltS (es.getD i e3d).1 key=true)∧∀ i,hi≤i→i<n→ltS (es.getD i e3d).1 key=false)∧Below w.heap.size w wr) (fun sl sh _=>(intOf sh).toNat - (intOf sl).toNat)
 case atStart=>exact ⟨0,n,by omega,by omega,rfl,rfl,⟨fun i hi=>by omega,fun i h1 h2=>by omega⟩,Below.refl _ _⟩
 case round =>
  obtain ⟨lo,hi,h1,h2,rfl,rfl,HK,bw⟩:=hrel
  by_cases hlt:lo<hi
  ·obtain ⟨_,_,_,hcase⟩:=h.below bw
   rcases hcase with e0 | ⟨b,off,rfl,hblt,hcell⟩
   ·omega
   obtain ⟨s,c0,c1,c2,_⟩:=hcell ((lo+hi) / 2) (by omega)
   have hcl:=cmpS_lt (es.getD ((lo+hi) / 2) e3d).1 key
   have kC:=fun W=>against_is (es.getD ((lo+hi) / 2) e3d).1 key s W
   have hlo:(lo:Int)<(hi:Int):=by omega
   obtain ⟨⟨a1,n1,d1⟩,⟨a2,n2,d2⟩⟩:=s
   unfold entV at kC
   simp only at c0 c1 c2 kC
   clear hcell hblt
   by_cases hT:cmpS (es.getD ((lo+hi) / 2) e3d).1 key<0
   ·have hY:=hcl.1 hT
    have HK2:Hid ((∀ i,i<(lo+hi) / 2+1→ltS (es.getD i e3d).1 key=true)∧∀ i,hi≤i→i<n→ltS (es.getD i e3d).1 key=false):=⟨fun i h3=>by
     by_cases e:i=(lo+hi) / 2
     ·rw [e];exact hY
     ·exact ltS_trans (memOk_lt hok (i:=i) (j:=(lo+hi) / 2) (by omega) (by omega)) hY,HK.out.2⟩
    generalize cmpS (es.getD ((lo+hi) / 2) e3d).1 key=c at *
    generalize (es.getD ((lo+hi) / 2) e3d).1=xk at *
    clear HK hcl hY
    go_wp2_with fail
    refine (kC _).mono ?_
    rintro e w1 ⟨rfl,hb⟩
    replace bw:=bel8 bw hb
    clear hb c0 c1 c2 kC
    go_wp2
    go_roundw
    case rel=>exact ⟨(lo+hi) / 2+1,hi,by omega,by omega,by rw [show ((lo:Int)+(hi:Int)) / 2+1=(((lo+hi) / 2+1:Nat):Int) by omega],rfl,HK2,bw⟩
    case measure=>simp [intOf];omega
   ·have hY:ltS (es.getD ((lo+hi) / 2) e3d).1 key=false:=by
     cases hq:ltS (es.getD ((lo+hi) / 2) e3d).1 key
     ·rfl
     ·exact absurd (hcl.2 hq) hT
    have HK2:Hid ((∀ i,i<lo→ltS (es.getD i e3d).1 key=true)∧∀ i,(lo+hi) / 2≤i→i<n→ltS (es.getD i e3d).1 key=false):=⟨HK.out.1,fun i h3 h4=>by
     by_cases e:i=(lo+hi) / 2
     ·rw [e];exact hY
     ·cases hc:ltS (es.getD i e3d).1 key
      ·rfl
      ·have:=ltS_trans (memOk_lt hok (i:=(lo+hi) / 2) (j:=i) (by omega) (by omega)) hc
       rw [hY] at this
       cases this⟩
    generalize cmpS (es.getD ((lo+hi) / 2) e3d).1 key=c at *
    generalize (es.getD ((lo+hi) / 2) e3d).1=xk at *
    clear HK hcl hY
    go_wp2_with fail
    refine (kC _).mono ?_
    rintro e w1 ⟨rfl,hb⟩
    replace bw:=bel8 bw hb
    clear hb c0 c1 c2 kC
    go_wp2
    go_roundw
    case rel=>exact ⟨lo,(lo+hi) / 2,by omega,by omega,rfl,by rw [show ((lo:Int)+(hi:Int)) / 2=(((lo+hi) / 2:Nat):Int) by omega],HK2,bw⟩
    case measure=>simp [intOf];omega
  ·obtain rfl:lo=hi:=by omega
   have hp:plcE es key=lo:=plcE_of HK.out.1 (by omega) (fun h3=>HK.out.2 lo (Nat.le_refl _) (by omega))
   have HI:Hid (isE es key=(decide (lo<n) && decide ((es.getD lo e3d).1=key))):=by rw [Hid,isE,hp,hl]
   rw [← HFB.out] at HI
   have HP:Hid (pl=lo):=by rw [Hid,HPL.out];exact hp
   clear HK hp HPL HFB
   by_cases hln:lo<n
   ·obtain ⟨_,_,_,hcase⟩:=h.below bw
    rcases hcase with e0 | ⟨b,off,rfl,hblt,hcell⟩
    ·omega
    obtain ⟨s,c0,c1,c2,_⟩:=hcell lo hln
    have hz:=cmpS_zero (es.getD lo e3d).1 key
    have kC:=fun W=>against_is (es.getD lo e3d).1 key s W
    have hln2:(lo:Int)<(n:Int):=by omega
    have hl0:(0:Int)≤(lo:Int):=by omega
    obtain ⟨⟨a1,n1,d1⟩,⟨a2,n2,d2⟩⟩:=s
    unfold entV at kC
    simp only at c0 c1 c2 kC
    clear hcell hblt
    have HB:Hid (fb=decide (cmpS (es.getD lo e3d).1 key=0)):=by
     rw [Hid,HI.out,decide_eq_true hln,Bool.true_and]
     simp only [hz]
    clear HI hz
    generalize cmpS (es.getD lo e3d).1 key=c at *
    generalize (es.getD lo e3d).1=xk at *
    go_wp2_with fail
    refine (kC _).mono ?_
    rintro e w1 ⟨rfl,hb⟩
    replace bw:=bel8 bw hb
    clear hb c0 c1 c2 kC
    go_wp2
    go_ret2
    exact ⟨by rw [HP.out,HB.out];rfl,bw⟩
   ·have HB:Hid (fb=false):=by rw [Hid,HI.out,decide_eq_false hln,Bool.false_and]
    have hln2:¬ (lo:Int)<(n:Int):=by omega
    clear HI
    go_wp2
    go_ret2
    exact ⟨by rw [HP.out,HB.out];rfl,bw⟩
theorem tableFind_is (a:Option Addr) (n cap:Nat) (es:List E3) (key:ByteArray) (w:World) (h:Ents w a n cap es) (hok:memOk es=true) :
  Calls Tryz.prog 38 #[.agg #[.slice a n cap],.string key] w fun e w'=>e=.returned (.tuple #[.int .i64 (plcE es key),.bool (isE es key)])∧Below w.heap.size w w':=by
 have bw:Below w.heap.size w (w.alloc (.cells #[.slice a n cap] 65)):=by go_grown
 have k:=search_is a n cap es key _ (h.below bw) hok
 go_enter Tryz.func38,Tryz.ntmps38
 go_wp2_with fail
 refine k.mono ?_
 rintro e w1 ⟨rfl,hb⟩
 replace bw:=bel8 bw hb
 go_wp2
 go_ret2
 exact ⟨rfl,bw⟩
end Go.Proofs.YthmgampabhbpoaaGreatDoor
