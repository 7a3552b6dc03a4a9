/-
  Joined: SmeI.
-/
import Derived.Test.YthmgampabhbpoaaDoorC19
import Derived.Test.YthmgampabhbpoaaDoorC43
import Derived.Test.YthmgampabhbpoaaDoorC44
import Derived.Test.YthmgampabhbpoaaDoorC45

namespace Go.Proofs.YthmgampabhbpoaaDoor
set_option maxRecDepth 100000
set_option maxHeartbeats 16000000
open Go.RowKit
set_option linter.unusedVariables false
set_option linter.unusedSimpArgs false

theorem entrySame_is (e e':E3) (s s':Sl2) (w:World) (h:Emem w s e) (h':Emem w s' e') :
  Calls Tryd.prog 75 #[entV e.1 s,entV e'.1 s'] w fun x w'=>x=.returned (.bool (decide (e=e')))∧Below w.heap.size w w':=by
 obtain ⟨_,hB,hF,_⟩:=h
 obtain ⟨_,hB',hF',_⟩:=h'
 obtain ⟨k,eb,ez⟩:=e
 obtain ⟨k2,eb',ez'⟩:=e'
 obtain ⟨⟨a1,n1,c1⟩,⟨a2,n2,c2⟩⟩:=s
 obtain ⟨⟨b1,m1,d1⟩,⟨b2,m2,d2⟩⟩:=s'
 unfold entV
 simp only at *
 have kB:=fun W (hb:Below w.heap.size w W)=>eqlB_any a1 b1 n1 m1 c1 d1 eb eb' W (hB.below hb) (hB'.below hb)
 have kI:=fun W (hb:Below w.heap.size w W)=>eqlI_any a2 b2 n2 m2 c2 d2 ez ez' W (hF.below hb) (hF'.below hb)
 clear hB hF hB' hF'
 have bw:Below w.heap.size w ((w.alloc (.cells #[.string k,.slice a1 n1 c1,.slice a2 n2 c2] 30)).alloc (.cells #[.string k2,.slice b1 m1 d1,.slice b2 m2 d2] 30)):=by go_grown
 have pX:Blk ((w.alloc (.cells #[.string k,.slice a1 n1 c1,.slice a2 n2 c2] 30)).alloc (.cells #[.string k2,.slice b1 m1 d1,.slice b2 m2 d2] 30)) w.heap.size 30 [.string k,.slice a1 n1 c1,.slice a2 n2 c2]:=blkOld _ (blkAt _ _ _ rfl)
 have pY:Blk ((w.alloc (.cells #[.string k,.slice a1 n1 c1,.slice a2 n2 c2] 30)).alloc (.cells #[.string k2,.slice b1 m1 d1,.slice b2 m2 d2] 30)) (w.heap.size+1) 30 [.string k2,.slice b1 m1 d1,.slice b2 m2 d2]:=blkAt _ _ _ (by simp)
 obtain ⟨fin,hfin⟩:∃ fin,fin=decide ((k,eb,ez)=(k2,eb',ez')):=⟨_,rfl⟩
 rw [← hfin]
 have HF:Hid (fin=(decide (k=k2) && (decide (eb=eb') && decide (ez=ez')))):=by
  rw [Hid,hfin]
  simp only [Prod.mk.injEq,Bool.decide_and]
 clear hfin
 by_cases hk:k=k2
 ·subst hk
  have hke:(k.toList == k.toList)=true:=by simp
  rw [decide_eq_true rfl,Bool.true_and] at HF
  by_cases hb0:eb=eb'
  ·rw [decide_eq_true hb0] at HF kB
   rw [Bool.true_and] at HF
   clear hb0
   generalize decide (ez=ez')=u at *
   go_enter Tryd.func75,Tryd.ntmps75
   go_wp2_with fail
   generalize ((w.alloc (.cells #[.string k,.slice a1 n1 c1,.slice a2 n2 c2] 30)).alloc (.cells #[.string k,.slice b1 m1 d1,.slice b2 m2 d2] 30))=U at *
   refine (kB _ bw).mono ?_
   rintro x w1 ⟨rfl,hb⟩
   replace bw:=bel8 bw hb
   replace pX:=pX.below hb
   replace pY:=pY.below hb
   have x2:=pX.cell 2
   have y2:=pY.cell 2
   simp only [List.getElem?_cons_zero,List.getElem?_cons_succ] at x2 y2
   clear hb
   go_wp2_with fail
   refine (kI _ bw).mono ?_
   rintro x w2 ⟨rfl,hb⟩
   replace bw:=bel8 bw hb
   clear hb x2 y2 pX pY
   go_wp2
   go_ret
   exact ⟨by rw [HF.out];rfl,bw⟩
  ·rw [decide_eq_false hb0] at HF kB
   rw [Bool.false_and] at HF
   clear hb0 kI
   go_enter Tryd.func75,Tryd.ntmps75
   go_wp2_with fail
   refine (kB _ bw).mono ?_
   rintro x w1 ⟨rfl,hb⟩
   replace bw:=bel8 bw hb
   clear hb pX pY
   go_wp2
   go_ret
   exact ⟨by rw [HF.out];rfl,bw⟩
 ·have hke:(k.toList == k2.toList)=false:=by
   rw [beq_eq_false_iff_ne]
   exact fun h9=>hk (toList_inj9 h9)
  rw [decide_eq_false hk,Bool.false_and] at HF
  clear hk kB kI pX pY
  go_enter Tryd.func75,Tryd.ntmps75
  go_wp2
  go_ret
  exact ⟨by rw [HF.out];rfl,bw⟩

theorem equalFunc_is (a:Option Addr) (n c:Nat) (es:List E3) (a':Option Addr) (n' c':Nat) (es':List E3) (w:World) (h:Ents w a n c es) (h':Ents w a' n' c' es') :
  Calls Tryd.prog 74 #[.slice a n c,.slice a' n' c',.func (.func 75) #[] #[]] w fun x w'=>x=.returned (.bool (decide (es=es')))∧Below w.heap.size w w':=by
 have hl:=h.1
 have hl':=h'.1
 have hnm:n≤maxLen:=Nat.le_trans h.2.1 h.2.2.1
 unfold maxLen at hnm
 by_cases hnn:n=n'
 ·subst hnn
  have hne:((n:Int) != (n:Int))=false:=by simp
  obtain ⟨r,hr⟩:∃ r,r=decide (es=es'):=⟨_,rfl⟩
  rw [← hr]
  have HR:Hid (r=decide (es=es')):=hr
  clear hr
  go_enter Tryd.func74,Tryd.ntmps74
  go_wp2_with fail
  go_loopw [17] (fun si wr=>∃ k:Nat,k≤n∧si=.int .i64 k∧Hid (es.take k=es'.take k)∧Below w.heap.size w wr) (fun si _=>n - (intOf si).toNat)
  case atStart=>exact ⟨0,by omega,rfl,(by simp:es.take 0=es'.take 0),Below.refl _ _⟩
  case round =>
   obtain ⟨k,hk,rfl,HK,bw⟩:=hrel
   by_cases hlt:k<n
   ·obtain ⟨_,_,_,hcase⟩:=h.below bw
    obtain ⟨_,_,_,hcase'⟩:=h'.below bw
    rcases hcase with e0 | ⟨b,off,rfl,hb,hc⟩
    ·omega
    rcases hcase' with e0 | ⟨b',off',rfl,hb',hc'⟩
    ·omega
    obtain ⟨s,x0,x1,x2,hm⟩:=hc k hlt
    obtain ⟨s',y0,y1,y2,hm'⟩:=hc' k hlt
    clear hc hb hc' hb'
    have kE:=fun W (hb:Below wr.heap.size wr W)=>entrySame_is (es.getD k e3d) (es'.getD k e3d) s s' W (hm.below hb) (hm'.below hb)
    have ht:=take_snoc9 (es:=es) (k:=k) (by omega)
    have ht':=take_snoc9 (es:=es') (k:=k) (by omega)
    have HE:Hid (es=es'→es.getD k e3d=es'.getD k e3d):=fun h9=>by rw [h9]
    clear hm hm'
    generalize es.getD k e3d=x at *
    generalize es'.getD k e3d=y at *
    have HT:Hid (x=y→es.take (k+1)=es'.take (k+1)):=fun h9=>by rw [← ht,← ht',HK.out,h9]
    clear ht ht'
    by_cases hxy:x=y
    ·have HK2:Hid (es.take (k+1)=es'.take (k+1)):=HT.out hxy
     rw [decide_eq_true hxy] at kE
     clear HT HE hxy
     obtain ⟨k1,xb,xz⟩:=x
     obtain ⟨k2,yb,yz⟩:=y
     obtain ⟨⟨a1,n1,c1⟩,⟨a2,n2,c2⟩⟩:=s
     obtain ⟨⟨b1,m1,d1⟩,⟨b2,m2,d2⟩⟩:=s'
     unfold entV at kE
     simp only at x0 x1 x2 y0 y1 y2 kE
     have hlt':(k:Int)<(n:Int):=by omega
     have hk0:(0:Int)≤(k:Int):=by omega
     have bA:Below wr.heap.size wr (wr.alloc (.cells #[.string k1,.slice a1 n1 c1,.slice a2 n2 c2] 30)):=by go_grown
     replace y0:=cell8 bA y0
     replace y1:=cell8 bA y1
     replace y2:=cell8 bA y2
     clear bA
     go_wp2_with fail
     refine (kE _ (by go_grown)).mono ?_
     rintro e w1 ⟨rfl,hb1⟩
     have bw1:=bel8 bw (bel8 (by go_grown) hb1)
     clear hb1 x0 x1 x2 y0 y1 y2 kE HK
     go_wp2
     go_roundw
     case rel=>exact ⟨k+1,by omega,by go_num,HK2,bw1⟩
     case measure=>simp [intOf];omega
    ·have HF:Hid (r=false):=by rw [Hid,HR.out,decide_eq_false (fun h9=>hxy (HE.out h9))]
     rw [decide_eq_false hxy] at kE
     clear HT HE hxy HR
     obtain ⟨k1,xb,xz⟩:=x
     obtain ⟨k2,yb,yz⟩:=y
     obtain ⟨⟨a1,n1,c1⟩,⟨a2,n2,c2⟩⟩:=s
     obtain ⟨⟨b1,m1,d1⟩,⟨b2,m2,d2⟩⟩:=s'
     unfold entV at kE
     simp only at x0 x1 x2 y0 y1 y2 kE
     have hlt':(k:Int)<(n:Int):=by omega
     have hk0:(0:Int)≤(k:Int):=by omega
     have bA:Below wr.heap.size wr (wr.alloc (.cells #[.string k1,.slice a1 n1 c1,.slice a2 n2 c2] 30)):=by go_grown
     replace y0:=cell8 bA y0
     replace y1:=cell8 bA y1
     replace y2:=cell8 bA y2
     clear bA
     go_wp2_with fail
     refine (kE _ (by go_grown)).mono ?_
     rintro e w1 ⟨rfl,hb1⟩
     have bw1:=bel8 bw (bel8 (by go_grown) hb1)
     clear hb1 x0 x1 x2 y0 y1 y2 kE HK
     go_wp2
     go_ret
     exact ⟨by rw [HF.out];rfl,bw1⟩
   ·obtain rfl:k=n:=by omega
    have HF:Hid (r=true):=by
     rw [Hid,HR.out,decide_eq_true_iff]
     have:=HK.out
     rw [List.take_of_length_le (by omega),List.take_of_length_le (by omega)] at this
     exact this
    clear HK HR
    go_wp2
    go_ret
    exact ⟨by rw [HF.out];rfl,bw⟩
 ·have hne:((n:Int) != (n':Int))=true:=by simp;omega
  rw [decide_eq_false (fun h9=>hnn (by rw [← hl,← hl',h9]))]
  go_enter Tryd.func74,Tryd.ntmps74
  go_wp2
  go_ret
  exact ⟨rfl,Below.refl _ _⟩

def smeB (es es':List E3):Bool:=memOk es && (memOk es' && decide (es=es'))

theorem implSameMemo_is (a:Option Addr) (n c:Nat) (es:List E3) (a':Option Addr) (n' c':Nat) (es':List E3) (w:World) (h:Ents w a n c es) (h':Ents w a' n' c' es') (hV:VmShape w) :
  Calls Tryd.prog 33 #[.agg #[.slice a n c],.agg #[.slice a' n' c']] w fun x w'=>x=.returned (.bool (smeB es es'))∧Below w.heap.size w w':=by
 unfold smeB
 have kA:=fun W (hb:Below w.heap.size w W)=>implMemoOK_is a n c es W (h.below hb) (hV.below hb)
 have kB:=fun W (hb:Below w.heap.size w W)=>implMemoOK_is a' n' c' es' W (h'.below hb) (hV.below hb)
 have bw:Below w.heap.size w ((w.alloc (.cells #[.slice a n c] 41)).alloc (.cells #[.slice a' n' c'] 41)):=by go_grown
 have pM:Blk ((w.alloc (.cells #[.slice a n c] 41)).alloc (.cells #[.slice a' n' c'] 41)) w.heap.size 41 [.slice a n c]:=blkOld _ (blkAt _ _ _ rfl)
 have pN:Blk ((w.alloc (.cells #[.slice a n c] 41)).alloc (.cells #[.slice a' n' c'] 41)) (w.heap.size+1) 41 [.slice a' n' c']:=blkAt _ _ _ (by simp)
 have kE:=fun W (hb:Below w.heap.size w W)=>equalFunc_is a n c es a' n' c' es' W (h.below hb) (h'.below hb)
 clear h h' hV
 generalize decide (es=es')=u at *
 cases hA:memOk es
 ·rw [hA] at kA
  rw [Bool.false_and]
  clear kE kB hA
  go_enter Tryd.func33,Tryd.ntmps33
  go_wp2_with fail
  generalize ((w.alloc (.cells #[.slice a n c] 41)).alloc (.cells #[.slice a' n' c'] 41))=U at *
  refine (kA _ bw).mono ?_
  rintro x w1 ⟨rfl,hb⟩
  replace bw:=bel8 bw hb
  replace pM:=pM.below hb
  replace pN:=pN.below hb
  have g0:=pM.cell 0
  have g1:=pN.cell 0
  simp only [List.getElem?_cons_zero] at g0 g1
  clear hb kA
  go_wp2
  go_ret
  exact ⟨rfl,bw⟩
 ·rw [hA] at kA
  rw [Bool.true_and]
  clear hA
  cases hB:memOk es'
  ·rw [hB] at kB
   rw [Bool.false_and]
   clear kE hB
   go_enter Tryd.func33,Tryd.ntmps33
   go_wp2_with fail
   generalize ((w.alloc (.cells #[.slice a n c] 41)).alloc (.cells #[.slice a' n' c'] 41))=U at *
   refine (kA _ bw).mono ?_
   rintro x w1 ⟨rfl,hb⟩
   replace bw:=bel8 bw hb
   replace pM:=pM.below hb
   replace pN:=pN.below hb
   have g0:=pM.cell 0
   have g1:=pN.cell 0
   simp only [List.getElem?_cons_zero] at g0 g1
   clear hb kA
   go_wp2_with fail
   refine (kB _ bw).mono ?_
   rintro x w2 ⟨rfl,hb⟩
   replace bw:=bel8 bw hb
   replace pM:=pM.below hb
   replace pN:=pN.below hb
   replace g0:=pM.cell 0
   replace g1:=pN.cell 0
   simp only [List.getElem?_cons_zero] at g0 g1
   clear hb kB
   go_wp2
   go_ret
   exact ⟨rfl,bw⟩
  ·rw [hB] at kB
   rw [Bool.true_and]
   clear hB
   go_enter Tryd.func33,Tryd.ntmps33
   go_wp2_with fail
   generalize ((w.alloc (.cells #[.slice a n c] 41)).alloc (.cells #[.slice a' n' c'] 41))=U at *
   refine (kA _ bw).mono ?_
   rintro x w1 ⟨rfl,hb⟩
   replace bw:=bel8 bw hb
   replace pM:=pM.below hb
   replace pN:=pN.below hb
   have g0:=pM.cell 0
   have g1:=pN.cell 0
   simp only [List.getElem?_cons_zero] at g0 g1
   clear hb kA
   go_wp2_with fail
   refine (kB _ bw).mono ?_
   rintro x w2 ⟨rfl,hb⟩
   replace bw:=bel8 bw hb
   replace pM:=pM.below hb
   replace pN:=pN.below hb
   replace g0:=pM.cell 0
   replace g1:=pN.cell 0
   simp only [List.getElem?_cons_zero] at g0 g1
   clear hb kB
   go_wp2_with fail
   refine (kE _ bw).mono ?_
   rintro x w3 ⟨rfl,hb⟩
   replace bw:=bel8 bw hb
   clear hb g0 g1 pM pN kE
   go_wp2
   go_ret
   exact ⟨rfl,bw⟩

theorem specSameMemo_is (a:Option Addr) (n c:Nat) (es:List E3) (a':Option Addr) (n' c':Nat) (es':List E3) (w:World) (h:Ents w a n c es) (h':Ents w a' n' c' es') :
  Calls Tryd.prog 32 #[.agg #[.slice a n c],.agg #[.slice a' n' c']] w fun x w'=>x=.returned (.bool (smeB es es'))∧Below w.heap.size w w':=by
 unfold smeB
 have kA:=fun W (hb:Below w.heap.size w W)=>specMemoOK_is a n c es W (h.below hb)
 have kB:=fun W (hb:Below w.heap.size w W)=>specMemoOK_is a' n' c' es' W (h'.below hb)
 have bw:Below w.heap.size w ((w.alloc (.cells #[.slice a n c] 41)).alloc (.cells #[.slice a' n' c'] 41)):=by go_grown
 have pM:Blk ((w.alloc (.cells #[.slice a n c] 41)).alloc (.cells #[.slice a' n' c'] 41)) w.heap.size 41 [.slice a n c]:=blkOld _ (blkAt _ _ _ rfl)
 have pN:Blk ((w.alloc (.cells #[.slice a n c] 41)).alloc (.cells #[.slice a' n' c'] 41)) (w.heap.size+1) 41 [.slice a' n' c']:=blkAt _ _ _ (by simp)
 have hl:=h.1
 have hl':=h'.1
 cases hA:memOk es
 ·rw [hA] at kA
  rw [Bool.false_and]
  clear kB hA
  go_enter Tryd.func32,Tryd.ntmps32
  go_wp2_with fail
  generalize ((w.alloc (.cells #[.slice a n c] 41)).alloc (.cells #[.slice a' n' c'] 41))=U at *
  refine (kA _ bw).mono ?_
  rintro x w1 ⟨rfl,hb⟩
  replace bw:=bel8 bw hb
  replace pM:=pM.below hb
  replace pN:=pN.below hb
  have g0:=pM.cell 0
  have g1:=pN.cell 0
  simp only [List.getElem?_cons_zero] at g0 g1
  clear hb kA
  go_wp2
  go_ret
  exact ⟨rfl,bw⟩
 ·rw [hA] at kA
  rw [Bool.true_and]
  cases hB:memOk es'
  ·rw [hB] at kB
   rw [Bool.false_and]
   clear hA hB
   go_enter Tryd.func32,Tryd.ntmps32
   go_wp2_with fail
   generalize ((w.alloc (.cells #[.slice a n c] 41)).alloc (.cells #[.slice a' n' c'] 41))=U at *
   refine (kA _ bw).mono ?_
   rintro x w1 ⟨rfl,hb⟩
   replace bw:=bel8 bw hb
   replace pM:=pM.below hb
   replace pN:=pN.below hb
   have g0:=pM.cell 0
   have g1:=pN.cell 0
   simp only [List.getElem?_cons_zero] at g0 g1
   clear hb kA
   go_wp2_with fail
   refine (kB _ bw).mono ?_
   rintro x w2 ⟨rfl,hb⟩
   replace bw:=bel8 bw hb
   replace pM:=pM.below hb
   replace pN:=pN.below hb
   replace g0:=pM.cell 0
   replace g1:=pN.cell 0
   simp only [List.getElem?_cons_zero] at g0 g1
   clear hb kB
   go_wp2
   go_ret
   exact ⟨rfl,bw⟩
  ·rw [hB] at kB
   rw [Bool.true_and]
   have hn2:n≤2000:=by have:=memOk_len hA;omega
   by_cases hnn:n=n'
   ·subst hnn
    have hne:((n:Int) != (n:Int))=false:=by simp
    obtain ⟨r,hr⟩:∃ r,r=decide (es=es'):=⟨_,rfl⟩
    rw [← hr]
    have HR:Hid (r=decide (es=es')):=hr
    clear hr
    go_enter Tryd.func32,Tryd.ntmps32
    go_wp2_with fail
    generalize ((w.alloc (.cells #[.slice a n c] 41)).alloc (.cells #[.slice a' n c'] 41))=U at *
    refine (kA _ bw).mono ?_
    rintro x w1 ⟨rfl,hb⟩
    replace bw:=bel8 bw hb
    replace pM:=pM.below hb
    replace pN:=pN.below hb
    have g0:=pM.cell 0
    have g1:=pN.cell 0
    simp only [List.getElem?_cons_zero] at g0 g1
    clear hb kA
    go_wp2_with fail
    refine (kB _ bw).mono ?_
    rintro x w2 ⟨rfl,hb⟩
    replace bw:=bel8 bw hb
    replace pM:=pM.below hb
    replace pN:=pN.below hb
    replace g0:=pM.cell 0
    replace g1:=pN.cell 0
    simp only [List.getElem?_cons_zero] at g0 g1
    clear hb kB
    go_wp2_with fail
    go_loopw [5] (fun si wr=>∃ k:Nat,k≤n∧si=.int .i64 k∧Hid (es.take k=es'.take k)∧Below w.heap.size w wr∧wr.cell? ⟨w.heap.size,0,none⟩=some (.slice a n c)∧wr.cell? ⟨w.heap.size+1,0,none⟩=some (.slice a' n c')) (fun si _=>n - (intOf si).toNat)
    case atStart=>exact ⟨0,by omega,rfl,(by simp:es.take 0=es'.take 0),bw,g0,g1⟩
    case round =>
     clear bw g0 g1 pM pN
     obtain ⟨k,hk,rfl,HK,bw,g0,g1⟩:=hrel
     by_cases hlt:k<n
     ·have hq:=h.below bw
      have hq':=h'.below bw
      obtain ⟨_,_,_,hcase⟩:=hq
      obtain ⟨_,_,_,hcase'⟩:=hq'
      rcases hcase with e0 | ⟨b,off,rfl,hb,hc⟩
      ·omega
      rcases hcase' with e0 | ⟨b',off',rfl,hb',hc'⟩
      ·omega
      obtain ⟨s,x0,x1,x2,hm⟩:=hc k hlt
      obtain ⟨s',y0,y1,y2,hm'⟩:=hc' k hlt
      clear hc hb hc' hb'
      have ox:=memOk_ent hA (i:=k) (by omega)
      have oy:=memOk_ent hB (i:=k) (by omega)
      have kX:=fun W (hb:Below wr.heap.size wr W)=>l10Text_is (es.getD k e3d) s W (hm.below hb) ox
      have kY:=fun W (hb:Below wr.heap.size wr W)=>l10Text_is (es'.getD k e3d) s' W (hm'.below hb) oy
      have ht:=take_snoc9 (es:=es) (k:=k) (by omega)
      have ht':=take_snoc9 (es:=es') (k:=k) (by omega)
      have HE:Hid (es=es'→es.getD k e3d=es'.getD k e3d):=fun h9=>by rw [h9]
      have hinj:txtE (es.getD k e3d)=txtE (es'.getD k e3d)↔es.getD k e3d=es'.getD k e3d:=⟨txtE_inj ox oy,fun h9=>by rw [h9]⟩
      clear hm hm' ox oy
      generalize es.getD k e3d=x at *
      generalize es'.getD k e3d=y at *
      have HT:Hid (x=y→es.take (k+1)=es'.take (k+1)):=fun h9=>by rw [← ht,← ht',HK.out,h9]
      clear ht ht'
      generalize txtE x=tx at *
      generalize txtE y=ty at *
      by_cases hxy:x=y
      ·have HK2:Hid (es.take (k+1)=es'.take (k+1)):=HT.out hxy
       have htt:=hinj.2 hxy
       have hne9:(tx.toList == ty.toList)=true:=by rw [htt];simp
       clear HT HE hinj hxy htt HK
       obtain ⟨k2,yb,yz⟩:=y
       obtain ⟨k1,xb,xz⟩:=x
       obtain ⟨⟨a1,n1,c1⟩,⟨a2,n2,c2⟩⟩:=s
       obtain ⟨⟨b1,m1,d1⟩,⟨b2,m2,d2⟩⟩:=s'
       unfold entV at kX kY
       simp only at x0 x1 x2 y0 y1 y2 kX kY
       have hlt':(k:Int)<(n:Int):=by omega
       have hk0:(0:Int)≤(k:Int):=by omega
       have bd:Below wr.heap.size wr wr.drew:=by go_grown
       go_wp2_with fail
       refine wp_region_held_drew (S:=(fun w'=>w'.cell? ⟨w.heap.size,0,none⟩=some (.slice (some ⟨b,off,none⟩) n c)∧w'.cell? ⟨w.heap.size+1,0,none⟩=some (.slice (some ⟨b',off',none⟩) n c')∧w'.cell? ⟨b,off+k*3,none⟩=some (.string k1)∧w'.cell? ⟨b,off+k*3+1,none⟩=some (.slice a1 n1 c1)∧w'.cell? ⟨b,off+k*3+2,none⟩=some (.slice a2 n2 c2)∧w'.cell? ⟨b',off'+k*3,none⟩=some (.string k2)∧w'.cell? ⟨b',off'+k*3+1,none⟩=some (.slice b1 m1 d1)∧w'.cell? ⟨b',off'+k*3+2,none⟩=some (.slice b2 m2 d2))) (by kernel_rfl) ⟨g0,g1,x0,x1,x2,y0,y1,y2⟩ (fun hS0=>?_)
       refine tkx 0 30 (.pointer (some ⟨w.heap.size,0,none⟩)) ?_ ?_
       ·(intro w' hSw;(try dsimp only at hSw);go_simp;first | done | rfl | omega | (intro h9;omega) | (rw [IntKind.wrap_i64];omega))
       simp only [Act.put,tka,tkb,tkc]
       refine tkx 1 31 (.slice (some ⟨b,off,none⟩) n c) ?_ ?_
       ·(intro w' hSw;(try dsimp only at hSw);go_simp;first | done | rfl | omega | (intro h9;omega) | (rw [IntKind.wrap_i64];omega))
       simp only [Act.put,tka,tkb,tkc]
       refine tkx 2 32 (.int .i64 (k:Int)) ?_ ?_
       ·(intro w' hSw;(try dsimp only at hSw);go_simp;first | done | rfl | omega | (intro h9;omega) | (rw [IntKind.wrap_i64];omega))
       simp only [Act.put,tka,tkb,tkc]
       refine tkx 3 33 (.pointer (some ⟨b,off+k*3,none⟩)) ?_ ?_
       ·(intro w' hSw;(try dsimp only at hSw);go_simp;first | done | rfl | omega | (intro h9;omega) | (rw [IntKind.wrap_i64];omega))
       simp only [Act.put,tka,tkb,tkc]
       refine tkx 4 34 (.agg #[.string k1,.slice a1 n1 c1,.slice a2 n2 c2]) ?_ ?_
       ·(intro w' hSw;(try dsimp only at hSw);go_simp;first | done | rfl | omega | (intro h9;omega) | (rw [IntKind.wrap_i64];omega))
       simp only [Act.put,tka,tkb,tkc]
       refine tkx 6 36 (.pointer (some ⟨w.heap.size+1,0,none⟩)) ?_ ?_
       ·(intro w' hSw;(try dsimp only at hSw);go_simp;first | done | rfl | omega | (intro h9;omega) | (rw [IntKind.wrap_i64];omega))
       simp only [Act.put,tka,tkb,tkc]
       refine tkx 7 37 (.slice (some ⟨b',off',none⟩) n c') ?_ ?_
       ·(intro w' hSw;(try dsimp only at hSw);go_simp;first | done | rfl | omega | (intro h9;omega) | (rw [IntKind.wrap_i64];omega))
       simp only [Act.put,tka,tkb,tkc]
       refine tkx 8 38 (.int .i64 (k:Int)) ?_ ?_
       ·(intro w' hSw;(try dsimp only at hSw);go_simp;first | done | rfl | omega | (intro h9;omega) | (rw [IntKind.wrap_i64];omega))
       simp only [Act.put,tka,tkb,tkc]
       refine tkx 9 39 (.pointer (some ⟨b',off'+k*3,none⟩)) ?_ ?_
       ·(intro w' hSw;(try dsimp only at hSw);go_simp;first | done | rfl | omega | (intro h9;omega) | (rw [IntKind.wrap_i64];omega))
       simp only [Act.put,tka,tkb,tkc]
       refine tkx 10 40 (.agg #[.string k2,.slice b1 m1 d1,.slice b2 m2 d2]) ?_ ?_
       ·(intro w' hSw;(try dsimp only at hSw);go_simp;first | done | rfl | omega | (intro h9;omega) | (rw [IntKind.wrap_i64];omega))
       simp only [Act.put,tka,tkb,tkc]
       refine tkr 5 35 (fun K hK=>?_)
       go_simp
       refine (kX _ bd).mono ?_
       rintro e w5 ⟨rfl,hb5⟩
       go_wp2_with fail
       refine hK.out _ _ ?_ (fun hS5=>?_)
       ·exact ⟨cells_kept hb5 _ _ hS0.1,cells_kept hb5 _ _ hS0.2.1,cells_kept hb5 _ _ hS0.2.2.1,cells_kept hb5 _ _ hS0.2.2.2.1,cells_kept hb5 _ _ hS0.2.2.2.2.1,cells_kept hb5 _ _ hS0.2.2.2.2.2.1,cells_kept hb5 _ _ hS0.2.2.2.2.2.2.1,cells_kept hb5 _ _ hS0.2.2.2.2.2.2.2⟩
       clear hK
       refine tkr 11 41 (fun K hK=>?_)
       go_simp
       refine (kY _ (bel8 bd hb5)).mono ?_
       rintro e w6 ⟨rfl,hb6⟩
       go_wp2_with fail
       refine hK.out _ _ ?_ (fun hS6=>?_)
       ·exact ⟨cells_kept hb6 _ _ hS5.1,cells_kept hb6 _ _ hS5.2.1,cells_kept hb6 _ _ hS5.2.2.1,cells_kept hb6 _ _ hS5.2.2.2.1,cells_kept hb6 _ _ hS5.2.2.2.2.1,cells_kept hb6 _ _ hS5.2.2.2.2.2.1,cells_kept hb6 _ _ hS5.2.2.2.2.2.2.1,cells_kept hb6 _ _ hS5.2.2.2.2.2.2.2⟩
       clear hK
       refine tkx 12 42 (.bool false) ?_ ?_
       ·(intro w' hSw;(try dsimp only at hSw);go_simp;first | done | rfl | omega | (intro h9;omega) | (rw [IntKind.wrap_i64];omega))
       simp only [Act.put,tka,tkb,tkc]
       refine wpAnyH_done (by kernel_rfl) ?_ _
       have bw1:=bel8 bw (bel8 (bel8 bd hb5) hb6)
       have gm0:=hS6.1
       have gm1:=hS6.2.1
       clear hS0 hS5 hS6 hb5 hb6 bd x0 x1 x2 y0 y1 y2 kX kY g0 g1
       go_wp2
       go_roundw
       case rel=>exact ⟨k+1,by omega,by go_num,HK2,bw1,gm0,gm1⟩
       case measure=>simp [intOf];omega
      ·have HF:Hid (r=false):=by rw [Hid,HR.out,decide_eq_false (fun h9=>hxy (HE.out h9))]
       have hne9:(tx.toList == ty.toList)=false:=by
        rw [beq_eq_false_iff_ne]
        exact fun h9=>hxy (hinj.1 (toList_inj9 h9))
       clear HT HE hinj hxy HK HR
       obtain ⟨k2,yb,yz⟩:=y
       obtain ⟨k1,xb,xz⟩:=x
       obtain ⟨⟨a1,n1,c1⟩,⟨a2,n2,c2⟩⟩:=s
       obtain ⟨⟨b1,m1,d1⟩,⟨b2,m2,d2⟩⟩:=s'
       unfold entV at kX kY
       simp only at x0 x1 x2 y0 y1 y2 kX kY
       have hlt':(k:Int)<(n:Int):=by omega
       have hk0:(0:Int)≤(k:Int):=by omega
       have bd:Below wr.heap.size wr wr.drew:=by go_grown
       go_wp2_with fail
       refine wp_region_held_drew (S:=(fun w'=>w'.cell? ⟨w.heap.size,0,none⟩=some (.slice (some ⟨b,off,none⟩) n c)∧w'.cell? ⟨w.heap.size+1,0,none⟩=some (.slice (some ⟨b',off',none⟩) n c')∧w'.cell? ⟨b,off+k*3,none⟩=some (.string k1)∧w'.cell? ⟨b,off+k*3+1,none⟩=some (.slice a1 n1 c1)∧w'.cell? ⟨b,off+k*3+2,none⟩=some (.slice a2 n2 c2)∧w'.cell? ⟨b',off'+k*3,none⟩=some (.string k2)∧w'.cell? ⟨b',off'+k*3+1,none⟩=some (.slice b1 m1 d1)∧w'.cell? ⟨b',off'+k*3+2,none⟩=some (.slice b2 m2 d2))) (by kernel_rfl) ⟨g0,g1,x0,x1,x2,y0,y1,y2⟩ (fun hS0=>?_)
       refine tkx 0 30 (.pointer (some ⟨w.heap.size,0,none⟩)) ?_ ?_
       ·(intro w' hSw;(try dsimp only at hSw);go_simp;first | done | rfl | omega | (intro h9;omega) | (rw [IntKind.wrap_i64];omega))
       simp only [Act.put,tka,tkb,tkc]
       refine tkx 1 31 (.slice (some ⟨b,off,none⟩) n c) ?_ ?_
       ·(intro w' hSw;(try dsimp only at hSw);go_simp;first | done | rfl | omega | (intro h9;omega) | (rw [IntKind.wrap_i64];omega))
       simp only [Act.put,tka,tkb,tkc]
       refine tkx 2 32 (.int .i64 (k:Int)) ?_ ?_
       ·(intro w' hSw;(try dsimp only at hSw);go_simp;first | done | rfl | omega | (intro h9;omega) | (rw [IntKind.wrap_i64];omega))
       simp only [Act.put,tka,tkb,tkc]
       refine tkx 3 33 (.pointer (some ⟨b,off+k*3,none⟩)) ?_ ?_
       ·(intro w' hSw;(try dsimp only at hSw);go_simp;first | done | rfl | omega | (intro h9;omega) | (rw [IntKind.wrap_i64];omega))
       simp only [Act.put,tka,tkb,tkc]
       refine tkx 4 34 (.agg #[.string k1,.slice a1 n1 c1,.slice a2 n2 c2]) ?_ ?_
       ·(intro w' hSw;(try dsimp only at hSw);go_simp;first | done | rfl | omega | (intro h9;omega) | (rw [IntKind.wrap_i64];omega))
       simp only [Act.put,tka,tkb,tkc]
       refine tkx 6 36 (.pointer (some ⟨w.heap.size+1,0,none⟩)) ?_ ?_
       ·(intro w' hSw;(try dsimp only at hSw);go_simp;first | done | rfl | omega | (intro h9;omega) | (rw [IntKind.wrap_i64];omega))
       simp only [Act.put,tka,tkb,tkc]
       refine tkx 7 37 (.slice (some ⟨b',off',none⟩) n c') ?_ ?_
       ·(intro w' hSw;(try dsimp only at hSw);go_simp;first | done | rfl | omega | (intro h9;omega) | (rw [IntKind.wrap_i64];omega))
       simp only [Act.put,tka,tkb,tkc]
       refine tkx 8 38 (.int .i64 (k:Int)) ?_ ?_
       ·(intro w' hSw;(try dsimp only at hSw);go_simp;first | done | rfl | omega | (intro h9;omega) | (rw [IntKind.wrap_i64];omega))
       simp only [Act.put,tka,tkb,tkc]
       refine tkx 9 39 (.pointer (some ⟨b',off'+k*3,none⟩)) ?_ ?_
       ·(intro w' hSw;(try dsimp only at hSw);go_simp;first | done | rfl | omega | (intro h9;omega) | (rw [IntKind.wrap_i64];omega))
       simp only [Act.put,tka,tkb,tkc]
       refine tkx 10 40 (.agg #[.string k2,.slice b1 m1 d1,.slice b2 m2 d2]) ?_ ?_
       ·(intro w' hSw;(try dsimp only at hSw);go_simp;first | done | rfl | omega | (intro h9;omega) | (rw [IntKind.wrap_i64];omega))
       simp only [Act.put,tka,tkb,tkc]
       refine tkr 5 35 (fun K hK=>?_)
       go_simp
       refine (kX _ bd).mono ?_
       rintro e w5 ⟨rfl,hb5⟩
       go_wp2_with fail
       refine hK.out _ _ ?_ (fun hS5=>?_)
       ·exact ⟨cells_kept hb5 _ _ hS0.1,cells_kept hb5 _ _ hS0.2.1,cells_kept hb5 _ _ hS0.2.2.1,cells_kept hb5 _ _ hS0.2.2.2.1,cells_kept hb5 _ _ hS0.2.2.2.2.1,cells_kept hb5 _ _ hS0.2.2.2.2.2.1,cells_kept hb5 _ _ hS0.2.2.2.2.2.2.1,cells_kept hb5 _ _ hS0.2.2.2.2.2.2.2⟩
       clear hK
       refine tkr 11 41 (fun K hK=>?_)
       go_simp
       refine (kY _ (bel8 bd hb5)).mono ?_
       rintro e w6 ⟨rfl,hb6⟩
       go_wp2_with fail
       refine hK.out _ _ ?_ (fun hS6=>?_)
       ·exact ⟨cells_kept hb6 _ _ hS5.1,cells_kept hb6 _ _ hS5.2.1,cells_kept hb6 _ _ hS5.2.2.1,cells_kept hb6 _ _ hS5.2.2.2.1,cells_kept hb6 _ _ hS5.2.2.2.2.1,cells_kept hb6 _ _ hS5.2.2.2.2.2.1,cells_kept hb6 _ _ hS5.2.2.2.2.2.2.1,cells_kept hb6 _ _ hS5.2.2.2.2.2.2.2⟩
       clear hK
       refine tkx 12 42 (.bool true) ?_ ?_
       ·(intro w' hSw;(try dsimp only at hSw);go_simp;first | done | rfl | omega | (intro h9;omega) | (rw [IntKind.wrap_i64];omega))
       simp only [Act.put,tka,tkb,tkc]
       refine wpAnyH_done (by kernel_rfl) ?_ _
       have bw1:=bel8 bw (bel8 (bel8 bd hb5) hb6)
       have gm0:=hS6.1
       have gm1:=hS6.2.1
       clear hS0 hS5 hS6 hb5 hb6 bd x0 x1 x2 y0 y1 y2 kX kY g0 g1
       go_wp2
       go_ret
       exact ⟨by rw [HF.out];rfl,bw1⟩
     ·obtain rfl:k=n:=by omega
      have HF:Hid (r=true):=by
       rw [Hid,HR.out,decide_eq_true_iff]
       have:=HK.out
       rw [List.take_of_length_le (by omega),List.take_of_length_le (by omega)] at this
       exact this
      have hlt':¬ (k:Int)<(k:Int):=by omega
      clear HK HR
      go_wp2
      go_ret
      exact ⟨by rw [HF.out];rfl,bw⟩
   ·have hne:((n:Int) != (n':Int))=true:=by simp;omega
    rw [decide_eq_false (fun h9=>hnn (by rw [← hl,← hl',h9]))]
    clear hA hB
    go_enter Tryd.func32,Tryd.ntmps32
    go_wp2_with fail
    generalize ((w.alloc (.cells #[.slice a n c] 41)).alloc (.cells #[.slice a' n' c'] 41))=U at *
    refine (kA _ bw).mono ?_
    rintro x w1 ⟨rfl,hb⟩
    replace bw:=bel8 bw hb
    replace pM:=pM.below hb
    replace pN:=pN.below hb
    have g0:=pM.cell 0
    have g1:=pN.cell 0
    simp only [List.getElem?_cons_zero] at g0 g1
    clear hb kA
    go_wp2_with fail
    refine (kB _ bw).mono ?_
    rintro x w2 ⟨rfl,hb⟩
    replace bw:=bel8 bw hb
    replace pM:=pM.below hb
    replace pN:=pN.below hb
    replace g0:=pM.cell 0
    replace g1:=pN.cell 0
    simp only [List.getElem?_cons_zero] at g0 g1
    clear hb kB
    go_wp2
    go_ret
    exact ⟨rfl,bw⟩
end Go.Proofs.YthmgampabhbpoaaDoor
