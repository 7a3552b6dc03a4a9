/-
  Joined: EqlB, SmeI.
-/
import Derived.Laws.StructEq
import Derived.Test.YtgmhhegckcionaaGreatDoorP33
import Derived.Test.YtgmhhegckcionaaGreatDoorP35
import Derived.Test.YtgmhhegckcionaaGreatDoorP39

namespace Go.Proofs.YtgmhhegckcionaaGreatDoor
set_option maxRecDepth 100000
set_option maxHeartbeats 16000000
open Go.RowKit

theorem bel_drewN9 (w:World) (n:Nat):Below w.heap.size w (w.drewN n):=⟨rfl,rfl,rfl,Nat.le_refl _,fun _ _=>rfl⟩

theorem eqlB_is (a a':Option Addr) (len len' cap cap':Nat) (xs ys:List I3) (w:World) (h:Instrs w a len cap xs) (h':Instrs w a' len' cap' ys) (hlen:len=len') (hpos:len≠0) :
  Calls Tryz.prog 69 #[.slice a len cap,.slice a' len' cap'] w fun e w'=>e=.returned (.bool (decide (xs=ys)))∧Below w.heap.size w w':=by
 subst hlen
 obtain ⟨hl,hlc,hcm,_,hcase⟩:=h
 obtain ⟨hl',hlc',hcm',_,hcase'⟩:=h'
 unfold maxLen at hcm hcm'
 rcases hcase with h0' | ⟨b,off,rfl,hblt,hcell⟩
 ·exact absurd h0' hpos
 rcases hcase' with h0' | ⟨b',off',rfl,hblt',hcell'⟩
 ·exact absurd h0' hpos
 have hne:((len:Int) != (len:Int))=false:=by simp
 go_enter Tryz.func69,Tryz.ntmps69
 go_wp2
 go_loopw [13] (fun si wr=>∃ (k:Nat),k≤len∧si=.int .i64 k∧xs.take k=ys.take k∧Below w.heap.size w wr) (fun si _=>len - (intOf si).toNat)
 case atStart=>exact ⟨0,by omega,rfl,by simp,Below.refl _ _⟩
 case round =>
  obtain ⟨k,hk,rfl,hH,hbel⟩:=hrel
  have hH':Hid (xs.take k=ys.take k):=hH
  clear hH
  by_cases hlt:k<len
  ·obtain ⟨c0,c1,c2⟩:=hcell k hlt
   obtain ⟨e0,e1,e2⟩:=hcell' k hlt
   rw [← hbel.cell (p:=⟨b,_,none⟩) hblt] at c0 c1 c2
   rw [← hbel.cell (p:=⟨b',_,none⟩) hblt'] at e0 e1 e2
   have hlt':(k:Int)<(len:Int):=by omega
   have hk0:(0:Int)≤(k:Int):=by omega
   have hxg:Hid (xs.getD k (0,0,0)=xs[k]'(by omega)∧ys.getD k (0,0,0)=ys[k]'(by omega)):=⟨by simp [List.getD,hl,hlt],by simp [List.getD,hl',hlt]⟩
   by_cases hxy:xs.getD k (0,0,0)=ys.getD k (0,0,0)
   ·have hH2:Hid (xs.take (k+1)=ys.take (k+1)):=by
     rw [Hid,List.take_succ_eq_append_getElem (by omega),List.take_succ_eq_append_getElem (by omega),hH'.out,← hxg.out.1,← hxg.out.2,hxy]
    rw [← hxy] at e0 e1 e2
    clear hcell hcell' hxg hxy hH'
    generalize xs.getD k (0,0,0)=x at c0 c1 c2 e0 e1 e2
    obtain ⟨x0,x1,x2⟩:=x
    simp only [] at c0 c1 c2 e0 e1 e2
    go_wp2_with fail
    go_quiet (fail)
    have hb2:Below w.heap.size w (wr.drewN nq):=bel_trans hbel (bel_drewN9 _ _)
    go_wp2
    go_roundw
    case rel=>exact ⟨k+1,by omega,by go_num,hH2.out,hb2⟩
    case measure=>simp [intOf];omega
   ·have hff:Hid (decide (xs=ys)=false):=by
     rw [Hid,decide_eq_false_iff_not]
     intro h
     subst h
     exact hxy rfl
    clear hcell hcell' hxg hH'
    generalize xs.getD k (0,0,0)=x at c0 c1 c2 hxy
    generalize ys.getD k (0,0,0)=y at e0 e1 e2 hxy
    obtain ⟨x0,x1,x2⟩:=x
    obtain ⟨y0,y1,y2⟩:=y
    simp only [] at c0 c1 c2 e0 e1 e2
    have hb2:∀ nq,Below w.heap.size w (wr.drewN nq):=fun nq=>bel_trans hbel (bel_drewN9 _ _)
    by_cases h0:x0=y0
    ·subst h0
     by_cases h1:x1=y1
     ·subst h1
      have h2:(x2 == y2)=false:=by
       simp only [beq_eq_false_iff_ne]
       intro h
       exact hxy (by rw [h])
      clear hxy
      go_wp2_with fail
      go_quiet (fail)
      go_wp2
      go_ret
      exact ⟨by rw [hff.out];rfl,hb2 _⟩
     ·have h1':(x1 == y1)=false:=by simpa using h1
      clear hxy
      go_wp2_with fail
      go_quiet (fail)
      go_wp2
      go_ret
      exact ⟨by rw [hff.out];rfl,hb2 _⟩
    ·have h0':(x0 == y0)=false:=by simpa using h0
     clear hxy
     go_wp2_with fail
     go_quiet (fail)
     go_wp2
     go_ret
     exact ⟨by rw [hff.out];rfl,hb2 _⟩
  ·obtain rfl:k=len:=by omega
   have hff:decide (xs=ys)=true:=by
    have:=hH'.out
    rw [List.take_of_length_le (by omega),List.take_of_length_le (by omega)] at this
    simpa using this
   clear hcell hcell' hH'
   go_wp2
   go_ret
   exact ⟨by rw [hff];rfl,hbel⟩

theorem eqlB_lens (a a':Option Addr) (len len' cap cap':Nat) (w:World) (hlen:len≠len') :
  Calls Tryz.prog 69 #[.slice a len cap,.slice a' len' cap'] w fun e w'=>e=.returned (.bool false)∧Below w.heap.size w w':=by
 have hne:((len:Int) != (len':Int))=true:=by simp;omega
 go_enter Tryz.func69,Tryz.ntmps69
 go_wp2
 go_ret
 exact ⟨rfl,Below.refl _ _⟩
theorem eqlB_none (a a':Option Addr) (cap cap':Nat) (w:World) :
  Calls Tryz.prog 69 #[.slice a 0 cap,.slice a' 0 cap'] w fun e w'=>e=.returned (.bool true)∧Below w.heap.size w w':=by
 go_enter Tryz.func69,Tryz.ntmps69
 go_wp2
 refine wp_loop_rounds 1 ?_
 rw [rounds_succ]
 go_wp2
 go_ret
 exact ⟨rfl,Below.refl _ _⟩
theorem eqlB_any (a a':Option Addr) (len len' cap cap':Nat) (xs ys:List I3) (w:World) (h:Instrs w a len cap xs) (h':Instrs w a' len' cap' ys) :
  Calls Tryz.prog 69 #[.slice a len cap,.slice a' len' cap'] w fun e w'=>e=.returned (.bool (decide (xs=ys)))∧Below w.heap.size w w':=by
 by_cases hl:len=len'
 ·by_cases h0:len=0
  ·subst h0
   subst hl
   obtain rfl:xs=[]:=List.length_eq_zero_iff.1 h.1
   obtain rfl:ys=[]:=List.length_eq_zero_iff.1 h'.1
   simpa using eqlB_none a a' cap cap' w
  ·exact eqlB_is a a' len len' cap cap' xs ys w h h' hl h0
 ·have hd:decide (xs=ys)=false:=by
   rw [decide_eq_false_iff_not]
   intro e
   subst e
   exact hl (h.1.symm.trans h'.1)
  rw [hd]
  exact eqlB_lens a a' len len' cap cap' w hl
theorem eqlI_lens (a a':Option Addr) (len len' cap cap':Nat) (w:World) (hlen:len≠len') :
  Calls Tryz.prog 70 #[.slice a len cap,.slice a' len' cap'] w fun e w'=>e=.returned (.bool false)∧Below w.heap.size w w':=by
 have hne:((len:Int) != (len':Int))=true:=by simp;omega
 go_enter Tryz.func70,Tryz.ntmps70
 go_wp2
 go_ret
 exact ⟨rfl,Below.refl _ _⟩
theorem eqlI_none (a a':Option Addr) (cap cap':Nat) (w:World) :
  Calls Tryz.prog 70 #[.slice a 0 cap,.slice a' 0 cap'] w fun e w'=>e=.returned (.bool true)∧Below w.heap.size w w':=by
 go_enter Tryz.func70,Tryz.ntmps70
 go_wp2
 refine wp_loop_rounds 1 ?_
 rw [rounds_succ]
 go_wp2
 go_ret
 exact ⟨rfl,Below.refl _ _⟩
theorem eqlI_any (a a':Option Addr) (len len' cap cap':Nat) (xs ys:List Int) (w:World) (h:Ints .i64 w a len cap xs) (h':Ints .i64 w a' len' cap' ys) :
  Calls Tryz.prog 70 #[.slice a len cap,.slice a' len' cap'] w fun e w'=>e=.returned (.bool (decide (xs=ys)))∧Below w.heap.size w w':=by
 by_cases hl:len=len'
 ·by_cases h0:len=0
  ·subst h0
   subst hl
   obtain rfl:xs=[]:=List.length_eq_zero_iff.1 h.1
   obtain rfl:ys=[]:=List.length_eq_zero_iff.1 h'.1
   simpa using eqlI_none a a' cap cap' w
  ·exact (by subst hl;exact equalI_is a a' len cap cap' xs ys w h h' h0)
 ·have hd:decide (xs=ys)=false:=by
   rw [decide_eq_false_iff_not]
   intro e
   subst e
   exact hl (h.1.symm.trans h'.1)
  rw [hd]
  exact eqlI_lens a a' len len' cap cap' w hl

set_option linter.unusedVariables false
set_option linter.unusedSimpArgs false

theorem entrySame_is (e e':E3) (s s':Sl2) (w:World) (h:Emem w s e) (h':Emem w s' e') :
  Calls Tryz.prog 36 #[entV e.1 s,entV e'.1 s'] w fun x w'=>x=.returned (.bool (decide (e=e')))∧Below w.heap.size w w':=by
 obtain ⟨_,hB,hF,_⟩:=h
 obtain ⟨_,hB',hF',_⟩:=h'
 obtain ⟨k,eb,ez⟩:=e
 obtain ⟨k2,eb',ez'⟩:=e'
 obtain ⟨⟨a1,n1,c1⟩,⟨a2,n2,c2⟩⟩:=s
 obtain ⟨⟨b1,m1,d1⟩,⟨b2,m2,d2⟩⟩:=s'
 unfold entV
 simp only at *
 have kB:=fun W (hb:Below w.heap.size w W)=>eqlB_any a1 b1 n1 m1 c1 d1 eb eb' W (hB.below hb) (hB'.below hb)
 have kI:=fun W (hb:Below w.heap.size w W)=>eqlI_any a2 b2 n2 m2 c2 d2 ez ez' W (hF.below hb) (hF'.below hb)
 clear hB hF hB' hF'
 have bw:Below w.heap.size w ((w.alloc (.cells #[.string k,.slice a1 n1 c1,.slice a2 n2 c2] 45)).alloc (.cells #[.string k2,.slice b1 m1 d1,.slice b2 m2 d2] 45)):=by go_grown
 have pX:Blk ((w.alloc (.cells #[.string k,.slice a1 n1 c1,.slice a2 n2 c2] 45)).alloc (.cells #[.string k2,.slice b1 m1 d1,.slice b2 m2 d2] 45)) w.heap.size 45 [.string k,.slice a1 n1 c1,.slice a2 n2 c2]:=blkOld _ (blkAt _ _ _ rfl)
 have pY:Blk ((w.alloc (.cells #[.string k,.slice a1 n1 c1,.slice a2 n2 c2] 45)).alloc (.cells #[.string k2,.slice b1 m1 d1,.slice b2 m2 d2] 45)) (w.heap.size+1) 45 [.string k2,.slice b1 m1 d1,.slice b2 m2 d2]:=blkAt _ _ _ (by simp)
 obtain ⟨fin,hfin⟩:∃ fin,fin=decide ((k,eb,ez)=(k2,eb',ez')):=⟨_,rfl⟩
 rw [← hfin]
 have HF:Hid (fin=(decide (k=k2) && (decide (eb=eb') && decide (ez=ez')))):=by
  rw [Hid,hfin]
  simp only [Prod.mk.injEq,Bool.decide_and]
 clear hfin
 by_cases hk:k=k2
 ·subst hk
  have hke:(k.toList == k.toList)=true:=by simp
  rw [decide_eq_true rfl,Bool.true_and] at HF
  by_cases hb0:eb=eb'
  ·rw [decide_eq_true hb0] at HF kB
   rw [Bool.true_and] at HF
   clear hb0
   generalize decide (ez=ez')=u at *
   go_enter Tryz.func36,Tryz.ntmps36
   go_wp2_with fail
   generalize ((w.alloc (.cells #[.string k,.slice a1 n1 c1,.slice a2 n2 c2] 45)).alloc (.cells #[.string k,.slice b1 m1 d1,.slice b2 m2 d2] 45))=U at *
   refine (kB _ bw).mono ?_
   rintro x w1 ⟨rfl,hb⟩
   replace bw:=bel8 bw hb
   replace pX:=pX.below hb
   replace pY:=pY.below hb
   have x2:=pX.cell 2
   have y2:=pY.cell 2
   simp only [List.getElem?_cons_zero,List.getElem?_cons_succ] at x2 y2
   clear hb
   go_wp2_with fail
   refine (kI _ bw).mono ?_
   rintro x w2 ⟨rfl,hb⟩
   replace bw:=bel8 bw hb
   clear hb x2 y2 pX pY
   go_wp2
   go_ret
   exact ⟨by rw [HF.out];rfl,bw⟩
  ·rw [decide_eq_false hb0] at HF kB
   rw [Bool.false_and] at HF
   clear hb0 kI
   go_enter Tryz.func36,Tryz.ntmps36
   go_wp2_with fail
   refine (kB _ bw).mono ?_
   rintro x w1 ⟨rfl,hb⟩
   replace bw:=bel8 bw hb
   clear hb pX pY
   go_wp2
   go_ret
   exact ⟨by rw [HF.out];rfl,bw⟩
 ·have hke:(k.toList == k2.toList)=false:=by
   rw [beq_eq_false_iff_ne]
   exact fun h9=>hk (toList_inj9 h9)
  rw [decide_eq_false hk,Bool.false_and] at HF
  clear hk kB kI pX pY
  go_enter Tryz.func36,Tryz.ntmps36
  go_wp2
  go_ret
  exact ⟨by rw [HF.out];rfl,bw⟩

theorem equalFunc_is (a:Option Addr) (n c:Nat) (es:List E3) (a':Option Addr) (n' c':Nat) (es':List E3) (w:World) (h:Ents w a n c es) (h':Ents w a' n' c' es') :
  Calls Tryz.prog 35 #[.slice a n c,.slice a' n' c',.func (.func 36) #[] #[]] w fun x w'=>x=.returned (.bool (decide (es=es')))∧Below w.heap.size w w':=by
 have hl:=h.1
 have hl':=h'.1
 have hnm:n≤maxLen:=Nat.le_trans h.2.1 h.2.2.1
 unfold maxLen at hnm
 by_cases hnn:n=n'
 ·subst hnn
  have hne:((n:Int) != (n:Int))=false:=by simp
  obtain ⟨r,hr⟩:∃ r,r=decide (es=es'):=⟨_,rfl⟩
  rw [← hr]
  have HR:Hid (r=decide (es=es')):=hr
  clear hr
  go_enter Tryz.func35,Tryz.ntmps35
  go_wp2_with fail
  go_loopw [17] (fun si wr=>∃ k:Nat,k≤n∧si=.int .i64 k∧Hid (es.take k=es'.take k)∧Below w.heap.size w wr) (fun si _=>n - (intOf si).toNat)
  case atStart=>exact ⟨0,by omega,rfl,(by simp:es.take 0=es'.take 0),Below.refl _ _⟩
  case round =>
   obtain ⟨k,hk,rfl,HK,bw⟩:=hrel
   by_cases hlt:k<n
   ·obtain ⟨_,_,_,hcase⟩:=h.below bw
    obtain ⟨_,_,_,hcase'⟩:=h'.below bw
    rcases hcase with e0 | ⟨b,off,rfl,hb,hc⟩
    ·omega
    rcases hcase' with e0 | ⟨b',off',rfl,hb',hc'⟩
    ·omega
    obtain ⟨s,x0,x1,x2,hm⟩:=hc k hlt
    obtain ⟨s',y0,y1,y2,hm'⟩:=hc' k hlt
    clear hc hb hc' hb'
    have kE:=fun W (hb:Below wr.heap.size wr W)=>entrySame_is (es.getD k e3d) (es'.getD k e3d) s s' W (hm.below hb) (hm'.below hb)
    have ht:=take_snoc9 (es:=es) (k:=k) (by omega)
    have ht':=take_snoc9 (es:=es') (k:=k) (by omega)
    have HE:Hid (es=es'→es.getD k e3d=es'.getD k e3d):=fun h9=>by rw [h9]
    clear hm hm'
    generalize es.getD k e3d=x at *
    generalize es'.getD k e3d=y at *
    have HT:Hid (x=y→es.take (k+1)=es'.take (k+1)):=fun h9=>by rw [← ht,← ht',HK.out,h9]
    clear ht ht'
    by_cases hxy:x=y
    ·have HK2:Hid (es.take (k+1)=es'.take (k+1)):=HT.out hxy
     rw [decide_eq_true hxy] at kE
     clear HT HE hxy
     obtain ⟨k1,xb,xz⟩:=x
     obtain ⟨k2,yb,yz⟩:=y
     obtain ⟨⟨a1,n1,c1⟩,⟨a2,n2,c2⟩⟩:=s
     obtain ⟨⟨b1,m1,d1⟩,⟨b2,m2,d2⟩⟩:=s'
     unfold entV at kE
     simp only at x0 x1 x2 y0 y1 y2 kE
     have hlt':(k:Int)<(n:Int):=by omega
     have hk0:(0:Int)≤(k:Int):=by omega
     have bA:Below wr.heap.size wr (wr.alloc (.cells #[.string k1,.slice a1 n1 c1,.slice a2 n2 c2] 45)):=by go_grown
     replace y0:=cell8 bA y0
     replace y1:=cell8 bA y1
     replace y2:=cell8 bA y2
     clear bA
     go_wp2_with fail
     refine (kE _ (by go_grown)).mono ?_
     rintro e w1 ⟨rfl,hb1⟩
     have bw1:=bel8 bw (bel8 (by go_grown) hb1)
     clear hb1 x0 x1 x2 y0 y1 y2 kE HK
     go_wp2
     go_roundw
     case rel=>exact ⟨k+1,by omega,by go_num,HK2,bw1⟩
     case measure=>simp [intOf];omega
    ·have HF:Hid (r=false):=by rw [Hid,HR.out,decide_eq_false (fun h9=>hxy (HE.out h9))]
     rw [decide_eq_false hxy] at kE
     clear HT HE hxy HR
     obtain ⟨k1,xb,xz⟩:=x
     obtain ⟨k2,yb,yz⟩:=y
     obtain ⟨⟨a1,n1,c1⟩,⟨a2,n2,c2⟩⟩:=s
     obtain ⟨⟨b1,m1,d1⟩,⟨b2,m2,d2⟩⟩:=s'
     unfold entV at kE
     simp only at x0 x1 x2 y0 y1 y2 kE
     have hlt':(k:Int)<(n:Int):=by omega
     have hk0:(0:Int)≤(k:Int):=by omega
     have bA:Below wr.heap.size wr (wr.alloc (.cells #[.string k1,.slice a1 n1 c1,.slice a2 n2 c2] 45)):=by go_grown
     replace y0:=cell8 bA y0
     replace y1:=cell8 bA y1
     replace y2:=cell8 bA y2
     clear bA
     go_wp2_with fail
     refine (kE _ (by go_grown)).mono ?_
     rintro e w1 ⟨rfl,hb1⟩
     have bw1:=bel8 bw (bel8 (by go_grown) hb1)
     clear hb1 x0 x1 x2 y0 y1 y2 kE HK
     go_wp2
     go_ret
     exact ⟨by rw [HF.out];rfl,bw1⟩
   ·obtain rfl:k=n:=by omega
    have HF:Hid (r=true):=by
     rw [Hid,HR.out,decide_eq_true_iff]
     have:=HK.out
     rw [List.take_of_length_le (by omega),List.take_of_length_le (by omega)] at this
     exact this
    clear HK HR
    go_wp2
    go_ret
    exact ⟨by rw [HF.out];rfl,bw⟩
 ·have hne:((n:Int) != (n':Int))=true:=by simp;omega
  rw [decide_eq_false (fun h9=>hnn (by rw [← hl,← hl',h9]))]
  go_enter Tryz.func35,Tryz.ntmps35
  go_wp2
  go_ret
  exact ⟨rfl,Below.refl _ _⟩

def smeB (es es':List E3):Bool:=memOk es && (memOk es' && decide (es=es'))

theorem implSameMemo_is (a:Option Addr) (n c:Nat) (es:List E3) (a':Option Addr) (n' c':Nat) (es':List E3) (w:World) (h:Ents w a n c es) (h':Ents w a' n' c' es') (hV:VmShape w) :
  Calls Tryz.prog 12 #[.agg #[.slice a n c],.agg #[.slice a' n' c']] w fun x w'=>x=.returned (.bool (smeB es es'))∧Below w.heap.size w w':=by
 unfold smeB
 have kA:=fun W (hb:Below w.heap.size w W)=>implMemoOK_is a n c es W (h.below hb) (hV.below hb)
 have kB:=fun W (hb:Below w.heap.size w W)=>implMemoOK_is a' n' c' es' W (h'.below hb) (hV.below hb)
 have bw:Below w.heap.size w ((w.alloc (.cells #[.slice a n c] 33)).alloc (.cells #[.slice a' n' c'] 33)):=by go_grown
 have pM:Blk ((w.alloc (.cells #[.slice a n c] 33)).alloc (.cells #[.slice a' n' c'] 33)) w.heap.size 33 [.slice a n c]:=blkOld _ (blkAt _ _ _ rfl)
 have pN:Blk ((w.alloc (.cells #[.slice a n c] 33)).alloc (.cells #[.slice a' n' c'] 33)) (w.heap.size+1) 33 [.slice a' n' c']:=blkAt _ _ _ (by simp)
 have kE:=fun W (hb:Below w.heap.size w W)=>equalFunc_is a n c es a' n' c' es' W (h.below hb) (h'.below hb)
 clear h h' hV
 generalize decide (es=es')=u at *
 cases hA:memOk es
 ·rw [hA] at kA
  rw [Bool.false_and]
  clear kE kB hA
  go_enter Tryz.func12,Tryz.ntmps12
  go_wp2_with fail
  generalize ((w.alloc (.cells #[.slice a n c] 33)).alloc (.cells #[.slice a' n' c'] 33))=U at *
  refine (kA _ bw).mono ?_
  rintro x w1 ⟨rfl,hb⟩
  replace bw:=bel8 bw hb
  replace pM:=pM.below hb
  replace pN:=pN.below hb
  have g0:=pM.cell 0
  have g1:=pN.cell 0
  simp only [List.getElem?_cons_zero] at g0 g1
  clear hb kA
  go_wp2
  go_ret
  exact ⟨rfl,bw⟩
 ·rw [hA] at kA
  rw [Bool.true_and]
  clear hA
  cases hB:memOk es'
  ·rw [hB] at kB
   rw [Bool.false_and]
   clear kE hB
   go_enter Tryz.func12,Tryz.ntmps12
   go_wp2_with fail
   generalize ((w.alloc (.cells #[.slice a n c] 33)).alloc (.cells #[.slice a' n' c'] 33))=U at *
   refine (kA _ bw).mono ?_
   rintro x w1 ⟨rfl,hb⟩
   replace bw:=bel8 bw hb
   replace pM:=pM.below hb
   replace pN:=pN.below hb
   have g0:=pM.cell 0
   have g1:=pN.cell 0
   simp only [List.getElem?_cons_zero] at g0 g1
   clear hb kA
   go_wp2_with fail
   refine (kB _ bw).mono ?_
   rintro x w2 ⟨rfl,hb⟩
   replace bw:=bel8 bw hb
   replace pM:=pM.below hb
   replace pN:=pN.below hb
   replace g0:=pM.cell 0
   replace g1:=pN.cell 0
   simp only [List.getElem?_cons_zero] at g0 g1
   clear hb kB
   go_wp2
   go_ret
   exact ⟨rfl,bw⟩
  ·rw [hB] at kB
   rw [Bool.true_and]
   clear hB
   go_enter Tryz.func12,Tryz.ntmps12
   go_wp2_with fail
   generalize ((w.alloc (.cells #[.slice a n c] 33)).alloc (.cells #[.slice a' n' c'] 33))=U at *
   refine (kA _ bw).mono ?_
   rintro x w1 ⟨rfl,hb⟩
   replace bw:=bel8 bw hb
   replace pM:=pM.below hb
   replace pN:=pN.below hb
   have g0:=pM.cell 0
   have g1:=pN.cell 0
   simp only [List.getElem?_cons_zero] at g0 g1
   clear hb kA
   go_wp2_with fail
   refine (kB _ bw).mono ?_
   rintro x w2 ⟨rfl,hb⟩
   replace bw:=bel8 bw hb
   replace pM:=pM.below hb
   replace pN:=pN.below hb
   replace g0:=pM.cell 0
   replace g1:=pN.cell 0
   simp only [List.getElem?_cons_zero] at g0 g1
   clear hb kB
   go_wp2_with fail
   refine (kE _ bw).mono ?_
   rintro x w3 ⟨rfl,hb⟩
   replace bw:=bel8 bw hb
   clear hb g0 g1 pM pN kE
   go_wp2
   go_ret
   exact ⟨rfl,bw⟩

end Go.Proofs.YtgmhhegckcionaaGreatDoor
