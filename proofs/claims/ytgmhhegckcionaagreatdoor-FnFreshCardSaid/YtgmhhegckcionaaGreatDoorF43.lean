/-
  Joined: SmeI, RdP, FpvP, SmlP.
-/
import Derived.LaidEql
import Derived.RowKitTokens
import Derived.LoopTactic
import Derived.Laws.Runes
import Derived.Test.YtgmhhegckcionaaGreatDoorF42

namespace Go.Proofs.YtgmhhegckcionaaGreatDoor
set_option maxRecDepth 100000
set_option maxHeartbeats 16000000
open Go.RowKit
set_option linter.unusedVariables false
set_option linter.unusedSimpArgs false

theorem Sr (e e':E3) (s s':Sl2) (w:World) (h:YK w s e) (h':YK w s' e') :
  Calls Tryz.prog 36 #[ZW e.1 s,ZW e'.1 s'] w fun x w'=>x=.returned (.bool (decide (e=e')))∧Below w.heap.size w w':=by
 obtain ⟨_,hB,hF,_⟩:=h
 obtain ⟨_,hB',hF',_⟩:=h'
 obtain ⟨k,eb,ez⟩:=e
 obtain ⟨k2,eb',ez'⟩:=e'
 obtain ⟨⟨a1,n1,c1⟩,⟨a2,n2,c2⟩⟩:=s
 obtain ⟨⟨b1,m1,d1⟩,⟨b2,m2,d2⟩⟩:=s'
 unfold ZW
 simp only at *
 have kB:=fun W (hb:Below w.heap.size w W)=>Fo a1 b1 n1 m1 c1 d1 eb eb' W (hB.below hb) (hB'.below hb)
 have kI:=fun W (hb:Below w.heap.size w W)=>Fp a2 b2 n2 m2 c2 d2 ez ez' W (hF.below hb) (hF'.below hb)
 clear hB hF hB' hF'
 have bw:Below w.heap.size w ((w.alloc (.cells #[.string k,.slice a1 n1 c1,.slice a2 n2 c2] 45)).alloc (.cells #[.string k2,.slice b1 m1 d1,.slice b2 m2 d2] 45)):=by go_grown
 have pX:Blk ((w.alloc (.cells #[.string k,.slice a1 n1 c1,.slice a2 n2 c2] 45)).alloc (.cells #[.string k2,.slice b1 m1 d1,.slice b2 m2 d2] 45)) w.heap.size 45 [.string k,.slice a1 n1 c1,.slice a2 n2 c2]:=Zl _ (Zj _ _ _ rfl)
 have pY:Blk ((w.alloc (.cells #[.string k,.slice a1 n1 c1,.slice a2 n2 c2] 45)).alloc (.cells #[.string k2,.slice b1 m1 d1,.slice b2 m2 d2] 45)) (w.heap.size+1) 45 [.string k2,.slice b1 m1 d1,.slice b2 m2 d2]:=Zj _ _ _ (by simp)
 obtain ⟨fin,hfin⟩:∃ fin,fin=decide ((k,eb,ez)=(k2,eb',ez')):=⟨_,rfl⟩
 rw [← hfin]
 have HF:Hid (fin=(decide (k=k2) && (decide (eb=eb') && decide (ez=ez')))):=by
  rw [Hid,hfin]
  simp only [Prod.mk.injEq,Bool.decide_and]
 clear hfin
 by_cases hk:k=k2
 ·subst hk
  have hke:(k.toList == k.toList)=true:=by simp
  rw [decide_eq_true rfl,Bool.true_and] at HF
  by_cases hb0:eb=eb'
  ·rw [decide_eq_true hb0] at HF kB
   rw [Bool.true_and] at HF
   clear hb0
   generalize decide (ez=ez')=u at *
   go_enter Tryz.func36,Tryz.ntmps36
   go_wp2_with fail
   generalize ((w.alloc (.cells #[.string k,.slice a1 n1 c1,.slice a2 n2 c2] 45)).alloc (.cells #[.string k,.slice b1 m1 d1,.slice b2 m2 d2] 45))=U at *
   refine (kB _ bw).mono ?_
   rintro x w1 ⟨rfl,hb⟩
   replace bw:=Zo bw hb
   replace pX:=pX.below hb
   replace pY:=pY.below hb
   have x2:=pX.cell 2
   have y2:=pY.cell 2
   simp only [List.getElem?_cons_zero,List.getElem?_cons_succ] at x2 y2
   clear hb
   go_wp2_with fail
   refine (kI _ bw).mono ?_
   rintro x w2 ⟨rfl,hb⟩
   replace bw:=Zo bw hb
   clear hb x2 y2 pX pY
   go_wp2
   go_ret
   exact ⟨by rw [HF.out];rfl,bw⟩
  rw [decide_eq_false hb0] at HF kB
  rw [Bool.false_and] at HF
  clear hb0 kI
  go_enter Tryz.func36,Tryz.ntmps36
  go_wp2_with fail
  refine (kB _ bw).mono ?_
  rintro x w1 ⟨rfl,hb⟩
  replace bw:=Zo bw hb
  clear hb pX pY
  go_wp2
  go_ret
  exact ⟨by rw [HF.out];rfl,bw⟩
 have hke:(k.toList == k2.toList)=false:=by
  rw [beq_eq_false_iff_ne]
  exact fun h9=>hk (Tu h9)
 rw [decide_eq_false hk,Bool.false_and] at HF
 clear hk kB kI pX pY
 go_enter Tryz.func36,Tryz.ntmps36
 go_wp2
 go_ret
 exact ⟨by rw [HF.out];rfl,bw⟩

theorem NY (a:Option Addr) (n c:Nat) (es:List E3) (a':Option Addr) (n' c':Nat) (es':List E3) (w:World) (h:Y6 w a n c es) (h':Y6 w a' n' c' es') :
  Calls Tryz.prog 35 #[.slice a n c,.slice a' n' c',.func (.func 36) #[] #[]] w fun x w'=>x=.returned (.bool (decide (es=es')))∧Below w.heap.size w w':=by
 have hl:=h.1
 have hl':=h'.1
 have hnm:n≤maxLen:=Nat.le_trans h.2.1 h.2.2.1
 unfold maxLen at hnm
 by_cases hnn:n=n'
 ·subst hnn
  have hne:((n:Int) != (n:Int))=false:=by simp
  obtain ⟨r,hr⟩:∃ r,r=decide (es=es'):=⟨_,rfl⟩
  rw [← hr]
  have HR:Hid (r=decide (es=es')):=hr
  clear hr
  go_enter Tryz.func35,Tryz.ntmps35
  go_wp2_with fail
  go_loopw [17] (fun si wr=>∃ k:Nat,k≤n∧si=.int .i64 k∧Hid (es.take k=es'.take k)∧Below w.heap.size w wr) (fun si _=>n - (intOf si).toNat)
  case atStart=>exact ⟨0,by omega,rfl,(by simp:es.take 0=es'.take 0),Below.refl _ _⟩
  case round =>
   obtain ⟨k,hk,rfl,HK,bw⟩:=hrel
   by_cases hlt:k<n
   ·obtain ⟨_,_,_,hcase⟩:=h.below bw
    obtain ⟨_,_,_,hcase'⟩:=h'.below bw
    rcases hcase with e0 | ⟨b,off,rfl,hb,hc⟩
    ·omega
    rcases hcase' with e0 | ⟨b',off',rfl,hb',hc'⟩
    ·omega
    obtain ⟨s,x0,x1,x2,hm⟩:=hc k hlt
    obtain ⟨s',y0,y1,y2,hm'⟩:=hc' k hlt
    clear hc hb hc' hb'
    have kE:=fun W (hb:Below wr.heap.size wr W)=>Sr (es.getD k e3d) (es'.getD k e3d) s s' W (hm.below hb) (hm'.below hb)
    have ht:=UI (es:=es) (k:=k) (by omega)
    have ht':=UI (es:=es') (k:=k) (by omega)
    have HE:Hid (es=es'→es.getD k e3d=es'.getD k e3d):=fun h9=>by rw [h9]
    clear hm hm'
    generalize es.getD k e3d=x at *
    generalize es'.getD k e3d=y at *
    have HT:Hid (x=y→es.take (k+1)=es'.take (k+1)):=fun h9=>by rw [← ht,← ht',HK.out,h9]
    clear ht ht'
    by_cases hxy:x=y
    ·have HK2:Hid (es.take (k+1)=es'.take (k+1)):=HT.out hxy
     rw [decide_eq_true hxy] at kE
     clear HT HE hxy
     obtain ⟨k1,xb,xz⟩:=x
     obtain ⟨k2,yb,yz⟩:=y
     obtain ⟨⟨a1,n1,c1⟩,⟨a2,n2,c2⟩⟩:=s
     obtain ⟨⟨b1,m1,d1⟩,⟨b2,m2,d2⟩⟩:=s'
     unfold ZW at kE
     simp only at x0 x1 x2 y0 y1 y2 kE
     have hlt':(k:Int)<(n:Int):=by omega
     have hk0:(0:Int)≤(k:Int):=by omega
     have bA:Below wr.heap.size wr (wr.alloc (.cells #[.string k1,.slice a1 n1 c1,.slice a2 n2 c2] 45)):=by go_grown
     replace y0:=ZM bA y0
     replace y1:=ZM bA y1
     replace y2:=ZM bA y2
     clear bA
     go_wp2_with fail
     refine (kE _ (by go_grown)).mono ?_
     rintro e w1 ⟨rfl,hb1⟩
     have bw1:=Zo bw (Zo (by go_grown) hb1)
     clear hb1 x0 x1 x2 y0 y1 y2 kE HK
     go_wp2
     go_roundw
     case rel=>exact ⟨k+1,by omega,by go_num,HK2,bw1⟩
     case measure=>simp [intOf];omega
    have HF:Hid (r=false):=by rw [Hid,HR.out,decide_eq_false (fun h9=>hxy (HE.out h9))]
    rw [decide_eq_false hxy] at kE
    clear HT HE hxy HR
    obtain ⟨k1,xb,xz⟩:=x
    obtain ⟨k2,yb,yz⟩:=y
    obtain ⟨⟨a1,n1,c1⟩,⟨a2,n2,c2⟩⟩:=s
    obtain ⟨⟨b1,m1,d1⟩,⟨b2,m2,d2⟩⟩:=s'
    unfold ZW at kE
    simp only at x0 x1 x2 y0 y1 y2 kE
    have hlt':(k:Int)<(n:Int):=by omega
    have hk0:(0:Int)≤(k:Int):=by omega
    have bA:Below wr.heap.size wr (wr.alloc (.cells #[.string k1,.slice a1 n1 c1,.slice a2 n2 c2] 45)):=by go_grown
    replace y0:=ZM bA y0
    replace y1:=ZM bA y1
    replace y2:=ZM bA y2
    clear bA
    go_wp2_with fail
    refine (kE _ (by go_grown)).mono ?_
    rintro e w1 ⟨rfl,hb1⟩
    have bw1:=Zo bw (Zo (by go_grown) hb1)
    clear hb1 x0 x1 x2 y0 y1 y2 kE HK
    go_wp2
    go_ret
    exact ⟨by rw [HF.out];rfl,bw1⟩
   obtain rfl:k=n:=by omega
   have HF:Hid (r=true):=by
    rw [Hid,HR.out,decide_eq_true_iff]
    have:=HK.out
    rw [List.take_of_length_le (by omega),List.take_of_length_le (by omega)] at this
    exact this
   clear HK HR
   go_wp2
   go_ret
   exact ⟨by rw [HF.out];rfl,bw⟩
 have hne:((n:Int) != (n':Int))=true:=by simp;omega
 rw [decide_eq_false (fun h9=>hnn (by rw [← hl,← hl',h9]))]
 go_enter Tryz.func35,Tryz.ntmps35
 go_wp2
 go_ret
 exact ⟨rfl,Below.refl _ _⟩

def Cn (es es':List E3):Bool:=Yl es && (Yl es' && decide (es=es'))

theorem RY (a:Option Addr) (n c:Nat) (es:List E3) (a':Option Addr) (n' c':Nat) (es':List E3) (w:World) (h:Y6 w a n c es) (h':Y6 w a' n' c' es') (hV:ZN w) :
  Calls Tryz.prog 12 #[.agg #[.slice a n c],.agg #[.slice a' n' c']] w fun x w'=>x=.returned (.bool (Cn es es'))∧Below w.heap.size w w':=by
 unfold Cn
 have kA:=fun W (hb:Below w.heap.size w W)=>VT a n c es W (h.below hb) (hV.below hb)
 have kB:=fun W (hb:Below w.heap.size w W)=>VT a' n' c' es' W (h'.below hb) (hV.below hb)
 have bw:Below w.heap.size w ((w.alloc (.cells #[.slice a n c] 33)).alloc (.cells #[.slice a' n' c'] 33)):=by go_grown
 have pM:Blk ((w.alloc (.cells #[.slice a n c] 33)).alloc (.cells #[.slice a' n' c'] 33)) w.heap.size 33 [.slice a n c]:=Zl _ (Zj _ _ _ rfl)
 have pN:Blk ((w.alloc (.cells #[.slice a n c] 33)).alloc (.cells #[.slice a' n' c'] 33)) (w.heap.size+1) 33 [.slice a' n' c']:=Zj _ _ _ (by simp)
 have kE:=fun W (hb:Below w.heap.size w W)=>NY a n c es a' n' c' es' W (h.below hb) (h'.below hb)
 clear h h' hV
 generalize decide (es=es')=u at *
 cases hA:Yl es
 ·rw [hA] at kA
  rw [Bool.false_and]
  clear kE kB hA
  go_enter Tryz.func12,Tryz.ntmps12
  go_wp2_with fail
  generalize ((w.alloc (.cells #[.slice a n c] 33)).alloc (.cells #[.slice a' n' c'] 33))=U at *
  refine (kA _ bw).mono ?_
  rintro x w1 ⟨rfl,hb⟩
  replace bw:=Zo bw hb
  replace pM:=pM.below hb
  replace pN:=pN.below hb
  have g0:=pM.cell 0
  have g1:=pN.cell 0
  simp only [List.getElem?_cons_zero] at g0 g1
  clear hb kA
  go_wp2
  go_ret
  exact ⟨rfl,bw⟩
 rw [hA] at kA
 rw [Bool.true_and]
 clear hA
 cases hB:Yl es'
 ·rw [hB] at kB
  rw [Bool.false_and]
  clear kE hB
  go_enter Tryz.func12,Tryz.ntmps12
  go_wp2_with fail
  generalize ((w.alloc (.cells #[.slice a n c] 33)).alloc (.cells #[.slice a' n' c'] 33))=U at *
  refine (kA _ bw).mono ?_
  rintro x w1 ⟨rfl,hb⟩
  replace bw:=Zo bw hb
  replace pM:=pM.below hb
  replace pN:=pN.below hb
  have g0:=pM.cell 0
  have g1:=pN.cell 0
  simp only [List.getElem?_cons_zero] at g0 g1
  clear hb kA
  go_wp2_with fail
  refine (kB _ bw).mono ?_
  rintro x w2 ⟨rfl,hb⟩
  replace bw:=Zo bw hb
  replace pM:=pM.below hb
  replace pN:=pN.below hb
  replace g0:=pM.cell 0
  replace g1:=pN.cell 0
  simp only [List.getElem?_cons_zero] at g0 g1
  clear hb kB
  go_wp2
  go_ret
  exact ⟨rfl,bw⟩
 rw [hB] at kB
 rw [Bool.true_and]
 clear hB
 go_enter Tryz.func12,Tryz.ntmps12
 go_wp2_with fail
 generalize ((w.alloc (.cells #[.slice a n c] 33)).alloc (.cells #[.slice a' n' c'] 33))=U at *
 refine (kA _ bw).mono ?_
 rintro x w1 ⟨rfl,hb⟩
 replace bw:=Zo bw hb
 replace pM:=pM.below hb
 replace pN:=pN.below hb
 have g0:=pM.cell 0
 have g1:=pN.cell 0
 simp only [List.getElem?_cons_zero] at g0 g1
 clear hb kA
 go_wp2_with fail
 refine (kB _ bw).mono ?_
 rintro x w2 ⟨rfl,hb⟩
 replace bw:=Zo bw hb
 replace pM:=pM.below hb
 replace pN:=pN.below hb
 replace g0:=pM.cell 0
 replace g1:=pN.cell 0
 simp only [List.getElem?_cons_zero] at g0 g1
 clear hb kB
 go_wp2_with fail
 refine (kE _ bw).mono ?_
 rintro x w3 ⟨rfl,hb⟩
 replace bw:=Zo bw hb
 clear hb g0 g1 pM pN kE
 go_wp2
 go_ret
 exact ⟨rfl,bw⟩


theorem TN {z:Int} (h:0≤z∧z≤999999999):(Lit.int .i64 z).wf=true:=by
 simp only [Lit.wf,Bool.and_eq_true,decide_eq_true_eq]
 have h1:IntKind.i64.min=-9223372036854775808:=by decide
 have h2:IntKind.i64.max=9223372036854775807:=by decide
 omega


theorem G8 {P Q:List (List I3)} {x:V4} (hs:Zc x=true) (h:∀ y ∈ Zx x,y ∉ Fg P Q):WZ P Q x:=by
 intro k hk
 obtain ⟨l0,_⟩:=ZS hs
 have hb:=(Ym hs).1 (x.1.getD k 0) (by simp [List.getD,List.getElem?_eq_getElem (show k<x.1.length by omega)])
 have hp:(x.1.getD k 0).toNat<7:=by omega
 have e:(((x.1.getD k 0).toNat:Nat):Int)=x.1.getD k 0:=by omega
 refine Classical.byContradiction fun hne=>?_
 have hm:CZ (k,(x.1.getD k 0).toNat) ∈ Fg P Q:=List.mem_map.2 ⟨(k,(x.1.getD k 0).toNat),Mx.2 ⟨hk,hp,hne⟩,rfl⟩
 refine h _ ?_ hm
 unfold CZ Zx
 simp only [List.mem_cons,List.not_mem_nil,or_false]
 rcases (by omega:k=0∨k=1∨k=2) with rfl | rfl | rfl<;>omega
theorem MW {P Q:List (List I3)} (hP:Vs P) (hq:Zf Q=true) {m:V4} (hs:Zc m=true) (h:Bb (Yr P 18 m).2.2 (Fg P Q)=false):etB Q (Yr P 18 m)=true∧etC Q (Yr P 18 m)=0:=by
 have hp:=hP.1
 have hA:∀ x ∈ ZT P 18 m,WZ P Q x:=fun x hx=>G8 (UK hp hs x hx) (fun y hy hc=>by
  have hm:y ∈ cmF P 18 m:=TJ.2 ⟨x,hx,hy⟩
  have:Bb (Yr P 18 m).2.2 (Fg P Q)=true:=List.any_eq_true.2 ⟨y,hm,decide_eq_true hc⟩
  rw [this] at h
  cases h)
 have he:=Kf hp hs hA
 have hroom:=LA hP hs
 have hT:∀ r ∈ YJ P m,r.1 ∈ ZT P 18 m:=PX (fun x=>x ∈ ZT P 18 m) (Vq P 18 m) (Wh hp 18 m hs (Wt hp m))
 have hSh:∀ x ∈ (YJ P m).map (·.1),Zc x=true:=fun x hx=>by
  obtain ⟨r,hr,rfl⟩:=List.mem_map.1 hx
  exact N1 hp hs r hr
 have hC:∀ x ∈ (YJ P m).map (·.1),∀ t ∈ nxM Q x,t.2 ∈ (YJ P m).map (·.1):=fun x hx t ht=>by
  have hsx:=hSh x hx
  obtain ⟨r,hr,rfl⟩:=List.mem_map.1 hx
  rw [← (hA _ (hT r hr)).nx hsx] at ht
  exact N0 (by omega) r hr t ht
 have hm0:m ∈ (YJ P m).map (·.1):=List.mem_map.2 ⟨(m,0,0),List.mem_of_getElem? (Qv P m),rfl⟩
 have hf:ZR Q m<19:=Nat.lt_succ_of_le (Wt hq m)
 obtain ⟨k0,_,_⟩:=Pn hC (by rw [List.length_map];omega) (fun x hx t ht=>(XK hq (hSh x hx) t ht).2) 19 m ([],0) hm0 hf ⟨TM,by simp⟩
 obtain ⟨r1,_,_⟩:=NE hq (f:=19) (st:=([],0)) hs hf ⟨rfl,by simp⟩ k0
 have ho:YY (Yr P 18 m)=true:=NX hp hs
 have ht:Wu Q (Yr P 18 m)=true:=by
  unfold Wu Dq
  rw [show (Yr P 18 m).1=Zt m from rfl,Vn hs,k0,r1,he]
  simp
 unfold etB etC
 rw [hq,ho,ht]
 exact ⟨rfl,rfl⟩
theorem RD {P:List (List I3)} (hP:Vs P):Vc P=0∧Yl (Vd P)=true∧∀ e ∈ Vd P,∃ s,Zc s=true∧e=Yr P 18 s:=by
 obtain ⟨hp,h0,h1,h2⟩:=hP
 have hr:=Sa hp h0 h1 h2
 obtain ⟨k0,_,hT,_⟩:=Re hp (by omega)
 have hc:Vc P=0:=by unfold Vc St;rw [if_pos hp,if_pos k0]
 refine ⟨hc,?_⟩
 unfold Vd
 rw [if_pos hc]
 exact hT
theorem Sq {e:E3} (h:YY e=true):e.fits:=by
 obtain ⟨_,h2,h3,_⟩:=Wd h
 have hk:=JX h
 refine ⟨by unfold maxLen;omega,fun x hx=>?_,fun z hz=>TN (by have:=KL h3 z hz;omega)⟩
 obtain ⟨a,b,c⟩:=Gj (Nr h2 x hx)
 exact ⟨TN (by omega),TN (by omega),TN (by omega)⟩
theorem Me {es:List E3} (h:Yl es=true):∀ e ∈ es,e.fits:=fun e he=>Sq ((Xt.1 h).1 e he)


def smI (n:Int) (x:I3):I3:=if x.1=7 then (x.1,x.2.1,n) else x
def smN (r:List I3):Nat:=(r.take 2).length
def smR (r:List I3):List I3:=(r.take 2).map (smI (smN r))
def smJ (r:List I3) (j:Nat):List I3:=((r.take 2).take j).map (smI (smN r))++(r.take 2).drop j
theorem KO (r:List I3):smN r≤2:=by unfold smN;rw [List.length_take];omega
theorem Tr (r:List I3):smN r=min r.length 2:=by unfold smN;rw [List.length_take];omega
theorem SW (r:List I3) (j:Nat):(smJ r j).length=smN r:=by unfold smJ smN;simp;omega
theorem F9 (r:List I3):smJ r 0=r.take 2:=by unfold smJ;simp
theorem Cl {r:List I3} {j:Nat} (h:smN r≤j):smJ r j=smR r:=by
 unfold smJ smR
 unfold smN at h
 rw [List.take_of_length_le h,List.drop_of_length_le h,List.append_nil]
theorem KN {r:List I3} {j:Nat} (h:j<smN r):(smJ r j).getD j (0,0,0)=(r.take 2).getD j (0,0,0):=by
 unfold smJ
 unfold smN at h
 have hl:(((r.take 2).take j).map (smI (smN r))).length=j:=by rw [List.length_map,List.length_take];omega
 simp only [List.getD]
 rw [List.getElem?_append_right (by omega),hl,Nat.sub_self,List.getElem?_drop,Nat.add_zero]
theorem Lz {r:List I3} {j:Nat} (h:j<smN r):smJ r (j+1)=(smJ r j).set j (smI (smN r) ((r.take 2).getD j (0,0,0))):=by
 have h':=h
 unfold smN at h'
 have hl:(((r.take 2).take j).map (smI (smN r))).length=j:=by rw [List.length_map,List.length_take];omega
 have e:(r.take 2).getD j (0,0,0)=(r.take 2)[j]:=by simp only [List.getD,List.getElem?_eq_getElem h',Option.getD_some]
 unfold smJ
 rw [e,List.set_append_right _ _ (by omega),hl,Nat.sub_self,List.drop_eq_getElem_cons h',List.set_cons_zero,List.take_succ_eq_append_getElem h',List.map_append]
 simp
theorem KM {x:I3} {n:Int} (h:okI x=true) (h1:1≤n) (h6:n≤6):okI (smI n x)=true:=by
 unfold smI
 split
 ·rename_i e
  unfold okI inB at h ⊢
  simp [e] at h ⊢
  omega
 exact h
theorem Rr {x:I3} {n k:Int} (h:k<n):WY (smI n x) k n=true:=by
 unfold smI WY
 split
 ·rename_i e
  simp only [e,if_true]
  unfold inB
  simp
  omega
 rfl
theorem C8 {r:List I3} (h:ZP r=true):ZP (smR r)=true:=by
 match r,h with
 | [],_=>rfl
 | [x],h =>
  have h1:okI x=true:=by
   unfold ZP Z4 at h
   simp only [Bool.and_eq_true] at h
   exact h.2.1.1
  show ZP [smI 1 x]=true
  unfold ZP Z4 Z4
  rw [KM h1 (by omega) (by omega)]
  have:=Rr (x:=x) (n:=1) (k:=0) (by omega)
  simp only [List.length_cons,List.length_nil]
  simp [this]
 | x::y::rs,h =>
  have h1:okI x=true∧okI y=true:=by
   unfold ZP Z4 Z4 at h
   simp only [Bool.and_eq_true] at h
   exact ⟨h.2.1.1,h.2.2.1.1⟩
  show ZP [smI 2 x,smI 2 y]=true
  unfold ZP Z4 Z4 Z4
  rw [KM h1.1 (by omega) (by omega),KM h1.2 (by omega) (by omega)]
  have a:=Rr (x:=x) (n:=2) (k:=0) (by omega)
  have b:=Rr (x:=y) (n:=2) (k:=1) (by omega)
  simp only [List.length_cons,List.length_nil]
  simp [a,b]
def smK (rows:List (List I3)) (k:Nat):List (List I3):=(rows.take k).map smR++rows.drop k
theorem Mo (rows:List (List I3)) (k:Nat):(smK rows k).length=rows.length:=by unfold smK;simp;omega
theorem Db (rows:List (List I3)):smK rows 0=rows:=by unfold smK;simp
theorem C7 {rows:List (List I3)} {k:Nat} (h:k<rows.length):(smK rows k).getD k []=rows.getD k []:=by
 have hl:((rows.take k).map smR).length=k:=by rw [List.length_map,List.length_take];omega
 unfold smK
 simp only [List.getD]
 rw [List.getElem?_append_right (by omega),hl,Nat.sub_self,List.getElem?_drop,Nat.add_zero]
theorem Da {rows:List (List I3)} {k:Nat} (h:k<rows.length):smK rows (k+1)=(smK rows k).set k (smR (rows.getD k [])):=by
 have hl:((rows.take k).map smR).length=k:=by rw [List.length_map,List.length_take];omega
 unfold smK
 rw [List.set_append_right _ _ (by omega),hl,Nat.sub_self,List.drop_eq_getElem_cons h,List.set_cons_zero,List.take_succ_eq_append_getElem h,List.map_append]
 simp [List.getD,h]
theorem Cm {rows:List (List I3)} (h:Zf rows=true):Vs (smK rows 3):=by
 unfold Zf at h
 simp only [Bool.and_eq_true,decide_eq_true_eq,List.all_eq_true] at h
 have e:smK rows 3=rows.map smR:=by
  unfold smK
  rw [List.take_of_length_le (by omega),List.drop_of_length_le (by omega),List.append_nil]
 have hs:∀ k,(Yg (smK rows 3) k).length≤2:=fun k=>by
  rw [e]
  unfold Yg
  simp only [List.getD,List.getElem?_map]
  cases rows[k]? with
  | none=>simp
  | some r=>simp [smR,List.length_take];omega
 refine ⟨?_,Nat.le_trans (hs 0) (by omega),Nat.le_trans (hs 1) (by omega),hs 2⟩
 unfold Zf
 simp only [Bool.and_eq_true,decide_eq_true_eq,List.all_eq_true]
 rw [e]
 refine ⟨by simpa using h.1,fun r hr=>?_⟩
 obtain ⟨q,hq,rfl⟩:=List.mem_map.1 hr
 exact C8 (h.2 q hq)

theorem PQ:∀ (xs:List I3) (i:Nat) (z:Int),i<xs.length→(Zn xs).set (i*3+2) (.int .i64 z)=Zn (xs.set i ((xs.getD i (0,0,0)).1,(xs.getD i (0,0,0)).2.1,z))
 | [],i,z,h=>by simp at h
 | x::xs,0,z,_=>by simp [Zn,I3.cells]
 | x::xs,i+1,z,h=>by
  have ih:=PQ xs i z (by simpa using h)
  have e2:(i+1)*3+2=(i*3+2)+1+1+1:=by omega
  simp only [Zn,List.flatMap_cons,I3.cells,List.cons_append,List.nil_append] at ih ⊢
  rw [e2]
  simp only [List.set_cons_succ,List.flatMap_cons,I3.cells,List.cons_append,List.nil_append]
  rw [ih]
  simp
theorem VQ {w:World} {B B' e e' s s' n n' g c:Nat} {v:Value} {xs ys:List Value} (h:w.ownsRow B e s v n xs) (h':w.ownsRow B' e' s' (.slice (some ⟨g,0,none⟩) n' c) n' ys) (he:e≠e'):v.ownBlock≠some g:=by
 rcases h'.2 with ⟨q,_⟩ | ⟨g',c',cur',q,_,hh',_⟩
 ·cases q
 cases q
 rcases h.2 with ⟨q,_⟩ | ⟨g2,c2,cur2,q,_,hh,_⟩
 ·rw [q];simp [Value.ownBlock]
 rw [q]
 simp only [Value.ownBlock,ne_eq,Option.some.injEq]
 rintro rfl
 rw [hh] at hh'
 simp at hh'
 exact he hh'.2
theorem XI {α:Type} (l:List α) (k t:Nat) (x d:α):(l.set k x).getD t d=if t=k∧k<l.length then x else l.getD t d:=by
 simp only [List.getD,List.getElem?_set]
 by_cases h:k=t
 ·subst h
  by_cases h2:k<l.length
  ·simp [h2]
  simp [h2]
 rw [if_neg h,if_neg (fun q=>h q.1.symm)]
theorem Wn.put {w:World} {B:Nat} {vs:List Value} {rows:List (List I3)} (h:Wn w B vs rows) {k:Nat} (hk:k<rows.length) {nv:Value} {xs:List I3} (hn:w.ownsRow B 122 3 nv xs.length (Zn xs)) (hd:∀ t,t<rows.length→t≠k→nv.ownBlock=none∨nv.ownBlock≠(vs.getD t undef).ownBlock):Wn w B (vs.set k nv) (rows.set k xs):=by
 obtain ⟨h1,h2,h3⟩:=h
 refine ⟨by simp [h1],fun t ht=>?_,fun t t' ht ht' hne=>?_⟩
 ·rw [List.length_set] at ht
  rw [XI,XI]
  by_cases e:t=k
  ·rw [if_pos ⟨e,by omega⟩,if_pos ⟨e,hk⟩];exact hn
  rw [if_neg (fun q=>e q.1),if_neg (fun q=>e q.1)];exact h2 t ht
 rw [List.length_set] at ht ht'
 rw [XI,XI]
 by_cases e:t=k
 ·rw [if_pos ⟨e,by omega⟩,if_neg (fun q=>hne (e.trans q.1.symm))]
  exact hd t' ht' (fun q=>hne (e.trans q.symm))
 rw [if_neg (fun q=>e q.1)]
 by_cases e':t'=k
 ·rw [if_pos ⟨e',by omega⟩]
  rcases hd t ht e with q | q
  ·rw [q]
   cases hb:(vs.getD t undef).ownBlock with
   | none=>exact .inl rfl
   | some x=>exact .inr (by simp)
  exact .inr (fun x=>q x.symm)
 rw [if_neg (fun q=>e' q.1)];exact h3 t t' ht ht' hne
theorem Wn.grown6 {w w':World} {B:Nat} {vs:List Value} {rows:List (List I3)} {g:Nat} (h:Wn w B vs rows) (hg:w.grownBy w' (some g)) (hne:∀ t,t<rows.length→(vs.getD t undef).ownBlock≠some g):Wn w' B vs rows:=
 ⟨h.1,fun t ht=>(h.2.1 t ht).kept hg (.inr (hne t ht)),h.2.2⟩
def Ye (w:World) (B g c:Nat) (vs:List Value) (rows:List (List I3)):Prop:=w.ownsRow B 91 1 (.slice (some ⟨g,0,none⟩) 3 c) 3 vs∧Wn w B vs rows∧rows.length=3
theorem Ye.below {w w':World} {B g c:Nat} {vs:List Value} {rows:List (List I3)} (h:Ye w B g c vs rows) (hb:Below w.heap.size w w'):Ye w' B g c vs rows:=⟨Zs h.1 hb,h.2.1.below hb,h.2.2⟩
theorem Ye.cell {w:World} {B g c:Nat} {vs:List Value} {rows:List (List I3)} (h:Ye w B g c vs rows) {k:Nat} (hk:k<3):w.cell? ⟨g,k,none⟩=some (vs.getD k undef):=by
 rw [h.1.cellAt k (by omega)]
 have:=h.2.1.1
 have:=h.2.2
 simp [List.getD,show k<vs.length by omega]
theorem Ye.own {w:World} {B g c:Nat} {vs:List Value} {rows:List (List I3)} (h:Ye w B g c vs rows):Xb w B (.slice (some ⟨g,0,none⟩) 3 c) rows:=by
 obtain ⟨h1,h2,h3⟩:=h
 exact ⟨vs,by rw [h3];exact h1,h2⟩
theorem Ye.of {w:World} {B:Nat} {v:Value} {rows:List (List I3)} (h:Xb w B v rows) (h3:rows.length=3):∃ g c vs,v=.slice (some ⟨g,0,none⟩) 3 c∧Ye w B g c vs rows:=by
 obtain ⟨vs,h1,h2⟩:=h
 rw [h3] at h1
 rcases h1.2 with ⟨q,q0⟩ | ⟨g,c,cur,q,_⟩
 ·omega
 subst q
 exact ⟨g,c,vs,rfl,h1,h2,h3⟩
theorem Ye.lay {w:World} {B g c:Nat} {vs:List Value} {rows:List (List I3)} (h:Ye w B g c vs rows) {k:Nat} (hk:k<3) {nv:Value} {xs:List I3} (hn:w.ownsRow B 122 3 nv xs.length (Zn xs)) (hd:∀ t,t<3→nv.ownBlock=none∨nv.ownBlock≠(vs.getD t undef).ownBlock):Ye (w.setCell ⟨g,k,none⟩ nv) B g c (vs.set k nv) (rows.set k xs):=by
 obtain ⟨h1,h2,h3⟩:=h
 have hg:=(h1.stored k nv).2
 refine ⟨(h1.stored k nv).1,(h2.put (by omega) hn (fun t ht _=>hd t (by omega))).grown6 hg (fun t ht=>?_),by simp [h3]⟩
 rw [XI]
 split
 ·exact VQ hn h1 (by decide)
 rw [List.length_set] at ht
 exact VQ (h2.2.1 t ht) h1 (by decide)
theorem Ye.turn {w:World} {B g c b n cc:Nat} {vs:List Value} {rows:List (List I3)} (h:Ye w B g c vs rows) {k i:Nat} (hk:k<3) (hv:vs.getD k undef=.slice (some ⟨b,0,none⟩) n cc) (hi:i<(rows.getD k []).length) (z:Int) :
  Ye (w.setCell ⟨b,i*3+2,none⟩ (.int .i64 z)) B g c vs (rows.set k ((rows.getD k []).set i (((rows.getD k []).getD i (0,0,0)).1,((rows.getD k []).getD i (0,0,0)).2.1,z))):=by
 obtain ⟨h1,h2,h3⟩:=h
 have hr:=h2.2.1 k (by omega)
 rw [hv] at hr
 have hn:n=(rows.getD k []).length:=by
  rcases hr.2 with ⟨q,_⟩ | ⟨g',c',cur',q,_⟩
  ·cases q
  cases q;rfl
 subst hn
 obtain ⟨s1,s2⟩:=hr.stored (i*3+2) (.int .i64 z)
 rw [PQ _ _ _ hi] at s1
 have hbg:b≠g:=fun e=>VQ hr h1 (by decide) (by simp [Value.ownBlock,e])
 have hvs:vs.length=3:=by rw [h2.1];exact h3
 refine ⟨h1.kept s2 (.inr (by simp [Value.ownBlock];omega)),⟨by simp [h2.1],fun t ht=>?_,fun t t' ht ht' hne=>h2.2.2 t t' (by simpa using ht) (by simpa using ht') hne⟩,by simp [h3]⟩
 rw [List.length_set] at ht
 rw [XI]
 by_cases e:t=k
 ·rw [if_pos ⟨e,by omega⟩,e,hv,List.length_set]
  exact s1
 rw [if_neg (fun q=>e q.1)]
 refine (h2.2.1 t ht).kept s2 (.inr ?_)
 rcases h2.2.2 t k ht (by omega) e with q | q
 ·rw [q];simp
 rw [hv] at q;exact q
theorem J7 (xs:List I3):∀ u ∈ Zn xs,u.oneCell'=true:=fun u hu=>by
 unfold Zn at hu
 obtain ⟨x,_,hx⟩:=List.mem_flatMap.1 hu
 simp [I3.cells] at hx
 rcases hx with rfl | rfl | rfl<;>rfl
theorem PO:∀ (xs:List I3) (j:Nat),j<xs.length→(Zn xs)[j*3]?=some (.int .i64 (xs.getD j (0,0,0)).1)
 | [],j,h=>by simp at h
 | x::xs,0,_=>by simp [Zn,I3.cells]
 | x::xs,j+1,h=>by
  have ih:=PO xs j (by simpa using h)
  have e2:(j+1)*3=j*3+1+1+1:=by omega
  simp only [Zn,List.flatMap_cons,I3.cells,List.cons_append,List.nil_append] at ih ⊢
  rw [e2]
  simp only [List.getElem?_cons_succ]
  rw [ih]
  simp
theorem Gr {w:World} {B b n c:Nat} {r:List I3} (h:w.ownsRow B 122 3 (.slice (some ⟨b,0,none⟩) n c) n (Zn r)):∀ j u,(Zn (r.take 2))[j]?=some u→w.cell? ((⟨b,0,none⟩:Addr).add j)=some u:=fun j u hj=>by
 have e:Zn r=Zn (r.take 2)++Zn (r.drop 2):=by unfold Zn;rw [← List.flatMap_append,List.take_append_drop]
 have hl:=(List.getElem?_eq_some_iff.1 hj).1
 have h1:(Zn r)[j]?=some u:=by rw [e,List.getElem?_append_left hl];exact hj
 have h2:=(List.getElem?_eq_some_iff.1 h1).1
 have h3:=h.1
 have h4:=h.cellAt j (by omega)
 rw [h1] at h4
 by_cases e0:j=0
 ·subst e0;simpa [Addr.add] using h4
 simpa [Addr.add,e0] using h4
theorem F7 {r:List I3} {j:Nat} (h:j<smN r) (h7:((r.take 2).getD j (0,0,0)).1≠7):smJ r (j+1)=smJ r j:=by
 rw [Lz h]
 have e:smI (smN r) ((r.take 2).getD j (0,0,0))=(smJ r j).getD j (0,0,0):=by rw [KN h];unfold smI;rw [if_neg h7]
 rw [e]
 have hl:j<(smJ r j).length:=by rw [SW];exact h
 simp only [List.getD,List.getElem?_eq_getElem hl,Option.getD_some]
 exact List.set_getElem_self hl
theorem F8 {r:List I3} {j:Nat} (h:j<smN r) (h7:((r.take 2).getD j (0,0,0)).1=7):(smJ r j).set j (((smJ r j).getD j (0,0,0)).1,((smJ r j).getD j (0,0,0)).2.1,(smN r:Int))=smJ r (j+1):=by
 rw [Lz h,KN h]
 unfold smI
 rw [if_pos h7]
theorem Ye.low {w w':World} {B g c R:Nat} {vs:List Value} {rows:List (List I3)} (h:Ye w B g c vs rows) (hg:w.grownBy w' (some R)) (hR:R<B):Ye w' B g c vs rows:=by
 obtain ⟨h1,h2,h3⟩:=h
 refine ⟨h1.kept hg (.inr fun e=>?_),h2.grown6 hg (fun t ht e=>?_),h3⟩
 ·have:=(h1.lt R e).1;omega
 have:=((h2.2.1 t ht).lt R e).1;omega
theorem FU {w:World} {B N n:Nat} {v:Value} {xs:List Value} (h:w.ownsRow B 122 3 v n xs) (hb:v.ownBlock=some N):∃ c,v=.slice (some ⟨N,0,none⟩) n c:=by
 rcases h.2 with ⟨q,_⟩ | ⟨g,c,cur,q,_⟩
 ·rw [q] at hb;cases hb
 subst q;simp [Value.ownBlock] at hb;subst hb;exact ⟨c,rfl⟩
theorem Ye.apart {w:World} {B g c N t:Nat} {vs:List Value} {rows:List (List I3)} (h:Ye w B g c vs rows) (hN:w.heap.size≤N) (ht:t<3):(some N:Option Nat)=none∨some N≠(vs.getD t undef).ownBlock:=by
 obtain ⟨h1,h2,h3⟩:=h
 exact .inr fun e=>by have:=((h2.2.1 t (by omega)).lt N e.symm).2;omega
theorem Ye.row {w:World} {B g c:Nat} {vs:List Value} {rows:List (List I3)} {k:Nat} {r:List I3} (h:Ye w B g c vs (rows.set k r)) (hk:k<rows.length):w.ownsRow B 122 3 (vs.getD k undef) r.length (Zn r):=by
 have:=h.2.1.2.1 k (by rw [List.length_set];exact hk)
 rwa [XI,if_pos ⟨rfl,hk⟩] at this
theorem Ye.turn7 {w:World} {B g c b n cc:Nat} {vs:List Value} {rows:List (List I3)} {k j:Nat} {r:List I3} (h:Ye w B g c vs (rows.set k (smJ r j))) (hk:k<3) (hl:rows.length=3) (hv:vs.getD k undef=.slice (some ⟨b,0,none⟩) n cc) (hj:j<smN r) (h7:((r.take 2).getD j (0,0,0)).1=7) :
  Ye (w.setCell ⟨b,j*3+2,none⟩ (.int .i64 (smN r:Int))) B g c vs (rows.set k (smJ r (j+1))):=by
 have e:(rows.set k (smJ r j)).getD k []=smJ r j:=by rw [XI,if_pos ⟨rfl,by omega⟩]
 have h2:=h.turn (i:=j) hk hv (by rw [e,SW];exact hj) (smN r:Int)
 rw [e,F8 hj h7,List.set_set] at h2
 exact h2
end Go.Proofs.YtgmhhegckcionaaGreatDoor
