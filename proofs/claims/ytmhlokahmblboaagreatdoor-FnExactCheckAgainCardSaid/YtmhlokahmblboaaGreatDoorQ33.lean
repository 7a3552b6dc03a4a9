/-
  Joined: MgiI, EntX, MemI, RisI.
-/
import Derived.Shelf.Small.Strs
import Derived.Test.YtmhlokahmblboaaGreatDoorQ32

namespace Go.Proofs.YtmhlokahmblboaaGreatDoor
set_option maxRecDepth 100000
set_option maxHeartbeats 16000000
open Go.RowKit
set_option linter.unusedVariables false
set_option linter.unusedSimpArgs false

def WJ (xs:List Int):Bool:=xs.all Xq
def wfs (xs:List Int):Prop:=∀ x ∈ xs,(Lit.int .i64 x).wf=true
theorem MC {xs:List Int} {k:Nat} (h:k<xs.length):WJ (xs.drop k)=(Xq (xs.getD k 0) && WJ (xs.drop (k+1))):=by
 unfold WJ
 rw [List.drop_eq_getElem_cons h,List.all_cons]
 simp [List.getD,List.getElem?_eq_getElem h]
theorem S0 {x:Int} (h:Xq x=true):(Lit.int .i64 x).wf=true:=by
 simp only [Xq,decide_eq_true_eq] at h
 exact GX (by omega) (by omega)
theorem QR {xs acc:List Int} {k:Nat} (h:k<xs.length):(xs.take (k+1)).foldl Z9 acc=Z9 ((xs.take k).foldl Z9 acc) (xs.getD k 0):=by
 rw [R7 h,List.foldl_append]
 rfl
theorem NL (a:Option Addr) (n cap:Nat) (xs:List Int) (a':Option Addr) (n' cap':Nat) (ys:List Int) (w:World) (h:ZW .i64 w a n cap xs) (h':ZW .i64 w a' n' cap' ys) (hn:n≤100000) (hn':n'≤100000) :
  Calls Tryz.prog 151 #[.slice a n cap,.slice a' n' cap'] w fun e w'=>TK e w' w.heap.size (YK (xs++ys))∧Below w.heap.size w w':=by
 have hl:=h.1
 have hl':=h'.1
 have q0:=Xu w 3 1 w.heap.size (Nat.le_refl _)
 have b0:Below w.heap.size w (w.alloc (.cells #[] 3)):=by go_grown
 obtain ⟨R,hR⟩:∃ R:World→Value→List Int→Prop,∀ W v zs,R W v zs↔(∃ g c,v=.slice (some ⟨g,0,none⟩) zs.length c∧W.ownsRow w.heap.size 3 1 v zs.length (zs.map (Value.int .i64)))∧Below w.heap.size w W:=⟨fun W v zs=>(∃ g c,v=.slice (some ⟨g,0,none⟩) zs.length c∧W.ownsRow w.heap.size 3 1 v zs.length (zs.map (Value.int .i64)))∧Below w.heap.size w W,fun _ _ _=>Iff.rfl⟩
 have hR0:R (w.alloc (.cells #[] 3)) (.slice (some ⟨w.heap.size,0,none⟩) 0 0) []:=(hR _ _ _).2 ⟨⟨_,_,rfl,q0⟩,b0⟩
 have hlx:∀ k,((xs.take k).foldl Z9 []).length≤100000:=fun k=>by
  have:=XM (xs.take k) []
  simp at this
  omega
 have hly:∀ k,((ys.take k).foldl Z9 (YK xs)).length≤200000:=fun k=>by
  have h1:=XM (ys.take k) (YK xs)
  have h2:=Hf xs
  simp at h1
  omega
 clear q0 b0
 go_enter Tryz.func151,Tryz.ntmps151
 go_wp2_with fail
 go_loopw [5,6] (fun so si wr=>∃ k:Nat,k≤n∧si=.int .i64 k∧R wr so ((xs.take k).foldl Z9 [])) (fun _ si _=>n - (Go.RowKit.intOf si).toNat)
 case atStart=>exact ⟨0,by omega,rfl,hR0⟩
 case round =>
  obtain ⟨k,hk,rfl,hr⟩:=hrel
  obtain ⟨⟨g,c,hv,q⟩,hb⟩:=(hR _ _ _).1 hr
  subst hv
  by_cases hlt:k<n
  ·have hfo:=QR (xs:=xs) (acc:=[]) (k:=k) (by omega)
   obtain ⟨_,_,_,hcase⟩:=h.below hb
   rcases hcase with e0 | ⟨b,off,rfl,hb9,hc⟩
   ·omega
   have d0:=hc k hlt
   have hlz:=hlx k
   generalize xs.getD k 0=x at d0 hfo
   generalize hzs:(xs.take k).foldl Z9 []=zs at *
   have kP:=Q1 g 0 zs.length c zs x wr (QW q) (by omega)
   have HFo:Hid ((xs.take (k+1)).foldl Z9 []=Z9 zs x):=hfo
   clear hfo hc hb9 hzs
   have hlt':(k:Int)<(n:Int):=by omega
   have hk0:(0:Int)≤(k:Int):=by omega
   have hs9:=hb.size
   go_wp2_with fail
   refine kP.mono ?_
   rintro e w1 ⟨⟨v1,rfl,q1⟩,hb1⟩
   obtain ⟨g1,c1,rfl⟩:=SB q1 (by
    have hm:=(Vp zs x x).2 (.inl rfl)
    exact List.length_pos_of_mem hm)
   have hr1:R w1 (.slice (some ⟨g1,0,none⟩) (Z9 zs x).length c1) ((xs.take (k+1)).foldl Z9 []):=by
    rw [HFo.out]
    exact (hR _ _ _).2 ⟨⟨_,_,rfl,ZT q1 hs9⟩,Zm hb hb1⟩
   clear q1 hb1 kP
   go_wp2
   go_roundw
   case rel=>exact ⟨k+1,by omega,by go_num,hr1⟩
   case measure=>simp [Go.RowKit.intOf];omega
  obtain rfl:k=n:=by omega
  have e9:(xs.take k).foldl Z9 []=YK xs:=by rw [List.take_of_length_le (by omega)];rfl
  rw [e9] at hr q
  clear e9 hlt hR0
  rw [show ((xs.take k).foldl Z9 []).length=(YK xs).length by rw [List.take_of_length_le (by omega)];rfl] at *
  go_wp2_with fail
  go_loopw [5,7] (fun so si wr=>∃ k:Nat,k≤n'∧si=.int .i64 k∧R wr so ((ys.take k).foldl Z9 (YK xs))) (fun _ si _=>n' - (Go.RowKit.intOf si).toNat)
  case atStart=>exact ⟨0,by omega,rfl,hr⟩
  case round =>
   clear hr q hb
   obtain ⟨j,hj,rfl,hr⟩:=hrel
   obtain ⟨⟨g2,c2,hv,q⟩,hb⟩:=(hR _ _ _).1 hr
   subst hv
   by_cases hlt:j<n'
   ·have hfo:=QR (xs:=ys) (acc:=YK xs) (k:=j) (by omega)
    obtain ⟨_,_,_,hcase⟩:=h'.below hb
    rcases hcase with e0 | ⟨b,off,rfl,hb9,hc⟩
    ·omega
    have d0:=hc j hlt
    have hlz:=hly j
    generalize ys.getD j 0=x at d0 hfo
    generalize hzs:(ys.take j).foldl Z9 (YK xs)=zs at *
    have kP:=Q1 g2 0 zs.length c2 zs x wr (QW q) (by omega)
    have HFo:Hid ((ys.take (j+1)).foldl Z9 (YK xs)=Z9 zs x):=hfo
    clear hfo hc hb9 hzs
    have hlt':(j:Int)<(n':Int):=by omega
    have hk0:(0:Int)≤(j:Int):=by omega
    have hs9:=hb.size
    go_wp2_with fail
    refine kP.mono ?_
    rintro e w1 ⟨⟨v1,rfl,q1⟩,hb1⟩
    obtain ⟨g1,c1,rfl⟩:=SB q1 (by
     have hm:=(Vp zs x x).2 (.inl rfl)
     exact List.length_pos_of_mem hm)
    have hr1:R w1 (.slice (some ⟨g1,0,none⟩) (Z9 zs x).length c1) ((ys.take (j+1)).foldl Z9 (YK xs)):=by
     rw [HFo.out]
     exact (hR _ _ _).2 ⟨⟨_,_,rfl,ZT q1 hs9⟩,Zm hb hb1⟩
    clear q1 hb1 kP
    go_wp2
    go_roundw
    case rel=>exact ⟨j+1,by omega,by go_num,hr1⟩
    case measure=>simp [Go.RowKit.intOf];omega
   obtain rfl:j=n':=by omega
   have HE:Hid ((ys.take j).foldl Z9 (YK xs)=YK (xs++ys)):=by
    rw [Hid,List.take_of_length_le (by omega)]
    unfold YK
    rw [List.foldl_append]
   clear hr
   generalize (ys.take j).foldl Z9 (YK xs)=zs at *
   go_wp2
   go_ret
   exact ⟨⟨_,rfl,by rw [← HE.out];exact q⟩,hb⟩


theorem Y5 {es:List E3} {t:Nat} (h:t<es.length):es.getD t e3d=es[t]:=by simp [List.getD,List.getElem?_eq_getElem h]
theorem XA {es:List E3}:YQ es=true↔(∀ e ∈ es,Wi e=true)∧es.Pairwise (fun a b=>ltS a.1 b.1=true)∧es.length≤2000:=by
 constructor
 ·intro h
  refine ⟨fun e he=>?_,?_,Ul h⟩
  ·obtain ⟨t,ht,rfl⟩:=List.getElem_of_mem he
   rw [← Y5 ht]
   exact K2 h ht
  rw [List.pairwise_iff_getElem]
  intro i j hi hj hij
  rw [← Y5 hi,← Y5 hj]
  exact NU h hij hj
 rintro ⟨h1,h2,h3⟩
 simp only [YQ,Bool.and_eq_true,decide_eq_true_eq]
 refine ⟨XQ fun k hk=>?_,h3⟩
 simp only [VJ,Bool.and_eq_true,Bool.or_eq_true,decide_eq_true_eq]
 refine ⟨?_,?_⟩
 ·rw [Y5 hk]
  exact h1 _ (List.getElem_mem _)
 by_cases h0:k=0
 ·exact .inl h0
 right
 rw [Y5 hk,Y5 (show k - 1<es.length by omega)]
 exact List.pairwise_iff_getElem.1 h2 (k - 1) k (by omega) hk (by omega)
theorem TU {es:List E3} {n:Nat} {e:E3} (h:e ∈ es.take n):∃ t,t<n∧t<es.length∧e=es.getD t e3d:=by
 obtain ⟨t,ht,rfl⟩:=List.getElem_of_mem h
 rw [List.length_take] at ht
 refine ⟨t,by omega,by omega,?_⟩
 rw [Y5 (by omega)]
 simp
theorem Q8 {es:List E3} {n:Nat} {e:E3} (h:e ∈ es.drop n):∃ t,n≤t∧t<es.length∧e=es.getD t e3d:=by
 obtain ⟨t,ht,rfl⟩:=List.getElem_of_mem h
 rw [List.length_drop] at ht
 refine ⟨n+t,by omega,by omega,?_⟩
 rw [Y5 (by omega)]
 simp
theorem N4 {es:List E3} {e:E3}:(Wy es e).length=if isE es e.1 then es.length else es.length+1:=by
 have h1:=P2 es e.1
 unfold Wy
 rw [List.length_append,List.length_append,List.length_take,List.length_singleton,List.length_drop]
 cases hc:isE es e.1
 ·simp
  omega
 have:Yn es e.1<es.length:=by
  simp only [isE,Bool.and_eq_true,decide_eq_true_eq] at hc
  exact hc.1
 simp
 omega
theorem N9 {zs:List Int} (h:Vr zs=true):∀ i,i<zs.length→(i:Int)≤zs.getD i 0∧Xq (zs.getD i 0)=true
 | 0,hi=>by
  have:=Vt h hi
  simp only [UX,Bool.and_eq_true,Bool.or_eq_true,decide_eq_true_eq] at this
  refine ⟨?_,this.1⟩
  have h1:=this.1
  simp only [Xq,decide_eq_true_eq] at h1
  omega
 | i+1,hi=>by
  have h0:=N9 h i (by omega)
  have:=Vt h hi
  simp only [UX,Bool.and_eq_true,Bool.or_eq_true,decide_eq_true_eq] at this
  refine ⟨?_,this.1⟩
  rcases this.2 with h1 | h1
  ·omega
  rw [Nat.add_sub_cancel] at h1
  omega


def TJ (x:Ending) (w':World) (B:Nat) (es:List E3):Prop:=∃ v,x=.returned (.agg #[v])∧Yo w' B v es
theorem TJ.mk9 {w':World} {B:Nat} {v:Value} {es:List E3} (h:Yo w' B v es):TJ (.returned (.agg #[v])) w' B es:=⟨v,rfl,h⟩
theorem WH.lower {x:Ending} {w':World} {B B':Nat} {e:E3} (h:WH x w' B e) (hB:B'≤B):WH x w' B' e:=by
 obtain ⟨s,h1,h2⟩:=h
 exact ⟨s,h1,h2.lower hB⟩
theorem Pc (w:World) (cs:List Value) (t:TypeId):∀ ad,some (⟨w.heap.size,0,none⟩:Addr)=some ad→∀ j u,cs[j]?=some u→(w.alloc (.cells cs.toArray t)).cell? (ad.add j)=some u:=by
 intro ad ha j u hj
 cases ha
 have e:(⟨w.heap.size,0,none⟩:Addr).add j=⟨w.heap.size,0+j,none⟩:=by unfold Addr.add;split<;>simp_all
 rw [e,Nat.zero_add]
 have p:Blk (w.alloc (.cells cs.toArray t)) w.heap.size t cs:=Zh _ _ _ rfl
 rw [p.cell j]
 exact hj
theorem UN (k:ByteArray) (s:Sl2):∀ u ∈ Yl k s,u.oneCell'=true:=by
 intro u hu
 simp [Yl] at hu
 rcases hu with rfl | rfl | rfl<;>rfl
theorem R8 {es:List E3} {k:Nat} (h:k<es.length):es.take k++[es.getD k e3d]=es.take (k+1):=by
 rw [List.take_add_one,List.getElem?_eq_getElem h,Y5 h]
 rfl
def SmE (es:List E3):Prop:=es.length≤2000∧∀ i,i<es.length→(es.getD i e3d).2.1.length≤1048576∧(es.getD i e3d).2.2.length≤1048576
theorem MV (a:Option Addr) (n cap:Nat) (es:List E3) (w:World) (h:XF w a n cap es) (hok:SmE es) :
  Calls Tryz.prog 47 #[.agg #[.slice a n cap]] w fun e w'=>TJ e w' w.heap.size (es)∧Below w.heap.size w w':=by
 obtain ⟨i0,hi0,hz0,hz1,hz2⟩:=info_parts Vy
 have hl:=h.1
 have hn:n≤2000:=by have:=hok.1;omega
 have bu:Below w.heap.size w ((w.alloc (.cells #[.slice a n cap] 47)).alloc (.cells #[.slice none 0 0] 47)):=by go_grown
 have pM:Blk ((w.alloc (.cells #[.slice a n cap] 47)).alloc (.cells #[.slice none 0 0] 47)) w.heap.size 47 [.slice a n cap]:=Zf _ (Zh _ _ _ rfl)
 have pR:Blk ((w.alloc (.cells #[.slice a n cap] 47)).alloc (.cells #[.slice none 0 0] 47)) (w.heap.size+1) 47 [.slice none 0 0]:=Zh _ _ _ (by simp)
 have g0:=pM.cell 0
 simp only [List.getElem?_cons_zero] at g0
 go_enter Tryz.func47,Tryz.ntmps47
 go_wp2_with fail
 have bE:Below ((w.alloc (.cells #[.slice a n cap] 47)).alloc (.cells #[.slice none 0 0] 47)).heap.size ((w.alloc (.cells #[.slice a n cap] 47)).alloc (.cells #[.slice none 0 0] 47)) (((w.alloc (.cells #[.slice a n cap] 47)).alloc (.cells #[.slice none 0 0] 47)).alloc (.cells #[] 109)):=by go_grown
 have M0:Yo (((w.alloc (.cells #[.slice a n cap] 47)).alloc (.cells #[.slice none 0 0] 47)).alloc (.cells #[] 109)) (w.heap.size+2) (.slice (some ⟨w.heap.size+1+1,0,none⟩) 0 0) []:=by
  have h9:=Xu ((w.alloc (.cells #[.slice a n cap] 47)).alloc (.cells #[.slice none 0 0] 47)) 109 3 (w.heap.size+2) (by simp)
  exact ⟨[],by simpa using h9,fun t ht=>by simp at ht,fun t _ ht=>by simp at ht⟩
 have bU:=Zm bu bE
 have gU:=Zy bE g0
 have rU:=pR.below bE
 generalize (((w.alloc (.cells #[.slice a n cap] 47)).alloc (.cells #[.slice none 0 0] 47)).alloc (.cells #[] 109))=U at *
 have rUs:w.heap.size+2≤U.heap.size:=by have:=rU.lt;omega
 go_loopw [3,4] (fun so si wr=>∃ (k:Nat) (va:Option Addr) (vn vc:Nat),k≤n∧si=.int .i64 k∧so=.slice va vn vc∧Yo wr (w.heap.size+2) (.slice va vn vc) (es.take k)∧Below w.heap.size w wr∧wr.cell? ⟨w.heap.size,0,none⟩=some (.slice a n cap)∧Blk wr (w.heap.size+1) 47 [.slice none 0 0]∧w.heap.size+2≤wr.heap.size) (fun _ si _=>n - (intOf si).toNat)
 case atStart=>exact ⟨0,_,_,_,by omega,rfl,rfl,by simpa using M0,bU,gU,rU,rUs⟩
 case round =>
  obtain ⟨k,xa,xn,xc,hk,rfl,rfl,hM,bw,gw,pW,hsW⟩:=hrel
  by_cases hlt:k<n
  ·obtain ⟨_,_,_,hcase⟩:=h.below bw
   rcases hcase with e0 | ⟨b,off,rfl,hb,hc⟩
   ·omega
   obtain ⟨s,x0,x1,x2,hm⟩:=hc k hlt
   clear hc hb
   have hek:=hok.2 k (by omega)
   have y1:=hek.1
   have y2:=hek.2
   have kE:=fun W (hb:Below wr.heap.size wr W)=>(RB (es.getD k e3d) s W (hm.below hb) (by omega) (by omega)).mono (fun x w' h9=>(⟨h9.1.lower hb.size,Zm hb h9.2⟩:WH x w' wr.heap.size (es.getD k e3d)∧Below wr.heap.size wr w'))
   have hsn:=R8 (es:=es) (k:=k) (by omega)
   clear hm hek y1 y2
   generalize es.getD k e3d=x at *
   generalize hps:es.take k=ps at *
   have hpl:ps.length≤2000:=by rw [← hps];rw [List.length_take];omega
   clear hps
   obtain ⟨xk,xb,xz⟩:=x
   obtain ⟨⟨a1,n1,c1⟩,⟨a2,n2,c2⟩⟩:=s
   unfold ZU at kE
   simp only at x0 x1 x2 kE
   have hlt':(k:Int)<(n:Int):=by omega
   have hk0:(0:Int)≤(k:Int):=by omega
   go_wp2_with fail
   refine (kE _ (Below.refl _ _)).mono ?_
   rintro e w1 ⟨⟨⟨⟨d1,p1,q1⟩,⟨d2,p2,q2⟩⟩,rfl,hO⟩,hbn⟩
   obtain ⟨cs,ho,hE⟩:=hM
   have hb2:Below w1.heap.size w1 (w1.alloc (.cells #[.string xk,.slice d1 p1 q1,.slice d2 p2 q2] 109)):=by go_grown
   have ho2:=Zp (Zp ho hbn) hb2
   have hs2:w.heap.size+2≤(w1.alloc (.cells #[.string xk,.slice d1 p1 q1,.slice d2 p2 q2] 109)).heap.size:=by have:=hb2.size;have:=hbn.size;omega
   clear x0 x1 x2 kE
   unfold ZU
   simp only
   go_wp2_with (at_builtin;refine Xg rfl _ _ 45 rfl (w.heap.size+2) 109 i0 (.agg #[.string ⟨#[]⟩,.slice none 0 0,.slice none 0 0]) 3 64 Tryz.underlying45 hi0 hz0 hz1 hz2 rfl (by decide) _ _ _ rfl ho2 _ 1 1 rfl (fun h9=>by cases h9) (Yl xk ((d1,p1,q1),(d2,p2,q2))) (by simp [Yl]) (Pc w1 [.string xk,.slice d1 p1 q1,.slice d2 p2 q2] 109) (UN _ _) (by unfold maxLen;omega) (by omega) hs2 ?_)
   intro v3 w3 hown hgrow _
   obtain ⟨va9,vc9,rfl⟩:=ZH hown
   have hM3:=Yo.snoc9 (s:=((d1,p1,q1),(d2,p2,q2))) ho hE hbn hO hb2 hgrow hown (by omega)
   have hgB:∀ g,(Value.ownBlock (.slice xa xn xc))=some g→w.heap.size+2≤g:=fun g hg=>(ho2.lt g hg).1
   have b3:Below w.heap.size w w3:=(Zm (Zm bw hbn) hb2).grown hgrow (by omega) (fun g hg=>by have:=hgB g hg;omega)
   have g3:=(Blk.kept ((pW.below hbn).below hb2) hgrow (fun e9=>by have:=hgB _ e9;omega))
   have c3:w3.cell? ⟨w.heap.size,0,none⟩=some (.slice (some ⟨b,off,none⟩) n cap):=Zn hgrow (Zy hb2 (Zy hbn gw)) (fun e9=>by have:=hgB _ e9.symm;simp at this;omega)
   have s3:w.heap.size+2≤w3.heap.size:=Nat.le_trans hs2 hgrow.size
   skip
   clear ho hE hbn hO hb2 ho2 hs2 hown hgrow hgB
   go_wp2
   go_roundw
   case rel=>exact ⟨k+1,_,_,_,by omega,by go_num,rfl,by rw [← hsn];exact hM3,b3,c3,g3,s3⟩
   case measure=>simp [intOf];omega
  obtain rfl:k=n:=by omega
  have e9:es.take k=es:=by rw [List.take_of_length_le (by omega)]
  rw [e9] at hM
  have r0:=pW.cell 0
  have fr0:=pW.frozen 0
  have pZ:=pW.set 0 (.slice xa xn xc)
  simp only [List.set_cons_zero] at pZ
  have z0:=pZ.cell 0
  simp only [List.getElem?_cons_zero] at z0 r0
  have hM9:=(hM.low (p:=⟨w.heap.size+1,0,none⟩) (show w.heap.size+1<w.heap.size+2 by omega) (.slice xa xn xc)).lower (show w.heap.size≤w.heap.size+2 by omega)
  have bz:=bw.setCell (p:=⟨w.heap.size+1,0,none⟩) (show w.heap.size≤w.heap.size+1 by omega) (.slice xa xn xc)
  clear hM pZ pW bw e9
  go_wp2
  refine bodyPost_ret (by simp [results,Tryz.results47,go_sem,z0];try rfl) rfl ?_
  exact ⟨TJ.mk9 hM9,bz⟩

open Go.RowKit Go.Sort

def MH (a b:ByteArray):Int:=Lib.compareBytes a.data.toList b.data.toList
theorem LA:∀ a b:List UInt8,Lib.compareBytes a b<0↔Go.Op.bytesLess a b=true
 | [],[]=>by simp [Lib.compareBytes,Go.Op.bytesLess]
 | [],_::_=>by simp [Lib.compareBytes,Go.Op.bytesLess]
 | _::_,[]=>by simp [Lib.compareBytes,Go.Op.bytesLess]
 | x::a,y::b=>by
  rw [UH,Lib.compareBytes]
  by_cases h1:x<y
  ·simp [h1]
  rw [if_neg h1]
  by_cases h2:y<x
  ·rw [if_pos h2]
   constructor
   ·intro h;omega
   rintro (h | ⟨h,_⟩)
   ·exact absurd h h1
   subst h;exact absurd h2 h1
  rw [if_neg h2,LA a b]
  have e:x=y:=UInt8.le_antisymm (UInt8.not_lt.1 h2) (UInt8.not_lt.1 h1)
  subst e
  simp
theorem Gt (a b:ByteArray):MH a b<0↔ltS a b=true:=by
 unfold MH ltS
 rw [LA,Go.ByteArray.toList_eq,Go.ByteArray.toList_eq]
theorem TO (a b:ByteArray) (w:World):Calls Tryz.prog 220 #[.string a,.string b] w fun e w'=>e=.returned (.int .i64 (MH a b))∧w=w':=by
 go_enter Tryz.func220,Tryz.ntmps220
 go_wp2
 rw [run_callFunc_extern Tryz.func237 (by kernel_rfl) (by kernel_rfl) (by kernel_rfl) (e:=Extern.BytealgCompare.compare) (by kernel_rfl),Lib.run_compareString]
 simp only [Result.andThen]
 rw [Oper.upon_value]
 go_wp2
 go_ret
 exact ⟨rfl,rfl⟩
theorem TC (a b:ByteArray) (w:World):Calls Tryz.prog 204 #[.string a,.string b] w fun e w'=>e=.returned (.int .i64 (MH a b))∧w=w':=by
 have k:=TO a b w
 go_enter Tryz.func204,Tryz.ntmps204
 go_wp2_with fail
 refine k.mono ?_
 rintro e w1 ⟨rfl,rfl⟩
 go_wp2
 go_ret
 exact ⟨rfl,rfl⟩
theorem Sf (k:ByteArray) (s:Sl2) (w:World):Calls Tryz.prog 275 #[ZU k s] w fun e w'=>e=.returned (.string k)∧Below w.heap.size w w':=by
 obtain ⟨⟨a1,n1,c1⟩,⟨a2,n2,c2⟩⟩:=s
 unfold ZU
 have bu:Below w.heap.size w (w.alloc (.cells #[.string k,.slice a1 n1 c1,.slice a2 n2 c2] 109)):=by go_grown
 go_enter Tryz.func275,Tryz.ntmps275
 go_wp2
 go_ret
 exact ⟨rfl,bu⟩
theorem GF (v:Value) (w:World):(Go.method 441 109 v "loop.example/g00632/impl.key").run Tryz.prog w=.ok (275,v) w:=by kernel_rfl
theorem Rh (k k2:ByteArray) (s s2:Sl2) (w:World):Calls Tryz.prog 161 #[ZU k s,ZU k2 s2] w fun e w'=>e=.returned (.int .i64 (MH k k2))∧Below w.heap.size w w':=by
 have kX:=fun W=>Sf k s W
 have kY:=fun W=>Sf k2 s2 W
 have kC:=fun W=>TC k k2 W
 have mK:=fun v W=>GF v W
 have eK:∀ args w,(callFunc 275 args).run Tryz.prog w=.ok (.enter 275 args) w:=Go.Proofs.enters_of Tryz.func275 (by kernel_rfl) rfl
 obtain ⟨⟨a1,n1,c1⟩,⟨a2,n2,c2⟩⟩:=s
 obtain ⟨⟨b1,m1,d1⟩,⟨b2,m2,d2⟩⟩:=s2
 unfold ZU at *
 simp only at *
 have bw:Below w.heap.size w ((w.alloc (.cells #[.string k,.slice a1 n1 c1,.slice a2 n2 c2] 109)).alloc (.cells #[.string k2,.slice b1 m1 d1,.slice b2 m2 d2] 109)):=by go_grown
 have pX:Blk ((w.alloc (.cells #[.string k,.slice a1 n1 c1,.slice a2 n2 c2] 109)).alloc (.cells #[.string k2,.slice b1 m1 d1,.slice b2 m2 d2] 109)) w.heap.size 109 [.string k,.slice a1 n1 c1,.slice a2 n2 c2]:=Zf _ (Zh _ _ _ rfl)
 have pY:Blk ((w.alloc (.cells #[.string k,.slice a1 n1 c1,.slice a2 n2 c2] 109)).alloc (.cells #[.string k2,.slice b1 m1 d1,.slice b2 m2 d2] 109)) (w.heap.size+1) 109 [.string k2,.slice b1 m1 d1,.slice b2 m2 d2]:=Zh _ _ _ (by simp)
 have x0:=pX.cell 0
 have x1:=pX.cell 1
 have x2:=pX.cell 2
 have y0:=pY.cell 0
 have y1:=pY.cell 1
 have y2:=pY.cell 2
 simp only [List.getElem?_cons_zero,List.getElem?_cons_succ] at x0 x1 x2 y0 y1 y2
 clear pX pY
 go_enter Tryz.func161,Tryz.ntmps161
 go_wp2_with fail
 generalize ((w.alloc (.cells #[.string k,.slice a1 n1 c1,.slice a2 n2 c2] 109)).alloc (.cells #[.string k2,.slice b1 m1 d1,.slice b2 m2 d2] 109))=W at *
 have bd:Below w.heap.size w W.drew:=Zm bw (by go_grown)
 refine wp_region_held_drew (S:=(fun w'=>w'.cell? ⟨w.heap.size,0,none⟩=some (.string k)∧w'.cell? ⟨w.heap.size,1,none⟩=some (.slice a1 n1 c1)∧w'.cell? ⟨w.heap.size,2,none⟩=some (.slice a2 n2 c2)∧w'.cell? ⟨w.heap.size+1,0,none⟩=some (.string k2)∧w'.cell? ⟨w.heap.size+1,1,none⟩=some (.slice b1 m1 d1)∧w'.cell? ⟨w.heap.size+1,2,none⟩=some (.slice b2 m2 d2))) (by kernel_rfl) ⟨x0,x1,x2,y0,y1,y2⟩ (fun hS0=>?_)
 refine tkv 0 5 (.agg #[.string k,.slice a1 n1 c1,.slice a2 n2 c2]) ?_
 refine tkv 1 6 (.iface 109 (.agg #[.string k,.slice a1 n1 c1,.slice a2 n2 c2])) ?_
 refine tkv 3 8 (.agg #[.string k2,.slice b1 m1 d1,.slice b2 m2 d2]) ?_
 refine tkv 4 9 (.iface 109 (.agg #[.string k2,.slice b1 m1 d1,.slice b2 m2 d2])) ?_
 refine tkr 2 7 (fun K hK=>?_)
 go_simp
 refine (kX _).mono ?_
 rintro e w3 ⟨rfl,hb3⟩
 go_wp2_with fail
 refine hK.out _ _ ?_ (fun hS3=>?_)
 ·exact ⟨Za hb3 _ _ hS0.1,Za hb3 _ _ hS0.2.1,Za hb3 _ _ hS0.2.2.1,Za hb3 _ _ hS0.2.2.2.1,Za hb3 _ _ hS0.2.2.2.2.1,Za hb3 _ _ hS0.2.2.2.2.2⟩
 clear hK
 refine tkr 5 10 (fun K hK=>?_)
 go_simp
 refine (kY _).mono ?_
 rintro e w4 ⟨rfl,hb4⟩
 go_wp2_with fail
 refine hK.out _ _ ?_ (fun hS4=>?_)
 ·exact ⟨Za hb4 _ _ hS3.1,Za hb4 _ _ hS3.2.1,Za hb4 _ _ hS3.2.2.1,Za hb4 _ _ hS3.2.2.2.1,Za hb4 _ _ hS3.2.2.2.2.1,Za hb4 _ _ hS3.2.2.2.2.2⟩
 clear hK
 refine tkr 6 11 (fun K hK=>?_)
 go_simp
 refine (kC _).mono ?_
 rintro e w5 ⟨rfl,rfl⟩
 go_wp2_with fail
 refine hK.out _ _ ?_ (fun hS5=>?_)
 ·exact hS4
 clear hK
 refine tkv 7 4 (.int .i64 (MH k k2)) ?_
 refine wpAnyH_done (by kernel_rfl) ?_ _
 replace bw:=Zm (Zm bd hb3) hb4
 clear hS0 hS3 hS4 hS5 hb3 hb4 bd x0 x1 x2 y0 y1 y2
 go_wp2
 go_ret
 exact ⟨rfl,bw⟩
theorem Nm (x y:Int) (w:World):Calls Tryz.prog 142 #[.int .i64 x,.int .i64 y] w fun e w'=>e=.returned (.int .i64 (TN x y))∧Below w.heap.size w w':=by
 refine (X7 x y w).mono ?_
 rintro e w' ⟨rfl,rfl⟩
 exact ⟨rfl,Below.refl _ _⟩
theorem Pz (x y:I3) (w:World):Calls Tryz.prog 93 #[.agg #[.int .i64 x.1,.int .i64 x.2.1,.int .i64 x.2.2],.agg #[.int .i64 y.1,.int .i64 y.2.1,.int .i64 y.2.2]] w fun e w'=>e=.returned (.int .i64 (UK x y))∧Below w.heap.size w w':=by
 refine (VP x y w).mono ?_
 rintro e w' ⟨rfl,q,os,rfl⟩
 refine ⟨rfl,rfl,rfl,rfl,?_,fun k hk=>?_⟩
 ·simp [grow,World.drewN]
 simp only [grow,World.drewN]
 rw [Array.getElem?_append_left hk]
theorem Gs (x y:Int):TN x y<0↔decide (x<y)=true:=by
 unfold TN
 by_cases h1:x<y
 ·simp [h1]
 by_cases h2:y<x
 ·simp [h1,h2]
 simp [h1,h2]
theorem JO (x y:I3):UK x y<0↔ltB x y=true:=by
 rw [← WV x y]
 unfold ltOf
 simp
def stI (xs:List Int) (i:Nat):Bool:=decide (i=0) || (decide ((xs.getD (i - 1) 0)<(xs.getD i 0)))
def upI (xs:List Int):Bool:=(List.range xs.length).all (stI xs)
theorem Jj (a:Option Addr) (n cap:Nat) (xs:List Int) (w:World) (h:ZW .i64 w a n cap xs) :
  Calls Tryz.prog 159 #[.slice a n cap,.func (.func 142) #[] #[]] w fun e w'=>e=.returned (.bool (upI xs))∧Below w.heap.size w w':=by
 obtain ⟨r,hr⟩:∃ r,r=upI xs:=⟨_,rfl⟩
 rw [← hr]
 have HR:Hid (r=upI xs):=hr
 clear hr
 have hl:=h.1
 have hnm:n≤maxLen:=Nat.le_trans h.2.1 h.2.2.1
 unfold maxLen at hnm
 go_enter Tryz.func159,Tryz.ntmps159
 go_wp2_with fail
 go_loopw [5] (fun si wr=>∃ k:Nat,1≤k∧(k≤n∨k=1)∧si=.int .i64 k∧Hid (∀ i,i<k→stI xs i=true)∧Below w.heap.size w wr) (fun si _=>n - (intOf si).toNat)
 case atStart => exact ⟨1, by omega, .inr rfl, rfl, (fun i hi => by obtain rfl : i = 0 := by omega
                                                                    rfl),Below.refl _ _⟩
 case round =>
  obtain ⟨k,hk1,hk,rfl,HK,bw⟩:=hrel
  by_cases hlt:k<n
  ·obtain ⟨m,rfl⟩:∃ m,k=m+1:=⟨k - 1,by omega⟩
   have bd:Below w.heap.size w wr.drew:=Zm bw (by go_grown)
   obtain ⟨_,_,_,hcase⟩:=h.below bd
   rcases hcase with e0 | ⟨b,off,rfl,hb,hc⟩
   ·omega
   have x0:=hc m (by omega)
   have y0:=hc (m+1) hlt
   have hst:stI xs (m+1)=decide (xs.getD m 0<xs.getD (m+1) 0):=by unfold stI;simp
   have kC:=fun W=>Nm (xs.getD m 0) (xs.getD (m+1) 0) W
   have hcl:=Gs (xs.getD m 0) (xs.getD (m+1) 0)
   generalize TN (xs.getD m 0) (xs.getD (m+1) 0)=c at *
   generalize xs.getD m 0=x at *
   generalize xs.getD (m+1) 0=y at *
   have hlt2:((m+1:Nat):Int)<(n:Int):=by omega
   have hm0:(0:Int)≤(m:Int):=by omega
   have HC:Hid (c<0↔decide (x<y)=true):=hcl
   have HT:Hid (stI xs (m+1)=decide (x<y)):=hst
   clear hcl hst hc hb
   generalize decide (x<y)=lt at *
   by_cases hneg:c<0
   ·have HK2:Hid (∀ i,i<m+1+1→stI xs i=true):=fun i hi=>by
     by_cases e:i=m+1
     ·rw [e,HT.out];exact HC.out.1 hneg
     exact HK.out i (by omega)
    clear HK HC HT
    have hng:¬ (0:Int)≤c:=by omega
    have hge:decide ((0:Int)≤c)=false:=by simp;omega
    clear hneg
    go_wp2_with fail
    refine wp_region_held_drew (S:=(fun w'=>w'.cell? ⟨b,off+m,none⟩=some (.int .i64 x)∧w'.cell? ⟨b,off+(m+1),none⟩=some (.int .i64 y))) (by kernel_rfl) ⟨x0,y0⟩ (fun hS0=>?_)
    refine tkv 0 12 (.func (.func 142) #[] #[]) ?_
    refine tkv 1 13 (.slice (some ⟨b,off,none⟩) n cap) ?_
    refine tkv 2 14 (.int .i64 ((m+1:Nat):Int)) ?_
    refine tkv 3 15 (.int .i64 (m:Int)) ?_
    refine tkv 4 16 (.pointer (some ⟨b,off+m,none⟩)) ?_
    refine tkv 5 17 (.int .i64 x) ?_
    refine tkv 6 18 (.slice (some ⟨b,off,none⟩) n cap) ?_
    refine tkv 7 19 (.int .i64 ((m+1:Nat):Int)) ?_
    refine tkv 8 20 (.pointer (some ⟨b,off+(m+1),none⟩)) ?_
    refine tkv 9 21 (.int .i64 y) ?_
    refine tkr 10 22 (fun K hK=>?_)
    go_simp
    refine (kC _).mono ?_
    rintro e w5 ⟨rfl,hb5⟩
    go_wp2_with fail
    refine hK.out _ _ ?_ (fun hS5=>?_)
    ·exact ⟨Za hb5 _ _ hS0.1,Za hb5 _ _ hS0.2⟩
    clear hK
    refine tkv 11 23 (.bool false) ?_
    refine wpAnyH_done (by kernel_rfl) ?_ _
    replace bw:=Zm bd hb5
    clear hS0 hS5 hb5 bd x0 y0
    go_wp2
    go_roundw
    case rel=>exact ⟨m+1+1,by omega,.inl (by omega),by go_num,HK2,bw⟩
    case measure=>simp [intOf];omega
   have HF:Hid (r=false):=by
    rw [Hid,HR.out]
    refine YW (k:=m+1) (by omega) ?_
    rw [HT.out]
    cases hq:lt
    ·rfl
    exact absurd (HC.out.2 hq) hneg
   clear HK HC HT
   have hpo:(0:Int)≤c:=by omega
   have hge:decide ((0:Int)≤c)=true:=by simp;omega
   clear hneg
   go_wp2_with fail
   refine wp_region_held_drew (S:=(fun w'=>w'.cell? ⟨b,off+m,none⟩=some (.int .i64 x)∧w'.cell? ⟨b,off+(m+1),none⟩=some (.int .i64 y))) (by kernel_rfl) ⟨x0,y0⟩ (fun hS0=>?_)
   refine tkv 0 12 (.func (.func 142) #[] #[]) ?_
   refine tkv 1 13 (.slice (some ⟨b,off,none⟩) n cap) ?_
   refine tkv 2 14 (.int .i64 ((m+1:Nat):Int)) ?_
   refine tkv 3 15 (.int .i64 (m:Int)) ?_
   refine tkv 4 16 (.pointer (some ⟨b,off+m,none⟩)) ?_
   refine tkv 5 17 (.int .i64 x) ?_
   refine tkv 6 18 (.slice (some ⟨b,off,none⟩) n cap) ?_
   refine tkv 7 19 (.int .i64 ((m+1:Nat):Int)) ?_
   refine tkv 8 20 (.pointer (some ⟨b,off+(m+1),none⟩)) ?_
   refine tkv 9 21 (.int .i64 y) ?_
   refine tkr 10 22 (fun K hK=>?_)
   go_simp
   refine (kC _).mono ?_
   rintro e w5 ⟨rfl,hb5⟩
   go_wp2_with fail
   refine hK.out _ _ ?_ (fun hS5=>?_)
   ·exact ⟨Za hb5 _ _ hS0.1,Za hb5 _ _ hS0.2⟩
   clear hK
   refine tkv 11 23 (.bool true) ?_
   refine wpAnyH_done (by kernel_rfl) ?_ _
   replace bw:=Zm bd hb5
   clear hS0 hS5 hb5 bd x0 y0
   go_wp2
   go_ret
   exact ⟨by rw [HF.out];rfl,bw⟩
  have HF:Hid (r=true):=by
   rw [Hid,HR.out]
   exact XQ fun i hi=>HK.out i (by omega)
  have hlt2:¬ (k:Int)<(n:Int):=by omega
  clear HK
  go_wp2
  go_ret
  exact ⟨by rw [HF.out];rfl,bw⟩
def stB (xs:List I3) (i:Nat):Bool:=decide (i=0) || (ltB (xs.getD (i - 1) (0,0,0)) (xs.getD i (0,0,0)))
def upB (xs:List I3):Bool:=(List.range xs.length).all (stB xs)
theorem Jh (a:Option Addr) (n cap:Nat) (xs:List I3) (w:World) (h:Zj w a n cap xs) :
  Calls Tryz.prog 202 #[.slice a n cap,.func (.func 93) #[] #[]] w fun e w'=>e=.returned (.bool (upB xs))∧Below w.heap.size w w':=by
 obtain ⟨r,hr⟩:∃ r,r=upB xs:=⟨_,rfl⟩
 rw [← hr]
 have HR:Hid (r=upB xs):=hr
 clear hr
 have hl:=h.1
 have hnm:n≤maxLen:=Nat.le_trans h.2.1 h.2.2.1
 unfold maxLen at hnm
 go_enter Tryz.func202,Tryz.ntmps202
 go_wp2_with fail
 go_loopw [5] (fun si wr=>∃ k:Nat,1≤k∧(k≤n∨k=1)∧si=.int .i64 k∧Hid (∀ i,i<k→stB xs i=true)∧Below w.heap.size w wr) (fun si _=>n - (intOf si).toNat)
 case atStart => exact ⟨1, by omega, .inr rfl, rfl, (fun i hi => by obtain rfl : i = 0 := by omega
                                                                    rfl),Below.refl _ _⟩
 case round =>
  obtain ⟨k,hk1,hk,rfl,HK,bw⟩:=hrel
  by_cases hlt:k<n
  ·obtain ⟨m,rfl⟩:∃ m,k=m+1:=⟨k - 1,by omega⟩
   have bd:Below w.heap.size w wr.drew:=Zm bw (by go_grown)
   obtain ⟨_,_,_,_,hcase⟩:=h.below bd
   rcases hcase with e0 | ⟨b,off,rfl,hb,hc⟩
   ·omega
   obtain ⟨x0,x1,x2⟩:=hc m (by omega)
   obtain ⟨y0,y1,y2⟩:=hc (m+1) hlt
   have hst:stB xs (m+1)=ltB (xs.getD m (0,0,0)) (xs.getD (m+1) (0,0,0)):=by unfold stB;simp
   have kC:=fun W=>Pz (xs.getD m (0,0,0)) (xs.getD (m+1) (0,0,0)) W
   have hcl:=JO (xs.getD m (0,0,0)) (xs.getD (m+1) (0,0,0))
   generalize UK (xs.getD m (0,0,0)) (xs.getD (m+1) (0,0,0))=c at *
   generalize xs.getD m (0,0,0)=x at *
   generalize xs.getD (m+1) (0,0,0)=y at *
   generalize ltB x y=lt at *
   obtain ⟨p0,p1,p2⟩:=x
   obtain ⟨q0,q1,q2⟩:=y
   simp only at x0 x1 x2 y0 y1 y2 kC
   have hlt2:((m+1:Nat):Int)<(n:Int):=by omega
   have hm0:(0:Int)≤(m:Int):=by omega
   have HC:Hid (c<0↔lt=true):=hcl
   have HT:Hid (stB xs (m+1)=lt):=hst
   clear hcl hst hc hb
   skip
   by_cases hneg:c<0
   ·have HK2:Hid (∀ i,i<m+1+1→stB xs i=true):=fun i hi=>by
     by_cases e:i=m+1
     ·rw [e,HT.out];exact HC.out.1 hneg
     exact HK.out i (by omega)
    clear HK HC HT
    have hng:¬ (0:Int)≤c:=by omega
    have hge:decide ((0:Int)≤c)=false:=by simp;omega
    clear hneg
    go_wp2_with fail
    refine wp_region_held_drew (S:=(fun w'=>w'.cell? ⟨b,off+m*3,none⟩=some (.int .i64 p0)∧w'.cell? ⟨b,off+m*3+1,none⟩=some (.int .i64 p1)∧w'.cell? ⟨b,off+m*3+2,none⟩=some (.int .i64 p2)∧w'.cell? ⟨b,off+(m+1)*3,none⟩=some (.int .i64 q0)∧w'.cell? ⟨b,off+(m+1)*3+1,none⟩=some (.int .i64 q1)∧w'.cell? ⟨b,off+(m+1)*3+2,none⟩=some (.int .i64 q2))) (by kernel_rfl) ⟨x0,x1,x2,y0,y1,y2⟩ (fun hS0=>?_)
    refine tkv 0 12 (.func (.func 93) #[] #[]) ?_
    refine tkv 1 13 (.slice (some ⟨b,off,none⟩) n cap) ?_
    refine tkv 2 14 (.int .i64 ((m+1:Nat):Int)) ?_
    refine tkv 3 15 (.int .i64 (m:Int)) ?_
    refine tkv 4 16 (.pointer (some ⟨b,off+m*3,none⟩)) ?_
    refine tkv 5 17 (.agg #[.int .i64 p0,.int .i64 p1,.int .i64 p2]) ?_
    refine tkv 6 18 (.slice (some ⟨b,off,none⟩) n cap) ?_
    refine tkv 7 19 (.int .i64 ((m+1:Nat):Int)) ?_
    refine tkv 8 20 (.pointer (some ⟨b,off+(m+1)*3,none⟩)) ?_
    refine tkv 9 21 (.agg #[.int .i64 q0,.int .i64 q1,.int .i64 q2]) ?_
    refine tkr 10 22 (fun K hK=>?_)
    go_simp
    refine (kC _).mono ?_
    rintro e w5 ⟨rfl,hb5⟩
    go_wp2_with fail
    refine hK.out _ _ ?_ (fun hS5=>?_)
    ·exact ⟨Za hb5 _ _ hS0.1,Za hb5 _ _ hS0.2.1,Za hb5 _ _ hS0.2.2.1,Za hb5 _ _ hS0.2.2.2.1,Za hb5 _ _ hS0.2.2.2.2.1,Za hb5 _ _ hS0.2.2.2.2.2⟩
    clear hK
    refine tkv 11 23 (.bool false) ?_
    refine wpAnyH_done (by kernel_rfl) ?_ _
    replace bw:=Zm bd hb5
    clear hS0 hS5 hb5 bd x0 x1 x2 y0 y1 y2
    go_wp2
    go_roundw
    case rel=>exact ⟨m+1+1,by omega,.inl (by omega),by go_num,HK2,bw⟩
    case measure=>simp [intOf];omega
   have HF:Hid (r=false):=by
    rw [Hid,HR.out]
    refine YW (k:=m+1) (by omega) ?_
    rw [HT.out]
    cases hq:lt
    ·rfl
    exact absurd (HC.out.2 hq) hneg
   clear HK HC HT
   have hpo:(0:Int)≤c:=by omega
   have hge:decide ((0:Int)≤c)=true:=by simp;omega
   clear hneg
   go_wp2_with fail
   refine wp_region_held_drew (S:=(fun w'=>w'.cell? ⟨b,off+m*3,none⟩=some (.int .i64 p0)∧w'.cell? ⟨b,off+m*3+1,none⟩=some (.int .i64 p1)∧w'.cell? ⟨b,off+m*3+2,none⟩=some (.int .i64 p2)∧w'.cell? ⟨b,off+(m+1)*3,none⟩=some (.int .i64 q0)∧w'.cell? ⟨b,off+(m+1)*3+1,none⟩=some (.int .i64 q1)∧w'.cell? ⟨b,off+(m+1)*3+2,none⟩=some (.int .i64 q2))) (by kernel_rfl) ⟨x0,x1,x2,y0,y1,y2⟩ (fun hS0=>?_)
   refine tkv 0 12 (.func (.func 93) #[] #[]) ?_
   refine tkv 1 13 (.slice (some ⟨b,off,none⟩) n cap) ?_
   refine tkv 2 14 (.int .i64 ((m+1:Nat):Int)) ?_
   refine tkv 3 15 (.int .i64 (m:Int)) ?_
   refine tkv 4 16 (.pointer (some ⟨b,off+m*3,none⟩)) ?_
   refine tkv 5 17 (.agg #[.int .i64 p0,.int .i64 p1,.int .i64 p2]) ?_
   refine tkv 6 18 (.slice (some ⟨b,off,none⟩) n cap) ?_
   refine tkv 7 19 (.int .i64 ((m+1:Nat):Int)) ?_
   refine tkv 8 20 (.pointer (some ⟨b,off+(m+1)*3,none⟩)) ?_
   refine tkv 9 21 (.agg #[.int .i64 q0,.int .i64 q1,.int .i64 q2]) ?_
   refine tkr 10 22 (fun K hK=>?_)
   go_simp
   refine (kC _).mono ?_
   rintro e w5 ⟨rfl,hb5⟩
   go_wp2_with fail
   refine hK.out _ _ ?_ (fun hS5=>?_)
   ·exact ⟨Za hb5 _ _ hS0.1,Za hb5 _ _ hS0.2.1,Za hb5 _ _ hS0.2.2.1,Za hb5 _ _ hS0.2.2.2.1,Za hb5 _ _ hS0.2.2.2.2.1,Za hb5 _ _ hS0.2.2.2.2.2⟩
   clear hK
   refine tkv 11 23 (.bool true) ?_
   refine wpAnyH_done (by kernel_rfl) ?_ _
   replace bw:=Zm bd hb5
   clear hS0 hS5 hb5 bd x0 x1 x2 y0 y1 y2
   go_wp2
   go_ret
   exact ⟨by rw [HF.out];rfl,bw⟩
  have HF:Hid (r=true):=by
   rw [Hid,HR.out]
   exact XQ fun i hi=>HK.out i (by omega)
  have hlt2:¬ (k:Int)<(n:Int):=by omega
  clear HK
  go_wp2
  go_ret
  exact ⟨by rw [HF.out];rfl,bw⟩
def stE (xs:List E3) (i:Nat):Bool:=decide (i=0) || (ltS (xs.getD (i - 1) e3d).1 (xs.getD i e3d).1)
def upE (xs:List E3):Bool:=(List.range xs.length).all (stE xs)
theorem Ji (a:Option Addr) (n cap:Nat) (xs:List E3) (w:World) (h:XF w a n cap xs) :
  Calls Tryz.prog 160 #[.slice a n cap,.func (.func 161) #[] #[]] w fun e w'=>e=.returned (.bool (upE xs))∧Below w.heap.size w w':=by
 obtain ⟨r,hr⟩:∃ r,r=upE xs:=⟨_,rfl⟩
 rw [← hr]
 have HR:Hid (r=upE xs):=hr
 clear hr
 have hl:=h.1
 have hnm:n≤maxLen:=Nat.le_trans h.2.1 h.2.2.1
 unfold maxLen at hnm
 go_enter Tryz.func160,Tryz.ntmps160
 go_wp2_with fail
 go_loopw [5] (fun si wr=>∃ k:Nat,1≤k∧(k≤n∨k=1)∧si=.int .i64 k∧Hid (∀ i,i<k→stE xs i=true)∧Below w.heap.size w wr) (fun si _=>n - (intOf si).toNat)
 case atStart => exact ⟨1, by omega, .inr rfl, rfl, (fun i hi => by obtain rfl : i = 0 := by omega
                                                                    rfl),Below.refl _ _⟩
 case round =>
  obtain ⟨k,hk1,hk,rfl,HK,bw⟩:=hrel
  by_cases hlt:k<n
  ·obtain ⟨m,rfl⟩:∃ m,k=m+1:=⟨k - 1,by omega⟩
   have bd:Below w.heap.size w wr.drew:=Zm bw (by go_grown)
   obtain ⟨_,_,_,hcase⟩:=h.below bd
   rcases hcase with e0 | ⟨b,off,rfl,hb,hc⟩
   ·omega
   obtain ⟨s1,x0,x1,x2,_⟩:=hc m (by omega)
   obtain ⟨s2,y0,y1,y2,_⟩:=hc (m+1) hlt
   have hst:stE xs (m+1)=ltS (xs.getD m e3d).1 (xs.getD (m+1) e3d).1:=by unfold stE;simp
   have kC:=fun W=>Rh (xs.getD m e3d).1 (xs.getD (m+1) e3d).1 s1 s2 W
   have hcl:=Gt (xs.getD m e3d).1 (xs.getD (m+1) e3d).1
   generalize MH (xs.getD m e3d).1 (xs.getD (m+1) e3d).1=c at *
   generalize (xs.getD m e3d).1=x at *
   generalize (xs.getD (m+1) e3d).1=y at *
   generalize ltS x y=lt at *
   obtain ⟨⟨a1,n1,c1⟩,⟨a2,n2,c2⟩⟩:=s1
   obtain ⟨⟨b1,m1,d1⟩,⟨b2,m2,d2⟩⟩:=s2
   unfold ZU at kC
   simp only at x0 x1 x2 y0 y1 y2 kC
   have hlt2:((m+1:Nat):Int)<(n:Int):=by omega
   have hm0:(0:Int)≤(m:Int):=by omega
   have HC:Hid (c<0↔lt=true):=hcl
   have HT:Hid (stE xs (m+1)=lt):=hst
   clear hcl hst hc hb
   skip
   by_cases hneg:c<0
   ·have HK2:Hid (∀ i,i<m+1+1→stE xs i=true):=fun i hi=>by
     by_cases e:i=m+1
     ·rw [e,HT.out];exact HC.out.1 hneg
     exact HK.out i (by omega)
    clear HK HC HT
    have hng:¬ (0:Int)≤c:=by omega
    have hge:decide ((0:Int)≤c)=false:=by simp;omega
    clear hneg
    go_wp2_with fail
    refine wp_region_held_drew (S:=(fun w'=>w'.cell? ⟨b,off+m*3,none⟩=some (.string x)∧w'.cell? ⟨b,off+m*3+1,none⟩=some (.slice a1 n1 c1)∧w'.cell? ⟨b,off+m*3+2,none⟩=some (.slice a2 n2 c2)∧w'.cell? ⟨b,off+(m+1)*3,none⟩=some (.string y)∧w'.cell? ⟨b,off+(m+1)*3+1,none⟩=some (.slice b1 m1 d1)∧w'.cell? ⟨b,off+(m+1)*3+2,none⟩=some (.slice b2 m2 d2))) (by kernel_rfl) ⟨x0,x1,x2,y0,y1,y2⟩ (fun hS0=>?_)
    refine tkv 0 12 (.func (.func 161) #[] #[]) ?_
    refine tkv 1 13 (.slice (some ⟨b,off,none⟩) n cap) ?_
    refine tkv 2 14 (.int .i64 ((m+1:Nat):Int)) ?_
    refine tkv 3 15 (.int .i64 (m:Int)) ?_
    refine tkv 4 16 (.pointer (some ⟨b,off+m*3,none⟩)) ?_
    refine tkv 5 17 (.agg #[.string x,.slice a1 n1 c1,.slice a2 n2 c2]) ?_
    refine tkv 6 18 (.slice (some ⟨b,off,none⟩) n cap) ?_
    refine tkv 7 19 (.int .i64 ((m+1:Nat):Int)) ?_
    refine tkv 8 20 (.pointer (some ⟨b,off+(m+1)*3,none⟩)) ?_
    refine tkv 9 21 (.agg #[.string y,.slice b1 m1 d1,.slice b2 m2 d2]) ?_
    refine tkr 10 22 (fun K hK=>?_)
    go_simp
    refine (kC _).mono ?_
    rintro e w5 ⟨rfl,hb5⟩
    go_wp2_with fail
    refine hK.out _ _ ?_ (fun hS5=>?_)
    ·exact ⟨Za hb5 _ _ hS0.1,Za hb5 _ _ hS0.2.1,Za hb5 _ _ hS0.2.2.1,Za hb5 _ _ hS0.2.2.2.1,Za hb5 _ _ hS0.2.2.2.2.1,Za hb5 _ _ hS0.2.2.2.2.2⟩
    clear hK
    refine tkv 11 23 (.bool false) ?_
    refine wpAnyH_done (by kernel_rfl) ?_ _
    replace bw:=Zm bd hb5
    clear hS0 hS5 hb5 bd x0 x1 x2 y0 y1 y2
    go_wp2
    go_roundw
    case rel=>exact ⟨m+1+1,by omega,.inl (by omega),by go_num,HK2,bw⟩
    case measure=>simp [intOf];omega
   have HF:Hid (r=false):=by
    rw [Hid,HR.out]
    refine YW (k:=m+1) (by omega) ?_
    rw [HT.out]
    cases hq:lt
    ·rfl
    exact absurd (HC.out.2 hq) hneg
   clear HK HC HT
   have hpo:(0:Int)≤c:=by omega
   have hge:decide ((0:Int)≤c)=true:=by simp;omega
   clear hneg
   go_wp2_with fail
   refine wp_region_held_drew (S:=(fun w'=>w'.cell? ⟨b,off+m*3,none⟩=some (.string x)∧w'.cell? ⟨b,off+m*3+1,none⟩=some (.slice a1 n1 c1)∧w'.cell? ⟨b,off+m*3+2,none⟩=some (.slice a2 n2 c2)∧w'.cell? ⟨b,off+(m+1)*3,none⟩=some (.string y)∧w'.cell? ⟨b,off+(m+1)*3+1,none⟩=some (.slice b1 m1 d1)∧w'.cell? ⟨b,off+(m+1)*3+2,none⟩=some (.slice b2 m2 d2))) (by kernel_rfl) ⟨x0,x1,x2,y0,y1,y2⟩ (fun hS0=>?_)
   refine tkv 0 12 (.func (.func 161) #[] #[]) ?_
   refine tkv 1 13 (.slice (some ⟨b,off,none⟩) n cap) ?_
   refine tkv 2 14 (.int .i64 ((m+1:Nat):Int)) ?_
   refine tkv 3 15 (.int .i64 (m:Int)) ?_
   refine tkv 4 16 (.pointer (some ⟨b,off+m*3,none⟩)) ?_
   refine tkv 5 17 (.agg #[.string x,.slice a1 n1 c1,.slice a2 n2 c2]) ?_
   refine tkv 6 18 (.slice (some ⟨b,off,none⟩) n cap) ?_
   refine tkv 7 19 (.int .i64 ((m+1:Nat):Int)) ?_
   refine tkv 8 20 (.pointer (some ⟨b,off+(m+1)*3,none⟩)) ?_
   refine tkv 9 21 (.agg #[.string y,.slice b1 m1 d1,.slice b2 m2 d2]) ?_
   refine tkr 10 22 (fun K hK=>?_)
   go_simp
   refine (kC _).mono ?_
   rintro e w5 ⟨rfl,hb5⟩
   go_wp2_with fail
   refine hK.out _ _ ?_ (fun hS5=>?_)
   ·exact ⟨Za hb5 _ _ hS0.1,Za hb5 _ _ hS0.2.1,Za hb5 _ _ hS0.2.2.1,Za hb5 _ _ hS0.2.2.2.1,Za hb5 _ _ hS0.2.2.2.2.1,Za hb5 _ _ hS0.2.2.2.2.2⟩
   clear hK
   refine tkv 11 23 (.bool true) ?_
   refine wpAnyH_done (by kernel_rfl) ?_ _
   replace bw:=Zm bd hb5
   clear hS0 hS5 hb5 bd x0 x1 x2 y0 y1 y2
   go_wp2
   go_ret
   exact ⟨by rw [HF.out];rfl,bw⟩
  have HF:Hid (r=true):=by
   rw [Hid,HR.out]
   exact XQ fun i hi=>HK.out i (by omega)
  have hlt2:¬ (k:Int)<(n:Int):=by omega
  clear HK
  go_wp2
  go_ret
  exact ⟨by rw [HF.out];rfl,bw⟩
end Go.Proofs.YtmhlokahmblboaaGreatDoor
