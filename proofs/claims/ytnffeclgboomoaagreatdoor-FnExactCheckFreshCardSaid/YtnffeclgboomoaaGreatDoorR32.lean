/-
  Joined: MgiI, EntX, MemI.
-/
import Derived.Test.YtnffeclgboomoaaGreatDoorR31

namespace Go.Proofs.YtnffeclgboomoaaGreatDoor
set_option maxRecDepth 100000
set_option maxHeartbeats 16000000
open Go.RowKit
set_option linter.unusedVariables false
set_option linter.unusedSimpArgs false

def WB (xs:List Int):Bool:=xs.all XO
def wfs (xs:List Int):Prop:=∀ x ∈ xs,(Lit.int .i64 x).wf=true
theorem N0 {xs:List Int} {k:Nat} (h:k<xs.length):WB (xs.drop k)=(XO (xs.getD k 0) && WB (xs.drop (k+1))):=by
 unfold WB
 rw [List.drop_eq_getElem_cons h,List.all_cons]
 simp [List.getD,List.getElem?_eq_getElem h]
theorem Pp {x:Int} (h:XO x=true):(Lit.int .i64 x).wf=true:=by
 simp only [XO,decide_eq_true_eq] at h
 exact H7 (by omega) (by omega)
theorem Qv {xs acc:List Int} {k:Nat} (h:k<xs.length):(xs.take (k+1)).foldl Yg acc=Yg ((xs.take k).foldl Yg acc) (xs.getD k 0):=by
 rw [RO h,List.foldl_append]
 rfl
theorem Nc (a:Option Addr) (n cap:Nat) (xs:List Int) (a':Option Addr) (n' cap':Nat) (ys:List Int) (w:World) (h:Yi .i64 w a n cap xs) (h':Yi .i64 w a' n' cap' ys) (hn:n≤100000) (hn':n'≤100000) :
  Calls Tryz.prog 173 #[.slice a n cap,.slice a' n' cap'] w fun e w'=>TD e w' w.heap.size (YA (xs++ys))∧Below w.heap.size w w':=by
 have hl:=h.1
 have hl':=h'.1
 have q0:=Xw w 3 1 w.heap.size (Nat.le_refl _)
 have b0:Below w.heap.size w (w.alloc (.cells #[] 3)):=by go_grown
 obtain ⟨R,hR⟩:∃ R:World→Value→List Int→Prop,∀ W v zs,R W v zs↔(∃ g c,v=.slice (some ⟨g,0,none⟩) zs.length c∧W.ownsRow w.heap.size 3 1 v zs.length (zs.map (Value.int .i64)))∧Below w.heap.size w W:=⟨fun W v zs=>(∃ g c,v=.slice (some ⟨g,0,none⟩) zs.length c∧W.ownsRow w.heap.size 3 1 v zs.length (zs.map (Value.int .i64)))∧Below w.heap.size w W,fun _ _ _=>Iff.rfl⟩
 have hR0:R (w.alloc (.cells #[] 3)) (.slice (some ⟨w.heap.size,0,none⟩) 0 0) []:=(hR _ _ _).2 ⟨⟨_,_,rfl,q0⟩,b0⟩
 have hlx:∀ k,((xs.take k).foldl Yg []).length≤100000:=fun k=>by
  have:=XE (xs.take k) []
  simp at this
  omega
 have hly:∀ k,((ys.take k).foldl Yg (YA xs)).length≤200000:=fun k=>by
  have h1:=XE (ys.take k) (YA xs)
  have h2:=Jt xs
  simp at h1
  omega
 clear q0 b0
 go_enter Tryz.func173,Tryz.ntmps173
 go_wp2_with fail
 go_loopw [5,6] (fun so si wr=>∃ k:Nat,k≤n∧si=.int .i64 k∧R wr so ((xs.take k).foldl Yg [])) (fun _ si _=>n - (Go.RowKit.intOf si).toNat)
 case atStart=>exact ⟨0,by omega,rfl,hR0⟩
 case round =>
  obtain ⟨k,hk,rfl,hr⟩:=hrel
  obtain ⟨⟨g,c,hv,q⟩,hb⟩:=(hR _ _ _).1 hr
  subst hv
  by_cases hlt:k<n
  ·have hfo:=Qv (xs:=xs) (acc:=[]) (k:=k) (by omega)
   obtain ⟨_,_,_,hcase⟩:=h.below hb
   rcases hcase with e0 | ⟨b,off,rfl,hb9,hc⟩
   ·omega
   have d0:=hc k hlt
   have hlz:=hlx k
   generalize xs.getD k 0=x at d0 hfo
   generalize hzs:(xs.take k).foldl Yg []=zs at *
   have kP:=QE g 0 zs.length c zs x wr (Qy q) (by omega)
   have HFo:Hid ((xs.take (k+1)).foldl Yg []=Yg zs x):=hfo
   clear hfo hc hb9 hzs
   have hlt':(k:Int)<(n:Int):=by omega
   have hk0:(0:Int)≤(k:Int):=by omega
   have hs9:=hb.size
   go_wp2_with fail
   refine kP.mono ?_
   rintro e w1 ⟨⟨v1,rfl,q1⟩,hb1⟩
   obtain ⟨g1,c1,rfl⟩:=VD q1 (by
    have hm:=(Vh zs x x).2 (.inl rfl)
    exact List.length_pos_of_mem hm)
   have hr1:R w1 (.slice (some ⟨g1,0,none⟩) (Yg zs x).length c1) ((xs.take (k+1)).foldl Yg []):=by
    rw [HFo.out]
    exact (hR _ _ _).2 ⟨⟨_,_,rfl,Z4 q1 hs9⟩,Zn hb hb1⟩
   clear q1 hb1 kP
   go_wp2
   go_roundw
   case rel=>exact ⟨k+1,by omega,by go_num,hr1⟩
   case measure=>simp [Go.RowKit.intOf];omega
  obtain rfl:k=n:=by omega
  have e9:(xs.take k).foldl Yg []=YA xs:=by rw [List.take_of_length_le (by omega)];rfl
  rw [e9] at hr q
  clear e9 hlt hR0
  rw [show ((xs.take k).foldl Yg []).length=(YA xs).length by rw [List.take_of_length_le (by omega)];rfl] at *
  go_wp2_with fail
  go_loopw [5,7] (fun so si wr=>∃ k:Nat,k≤n'∧si=.int .i64 k∧R wr so ((ys.take k).foldl Yg (YA xs))) (fun _ si _=>n' - (Go.RowKit.intOf si).toNat)
  case atStart=>exact ⟨0,by omega,rfl,hr⟩
  case round =>
   clear hr q hb
   obtain ⟨j,hj,rfl,hr⟩:=hrel
   obtain ⟨⟨g2,c2,hv,q⟩,hb⟩:=(hR _ _ _).1 hr
   subst hv
   by_cases hlt:j<n'
   ·have hfo:=Qv (xs:=ys) (acc:=YA xs) (k:=j) (by omega)
    obtain ⟨_,_,_,hcase⟩:=h'.below hb
    rcases hcase with e0 | ⟨b,off,rfl,hb9,hc⟩
    ·omega
    have d0:=hc j hlt
    have hlz:=hly j
    generalize ys.getD j 0=x at d0 hfo
    generalize hzs:(ys.take j).foldl Yg (YA xs)=zs at *
    have kP:=QE g2 0 zs.length c2 zs x wr (Qy q) (by omega)
    have HFo:Hid ((ys.take (j+1)).foldl Yg (YA xs)=Yg zs x):=hfo
    clear hfo hc hb9 hzs
    have hlt':(j:Int)<(n':Int):=by omega
    have hk0:(0:Int)≤(j:Int):=by omega
    have hs9:=hb.size
    go_wp2_with fail
    refine kP.mono ?_
    rintro e w1 ⟨⟨v1,rfl,q1⟩,hb1⟩
    obtain ⟨g1,c1,rfl⟩:=VD q1 (by
     have hm:=(Vh zs x x).2 (.inl rfl)
     exact List.length_pos_of_mem hm)
    have hr1:R w1 (.slice (some ⟨g1,0,none⟩) (Yg zs x).length c1) ((ys.take (j+1)).foldl Yg (YA xs)):=by
     rw [HFo.out]
     exact (hR _ _ _).2 ⟨⟨_,_,rfl,Z4 q1 hs9⟩,Zn hb hb1⟩
    clear q1 hb1 kP
    go_wp2
    go_roundw
    case rel=>exact ⟨j+1,by omega,by go_num,hr1⟩
    case measure=>simp [Go.RowKit.intOf];omega
   obtain rfl:j=n':=by omega
   have HE:Hid ((ys.take j).foldl Yg (YA xs)=YA (xs++ys)):=by
    rw [Hid,List.take_of_length_le (by omega)]
    unfold YA
    rw [List.foldl_append]
   clear hr
   generalize (ys.take j).foldl Yg (YA xs)=zs at *
   go_wp2
   go_ret
   exact ⟨⟨_,rfl,by rw [← HE.out];exact q⟩,hb⟩


theorem Y4 {es:List E3} {t:Nat} (h:t<es.length):es.getD t e3d=es[t]:=by simp [List.getD,List.getElem?_eq_getElem h]
theorem XP {es:List E3}:Y5 es=true↔(∀ e ∈ es,Ve e=true)∧es.Pairwise (fun a b=>ltS a.1 b.1=true)∧es.length≤2000:=by
 constructor
 ·intro h
  refine ⟨fun e he=>?_,?_,Uh h⟩
  ·obtain ⟨t,ht,rfl⟩:=List.getElem_of_mem he
   rw [← Y4 ht]
   exact Kl h ht
  rw [List.pairwise_iff_getElem]
  intro i j hi hj hij
  rw [← Y4 hi,← Y4 hj]
  exact Nk h hij hj
 rintro ⟨h1,h2,h3⟩
 simp only [Y5,Bool.and_eq_true,decide_eq_true_eq]
 refine ⟨Uc fun k hk=>?_,h3⟩
 simp only [Nj,Bool.and_eq_true,Bool.or_eq_true,decide_eq_true_eq]
 refine ⟨?_,?_⟩
 ·rw [Y4 hk]
  exact h1 _ (List.getElem_mem _)
 by_cases h0:k=0
 ·exact .inl h0
 right
 rw [Y4 hk,Y4 (show k - 1<es.length by omega)]
 exact List.pairwise_iff_getElem.1 h2 (k - 1) k (by omega) hk (by omega)
theorem TT {es:List E3} {n:Nat} {e:E3} (h:e ∈ es.take n):∃ t,t<n∧t<es.length∧e=es.getD t e3d:=by
 obtain ⟨t,ht,rfl⟩:=List.getElem_of_mem h
 rw [List.length_take] at ht
 refine ⟨t,by omega,by omega,?_⟩
 rw [Y4 (by omega)]
 simp
theorem QK {es:List E3} {n:Nat} {e:E3} (h:e ∈ es.drop n):∃ t,n≤t∧t<es.length∧e=es.getD t e3d:=by
 obtain ⟨t,ht,rfl⟩:=List.getElem_of_mem h
 rw [List.length_drop] at ht
 refine ⟨n+t,by omega,by omega,?_⟩
 rw [Y4 (by omega)]
 simp
theorem Nx {es:List E3} {e:E3}:(Ws es e).length=if isE es e.1 then es.length else es.length+1:=by
 have h1:=PA es e.1
 unfold Ws
 rw [List.length_append,List.length_append,List.length_take,List.length_singleton,List.length_drop]
 cases hc:isE es e.1
 ·simp
  omega
 have:Yp es e.1<es.length:=by
  simp only [isE,Bool.and_eq_true,decide_eq_true_eq] at hc
  exact hc.1
 simp
 omega
theorem NC {zs:List Int} (h:St zs=true):∀ i,i<zs.length→(i:Int)≤zs.getD i 0∧XO (zs.getD i 0)=true
 | 0,hi=>by
  have:=Vn h hi
  simp only [P1,Bool.and_eq_true,Bool.or_eq_true,decide_eq_true_eq] at this
  refine ⟨?_,this.1⟩
  have h1:=this.1
  simp only [XO,decide_eq_true_eq] at h1
  omega
 | i+1,hi=>by
  have h0:=NC h i (by omega)
  have:=Vn h hi
  simp only [P1,Bool.and_eq_true,Bool.or_eq_true,decide_eq_true_eq] at this
  refine ⟨?_,this.1⟩
  rcases this.2 with h1 | h1
  ·omega
  rw [Nat.add_sub_cancel] at h1
  omega


def TC (x:Ending) (w':World) (B:Nat) (es:List E3):Prop:=∃ v,x=.returned (.agg #[v])∧YW w' B v es
theorem TC.mk9 {w':World} {B:Nat} {v:Value} {es:List E3} (h:YW w' B v es):TC (.returned (.agg #[v])) w' B es:=⟨v,rfl,h⟩
theorem Wy.lower {x:Ending} {w':World} {B B':Nat} {e:E3} (h:Wy x w' B e) (hB:B'≤B):Wy x w' B' e:=by
 obtain ⟨s,h1,h2⟩:=h
 exact ⟨s,h1,h2.lower hB⟩
theorem QN (w:World) (cs:List Value) (t:TypeId):∀ ad,some (⟨w.heap.size,0,none⟩:Addr)=some ad→∀ j u,cs[j]?=some u→(w.alloc (.cells cs.toArray t)).cell? (ad.add j)=some u:=by
 intro ad ha j u hj
 cases ha
 have e:(⟨w.heap.size,0,none⟩:Addr).add j=⟨w.heap.size,0+j,none⟩:=by unfold Addr.add;split<;>simp_all
 rw [e,Nat.zero_add]
 have p:Blk (w.alloc (.cells cs.toArray t)) w.heap.size t cs:=Zj _ _ _ rfl
 rw [p.cell j]
 exact hj
theorem X7 (k:ByteArray) (s:Sl2):∀ u ∈ Yj k s,u.oneCell'=true:=by
 intro u hu
 simp [Yj] at hu
 rcases hu with rfl | rfl | rfl<;>rfl
theorem RP {es:List E3} {k:Nat} (h:k<es.length):es.take k++[es.getD k e3d]=es.take (k+1):=by
 rw [List.take_add_one,List.getElem?_eq_getElem h,Y4 h]
 rfl
def SmE (es:List E3):Prop:=es.length≤2000∧∀ i,i<es.length→(es.getD i e3d).2.1.length≤1048576∧(es.getD i e3d).2.2.length≤1048576
theorem Mk (a:Option Addr) (n cap:Nat) (es:List E3) (w:World) (h:YV w a n cap es) (hok:SmE es) :
  Calls Tryz.prog 55 #[.agg #[.slice a n cap]] w fun e w'=>TC e w' w.heap.size (es)∧Below w.heap.size w w':=by
 obtain ⟨i0,hi0,hz0,hz1,hz2⟩:=info_parts Ux
 have hl:=h.1
 have hn:n≤2000:=by have:=hok.1;omega
 have bu:Below w.heap.size w ((w.alloc (.cells #[.slice a n cap] 33)).alloc (.cells #[.slice none 0 0] 33)):=by go_grown
 have pM:Blk ((w.alloc (.cells #[.slice a n cap] 33)).alloc (.cells #[.slice none 0 0] 33)) w.heap.size 33 [.slice a n cap]:=Zi _ (Zj _ _ _ rfl)
 have pR:Blk ((w.alloc (.cells #[.slice a n cap] 33)).alloc (.cells #[.slice none 0 0] 33)) (w.heap.size+1) 33 [.slice none 0 0]:=Zj _ _ _ (by simp)
 have g0:=pM.cell 0
 simp only [List.getElem?_cons_zero] at g0
 go_enter Tryz.func55,Tryz.ntmps55
 go_wp2_with fail
 have bE:Below ((w.alloc (.cells #[.slice a n cap] 33)).alloc (.cells #[.slice none 0 0] 33)).heap.size ((w.alloc (.cells #[.slice a n cap] 33)).alloc (.cells #[.slice none 0 0] 33)) (((w.alloc (.cells #[.slice a n cap] 33)).alloc (.cells #[.slice none 0 0] 33)).alloc (.cells #[] 45)):=by go_grown
 have M0:YW (((w.alloc (.cells #[.slice a n cap] 33)).alloc (.cells #[.slice none 0 0] 33)).alloc (.cells #[] 45)) (w.heap.size+2) (.slice (some ⟨w.heap.size+1+1,0,none⟩) 0 0) []:=by
  have h9:=Xw ((w.alloc (.cells #[.slice a n cap] 33)).alloc (.cells #[.slice none 0 0] 33)) 45 3 (w.heap.size+2) (by simp)
  exact ⟨[],by simpa using h9,fun t ht=>by simp at ht,fun t _ ht=>by simp at ht⟩
 have bU:=Zn bu bE
 have gU:=XK bE g0
 have rU:=pR.below bE
 generalize (((w.alloc (.cells #[.slice a n cap] 33)).alloc (.cells #[.slice none 0 0] 33)).alloc (.cells #[] 45))=U at *
 have rUs:w.heap.size+2≤U.heap.size:=by have:=rU.lt;omega
 go_loopw [3,4] (fun so si wr=>∃ (k:Nat) (va:Option Addr) (vn vc:Nat),k≤n∧si=.int .i64 k∧so=.slice va vn vc∧YW wr (w.heap.size+2) (.slice va vn vc) (es.take k)∧Below w.heap.size w wr∧wr.cell? ⟨w.heap.size,0,none⟩=some (.slice a n cap)∧Blk wr (w.heap.size+1) 33 [.slice none 0 0]∧w.heap.size+2≤wr.heap.size) (fun _ si _=>n - (intOf si).toNat)
 case atStart=>exact ⟨0,_,_,_,by omega,rfl,rfl,by simpa using M0,bU,gU,rU,rUs⟩
 case round =>
  obtain ⟨k,xa,xn,xc,hk,rfl,rfl,hM,bw,gw,pW,hsW⟩:=hrel
  by_cases hlt:k<n
  ·obtain ⟨_,_,_,hcase⟩:=h.below bw
   rcases hcase with e0 | ⟨b,off,rfl,hb,hc⟩
   ·omega
   obtain ⟨s,x0,x1,x2,hm⟩:=hc k hlt
   clear hc hb
   have hek:=hok.2 k (by omega)
   have y1:=hek.1
   have y2:=hek.2
   have kE:=fun W (hb:Below wr.heap.size wr W)=>(Rl (es.getD k e3d) s W (hm.below hb) (by omega) (by omega)).mono (fun x w' h9=>(⟨h9.1.lower hb.size,Zn hb h9.2⟩:Wy x w' wr.heap.size (es.getD k e3d)∧Below wr.heap.size wr w'))
   have hsn:=RP (es:=es) (k:=k) (by omega)
   clear hm hek y1 y2
   generalize es.getD k e3d=x at *
   generalize hps:es.take k=ps at *
   have hpl:ps.length≤2000:=by rw [← hps];rw [List.length_take];omega
   clear hps
   obtain ⟨xk,xb,xz⟩:=x
   obtain ⟨⟨a1,n1,c1⟩,⟨a2,n2,c2⟩⟩:=s
   unfold ZM at kE
   simp only at x0 x1 x2 kE
   have hlt':(k:Int)<(n:Int):=by omega
   have hk0:(0:Int)≤(k:Int):=by omega
   go_wp2_with fail
   refine (kE _ (Below.refl _ _)).mono ?_
   rintro e w1 ⟨⟨⟨⟨d1,p1,q1⟩,⟨d2,p2,q2⟩⟩,rfl,hO⟩,hbn⟩
   obtain ⟨cs,ho,hE⟩:=hM
   have hb2:Below w1.heap.size w1 (w1.alloc (.cells #[.string xk,.slice d1 p1 q1,.slice d2 p2 q2] 45)):=by go_grown
   have ho2:=Zs (Zs ho hbn) hb2
   have hs2:w.heap.size+2≤(w1.alloc (.cells #[.string xk,.slice d1 p1 q1,.slice d2 p2 q2] 45)).heap.size:=by have:=hb2.size;have:=hbn.size;omega
   clear x0 x1 x2 kE
   unfold ZM
   simp only
   go_wp2_with (at_builtin;refine Xg rfl _ _ 31 rfl (w.heap.size+2) 45 i0 (.agg #[.string ⟨#[]⟩,.slice none 0 0,.slice none 0 0]) 3 64 Tryz.underlying31 hi0 hz0 hz1 hz2 rfl (by decide) _ _ _ rfl ho2 _ 1 1 rfl (fun h9=>by cases h9) (Yj xk ((d1,p1,q1),(d2,p2,q2))) (by simp [Yj]) (QN w1 [.string xk,.slice d1 p1 q1,.slice d2 p2 q2] 45) (X7 _ _) (by unfold maxLen;omega) (by omega) hs2 ?_)
   intro v3 w3 hown hgrow _
   obtain ⟨va9,vc9,rfl⟩:=ZH hown
   have hM3:=YW.snoc9 (s:=((d1,p1,q1),(d2,p2,q2))) ho hE hbn hO hb2 hgrow hown (by omega)
   have hgB:∀ g,(Value.ownBlock (.slice xa xn xc))=some g→w.heap.size+2≤g:=fun g hg=>(ho2.lt g hg).1
   have b3:Below w.heap.size w w3:=(Zn (Zn bw hbn) hb2).grown hgrow (by omega) (fun g hg=>by have:=hgB g hg;omega)
   have g3:=(Blk.kept ((pW.below hbn).below hb2) hgrow (fun e9=>by have:=hgB _ e9;omega))
   have c3:w3.cell? ⟨w.heap.size,0,none⟩=some (.slice (some ⟨b,off,none⟩) n cap):=Zg hgrow (XK hb2 (XK hbn gw)) (fun e9=>by have:=hgB _ e9.symm;simp at this;omega)
   have s3:w.heap.size+2≤w3.heap.size:=Nat.le_trans hs2 hgrow.size
   skip
   clear ho hE hbn hO hb2 ho2 hs2 hown hgrow hgB
   go_wp2
   go_roundw
   case rel=>exact ⟨k+1,_,_,_,by omega,by go_num,rfl,by rw [← hsn];exact hM3,b3,c3,g3,s3⟩
   case measure=>simp [intOf];omega
  obtain rfl:k=n:=by omega
  have e9:es.take k=es:=by rw [List.take_of_length_le (by omega)]
  rw [e9] at hM
  have r0:=pW.cell 0
  have fr0:=pW.frozen 0
  have pZ:=pW.set 0 (.slice xa xn xc)
  simp only [List.set_cons_zero] at pZ
  have z0:=pZ.cell 0
  simp only [List.getElem?_cons_zero] at z0 r0
  have hM9:=(hM.low (p:=⟨w.heap.size+1,0,none⟩) (show w.heap.size+1<w.heap.size+2 by omega) (.slice xa xn xc)).lower (show w.heap.size≤w.heap.size+2 by omega)
  have bz:=bw.setCell (p:=⟨w.heap.size+1,0,none⟩) (show w.heap.size≤w.heap.size+1 by omega) (.slice xa xn xc)
  clear hM pZ pW bw e9
  go_wp2
  refine bodyPost_ret (by simp [results,Tryz.results55,go_sem,z0];try rfl) rfl ?_
  exact ⟨TC.mk9 hM9,bz⟩

end Go.Proofs.YtnffeclgboomoaaGreatDoor
