/-
  Joined: EntX, ChkP, ChkQ, ChkR, ChkS, ChkT, DrwB, Ent2.
-/
import Derived.Test.YtgmhhegckcionaaGreatDoorF30

namespace Go.Proofs.YtgmhhegckcionaaGreatDoor
set_option maxRecDepth 100000
set_option maxHeartbeats 16000000
open Go.RowKit
set_option linter.unusedVariables false
set_option linter.unusedSimpArgs false

theorem Y5 {es:List E3} {t:Nat} (h:t<es.length):es.getD t e3d=es[t]:=by simp [List.getD,List.getElem?_eq_getElem h]
theorem Xt {es:List E3}:Yl es=true↔(∀ e ∈ es,YY e=true)∧es.Pairwise (fun a b=>ltS a.1 b.1=true)∧es.length≤2000:=by
 constructor
 ·intro h
  refine ⟨fun e he=>?_,?_,WB h⟩
  ·obtain ⟨t,ht,rfl⟩:=List.getElem_of_mem he
   rw [← Y5 ht]
   exact Gg h ht
  rw [List.pairwise_iff_getElem]
  intro i j hi hj hij
  rw [← Y5 hi,← Y5 hj]
  exact Tg h hij hj
 rintro ⟨h1,h2,h3⟩
 simp only [Yl,Bool.and_eq_true,decide_eq_true_eq]
 refine ⟨Vi fun k hk=>?_,h3⟩
 simp only [La,Bool.and_eq_true,Bool.or_eq_true,decide_eq_true_eq]
 refine ⟨?_,?_⟩
 ·rw [Y5 hk]
  exact h1 _ (List.getElem_mem _)
 by_cases h0:k=0
 ·exact .inl h0
 right
 rw [Y5 hk,Y5 (show k - 1<es.length by omega)]
 exact List.pairwise_iff_getElem.1 h2 (k - 1) k (by omega) hk (by omega)
theorem CY {es:List E3} (h:Yl es=true) {t:Nat} (ht:t<es.length):Yf es (es.getD t e3d).1=t∧isE es (es.getD t e3d).1=true:=by
 have hp:Yf es (es.getD t e3d).1=t:=Qd (fun i hi=>Tg h hi ht) (by omega) (fun _=>VD _)
 refine ⟨hp,?_⟩
 rw [isE,hp,decide_eq_true ht,decide_eq_true rfl]
 rfl
theorem R5 {es:List E3} (h:Yl es=true) {k:ByteArray}:isE es k=true↔∃ e ∈ es,e.1=k:=by
 constructor
 ·intro hi
  simp only [isE,Bool.and_eq_true,decide_eq_true_eq] at hi
  refine ⟨es.getD (Yf es k) e3d,?_,hi.2⟩
  rw [Y5 hi.1]
  exact List.getElem_mem _
 rintro ⟨e,he,rfl⟩
 obtain ⟨t,ht,rfl⟩:=List.getElem_of_mem he
 rw [← Y5 ht]
 exact (CY h ht).2
theorem Ug {es:List E3} {n:Nat} {e:E3} (h:e ∈ es.take n):∃ t,t<n∧t<es.length∧e=es.getD t e3d:=by
 obtain ⟨t,ht,rfl⟩:=List.getElem_of_mem h
 rw [List.length_take] at ht
 refine ⟨t,by omega,by omega,?_⟩
 rw [Y5 (by omega)]
 simp
theorem Rj {es:List E3} {n:Nat} {e:E3} (h:e ∈ es.drop n):∃ t,n≤t∧t<es.length∧e=es.getD t e3d:=by
 obtain ⟨t,ht,rfl⟩:=List.getElem_of_mem h
 rw [List.length_drop] at ht
 refine ⟨n+t,by omega,by omega,?_⟩
 rw [Y5 (by omega)]
 simp
theorem ST {es:List E3} {e:E3}:(XE es e).length=if isE es e.1 then es.length else es.length+1:=by
 have h1:=Mk es e.1
 unfold XE
 rw [List.length_append,List.length_append,List.length_take,List.length_singleton,List.length_drop]
 cases hc:isE es e.1
 ·simp
  omega
 have:Yf es e.1<es.length:=by
  simp only [isE,Bool.and_eq_true,decide_eq_true_eq] at hc
  exact hc.1
 simp
 omega
theorem Ln {es:List E3} (h:Yl es=true) {k:ByteArray} {t:Nat} (h1:(if isE es k then Yf es k+1 else Yf es k)≤t) (ht:t<es.length):ltS k (es.getD t e3d).1=true:=by
 cases hc:isE es k
 ·rw [hc] at h1
  simp at h1
  cases hk:ltS k (es.getD t e3d).1
  ·have:=P9 (Lm h h1 ht) hk
   have hi:=(R5 h (k:=k)).2 ⟨es.getD t e3d,by rw [Y5 ht];exact List.getElem_mem _,this⟩
   rw [hc] at hi
   cases hi
  rfl
 rw [hc] at h1
 simp at h1
 simp only [isE,Bool.and_eq_true,decide_eq_true_eq] at hc
 have:=Tg h (i:=Yf es k) (j:=t) (by omega) ht
 rw [hc.2] at this
 exact this
theorem Cd {es:List E3} {e:E3} (h:Yl es=true) (he:YY e=true) (hr:isE es e.1=true∨es.length<2000):Yl (XE es e)=true:=by
 have h9:=Xt.1 h
 refine Xt.2 ⟨fun x hx=>?_,?_,?_⟩
 ·unfold XE at hx
  simp only [List.mem_append,List.mem_singleton] at hx
  rcases hx with (hx | rfl) | hx
  ·exact h9.1 x (List.mem_of_mem_take hx)
  ·exact he
  exact h9.1 x (List.mem_of_mem_drop hx)
 ·unfold XE
  rw [List.pairwise_append,List.pairwise_append]
  refine ⟨⟨h9.2.1.sublist (List.take_sublist _ _),by simp,?_⟩,h9.2.1.sublist (List.drop_sublist _ _),?_⟩
  ·intro a ha b hb
   simp only [List.mem_singleton] at hb
   subst hb
   obtain ⟨t,h1,h2,rfl⟩:=Ug ha
   exact WG h1
  intro a ha b hb
  obtain ⟨t,h1,h2,rfl⟩:=Rj hb
  have hk:=Ln h h1 h2
  simp only [List.mem_append,List.mem_singleton] at ha
  rcases ha with ha | rfl
  ·obtain ⟨t',h3,h4,rfl⟩:=Ug ha
   exact WA (WG h3) hk
  exact hk
 rw [ST]
 have:=WB h
 split
 ·exact this
 rename_i hn
 rcases hr with hr | hr
 ·exact absurd hr hn
 omega
theorem Q2 {zs:List Int} (h:TW zs=true):∀ i,i<zs.length→(i:Int)≤zs.getD i 0∧Wj (zs.getD i 0)=true
 | 0,hi=>by
  have:=Uo h hi
  simp only [P0,Bool.and_eq_true,Bool.or_eq_true,decide_eq_true_eq] at this
  refine ⟨?_,this.1⟩
  have h1:=this.1
  simp only [Wj,decide_eq_true_eq] at h1
  omega
 | i+1,hi=>by
  have h0:=Q2 h i (by omega)
  have:=Uo h hi
  simp only [P0,Bool.and_eq_true,Bool.or_eq_true,decide_eq_true_eq] at this
  refine ⟨?_,this.1⟩
  rcases this.2 with h1 | h1
  ·omega
  rw [Nat.add_sub_cancel] at h1
  omega
theorem JX {e:E3} (h:YY e=true):e.1.size=15:=by
 simp only [YY,Wz,Bool.and_eq_true,decide_eq_true_eq] at h
 exact h.1.1


def cmB (rows:List (List I3)) (f:Nat) (m:V4):List I3:=ZK ((ZT rows f m).flatMap (ZB rows)) []
def cmF (rows:List (List I3)) (f:Nat) (m:V4):List Int:=Yx ((ZT rows f m).flatMap Zx)
def Yr (rows:List (List I3)) (f:Nat) (m:V4):E3:=(Zt m,cmB rows f m,cmF rows f m)
theorem VP {rows:List (List I3)} {f:Nat} {m:V4} {x:I3}:x ∈ cmB rows f m↔∃ s ∈ ZT rows f m,x ∈ ZB rows s:=by
 unfold cmB
 rw [YF,List.mem_flatMap]
 simp
theorem TJ {rows:List (List I3)} {f:Nat} {m:V4} {y:Int}:y ∈ cmF rows f m↔∃ s ∈ ZT rows f m,y ∈ Zx s:=by
 unfold cmF
 rw [XV,List.mem_flatMap]
theorem Nb {σ:Type} {f:σ→List I3} {x:I3}:∀ (ks:List σ) (out:List I3),x ∈ ks.foldl (fun out k=>ZK out (f k)) out↔x ∈ out∨∃ k ∈ ks,x ∈ f k
 | [],out=>by simp
 | k::ks,out=>by
  rw [List.foldl_cons,Nb ks,YF]
  simp only [List.mem_cons,exists_eq_or_imp,or_assoc]
theorem Tp {σ:Type} {f:σ→List I3}:∀ (ks:List σ) (out:List I3),YD out→YD (ks.foldl (fun out k=>ZK out (f k)) out)
 | [],out,h=>h
 | k::ks,out,h=>Tp ks _ (Yw _ _)
theorem MB (rows:List (List I3)) (m:V4):YD (ZC rows m):=by
 unfold ZC
 split
 ·exact List.pairwise_singleton _ _
 exact List.Pairwise.nil
theorem Uw (rows:List (List I3)) (m:V4):YD (ZB rows m):=Tp _ _ (MB rows m)
theorem Fh (rows:List (List I3)) (f:Nat) (m:V4):(nxM rows m).foldl (fun out t=>ZK out (cmB rows f t.2)) (ZB rows m)=cmB rows (f+1) m:=by
 refine (Tp _ _ (Uw rows m)).same (Yw _ _) (fun x=>?_)
 rw [Nb]
 rw [VP]
 simp only [ZT,List.mem_cons,List.mem_flatMap,VP]
 constructor
 ·rintro (h | ⟨t,ht,s,hs,hx⟩)
  ·exact ⟨m,.inl rfl,h⟩
  exact ⟨s,.inr ⟨t,ht,hs⟩,hx⟩
 rintro ⟨s,rfl | ⟨t,ht,hs⟩,hx⟩
 ·exact .inl hx
 exact .inr ⟨t,ht,s,hs,hx⟩
theorem Na {σ:Type} {f:σ→List Int} {y:Int}:∀ (ks:List σ) (out:List Int),y ∈ ks.foldl (fun out k=>Yx (out++f k)) out↔y ∈ out∨∃ k ∈ ks,y ∈ f k
 | [],out=>by simp
 | k::ks,out=>by
  rw [List.foldl_cons,Na ks,XV,List.mem_append]
  simp only [List.mem_cons,exists_eq_or_imp,or_assoc]
theorem RQ {σ:Type} {f:σ→List Int}:∀ (ks:List σ) (out:List Int),out.Pairwise (· < ·)→(ks.foldl (fun out k=>Yx (out++f k)) out).Pairwise (· < ·)
 | [],out,h=>h
 | k::ks,out,h=>RQ ks _ (YQ _)
theorem VO {m:V4} (h:Zc m=true):(Zx m).Pairwise (· < ·):=by
 have hp:∀ i,i<3→0≤m.1.getD i 0∧m.1.getD i 0≤6:=by
  intro i hi
  unfold Zc Xz at h
  simp only [Bool.and_eq_true,List.all_eq_true,decide_eq_true_eq] at h
  have hl:m.1.length=3:=by omega
  have:=h.1.1 (m.1.getD i 0) (by rw [List.getD,List.getElem?_eq_getElem (by omega)];exact List.getElem_mem _)
  exact this
 have h0:=hp 0 (by omega)
 have h1:=hp 1 (by omega)
 have h2:=hp 2 (by omega)
 unfold Zx
 simp only [List.pairwise_cons,List.mem_cons,List.not_mem_nil,or_false,List.Pairwise.nil,and_true]
 refine ⟨?_,?_,?_⟩
 ·rintro a (rfl | rfl)<;>omega
 ·rintro a rfl;omega
 simp
theorem Fi {rows:List (List I3)} (f:Nat) {m:V4} (h:Zc m=true):(nxM rows m).foldl (fun out t=>Yx (out++cmF rows f t.2)) (Zx m)=cmF rows (f+1) m:=by
 refine Q5 (RQ _ _ (VO h)) (YQ _) (fun y=>?_)
 rw [Na]
 rw [TJ]
 simp only [ZT,List.mem_cons,List.mem_flatMap,TJ]
 constructor
 ·rintro (h | ⟨t,ht,s,hs,hx⟩)
  ·exact ⟨m,.inl rfl,h⟩
  exact ⟨s,.inr ⟨t,ht,hs⟩,hx⟩
 rintro ⟨s,rfl | ⟨t,ht,hs⟩,hx⟩
 ·exact .inl hx
 exact .inr ⟨t,ht,s,hs,hx⟩


abbrev Zy:=List E3 × Nat
def Yo (rec:V4→Zy→E3 × Zy × Bool):List (Int × V4)→E3→Zy→E3 × Zy × Bool
 | [],e,st=>(e,st,true)
 | t::ts,e,st=>if (rec t.2 st).2.2=true then Yo rec ts (e.1,ZK e.2.1 (rec t.2 st).1.2.1,Yx (e.2.2++(rec t.2 st).1.2.2)) (rec t.2 st).2.1 else (e3d,(rec t.2 st).2.1,false)
def ZG (rows:List (List I3)):Nat→V4→Zy→E3 × Zy × Bool
 | 0,_,st=>(e3d,st,false)
 | f+1,m,st =>
  if isE st.1 (Zt m)=true then (Vz st.1 (Zt m),st,true)
  else if st.1.length=2000 then (e3d,st,false)
  else if (Yo (ZG rows f) (nxM rows m) (Zt m,ZB rows m,Zx m) (st.1,st.2+1)).2.2=true then
   (if (Yo (ZG rows f) (nxM rows m) (Zt m,ZB rows m,Zx m) (st.1,st.2+1)).2.1.1.length=2000 then (e3d,(Yo (ZG rows f) (nxM rows m) (Zt m,ZB rows m,Zx m) (st.1,st.2+1)).2.1,false)
    else ((Yo (ZG rows f) (nxM rows m) (Zt m,ZB rows m,Zx m) (st.1,st.2+1)).1,(XE (Yo (ZG rows f) (nxM rows m) (Zt m,ZB rows m,Zx m) (st.1,st.2+1)).2.1.1 (Yo (ZG rows f) (nxM rows m) (Zt m,ZB rows m,Zx m) (st.1,st.2+1)).1,(Yo (ZG rows f) (nxM rows m) (Zt m,ZB rows m,Zx m) (st.1,st.2+1)).2.1.2),true))
  else (e3d,(Yo (ZG rows f) (nxM rows m) (Zt m,ZB rows m,Zx m) (st.1,st.2+1)).2.1,false)
theorem Un {rows:List (List I3)} (C:V4→Prop) (hC:∀ x,C x→∀ t ∈ nxM rows x,C t.2):∀ (f:Nat) (m:V4),C m→∀ x ∈ ZT rows f m,C x
 | 0,m,h,x,hx=>by
  simp only [ZT,List.mem_singleton] at hx
  subst hx
  exact h
 | f+1,m,h,x,hx=>by
  simp only [ZT,List.mem_cons,List.mem_flatMap] at hx
  rcases hx with rfl | ⟨t,ht,hx⟩
  ·exact h
  exact Un C hC f t.2 (hC m h t ht) x hx
theorem S3 {rows:List (List I3)} (hp:Zf rows=true) {f g:Nat} {m:V4} (hs:Zc m=true) (hf:ZR rows m≤f) (hg:ZR rows m≤g) (x:V4):x ∈ ZT rows f m↔x ∈ ZT rows g m:=
 ⟨Un (· ∈ ZT rows g m) (fun y hy t ht=>Wh hp g m hs hg y hy t ht) f m (Vq rows g m) x,Un (· ∈ ZT rows f m) (fun y hy t ht=>Wh hp f m hs hf y hy t ht) g m (Vq rows f m) x⟩
theorem Wx (rows:List (List I3)) (f:Nat) (m:V4):YD (cmB rows f m):=Yw _ _
theorem Rb (rows:List (List I3)) (f:Nat) (m:V4):(cmF rows f m).Pairwise (· < ·):=YQ _
theorem Fm {rows:List (List I3)} (hp:Zf rows=true) {f g:Nat} {m:V4} (hs:Zc m=true) (hf:ZR rows m≤f) (hg:ZR rows m≤g):Yr rows f m=Yr rows g m:=by
 have hB:cmB rows f m=cmB rows g m:=(Wx rows f m).same (Wx rows g m) (fun x=>by
  rw [VP,VP]
  constructor
  ·rintro ⟨s,h,hx⟩;exact ⟨s,(S3 hp hs hf hg s).1 h,hx⟩
  rintro ⟨s,h,hx⟩;exact ⟨s,(S3 hp hs hf hg s).2 h,hx⟩)
 have hF:cmF rows f m=cmF rows g m:=Q5 (Rb rows f m) (Rb rows g m) (fun y=>by
  rw [TJ,TJ]
  constructor
  ·rintro ⟨s,h,hx⟩;exact ⟨s,(S3 hp hs hf hg s).1 h,hx⟩
  rintro ⟨s,h,hx⟩;exact ⟨s,(S3 hp hs hf hg s).2 h,hx⟩)
 unfold Yr
 rw [hB,hF]
theorem Qu {rows:List (List I3)} (f:Nat) (k:ByteArray):∀ (ts:List (Int × V4)) (b:List I3) (z:List Int),ts.foldl (fun (e:E3) t=>(e.1,ZK e.2.1 (cmB rows f t.2),Yx (e.2.2++cmF rows f t.2))) (k,b,z)=(k,ts.foldl (fun out t=>ZK out (cmB rows f t.2)) b,ts.foldl (fun out t=>Yx (out++cmF rows f t.2)) z)
 | [],b,z=>rfl
 | t::ts,b,z=>by
  rw [List.foldl_cons,List.foldl_cons,List.foldl_cons]
  exact Qu f k ts _ _
theorem JW {rows:List (List I3)} (f:Nat) {m:V4} (h:Zc m=true):(nxM rows m).foldl (fun (e:E3) t=>(e.1,ZK e.2.1 (cmB rows f t.2),Yx (e.2.2++cmF rows f t.2))) (Zt m,ZB rows m,Zx m)=Yr rows (f+1) m:=by
 rw [Qu,Fh,Fi f h]
 rfl
def Wp (rows:List (List I3)) (es:List E3):Prop:=Yl es=true∧∀ e ∈ es,∃ s,Zc s=true∧e=Yr rows 18 s
theorem Wp.found {rows:List (List I3)} {es:List E3} (h:Wp rows es) {m:V4} (hs:Zc m=true) (hi:isE es (Zt m)=true):Vz es (Zt m)=Yr rows 18 m:=by
 have hf:=hi
 unfold isE at hi
 simp only [Bool.and_eq_true,decide_eq_true_eq] at hi
 unfold Vz
 rw [if_pos hf]
 have hm:es.getD (Yf es (Zt m)) e3d ∈ es:=by rw [List.getD,List.getElem?_eq_getElem hi.1];exact List.getElem_mem _
 obtain ⟨s,h1,h2⟩:=h.2 _ hm
 have hk:(es.getD (Yf es (Zt m)) e3d).1=Zt m:=by
  have:=hi.2
  simpa using this
 rw [h2] at hk ⊢
 have:s=m:=XU h1 hs hk
 rw [this]


def Xk (rows:List (List I3)) (L:Nat) (st st':Zy):Prop:=Wp rows st'.1∧(∀ e ∈ st.1,e ∈ st'.1)∧(∀ e ∈ st'.1,e ∈ st.1∨∃ s,Zc s=true∧ZR rows s<L∧e=Yr rows 18 s)∧st'.1.length+st.2=st.1.length+st'.2
theorem Xk.refl {rows:List (List I3)} {L:Nat} {st:Zy} (h:Wp rows st.1):Xk rows L st st:=⟨h,fun e he=>he,fun e he=>.inl he,rfl⟩
theorem Xk.trans {rows:List (List I3)} {L:Nat} {a b c:Zy} (h:Xk rows L a b) (k:Xk rows L b c):Xk rows L a c:=
 ⟨k.1,fun e he=>k.2.1 e (h.2.1 e he),fun e he=>by
  rcases k.2.2.1 e he with h9 | h9
  ·exact h.2.2.1 e h9
  exact .inr h9,by have:=h.2.2.2;have:=k.2.2.2;omega⟩
theorem Xk.mono {rows:List (List I3)} {L L':Nat} {a b:Zy} (h:Xk rows L a b) (hL:L≤L'):Xk rows L' a b:=
 ⟨h.1,h.2.1,fun e he=>by
  rcases h.2.2.1 e he with h9 | ⟨s,h1,h2,h3⟩
  ·exact .inl h9
  exact .inr ⟨s,h1,by omega,h3⟩,h.2.2.2⟩
theorem ND {rows:List (List I3)} {L:Nat} {rec:V4→Zy→E3 × Zy × Bool}:∀ (ts:List (Int × V4)) (e:E3) (st:Zy),(∀ t ∈ ts,∀ st:Zy,Wp rows st.1→(rec t.2 st).2.2=true→(rec t.2 st).1=Yr rows 18 t.2∧Xk rows L st (rec t.2 st).2.1)→Wp rows st.1→(Yo rec ts e st).2.2=true →
  (Yo rec ts e st).1=ts.foldl (fun (e:E3) t=>(e.1,ZK e.2.1 (cmB rows 18 t.2),Yx (e.2.2++cmF rows 18 t.2))) e∧Xk rows L st (Yo rec ts e st).2.1
 | [],e,st,hr,ht,hk=>⟨rfl,Xk.refl ht⟩
 | t::ts,e,st,hr,ht,hk=>by
  unfold Yo at hk ⊢
  by_cases h:(rec t.2 st).2.2=true
  ·rw [if_pos h] at hk ⊢
   obtain ⟨h1,h2⟩:=hr t (List.mem_cons_self ..) st ht h
   obtain ⟨h3,h4⟩:=ND ts _ _ (fun t' ht'=>hr t' (List.mem_cons_of_mem _ ht')) h2.1 hk
   refine ⟨?_,h2.trans h4⟩
   rw [h3,h1]
   rfl
  rw [if_neg h] at hk
  cases hk
theorem LR {rows:List (List I3)} (hp:Zf rows=true) (hE:∀ s,Zc s=true→YY (Yr rows 18 s)=true) (hG:∀ m,Zc m=true→ZR rows m≤18) (hN:∀ m,Zc m=true→∀ t ∈ nxM rows m,Zc t.2=true∧ZR rows t.2<ZR rows m) :
  ∀ (f:Nat) (m:V4) (st:Zy),Zc m=true→ZR rows m<f→Wp rows st.1→(ZG rows f m st).2.2=true→(ZG rows f m st).1=Yr rows 18 m∧Xk rows (ZR rows m+1) st (ZG rows f m st).2.1∧Yr rows 18 m ∈ (ZG rows f m st).2.1.1
 | 0,m,st,hs,hf,ht,hk=>by omega
 | f+1,m,st,hs,hf,ht,hk=>by
  unfold ZG at hk ⊢
  by_cases h1:isE st.1 (Zt m)=true
  ·rw [if_pos h1]
   refine ⟨ht.found hs h1,Xk.refl ht,?_⟩
   obtain ⟨e,he,hek⟩:=(R5 ht.1 (k:=Zt m)).1 h1
   obtain ⟨s,g1,g2⟩:=ht.2 e he
   have:s=m:=XU g1 hs (by rw [g2] at hek;exact hek)
   subst this
   rw [← g2]
   exact he
  rw [if_neg h1] at hk ⊢
  by_cases h2:st.1.length=2000
  ·rw [if_pos h2] at hk
   cases hk
  rw [if_neg h2] at hk ⊢
  have key:=ND (rows:=rows) (L:=ZR rows m) (rec:=ZG rows f) (nxM rows m) (Zt m,ZB rows m,Zx m) (st.1,st.2+1) (fun t htm st' ht' hk'=>by
   obtain ⟨q1,q2⟩:=hN m hs t htm
   obtain ⟨r1,r2,_⟩:=LR hp hE hG hN f t.2 st' q1 (by omega) ht' hk'
   exact ⟨r1,r2.mono (by omega)⟩) ht
  generalize Yo (ZG rows f) (nxM rows m) (Zt m,ZB rows m,Zx m) (st.1,st.2+1)=R at *
  by_cases h3:R.2.2=true
  ·rw [if_pos h3] at hk ⊢
   obtain ⟨k1,k2⟩:=key h3
   rw [JW 18 hs,Fm hp hs (Nat.le_trans (hG m hs) (by omega)) (hG m hs)] at k1
   by_cases h4:R.2.1.1.length=2000
   ·rw [if_pos h4] at hk
    cases hk
   rw [if_neg h4]
   simp only
   rw [k1]
   have hni:isE R.2.1.1 (Zt m)=false:=by
    cases hi:isE R.2.1.1 (Zt m)
    ·rfl
    exfalso
    obtain ⟨e,he,hek⟩:=(R5 k2.1.1 (k:=Zt m)).1 hi
    rcases k2.2.2.1 e he with h9 | ⟨s,s1,s2,s3⟩
    ·exact h1 ((R5 ht.1 (k:=Zt m)).2 ⟨e,h9,hek⟩)
    have:s=m:=XU s1 hs (by rw [s3] at hek;exact hek)
    subst this
    omega
   have hlen:=WB k2.1.1
   have hput:Yl (XE R.2.1.1 (Yr rows 18 m))=true:=Cd k2.1.1 (hE m hs) (.inr (by omega))
   have hmem:∀ e,e ∈ XE R.2.1.1 (Yr rows 18 m)↔e=Yr rows 18 m∨e ∈ R.2.1.1:=by
    intro e
    unfold XE
    rw [show (Yr rows 18 m).1=Zt m from rfl,hni]
    simp only [List.mem_append,List.mem_singleton,Bool.false_eq_true,if_false]
    constructor
    ·rintro ((h | h) | h)
     ·exact .inr (List.mem_of_mem_take h)
     ·exact .inl h
     exact .inr (List.mem_of_mem_drop h)
    rintro (h | h)
    ·exact .inl (.inr h)
    rw [← List.take_append_drop (Yf R.2.1.1 (Zt m)) R.2.1.1] at h
    rcases List.mem_append.1 h with h | h
    ·exact .inl (.inl h)
    exact .inr h
   refine ⟨rfl,⟨⟨hput,fun e he=>?_⟩,fun e he=>(hmem e).2 (.inr (k2.2.1 e he)),fun e he=>?_,?_⟩,(hmem _).2 (.inl rfl)⟩
   ·rcases (hmem e).1 he with h9 | h9
    ·exact ⟨m,hs,h9⟩
    exact k2.1.2 e h9
   ·rcases (hmem e).1 he with h9 | h9
    ·exact .inr ⟨m,hs,by omega,h9⟩
    rcases k2.2.2.1 e h9 with h8 | ⟨s,s1,s2,s3⟩
    ·exact .inl h8
    exact .inr ⟨s,s1,by omega,s3⟩
   have hl:=ST (es:=R.2.1.1) (e:=Yr rows 18 m)
   rw [show (Yr rows 18 m).1=Zt m from rfl,hni] at hl
   have:=k2.2.2.2
   simp at hl this ⊢
   omega
  rw [if_neg h3] at hk
  cases hk


theorem Wt {rows:List (List I3)} (hp:Zf rows=true) (m:V4):ZR rows m≤18:=by
 obtain ⟨h3,hr⟩:=Xo hp
 have hc:∀ k,k<3→(Yg rows k).length≤6:=fun k hk=>by
  unfold Yg
  rw [List.getD,List.getElem?_eq_getElem (by omega)]
  exact (hr _ (List.getElem_mem _)).1
 have h0:=hc 0 (by omega)
 have h1:=hc 1 (by omega)
 have h2:=hc 2 (by omega)
 unfold ZR YB
 omega
theorem XK {rows:List (List I3)} (hp:Zf rows=true) {m:V4} (hs:Zc m=true):∀ t ∈ nxM rows m,Zc t.2=true∧ZR rows t.2<ZR rows m:=by
 intro t ht
 unfold nxM at ht
 obtain ⟨k,hk,rfl⟩:=List.mem_map.1 ht
 have hh:=Xe hk
 have:=TH hp hs hh
 exact ⟨Vm hp hs hh,by show ZR rows (goM rows m k).1<ZR rows m;omega⟩
theorem Bs {rows:List (List I3)} (hp:Zf rows=true) (hE:∀ s,Zc s=true→YY (Yr rows 18 s)=true) {f:Nat} {m:V4} {st:Zy} (hs:Zc m=true) (hf:ZR rows m<f) (ht:Wp rows st.1) (hk:(ZG rows f m st).2.2=true):(ZG rows f m st).1=Yr rows 18 m∧Xk rows (ZR rows m+1) st (ZG rows f m st).2.1∧Yr rows 18 m ∈ (ZG rows f m st).2.1.1:=
 LR hp hE (fun m _=>Wt hp m) (fun m hs t ht=>XK hp hs t ht) f m st hs hf ht hk


theorem Lp:∀ (xs:List Int) (n:Int),n ∉ xs→(Yt xs n).length=xs.length+1
 | [],n,_=>by simp [Yt]
 | x::xs,n,h=>by
  have h1:n≠x:=fun e=>h (by rw [e];exact List.mem_cons_self ..)
  have ih:=Lp xs n (fun e=>h (List.mem_cons_of_mem _ e))
  unfold Yt
  repeat' split
  all_goals first | (simp only [List.length_cons,ih];done) | (simp only [List.length_cons];done) | (exfalso;omega)
theorem PU:∀ (xs acc:List Int),xs.Nodup→(∀ x ∈ xs,x ∉ acc)→(xs.foldl Yt acc).length=acc.length+xs.length
 | [],acc,_,_=>rfl
 | x::xs,acc,hn,ha=>by
  have h1:=List.nodup_cons.1 hn
  rw [List.foldl_cons,PU xs _ h1.2 (fun y hy=>by
   rw [Uk]
   rintro (e | e)
   ·subst e;exact h1.1 hy
   exact ha y (List.mem_cons_of_mem _ hy) e),Lp acc x (ha x (List.mem_cons_self ..)),List.length_cons]
  omega
theorem Ng {xs:List Int} {a b:Int} (hn:xs.Nodup) (hb:∀ x ∈ xs,a≤x∧x≤b):(xs.length:Int)≤max (b - a+1) 0:=by
 have h1:=PU xs [] hn (fun x _=>by simp)
 have h2:=Q4 (Yx xs) a b (YQ xs) (fun x hx=>hb x ((XV xs x).1 hx))
 unfold Yx at h2
 rw [h1] at h2
 simpa using h2


theorem KB {x:I3} (h:okB x=true):x=(14,0,0)∨∃ k a b:Nat,(k=12∨k=13)∧a<3∧b<6∧x=((k:Int),(a:Int),(b:Int)):=by
 obtain ⟨c,a,b⟩:=x
 unfold okB at h
 simp only at h
 split at h
 ·rename_i e
  simp at h
  exact .inl (by rw [e,h.1,h.2])
 split at h
 ·rename_i e
  simp [ZD] at h
  refine .inr ⟨c.toNat,a.toNat,b.toNat,by omega,by omega,by omega,?_⟩
  rw [Int.toNat_of_nonneg (by omega),Int.toNat_of_nonneg (by omega),Int.toNat_of_nonneg (by omega)]
 cases h
theorem Ti {x:I3} (h:okB x=true):I3.fits x:=by
 rcases KB h with rfl | ⟨k,a,b,hk,ha,hb,rfl⟩
 ·unfold I3.fits;decide
 have h2:a=0∨a=1∨a=2:=by omega
 have h3:b=0∨b=1∨b=2∨b=3∨b=4∨b=5:=by omega
 rcases hk with rfl | rfl<;>rcases h2 with rfl | rfl | rfl<;>rcases h3 with rfl | rfl | rfl | rfl | rfl | rfl<;>(unfold I3.fits;decide)


def Wm (w:World) (B:Nat) (vb vf:Value) (e:E3):Prop:=w.ownsRow B 103 3 vb e.2.1.length (Zn e.2.1)∧w.ownsRow B 3 1 vf e.2.2.length (e.2.2.map (Value.int .i64))
theorem Wm.below {w w':World} {B:Nat} {vb vf:Value} {e:E3} (h:Wm w B vb vf e) (hb:Below w.heap.size w w'):Wm w' B vb vf e:=⟨Z1 h.1 hb,Z1 h.2 hb⟩
theorem Wm.lower {w:World} {B B':Nat} {vb vf:Value} {e:E3} (h:Wm w B vb vf e) (hB:B'≤B):Wm w B' vb vf e:=⟨Yz h.1 hB,Yz h.2 hB⟩
theorem Wm.slices {w:World} {B:Nat} {vb vf:Value} {e:E3} (h:Wm w B vb vf e):∃ s:Sl2,vb=.slice s.1.1 s.1.2.1 s.1.2.2∧vf=.slice s.2.1 s.2.2.1 s.2.2.2:=by
 obtain ⟨a,c,e1⟩:=ZY h.1
 obtain ⟨a',c',e2⟩:=ZY h.2
 exact ⟨((a,_,c),(a',_,c')),e1,e2⟩
theorem Zr.of_ownB9 {w:World} {B:Nat} {v:Value} {xs:List I3} (h:w.ownsRow B 103 3 v xs.length (Zn xs)) (hf:∀ x ∈ xs,I3.fits x):∃ a cap,v=.slice a xs.length cap∧Zr w a xs.length cap xs:=by
 rcases h.2 with ⟨hv,h0⟩ | ⟨g,cap,cur,hv,_⟩
 ·obtain rfl:xs=[]:=List.eq_nil_of_length_eq_zero h0
  exact ⟨none,0,hv,rfl,Nat.le_refl _,by unfold maxLen;omega,by simp,.inl rfl⟩
 subst hv
 exact ⟨_,_,rfl,Zr.of_owns h rfl hf rfl⟩
def E3.fits (e:E3):Prop:=e.1.size≤maxLen∧(∀ x ∈ e.2.1,I3.fits x)∧∀ z ∈ e.2.2,(Lit.int .i64 z).wf=true
theorem Lk {w:World} {B e s n:Nat} {a:Option Addr} {m c:Nat} {xs:List Value} (h:w.ownsRow B e s (.slice a m c) n xs):a=none→c=0:=by
 rcases h.2 with ⟨hv,_⟩ | ⟨g,cap,cur,hv,_⟩
 ·injection hv with e1 e2 e3
  exact fun _=>e3
 injection hv with e1 e2 e3
 intro ha
 rw [ha] at e1
 cases e1
theorem Wm.mem {w:World} {B:Nat} {s:Sl2} {e:E3} (h:Wm w B (.slice s.1.1 s.1.2.1 s.1.2.2) (.slice s.2.1 s.2.2.1 s.2.2.2) e) (hf:e.fits):YK w s e:=by
 obtain ⟨⟨a1,n1,c1⟩,⟨a2,n2,c2⟩⟩:=s
 obtain ⟨h1,h2⟩:=h
 simp only at h1 h2
 refine ⟨⟨hf.1,Lk h1,Lk h2⟩,?_,?_,hf.2.2⟩
 ·obtain ⟨a,cap,hv,hI⟩:=Zr.of_ownB9 h1 hf.2.1
  injection hv with e1 e2 e3
  subst e1 e2 e3
  exact hI
 obtain ⟨a,cap,hv⟩:=ZY h2
 injection hv with e1 e2 e3
 subst e1 e2 e3
 exact MU h2

end Go.Proofs.YtgmhhegckcionaaGreatDoor
