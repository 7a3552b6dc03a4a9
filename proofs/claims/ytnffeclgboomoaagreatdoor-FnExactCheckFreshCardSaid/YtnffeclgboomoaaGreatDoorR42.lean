/-
  Joined: ChkU, TxeP, ChkW, Vj2P, CkcI, MemK, Cn3I.
-/
import Derived.Shelf.SlIter.Nil
import Derived.Sort.KeysCollected
import Derived.Test.YtnffeclgboomoaaGreatDoorR41

namespace Go.Proofs.YtnffeclgboomoaaGreatDoor
set_option maxRecDepth 100000
set_option maxHeartbeats 16000000
open Go.RowKit
set_option linter.unusedVariables false
set_option linter.unusedSimpArgs false

theorem KM {m:V4} {x:I3} {k:Nat} (h:(ZJ m x k).2≠0):(ZJ m x k).2=if x.1=6 then 13 else 12:=by
 by_cases h1:x.1=1
 ·exact absurd (by unfold ZJ;rw [if_pos h1]) h
 by_cases h2:x.1=2
 ·exact absurd (by unfold ZJ;rw [if_neg h1,if_pos h2]) h
 by_cases h3:x.1=3
 ·exact absurd (by unfold ZJ;rw [if_neg h1,if_neg h2,if_pos h3]) h
 by_cases h4:x.1=4
 ·exact absurd (by unfold ZJ;rw [if_neg h1,if_neg h2,if_neg h3,if_pos h4]) h
 by_cases h5:x.1=5
 ·exact absurd (by unfold ZJ;rw [if_neg h1,if_neg h2,if_neg h3,if_neg h4,if_pos h5]) h
 by_cases h6:x.1=6
 ·rw [if_pos h6]
  by_cases hh:m.2.2.1.getD x.2.1.toNat 0=k+1
  ·exact absurd (by unfold ZJ;rw [if_neg h1,if_neg h2,if_neg h3,if_neg h4,if_neg h5,if_pos h6,if_pos hh]) h
  unfold ZJ
  rw [if_neg h1,if_neg h2,if_neg h3,if_neg h4,if_neg h5,if_pos h6,if_neg hh]
 rw [if_neg h6]
 by_cases h7:x.1=7
 ·by_cases hh:m.2.2.2.getD (k*2+x.2.1.toNat) 0=0
  ·exact absurd (by unfold ZJ;rw [if_neg h1,if_neg h2,if_neg h3,if_neg h4,if_neg h5,if_neg h6,if_pos h7,if_pos hh]) h
  exact absurd (by unfold ZJ;rw [if_neg h1,if_neg h2,if_neg h3,if_neg h4,if_neg h5,if_neg h6,if_pos h7,if_neg hh]) h
 by_cases hh:m.2.2.2.getD (k*2+x.2.1.toNat) 0=x.2.2
 ·exact absurd (by unfold ZJ;rw [if_neg h1,if_neg h2,if_neg h3,if_neg h4,if_neg h5,if_neg h6,if_neg h7,if_pos hh]) h
 unfold ZJ
 rw [if_neg h1,if_neg h2,if_neg h3,if_neg h4,if_neg h5,if_neg h6,if_neg h7,if_neg hh]
def Gq (rows:List (List I3)) (x:I3):Prop:=x=(14,0,0)∨∃ k p:Nat,k<3∧p<6∧x=((if ((Xq rows k).getD p (0,0,0)).1=6 then 13 else 12),(k:Int),(p:Int))
theorem Lh {rows:List (List I3)} {m:V4} {k:Int} (hp:Zq rows=true) (hs:Zh m=true) (hz:VQ rows m k=0) {x:I3} (hx:x ∈ XQ rows m k):Gq rows x:=by
 obtain ⟨h0,h2,hd,_⟩:=X8 hz
 obtain ⟨q,rfl⟩:∃ q:Nat,k=q:=⟨k.toNat,by omega⟩
 rw [Int.toNat_natCast] at hd
 obtain ⟨p,e1,e2,e3,_⟩:=VJ hp hs (show q<3 by omega) hd
 have hl:=(Wv hp (show q<3 by omega)).1
 unfold XQ at hx
 rw [Int.toNat_natCast] at hx
 by_cases h9:(goM rows m (q:Int)).2=0
 ·rw [if_pos h9] at hx
  cases hx
 rw [if_neg h9] at hx
 have hx2:=List.mem_singleton.1 hx
 refine .inr ⟨q,p,by omega,by omega,?_⟩
 rw [hx2,e1]
 unfold goM at h9 ⊢
 rw [Int.toNat_natCast] at h9 ⊢
 rw [KM h9,e3]
theorem S5 {rows:List (List I3)} {m:V4} {x:I3} (hx:x ∈ ZD rows m):Gq rows x:=by
 unfold ZD at hx
 split at hx
 ·exact .inl (List.mem_singleton.1 hx)
 cases hx
theorem UI {rows:List (List I3)} {x:I3} (hx:Gq rows x):okB x=true:=by
 rcases hx with rfl | ⟨k,p,hk,hp,rfl⟩
 ·rfl
 unfold okB inB
 split<;>simp<;>omega


theorem Kw {xs:List I3} (h:VZ xs=true):∀ x ∈ xs,okB x=true:=by
 intro x hx
 obtain ⟨t,ht,rfl⟩:=List.getElem_of_mem hx
 have:=Vn h ht
 simp only [MU,Bool.and_eq_true] at this
 simpa [List.getD,List.getElem?_eq_getElem ht] using this.1
theorem VM {e:E3} (h:Ve e=true):WH e.1=true∧VZ e.2.1=true∧St e.2.2=true∧e.2.1.length≤30:=by
 simp only [Ve,Bool.and_eq_true,decide_eq_true_eq] at h
 exact h


def Yq (e:E3):Prop:=YL e.2.1∧(∀ x ∈ e.2.1,okB x=true)∧e.2.2.Pairwise (· < ·)∧∀ y ∈ e.2.2,XO y=true
theorem XN:Yq e3d:=⟨List.Pairwise.nil,by simp [e3d],List.Pairwise.nil,by simp [e3d]⟩
def nmB (x:I3):Int:=if x.1=14 then 0 else (x.1 - 12)*18+(x.2.1*6+x.2.2+1)
theorem GF {x:I3} (h:okB x=true):0≤nmB x∧nmB x≤36:=by
 unfold okB inB at h
 unfold nmB
 split at h
 ·rename_i h1;rw [if_pos h1];omega
 rename_i h1
 rw [if_neg h1]
 split at h
 ·simp at h;omega
 cases h
theorem Ho {x y:I3} (h:okB x=true) (h':okB y=true) (e:nmB x=nmB y):x=y:=by
 obtain ⟨a,b,c⟩:=x
 obtain ⟨a',b',c'⟩:=y
 unfold okB inB at h h'
 unfold nmB at e
 simp only at h h' e
 by_cases h1:a=14<;>by_cases h2:a'=14
 ·rw [if_pos h1] at h;rw [if_pos h2] at h'
  simp at h h'
  obtain ⟨rfl,rfl⟩:=h
  obtain ⟨rfl,rfl⟩:=h'
  rw [h1,h2]
 ·rw [if_pos h1] at h e;rw [if_neg h2] at h' e
  split at h'
  ·simp at h';exfalso;omega
  cases h'
 ·rw [if_neg h1] at h e;rw [if_pos h2] at h' e
  split at h
  ·simp at h;exfalso;omega
  cases h
 rw [if_neg h1] at h e;rw [if_neg h2] at h' e
 split at h
 ·split at h'
  ·simp at h h'
   have e1:a=a':=by omega
   have e2:b=b':=by omega
   have e3:c=c':=by omega
   rw [e1,e2,e3]
  cases h'
 cases h
theorem Rw {f:I3→Int}:∀ {xs:List I3},xs.Nodup→(∀ x ∈ xs,∀ y ∈ xs,f x=f y→x=y)→(xs.map f).Nodup
 | [],_,_=>List.nodup_nil
 | x::xs,hn,hc=>by
  obtain ⟨h1,h2⟩:=List.nodup_cons.1 hn
  rw [List.map_cons,List.nodup_cons]
  refine ⟨fun hm=>?_,Rw h2 (fun y hy z hz=>hc y (List.mem_cons_of_mem _ hy) z (List.mem_cons_of_mem _ hz))⟩
  obtain ⟨y,hy,e⟩:=List.mem_map.1 hm
  have:=hc x (List.mem_cons_self ..) y (List.mem_cons_of_mem _ hy) e.symm
  subst this
  exact h1 hy
theorem YL.nodup11 {xs:List I3} (h:YL xs):xs.Nodup:=h.imp (fun h e=>by subst e;rw [Vs] at h;cases h)
theorem Yq.bugs {e:E3} (h:Yq e):e.2.1.length≤37:=by
 have h1:=Ko (Rw h.1.nodup11 (f:=nmB) (fun x hx y hy=>Ho (h.2.1 x hx) (h.2.1 y hy))) (a:=0) (b:=36) (fun y hy=>by
  obtain ⟨x,hx,rfl⟩:=List.mem_map.1 hy
  exact GF (h.2.1 x hx))
 rw [List.length_map] at h1
 omega
theorem Yq.foot {e:E3} (h:Yq e):e.2.2.length≤23:=by
 have h1:=RH e.2.2 0 22 h.2.2.1 (fun x hx=>by
  have:=h.2.2.2 x hx
  unfold XO at this
  simp only [decide_eq_true_eq] at this
  omega)
 omega
theorem Yq.merge {e f:E3} (h:Yq e) (h':Yq f) (k:ByteArray):Yq (k,ZL e.2.1 f.2.1,YA (e.2.2++f.2.2)):=
 ⟨Xl _ _,fun x hx=>by
  rcases Xd.1 hx with h9 | h9
  ·exact h.2.1 x h9
  ·exact h'.2.1 x h9,Xe _,fun y hy=>by
  rcases List.mem_append.1 ((Wg _ y).1 hy) with h9 | h9
  ·exact h.2.2.2 y h9
  exact h'.2.2.2 y h9⟩
theorem S8 {rows:List (List I3)} (hp:Zq rows=true) {m:V4} (hs:Zh m=true) (k:ByteArray):Yq (k,ZK rows m,ZA m):=⟨UY rows m,(Hi hp hs).1,VU hs,look_ok hs⟩
theorem QS {xs:List I3} (h:VZ xs=true):∀ {j i:Nat},i<j→j<xs.length→ltB (xs.getD i (0,0,0)) (xs.getD j (0,0,0))=true
 | 0,i,hi,_=>by omega
 | j+1,i,hi,hj=>by
  have hn:=Vn h hj
  simp only [MU,Bool.and_eq_true,Bool.or_eq_true,decide_eq_true_eq] at hn
  have hn2:ltB (xs.getD j (0,0,0)) (xs.getD (j+1) (0,0,0))=true:=by
   rcases hn.2 with h0 | h1
   ·omega
   simpa using h1
  by_cases e:i=j
  ·rw [e];exact hn2
  exact Vf (QS h (j:=j) (i:=i) (by omega) (by omega)) hn2
theorem QT {xs:List Int} (h:St xs=true):∀ {j i:Nat},i<j→j<xs.length→xs.getD i 0<xs.getD j 0
 | 0,i,hi,_=>by omega
 | j+1,i,hi,hj=>by
  have hn:=Vn h hj
  simp only [P1,Bool.and_eq_true,Bool.or_eq_true,decide_eq_true_eq] at hn
  have hn2:xs.getD j 0<xs.getD (j+1) 0:=by
   rcases hn.2 with h0 | h1
   ·omega
   simpa using h1
  by_cases e:i=j
  ·rw [e];exact hn2
  exact Int.lt_trans (QT h (j:=j) (i:=i) (by omega) (by omega)) hn2
theorem Jz {xs:List I3} (h:VZ xs=true):YL xs:=by
 refine List.pairwise_iff_getElem.2 (fun i j hi hj hij=>?_)
 have:=QS h hij hj
 simpa [List.getD,List.getElem?_eq_getElem hi,List.getElem?_eq_getElem hj] using this
theorem JA {xs:List Int} (h:St xs=true):xs.Pairwise (· < ·):=by
 refine List.pairwise_iff_getElem.2 (fun i j hi hj hij=>?_)
 have:=QT h hij hj
 simpa [List.getD,List.getElem?_eq_getElem hi,List.getElem?_eq_getElem hj] using this
theorem Kx {xs:List Int} (h:St xs=true):∀ x ∈ xs,XO x=true:=by
 intro x hx
 obtain ⟨t,ht,rfl⟩:=List.getElem_of_mem hx
 have:=(NC h t ht).2
 simpa [List.getD,List.getElem?_eq_getElem ht] using this
theorem SM {e:E3} (h:Ve e=true):Yq e:=by
 obtain ⟨_,h2,h3,_⟩:=VM h
 refine ⟨?_,Kw h2,?_,?_⟩
 ·exact Jz h2
 ·exact JA h3
 exact Kx h3
theorem NT {rows:List (List I3)} {rec:V4→ZE→E3 × ZE × Bool}:∀ (ts:List (Int × V4)) (e:E3) (st:ZE),(∀ t ∈ ts,∀ st:ZE,(∀ x ∈ st.1,Yq x)→Yq (rec t.2 st).1∧∀ x ∈ (rec t.2 st).2.1.1,Yq x)→(∀ x ∈ st.1,Yq x)→Yq e→Yq (YJ rec ts e st).1∧∀ x ∈ (YJ rec ts e st).2.1.1,Yq x
 | [],e,st,hr,ht,he=>⟨he,ht⟩
 | t::ts,e,st,hr,ht,he=>by
  obtain ⟨h1,h2⟩:=hr t (List.mem_cons_self ..) st ht
  unfold YJ
  split
  ·exact NT (rows:=rows) ts _ _ (fun t' ht'=>hr t' (List.mem_cons_of_mem _ ht')) h2 (he.merge h1 _)
  exact ⟨XN,h2⟩
theorem SW {rows:List (List I3)} (hp:Zq rows=true):∀ (f:Nat) (m:V4) (st:ZE),Zh m=true→(∀ x ∈ st.1,Yq x)→Yq (Z7 rows f m st).1∧∀ x ∈ (Z7 rows f m st).2.1.1,Yq x
 | 0,m,st,hs,ht=>by unfold Z7;exact ⟨XN,ht⟩
 | f+1,m,st,hs,ht=>by
  obtain ⟨k1,k2⟩:=NT (rows:=rows) (rec:=Z7 rows f) (nxM rows m) (ZG m,ZK rows m,ZA m) (st.1,st.2+1) (fun t htm st' ht'=>SW hp f t.2 st' (Tb hp hs t htm).1 ht') ht (S8 hp hs _)
  unfold Z7
  by_cases h1:isE st.1 (ZG m)=true
  ·rw [if_pos h1]
   refine ⟨?_,ht⟩
   have hi:=h1
   simp only [isE,Bool.and_eq_true,decide_eq_true_eq] at hi
   show Yq (WU st.1 (ZG m))
   unfold WU
   rw [if_pos h1,Y4 hi.1]
   exact ht _ (List.getElem_mem _)
  rw [if_neg h1]
  by_cases h2:st.1.length=2000
  ·rw [if_pos h2]
   exact ⟨XN,ht⟩
  rw [if_neg h2]
  generalize YJ (Z7 rows f) (nxM rows m) (ZG m,ZK rows m,ZA m) (st.1,st.2+1)=R at *
  by_cases h3:R.2.2=true
  ·rw [if_pos h3]
   by_cases h4:R.2.1.1.length=2000
   ·rw [if_pos h4]
    exact ⟨XN,k2⟩
   rw [if_neg h4]
   refine ⟨k1,fun x hx=>?_⟩
   rcases Ui hx with h9 | h9
   ·rw [h9];exact k1
   exact k2 x h9
  rw [if_neg h3]
  exact ⟨XN,k2⟩


def Q0 (n:Nat) (a:List I3 × List Int):Prop:=(∀ x ∈ a.1,okB x=true)∧(∀ y ∈ a.2,XO y=true)∧a.1.length≤1+n*39∧a.2.length≤3+n*23
theorem VL (rows:List (List I3)) (m:V4):(ZD rows m).length≤1:=by
 unfold ZD
 split<;>simp
theorem RA (rows:List (List I3)) (m:V4) (k:Int):(XQ rows m k).length≤1:=by
 unfold XQ
 split<;>simp
theorem SZ {rows:List (List I3)} {m:V4} (hs:Zh m=true):Q0 0 (ZD rows m,ZA m):=⟨fun x hx=>UI (S5 (rows:=rows) hx),look_ok hs,VL rows m,by simp [ZA]⟩
theorem Q0.step {rows:List (List I3)} {n:Nat} {a:List I3 × List Int} (h:Q0 n a) (hp:Zq rows=true) {m:V4} (hs:Zh m=true) {t:Int × V4} (ht:t ∈ nxM rows m) {e:E3} (he:Yq e):Q0 (n+1) (((a.1++XQ rows m t.1)++ZD rows t.2)++e.2.1,a.2++e.2.2):=by
 obtain ⟨h1,h2,h3,h4⟩:=h
 have hk:t.1 ∈ Zv rows m 3:=by
  unfold nxM at ht
  obtain ⟨k,hk,rfl⟩:=List.mem_map.1 ht
  exact hk
 refine ⟨fun x hx=>?_,fun y hy=>?_,?_,?_⟩
 ·simp only [List.mem_append] at hx
  rcases hx with ((hx | hx) | hx) | hx
  ·exact h1 x hx
  ·exact UI (Lh hp hs (XM hk) hx)
  ·exact UI (S5 (rows:=rows) hx)
  exact he.2.1 x hx
 ·rcases List.mem_append.1 hy with hy | hy
  ·exact h2 y hy
  exact he.2.2.2 y hy
 ·have:=he.bugs
  have:=RA rows m t.1
  have:=VL rows t.2
  simp only [List.length_append]
  omega
 have:=he.foot
 simp only [List.length_append]
 omega
theorem Q0.ent {n:Nat} {a:List I3 × List Int} (h:Q0 n a) (m:V4) (st:ZE):Yq (Vd m (a,st)):=by
 refine ⟨Xl _ _,fun x hx=>?_,Xe _,fun y hy=>h.2.1 y ((Wg _ y).1 hy)⟩
 rcases Xd.1 hx with h9 | h9
 ·exact h.1 x h9
 cases h9
theorem QX {rows:List (List I3)} {m:V4} {rec:V4→ZE→E3 × ZE} (t:Int × V4):∀ (ts:List (Int × V4)) (acc:List I3 × List Int) (st:ZE),
  XD rows m rec (ts++[t]) acc st=(((((XD rows m rec ts acc st).1.1++XQ rows m t.1)++ZD rows t.2)++(rec t.2 (XD rows m rec ts acc st).2).1.2.1,(XD rows m rec ts acc st).1.2++(rec t.2 (XD rows m rec ts acc st).2).1.2.2),(rec t.2 (XD rows m rec ts acc st).2).2)
 | [],acc,st=>rfl
 | s::ts,acc,st=>by
  show XD rows m rec (ts++[t]) _ _=_
  rw [QX t ts]
  rfl
theorem RX {rows:List (List I3)} (hp:Zq rows=true) {m:V4} (hs:Zh m=true) {rec:V4→ZE→E3 × ZE}:∀ (ts:List (Int × V4)) (n:Nat) (acc:List I3 × List Int) (st:ZE),(∀ t ∈ ts,t ∈ nxM rows m)→(∀ t ∈ ts,∀ st:ZE,(∀ x ∈ st.1,Yq x)→Yq (rec t.2 st).1∧∀ x ∈ (rec t.2 st).2.1,Yq x)→Q0 n acc→(∀ x ∈ st.1,Yq x) →
  Q0 (n+ts.length) (XD rows m rec ts acc st).1∧∀ x ∈ (XD rows m rec ts acc st).2.1,Yq x
 | [],n,acc,st,hn,hr,ha,ht=>⟨ha,ht⟩
 | t::ts,n,acc,st,hn,hr,ha,ht=>by
  obtain ⟨h1,h2⟩:=hr t (List.mem_cons_self ..) st ht
  have h3:=RX hp hs ts (n+1) _ (rec t.2 st).2 (fun s h=>hn s (List.mem_cons_of_mem _ h)) (fun s h=>hr s (List.mem_cons_of_mem _ h)) (ha.step hp hs (hn t (List.mem_cons_self ..)) h1) h2
  rw [List.length_cons,show n+(ts.length+1)=n+1+ts.length by omega]
  exact h3
theorem Vk {rows:List (List I3)} (hp:Zq rows=true) {g:Nat}:∀ (f:Nat) (m:V4) (st:ZE),Zh m=true→(∀ x ∈ st.1,Yq x)→Yq (Yk rows g f m st).1∧∀ x ∈ (Yk rows g f m st).2.1,Yq x
 | 0,m,st,hs,ht=>⟨XN,ht⟩
 | f+1,m,st,hs,ht=>by
  unfold Yk
  by_cases h1:isE st.1 (ZG m)=true
  ·rw [if_pos h1]
   refine ⟨?_,ht⟩
   have hi:=h1
   simp only [isE,Bool.and_eq_true,decide_eq_true_eq] at hi
   show Yq (WU st.1 (ZG m))
   unfold WU
   rw [if_pos h1,Y4 hi.1]
   exact ht _ (List.getElem_mem _)
  rw [if_neg h1]
  by_cases h2:2000<g+(st.2+1)
  ·rw [if_pos h2]
   exact ⟨XN,ht⟩
  rw [if_neg h2]
  obtain ⟨k1,k2⟩:=RX hp hs (rec:=Yk rows g f) (nxM rows m) 0 (ZD rows m,ZA m) (st.1,st.2+1) (fun t h=>h) (fun t htm st' ht'=>Vk hp f t.2 st' (Tb hp hs t htm).1 ht') (SZ hs) ht
  have k3:=k1.ent m (XD rows m (Yk rows g f) (nxM rows m) (ZD rows m,ZA m) (st.1,st.2+1)).2
  refine ⟨k3,fun x hx=>?_⟩
  rcases Ui hx with h9 | h9
  ·rw [h9];exact k3
  exact k2 x h9
def Z1 (rows:List (List I3)) (g f:Nat) (m:V4) (st:ZE) (i:Nat):(List I3 × List Int) × ZE:=XD rows m (Yk rows g f) ((nxM rows m).take i) (ZD rows m,ZA m) st
theorem MJ (rows:List (List I3)) (g f:Nat) (m:V4) (st:ZE):Z1 rows g f m st 0=((ZD rows m,ZA m),st):=rfl
theorem MI {rows:List (List I3)} {g f:Nat} {m:V4} {st:ZE} {i:Nat} {k:Int} (h:(Zv rows m 3)[i]?=some k):Z1 rows g f m st (i+1)=(((((Z1 rows g f m st i).1.1++XQ rows m k)++ZD rows (goM rows m k).1)++(Yk rows g f (goM rows m k).1 (Z1 rows g f m st i).2).1.2.1,(Z1 rows g f m st i).1.2++(Yk rows g f (goM rows m k).1 (Z1 rows g f m st i).2).1.2.2),(Yk rows g f (goM rows m k).1 (Z1 rows g f m st i).2).2):=by
 unfold Z1
 have h9:(nxM rows m)[i]?=some (k,(goM rows m k).1):=by unfold nxM;rw [List.getElem?_map,h];rfl
 rw [List.take_add_one,h9]
 exact QX (k,(goM rows m k).1) _ _ _
theorem T2 {rows:List (List I3)} {g f:Nat} {m:V4} {st:ZE} {i:Nat} (h:(Zv rows m 3).length≤i):Z1 rows g f m st i=XD rows m (Yk rows g f) (nxM rows m) (ZD rows m,ZA m) st:=by
 unfold Z1
 rw [List.take_of_length_le (by unfold nxM;rw [List.length_map];exact h)]
theorem KU {rows:List (List I3)} (hp:Zq rows=true) {m:V4} (hs:Zh m=true) {g f:Nat} {st:ZE} (ht:∀ x ∈ st.1,Yq x) (i:Nat):Q0 3 (Z1 rows g f m st i).1∧∀ x ∈ (Z1 rows g f m st i).2.1,Yq x:=by
 obtain ⟨h1,h2⟩:=RX hp hs (rec:=Yk rows g f) ((nxM rows m).take i) 0 (ZD rows m,ZA m) st (fun t h=>List.mem_of_mem_take h) (fun t htm st' ht'=>Vk hp f t.2 st' (Tb hp hs t (List.mem_of_mem_take htm)).1 ht') (SZ hs) ht
 have hl:=Ld rows m
 have hl2:((nxM rows m).take i).length≤3:=by rw [List.length_take];omega
 exact ⟨⟨h1.1,h1.2.1,by have:=h1.2.2.1;unfold Z1;omega,by have:=h1.2.2.2;unfold Z1;omega⟩,h2⟩
theorem QU {rows:List (List I3)} {g f:Nat} {m:V4} {st:ZE} (i:Nat) (hi:i≤3):(Z1 rows g f m st i).2.2≤st.2+i*VF f:=by
 have h:=RY (rows:=rows) (m:=m) (B:=VF f) (fun x st=>RW (rows:=rows) (g:=g) f x st) ((nxM rows m).take i) (ZD rows m,ZA m) st
 have h2:=Nat.mul_le_mul_right (VF f) (show ((nxM rows m).take i).length≤i by rw [List.length_take];omega)
 unfold Z1
 omega
theorem KT {rows:List (List I3)} {g f:Nat} {m:V4} {st:ZE} (i:Nat):st.2≤(Z1 rows g f m st i).2.2:=Tx (fun x st=>RU (rows:=rows) (g:=g) f x st) _ _ _


def SlB (s:Sl) (j:Nat):Prop:=s.2.1≠0∧∃ o,s.1=some ⟨j,o,none⟩
def EnB (s:Sl2) (j:Nat):Prop:=SlB s.1 j∨SlB s.2 j
theorem Xi (w:World) (b i:Nat) (v:Value):w.grownBy (w.setCell ⟨b,i,none⟩ v) (some b):=⟨rfl,rfl,rfl,by simp [World.setCell],fun k _ hk=>Below.heap_setCell w _ v k (fun e=>hk (by rw [e]))⟩
theorem Wn {w:World} {B:Nat} {v:Value} {xs:List I3} (h:w.ownsRow B 127 3 v xs.length (Zl xs)) (hf:∀ x ∈ xs,I3.fits x):∃ a cap,v=.slice a xs.length cap∧Zm w a xs.length cap xs∧VH a cap∧∀ j,SlB (a,xs.length,cap) j→v.ownBlock=some j:=by
 rcases h.2 with ⟨rfl,h0⟩ | ⟨g,cap,cur,hv,_⟩
 ·exact ⟨none,0,by rw [h0],⟨rfl,by omega,Nat.zero_le _,hf,.inl h0⟩,⟨fun _=>rfl,fun x hx=>by cases hx⟩,fun j hj=>absurd h0 hj.1⟩
 subst hv
 exact ⟨_,_,rfl,Zm.of_owns h rfl hf rfl,⟨fun h=>(by cases h),fun x hx=>by cases hx;rfl⟩,fun j hj=>by obtain ⟨_,o,e⟩:=hj;cases e;rfl⟩
theorem UT {w:World} {B:Nat} {v:Value} {xs:List Int} (h:w.ownsRow B 3 1 v xs.length (xs.map (Value.int .i64))):∃ a cap,v=.slice a xs.length cap∧Yi .i64 w a xs.length cap xs∧VH a cap∧∀ j,SlB (a,xs.length,cap) j→v.ownBlock=some j:=by
 rcases h.2 with ⟨rfl,h0⟩ | ⟨g,cap,cur,hv,_⟩
 ·exact ⟨none,0,by rw [h0],⟨rfl,by omega,Nat.zero_le _,.inl h0⟩,⟨fun _=>rfl,fun x hx=>by cases hx⟩,fun j hj=>absurd h0 hj.1⟩
 subst hv
 exact ⟨_,_,rfl,Qy h,⟨fun h=>(by cases h),fun x hx=>by cases hx;rfl⟩,fun j hj=>by obtain ⟨_,o,e⟩:=hj;cases e;rfl⟩
theorem Yi.same11 {k:IntKind} {w w':World} {a:Option Addr} {n c:Nat} {zs:List Int} (h:Yi k w a n c zs) (hz:w.heap.size≤w'.heap.size) (hb:∀ j,SlB (a,n,c) j→w'.heap[j]?=w.heap[j]?):Yi k w' a n c zs:=by
 obtain ⟨h1,h2,h3,h4⟩:=h
 refine ⟨h1,h2,h3,?_⟩
 rcases h4 with h4 | ⟨b,off,rfl,hlt,hc⟩
 ·exact .inl h4
 by_cases hn:n=0
 ·exact .inl hn
 exact .inr ⟨b,off,rfl,by omega,fun t ht=>by rw [World.cell?_of_block (w:=w) (a:=⟨b,off+t,none⟩) (hb b ⟨hn,off,rfl⟩)];exact hc t ht⟩
theorem Zm.same11 {w w':World} {a:Option Addr} {n c:Nat} {xs:List I3} (h:Zm w a n c xs) (hz:w.heap.size≤w'.heap.size) (hb:∀ j,SlB (a,n,c) j→w'.heap[j]?=w.heap[j]?):Zm w' a n c xs:=by
 obtain ⟨h1,h2,h3,hf,h4⟩:=h
 refine ⟨h1,h2,h3,hf,?_⟩
 rcases h4 with h4 | ⟨b,off,rfl,hlt,hc⟩
 ·exact .inl h4
 by_cases hn:n=0
 ·exact .inl hn
 refine .inr ⟨b,off,rfl,by omega,fun t ht=>?_⟩
 have e:=hb b ⟨hn,off,rfl⟩
 rw [World.cell?_of_block (w:=w) (a:=⟨b,off+t*3,none⟩) e,World.cell?_of_block (w:=w) (a:=⟨b,off+t*3+1,none⟩) e,World.cell?_of_block (w:=w) (a:=⟨b,off+t*3+2,none⟩) e]
 exact hc t ht
theorem YI.same11 {w w':World} {s:Sl2} {e:E3} (h:YI w s e) (hz:w.heap.size≤w'.heap.size) (hb:∀ j,EnB s j→w'.heap[j]?=w.heap[j]?):YI w' s e:=
 ⟨h.1,h.2.1.same11 hz (fun j hj=>hb j (.inl hj)),h.2.2.1.same11 hz (fun j hj=>hb j (.inr hj)),h.2.2.2⟩
theorem Yi.blk11 {k:IntKind} {w:World} {a:Option Addr} {n c:Nat} {zs:List Int} (h:Yi k w a n c zs) {j:Nat} (hj:SlB (a,n,c) j):j<w.heap.size∧∀ es clock,w.heap[j]?≠some (.map es clock):=by
 obtain ⟨h1,h2,h3,h4⟩:=h
 obtain ⟨hn,o,e⟩:=hj
 rcases h4 with h4 | ⟨b,off,rfl,hlt,hc⟩
 ·exact absurd h4 hn
 cases e
 refine ⟨hlt,fun es clock e9=>?_⟩
 have h9:=hc 0 (Nat.pos_of_ne_zero hn)
 simp only [World.cell?] at h9
 rw [e9] at h9
 simp at h9
theorem Zm.blk11 {w:World} {a:Option Addr} {n c:Nat} {xs:List I3} (h:Zm w a n c xs) {j:Nat} (hj:SlB (a,n,c) j):j<w.heap.size∧∀ es clock,w.heap[j]?≠some (.map es clock):=by
 obtain ⟨h1,h2,h3,hf,h4⟩:=h
 obtain ⟨hn,o,e⟩:=hj
 rcases h4 with h4 | ⟨b,off,rfl,hlt,hc⟩
 ·exact absurd h4 hn
 cases e
 refine ⟨hlt,fun es clock e9=>?_⟩
 have h9:=(hc 0 (Nat.pos_of_ne_zero hn)).1
 simp only [World.cell?] at h9
 rw [e9] at h9
 simp at h9
theorem YI.blk11 {w:World} {s:Sl2} {e:E3} (h:YI w s e) {j:Nat} (hj:EnB s j):j<w.heap.size∧∀ es clock,w.heap[j]?≠some (.map es clock):=by
 rcases hj with hj | hj
 ·exact h.2.1.blk11 hj
 exact h.2.2.1.blk11 hj
theorem Yi.int11 {w:World} {a:Option Addr} {n c:Nat} {zs:List Int} (h:Yi .i64 w a n c zs) {j:Nat} (hj:SlB (a,n,c) j):∃ o v,w.cell? ⟨j,o,none⟩=some (.int .i64 v):=by
 obtain ⟨h1,h2,h3,h4⟩:=h
 obtain ⟨hn,o,e⟩:=hj
 rcases h4 with h4 | ⟨b,off,rfl,hlt,hc⟩
 ·exact absurd h4 hn
 cases e
 exact ⟨_,_,hc 0 (Nat.pos_of_ne_zero hn)⟩
theorem Zm.int11 {w:World} {a:Option Addr} {n c:Nat} {xs:List I3} (h:Zm w a n c xs) {j:Nat} (hj:SlB (a,n,c) j):∃ o v,w.cell? ⟨j,o,none⟩=some (.int .i64 v):=by
 obtain ⟨h1,h2,h3,hf,h4⟩:=h
 obtain ⟨hn,o,e⟩:=hj
 rcases h4 with h4 | ⟨b,off,rfl,hlt,hc⟩
 ·exact absurd h4 hn
 cases e
 exact ⟨_,_,(hc 0 (Nat.pos_of_ne_zero hn)).1⟩
theorem YI.off11 {w:World} {s:Sl2} {e:E3} (h:YI w s e) {j:Nat} (hj:EnB s j) {X T:Nat} {cs:List Value} (hB:Blk w X T cs) (hn:T3 cs):j≠X:=by
 rcases hj with hj | hj
 ·obtain ⟨o,v,h9⟩:=h.2.1.int11 hj
  exact Wu hB hn h9
 obtain ⟨o,v,h9⟩:=h.2.2.1.int11 hj
 exact Wu hB hn h9
structure XZ (w w':World) (C nb:Nat):Prop where
 os:w'.os=w.os
 tape:w'.tape=w.tape
 output:w'.output=w.output
 size:w.heap.size≤w'.heap.size
 block:∀ j,j<w.heap.size→j≠C→j≠nb→w'.heap[j]?=w.heap[j]?
theorem XZ.refl (w:World) (C nb:Nat):XZ w w C nb:=⟨rfl,rfl,rfl,Nat.le_refl _,fun _ _ _ _=>rfl⟩
theorem XZ.trans {a b c:World} {C nb:Nat} (h:XZ a b C nb) (k:XZ b c C nb):XZ a c C nb:=
 ⟨k.os.trans h.os,k.tape.trans h.tape,k.output.trans h.output,Nat.le_trans h.size k.size,fun j hj h1 h2=>(k.block j (Nat.lt_of_lt_of_le hj h.size) h1 h2).trans (h.block j hj h1 h2)⟩
theorem XZ.of {a b:World} {C nb:Nat} (k:Below a.heap.size a b):XZ a b C nb:=⟨k.os,k.tape,k.output,k.size,fun j hj _ _=>k.block j hj⟩
theorem XZ.bel {a b c:World} {C nb:Nat} (h:XZ a b C nb) (k:Below b.heap.size b c):XZ a c C nb:=h.trans (XZ.of k)
theorem XZ.gr {a b c:World} {C nb:Nat} {r:Option Nat} (h:XZ a b C nb) (k:b.grownBy c r) (hr:∀ j,r=some j→j=C∨j=nb∨a.heap.size≤j):XZ a c C nb:=
 ⟨k.os.trans h.os,k.tape.trans h.tape,k.output.trans h.output,Nat.le_trans h.size k.size,fun j hj h1 h2=>(k.block j (Nat.lt_of_lt_of_le hj h.size) (fun e=>by
  rcases hr j e.symm with h9 | h9 | h9
  ·exact h1 h9
  ·exact h2 h9
  omega)).trans (h.block j hj h1 h2)⟩
theorem XZ.blk {w w':World} {C nb g t:Nat} {cs:List Value} (k:XZ w w' C nb) (p:Blk w g t cs) (hC:g≠C) (hn:g≠nb):Blk w' g t cs:=(k.block g p.lt hC hn).trans p
theorem XZ.row {w w':World} {C nb B e s n:Nat} {v:Value} {xs:List Value} (k:XZ w w' C nb) (ho:w.ownsRow B e s v n xs) (hC:v.ownBlock≠some C) (hn:v.ownBlock≠some nb):w'.ownsRow B e s v n xs:=by
 have hlt:=fun g hg=>(Ym ho (g:=g) hg).2
 refine ⟨ho.1,?_⟩
 rcases ho.2 with hn9 | ⟨g,cap,cur,rfl,hb9,hgg,rest⟩
 ·exact .inl hn9
 exact .inr ⟨g,cap,cur,rfl,hb9,(k.block g (hlt g rfl) (fun e=>hC (by rw [← e];rfl)) (fun e=>hn (by rw [← e];rfl))).trans hgg,rest⟩
def MQ (C:Nat) (s:Sl2):Prop:=VH s.1.1 s.1.2.2∧∀ j,EnB s j→j≠C
structure OnC (w0 w:World) (C nb g n:Nat) (L:List EQ) (nd:Nat):Prop where
 base:Below w0.heap.size w0 w
 box:Blk w C 132 [.map (some nb),.int .i64 (g:Int),.int .i64 (nd:Int)]
 map:∃ D:DataW Value,w.ownsMap Tryz.prog 9 Vi nb n D∧Uk D L
 ents:∀ x ∈ L,YI w x.2 x.1∧MQ C x.2
 hC:w0.heap.size≤C
 hn:w0.heap.size≤nb
theorem Kk {w:World} {nb n:Nat} {D:DataW Value} (h:w.ownsMap Tryz.prog 9 Vi nb n D):∃ es clock,w.heap[nb]?=some (.map es clock):=by
 obtain ⟨es,clock,hb,_⟩:=h
 exact ⟨es,clock,hb⟩
theorem OnC.any {w0 w:World} {C nb g n nd:Nat} {L:List EQ} (h:OnC w0 w C nb g n L nd):∃ es clock,w.heap[nb]?=some (.map es clock):=by
 obtain ⟨D,hm,_⟩:=h.map
 exact Kk hm
theorem OnC.noblk {w0 w:World} {C nb g n nd:Nat} {L:List EQ} (h:OnC w0 w C nb g n L nd) {q t:Nat} {cs:List Value} (hB:Blk w q t cs):q≠nb:=fun e=>by
 obtain ⟨es,clock,hb⟩:=h.any
 subst e
 unfold Blk at hB
 rw [hB] at hb
 cases hb
theorem OnC.norow {w0 w:World} {C nb g n nd:Nat} {L:List EQ} (h:OnC w0 w C nb g n L nd) {B e s k:Nat} {v:Value} {xs:List Value} (ho:w.ownsRow B e s v k xs):v.ownBlock≠some nb:=fun e9=>by
 obtain ⟨es,clock,hb⟩:=h.any
 rcases ho.2 with ⟨rfl,_⟩ | ⟨g9,cap,cur,rfl,_,hgg,_⟩
 ·cases e9
 cases e9
 rw [hgg] at hb
 cases hb
theorem OnC.ne {w0 w:World} {C nb g n nd:Nat} {L:List EQ} (h:OnC w0 w C nb g n L nd):C≠nb:=h.noblk h.box
theorem OnC.below {w0 w w':World} {C nb g n nd:Nat} {L:List EQ} (h:OnC w0 w C nb g n L nd) (hb:Below w.heap.size w w'):OnC w0 w' C nb g n L nd:=by
 obtain ⟨D,hm,hG⟩:=h.map
 exact ⟨Zb h.base hb,h.box.below hb,⟨D,hm.kept (row:=none) ⟨hb.os,hb.tape,hb.output,hb.size,fun k hk _=>hb.block k hk⟩ (by simp),hG⟩,fun x hx=>⟨(h.ents x hx).1.below hb,(h.ents x hx).2⟩,h.hC,h.hn⟩
theorem OnC.grow {w0 w w':World} {C nb g n nd:Nat} {L:List EQ} (h:OnC w0 w C nb g n L nd) {r:Option Nat} (hg:w.grownBy w' r) (hC:r≠some C) (hn:r≠some nb) (h0:∀ j,r=some j→w0.heap.size≤j) (hE:∀ x ∈ L,∀ j,EnB x.2 j→r≠some j):OnC w0 w' C nb g n L nd:=by
 obtain ⟨D,hm,hG⟩:=h.map
 exact ⟨h.base.grown hg h.base.size h0,h.box.kept hg hC,⟨D,hm.kept hg (fun e=>hn e.symm),hG⟩,fun x hx=>⟨(h.ents x hx).1.same11 hg.size (fun j hj=>hg.block j ((h.ents x hx).1.blk11 hj).1 (fun e=>hE x hx j hj e.symm)),(h.ents x hx).2⟩,h.hC,h.hn⟩
theorem OnC.node {w0 w:World} {C nb g n nd:Nat} {L:List EQ} (h:OnC w0 w C nb g n L nd) (nd':Nat):OnC w0 (w.setCell ⟨C,2,none⟩ (.int .i64 (nd':Int))) C nb g n L nd':=by
 obtain ⟨D,hm,hG⟩:=h.map
 have hg:=Xi w C 2 (.int .i64 (nd':Int))
 refine ⟨h.base.grown hg h.base.size (fun j e=>by cases e;exact h.hC),?_,⟨D,hm.kept hg (fun e=>h.ne (by cases e;rfl)),hG⟩,fun x hx=>⟨(h.ents x hx).1.same11 hg.size (fun j hj=>hg.block j ((h.ents x hx).1.blk11 hj).1 (fun e=>(h.ents x hx).2.2 j hj (by cases e;rfl))),(h.ents x hx).2⟩,h.hC,h.hn⟩
 have:=h.box.set 2 (.int .i64 (nd':Int))
 simpa using this
theorem L0 (w:World) (C nb:Nat) (v:Value):XZ w (w.setCell ⟨C,2,none⟩ v) C nb:=(XZ.refl w C nb).gr (Xi w C 2 v) (fun j e=>by cases e;exact .inl rfl)
theorem OnC.nbkeep {w0 w w':World} {C nb g n nd:Nat} {L:List EQ} (h:OnC w0 w C nb g n L nd) (hg:w.grownBy w' (some nb)) {s:Sl2} {e:E3} (hE:YI w s e):YI w' s e:=
 hE.same11 hg.size (fun j hj=>by
  obtain ⟨h1,h2⟩:=hE.blk11 hj
  obtain ⟨es,clock,hb⟩:=h.any
  exact hg.block j h1 (fun e9=>h2 es clock (by cases e9;exact hb)))
theorem OnC.put {w0 w w':World} {C nb g n nd:Nat} {L:List EQ} (h:OnC w0 w C nb g n L nd) {e:E3} {s:Sl2} (hE:YI w s e) (hO:MQ C s) {D:DataW Value} (hP:Gv w' nb (n+1) D (VE L e s)) (hg:w.grownBy w' (some nb)):OnC w0 w' C nb g (n+1) (VE L e s) nd:=by
 obtain ⟨D',hm,hG⟩:=hP
 refine ⟨h.base.grown hg h.base.size (fun j e9=>by cases e9;exact h.hn),h.box.kept hg (fun e9=>h.ne (by cases e9;rfl)),⟨D',hm,hG⟩,fun x hx=>?_,h.hC,h.hn⟩
 rcases RE hx with h9 | h9
 ·exact ⟨h.nbkeep hg (h.ents x h9).1,(h.ents x h9).2⟩
 rw [h9]
 exact ⟨h.nbkeep hg hE,hO⟩
def NY (x:Ending) (w0 w w':World) (C nb g n:Nat) (L:List EQ) (nd:Nat) (R:E3 × ZE):Prop:=
 ∃ (s:Sl2) (L':List EQ) (n':Nat),x=.returned (ZM R.1.1 s)∧YI w' s R.1∧MQ C s∧(∀ j,EnB s j→w.heap.size≤j∨∃ x ∈ L,EnB x.2 j)∧OnC w0 w' C nb g n' L' R.2.2∧L'.map (·.1)=R.2.1∧n'+nd≤n+R.2.2∧(∀ x ∈ L',x ∈ L∨∀ j,EnB x.2 j→w.heap.size≤j)∧XZ w w' C nb

open Go.RowKit Go.Maps Go.Sort Go.Shelf

def QC:Go.Shelf.Ren:=⟨fun | 7=>130 | 10=>187 | n=>n,fun | 23=>130 | 26=>9 | 3=>45 | 28=>194 | 0=>0 | 27=>193 | 33=>251 | 4=>4 | n=>n,fun | n=>n⟩
theorem Gb:Go.Proofs.SlLaysZ.n7 Tryz.prog QC:={
 mixed:=by kernel_rfl
 f7:=⟨Tryz.f130.name,by decide,Tryz.func130.trans (congrArg some (by kernel_rfl))⟩
 f10:=⟨Tryz.f187.name,by decide,Tryz.func187.trans (congrArg some (by kernel_rfl))⟩
 t0:=Tryz.underlying0
 a0:=Tryz.isAgg0
 z0:=Tryz.sizeOf0
 v0:=Tryz.zeroValue0
 t4:=Tryz.underlying4
 a4:=Tryz.isAgg4
 z4:=Tryz.sizeOf4
 v4:=Tryz.zeroValue4
 t23:=Tryz.underlying130
 a23:=Tryz.isAgg130
 z23:=Tryz.sizeOf130
 v23:=Tryz.zeroValue130
 t26:=Tryz.underlying9
 a26:=Tryz.isAgg9
 z26:=Tryz.sizeOf9
 v26:=Tryz.zeroValue9
 t27:=Tryz.underlying193
 a27:=Tryz.isAgg193
 z27:=Tryz.sizeOf193
 v27:=Tryz.zeroValue193
 t28:=Tryz.underlying194
 a28:=Tryz.isAgg194
 z28:=Tryz.sizeOf194
 v28:=Tryz.zeroValue194
 t33:=Tryz.underlying251
 a33:=Tryz.isAgg251
 z33:=Tryz.sizeOf251
 v33:=Tryz.zeroValue251 }
def Sx:Go.Shelf.Ren:=⟨fun | 6=>129 | 8=>185 | 9=>186 | 11=>217 | 13=>216 | 12=>218 | 23=>234 | 24=>235 | 14=>236 | 15=>237 | 16=>238 | 17=>239 | 18=>240 | 19=>241 | 20=>242 | 21=>243 | 22=>244 | 25=>259 | 26=>255 | 27=>256 | 28=>260 | 29=>261 | 30=>262 | 31=>267 | n=>n,fun | 26=>9 | 28=>194 | 24=>49 | 0=>0 | 3=>3 | 37=>252 | 48=>300 | 50=>302 | 4=>4 | 40=>294 | 39=>293 | 45=>138 | 5=>5 | 9=>9 | 51=>314 | 55=>318 | 57=>324 | 58=>167 | 33=>251 | n=>n,fun | n=>n⟩
theorem HU:Go.Proofs.SlLaysZ.n6 Tryz.prog Sx:={
 mixed:=by kernel_rfl
 f6:=⟨Tryz.f129.name,by decide,Tryz.func129.trans (congrArg some (by kernel_rfl))⟩
 f8:=⟨Tryz.f185.name,by decide,Tryz.func185.trans (congrArg some (by kernel_rfl))⟩
 f11:=⟨Tryz.f217.name,by decide,Tryz.func217.trans (congrArg some (by kernel_rfl))⟩
 t0:=Tryz.underlying0
 a0:=Tryz.isAgg0
 z0:=Tryz.sizeOf0
 v0:=Tryz.zeroValue0
 t24:=Tryz.underlying49
 a24:=Tryz.isAgg49
 z24:=Tryz.sizeOf49
 v24:=Tryz.zeroValue49
 t26:=Tryz.underlying9
 a26:=Tryz.isAgg9
 z26:=Tryz.sizeOf9
 v26:=Tryz.zeroValue9
 t28:=Tryz.underlying194
 a28:=Tryz.isAgg194
 z28:=Tryz.sizeOf194
 v28:=Tryz.zeroValue194
 i26:=by kernel_rfl }
def KD:Go.Shelf.Ren:=⟨fun | 6=>186 | 8=>216 | 9=>218 | 19=>234 | 20=>235 | 21=>236 | 22=>237 | 23=>238 | 24=>239 | 25=>240 | 26=>241 | 27=>242 | 28=>243 | 29=>244 | 36=>259 | 31=>255 | 32=>256 | 37=>260 | 38=>261 | 39=>262 | 41=>267 | n=>n,fun | 27=>49 | 29=>9 | 3=>3 | 32=>252 | 26=>49 | 0=>0 | 44=>300 | 46=>302 | 4=>4 | 36=>294 | 35=>293 | 41=>138 | 5=>5 | 9=>9 | 53=>314 | 57=>318 | 63=>324 | 64=>167 | n=>n,fun | n=>n⟩
theorem Gk:Go.Proofs.SlLaysM.n6 Tryz.prog KD:={
 mixed:=by kernel_rfl
 f6:=⟨Tryz.f186.name,by decide,Tryz.func186.trans (congrArg some (by kernel_rfl))⟩
 f8:=Tryz.func216.trans (congrArg some (by kernel_rfl))
 f9:=⟨Tryz.f218.name,by decide,Tryz.func218.trans (congrArg some (by kernel_rfl))⟩
 f19:=Tryz.func234.trans (congrArg some (by kernel_rfl))
 f20:=Tryz.func235.trans (congrArg some (by kernel_rfl))
 f21:=⟨Tryz.f236.name,by decide,Tryz.func236.trans (congrArg some (by kernel_rfl))⟩
 f22:=⟨Tryz.f237.name,by decide,Tryz.func237.trans (congrArg some (by kernel_rfl))⟩
 f23:=⟨Tryz.f238.name,by decide,Tryz.func238.trans (congrArg some (by kernel_rfl))⟩
 f24:=⟨Tryz.f239.name,by decide,Tryz.func239.trans (congrArg some (by kernel_rfl))⟩
 f25:=⟨Tryz.f240.name,by decide,Tryz.func240.trans (congrArg some (by kernel_rfl))⟩
 f26:=⟨Tryz.f241.name,by decide,Tryz.func241.trans (congrArg some (by kernel_rfl))⟩
 f27:=⟨Tryz.f242.name,by decide,Tryz.func242.trans (congrArg some (by kernel_rfl))⟩
 f28:=⟨Tryz.f243.name,by decide,Tryz.func243.trans (congrArg some (by kernel_rfl))⟩
 f29:=⟨Tryz.f244.name,by decide,Tryz.func244.trans (congrArg some (by kernel_rfl))⟩
 f31:=Tryz.func255.trans (congrArg some (by kernel_rfl))
 f32:=Tryz.func256.trans (congrArg some (by kernel_rfl))
 f36:=⟨Tryz.f259.name,by decide,Tryz.func259.trans (congrArg some (by kernel_rfl))⟩
 f37:=⟨Tryz.f260.name,by decide,Tryz.func260.trans (congrArg some (by kernel_rfl))⟩
 f38:=⟨Tryz.f261.name,by decide,Tryz.func261.trans (congrArg some (by kernel_rfl))⟩
 f39:=⟨Tryz.f262.name,by decide,Tryz.func262.trans (congrArg some (by kernel_rfl))⟩
 f41:=⟨Tryz.f267.name,by decide,Tryz.func267.trans (congrArg some (by kernel_rfl))⟩
 t0:=Tryz.underlying0
 a0:=Tryz.isAgg0
 z0:=Tryz.sizeOf0
 v0:=Tryz.zeroValue0
 t3:=Tryz.underlying3
 a3:=Tryz.isAgg3
 z3:=Tryz.sizeOf3
 v3:=Tryz.zeroValue3
 t4:=Tryz.underlying4
 a4:=Tryz.isAgg4
 z4:=Tryz.sizeOf4
 v4:=Tryz.zeroValue4
 t5:=Tryz.underlying5
 a5:=Tryz.isAgg5
 z5:=Tryz.sizeOf5
 v5:=Tryz.zeroValue5
 t9:=Tryz.underlying9
 a9:=Tryz.isAgg9
 z9:=Tryz.sizeOf9
 v9:=Tryz.zeroValue9
 t26:=Tryz.underlying49
 a26:=Tryz.isAgg49
 z26:=Tryz.sizeOf49
 v26:=Tryz.zeroValue49
 t27:=Tryz.underlying49
 a27:=Tryz.isAgg49
 z27:=Tryz.sizeOf49
 v27:=Tryz.zeroValue49
 t29:=Tryz.underlying9
 a29:=Tryz.isAgg9
 z29:=Tryz.sizeOf9
 v29:=Tryz.zeroValue9
 t32:=Tryz.underlying252
 a32:=Tryz.isAgg252
 z32:=Tryz.sizeOf252
 v32:=Tryz.zeroValue252
 t35:=Tryz.underlying293
 a35:=Tryz.isAgg293
 z35:=Tryz.sizeOf293
 v35:=Tryz.zeroValue293
 t36:=Tryz.underlying294
 a36:=Tryz.isAgg294
 z36:=Tryz.sizeOf294
 v36:=Tryz.zeroValue294
 t41:=Tryz.underlying138
 a41:=Tryz.isAgg138
 z41:=Tryz.sizeOf138
 v41:=Tryz.zeroValue138
 t44:=Tryz.underlying300
 a44:=Tryz.isAgg300
 z44:=Tryz.sizeOf300
 v44:=Tryz.zeroValue300
 t46:=Tryz.underlying302
 a46:=Tryz.isAgg302
 z46:=Tryz.sizeOf302
 v46:=Tryz.zeroValue302
 t53:=Tryz.underlying314
 a53:=Tryz.isAgg314
 z53:=Tryz.sizeOf314
 v53:=Tryz.zeroValue314
 t57:=Tryz.underlying318
 a57:=Tryz.isAgg318
 z57:=Tryz.sizeOf318
 v57:=Tryz.zeroValue318
 t63:=Tryz.underlying324
 a63:=Tryz.isAgg324
 z63:=Tryz.sizeOf324
 v63:=Tryz.zeroValue324
 t64:=Tryz.underlying167
 a64:=Tryz.isAgg167
 z64:=Tryz.sizeOf167
 v64:=Tryz.zeroValue167 }

theorem GH (m:Nat):AnyZ.SortsIn Tryz.prog Sx Fence.wide m:=
 ⟨fun blk off cap ss W hH hblk hsz=>callsIn_wide.2 (AnyM.slices_Sort_string Gk blk off cap ss W hH hblk hsz),
  fun p cap W=>callsIn_wide.2 (AnyM.slices_Sort_string_none Gk p cap W)⟩
theorem GC (mb:Option Nat) (W:World):Calls Tryz.prog 130 #[.map mb] W fun e w'=>e=.returned (.func (.func 187) #[] #[.pointer (some ⟨W.heap.size,0,none⟩)])∧w'=W.alloc (.cells #[.map mb] 130):=
 callsIn_wide.1 (AnyZ.keys_in Gb Fence.wide 5 trivial rfl mb W)
theorem JF (b nn:Nat) (D0:DataW Value) (w:World) (hown:w.ownsMap Tryz.prog 9 Vi b nn D0) (hmax:nn≤1000000000) :
  Calls Tryz.prog 129 #[.func (.func 187) #[] #[.pointer (some ⟨w.heap.size,0,none⟩)]] (w.alloc (.cells #[.map (some b)] 130)) fun e w'=>∃ (v:Value) (ss:List (List UInt8)),e=.returned v∧ss.Perm (strKeys D0) ∧
   w'.ownsRow (w.alloc (.cells #[.map (some b)] 130)).heap.size 9 1 v ss.length ((ss.mergeSort (fun x y=>decide (x≤y))).map encStr)∧(v=.slice none 0 0↔ss=[])∧Below (w.alloc (.cells #[.map (some b)] 130)).heap.size (w.alloc (.cells #[.map (some b)] 130)) w':=by
 have hbl:=hown.lt
 have hsz:=hown.size_le
 have hseq:SeqGives Fence.wide 2 Tryz.prog 187 #[.pointer (some ⟨w.heap.size,0,none⟩)] encStr (fun ss=>ss.Perm (strKeys D0)) (Maps.size D0) (w.alloc (.cells #[.map (some b)] 130)):=
  AnyZ.keys_gives (ρ:=QC) { Gb with } Fence.wide _ trivial rfl (by omega) w.heap.size b nn D0 _ (by simp) (by simp) (by
   obtain ⟨es,clock,hb,Ft,hs,hD⟩:=hown
   exact ⟨es,clock,(Below.heap_alloc _ _ b hbl).trans hb,Ft,hs,hD⟩)
 have cS:=AnyZ.sorted_in HU Fence.wide 5 trivial trivial trivial trivial rfl (by omega) (GH _) (enters_of Tryz.func186 (by kernel_rfl) rfl) 187 #[.pointer (some ⟨w.heap.size,0,none⟩)] trivial (enters_of Tryz.func187 (by kernel_rfl) rfl) _ _ (by unfold maxLen;omega) (by omega) _ hseq
 exact callsIn_wide.1 cS
theorem MT:∀ {a b:List UInt8},Go.Op.bytesLess a b=true↔a<b
 | [],[]=>by simp [Go.Op.bytesLess]
 | [],y::b=>by simp [Go.Op.bytesLess]
 | x::a,[]=>by simp [Go.Op.bytesLess]
 | x::a,y::b=>by rw [UG,List.cons_lt_cons_iff,MT]
def UU (L:List EQ):List (List UInt8):=L.map fun x=>x.1.1.data.toList
theorem Jp {a b:ByteArray} (h:ltS a b=true):a.data.toList<b.data.toList:=by
 unfold ltS at h
 rw [Go.ByteArray.toList_eq,Go.ByteArray.toList_eq] at h
 exact MT.1 h
theorem Jj {L:List EQ} (hU:UpE (L.map (·.1))):(UU L).Pairwise (· < ·):=by
 unfold UpE at hU
 unfold UU
 rw [List.pairwise_map] at hU ⊢
 exact hU.imp (fun h=>Jp h)
theorem Mh {w:World} {b nn:Nat} {D:DataW Value} {L:List EQ} {ss:List (List UInt8)} (hown:w.ownsMap Tryz.prog 9 Vi b nn D) (hG:Uk D L) (hp:ss.Perm (strKeys D)):ss.mergeSort (fun x y=>decide (x≤y))=UU L:=by
 obtain ⟨es,hD,hpw,_⟩:=hown.entries Ww
 obtain ⟨es',hD',hko⟩:=hown.keysOf
 obtain rfl:es=es':=by rw [hD] at hD';simpa using hD'
 subst hD
 have hup:=Jj hG.up
 have hnd:(UU L).Nodup:=hup.imp (fun h e=>by subst e;exact absurd h (List.lt_irrefl _))
 have hp2:(UU L).Perm (strKeys (.map es)):=perm_strKeys hpw (fun p hp=>by obtain ⟨v,hv⟩:=hko p hp;obtain ⟨x,_,hx,_⟩:=Maps.keyOf_str Tryz.underlying9 hv;exact ⟨x,hx⟩) hnd (fun x=>by
  have h9:=hG.has ⟨x.toArray⟩
  have e9:WX ⟨x.toArray⟩=.string x:=by unfold WX;simp
  rw [e9] at h9
  rw [h9,WG hG.up]
  unfold UU
  rw [List.mem_map]
  constructor
  ·rintro ⟨y,hy,rfl⟩
   exact ⟨y.1,List.mem_map.2 ⟨y,hy,rfl⟩,by simp⟩
  rintro ⟨e,he,hek⟩
  obtain ⟨y,hy,rfl⟩:=List.mem_map.1 he
  exact ⟨y,hy,by rw [hek]⟩)
 have h1:=mergeSort_of_perm (hp.trans hp2.symm)
 show ss.mergeSort leB=_
 rw [h1]
 exact List.mergeSort_of_pairwise (hup.imp (fun h=>by simp only [leB,decide_eq_true_eq];exact List.le_of_lt h))
theorem LZ (L:List EQ):(UU L).map encStr=L.map fun x=>Value.string x.1.1:=by
 unfold UU
 rw [List.map_map]
 refine List.map_congr_left (fun x _=>?_)
 simp [encStr]

open Go.RowKit Go.Shelf

theorem N8 (g:Nat) (a0:Option Addr) (n0 c0:Nat) (xs:List I3) (a1:Option Addr) (n1 c1:Nat) (ys:List I3) (a2:Option Addr) (n2 c2:Nat) (zs:List I3) (w:World) (h0:Zm w a0 n0 c0 xs) (h1:Zm w a1 n1 c1 ys) (h2:Zm w a2 n2 c2 zs) (m0:n0≤300000) (m1:n1≤300000) (m2:n2≤300000)
  (g0:VH a0 c0) (g1:VH a1 c1) (g2:VH a2 c2) (d0:w.cell? ⟨g,0,none⟩=some (.slice a0 n0 c0)) (d1:w.cell? ⟨g,1,none⟩=some (.slice a1 n1 c1)) (d2:w.cell? ⟨g,2,none⟩=some (.slice a2 n2 c2)) :
  Calls Tryz.prog 178 #[.slice (some ⟨g,0,none⟩) 3 3] w fun e w'=>(∃ v,e=.returned v∧(∃ a n c,v=.slice a n c)∧w'.ownsRow w.heap.size 127 3 v (n0+n1+n2) (Zl (xs++ys++zs)))∧Below w.heap.size w w':=by
 obtain ⟨i0,hi,hz0,hz1,hz2⟩:=info_parts Xr
 have l0:=h0.1
 have l1:=h1.1
 have l2:=h2.1
 have n0o:a0=none→n0=0∧c0=0:=fun e=>⟨by have:=h0.2.1;have:=g0.1 e;omega,g0.1 e⟩
 have n1o:a1=none→n1=0∧c1=0:=fun e=>⟨by have:=h1.2.1;have:=g1.1 e;omega,g1.1 e⟩
 have n2o:a2=none→n2=0∧c2=0:=fun e=>⟨by have:=h2.2.1;have:=g2.1 e;omega,g2.1 e⟩
 have H1:Hid (∀ W,Below w.heap.size w W→Zm W a1 n1 c1 ys):=fun W hb=>h1.below hb
 have H2:Hid (∀ W,Below w.heap.size w W→Zm W a2 n2 c2 zs):=fun W hb=>h2.below hb
 have hgw:g<w.heap.size:=World.block_lt_of_cell? _ _ d0
 have kG:Hid (∀ (z:Int) (W:World),z=(n0:Int)+(n1:Int)+(n2:Int)→Calls Tryz.prog 214 #[.slice none 0 0,.int .i64 z] W fun e w'=>(∃ v,e=.returned v∧(∃ a c,v=.slice a 0 c)∧w'.ownsRow W.heap.size 127 3 v 0 [])∧Below W.heap.size W w'):=by
  intro z W hz
  obtain rfl:z=((n0+n1+n2:Nat):Int):=by omega
  exact PZ (n0+n1+n2) W (by omega)
 clear g0 g1 g2
 have HF:Hid (∀ (v:Value) (W:World),W.ownsRow w.heap.size 127 3 v (n0+n1+n2) (Zl xs++(Zl ys++Zl zs))→W.ownsRow w.heap.size 127 3 v (n0+n1+n2) (Zl (xs++ys++zs))):=by
  intro v W q
  rw [Yb,Yb,List.append_assoc]
  exact q
 go_enter Tryz.func178,Tryz.ntmps178
 go_wp2_with fail
 refine wp_loop_rounds 4 ?_
 rw [rounds_succ]
 go_wp2
 rw [rounds_succ]
 go_wp2
 rw [rounds_succ]
 go_wp2
 rw [rounds_succ]
 go_wp2_with fail
 refine (kG.out _ _ (by first | rfl | omega)).mono ?_
 rintro e w1 ⟨⟨v,rfl,⟨aG,cG,rfl⟩,q1⟩,bw⟩
 clear kG
 replace h0:=h0.below bw
 replace h1:=h1.below bw
 replace h2:=h2.below bw
 replace d0:=Za bw _ _ d0
 replace d1:=Za bw _ _ d1
 replace d2:=Za bw _ _ d2
 have hsz:=bw.size
 go_wp2_with fail
 refine wp_loop_rounds 4 ?_
 rw [rounds_succ]
 go_wp2_with (at_builtin;refine Xg rfl _ _ 28 rfl w.heap.size 127 i0 (.agg #[.int .i64 0,.int .i64 0,.int .i64 0]) 3 24 Tryz.underlying28 hi hz0 hz1 hz2 rfl (by decide) (.slice aG 0 cG) _ _ rfl q1 a0 n0 c0 rfl n0o (Zl xs) (by rw [Zo];omega) (fun ad e=>by subst e;exact TU h0) (ZV _) (by unfold maxLen;omega) (by omega) hsz ?_)
 intro v2 U2 q2 gr _
 replace d1:=Ze gr d1 (fun e=>by have h9:=(q1.lt _ e.symm).1;have h8:=hgw;simp at h9;omega)
 replace d2:=Ze gr d2 (fun e=>by have h9:=(q1.lt _ e.symm).1;have h8:=hgw;simp at h9;omega)
 replace bw:=bw.grown gr hsz (fun j hj=>(q1.lt j hj).1)
 replace h1:=H1.out _ bw
 replace h2:=H2.out _ bw
 replace hsz:=Nat.le_trans hsz gr.size
 clear gr
 go_wp2_with fail
 rw [rounds_succ]
 go_wp2_with (at_builtin;refine Xg rfl _ _ 28 rfl w.heap.size 127 i0 (.agg #[.int .i64 0,.int .i64 0,.int .i64 0]) 3 24 Tryz.underlying28 hi hz0 hz1 hz2 rfl (by decide) v2 _ _ rfl q2 a1 n1 c1 rfl n1o (Zl ys) (by rw [Zo];omega) (fun ad e=>by subst e;exact TU h1) (ZV _) (by unfold maxLen;omega) (by omega) hsz ?_)
 intro v3 U3 q3 gr _
 replace d2:=Ze gr d2 (fun e=>by have h9:=(q2.lt _ e.symm).1;have h8:=hgw;simp at h9;omega)
 replace bw:=bw.grown gr hsz (fun j hj=>(q2.lt j hj).1)
 replace h2:=H2.out _ bw
 replace hsz:=Nat.le_trans hsz gr.size
 clear gr
 go_wp2_with fail
 rw [rounds_succ]
 go_wp2_with (at_builtin;refine Xg rfl _ _ 28 rfl w.heap.size 127 i0 (.agg #[.int .i64 0,.int .i64 0,.int .i64 0]) 3 24 Tryz.underlying28 hi hz0 hz1 hz2 rfl (by decide) v3 _ _ rfl q3 a2 n2 c2 rfl n2o (Zl zs) (by rw [Zo];omega) (fun ad e=>by subst e;exact TU h2) (ZV _) (by unfold maxLen;omega) (by omega) hsz ?_)
 intro v4 U4 q4 gr _
 replace bw:=bw.grown gr hsz (fun j hj=>(q3.lt j hj).1)
 replace hsz:=Nat.le_trans hsz gr.size
 clear gr
 go_wp2_with fail
 rw [rounds_succ]
 have HQ:Hid (∀ e:Ending,e=Ending.returned v4→∃ v,e=Ending.returned v∧(∃ a n c,v=Value.slice a n c)∧U4.ownsRow w.heap.size 127 3 v (n0+n1+n2) (Zl (xs++ys++zs))):=fun e he=>⟨_,he,RB q4,HF.out _ _ q4⟩
 clear q4 q3 q2 h0 h1 h2 d0 d1 d2
 go_wp2
 go_ret
 exact ⟨HQ.out _ rfl,bw⟩
end Go.Proofs.YtnffeclgboomoaaGreatDoor
