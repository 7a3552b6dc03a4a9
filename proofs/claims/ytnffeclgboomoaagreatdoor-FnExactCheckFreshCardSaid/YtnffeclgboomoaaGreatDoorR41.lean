/-
  Joined: FftP, FulC, ChkP, ChkQ, ChkS, ChkV, Vj0P, ChkT, DrwB, RbgI, LocS.
-/
import Derived.Deep.CutRange
import Derived.Test.YtnffeclgboomoaaGreatDoorR37
import Derived.Test.YtnffeclgboomoaaGreatDoorR38
import Derived.Test.YtnffeclgboomoaaGreatDoorR39
import Derived.Test.YtnffeclgboomoaaGreatDoorR40

namespace Go.Proofs.YtnffeclgboomoaaGreatDoor
set_option maxRecDepth 100000
set_option maxHeartbeats 16000000
open Go.RowKit
set_option linter.unusedVariables false

theorem RH:∀ (xs:List Int) (a b:Int),xs.Pairwise (· < ·)→(∀ x ∈ xs,a≤x∧x≤b)→(xs.length:Int)≤max (b - a+1) 0
 | [],a,b,_,_=>by simp;omega
 | x::xs,a,b,h,hb=>by
  obtain ⟨h1,h2⟩:=List.pairwise_cons.1 h
  have hx:=hb x (by simp)
  have ih:=RH xs (x+1) b h2 (fun y hy=>⟨by have:=h1 y hy;omega,(hb y (by simp [hy])).2⟩)
  simp only [List.length_cons,Int.natCast_add,Int.natCast_one]
  omega


def ZK (rows:List (List I3)) (m:V4):List I3:=(Zv rows m 3).foldl (fun out k=>ZL out (Y3 rows m k)) (ZD rows m)
theorem Nn {f:Int→List I3} {x:I3}:∀ (ks:List Int) (out:List I3),x ∈ ks.foldl (fun out k=>ZL out (f k)) out↔x ∈ out∨∃ k ∈ ks,x ∈ f k
 | [],out=>by simp
 | k::ks,out=>by
  rw [List.foldl_cons,Nn ks,Xd]
  simp only [List.mem_cons,exists_eq_or_imp,or_assoc]
theorem Mt {rows:List (List I3)} {m:V4} {x:I3}:x ∈ ZK rows m↔x ∈ ZD rows m∨∃ k ∈ Zv rows m 3,x ∈ Y3 rows m k:=Nn _ _
theorem Ru {rows:List (List I3)} {m:V4} {k:Int} {x:I3}:x ∈ Y3 rows m k↔x ∈ XQ rows m k∨x ∈ ZD rows (goM rows m k).1:=by
 unfold Y3 ZD
 split
 ·rw [Wf]
  simp
 simp

set_option linter.unusedSimpArgs false

theorem Su {σ:Type} {f:σ→List I3}:∀ (ks:List σ) (out:List I3),YL out→YL (ks.foldl (fun out k=>ZL out (f k)) out)
 | [],out,h=>h
 | k::ks,out,h=>Su ks _ (Xl _ _)
theorem PO (rows:List (List I3)) (m:V4):YL (ZD rows m):=by
 unfold ZD
 split
 ·exact List.pairwise_singleton _ _
 exact List.Pairwise.nil
theorem UY (rows:List (List I3)) (m:V4):YL (ZK rows m):=Su _ _ (PO rows m)
theorem VU {m:V4} (h:Zh m=true):(ZA m).Pairwise (· < ·):=by
 have hp:∀ i,i<3→0≤m.1.getD i 0∧m.1.getD i 0≤6:=by
  intro i hi
  unfold Zh Xa at h
  simp only [Bool.and_eq_true,List.all_eq_true,decide_eq_true_eq] at h
  have hl:m.1.length=3:=by omega
  have:=h.1.1 (m.1.getD i 0) (by rw [List.getD,List.getElem?_eq_getElem (by omega)];exact List.getElem_mem _)
  exact this
 have h0:=hp 0 (by omega)
 have h1:=hp 1 (by omega)
 have h2:=hp 2 (by omega)
 unfold ZA
 simp only [List.pairwise_cons,List.mem_cons,List.not_mem_nil,or_false,List.Pairwise.nil,and_true]
 refine ⟨?_,?_,?_⟩
 ·rintro a (rfl | rfl)<;>omega
 ·rintro a rfl;omega
 simp


abbrev ZE:=List E3 × Nat
def YJ (rec:V4→ZE→E3 × ZE × Bool):List (Int × V4)→E3→ZE→E3 × ZE × Bool
 | [],e,st=>(e,st,true)
 | t::ts,e,st=>if (rec t.2 st).2.2=true then YJ rec ts (e.1,ZL e.2.1 (rec t.2 st).1.2.1,YA (e.2.2++(rec t.2 st).1.2.2)) (rec t.2 st).2.1 else (e3d,(rec t.2 st).2.1,false)
def Z7 (rows:List (List I3)):Nat→V4→ZE→E3 × ZE × Bool
 | 0,_,st=>(e3d,st,false)
 | f+1,m,st =>
  if isE st.1 (ZG m)=true then (WU st.1 (ZG m),st,true)
  else if st.1.length=2000 then (e3d,st,false)
  else if (YJ (Z7 rows f) (nxM rows m) (ZG m,ZK rows m,ZA m) (st.1,st.2+1)).2.2=true then
   (if (YJ (Z7 rows f) (nxM rows m) (ZG m,ZK rows m,ZA m) (st.1,st.2+1)).2.1.1.length=2000 then (e3d,(YJ (Z7 rows f) (nxM rows m) (ZG m,ZK rows m,ZA m) (st.1,st.2+1)).2.1,false)
    else ((YJ (Z7 rows f) (nxM rows m) (ZG m,ZK rows m,ZA m) (st.1,st.2+1)).1,(Ws (YJ (Z7 rows f) (nxM rows m) (ZG m,ZK rows m,ZA m) (st.1,st.2+1)).2.1.1 (YJ (Z7 rows f) (nxM rows m) (ZG m,ZK rows m,ZA m) (st.1,st.2+1)).1,(YJ (Z7 rows f) (nxM rows m) (ZG m,ZK rows m,ZA m) (st.1,st.2+1)).2.1.2),true))
  else (e3d,(YJ (Z7 rows f) (nxM rows m) (ZG m,ZK rows m,ZA m) (st.1,st.2+1)).2.1,false)


theorem Mn {rows:List (List I3)} (hp:Zq rows=true) (m:V4):Xc rows m≤18:=by
 obtain ⟨h3,hr⟩:=Wr hp
 have hc:∀ k,k<3→(Xq rows k).length≤6:=fun k hk=>by
  unfold Xq
  rw [List.getD,List.getElem?_eq_getElem (by omega)]
  exact (hr _ (List.getElem_mem _)).1
 have h0:=hc 0 (by omega)
 have h1:=hc 1 (by omega)
 have h2:=hc 2 (by omega)
 unfold Xc Qe
 omega
theorem Tb {rows:List (List I3)} (hp:Zq rows=true) {m:V4} (hs:Zh m=true):∀ t ∈ nxM rows m,Zh t.2=true∧Xc rows t.2<Xc rows m:=by
 intro t ht
 unfold nxM at ht
 obtain ⟨k,hk,rfl⟩:=List.mem_map.1 ht
 have hh:=XM hk
 have:=QH hp hs hh
 exact ⟨Qx hp hs hh,by show Xc rows (goM rows m k).1<Xc rows m;omega⟩


def XJ (rows:List (List I3)) (L:Nat) (st st':ZE):Prop:=UpR st'.1∧(∀ e ∈ st.1,e ∈ st'.1)∧(∀ e ∈ st'.1,e ∈ st.1∨∃ s,Zh s=true∧Xc rows s<L∧e.1=ZG s)∧st.2≤st'.2∧st'.1.length+st.2=st.1.length+st'.2
theorem XJ.refl {rows:List (List I3)} {L:Nat} {st:ZE} (h:UpR st.1):XJ rows L st st:=⟨h,fun e he=>he,fun e he=>.inl he,Nat.le_refl _,rfl⟩
theorem XJ.trans {rows:List (List I3)} {L:Nat} {a b c:ZE} (h:XJ rows L a b) (k:XJ rows L b c):XJ rows L a c:=
 ⟨k.1,fun e he=>k.2.1 e (h.2.1 e he),fun e he=>by
  rcases k.2.2.1 e he with h9 | h9
  ·exact h.2.2.1 e h9
  exact .inr h9,Nat.le_trans h.2.2.2.1 k.2.2.2.1,by have:=h.2.2.2.2;have:=k.2.2.2.2;omega⟩
theorem XJ.mono {rows:List (List I3)} {L L':Nat} {a b:ZE} (h:XJ rows L a b) (hL:L≤L'):XJ rows L' a b:=
 ⟨h.1,h.2.1,fun e he=>by
  rcases h.2.2.1 e he with h9 | ⟨s,h1,h2,h3⟩
  ·exact .inl h9
  exact .inr ⟨s,h1,by omega,h3⟩,h.2.2.2⟩
theorem Ty {rows:List (List I3)} {L:Nat} {rec:V4→ZE→E3 × ZE × Bool}:∀ (ts:List (Int × V4)) (e:E3) (st:ZE),(∀ t ∈ ts,∀ st:ZE,UpR st.1→(rec t.2 st).2.2=true→XJ rows L st (rec t.2 st).2.1)→UpR st.1→(YJ rec ts e st).2.2=true→XJ rows L st (YJ rec ts e st).2.1
 | [],e,st,hr,ht,hk=>XJ.refl ht
 | t::ts,e,st,hr,ht,hk=>by
  unfold YJ at hk ⊢
  by_cases h:(rec t.2 st).2.2=true
  ·rw [if_pos h] at hk ⊢
   have h2:=hr t (List.mem_cons_self ..) st ht h
   exact h2.trans (Ty ts _ _ (fun t' ht'=>hr t' (List.mem_cons_of_mem _ ht')) h2.1 hk)
  rw [if_neg h] at hk
  cases hk
theorem NU (rec:V4→ZE→E3 × ZE × Bool):∀ (ts:List (Int × V4)) (e:E3) (st:ZE),(YJ rec ts e st).2.2=true→(YJ rec ts e st).1.1=e.1
 | [],e,st,hk=>rfl
 | t::ts,e,st,hk=>by
  unfold YJ at hk ⊢
  by_cases h:(rec t.2 st).2.2=true
  ·rw [if_pos h] at hk ⊢
   exact NU rec ts _ _ hk
  rw [if_neg h] at hk
  cases hk
theorem Wt {rows:List (List I3)} (hp:Zq rows=true):∀ (f:Nat) (m:V4) (st:ZE),Zh m=true→UpR st.1→(Z7 rows f m st).2.2=true→XJ rows (Xc rows m+1) st (Z7 rows f m st).2.1
 | 0,m,st,hs,ht,hk=>by unfold Z7 at hk;cases hk
 | f+1,m,st,hs,ht,hk=>by
  unfold Z7 at hk ⊢
  by_cases h1:isE st.1 (ZG m)=true
  ·rw [if_pos h1]
   exact XJ.refl ht
  rw [if_neg h1] at hk ⊢
  by_cases h2:st.1.length=2000
  ·rw [if_pos h2] at hk
   cases hk
  rw [if_neg h2] at hk ⊢
  have key:=Ty (rows:=rows) (L:=Xc rows m) (rec:=Z7 rows f) (nxM rows m) (ZG m,ZK rows m,ZA m) (st.1,st.2+1) (fun t htm st' ht' hk'=>by
   obtain ⟨q1,q2⟩:=Tb hp hs t htm
   exact (Wt hp f t.2 st' q1 ht' hk').mono (by omega)) ht
  have hkey:=NU (Z7 rows f) (nxM rows m) (ZG m,ZK rows m,ZA m) (st.1,st.2+1)
  generalize YJ (Z7 rows f) (nxM rows m) (ZG m,ZK rows m,ZA m) (st.1,st.2+1)=R at *
  by_cases h3:R.2.2=true
  ·rw [if_pos h3] at hk ⊢
   have k2:=key h3
   have hk1:=hkey h3
   simp only at hk1
   by_cases h4:R.2.1.1.length=2000
   ·rw [if_pos h4] at hk
    cases hk
   rw [if_neg h4]
   have hni:isE R.2.1.1 (ZG m)=false:=by
    cases hi:isE R.2.1.1 (ZG m)
    ·rfl
    exfalso
    obtain ⟨e,he,hek⟩:=(WG k2.1.up (k:=ZG m)).1 hi
    rcases k2.2.2.1 e he with h9 | ⟨s,s1,s2,s3⟩
    ·exact h1 ((WG ht.up (k:=ZG m)).2 ⟨e,h9,hek⟩)
    have:s=m:=Jh s1 hs (s3.symm.trans hek)
    subst this
    omega
   have hni2:isE R.2.1.1 R.1.1=false:=by rw [hk1];exact hni
   have hlen:=k2.1.few
   have hl:=Nx (es:=R.2.1.1) (e:=R.1)
   rw [hni2] at hl
   simp only [Bool.false_eq_true,if_false] at hl
   have h5:=k2.2.2.2
   simp only at h5
   refine ⟨Hy k2.1 (.inr (by omega)),fun e he=>(Ny hni2).2 (.inr (k2.2.1 e he)),fun e he=>?_,by show st.2≤R.2.1.2;omega,?_⟩
   ·rcases (Ny hni2).1 he with h9 | h9
    ·exact .inr ⟨m,hs,by omega,by rw [h9,hk1]⟩
    rcases k2.2.2.1 e h9 with h8 | ⟨s,s1,s2,s3⟩
    ·exact .inl h8
    exact .inr ⟨s,s1,by omega,s3⟩
   show (Ws R.2.1.1 R.1).length+st.2=st.1.length+R.2.1.2
   omega
  rw [if_neg h3] at hk
  cases hk
def XD (rows:List (List I3)) (m:V4) (rec:V4→ZE→E3 × ZE):List (Int × V4)→List I3 × List Int→ZE→(List I3 × List Int) × ZE
 | [],acc,st=>(acc,st)
 | t::ts,acc,st=>XD rows m rec ts (((acc.1++XQ rows m t.1)++ZD rows t.2)++(rec t.2 st).1.2.1,acc.2++(rec t.2 st).1.2.2) (rec t.2 st).2
def Vd (m:V4) (R:(List I3 × List Int) × ZE):E3:=(ZG m,ZL R.1.1 [],YA R.1.2)
def Yk (rows:List (List I3)) (g:Nat):Nat→V4→ZE→E3 × ZE
 | 0,_,st=>(e3d,st)
 | f+1,m,st =>
  if isE st.1 (ZG m)=true then (WU st.1 (ZG m),st)
  else if 2000<g+(st.2+1) then (e3d,(st.1,st.2+1))
  else (Vd m (XD rows m (Yk rows g f) (nxM rows m) (ZD rows m,ZA m) (st.1,st.2+1)),(Ws (XD rows m (Yk rows g f) (nxM rows m) (ZD rows m,ZA m) (st.1,st.2+1)).2.1 (Vd m (XD rows m (Yk rows g f) (nxM rows m) (ZD rows m,ZA m) (st.1,st.2+1))),(XD rows m (Yk rows g f) (nxM rows m) (ZD rows m,ZA m) (st.1,st.2+1)).2.2))
theorem Tx {rows:List (List I3)} {m:V4} {rec:V4→ZE→E3 × ZE} (h:∀ x st,st.2≤(rec x st).2.2):∀ (ts:List (Int × V4)) (acc:List I3 × List Int) (st:ZE),st.2≤(XD rows m rec ts acc st).2.2
 | [],acc,st=>Nat.le_refl _
 | t::ts,acc,st=>by
  unfold XD
  exact Nat.le_trans (h t.2 st) (Tx h ts _ _)
theorem RU {rows:List (List I3)} {g:Nat}:∀ (f:Nat) (m:V4) (st:ZE),st.2≤(Yk rows g f m st).2.2
 | 0,m,st=>Nat.le_refl _
 | f+1,m,st=>by
  unfold Yk
  split
  ·exact Nat.le_refl _
  split
  ·exact Nat.le_succ _
  have:=Tx (rows:=rows) (m:=m) (fun x st=>RU (rows:=rows) (g:=g) f x st) (nxM rows m) (ZD rows m,ZA m) (st.1,st.2+1)
  simp only at this ⊢
  omega
def TE (rows:List (List I3)) (m:V4) (ts:List (Int × V4)) (e e':E3) (a a':List I3 × List Int):Prop:=
 ∃ (P:I3→Prop) (Q:Int→Prop),(∀ x,x ∈ e'.2.1↔x ∈ e.2.1∨P x)∧(∀ y,y ∈ e'.2.2↔y ∈ e.2.2∨Q y) ∧
  (∀ x,x ∈ a'.1↔x ∈ a.1∨(∃ t ∈ ts,x ∈ XQ rows m t.1∨x ∈ ZD rows t.2)∨P x)∧(∀ y,y ∈ a'.2↔y ∈ a.2∨Q y)∧(YL e.2.1→YL e'.2.1)∧(e.2.2.Pairwise (· < ·)→e'.2.2.Pairwise (· < ·))∧e'.1=e.1
theorem TE.nil {rows:List (List I3)} {m:V4} (e:E3) (a:List I3 × List Int):TE rows m [] e e a a:=⟨fun _=>False,fun _=>False,by simp,by simp,by simp,by simp,id,id,rfl⟩
theorem TE.cons {rows:List (List I3)} {m:V4} {t:Int × V4} {ts:List (Int × V4)} {e e':E3} {a a':List I3 × List Int} (r:E3) (h:TE rows m ts (e.1,ZL e.2.1 r.2.1,YA (e.2.2++r.2.2)) e' (((a.1++XQ rows m t.1)++ZD rows t.2)++r.2.1,a.2++r.2.2) a'):TE rows m (t::ts) e e' a a':=by
 obtain ⟨P,Q,h1,h2,h3,h4,h5,h6,h7⟩:=h
 refine ⟨fun x=>x ∈ r.2.1∨P x,fun y=>y ∈ r.2.2∨Q y,fun x=>?_,fun y=>?_,fun x=>?_,fun y=>?_,fun _=>h5 (Xl _ _),fun _=>h6 (Xe _),h7⟩
 ·rw [h1,Xd,or_assoc]
 ·rw [h2,Wg,List.mem_append,or_assoc]
 ·rw [h3]
  simp only [List.mem_append,List.mem_cons,exists_eq_or_imp]
  constructor
  ·rintro ((((h | h) | h) | h) | h | h)
   ·exact .inl h
   ·exact .inr (.inl (.inl (.inl h)))
   ·exact .inr (.inl (.inl (.inr h)))
   ·exact .inr (.inr (.inl h))
   ·exact .inr (.inl (.inr h))
   exact .inr (.inr (.inr h))
  rintro (h | ((h | h) | h) | h | h)
  ·exact .inl (.inl (.inl (.inl h)))
  ·exact .inl (.inl (.inl (.inr h)))
  ·exact .inl (.inl (.inr h))
  ·exact .inr (.inl h)
  ·exact .inl (.inr h)
  exact .inr (.inr h)
 rw [h4]
 simp only [List.mem_append,or_assoc]
theorem TE.ent {rows:List (List I3)} {m:V4} (hs:Zh m=true) {e':E3} {a':List I3 × List Int} {st:ZE} (h:TE rows m (nxM rows m) (ZG m,ZK rows m,ZA m) e' (ZD rows m,ZA m) a'):Vd m (a',st)=e':=by
 obtain ⟨P,Q,h1,h2,h3,h4,h5,h6,h7⟩:=h
 have hB:ZL a'.1 []=e'.2.1:=(Xl _ _).same (h5 (UY rows m)) (fun x=>by
  rw [Xd,h1,h3]
  simp only [List.not_mem_nil,or_false]
  rw [Mt]
  have hx:(∃ t ∈ nxM rows m,x ∈ XQ rows m t.1∨x ∈ ZD rows t.2)↔∃ k ∈ Zv rows m 3,x ∈ Y3 rows m k:=by
   unfold nxM
   constructor
   ·rintro ⟨t,ht,h⟩
    obtain ⟨k,hk,rfl⟩:=List.mem_map.1 ht
    exact ⟨k,hk,Ru.2 h⟩
   rintro ⟨k,hk,h⟩
   exact ⟨_,List.mem_map.2 ⟨k,hk,rfl⟩,Ru.1 h⟩
  rw [hx,or_assoc])
 have hF:YA a'.2=e'.2.2:=JB (Xe _) (h6 (VU hs)) (fun y=>by rw [Wg,h2,h4])
 unfold Vd
 simp only
 rw [hB,hF,show ZG m=e'.1 from h7.symm]
theorem JV {rows:List (List I3)} {m:V4} {g:Nat} {rec:V4→ZE→E3 × ZE × Bool} {rec':V4→ZE→E3 × ZE} {L:Nat}:∀ (ts:List (Int × V4)) (e:E3) (a:List I3 × List Int) (st:ZE),
  (∀ t ∈ ts,∀ st:ZE,UpR st.1→(rec t.2 st).2.2=true→XJ rows L st (rec t.2 st).2.1∧(g+(rec t.2 st).2.1.2≤2000→rec' t.2 st=((rec t.2 st).1,(rec t.2 st).2.1)))→UpR st.1→(YJ rec ts e st).2.2=true→g+(YJ rec ts e st).2.1.2≤2000 →
  TE rows m ts e (YJ rec ts e st).1 a (XD rows m rec' ts a st).1∧(XD rows m rec' ts a st).2=(YJ rec ts e st).2.1
 | [],e,a,st,hr,ht,hk,hg=>⟨TE.nil e a,rfl⟩
 | t::ts,e,a,st,hr,ht,hk,hg=>by
  unfold YJ at hk hg ⊢
  unfold XD
  by_cases h:(rec t.2 st).2.2=true
  ·rw [if_pos h] at hk hg ⊢
   obtain ⟨h2,h3⟩:=hr t (List.mem_cons_self ..) st ht h
   have h4:=(Ty ts (e.1,ZL e.2.1 (rec t.2 st).1.2.1,YA (e.2.2++(rec t.2 st).1.2.2)) (rec t.2 st).2.1 (fun t' ht' st' hu hk'=>(hr t' (List.mem_cons_of_mem _ ht') st' hu hk').1) h2.1 hk).2.2.2.1
   rw [h3 (by omega)]
   obtain ⟨q1,q2⟩:=JV (m:=m) (rec':=rec') ts _ (((a.1++XQ rows m t.1)++ZD rows t.2)++(rec t.2 st).1.2.1,a.2++(rec t.2 st).1.2.2) _ (fun t' ht'=>hr t' (List.mem_cons_of_mem _ ht')) h2.1 hk hg
   exact ⟨TE.cons (rec t.2 st).1 q1,q2⟩
  rw [if_neg h] at hk
  cases hk
theorem Lu {rows:List (List I3)} (hp:Zq rows=true) {g:Nat}:∀ (f:Nat) (m:V4) (st:ZE),Zh m=true→UpR st.1→(Z7 rows f m st).2.2=true→g+(Z7 rows f m st).2.1.2≤2000→Yk rows g f m st=((Z7 rows f m st).1,(Z7 rows f m st).2.1)
 | 0,m,st,hs,ht,hk,hg=>by unfold Z7 at hk;cases hk
 | f+1,m,st,hs,ht,hk,hg=>by
  have hstr:=Wt hp (f+1) m st hs ht hk
  unfold Z7 at hk hg hstr ⊢
  unfold Yk
  by_cases h1:isE st.1 (ZG m)=true
  ·rw [if_pos h1,if_pos h1]
  rw [if_neg h1] at hk hg hstr ⊢
  rw [if_neg h1]
  by_cases h2:st.1.length=2000
  ·rw [if_pos h2] at hk
   cases hk
  rw [if_neg h2] at hk hg hstr ⊢
  have key:=JV (rows:=rows) (m:=m) (g:=g) (L:=Xc rows m) (rec:=Z7 rows f) (rec':=Yk rows g f) (nxM rows m) (ZG m,ZK rows m,ZA m) (ZD rows m,ZA m) (st.1,st.2+1) (fun t htm st' ht' hk'=>by
   obtain ⟨q1,q2⟩:=Tb hp hs t htm
   exact ⟨(Wt hp f t.2 st' q1 ht' hk').mono (by omega),fun h9=>Lu hp f t.2 st' q1 ht' hk' h9⟩) ht
  have kst:=Ty (rows:=rows) (L:=Xc rows m) (rec:=Z7 rows f) (nxM rows m) (ZG m,ZK rows m,ZA m) (st.1,st.2+1) (fun t htm st' ht' hk'=>by
   obtain ⟨q1,q2⟩:=Tb hp hs t htm
   exact (Wt hp f t.2 st' q1 ht' hk').mono (by omega)) ht
  generalize YJ (Z7 rows f) (nxM rows m) (ZG m,ZK rows m,ZA m) (st.1,st.2+1)=R at *
  generalize hK:XD rows m (Yk rows g f) (nxM rows m) (ZD rows m,ZA m) (st.1,st.2+1)=K at *
  by_cases h3:R.2.2=true
  ·rw [if_pos h3] at hk hg ⊢
   by_cases h4:R.2.1.1.length=2000
   ·rw [if_pos h4] at hk
    cases hk
   rw [if_neg h4] at hg ⊢
   simp only at hg
   obtain ⟨k1,k2⟩:=key h3 hg
   have k3:=(kst h3).2.2.2.1
   simp only at k3
   rw [if_neg (by omega)]
   have k4:=k1.ent (st:=K.2) hs
   rw [show Vd m K=R.1 from k4,k2]
  rw [if_neg h3] at hk
  cases hk
theorem JW {rows:List (List I3)} {m:V4} {g:Nat} {rec:V4→ZE→E3 × ZE × Bool} {rec':V4→ZE→E3 × ZE} {L:Nat} (hc:∀ x st,st.2≤(rec' x st).2.2):∀ (ts:List (Int × V4)) (e:E3) (a:List I3 × List Int) (st:ZE),
  (∀ t ∈ ts,∀ st:ZE,UpR st.1→st.1.length≤g+st.2→g+(rec' t.2 st).2.2≤2000→(rec t.2 st).2.2=true∧XJ rows L st (rec t.2 st).2.1∧rec' t.2 st=((rec t.2 st).1,(rec t.2 st).2.1))→UpR st.1→st.1.length≤g+st.2→g+(XD rows m rec' ts a st).2.2≤2000 →
  (YJ rec ts e st).2.2=true∧XJ rows L st (YJ rec ts e st).2.1∧TE rows m ts e (YJ rec ts e st).1 a (XD rows m rec' ts a st).1∧(XD rows m rec' ts a st).2=(YJ rec ts e st).2.1
 | [],e,a,st,hr,ht,hl,hg=>⟨rfl,XJ.refl ht,TE.nil e a,rfl⟩
 | t::ts,e,a,st,hr,ht,hl,hg=>by
  unfold XD at hg ⊢
  have hg1:=Nat.le_trans (Nat.add_le_add_left (Tx (rows:=rows) (m:=m) hc ts (((a.1++XQ rows m t.1)++ZD rows t.2)++(rec' t.2 st).1.2.1,a.2++(rec' t.2 st).1.2.2) (rec' t.2 st).2) g) hg
  obtain ⟨h1,h2,h3⟩:=hr t (List.mem_cons_self ..) st ht hl hg1
  rw [h3] at hg ⊢
  unfold YJ
  rw [if_pos h1]
  have h5:=h2.2.2.2.2
  obtain ⟨q0,q1,q2,q3⟩:=JW (L:=L) (rec:=rec) hc ts (e.1,ZL e.2.1 (rec t.2 st).1.2.1,YA (e.2.2++(rec t.2 st).1.2.2)) _ _ (fun t' ht'=>hr t' (List.mem_cons_of_mem _ ht')) h2.1 (by omega) hg
  exact ⟨q0,h2.trans q1,TE.cons (rec t.2 st).1 q2,q3⟩
theorem Lv {rows:List (List I3)} (hp:Zq rows=true) {g:Nat}:∀ (f:Nat) (m:V4) (st:ZE),Zh m=true→Xc rows m<f→UpR st.1→st.1.length≤g+st.2→g+(Yk rows g f m st).2.2≤2000→(Z7 rows f m st).2.2=true∧Yk rows g f m st=((Z7 rows f m st).1,(Z7 rows f m st).2.1)
 | 0,m,st,hs,hf,ht,hl,hg=>by omega
 | f+1,m,st,hs,hf,ht,hl,hg=>by
  unfold Yk at hg ⊢
  unfold Z7
  by_cases h1:isE st.1 (ZG m)=true
  ·rw [if_pos h1,if_pos h1]
   exact ⟨rfl,rfl⟩
  rw [if_neg h1] at hg ⊢
  rw [if_neg h1]
  by_cases h0:2000<g+(st.2+1)
  ·rw [if_pos h0] at hg
   simp only at hg
   omega
  rw [if_neg h0] at hg ⊢
  simp only at hg
  rw [if_neg (show ¬ st.1.length=2000 by omega)]
  obtain ⟨k0,k1,k2,k3⟩:=JW (rows:=rows) (m:=m) (g:=g) (L:=Xc rows m) (rec:=Z7 rows f) (rec':=Yk rows g f) (fun x st=>RU f x st) (nxM rows m) (ZG m,ZK rows m,ZA m) (ZD rows m,ZA m) (st.1,st.2+1) (fun t htm st' ht' hl' hg'=>by
   obtain ⟨q1,q2⟩:=Tb hp hs t htm
   obtain ⟨r1,r2⟩:=Lv hp f t.2 st' q1 (by omega) ht' hl' hg'
   exact ⟨r1,(Wt hp f t.2 st' q1 ht' r1).mono (by omega),r2⟩) ht (by show st.1.length≤g+(st.2+1);omega) hg
  generalize YJ (Z7 rows f) (nxM rows m) (ZG m,ZK rows m,ZA m) (st.1,st.2+1)=R at *
  generalize hK:XD rows m (Yk rows g f) (nxM rows m) (ZD rows m,ZA m) (st.1,st.2+1)=K at *
  rw [if_pos k0]
  have k5:=k1.2.2.2.2
  simp only at k5
  rw [k3] at hg
  rw [if_neg (by omega)]
  have k4:=k2.ent (st:=K.2) hs
  rw [show Vd m K=R.1 from k4,k3]
  exact ⟨rfl,rfl⟩
theorem JX {rows:List (List I3)} (hp:Zq rows=true) {f:Nat} {m:V4} {es:List E3} (hs:Zh m=true) (hf:Xc rows m<f) (ht:UpR es):
  (es.length+(Yk rows es.length f m (es,0)).2.2≤2000→(Z7 rows f m (es,0)).2.2=true∧Yk rows es.length f m (es,0)=((Z7 rows f m (es,0)).1,(Z7 rows f m (es,0)).2.1)) ∧
  (¬ es.length+(Yk rows es.length f m (es,0)).2.2≤2000→(Z7 rows f m (es,0)).2.2=false):=by
 refine ⟨fun h=>Lv hp f m (es,0) hs hf ht (by simp) h,fun h=>?_⟩
 cases hk:(Z7 rows f m (es,0)).2.2
 ·rfl
 exfalso
 have h1:=Wt hp f m (es,0) hs ht hk
 have h2:=h1.2.2.2.2
 have h3:=h1.1.few
 simp only at h2
 have h4:=Lu hp (g:=es.length) f m (es,0) hs ht hk (by omega)
 rw [h4] at h
 simp only at h
 omega


def VF:Nat→Nat
 | 0=>0
 | f+1=>1+3*VF f
theorem Gn:VF 19=581130733:=by decide
theorem Ld (rows:List (List I3)) (m:V4):(nxM rows m).length≤3:=by
 unfold nxM
 rw [List.length_map]
 exact YZ rows m 3
theorem RY {rows:List (List I3)} {m:V4} {rec:V4→ZE→E3 × ZE} {B:Nat} (h:∀ x st,(rec x st).2.2≤st.2+B):∀ (ts:List (Int × V4)) (acc:List I3 × List Int) (st:ZE),(XD rows m rec ts acc st).2.2≤st.2+ts.length*B
 | [],acc,st=>Nat.le_add_right _ _
 | t::ts,acc,st=>by
  unfold XD
  have h1:=h t.2 st
  have h2:=RY (rows:=rows) (m:=m) h ts (((acc.1++XQ rows m t.1)++ZD rows t.2)++(rec t.2 st).1.2.1,acc.2++(rec t.2 st).1.2.2) (rec t.2 st).2
  rw [List.length_cons,Nat.add_mul,Nat.one_mul]
  omega
theorem RW {rows:List (List I3)} {g:Nat}:∀ (f:Nat) (m:V4) (st:ZE),(Yk rows g f m st).2.2≤st.2+VF f
 | 0,m,st=>Nat.le_refl _
 | f+1,m,st=>by
  unfold Yk
  have hT:VF (f+1)=1+3*VF f:=rfl
  by_cases h1:isE st.1 (ZG m)=true
  ·rw [if_pos h1]
   exact Nat.le_add_right _ _
  rw [if_neg h1]
  by_cases h2:2000<g+(st.2+1)
  ·rw [if_pos h2]
   show st.2+1≤st.2+VF (f+1)
   omega
  rw [if_neg h2]
  have h3:=RY (rows:=rows) (m:=m) (B:=VF f) (fun x st=>RW (rows:=rows) (g:=g) f x st) (nxM rows m) (ZD rows m,ZA m) (st.1,st.2+1)
  have h4:=Nat.mul_le_mul_right (VF f) (Ld rows m)
  simp only at h3 ⊢
  omega


theorem Nz:∀ (xs:List Int) (n:Int),n ∉ xs→(Yg xs n).length=xs.length+1
 | [],n,_=>by simp [Yg]
 | x::xs,n,h=>by
  have h1:n≠x:=fun e=>h (by rw [e];exact List.mem_cons_self ..)
  have ih:=Nz xs n (fun e=>h (List.mem_cons_of_mem _ e))
  unfold Yg
  repeat' split
  all_goals first | (simp only [List.length_cons,ih];done) | (simp only [List.length_cons];done) | (exfalso;omega)
theorem Qu:∀ (xs acc:List Int),xs.Nodup→(∀ x ∈ xs,x ∉ acc)→(xs.foldl Yg acc).length=acc.length+xs.length
 | [],acc,_,_=>rfl
 | x::xs,acc,hn,ha=>by
  have h1:=List.nodup_cons.1 hn
  rw [List.foldl_cons,Qu xs _ h1.2 (fun y hy=>by
   rw [Vh]
   rintro (e | e)
   ·subst e;exact h1.1 hy
   exact ha y (List.mem_cons_of_mem _ hy) e),Nz acc x (ha x (List.mem_cons_self ..)),List.length_cons]
  omega
theorem Ko {xs:List Int} {a b:Int} (hn:xs.Nodup) (hb:∀ x ∈ xs,a≤x∧x≤b):(xs.length:Int)≤max (b - a+1) 0:=by
 have h1:=Qu xs [] hn (fun x _=>by simp)
 have h2:=RH (YA xs) a b (Xe xs) (fun x hx=>hb x ((Wg xs x).1 hx))
 unfold YA at h2
 rw [h1] at h2
 simpa using h2


theorem Mw {x:I3} (h:okB x=true):x=(14,0,0)∨∃ k a b:Nat,(k=12∨k=13)∧a<3∧b<6∧x=((k:Int),(a:Int),(b:Int)):=by
 obtain ⟨c,a,b⟩:=x
 unfold okB at h
 simp only at h
 split at h
 ·rename_i e
  simp at h
  exact .inl (by rw [e,h.1,h.2])
 split at h
 ·rename_i e
  simp [ZC] at h
  refine .inr ⟨c.toNat,a.toNat,b.toNat,by omega,by omega,by omega,?_⟩
  rw [Int.toNat_of_nonneg (by omega),Int.toNat_of_nonneg (by omega),Int.toNat_of_nonneg (by omega)]
 cases h
theorem VW {x:I3} (h:okB x=true):I3.fits x:=by
 rcases Mw h with rfl | ⟨k,a,b,hk,ha,hb,rfl⟩
 ·unfold I3.fits;decide
 have h2:a=0∨a=1∨a=2:=by omega
 have h3:b=0∨b=1∨b=2∨b=3∨b=4∨b=5:=by omega
 rcases hk with rfl | rfl<;>rcases h2 with rfl | rfl | rfl<;>rcases h3 with rfl | rfl | rfl | rfl | rfl | rfl<;>(unfold I3.fits;decide)


theorem MF {w:World} {g t:Nat} {a b c:Value} (h:Blk w g t [a,b,c]):∀ j u,[a,b,c][j]?=some u→w.cell? ((⟨g,0,none⟩:Addr).add j)=some u:=Qp h


def YY (rows:List (List I3)) (m:V4) (j:Nat):List I3:=((Zv rows m 3).take j).foldl (fun out k=>ZL out (Y3 rows m k)) (ZD rows m)
theorem Ke (rows:List (List I3)) (m:V4):YY rows m 0=ZD rows m:=rfl
theorem TP {rows:List (List I3)} {m:V4} {j:Nat} {k:Int} (h:(Zv rows m 3)[j]?=some k):YY rows m (j+1)=ZL (YY rows m j) (Y3 rows m k):=by
 unfold YY
 rw [List.take_add_one,h]
 simp [List.foldl_append]
theorem Rp {rows:List (List I3)} {m:V4} {j:Nat} (h:(Zv rows m 3).length≤j):YY rows m j=ZK rows m:=by
 unfold YY ZK
 rw [List.take_of_length_le h]
theorem J6 (rows:List (List I3)) (m:V4):(∀ x ∈ ZD rows m,okB x=true)∧(ZD rows m).length≤1:=by
 unfold ZD
 split
 ·exact ⟨fun x hx=>by simp at hx;subst hx;rfl,by simp⟩
 exact ⟨fun x hx=>by simp at hx,by simp⟩
theorem SQ {rows:List (List I3)} {m:V4} (hp:Zq rows=true) (hs:Zh m=true):∀ j,(∀ x ∈ YY rows m j,okB x=true)∧(YY rows m j).length≤1+2*j
 | 0=>by rw [Ke];exact J6 rows m
 | j+1=>by
  have ih:=SQ hp hs j
  cases h:(Zv rows m 3)[j]? with
  | none =>
   have e:YY rows m (j+1)=YY rows m j:=by unfold YY;rw [List.take_add_one,h];simp
   rw [e]
   exact ⟨ih.1,by omega⟩
  | some k =>
   have hf:=TL hp hs (XM (List.mem_of_getElem? h))
   rw [TP h]
   exact ⟨Km ih.1 hf.1,by have:=Mu (YY rows m j) (Y3 rows m k);have:=hf.2;omega⟩
theorem Hi {rows:List (List I3)} {m:V4} (hp:Zq rows=true) (hs:Zh m=true):(∀ x ∈ ZK rows m,okB x=true)∧(ZK rows m).length≤7:=by
 have h:=SQ hp hs (Zv rows m 3).length
 rw [Rp (Nat.le_refl _)] at h
 have:=YZ rows m 3
 exact ⟨h.1,by omega⟩

theorem Na {w:World} {a:Option Addr} {cap:Nat} {cs:Sl × Sl × Sl} {rows:List (List I3)} {s:S4} {m:V4} (hR:Yd w a cs rows) (h:Yx w s m) (hp:Zq rows=true) (hs:Zh m=true) :
  Calls Tryz.prog 168 #[.agg #[.slice a 3 cap],s.val] w fun e w'=>Wm e w' w.heap.size (ZK rows m)∧Below w.heap.size w w':=by
 obtain ⟨i0,hi9,hz0,hz1,hz2⟩:=info_parts Xr
 obtain ⟨⟨t0a,t0n,t0c⟩,⟨t1a,t1n,t1c⟩,⟨t2a,t2n,t2c⟩,⟨t3a,t3n,t3c⟩⟩:=s
 have ut:S4.val ((t0a,t0n,t0c),(t1a,t1n,t1c),(t2a,t2n,t2c),(t3a,t3n,t3c))=.agg #[.slice t0a t0n t0c,.slice t1a t1n t1c,.slice t2a t2n t2c,.slice t3a t3n t3c]:=rfl
 have kU:=fun (W:World) (b:Below w.heap.size w W)=>Si a 3 cap rows ((t0a,t0n,t0c),(t1a,t1n,t1c),(t2a,t2n,t2c),(t3a,t3n,t3c)) m cs W rfl (hR.below b) (h.below b) hp hs
 have kE:=fun (W:World) (b:Below w.heap.size w W)=>WY a 3 cap rows ((t0a,t0n,t0c),(t1a,t1n,t1c),(t2a,t2n,t2c),(t3a,t3n,t3c)) m cs W rfl (hR.below b) (h.below b) hp hs
 rw [ut] at kU kE ⊢
 have bw:Below w.heap.size w (((w.alloc (.cells #[.slice a 3 cap] 25)).alloc (.cells #[.slice t0a t0n t0c,.slice t1a t1n t1c,.slice t2a t2n t2c,.slice t3a t3n t3c] 112)).alloc (.cells #[] 127)):=by go_grown
 have pP:Blk (((w.alloc (.cells #[.slice a 3 cap] 25)).alloc (.cells #[.slice t0a t0n t0c,.slice t1a t1n t1c,.slice t2a t2n t2c,.slice t3a t3n t3c] 112)).alloc (.cells #[] 127)) w.heap.size 25 [.slice a 3 cap]:=Zi _ (Zi _ (Zj _ _ _ rfl))
 have pS:Blk (((w.alloc (.cells #[.slice a 3 cap] 25)).alloc (.cells #[.slice t0a t0n t0c,.slice t1a t1n t1c,.slice t2a t2n t2c,.slice t3a t3n t3c] 112)).alloc (.cells #[] 127)) (w.heap.size+1) 112 [.slice t0a t0n t0c,.slice t1a t1n t1c,.slice t2a t2n t2c,.slice t3a t3n t3c]:=Zi _ (Zj _ _ _ (by simp))
 have q:(((w.alloc (.cells #[.slice a 3 cap] 25)).alloc (.cells #[.slice t0a t0n t0c,.slice t1a t1n t1c,.slice t2a t2n t2c,.slice t3a t3n t3c] 112)).alloc (.cells #[] 127)).ownsRow w.heap.size 127 3 (.slice (some ⟨w.heap.size+1+1,0,none⟩) 0 0) 0 []:=by
  have h9:=Xf ((w.alloc (.cells #[.slice a 3 cap] 25)).alloc (.cells #[.slice t0a t0n t0c,.slice t1a t1n t1c,.slice t2a t2n t2c,.slice t3a t3n t3c] 112)) 127 3 w.heap.size (by simp;omega)
  simpa using h9
 obtain ⟨g0,hg0⟩:∃ g0,g0=w.heap.size+1+1:=⟨_,rfl⟩
 go_enter Tryz.func168,Tryz.ntmps168
 go_wp2_with fail
 rw [← hg0] at q ⊢
 clear hg0
 generalize ((w.alloc (.cells #[.slice a 3 cap] 25)).alloc (.cells #[.slice t0a t0n t0c,.slice t1a t1n t1c,.slice t2a t2n t2c,.slice t3a t3n t3c] 112)).alloc (.cells #[] 127)=U at *
 have kUx:=kU U bw
 clear kU
 go_wp2_with (first | refine Zc rfl 25 _ rfl w.heap.size rfl pP _ Tryz.underlying25 rfl (by kernel_rfl) ?_ | refine Zc rfl 112 _ rfl (w.heap.size+1) rfl pS _ Tryz.underlying112 rfl (by kernel_rfl) ?_)
 refine kUx.mono ?_
 rintro e w1 ⟨rfl,hb⟩
 replace bw:=Zb bw hb
 replace pP:=pP.below hb
 replace pS:=pS.below hb
 replace q:=Zy q hb
 clear hb kUx
 have key:∀ (W:World) (v:Value),Hid (W.ownsRow w.heap.size 127 3 v (ZD rows m).length (Zl (ZD rows m)))→Hid (W.ownsRow w.heap.size 127 3 v (YY rows m 0).length (Zl (YY rows m 0))):=fun W v h=>h
 cases hst:Wk rows m
 ·have HQ:Hid (w1.ownsRow w.heap.size 127 3 (.slice (some ⟨g0,0,none⟩) 0 0) (ZD rows m).length (Zl (ZD rows m))):=by
   unfold ZD
   rw [hst]
   exact q
  clear q hst
  have kEx:=kE w1 bw
  clear kE
  go_wp2_with (first | refine Zc rfl 25 _ rfl w.heap.size rfl pP _ Tryz.underlying25 rfl (by kernel_rfl) ?_ | refine Zc rfl 112 _ rfl (w.heap.size+1) rfl pS _ Tryz.underlying112 rfl (by kernel_rfl) ?_)
  refine kEx.mono ?_
  rintro e w6 ⟨⟨⟨la,ln,lc⟩,rfl,hL⟩,hb⟩
  replace bw:=Zb bw hb
  replace pP:=pP.below hb
  replace pS:=pS.below hb
  have HQ2:=key w6 _ (Zy HQ.out hb)
  clear hb kEx HQ key
  have hLn:(Zv rows m 3).length=ln:=by have:=hL.1;simpa using this
  have hl3:=YZ rows m 3
  go_wp2_with fail
  go_loopw [5,7] (fun s5 s7 wr=>∃ j:Nat,s7=.int .i64 j∧j≤ln∧Hid (wr.ownsRow w.heap.size 127 3 s5 (YY rows m j).length (Zl (YY rows m j)))∧Below w6.heap.size w6 wr) (fun _ s7 _=>ln - (intOf s7).toNat)
  case atStart=>exact ⟨0,rfl,Nat.zero_le _,HQ2,Below.refl _ _⟩
  case round =>
   clear HQ2
   obtain ⟨j,rfl,hjn,HQ,bq⟩:=hrel
   have q:=HQ.out
   obtain ⟨va,vn,vc,rfl⟩:=Vw q
   obtain ⟨hlo,hll⟩:=SQ hp hs j
   replace bw:=Zb bw bq
   replace pP:=pP.below bq
   replace pS:=pS.below bq
   replace hL:=hL.below bq
   clear HQ
   by_cases hlt2:j<ln
   ·have hkj:(Zv rows m 3)[j]?=some ((Zv rows m 3).getD j 0):=by rw [List.getD,List.getElem?_eq_getElem (by omega)];rfl
    have hz:=XM (List.mem_of_getElem? hkj)
    obtain ⟨h0k,h2k,hd9,_⟩:=X8 hz
    obtain ⟨k,hk⟩:∃ k:Nat,(Zv rows m 3).getD j 0=(k:Int):=⟨_,(Int.toNat_of_nonneg h0k).symm⟩
    obtain ⟨lb,lo,rfl,hc,hlb⟩:=Vr hL.ints (show j<ln from hlt2)
    rw [hk] at hkj hz hd9 h0k h2k hc
    rw [Int.toNat_natCast] at hd9
    have hk3:k<3:=by omega
    clear hk hlb
    have hfo:=TL hp hs hz
    have HLS:Hid (YY rows m (j+1)=ZL (YY rows m j) (Y3 rows m (k:Int))):=TP hkj
    have kP:=fun (W:World) (b:Below w.heap.size w W)=>Sj (cap:=cap) (hR.below b) (h.below b) hp hs hk3 hd9
    rw [ut] at kP
    generalize (goM rows m (k:Int)).1=z at *
    generalize Y3 rows m (k:Int)=fs at *
    have hlt3:(j:Int)<(ln:Int):=by omega
    have hj0:(0:Int)≤(j:Int):=by omega
    clear hkj hz hd9
    go_wp2_with fail
    have hb9:Below wr.heap.size wr wr.drew:=by go_grown
    refine wp_region_held_drew (S:=(fun w'=>w'.cell? ⟨w.heap.size,0,none⟩=some (.slice a 3 cap)∧w'.cell? ⟨w.heap.size+1,0,none⟩=some (.slice t0a t0n t0c)∧w'.cell? ⟨w.heap.size+1,1,none⟩=some (.slice t1a t1n t1c)∧w'.cell? ⟨w.heap.size+1,2,none⟩=some (.slice t2a t2n t2c)∧w'.cell? ⟨w.heap.size+1,3,none⟩=some (.slice t3a t3n t3c)∧w'.cell? ⟨lb,lo+j,none⟩=some (.int .i64 (k:Int)))) (by kernel_rfl) ⟨by simpa using pP.cell 0,by simpa using pS.cell 0,by simpa using pS.cell 1,by simpa using pS.cell 2,by simpa using pS.cell 3,hc⟩ (fun hS0=>?_)
    refine tkm 0 28 (.agg #[.slice a 3 cap]) ?_
    refine tkm 1 29 (.agg #[.slice t0a t0n t0c,.slice t1a t1n t1c,.slice t2a t2n t2c,.slice t3a t3n t3c]) ?_
    refine tkm 2 30 (.slice (some ⟨lb,lo,none⟩) ln lc) ?_
    refine tkm 3 31 (.int .i64 (j:Int)) ?_
    refine tkm 4 32 (.pointer (some ⟨lb,lo+j,none⟩)) ?_
    refine tkm 5 33 (.int .i64 (k:Int)) ?_
    replace bw:=Zb bw hb9
    replace bq:=Zb bq hb9
    replace q:=Zy q hb9
    clear hb9
    generalize wr.drew=V at *
    refine wpAnyH_ready (rs:=[6,10]) (by kernel_rfl) (by simp) ?_
    refine AllReadyH.cons (o:=⟨some 34,_,_,_,_,_⟩) rfl (fun K hK=>?_) (AllReadyH.cons (o:=⟨some 8,_,_,_,_,_⟩) rfl (fun K hK=>?_) AllReadyH.nil)
    ·have kPx:=kP V bw
     go_simp
     refine kPx.mono ?_
     rintro e V1 ⟨⟨⟨⟨z0a,z0n,z0c⟩,⟨z1a,z1n,z1c⟩,⟨z2a,z2n,z2c⟩,⟨z3a,z3n,z3c⟩⟩,v9,rfl,hO2,qf⟩,hb1⟩
     have uz:S4.val ((z0a,z0n,z0c),(z1a,z1n,z1c),(z2a,z2n,z2c),(z3a,z3n,z3c))=.agg #[.slice z0a z0n z0c,.slice z1a z1n z1c,.slice z2a z2n z2c,.slice z3a z3n z3c]:=rfl
     rw [uz]
     clear uz
     obtain ⟨fa,fc,rfl,hI9,hGd9⟩:=Z5 qf (fun x hx=>Yf (hfo.1 x hx))
     clear hGd9 hO2 hI9
     go_wp2_with fail
     refine hK.out _ _ ⟨Za hb1 _ _ hS0.1,Za hb1 _ _ hS0.2.1,Za hb1 _ _ hS0.2.2.1,Za hb1 _ _ hS0.2.2.2.1,Za hb1 _ _ hS0.2.2.2.2.1,Za hb1 _ _ hS0.2.2.2.2.2⟩ (fun hS5=>?_)
     clear hK kPx
     try simp only [Act.put,tka,tkb,tkc]
     refine tkm 7 27 (.tuple #[.agg #[.slice z0a z0n z0c,.slice z1a z1n z1c,.slice z2a z2n z2c,.slice z3a z3n z3c],.slice fa fs.length fc]) ?_
     refine tkm 8 35 (.agg #[.slice z0a z0n z0c,.slice z1a z1n z1c,.slice z2a z2n z2c,.slice z3a z3n z3c]) ?_
     refine tkm 9 36 (.slice fa fs.length fc) ?_
     refine tkr 10 8 (fun K hK=>?_)
     have hb2:Below V1.heap.size V1 (V1.alloc (.cells #[.slice none 0 0,.slice none 0 0,.slice none 0 0,.slice none 0 0] 112)):=by go_grown
     have pX:Blk (V1.alloc (.cells #[.slice none 0 0,.slice none 0 0,.slice none 0 0,.slice none 0 0] 112)) V1.heap.size 112 [.slice none 0 0,.slice none 0 0,.slice none 0 0,.slice none 0 0]:=Zj _ _ _ rfl
     replace qf:=Zy qf hb2
     have hbA:=Zb hb1 hb2
     have hYV:V.heap.size≤V1.heap.size:=hb1.size
     go_simp
     refine hK.out _ _ ⟨Za hbA _ _ hS0.1,Za hbA _ _ hS0.2.1,Za hbA _ _ hS0.2.2.1,Za hbA _ _ hS0.2.2.2.1,Za hbA _ _ hS0.2.2.2.2.1,Za hbA _ _ hS0.2.2.2.2.2⟩ (fun hS6=>?_)
     clear hK hb1 hb2
     generalize (V1.alloc (.cells #[.slice none 0 0,.slice none 0 0,.slice none 0 0,.slice none 0 0] 112))=V2 at *
     generalize V1.heap.size=Y at *
     try simp only [Act.put,tka,tkb,tkc]
     refine tkz 11 (fun K hK=>?_)
     refine Xu rfl 112 _ _ rfl Y [.slice z0a z0n z0c,.slice z1a z1n z1c,.slice z2a z2n z2c,.slice z3a z3n z3c] rfl rfl pX (by kernel_rfl) rfl rfl ?_
     intro V8 pX8 g8
     have hbig:=hbA.grown g8 hbA.size (fun q hq=>by cases hq;exact hYV)
     replace qf:=qf.kept g8 (Yu qf pX (by decide))
     obtain ⟨fa9,fc9,ef9,hI8,hGd8⟩:=Z5 qf (fun x hx=>Yf (hfo.1 x hx))
     cases ef9
     clear hGd8 qf
     refine hK.out _ _ ⟨Za hbig _ _ hS0.1,Za hbig _ _ hS0.2.1,Za hbig _ _ hS0.2.2.1,Za hbig _ _ hS0.2.2.2.1,Za hbig _ _ hS0.2.2.2.2.1,Za hbig _ _ hS0.2.2.2.2.2⟩ (fun hS7=>?_)
     clear hK pX g8 hbA hYV pX8
     try simp only [Act.put,tka,tkb,tkc]
     refine tkm 12 9 (.slice fa fs.length fc) ?_
     refine wpAnyH_done (by kernel_rfl) ?_ _
     replace bw:=Zb bw hbig
     replace bq:=Zb bq hbig
     replace q:=Zy q hbig
     clear hbig hS0 hS5 hS6 hS7 pP pS kP hc hL
     obtain ⟨va9,vc9,ev9,hIv,hGv⟩:=Z5 q (fun x hx=>Yf (hlo x hx))
     cases ev9
     have kM:=Wc va (YY rows m j).length vc (YY rows m j) fa fs.length fc fs V8 hIv hI8 (by omega) (by have:=hfo.2;omega)
     clear hIv hGv hI8 q
     go_wp2_with fail
     refine kM.mono ?_
     rintro e V10 ⟨⟨v6,rfl,q6⟩,hb⟩
     have hV8:=bw.size
     have HQ9:Hid (V10.ownsRow w.heap.size 127 3 v6 (YY rows m (j+1)).length (Zl (YY rows m (j+1)))):=by rw [HLS.out];exact Xm q6 hV8
     have bq9:=Zb bq hb
     clear hb q6 kM HLS bq bw
     go_wp2
     go_roundw
     case rel=>exact ⟨j+1,by go_num,by omega,HQ9,bq9⟩
     case measure=>simp [intOf];omega
    have hb1:Below V.heap.size V (V.alloc (.cells #[.slice none 0 0,.slice none 0 0,.slice none 0 0,.slice none 0 0] 112)):=by go_grown
    have pX:Blk (V.alloc (.cells #[.slice none 0 0,.slice none 0 0,.slice none 0 0,.slice none 0 0] 112)) V.heap.size 112 [.slice none 0 0,.slice none 0 0,.slice none 0 0,.slice none 0 0]:=Zj _ _ _ rfl
    have hYV:V.heap.size≤V.heap.size:=Nat.le_refl _
    go_simp
    refine hK.out _ _ ⟨Za hb1 _ _ hS0.1,Za hb1 _ _ hS0.2.1,Za hb1 _ _ hS0.2.2.1,Za hb1 _ _ hS0.2.2.2.1,Za hb1 _ _ hS0.2.2.2.2.1,Za hb1 _ _ hS0.2.2.2.2.2⟩ (fun hS6=>?_)
    clear hK
    have kPx:=kP _ (Zb bw hb1)
    generalize (V.alloc (.cells #[.slice none 0 0,.slice none 0 0,.slice none 0 0,.slice none 0 0] 112))=V2 at *
    obtain ⟨Y,hY⟩:∃ Y,Y=V.heap.size:=⟨_,rfl⟩
    rw [← hY] at pX hYV ⊢
    replace hYV:V.heap.size≤Y:=by omega
    clear hY
    try simp only [Act.put,tka,tkb,tkc]
    refine tkr 6 34 (fun K hK=>?_)
    go_simp
    refine kPx.mono ?_
    rintro e V3 ⟨⟨⟨⟨z0a,z0n,z0c⟩,⟨z1a,z1n,z1c⟩,⟨z2a,z2n,z2c⟩,⟨z3a,z3n,z3c⟩⟩,v9,rfl,hO2,qf⟩,hb2⟩
    have uz:S4.val ((z0a,z0n,z0c),(z1a,z1n,z1c),(z2a,z2n,z2c),(z3a,z3n,z3c))=.agg #[.slice z0a z0n z0c,.slice z1a z1n z1c,.slice z2a z2n z2c,.slice z3a z3n z3c]:=rfl
    rw [uz]
    clear uz
    obtain ⟨fa,fc,rfl,hI9,hGd9⟩:=Z5 qf (fun x hx=>Yf (hfo.1 x hx))
    clear hGd9 hO2 hI9
    go_wp2_with fail
    have hbA:=Zb hb1 hb2
    replace pX:=pX.below hb2
    refine hK.out _ _ ⟨Za hbA _ _ hS0.1,Za hbA _ _ hS0.2.1,Za hbA _ _ hS0.2.2.1,Za hbA _ _ hS0.2.2.2.1,Za hbA _ _ hS0.2.2.2.2.1,Za hbA _ _ hS0.2.2.2.2.2⟩ (fun hS5=>?_)
    clear hK kPx hb1 hb2
    try simp only [Act.put,tka,tkb,tkc]
    refine tkm 7 27 (.tuple #[.agg #[.slice z0a z0n z0c,.slice z1a z1n z1c,.slice z2a z2n z2c,.slice z3a z3n z3c],.slice fa fs.length fc]) ?_
    refine tkm 8 35 (.agg #[.slice z0a z0n z0c,.slice z1a z1n z1c,.slice z2a z2n z2c,.slice z3a z3n z3c]) ?_
    refine tkm 9 36 (.slice fa fs.length fc) ?_
    refine tkz 11 (fun K hK=>?_)
    refine Xu rfl 112 _ _ rfl Y [.slice z0a z0n z0c,.slice z1a z1n z1c,.slice z2a z2n z2c,.slice z3a z3n z3c] rfl rfl pX (by kernel_rfl) rfl rfl ?_
    intro V8 pX8 g8
    have hbig:=hbA.grown g8 hbA.size (fun q hq=>by cases hq;exact hYV)
    replace qf:=qf.kept g8 (Yu qf pX (by decide))
    obtain ⟨fa9,fc9,ef9,hI8,hGd8⟩:=Z5 qf (fun x hx=>Yf (hfo.1 x hx))
    cases ef9
    clear hGd8 qf
    refine hK.out _ _ ⟨Za hbig _ _ hS0.1,Za hbig _ _ hS0.2.1,Za hbig _ _ hS0.2.2.1,Za hbig _ _ hS0.2.2.2.1,Za hbig _ _ hS0.2.2.2.2.1,Za hbig _ _ hS0.2.2.2.2.2⟩ (fun hS7=>?_)
    clear hK pX g8 hbA hYV pX8
    try simp only [Act.put,tka,tkb,tkc]
    refine tkm 12 9 (.slice fa fs.length fc) ?_
    refine wpAnyH_done (by kernel_rfl) ?_ _
    replace bw:=Zb bw hbig
    replace bq:=Zb bq hbig
    replace q:=Zy q hbig
    clear hbig hS0 hS5 hS6 hS7 pP pS kP hc hL
    obtain ⟨va9,vc9,ev9,hIv,hGv⟩:=Z5 q (fun x hx=>Yf (hlo x hx))
    cases ev9
    have kM:=Wc va (YY rows m j).length vc (YY rows m j) fa fs.length fc fs V8 hIv hI8 (by omega) (by have:=hfo.2;omega)
    clear hIv hGv hI8 q
    go_wp2_with fail
    refine kM.mono ?_
    rintro e V10 ⟨⟨v6,rfl,q6⟩,hb⟩
    have hV8:=bw.size
    have HQ9:Hid (V10.ownsRow w.heap.size 127 3 v6 (YY rows m (j+1)).length (Zl (YY rows m (j+1)))):=by rw [HLS.out];exact Xm q6 hV8
    have bq9:=Zb bq hb
    clear hb q6 kM HLS bq bw
    go_wp2
    go_roundw
    case rel=>exact ⟨j+1,by go_num,by omega,HQ9,bq9⟩
    case measure=>simp [intOf];omega
   have hge2:¬ (j:Int)<(ln:Int):=by omega
   have HG:Hid (Wm (.returned (.slice va vn vc)) wr w.heap.size (ZK rows m)):=by
    rw [← Rp (j:=j) (by omega)]
    exact ⟨_,rfl,q⟩
   clear q hL pP pS
   go_wp2
   go_ret
   exact ⟨HG.out,bw⟩
 have HD:Hid (ZD rows m=[(14,0,0)]):=by rw [Hid];unfold ZD;rw [hst];rfl
 clear hst
 go_wp2_with (at_builtin;refine wpList_append_own_at _ rfl _ _ 28 rfl w.heap.size 127 i0 (.agg #[.int .i64 0,.int .i64 0,.int .i64 0]) 3 24 Tryz.underlying28 hi9 hz0 hz1 hz2 rfl (by decide) _ _ _ rfl (q.alloc _) ⟨w1.heap.size,0,none⟩ 1 1 [.int .i64 14,.int .i64 0,.int .i64 0] rfl rfl (MF (Zj _ _ _ rfl)) (XC _ _ _) ?c3 ?c4 ?c5 ?_)
 case c3=>unfold maxLen;omega
 case c4=>omega
 case c5=>have:=bw.size;simp;omega
 intro v6 w4 q6 gr _ at6
 have ha:Below w1.heap.size w1 (w1.alloc (.cells #[.int .i64 14,.int .i64 0,.int .i64 0] 127)):=by go_grown
 replace pP:=(pP.below ha).kept gr (Zp (q.alloc _) (pP.below ha) (by decide))
 replace pS:=(pS.below ha).kept gr (Zp (q.alloc _) (pS.below ha) (by decide))
 replace bw:=(Zb bw ha).grown gr (Zb bw ha).size (fun k e=>(Ym (q.alloc (.cells #[.int .i64 14,.int .i64 0,.int .i64 0] 127)) e).1)
 have HQ:Hid (w4.ownsRow w.heap.size 127 3 v6 (ZD rows m).length (Zl (ZD rows m))):=by
  rw [HD.out]
  exact q6
 clear q q6 gr at6 ha HD
 have kEx:=kE w4 bw
 clear kE
 go_wp2_with (first | refine Zc rfl 25 _ rfl w.heap.size rfl pP _ Tryz.underlying25 rfl (by kernel_rfl) ?_ | refine Zc rfl 112 _ rfl (w.heap.size+1) rfl pS _ Tryz.underlying112 rfl (by kernel_rfl) ?_)
 refine kEx.mono ?_
 rintro e w6 ⟨⟨⟨la,ln,lc⟩,rfl,hL⟩,hb⟩
 replace bw:=Zb bw hb
 replace pP:=pP.below hb
 replace pS:=pS.below hb
 have HQ2:=key w6 _ (Zy HQ.out hb)
 clear hb kEx HQ key
 have hLn:(Zv rows m 3).length=ln:=by have:=hL.1;simpa using this
 have hl3:=YZ rows m 3
 go_wp2_with fail
 go_loopw [5,7] (fun s5 s7 wr=>∃ j:Nat,s7=.int .i64 j∧j≤ln∧Hid (wr.ownsRow w.heap.size 127 3 s5 (YY rows m j).length (Zl (YY rows m j)))∧Below w6.heap.size w6 wr) (fun _ s7 _=>ln - (intOf s7).toNat)
 case atStart=>exact ⟨0,rfl,Nat.zero_le _,HQ2,Below.refl _ _⟩
 case round =>
  clear HQ2
  obtain ⟨j,rfl,hjn,HQ,bq⟩:=hrel
  have q:=HQ.out
  obtain ⟨va,vn,vc,rfl⟩:=Vw q
  obtain ⟨hlo,hll⟩:=SQ hp hs j
  replace bw:=Zb bw bq
  replace pP:=pP.below bq
  replace pS:=pS.below bq
  replace hL:=hL.below bq
  clear HQ
  by_cases hlt2:j<ln
  ·have hkj:(Zv rows m 3)[j]?=some ((Zv rows m 3).getD j 0):=by rw [List.getD,List.getElem?_eq_getElem (by omega)];rfl
   have hz:=XM (List.mem_of_getElem? hkj)
   obtain ⟨h0k,h2k,hd9,_⟩:=X8 hz
   obtain ⟨k,hk⟩:∃ k:Nat,(Zv rows m 3).getD j 0=(k:Int):=⟨_,(Int.toNat_of_nonneg h0k).symm⟩
   obtain ⟨lb,lo,rfl,hc,hlb⟩:=Vr hL.ints (show j<ln from hlt2)
   rw [hk] at hkj hz hd9 h0k h2k hc
   rw [Int.toNat_natCast] at hd9
   have hk3:k<3:=by omega
   clear hk hlb
   have hfo:=TL hp hs hz
   have HLS:Hid (YY rows m (j+1)=ZL (YY rows m j) (Y3 rows m (k:Int))):=TP hkj
   have kP:=fun (W:World) (b:Below w.heap.size w W)=>Sj (cap:=cap) (hR.below b) (h.below b) hp hs hk3 hd9
   rw [ut] at kP
   generalize (goM rows m (k:Int)).1=z at *
   generalize Y3 rows m (k:Int)=fs at *
   have hlt3:(j:Int)<(ln:Int):=by omega
   have hj0:(0:Int)≤(j:Int):=by omega
   clear hkj hz hd9
   go_wp2_with fail
   have hb9:Below wr.heap.size wr wr.drew:=by go_grown
   refine wp_region_held_drew (S:=(fun w'=>w'.cell? ⟨w.heap.size,0,none⟩=some (.slice a 3 cap)∧w'.cell? ⟨w.heap.size+1,0,none⟩=some (.slice t0a t0n t0c)∧w'.cell? ⟨w.heap.size+1,1,none⟩=some (.slice t1a t1n t1c)∧w'.cell? ⟨w.heap.size+1,2,none⟩=some (.slice t2a t2n t2c)∧w'.cell? ⟨w.heap.size+1,3,none⟩=some (.slice t3a t3n t3c)∧w'.cell? ⟨lb,lo+j,none⟩=some (.int .i64 (k:Int)))) (by kernel_rfl) ⟨by simpa using pP.cell 0,by simpa using pS.cell 0,by simpa using pS.cell 1,by simpa using pS.cell 2,by simpa using pS.cell 3,hc⟩ (fun hS0=>?_)
   refine tkm 0 28 (.agg #[.slice a 3 cap]) ?_
   refine tkm 1 29 (.agg #[.slice t0a t0n t0c,.slice t1a t1n t1c,.slice t2a t2n t2c,.slice t3a t3n t3c]) ?_
   refine tkm 2 30 (.slice (some ⟨lb,lo,none⟩) ln lc) ?_
   refine tkm 3 31 (.int .i64 (j:Int)) ?_
   refine tkm 4 32 (.pointer (some ⟨lb,lo+j,none⟩)) ?_
   refine tkm 5 33 (.int .i64 (k:Int)) ?_
   replace bw:=Zb bw hb9
   replace bq:=Zb bq hb9
   replace q:=Zy q hb9
   clear hb9
   generalize wr.drew=V at *
   refine wpAnyH_ready (rs:=[6,10]) (by kernel_rfl) (by simp) ?_
   refine AllReadyH.cons (o:=⟨some 34,_,_,_,_,_⟩) rfl (fun K hK=>?_) (AllReadyH.cons (o:=⟨some 8,_,_,_,_,_⟩) rfl (fun K hK=>?_) AllReadyH.nil)
   ·have kPx:=kP V bw
    go_simp
    refine kPx.mono ?_
    rintro e V1 ⟨⟨⟨⟨z0a,z0n,z0c⟩,⟨z1a,z1n,z1c⟩,⟨z2a,z2n,z2c⟩,⟨z3a,z3n,z3c⟩⟩,v9,rfl,hO2,qf⟩,hb1⟩
    have uz:S4.val ((z0a,z0n,z0c),(z1a,z1n,z1c),(z2a,z2n,z2c),(z3a,z3n,z3c))=.agg #[.slice z0a z0n z0c,.slice z1a z1n z1c,.slice z2a z2n z2c,.slice z3a z3n z3c]:=rfl
    rw [uz]
    clear uz
    obtain ⟨fa,fc,rfl,hI9,hGd9⟩:=Z5 qf (fun x hx=>Yf (hfo.1 x hx))
    clear hGd9 hO2 hI9
    go_wp2_with fail
    refine hK.out _ _ ⟨Za hb1 _ _ hS0.1,Za hb1 _ _ hS0.2.1,Za hb1 _ _ hS0.2.2.1,Za hb1 _ _ hS0.2.2.2.1,Za hb1 _ _ hS0.2.2.2.2.1,Za hb1 _ _ hS0.2.2.2.2.2⟩ (fun hS5=>?_)
    clear hK kPx
    try simp only [Act.put,tka,tkb,tkc]
    refine tkm 7 27 (.tuple #[.agg #[.slice z0a z0n z0c,.slice z1a z1n z1c,.slice z2a z2n z2c,.slice z3a z3n z3c],.slice fa fs.length fc]) ?_
    refine tkm 8 35 (.agg #[.slice z0a z0n z0c,.slice z1a z1n z1c,.slice z2a z2n z2c,.slice z3a z3n z3c]) ?_
    refine tkm 9 36 (.slice fa fs.length fc) ?_
    refine tkr 10 8 (fun K hK=>?_)
    have hb2:Below V1.heap.size V1 (V1.alloc (.cells #[.slice none 0 0,.slice none 0 0,.slice none 0 0,.slice none 0 0] 112)):=by go_grown
    have pX:Blk (V1.alloc (.cells #[.slice none 0 0,.slice none 0 0,.slice none 0 0,.slice none 0 0] 112)) V1.heap.size 112 [.slice none 0 0,.slice none 0 0,.slice none 0 0,.slice none 0 0]:=Zj _ _ _ rfl
    replace qf:=Zy qf hb2
    have hbA:=Zb hb1 hb2
    have hYV:V.heap.size≤V1.heap.size:=hb1.size
    go_simp
    refine hK.out _ _ ⟨Za hbA _ _ hS0.1,Za hbA _ _ hS0.2.1,Za hbA _ _ hS0.2.2.1,Za hbA _ _ hS0.2.2.2.1,Za hbA _ _ hS0.2.2.2.2.1,Za hbA _ _ hS0.2.2.2.2.2⟩ (fun hS6=>?_)
    clear hK hb1 hb2
    generalize (V1.alloc (.cells #[.slice none 0 0,.slice none 0 0,.slice none 0 0,.slice none 0 0] 112))=V2 at *
    generalize V1.heap.size=Y at *
    try simp only [Act.put,tka,tkb,tkc]
    refine tkz 11 (fun K hK=>?_)
    refine Xu rfl 112 _ _ rfl Y [.slice z0a z0n z0c,.slice z1a z1n z1c,.slice z2a z2n z2c,.slice z3a z3n z3c] rfl rfl pX (by kernel_rfl) rfl rfl ?_
    intro V8 pX8 g8
    have hbig:=hbA.grown g8 hbA.size (fun q hq=>by cases hq;exact hYV)
    replace qf:=qf.kept g8 (Yu qf pX (by decide))
    obtain ⟨fa9,fc9,ef9,hI8,hGd8⟩:=Z5 qf (fun x hx=>Yf (hfo.1 x hx))
    cases ef9
    clear hGd8 qf
    refine hK.out _ _ ⟨Za hbig _ _ hS0.1,Za hbig _ _ hS0.2.1,Za hbig _ _ hS0.2.2.1,Za hbig _ _ hS0.2.2.2.1,Za hbig _ _ hS0.2.2.2.2.1,Za hbig _ _ hS0.2.2.2.2.2⟩ (fun hS7=>?_)
    clear hK pX g8 hbA hYV pX8
    try simp only [Act.put,tka,tkb,tkc]
    refine tkm 12 9 (.slice fa fs.length fc) ?_
    refine wpAnyH_done (by kernel_rfl) ?_ _
    replace bw:=Zb bw hbig
    replace bq:=Zb bq hbig
    replace q:=Zy q hbig
    clear hbig hS0 hS5 hS6 hS7 pP pS kP hc hL
    obtain ⟨va9,vc9,ev9,hIv,hGv⟩:=Z5 q (fun x hx=>Yf (hlo x hx))
    cases ev9
    have kM:=Wc va (YY rows m j).length vc (YY rows m j) fa fs.length fc fs V8 hIv hI8 (by omega) (by have:=hfo.2;omega)
    clear hIv hGv hI8 q
    go_wp2_with fail
    refine kM.mono ?_
    rintro e V10 ⟨⟨v6,rfl,q6⟩,hb⟩
    have hV8:=bw.size
    have HQ9:Hid (V10.ownsRow w.heap.size 127 3 v6 (YY rows m (j+1)).length (Zl (YY rows m (j+1)))):=by rw [HLS.out];exact Xm q6 hV8
    have bq9:=Zb bq hb
    clear hb q6 kM HLS bq bw
    go_wp2
    go_roundw
    case rel=>exact ⟨j+1,by go_num,by omega,HQ9,bq9⟩
    case measure=>simp [intOf];omega
   have hb1:Below V.heap.size V (V.alloc (.cells #[.slice none 0 0,.slice none 0 0,.slice none 0 0,.slice none 0 0] 112)):=by go_grown
   have pX:Blk (V.alloc (.cells #[.slice none 0 0,.slice none 0 0,.slice none 0 0,.slice none 0 0] 112)) V.heap.size 112 [.slice none 0 0,.slice none 0 0,.slice none 0 0,.slice none 0 0]:=Zj _ _ _ rfl
   have hYV:V.heap.size≤V.heap.size:=Nat.le_refl _
   go_simp
   refine hK.out _ _ ⟨Za hb1 _ _ hS0.1,Za hb1 _ _ hS0.2.1,Za hb1 _ _ hS0.2.2.1,Za hb1 _ _ hS0.2.2.2.1,Za hb1 _ _ hS0.2.2.2.2.1,Za hb1 _ _ hS0.2.2.2.2.2⟩ (fun hS6=>?_)
   clear hK
   have kPx:=kP _ (Zb bw hb1)
   generalize (V.alloc (.cells #[.slice none 0 0,.slice none 0 0,.slice none 0 0,.slice none 0 0] 112))=V2 at *
   obtain ⟨Y,hY⟩:∃ Y,Y=V.heap.size:=⟨_,rfl⟩
   rw [← hY] at pX hYV ⊢
   replace hYV:V.heap.size≤Y:=by omega
   clear hY
   try simp only [Act.put,tka,tkb,tkc]
   refine tkr 6 34 (fun K hK=>?_)
   go_simp
   refine kPx.mono ?_
   rintro e V3 ⟨⟨⟨⟨z0a,z0n,z0c⟩,⟨z1a,z1n,z1c⟩,⟨z2a,z2n,z2c⟩,⟨z3a,z3n,z3c⟩⟩,v9,rfl,hO2,qf⟩,hb2⟩
   have uz:S4.val ((z0a,z0n,z0c),(z1a,z1n,z1c),(z2a,z2n,z2c),(z3a,z3n,z3c))=.agg #[.slice z0a z0n z0c,.slice z1a z1n z1c,.slice z2a z2n z2c,.slice z3a z3n z3c]:=rfl
   rw [uz]
   clear uz
   obtain ⟨fa,fc,rfl,hI9,hGd9⟩:=Z5 qf (fun x hx=>Yf (hfo.1 x hx))
   clear hGd9 hO2 hI9
   go_wp2_with fail
   have hbA:=Zb hb1 hb2
   replace pX:=pX.below hb2
   refine hK.out _ _ ⟨Za hbA _ _ hS0.1,Za hbA _ _ hS0.2.1,Za hbA _ _ hS0.2.2.1,Za hbA _ _ hS0.2.2.2.1,Za hbA _ _ hS0.2.2.2.2.1,Za hbA _ _ hS0.2.2.2.2.2⟩ (fun hS5=>?_)
   clear hK kPx hb1 hb2
   try simp only [Act.put,tka,tkb,tkc]
   refine tkm 7 27 (.tuple #[.agg #[.slice z0a z0n z0c,.slice z1a z1n z1c,.slice z2a z2n z2c,.slice z3a z3n z3c],.slice fa fs.length fc]) ?_
   refine tkm 8 35 (.agg #[.slice z0a z0n z0c,.slice z1a z1n z1c,.slice z2a z2n z2c,.slice z3a z3n z3c]) ?_
   refine tkm 9 36 (.slice fa fs.length fc) ?_
   refine tkz 11 (fun K hK=>?_)
   refine Xu rfl 112 _ _ rfl Y [.slice z0a z0n z0c,.slice z1a z1n z1c,.slice z2a z2n z2c,.slice z3a z3n z3c] rfl rfl pX (by kernel_rfl) rfl rfl ?_
   intro V8 pX8 g8
   have hbig:=hbA.grown g8 hbA.size (fun q hq=>by cases hq;exact hYV)
   replace qf:=qf.kept g8 (Yu qf pX (by decide))
   obtain ⟨fa9,fc9,ef9,hI8,hGd8⟩:=Z5 qf (fun x hx=>Yf (hfo.1 x hx))
   cases ef9
   clear hGd8 qf
   refine hK.out _ _ ⟨Za hbig _ _ hS0.1,Za hbig _ _ hS0.2.1,Za hbig _ _ hS0.2.2.1,Za hbig _ _ hS0.2.2.2.1,Za hbig _ _ hS0.2.2.2.2.1,Za hbig _ _ hS0.2.2.2.2.2⟩ (fun hS7=>?_)
   clear hK pX g8 hbA hYV pX8
   try simp only [Act.put,tka,tkb,tkc]
   refine tkm 12 9 (.slice fa fs.length fc) ?_
   refine wpAnyH_done (by kernel_rfl) ?_ _
   replace bw:=Zb bw hbig
   replace bq:=Zb bq hbig
   replace q:=Zy q hbig
   clear hbig hS0 hS5 hS6 hS7 pP pS kP hc hL
   obtain ⟨va9,vc9,ev9,hIv,hGv⟩:=Z5 q (fun x hx=>Yf (hlo x hx))
   cases ev9
   have kM:=Wc va (YY rows m j).length vc (YY rows m j) fa fs.length fc fs V8 hIv hI8 (by omega) (by have:=hfo.2;omega)
   clear hIv hGv hI8 q
   go_wp2_with fail
   refine kM.mono ?_
   rintro e V10 ⟨⟨v6,rfl,q6⟩,hb⟩
   have hV8:=bw.size
   have HQ9:Hid (V10.ownsRow w.heap.size 127 3 v6 (YY rows m (j+1)).length (Zl (YY rows m (j+1)))):=by rw [HLS.out];exact Xm q6 hV8
   have bq9:=Zb bq hb
   clear hb q6 kM HLS bq bw
   go_wp2
   go_roundw
   case rel=>exact ⟨j+1,by go_num,by omega,HQ9,bq9⟩
   case measure=>simp [intOf];omega
  have hge2:¬ (j:Int)<(ln:Int):=by omega
  have HG:Hid (Wm (.returned (.slice va vn vc)) wr w.heap.size (ZK rows m)):=by
   rw [← Rp (j:=j) (by omega)]
   exact ⟨_,rfl,q⟩
  clear q hL pP pS
  go_wp2
  go_ret
  exact ⟨HG.out,bw⟩

end Go.Proofs.YtnffeclgboomoaaGreatDoor
