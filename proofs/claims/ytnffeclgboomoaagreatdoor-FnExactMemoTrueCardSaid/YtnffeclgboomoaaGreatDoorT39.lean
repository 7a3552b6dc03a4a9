/-
  Joined: FftP, FulC, ChkP, ChkQ, ChkR, ChkS, ChkV, Vj0P.
-/
import Derived.Carry
import Derived.Test.YtnffeclgboomoaaGreatDoorT21
import Derived.Test.YtnffeclgboomoaaGreatDoorT27
import Derived.Test.YtnffeclgboomoaaGreatDoorT35
import Derived.Test.YtnffeclgboomoaaGreatDoorT38

namespace Go.Proofs.YtnffeclgboomoaaGreatDoor
set_option maxRecDepth 100000
set_option maxHeartbeats 16000000
open Go.RowKit
set_option linter.unusedVariables false

theorem Sj (rows:List (List I3)) (f:Nat) (m:V4):m ∈ Xf rows f m:=by cases f<;>simp [Xf]
theorem Un {rows:List (List I3)} (hp:Zj rows=true):∀ (f:Nat) (m:V4),Zd m=true→ZU rows m≤f→∀ x ∈ Xf rows f m,∀ t ∈ nxM rows x,t.2 ∈ Xf rows f m
 | 0,m,hs,hl,x,hx,t,ht=>by
  have e:x=m:=by simpa [Xf] using hx
  subst e
  unfold nxM at ht
  rw [Ks hp hs (by omega)] at ht
  simp at ht
 | f+1,m,hs,hl,x,hx,t,ht=>by
  have hx2:x=m∨x ∈ (nxM rows m).flatMap fun t=>Xf rows f t.2:=by simpa [Xf] using hx
  show t.2 ∈ m::(nxM rows m).flatMap fun t=>Xf rows f t.2
  rcases hx2 with rfl | hx2
  ·exact List.mem_cons_of_mem _ (List.mem_flatMap.2 ⟨t,ht,Sj rows f t.2⟩)
  obtain ⟨u,hu,hxu⟩:=List.mem_flatMap.1 hx2
  obtain ⟨h1,h2⟩:=PO hu
  have hsu:=Jj hp hs hu
  have hlu:=UB hp hs h1
  rw [← h2] at hlu
  exact List.mem_cons_of_mem _ (List.mem_flatMap.2 ⟨u,hu,Un hp f u.2 hsu (by omega) x hxu t ht⟩)
theorem RT:∀ (xs:List Int) (a b:Int),xs.Pairwise (· < ·)→(∀ x ∈ xs,a≤x∧x≤b)→(xs.length:Int)≤max (b - a+1) 0
 | [],a,b,_,_=>by simp;omega
 | x::xs,a,b,h,hb=>by
  obtain ⟨h1,h2⟩:=List.pairwise_cons.1 h
  have hx:=hb x (by simp)
  have ih:=RT xs (x+1) b h2 (fun y hy=>⟨by have:=h1 y hy;omega,(hb y (by simp [hy])).2⟩)
  simp only [List.length_cons,Int.natCast_add,Int.natCast_one]
  omega


def ZA (rows:List (List I3)) (m:V4):List I3:=(Zn rows m 3).foldl (fun out k=>ZD out (Y6 rows m k)) (ZB rows m)
theorem NN {f:Int→List I3} {x:I3}:∀ (ks:List Int) (out:List I3),x ∈ ks.foldl (fun out k=>ZD out (f k)) out↔x ∈ out∨∃ k ∈ ks,x ∈ f k
 | [],out=>by simp
 | k::ks,out=>by
  rw [List.foldl_cons,NN ks,YM]
  simp only [List.mem_cons,exists_eq_or_imp,or_assoc]
theorem RE {rows:List (List I3)} {m:V4} {x:I3}:x ∈ ZA rows m↔x ∈ ZB rows m∨∃ k ∈ Zn rows m 3,x ∈ Y6 rows m k:=NN _ _
theorem US {rows:List (List I3)} {m:V4} {k:Int} {x:I3}:x ∈ Y6 rows m k↔x ∈ XO rows m k∨x ∈ ZB rows (goM rows m k).1:=by
 unfold Y6 ZB
 split
 ·rw [Wg]
  simp
 simp

set_option linter.unusedSimpArgs false

def cmB (rows:List (List I3)) (f:Nat) (m:V4):List I3:=ZD ((Xf rows f m).flatMap (ZA rows)) []
def cmF (rows:List (List I3)) (f:Nat) (m:V4):List Int:=Yh ((Xf rows f m).flatMap Zr)
def YU (rows:List (List I3)) (f:Nat) (m:V4):E3:=(Zs m,cmB rows f m,cmF rows f m)
theorem Ts {rows:List (List I3)} {f:Nat} {m:V4} {x:I3}:x ∈ cmB rows f m↔∃ s ∈ Xf rows f m,x ∈ ZA rows s:=by
 unfold cmB
 rw [YM,List.mem_flatMap]
 simp
theorem Tt {rows:List (List I3)} {f:Nat} {m:V4} {y:Int}:y ∈ cmF rows f m↔∃ s ∈ Xf rows f m,y ∈ Zr s:=by
 unfold cmF
 rw [XE,List.mem_flatMap]
theorem QU {σ:Type} {f:σ→List I3} {x:I3}:∀ (ks:List σ) (out:List I3),x ∈ ks.foldl (fun out k=>ZD out (f k)) out↔x ∈ out∨∃ k ∈ ks,x ∈ f k
 | [],out=>by simp
 | k::ks,out=>by
  rw [List.foldl_cons,QU ks,YM]
  simp only [List.mem_cons,exists_eq_or_imp,or_assoc]
theorem Uf {σ:Type} {f:σ→List I3}:∀ (ks:List σ) (out:List I3),Ys out→Ys (ks.foldl (fun out k=>ZD out (f k)) out)
 | [],out,h=>h
 | k::ks,out,h=>Uf ks _ (YK _ _)
theorem Nd (rows:List (List I3)) (m:V4):Ys (ZB rows m):=by
 unfold ZB
 split
 ·exact List.pairwise_singleton _ _
 exact List.Pairwise.nil
theorem Vu (rows:List (List I3)) (m:V4):Ys (ZA rows m):=Uf _ _ (Nd rows m)
theorem J5 (rows:List (List I3)) (f:Nat) (m:V4):(nxM rows m).foldl (fun out t=>ZD out (cmB rows f t.2)) (ZA rows m)=cmB rows (f+1) m:=by
 refine (Uf _ _ (Vu rows m)).same (YK _ _) (fun x=>?_)
 rw [QU]
 rw [Ts]
 simp only [Xf,List.mem_cons,List.mem_flatMap,Ts]
 constructor
 ·rintro (h | ⟨t,ht,s,hs,hx⟩)
  ·exact ⟨m,.inl rfl,h⟩
  exact ⟨s,.inr ⟨t,ht,hs⟩,hx⟩
 rintro ⟨s,rfl | ⟨t,ht,hs⟩,hx⟩
 ·exact .inl hx
 exact .inr ⟨t,ht,s,hs,hx⟩
theorem QT {σ:Type} {f:σ→List Int} {y:Int}:∀ (ks:List σ) (out:List Int),y ∈ ks.foldl (fun out k=>Yh (out++f k)) out↔y ∈ out∨∃ k ∈ ks,y ∈ f k
 | [],out=>by simp
 | k::ks,out=>by
  rw [List.foldl_cons,QT ks,XE,List.mem_append]
  simp only [List.mem_cons,exists_eq_or_imp,or_assoc]
theorem SD {σ:Type} {f:σ→List Int}:∀ (ks:List σ) (out:List Int),out.Pairwise (· < ·)→(ks.foldl (fun out k=>Yh (out++f k)) out).Pairwise (· < ·)
 | [],out,h=>h
 | k::ks,out,h=>SD ks _ (YN _)
theorem VY {m:V4} (h:Zd m=true):(Zr m).Pairwise (· < ·):=by
 have hp:∀ i,i<3→0≤m.1.getD i 0∧m.1.getD i 0≤6:=by
  intro i hi
  unfold Zd YC at h
  simp only [Bool.and_eq_true,List.all_eq_true,decide_eq_true_eq] at h
  have hl:m.1.length=3:=by omega
  have:=h.1.1 (m.1.getD i 0) (by rw [List.getD,List.getElem?_eq_getElem (by omega)];exact List.getElem_mem _)
  exact this
 have h0:=hp 0 (by omega)
 have h1:=hp 1 (by omega)
 have h2:=hp 2 (by omega)
 unfold Zr
 simp only [List.pairwise_cons,List.mem_cons,List.not_mem_nil,or_false,List.Pairwise.nil,and_true]
 refine ⟨?_,?_,?_⟩
 ·rintro a (rfl | rfl)<;>omega
 ·rintro a rfl;omega
 simp
theorem J6 {rows:List (List I3)} (f:Nat) {m:V4} (h:Zd m=true):(nxM rows m).foldl (fun out t=>Yh (out++cmF rows f t.2)) (Zr m)=cmF rows (f+1) m:=by
 refine RU (SD _ _ (VY h)) (YN _) (fun y=>?_)
 rw [QT]
 rw [Tt]
 simp only [Xf,List.mem_cons,List.mem_flatMap,Tt]
 constructor
 ·rintro (h | ⟨t,ht,s,hs,hx⟩)
  ·exact ⟨m,.inl rfl,h⟩
  exact ⟨s,.inr ⟨t,ht,hs⟩,hx⟩
 rintro ⟨s,rfl | ⟨t,ht,hs⟩,hx⟩
 ·exact .inl hx
 exact .inr ⟨t,ht,s,hs,hx⟩


abbrev Zv:=List E3 × Nat
def Yj (rec:V4→Zv→E3 × Zv × Bool):List (Int × V4)→E3→Zv→E3 × Zv × Bool
 | [],e,st=>(e,st,true)
 | t::ts,e,st=>if (rec t.2 st).2.2=true then Yj rec ts (e.1,ZD e.2.1 (rec t.2 st).1.2.1,Yh (e.2.2++(rec t.2 st).1.2.2)) (rec t.2 st).2.1 else (e3d,(rec t.2 st).2.1,false)
def ZF (rows:List (List I3)):Nat→V4→Zv→E3 × Zv × Bool
 | 0,_,st=>(e3d,st,false)
 | f+1,m,st =>
  if isE st.1 (Zs m)=true then (WS st.1 (Zs m),st,true)
  else if st.1.length=2000 then (e3d,st,false)
  else if (Yj (ZF rows f) (nxM rows m) (Zs m,ZA rows m,Zr m) (st.1,st.2+1)).2.2=true then
   (if (Yj (ZF rows f) (nxM rows m) (Zs m,ZA rows m,Zr m) (st.1,st.2+1)).2.1.1.length=2000 then (e3d,(Yj (ZF rows f) (nxM rows m) (Zs m,ZA rows m,Zr m) (st.1,st.2+1)).2.1,false)
    else ((Yj (ZF rows f) (nxM rows m) (Zs m,ZA rows m,Zr m) (st.1,st.2+1)).1,(Xc (Yj (ZF rows f) (nxM rows m) (Zs m,ZA rows m,Zr m) (st.1,st.2+1)).2.1.1 (Yj (ZF rows f) (nxM rows m) (Zs m,ZA rows m,Zr m) (st.1,st.2+1)).1,(Yj (ZF rows f) (nxM rows m) (Zs m,ZA rows m,Zr m) (st.1,st.2+1)).2.1.2),true))
  else (e3d,(Yj (ZF rows f) (nxM rows m) (Zs m,ZA rows m,Zr m) (st.1,st.2+1)).2.1,false)
theorem TT {rows:List (List I3)} (C:V4→Prop) (hC:∀ x,C x→∀ t ∈ nxM rows x,C t.2):∀ (f:Nat) (m:V4),C m→∀ x ∈ Xf rows f m,C x
 | 0,m,h,x,hx=>by
  simp only [Xf,List.mem_singleton] at hx
  subst hx
  exact h
 | f+1,m,h,x,hx=>by
  simp only [Xf,List.mem_cons,List.mem_flatMap] at hx
  rcases hx with rfl | ⟨t,ht,hx⟩
  ·exact h
  exact TT C hC f t.2 (hC m h t ht) x hx
theorem TS {rows:List (List I3)} (hp:Zj rows=true) {f g:Nat} {m:V4} (hs:Zd m=true) (hf:ZU rows m≤f) (hg:ZU rows m≤g) (x:V4):x ∈ Xf rows f m↔x ∈ Xf rows g m:=
 ⟨TT (· ∈ Xf rows g m) (fun y hy t ht=>Un hp g m hs hg y hy t ht) f m (Sj rows g m) x,TT (· ∈ Xf rows f m) (fun y hy t ht=>Un hp f m hs hf y hy t ht) g m (Sj rows f m) x⟩
theorem Ur (rows:List (List I3)) (f:Nat) (m:V4):Ys (cmB rows f m):=YK _ _
theorem T1 (rows:List (List I3)) (f:Nat) (m:V4):(cmF rows f m).Pairwise (· < ·):=YN _
theorem Hb {rows:List (List I3)} (hp:Zj rows=true) {f g:Nat} {m:V4} (hs:Zd m=true) (hf:ZU rows m≤f) (hg:ZU rows m≤g):YU rows f m=YU rows g m:=by
 have hB:cmB rows f m=cmB rows g m:=(Ur rows f m).same (Ur rows g m) (fun x=>by
  rw [Ts,Ts]
  constructor
  ·rintro ⟨s,h,hx⟩;exact ⟨s,(TS hp hs hf hg s).1 h,hx⟩
  rintro ⟨s,h,hx⟩;exact ⟨s,(TS hp hs hf hg s).2 h,hx⟩)
 have hF:cmF rows f m=cmF rows g m:=RU (T1 rows f m) (T1 rows g m) (fun y=>by
  rw [Tt,Tt]
  constructor
  ·rintro ⟨s,h,hx⟩;exact ⟨s,(TS hp hs hf hg s).1 h,hx⟩
  rintro ⟨s,h,hx⟩;exact ⟨s,(TS hp hs hf hg s).2 h,hx⟩)
 unfold YU
 rw [hB,hF]
theorem Rp {rows:List (List I3)} (f:Nat) (k:ByteArray):∀ (ts:List (Int × V4)) (b:List I3) (z:List Int),ts.foldl (fun (e:E3) t=>(e.1,ZD e.2.1 (cmB rows f t.2),Yh (e.2.2++cmF rows f t.2))) (k,b,z)=(k,ts.foldl (fun out t=>ZD out (cmB rows f t.2)) b,ts.foldl (fun out t=>Yh (out++cmF rows f t.2)) z)
 | [],b,z=>rfl
 | t::ts,b,z=>by
  rw [List.foldl_cons,List.foldl_cons,List.foldl_cons]
  exact Rp f k ts _ _
theorem Kw {rows:List (List I3)} (f:Nat) {m:V4} (h:Zd m=true):(nxM rows m).foldl (fun (e:E3) t=>(e.1,ZD e.2.1 (cmB rows f t.2),Yh (e.2.2++cmF rows f t.2))) (Zs m,ZA rows m,Zr m)=YU rows (f+1) m:=by
 rw [Rp,J5,J6 f h]
 rfl
def XZ (rows:List (List I3)) (es:List E3):Prop:=Yu es=true∧∀ e ∈ es,∃ s,Zd s=true∧e=YU rows 18 s
theorem XZ.found {rows:List (List I3)} {es:List E3} (h:XZ rows es) {m:V4} (hs:Zd m=true) (hi:isE es (Zs m)=true):WS es (Zs m)=YU rows 18 m:=by
 have hf:=hi
 unfold isE at hi
 simp only [Bool.and_eq_true,decide_eq_true_eq] at hi
 unfold WS
 rw [if_pos hf]
 have hm:es.getD (ZY es (Zs m)) e3d ∈ es:=by rw [List.getD,List.getElem?_eq_getElem hi.1];exact List.getElem_mem _
 obtain ⟨s,h1,h2⟩:=h.2 _ hm
 have hk:(es.getD (ZY es (Zs m)) e3d).1=Zs m:=by
  have:=hi.2
  simpa using this
 rw [h2] at hk ⊢
 have:s=m:=WD h1 hs hk
 rw [this]


def YV (rows:List (List I3)) (L:Nat) (st st':Zv):Prop:=XZ rows st'.1∧(∀ e ∈ st.1,e ∈ st'.1)∧(∀ e ∈ st'.1,e ∈ st.1∨∃ s,Zd s=true∧ZU rows s<L∧e=YU rows 18 s)∧st'.1.length+st.2=st.1.length+st'.2
theorem YV.refl {rows:List (List I3)} {L:Nat} {st:Zv} (h:XZ rows st.1):YV rows L st st:=⟨h,fun e he=>he,fun e he=>.inl he,rfl⟩
theorem YV.trans {rows:List (List I3)} {L:Nat} {a b c:Zv} (h:YV rows L a b) (k:YV rows L b c):YV rows L a c:=
 ⟨k.1,fun e he=>k.2.1 e (h.2.1 e he),fun e he=>by
  rcases k.2.2.1 e he with h9 | h9
  ·exact h.2.2.1 e h9
  exact .inr h9,by have:=h.2.2.2;have:=k.2.2.2;omega⟩
theorem YV.mono {rows:List (List I3)} {L L':Nat} {a b:Zv} (h:YV rows L a b) (hL:L≤L'):YV rows L' a b:=
 ⟨h.1,h.2.1,fun e he=>by
  rcases h.2.2.1 e he with h9 | ⟨s,h1,h2,h3⟩
  ·exact .inl h9
  exact .inr ⟨s,h1,by omega,h3⟩,h.2.2.2⟩
theorem Ph {rows:List (List I3)} {L:Nat} {rec:V4→Zv→E3 × Zv × Bool}:∀ (ts:List (Int × V4)) (e:E3) (st:Zv),(∀ t ∈ ts,∀ st:Zv,XZ rows st.1→(rec t.2 st).2.2=true→(rec t.2 st).1=YU rows 18 t.2∧YV rows L st (rec t.2 st).2.1)→XZ rows st.1→(Yj rec ts e st).2.2=true →
  (Yj rec ts e st).1=ts.foldl (fun (e:E3) t=>(e.1,ZD e.2.1 (cmB rows 18 t.2),Yh (e.2.2++cmF rows 18 t.2))) e∧YV rows L st (Yj rec ts e st).2.1
 | [],e,st,hr,ht,hk=>⟨rfl,YV.refl ht⟩
 | t::ts,e,st,hr,ht,hk=>by
  unfold Yj at hk ⊢
  by_cases h:(rec t.2 st).2.2=true
  ·rw [if_pos h] at hk ⊢
   obtain ⟨h1,h2⟩:=hr t (List.mem_cons_self ..) st ht h
   obtain ⟨h3,h4⟩:=Ph ts _ _ (fun t' ht'=>hr t' (List.mem_cons_of_mem _ ht')) h2.1 hk
   refine ⟨?_,h2.trans h4⟩
   rw [h3,h1]
   rfl
  rw [if_neg h] at hk
  cases hk
theorem Mp {rows:List (List I3)} (hp:Zj rows=true) (hE:∀ s,Zd s=true→ZS (YU rows 18 s)=true) (hG:∀ m,Zd m=true→ZU rows m≤18) (hN:∀ m,Zd m=true→∀ t ∈ nxM rows m,Zd t.2=true∧ZU rows t.2<ZU rows m) :
  ∀ (f:Nat) (m:V4) (st:Zv),Zd m=true→ZU rows m<f→XZ rows st.1→(ZF rows f m st).2.2=true→(ZF rows f m st).1=YU rows 18 m∧YV rows (ZU rows m+1) st (ZF rows f m st).2.1∧YU rows 18 m ∈ (ZF rows f m st).2.1.1
 | 0,m,st,hs,hf,ht,hk=>by omega
 | f+1,m,st,hs,hf,ht,hk=>by
  unfold ZF at hk ⊢
  by_cases h1:isE st.1 (Zs m)=true
  ·rw [if_pos h1]
   refine ⟨ht.found hs h1,YV.refl ht,?_⟩
   obtain ⟨e,he,hek⟩:=(SZ ht.1 (k:=Zs m)).1 h1
   obtain ⟨s,g1,g2⟩:=ht.2 e he
   have:s=m:=WD g1 hs (by rw [g2] at hek;exact hek)
   subst this
   rw [← g2]
   exact he
  rw [if_neg h1] at hk ⊢
  by_cases h2:st.1.length=2000
  ·rw [if_pos h2] at hk
   cases hk
  rw [if_neg h2] at hk ⊢
  have key:=Ph (rows:=rows) (L:=ZU rows m) (rec:=ZF rows f) (nxM rows m) (Zs m,ZA rows m,Zr m) (st.1,st.2+1) (fun t htm st' ht' hk'=>by
   obtain ⟨q1,q2⟩:=hN m hs t htm
   obtain ⟨r1,r2,_⟩:=Mp hp hE hG hN f t.2 st' q1 (by omega) ht' hk'
   exact ⟨r1,r2.mono (by omega)⟩) ht
  generalize Yj (ZF rows f) (nxM rows m) (Zs m,ZA rows m,Zr m) (st.1,st.2+1)=R at *
  by_cases h3:R.2.2=true
  ·rw [if_pos h3] at hk ⊢
   obtain ⟨k1,k2⟩:=key h3
   rw [Kw 18 hs,Hb hp hs (Nat.le_trans (hG m hs) (by omega)) (hG m hs)] at k1
   by_cases h4:R.2.1.1.length=2000
   ·rw [if_pos h4] at hk
    cases hk
   rw [if_neg h4]
   simp only
   rw [k1]
   have hni:isE R.2.1.1 (Zs m)=false:=by
    cases hi:isE R.2.1.1 (Zs m)
    ·rfl
    exfalso
    obtain ⟨e,he,hek⟩:=(SZ k2.1.1 (k:=Zs m)).1 hi
    rcases k2.2.2.1 e he with h9 | ⟨s,s1,s2,s3⟩
    ·exact h1 ((SZ ht.1 (k:=Zs m)).2 ⟨e,h9,hek⟩)
    have:s=m:=WD s1 hs (by rw [s3] at hek;exact hek)
    subst this
    omega
   have hlen:=Xs k2.1.1
   have hput:Yu (Xc R.2.1.1 (YU rows 18 m))=true:=GX k2.1.1 (hE m hs) (.inr (by omega))
   have hmem:∀ e,e ∈ Xc R.2.1.1 (YU rows 18 m)↔e=YU rows 18 m∨e ∈ R.2.1.1:=by
    intro e
    unfold Xc
    rw [show (YU rows 18 m).1=Zs m from rfl,hni]
    simp only [List.mem_append,List.mem_singleton,Bool.false_eq_true,if_false]
    constructor
    ·rintro ((h | h) | h)
     ·exact .inr (List.mem_of_mem_take h)
     ·exact .inl h
     exact .inr (List.mem_of_mem_drop h)
    rintro (h | h)
    ·exact .inl (.inr h)
    rw [← List.take_append_drop (ZY R.2.1.1 (Zs m)) R.2.1.1] at h
    rcases List.mem_append.1 h with h | h
    ·exact .inl (.inl h)
    exact .inr h
   refine ⟨rfl,⟨⟨hput,fun e he=>?_⟩,fun e he=>(hmem e).2 (.inr (k2.2.1 e he)),fun e he=>?_,?_⟩,(hmem _).2 (.inl rfl)⟩
   ·rcases (hmem e).1 he with h9 | h9
    ·exact ⟨m,hs,h9⟩
    exact k2.1.2 e h9
   ·rcases (hmem e).1 he with h9 | h9
    ·exact .inr ⟨m,hs,by omega,h9⟩
    rcases k2.2.2.1 e h9 with h8 | ⟨s,s1,s2,s3⟩
    ·exact .inl h8
    exact .inr ⟨s,s1,by omega,s3⟩
   have hl:=TK (es:=R.2.1.1) (e:=YU rows 18 m)
   rw [show (YU rows 18 m).1=Zs m from rfl,hni] at hl
   have:=k2.2.2.2
   simp at hl this ⊢
   omega
  rw [if_neg h3] at hk
  cases hk


theorem VW {rows:List (List I3)} (hp:Zj rows=true) (m:V4):ZU rows m≤18:=by
 obtain ⟨h3,hr⟩:=Ws hp
 have hc:∀ k,k<3→(Xn rows k).length≤6:=fun k hk=>by
  unfold Xn
  rw [List.getD,List.getElem?_eq_getElem (by omega)]
  exact (hr _ (List.getElem_mem _)).1
 have h0:=hc 0 (by omega)
 have h1:=hc 1 (by omega)
 have h2:=hc 2 (by omega)
 unfold ZU Qr
 omega
theorem Wl {rows:List (List I3)} (hp:Zj rows=true) {m:V4} (hs:Zd m=true):∀ t ∈ nxM rows m,Zd t.2=true∧ZU rows t.2<ZU rows m:=by
 intro t ht
 unfold nxM at ht
 obtain ⟨k,hk,rfl⟩:=List.mem_map.1 ht
 have hh:=Xi hk
 have:=UB hp hs hh
 exact ⟨T6 hp hs hh,by show ZU rows (goM rows m k).1<ZU rows m;omega⟩
theorem FQ {rows:List (List I3)} (hp:Zj rows=true) (hE:∀ s,Zd s=true→ZS (YU rows 18 s)=true) {f:Nat} {m:V4} {st:Zv} (hs:Zd m=true) (hf:ZU rows m<f) (ht:XZ rows st.1) (hk:(ZF rows f m st).2.2=true):(ZF rows f m st).1=YU rows 18 m∧YV rows (ZU rows m+1) st (ZF rows f m st).2.1∧YU rows 18 m ∈ (ZF rows f m st).2.1.1:=
 Mp hp hE (fun m _=>VW hp m) (fun m hs t ht=>Wl hp hs t ht) f m st hs hf ht hk


def XG (rows:List (List I3)) (L:Nat) (st st':Zv):Prop:=UpR st'.1∧(∀ e ∈ st.1,e ∈ st'.1)∧(∀ e ∈ st'.1,e ∈ st.1∨∃ s,Zd s=true∧ZU rows s<L∧e.1=Zs s)∧st.2≤st'.2∧st'.1.length+st.2=st.1.length+st'.2
theorem XG.refl {rows:List (List I3)} {L:Nat} {st:Zv} (h:UpR st.1):XG rows L st st:=⟨h,fun e he=>he,fun e he=>.inl he,Nat.le_refl _,rfl⟩
theorem XG.trans {rows:List (List I3)} {L:Nat} {a b c:Zv} (h:XG rows L a b) (k:XG rows L b c):XG rows L a c:=
 ⟨k.1,fun e he=>k.2.1 e (h.2.1 e he),fun e he=>by
  rcases k.2.2.1 e he with h9 | h9
  ·exact h.2.2.1 e h9
  exact .inr h9,Nat.le_trans h.2.2.2.1 k.2.2.2.1,by have:=h.2.2.2.2;have:=k.2.2.2.2;omega⟩
theorem XG.mono {rows:List (List I3)} {L L':Nat} {a b:Zv} (h:XG rows L a b) (hL:L≤L'):XG rows L' a b:=
 ⟨h.1,h.2.1,fun e he=>by
  rcases h.2.2.1 e he with h9 | ⟨s,h1,h2,h3⟩
  ·exact .inl h9
  exact .inr ⟨s,h1,by omega,h3⟩,h.2.2.2⟩
theorem Uo {rows:List (List I3)} {L:Nat} {rec:V4→Zv→E3 × Zv × Bool}:∀ (ts:List (Int × V4)) (e:E3) (st:Zv),(∀ t ∈ ts,∀ st:Zv,UpR st.1→(rec t.2 st).2.2=true→XG rows L st (rec t.2 st).2.1)→UpR st.1→(Yj rec ts e st).2.2=true→XG rows L st (Yj rec ts e st).2.1
 | [],e,st,hr,ht,hk=>XG.refl ht
 | t::ts,e,st,hr,ht,hk=>by
  unfold Yj at hk ⊢
  by_cases h:(rec t.2 st).2.2=true
  ·rw [if_pos h] at hk ⊢
   have h2:=hr t (List.mem_cons_self ..) st ht h
   exact h2.trans (Uo ts _ _ (fun t' ht'=>hr t' (List.mem_cons_of_mem _ ht')) h2.1 hk)
  rw [if_neg h] at hk
  cases hk
theorem Qe (rec:V4→Zv→E3 × Zv × Bool):∀ (ts:List (Int × V4)) (e:E3) (st:Zv),(Yj rec ts e st).2.2=true→(Yj rec ts e st).1.1=e.1
 | [],e,st,hk=>rfl
 | t::ts,e,st,hk=>by
  unfold Yj at hk ⊢
  by_cases h:(rec t.2 st).2.2=true
  ·rw [if_pos h] at hk ⊢
   exact Qe rec ts _ _ hk
  rw [if_neg h] at hk
  cases hk
theorem WQ {rows:List (List I3)} (hp:Zj rows=true):∀ (f:Nat) (m:V4) (st:Zv),Zd m=true→UpR st.1→(ZF rows f m st).2.2=true→XG rows (ZU rows m+1) st (ZF rows f m st).2.1
 | 0,m,st,hs,ht,hk=>by unfold ZF at hk;cases hk
 | f+1,m,st,hs,ht,hk=>by
  unfold ZF at hk ⊢
  by_cases h1:isE st.1 (Zs m)=true
  ·rw [if_pos h1]
   exact XG.refl ht
  rw [if_neg h1] at hk ⊢
  by_cases h2:st.1.length=2000
  ·rw [if_pos h2] at hk
   cases hk
  rw [if_neg h2] at hk ⊢
  have key:=Uo (rows:=rows) (L:=ZU rows m) (rec:=ZF rows f) (nxM rows m) (Zs m,ZA rows m,Zr m) (st.1,st.2+1) (fun t htm st' ht' hk'=>by
   obtain ⟨q1,q2⟩:=Wl hp hs t htm
   exact (WQ hp f t.2 st' q1 ht' hk').mono (by omega)) ht
  have hkey:=Qe (ZF rows f) (nxM rows m) (Zs m,ZA rows m,Zr m) (st.1,st.2+1)
  generalize Yj (ZF rows f) (nxM rows m) (Zs m,ZA rows m,Zr m) (st.1,st.2+1)=R at *
  by_cases h3:R.2.2=true
  ·rw [if_pos h3] at hk ⊢
   have k2:=key h3
   have hk1:=hkey h3
   simp only at hk1
   by_cases h4:R.2.1.1.length=2000
   ·rw [if_pos h4] at hk
    cases hk
   rw [if_neg h4]
   have hni:isE R.2.1.1 (Zs m)=false:=by
    cases hi:isE R.2.1.1 (Zs m)
    ·rfl
    exfalso
    obtain ⟨e,he,hek⟩:=(XD k2.1.up (k:=Zs m)).1 hi
    rcases k2.2.2.1 e he with h9 | ⟨s,s1,s2,s3⟩
    ·exact h1 ((XD ht.up (k:=Zs m)).2 ⟨e,h9,hek⟩)
    have:s=m:=WD s1 hs (s3.symm.trans hek)
    subst this
    omega
   have hni2:isE R.2.1.1 R.1.1=false:=by rw [hk1];exact hni
   have hlen:=k2.1.few
   have hl:=TK (es:=R.2.1.1) (e:=R.1)
   rw [hni2] at hl
   simp only [Bool.false_eq_true,if_false] at hl
   have h5:=k2.2.2.2
   simp only at h5
   refine ⟨L0 k2.1 (.inr (by omega)),fun e he=>(NY hni2).2 (.inr (k2.2.1 e he)),fun e he=>?_,by show st.2≤R.2.1.2;omega,?_⟩
   ·rcases (NY hni2).1 he with h9 | h9
    ·exact .inr ⟨m,hs,by omega,by rw [h9,hk1]⟩
    rcases k2.2.2.1 e h9 with h8 | ⟨s,s1,s2,s3⟩
    ·exact .inl h8
    exact .inr ⟨s,s1,by omega,s3⟩
   show (Xc R.2.1.1 R.1).length+st.2=st.1.length+R.2.1.2
   omega
  rw [if_neg h3] at hk
  cases hk
def Xx (rows:List (List I3)) (m:V4) (rec:V4→Zv→E3 × Zv):List (Int × V4)→List I3 × List Int→Zv→(List I3 × List Int) × Zv
 | [],acc,st=>(acc,st)
 | t::ts,acc,st=>Xx rows m rec ts (((acc.1++XO rows m t.1)++ZB rows t.2)++(rec t.2 st).1.2.1,acc.2++(rec t.2 st).1.2.2) (rec t.2 st).2
def Vc (m:V4) (R:(List I3 × List Int) × Zv):E3:=(Zs m,ZD R.1.1 [],Yh R.1.2)
def Z3 (rows:List (List I3)) (g:Nat):Nat→V4→Zv→E3 × Zv
 | 0,_,st=>(e3d,st)
 | f+1,m,st =>
  if isE st.1 (Zs m)=true then (WS st.1 (Zs m),st)
  else if 2000<g+(st.2+1) then (e3d,(st.1,st.2+1))
  else (Vc m (Xx rows m (Z3 rows g f) (nxM rows m) (ZB rows m,Zr m) (st.1,st.2+1)),(Xc (Xx rows m (Z3 rows g f) (nxM rows m) (ZB rows m,Zr m) (st.1,st.2+1)).2.1 (Vc m (Xx rows m (Z3 rows g f) (nxM rows m) (ZB rows m,Zr m) (st.1,st.2+1))),(Xx rows m (Z3 rows g f) (nxM rows m) (ZB rows m,Zr m) (st.1,st.2+1)).2.2))
theorem TV {rows:List (List I3)} {m:V4} {rec:V4→Zv→E3 × Zv} (h:∀ x st,st.2≤(rec x st).2.2):∀ (ts:List (Int × V4)) (acc:List I3 × List Int) (st:Zv),st.2≤(Xx rows m rec ts acc st).2.2
 | [],acc,st=>Nat.le_refl _
 | t::ts,acc,st=>by
  unfold Xx
  exact Nat.le_trans (h t.2 st) (TV h ts _ _)
theorem Qa {rows:List (List I3)} {g:Nat}:∀ (f:Nat) (m:V4) (st:Zv),st.2≤(Z3 rows g f m st).2.2
 | 0,m,st=>Nat.le_refl _
 | f+1,m,st=>by
  unfold Z3
  split
  ·exact Nat.le_refl _
  split
  ·exact Nat.le_succ _
  have:=TV (rows:=rows) (m:=m) (fun x st=>Qa (rows:=rows) (g:=g) f x st) (nxM rows m) (ZB rows m,Zr m) (st.1,st.2+1)
  simp only at this ⊢
  omega
def TZ (rows:List (List I3)) (m:V4) (ts:List (Int × V4)) (e e':E3) (a a':List I3 × List Int):Prop:=
 ∃ (P:I3→Prop) (Q:Int→Prop),(∀ x,x ∈ e'.2.1↔x ∈ e.2.1∨P x)∧(∀ y,y ∈ e'.2.2↔y ∈ e.2.2∨Q y) ∧
  (∀ x,x ∈ a'.1↔x ∈ a.1∨(∃ t ∈ ts,x ∈ XO rows m t.1∨x ∈ ZB rows t.2)∨P x)∧(∀ y,y ∈ a'.2↔y ∈ a.2∨Q y)∧(Ys e.2.1→Ys e'.2.1)∧(e.2.2.Pairwise (· < ·)→e'.2.2.Pairwise (· < ·))∧e'.1=e.1
theorem TZ.nil {rows:List (List I3)} {m:V4} (e:E3) (a:List I3 × List Int):TZ rows m [] e e a a:=⟨fun _=>False,fun _=>False,by simp,by simp,by simp,by simp,id,id,rfl⟩
theorem TZ.cons {rows:List (List I3)} {m:V4} {t:Int × V4} {ts:List (Int × V4)} {e e':E3} {a a':List I3 × List Int} (r:E3) (h:TZ rows m ts (e.1,ZD e.2.1 r.2.1,Yh (e.2.2++r.2.2)) e' (((a.1++XO rows m t.1)++ZB rows t.2)++r.2.1,a.2++r.2.2) a'):TZ rows m (t::ts) e e' a a':=by
 obtain ⟨P,Q,h1,h2,h3,h4,h5,h6,h7⟩:=h
 refine ⟨fun x=>x ∈ r.2.1∨P x,fun y=>y ∈ r.2.2∨Q y,fun x=>?_,fun y=>?_,fun x=>?_,fun y=>?_,fun _=>h5 (YK _ _),fun _=>h6 (YN _),h7⟩
 ·rw [h1,YM,or_assoc]
 ·rw [h2,XE,List.mem_append,or_assoc]
 ·rw [h3]
  simp only [List.mem_append,List.mem_cons,exists_eq_or_imp]
  constructor
  ·rintro ((((h | h) | h) | h) | h | h)
   ·exact .inl h
   ·exact .inr (.inl (.inl (.inl h)))
   ·exact .inr (.inl (.inl (.inr h)))
   ·exact .inr (.inr (.inl h))
   ·exact .inr (.inl (.inr h))
   exact .inr (.inr (.inr h))
  rintro (h | ((h | h) | h) | h | h)
  ·exact .inl (.inl (.inl (.inl h)))
  ·exact .inl (.inl (.inl (.inr h)))
  ·exact .inl (.inl (.inr h))
  ·exact .inr (.inl h)
  ·exact .inl (.inr h)
  exact .inr (.inr h)
 rw [h4]
 simp only [List.mem_append,or_assoc]
theorem TZ.ent {rows:List (List I3)} {m:V4} (hs:Zd m=true) {e':E3} {a':List I3 × List Int} {st:Zv} (h:TZ rows m (nxM rows m) (Zs m,ZA rows m,Zr m) e' (ZB rows m,Zr m) a'):Vc m (a',st)=e':=by
 obtain ⟨P,Q,h1,h2,h3,h4,h5,h6,h7⟩:=h
 have hB:ZD a'.1 []=e'.2.1:=(YK _ _).same (h5 (Vu rows m)) (fun x=>by
  rw [YM,h1,h3]
  simp only [List.not_mem_nil,or_false]
  rw [RE]
  have hx:(∃ t ∈ nxM rows m,x ∈ XO rows m t.1∨x ∈ ZB rows t.2)↔∃ k ∈ Zn rows m 3,x ∈ Y6 rows m k:=by
   unfold nxM
   constructor
   ·rintro ⟨t,ht,h⟩
    obtain ⟨k,hk,rfl⟩:=List.mem_map.1 ht
    exact ⟨k,hk,US.2 h⟩
   rintro ⟨k,hk,h⟩
   exact ⟨_,List.mem_map.2 ⟨k,hk,rfl⟩,US.1 h⟩
  rw [hx,or_assoc])
 have hF:Yh a'.2=e'.2.2:=RU (YN _) (h6 (VY hs)) (fun y=>by rw [XE,h2,h4])
 unfold Vc
 simp only
 rw [hB,hF,show Zs m=e'.1 from h7.symm]
theorem Gs {rows:List (List I3)} {m:V4} {g:Nat} {rec:V4→Zv→E3 × Zv × Bool} {rec':V4→Zv→E3 × Zv} {L:Nat}:∀ (ts:List (Int × V4)) (e:E3) (a:List I3 × List Int) (st:Zv),
  (∀ t ∈ ts,∀ st:Zv,UpR st.1→(rec t.2 st).2.2=true→XG rows L st (rec t.2 st).2.1∧(g+(rec t.2 st).2.1.2≤2000→rec' t.2 st=((rec t.2 st).1,(rec t.2 st).2.1)))→UpR st.1→(Yj rec ts e st).2.2=true→g+(Yj rec ts e st).2.1.2≤2000 →
  TZ rows m ts e (Yj rec ts e st).1 a (Xx rows m rec' ts a st).1∧(Xx rows m rec' ts a st).2=(Yj rec ts e st).2.1
 | [],e,a,st,hr,ht,hk,hg=>⟨TZ.nil e a,rfl⟩
 | t::ts,e,a,st,hr,ht,hk,hg=>by
  unfold Yj at hk hg ⊢
  unfold Xx
  by_cases h:(rec t.2 st).2.2=true
  ·rw [if_pos h] at hk hg ⊢
   obtain ⟨h2,h3⟩:=hr t (List.mem_cons_self ..) st ht h
   have h4:=(Uo ts (e.1,ZD e.2.1 (rec t.2 st).1.2.1,Yh (e.2.2++(rec t.2 st).1.2.2)) (rec t.2 st).2.1 (fun t' ht' st' hu hk'=>(hr t' (List.mem_cons_of_mem _ ht') st' hu hk').1) h2.1 hk).2.2.2.1
   rw [h3 (by omega)]
   obtain ⟨q1,q2⟩:=Gs (m:=m) (rec':=rec') ts _ (((a.1++XO rows m t.1)++ZB rows t.2)++(rec t.2 st).1.2.1,a.2++(rec t.2 st).1.2.2) _ (fun t' ht'=>hr t' (List.mem_cons_of_mem _ ht')) h2.1 hk hg
   exact ⟨TZ.cons (rec t.2 st).1 q1,q2⟩
  rw [if_neg h] at hk
  cases hk
theorem Kh {rows:List (List I3)} (hp:Zj rows=true) {g:Nat}:∀ (f:Nat) (m:V4) (st:Zv),Zd m=true→UpR st.1→(ZF rows f m st).2.2=true→g+(ZF rows f m st).2.1.2≤2000→Z3 rows g f m st=((ZF rows f m st).1,(ZF rows f m st).2.1)
 | 0,m,st,hs,ht,hk,hg=>by unfold ZF at hk;cases hk
 | f+1,m,st,hs,ht,hk,hg=>by
  have hstr:=WQ hp (f+1) m st hs ht hk
  unfold ZF at hk hg hstr ⊢
  unfold Z3
  by_cases h1:isE st.1 (Zs m)=true
  ·rw [if_pos h1,if_pos h1]
  rw [if_neg h1] at hk hg hstr ⊢
  rw [if_neg h1]
  by_cases h2:st.1.length=2000
  ·rw [if_pos h2] at hk
   cases hk
  rw [if_neg h2] at hk hg hstr ⊢
  have key:=Gs (rows:=rows) (m:=m) (g:=g) (L:=ZU rows m) (rec:=ZF rows f) (rec':=Z3 rows g f) (nxM rows m) (Zs m,ZA rows m,Zr m) (ZB rows m,Zr m) (st.1,st.2+1) (fun t htm st' ht' hk'=>by
   obtain ⟨q1,q2⟩:=Wl hp hs t htm
   exact ⟨(WQ hp f t.2 st' q1 ht' hk').mono (by omega),fun h9=>Kh hp f t.2 st' q1 ht' hk' h9⟩) ht
  have kst:=Uo (rows:=rows) (L:=ZU rows m) (rec:=ZF rows f) (nxM rows m) (Zs m,ZA rows m,Zr m) (st.1,st.2+1) (fun t htm st' ht' hk'=>by
   obtain ⟨q1,q2⟩:=Wl hp hs t htm
   exact (WQ hp f t.2 st' q1 ht' hk').mono (by omega)) ht
  generalize Yj (ZF rows f) (nxM rows m) (Zs m,ZA rows m,Zr m) (st.1,st.2+1)=R at *
  generalize hK:Xx rows m (Z3 rows g f) (nxM rows m) (ZB rows m,Zr m) (st.1,st.2+1)=K at *
  by_cases h3:R.2.2=true
  ·rw [if_pos h3] at hk hg ⊢
   by_cases h4:R.2.1.1.length=2000
   ·rw [if_pos h4] at hk
    cases hk
   rw [if_neg h4] at hg ⊢
   simp only at hg
   obtain ⟨k1,k2⟩:=key h3 hg
   have k3:=(kst h3).2.2.2.1
   simp only at k3
   rw [if_neg (by omega)]
   have k4:=k1.ent (st:=K.2) hs
   rw [show Vc m K=R.1 from k4,k2]
  rw [if_neg h3] at hk
  cases hk
theorem Gt {rows:List (List I3)} {m:V4} {g:Nat} {rec:V4→Zv→E3 × Zv × Bool} {rec':V4→Zv→E3 × Zv} {L:Nat} (hc:∀ x st,st.2≤(rec' x st).2.2):∀ (ts:List (Int × V4)) (e:E3) (a:List I3 × List Int) (st:Zv),
  (∀ t ∈ ts,∀ st:Zv,UpR st.1→st.1.length≤g+st.2→g+(rec' t.2 st).2.2≤2000→(rec t.2 st).2.2=true∧XG rows L st (rec t.2 st).2.1∧rec' t.2 st=((rec t.2 st).1,(rec t.2 st).2.1))→UpR st.1→st.1.length≤g+st.2→g+(Xx rows m rec' ts a st).2.2≤2000 →
  (Yj rec ts e st).2.2=true∧XG rows L st (Yj rec ts e st).2.1∧TZ rows m ts e (Yj rec ts e st).1 a (Xx rows m rec' ts a st).1∧(Xx rows m rec' ts a st).2=(Yj rec ts e st).2.1
 | [],e,a,st,hr,ht,hl,hg=>⟨rfl,XG.refl ht,TZ.nil e a,rfl⟩
 | t::ts,e,a,st,hr,ht,hl,hg=>by
  unfold Xx at hg ⊢
  have hg1:=Nat.le_trans (Nat.add_le_add_left (TV (rows:=rows) (m:=m) hc ts (((a.1++XO rows m t.1)++ZB rows t.2)++(rec' t.2 st).1.2.1,a.2++(rec' t.2 st).1.2.2) (rec' t.2 st).2) g) hg
  obtain ⟨h1,h2,h3⟩:=hr t (List.mem_cons_self ..) st ht hl hg1
  rw [h3] at hg ⊢
  unfold Yj
  rw [if_pos h1]
  have h5:=h2.2.2.2.2
  obtain ⟨q0,q1,q2,q3⟩:=Gt (L:=L) (rec:=rec) hc ts (e.1,ZD e.2.1 (rec t.2 st).1.2.1,Yh (e.2.2++(rec t.2 st).1.2.2)) _ _ (fun t' ht'=>hr t' (List.mem_cons_of_mem _ ht')) h2.1 (by omega) hg
  exact ⟨q0,h2.trans q1,TZ.cons (rec t.2 st).1 q2,q3⟩
theorem P4 {rows:List (List I3)} (hp:Zj rows=true) {g:Nat}:∀ (f:Nat) (m:V4) (st:Zv),Zd m=true→ZU rows m<f→UpR st.1→st.1.length≤g+st.2→g+(Z3 rows g f m st).2.2≤2000→(ZF rows f m st).2.2=true∧Z3 rows g f m st=((ZF rows f m st).1,(ZF rows f m st).2.1)
 | 0,m,st,hs,hf,ht,hl,hg=>by omega
 | f+1,m,st,hs,hf,ht,hl,hg=>by
  unfold Z3 at hg ⊢
  unfold ZF
  by_cases h1:isE st.1 (Zs m)=true
  ·rw [if_pos h1,if_pos h1]
   exact ⟨rfl,rfl⟩
  rw [if_neg h1] at hg ⊢
  rw [if_neg h1]
  by_cases h0:2000<g+(st.2+1)
  ·rw [if_pos h0] at hg
   simp only at hg
   omega
  rw [if_neg h0] at hg ⊢
  simp only at hg
  rw [if_neg (show ¬ st.1.length=2000 by omega)]
  obtain ⟨k0,k1,k2,k3⟩:=Gt (rows:=rows) (m:=m) (g:=g) (L:=ZU rows m) (rec:=ZF rows f) (rec':=Z3 rows g f) (fun x st=>Qa f x st) (nxM rows m) (Zs m,ZA rows m,Zr m) (ZB rows m,Zr m) (st.1,st.2+1) (fun t htm st' ht' hl' hg'=>by
   obtain ⟨q1,q2⟩:=Wl hp hs t htm
   obtain ⟨r1,r2⟩:=P4 hp f t.2 st' q1 (by omega) ht' hl' hg'
   exact ⟨r1,(WQ hp f t.2 st' q1 ht' r1).mono (by omega),r2⟩) ht (by show st.1.length≤g+(st.2+1);omega) hg
  generalize Yj (ZF rows f) (nxM rows m) (Zs m,ZA rows m,Zr m) (st.1,st.2+1)=R at *
  generalize hK:Xx rows m (Z3 rows g f) (nxM rows m) (ZB rows m,Zr m) (st.1,st.2+1)=K at *
  rw [if_pos k0]
  have k5:=k1.2.2.2.2
  simp only at k5
  rw [k3] at hg
  rw [if_neg (by omega)]
  have k4:=k2.ent (st:=K.2) hs
  rw [show Vc m K=R.1 from k4,k3]
  exact ⟨rfl,rfl⟩
theorem Gu {rows:List (List I3)} (hp:Zj rows=true) {f:Nat} {m:V4} {es:List E3} (hs:Zd m=true) (hf:ZU rows m<f) (ht:UpR es):
  (es.length+(Z3 rows es.length f m (es,0)).2.2≤2000→(ZF rows f m (es,0)).2.2=true∧Z3 rows es.length f m (es,0)=((ZF rows f m (es,0)).1,(ZF rows f m (es,0)).2.1)) ∧
  (¬ es.length+(Z3 rows es.length f m (es,0)).2.2≤2000→(ZF rows f m (es,0)).2.2=false):=by
 refine ⟨fun h=>P4 hp f m (es,0) hs hf ht (by simp) h,fun h=>?_⟩
 cases hk:(ZF rows f m (es,0)).2.2
 ·rfl
 exfalso
 have h1:=WQ hp f m (es,0) hs ht hk
 have h2:=h1.2.2.2.2
 have h3:=h1.1.few
 simp only at h2
 have h4:=Kh hp (g:=es.length) f m (es,0) hs ht hk (by omega)
 rw [h4] at h
 simp only at h
 omega


def VI:Nat→Nat
 | 0=>0
 | f+1=>1+3*VI f
theorem Kf:VI 19=581130733:=by decide
theorem LS (rows:List (List I3)) (m:V4):(nxM rows m).length≤3:=by
 unfold nxM
 rw [List.length_map]
 exact Y3 rows m 3
theorem Qd {rows:List (List I3)} {m:V4} {rec:V4→Zv→E3 × Zv} {B:Nat} (h:∀ x st,(rec x st).2.2≤st.2+B):∀ (ts:List (Int × V4)) (acc:List I3 × List Int) (st:Zv),(Xx rows m rec ts acc st).2.2≤st.2+ts.length*B
 | [],acc,st=>Nat.le_add_right _ _
 | t::ts,acc,st=>by
  unfold Xx
  have h1:=h t.2 st
  have h2:=Qd (rows:=rows) (m:=m) h ts (((acc.1++XO rows m t.1)++ZB rows t.2)++(rec t.2 st).1.2.1,acc.2++(rec t.2 st).1.2.2) (rec t.2 st).2
  rw [List.length_cons,Nat.add_mul,Nat.one_mul]
  omega
theorem TU {rows:List (List I3)} {g:Nat}:∀ (f:Nat) (m:V4) (st:Zv),(Z3 rows g f m st).2.2≤st.2+VI f
 | 0,m,st=>Nat.le_refl _
 | f+1,m,st=>by
  unfold Z3
  have hT:VI (f+1)=1+3*VI f:=rfl
  by_cases h1:isE st.1 (Zs m)=true
  ·rw [if_pos h1]
   exact Nat.le_add_right _ _
  rw [if_neg h1]
  by_cases h2:2000<g+(st.2+1)
  ·rw [if_pos h2]
   show st.2+1≤st.2+VI (f+1)
   omega
  rw [if_neg h2]
  have h3:=Qd (rows:=rows) (m:=m) (B:=VI f) (fun x st=>TU (rows:=rows) (g:=g) f x st) (nxM rows m) (ZB rows m,Zr m) (st.1,st.2+1)
  have h4:=Nat.mul_le_mul_right (VI f) (LS rows m)
  simp only at h3 ⊢
  omega
end Go.Proofs.YtnffeclgboomoaaGreatDoor
