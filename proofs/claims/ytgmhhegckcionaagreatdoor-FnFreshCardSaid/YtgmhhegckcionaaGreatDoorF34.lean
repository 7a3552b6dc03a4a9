/-
  Joined: ChkU, MemR, ChkV, TxeP, ChkW, ChkY, ChkZ, VerI, VerP, Clone, CopI, MemI.
-/
import Derived.Lib.Strings
import Derived.Lib.Walk
import Derived.Lib.BufferWrite
import Derived.Lib.UnsafeStr
import Derived.Laws.MakeOwn
import Derived.Test.YtgmhhegckcionaaGreatDoorF33

namespace Go.Proofs.YtgmhhegckcionaaGreatDoor
set_option maxRecDepth 100000
set_option maxHeartbeats 16000000
open Go.RowKit
set_option linter.unusedVariables false
set_option linter.unusedSimpArgs false

theorem GN {m:V4} {x:I3} {k:Nat} (h:(ZQ m x k).2≠0):(ZQ m x k).2=if x.1=6 then 13 else 12:=by
 by_cases h1:x.1=1
 ·exact absurd (by unfold ZQ;rw [if_pos h1]) h
 by_cases h2:x.1=2
 ·exact absurd (by unfold ZQ;rw [if_neg h1,if_pos h2]) h
 by_cases h3:x.1=3
 ·exact absurd (by unfold ZQ;rw [if_neg h1,if_neg h2,if_pos h3]) h
 by_cases h4:x.1=4
 ·exact absurd (by unfold ZQ;rw [if_neg h1,if_neg h2,if_neg h3,if_pos h4]) h
 by_cases h5:x.1=5
 ·exact absurd (by unfold ZQ;rw [if_neg h1,if_neg h2,if_neg h3,if_neg h4,if_pos h5]) h
 by_cases h6:x.1=6
 ·rw [if_pos h6]
  by_cases hh:m.2.2.1.getD x.2.1.toNat 0=k+1
  ·exact absurd (by unfold ZQ;rw [if_neg h1,if_neg h2,if_neg h3,if_neg h4,if_neg h5,if_pos h6,if_pos hh]) h
  unfold ZQ
  rw [if_neg h1,if_neg h2,if_neg h3,if_neg h4,if_neg h5,if_pos h6,if_neg hh]
 rw [if_neg h6]
 by_cases h7:x.1=7
 ·by_cases hh:m.2.2.2.getD (k*2+x.2.1.toNat) 0=0
  ·exact absurd (by unfold ZQ;rw [if_neg h1,if_neg h2,if_neg h3,if_neg h4,if_neg h5,if_neg h6,if_pos h7,if_pos hh]) h
  exact absurd (by unfold ZQ;rw [if_neg h1,if_neg h2,if_neg h3,if_neg h4,if_neg h5,if_neg h6,if_pos h7,if_neg hh]) h
 by_cases hh:m.2.2.2.getD (k*2+x.2.1.toNat) 0=x.2.2
 ·exact absurd (by unfold ZQ;rw [if_neg h1,if_neg h2,if_neg h3,if_neg h4,if_neg h5,if_neg h6,if_neg h7,if_pos hh]) h
 unfold ZQ
 rw [if_neg h1,if_neg h2,if_neg h3,if_neg h4,if_neg h5,if_neg h6,if_neg h7,if_neg hh]
def Pq (rows:List (List I3)) (x:I3):Prop:=x=(14,0,0)∨∃ k p:Nat,k<3∧p<6∧x=((if ((Yg rows k).getD p (0,0,0)).1=6 then 13 else 12),(k:Int),(p:Int))
theorem Mh {rows:List (List I3)} {m:V4} {k:Int} (hp:Zf rows=true) (hs:Zc m=true) (hz:XO rows m k=0) {x:I3} (hx:x ∈ Xg rows m k):Pq rows x:=by
 obtain ⟨h0,h2,hd,_⟩:=XB hz
 obtain ⟨q,rfl⟩:∃ q:Nat,k=q:=⟨k.toNat,by omega⟩
 rw [Int.toNat_natCast] at hd
 obtain ⟨p,e1,e2,e3,_⟩:=Up hp hs (show q<3 by omega) hd
 have hl:=(Vk hp (show q<3 by omega)).1
 unfold Xg at hx
 rw [Int.toNat_natCast] at hx
 by_cases h9:(goM rows m (q:Int)).2=0
 ·rw [if_pos h9] at hx
  cases hx
 rw [if_neg h9] at hx
 have hx2:=List.mem_singleton.1 hx
 refine .inr ⟨q,p,by omega,by omega,?_⟩
 rw [hx2,e1]
 unfold goM at h9 ⊢
 rw [Int.toNat_natCast] at h9 ⊢
 rw [GN h9,e3]
theorem UZ {rows:List (List I3)} {m:V4} {x:I3} (hx:x ∈ ZC rows m):Pq rows x:=by
 unfold ZC at hx
 split at hx
 ·exact .inl (List.mem_singleton.1 hx)
 cases hx
theorem Gc {rows:List (List I3)} {m:V4} (hp:Zf rows=true) (hs:Zc m=true) {x:I3} (hx:x ∈ ZB rows m):Pq rows x:=by
 rcases WC.1 hx with h | ⟨k,hk,h⟩
 ·exact UZ h
 rcases X1.1 h with h | h
 ·exact Mh hp hs (Xe hk) h
 exact UZ h
def R0 (x:I3):Int:=if x.1=14 then 0 else 1+x.2.1*6+x.2.2
theorem Jj (c:Prop) [Decidable c]:¬ (if c then (13:Int) else 12)=14:=by split<;>omega
theorem D1 {rows:List (List I3)} {x y:I3} (hx:Pq rows x) (hy:Pq rows y) (h:R0 x=R0 y):x=y:=by
 rcases hx with rfl | ⟨k,p,hk,hp,rfl⟩<;>rcases hy with rfl | ⟨k',p',hk',hp',rfl⟩
 ·rfl
 ·exfalso
  rw [show R0 (14,0,0)=0 from rfl] at h
  unfold R0 at h
  rw [if_neg (Jj _)] at h
  simp only at h
  omega
 ·exfalso
  rw [show R0 (14,0,0)=0 from rfl] at h
  unfold R0 at h
  rw [if_neg (Jj _)] at h
  simp only at h
  omega
 unfold R0 at h
 rw [if_neg (Jj _),if_neg (Jj _)] at h
 simp only at h
 obtain rfl:k=k':=by omega
 obtain rfl:p=p':=by omega
 rfl
theorem C4 {rows:List (List I3)} {x:I3} (hx:Pq rows x):0≤R0 x∧R0 x≤18:=by
 rcases hx with rfl | ⟨k,p,hk,hp,rfl⟩
 ·unfold R0;simp
 have h1:∀ (c:Prop) [Decidable c],(if c then (13:Int) else 12)≠14:=by intro c _;split<;>omega
 unfold R0
 simp only [if_neg (h1 _)]
 omega
theorem Nh {rows:List (List I3)}:∀ {xs:List I3},xs.Nodup→(∀ x ∈ xs,Pq rows x)→(xs.map R0).Nodup
 | [],_,_=>List.nodup_nil
 | x::xs,hn,hc=>by
  obtain ⟨h1,h2⟩:=List.nodup_cons.1 hn
  rw [List.map_cons,List.nodup_cons]
  refine ⟨fun hm=>?_,Nh h2 (fun y hy=>hc y (List.mem_cons_of_mem _ hy))⟩
  obtain ⟨y,hy,e⟩:=List.mem_map.1 hm
  have:=D1 (hc x (List.mem_cons_self ..)) (hc y (List.mem_cons_of_mem _ hy)) e.symm
  subst this
  exact h1 hy
theorem YD.nodup9 {xs:List I3} (h:YD xs):xs.Nodup:=h.imp (fun h e=>by subst e;rw [VC] at h;cases h)
theorem DD {rows:List (List I3)} {xs:List I3} (h:YD xs) (hc:∀ x ∈ xs,Pq rows x):xs.length≤19:=by
 have h1:=Ng (Nh h.nodup9 hc) (a:=0) (b:=18) (fun y hy=>by
  obtain ⟨x,hx,rfl⟩:=List.mem_map.1 hy
  exact C4 (hc x hx))
 rw [List.length_map] at h1
 omega
theorem TC {rows:List (List I3)} {x:I3} (hx:Pq rows x):okB x=true:=by
 rcases hx with rfl | ⟨k,p,hk,hp,rfl⟩
 ·rfl
 unfold okB inB
 split<;>simp<;>omega
theorem UK {rows:List (List I3)} (hp:Zf rows=true) {f:Nat} {m:V4} (hs:Zc m=true):∀ x ∈ ZT rows f m,Zc x=true:=
 Un (fun x=>Zc x=true) (fun x hx t ht=>(XK hp hx t ht).1) f m hs
theorem K3 {rows:List (List I3)} (hp:Zf rows=true) {f:Nat} {m:V4} (hs:Zc m=true):∀ x ∈ cmB rows f m,Pq rows x:=fun x hx=>by
 obtain ⟨s,h1,h2⟩:=VP.1 hx
 exact Gc hp (UK hp hs s h1) h2
theorem CU {rows:List (List I3)} (hp:Zf rows=true) {f:Nat} {m:V4} (hs:Zc m=true):∀ y ∈ cmF rows f m,Wj y=true:=fun y hy=>by
 obtain ⟨s,h1,h2⟩:=TJ.1 hy
 exact look_ok (UK hp hs s h1) y h2
theorem NX {rows:List (List I3)} (hp:Zf rows=true) {f:Nat} {m:V4} (hs:Zc m=true):YY (Yr rows f m)=true:=by
 have h1:=DD (Wx rows f m) (K3 hp hs)
 unfold YY Yr Wz
 simp only [Bool.and_eq_true,decide_eq_true_eq]
 refine ⟨⟨X0 hs,by rw [Vn hs];exact hs⟩,F0 (fun x hx=>TC (K3 hp hs x hx)) (Wx rows f m),Gz (CU hp hs) (Rb rows f m),by omega⟩
theorem NE {rows:List (List I3)} (hp:Zf rows=true) {f:Nat} {m:V4} {st:Zy} (hs:Zc m=true) (hf:ZR rows m<f) (ht:Wp rows st.1) (hk:(ZG rows f m st).2.2=true):(ZG rows f m st).1=Yr rows 18 m∧Xk rows (ZR rows m+1) st (ZG rows f m st).2.1∧Yr rows 18 m ∈ (ZG rows f m st).2.1.1:=
 Bs hp (fun s hs=>NX hp hs) hs hf ht hk


def UpE (es:List E3):Prop:=es.Pairwise (fun a b=>ltS a.1 b.1=true)
theorem UpE.lt {es:List E3} (h:UpE es) {j i:Nat} (hi:i<j) (hj:j<es.length):ltS (es.getD i e3d).1 (es.getD j e3d).1=true:=by
 rw [Y5 (show i<es.length by omega),Y5 hj]
 exact List.pairwise_iff_getElem.1 h i j (by omega) hj hi
structure UpR (es:List E3):Prop where
 up:UpE es
 few:es.length≤2000
theorem UpR.lt {es:List E3} (h:UpR es) {j i:Nat} (hi:i<j) (hj:j<es.length):ltS (es.getD i e3d).1 (es.getD j e3d).1=true:=h.up.lt hi hj
theorem Ph {es:List E3} (h:Yl es=true):UpR es:=⟨(Xt.1 h).2.1,WB h⟩
theorem TM:UpR []:=⟨List.Pairwise.nil,by simp⟩
theorem DQ {es:List E3} (h:UpE es) {t:Nat} (ht:t<es.length):Yf es (es.getD t e3d).1=t∧isE es (es.getD t e3d).1=true:=by
 have hp:Yf es (es.getD t e3d).1=t:=Qd (fun i hi=>h.lt hi ht) (by omega) (fun _=>VD _)
 refine ⟨hp,?_⟩
 rw [isE,hp,decide_eq_true ht,decide_eq_true rfl]
 rfl
theorem XS {es:List E3} (h:UpE es) {k:ByteArray}:isE es k=true↔∃ e ∈ es,e.1=k:=by
 constructor
 ·intro hi
  simp only [isE,Bool.and_eq_true,decide_eq_true_eq] at hi
  refine ⟨es.getD (Yf es k) e3d,?_,hi.2⟩
  rw [Y5 hi.1]
  exact List.getElem_mem _
 rintro ⟨e,he,rfl⟩
 obtain ⟨t,ht,rfl⟩:=List.getElem_of_mem he
 rw [← Y5 ht]
 exact (DQ h ht).2
theorem Mj {es:List E3} (h:UpE es) {k:ByteArray} {i:Nat} (hi:Yf es k≤i) (hl:i<es.length):ltS (es.getD i e3d).1 k=false:=by
 by_cases e:i=Yf es k
 ·rw [e];exact Uj (by omega)
 cases hc:ltS (es.getD i e3d).1 k
 ·rfl
 have:=WA (h.lt (i:=Yf es k) (j:=i) (by omega) hl) hc
 rw [Uj (by omega)] at this
 cases this
theorem SS {es:List E3} (h:UpE es) {k:ByteArray} {t:Nat} (h1:(if isE es k then Yf es k+1 else Yf es k)≤t) (ht:t<es.length):ltS k (es.getD t e3d).1=true:=by
 cases hc:isE es k
 ·rw [hc] at h1
  simp at h1
  cases hk:ltS k (es.getD t e3d).1
  ·have:=P9 (Mj h h1 ht) hk
   have hi:=(XS h (k:=k)).2 ⟨es.getD t e3d,by rw [Y5 ht];exact List.getElem_mem _,this⟩
   rw [hc] at hi
   cases hi
  rfl
 rw [hc] at h1
 simp at h1
 simp only [isE,Bool.and_eq_true,decide_eq_true_eq] at hc
 have:=h.lt (i:=Yf es k) (j:=t) (by omega) ht
 rw [hc.2] at this
 exact this
theorem QX {es:List E3} {e:E3} (h:UpE es):UpE (XE es e):=by
 unfold XE UpE
 rw [List.pairwise_append,List.pairwise_append]
 refine ⟨⟨h.sublist (List.take_sublist _ _),by simp,?_⟩,h.sublist (List.drop_sublist _ _),?_⟩
 ·intro a ha b hb
  simp only [List.mem_singleton] at hb
  subst hb
  obtain ⟨t,h1,h2,rfl⟩:=Ug ha
  exact WG h1
 intro a ha b hb
 obtain ⟨t,h1,h2,rfl⟩:=Rj hb
 have hk:=SS h h1 h2
 simp only [List.mem_append,List.mem_singleton] at ha
 rcases ha with ha | rfl
 ·obtain ⟨t',h3,h4,rfl⟩:=Ug ha
  exact WA (WG h3) hk
 exact hk
theorem Ml {es:List E3} {e:E3} (h:UpR es) (hr:isE es e.1=true∨es.length<2000):UpR (XE es e):=by
 refine ⟨QX h.up,?_⟩
 rw [ST]
 rcases hr with h9 | h9
 ·rw [if_pos h9];exact h.few
 have:=h.few
 split<;>omega
theorem WI {es:List E3} {e x:E3} (hx:x ∈ XE es e):x=e∨x ∈ es:=by
 unfold XE at hx
 simp only [List.mem_append,List.mem_singleton] at hx
 rcases hx with (hx | hx) | hx
 ·exact .inr (List.mem_of_mem_take hx)
 ·exact .inl hx
 exact .inr (List.mem_of_mem_drop hx)
theorem Lo {es:List E3} {e x:E3} (hn:isE es e.1=false):x ∈ XE es e↔x=e∨x ∈ es:=by
 unfold XE
 rw [hn]
 simp only [List.mem_append,List.mem_singleton,Bool.false_eq_true,if_false]
 constructor
 ·rintro ((h | h) | h)
  ·exact .inr (List.mem_of_mem_take h)
  ·exact .inl h
  exact .inr (List.mem_of_mem_drop h)
 rintro (h | h)
 ·exact .inl (.inr h)
 rw [← List.take_append_drop (Yf es e.1) es] at h
 rcases List.mem_append.1 h with h | h
 ·exact .inl (.inl h)
 exact .inr h


def Ww (rows:List (List I3)) (L:Nat) (st st':Zy):Prop:=UpR st'.1∧(∀ e ∈ st.1,e ∈ st'.1)∧(∀ e ∈ st'.1,e ∈ st.1∨∃ s,Zc s=true∧ZR rows s<L∧e.1=Zt s)∧st.2≤st'.2∧st'.1.length+st.2=st.1.length+st'.2
theorem Ww.refl {rows:List (List I3)} {L:Nat} {st:Zy} (h:UpR st.1):Ww rows L st st:=⟨h,fun e he=>he,fun e he=>.inl he,Nat.le_refl _,rfl⟩
theorem Ww.trans {rows:List (List I3)} {L:Nat} {a b c:Zy} (h:Ww rows L a b) (k:Ww rows L b c):Ww rows L a c:=
 ⟨k.1,fun e he=>k.2.1 e (h.2.1 e he),fun e he=>by
  rcases k.2.2.1 e he with h9 | h9
  ·exact h.2.2.1 e h9
  exact .inr h9,Nat.le_trans h.2.2.2.1 k.2.2.2.1,by have:=h.2.2.2.2;have:=k.2.2.2.2;omega⟩
theorem Ww.mono {rows:List (List I3)} {L L':Nat} {a b:Zy} (h:Ww rows L a b) (hL:L≤L'):Ww rows L' a b:=
 ⟨h.1,h.2.1,fun e he=>by
  rcases h.2.2.1 e he with h9 | ⟨s,h1,h2,h3⟩
  ·exact .inl h9
  exact .inr ⟨s,h1,by omega,h3⟩,h.2.2.2⟩
theorem Tx {rows:List (List I3)} {L:Nat} {rec:V4→Zy→E3 × Zy × Bool}:∀ (ts:List (Int × V4)) (e:E3) (st:Zy),(∀ t ∈ ts,∀ st:Zy,UpR st.1→(rec t.2 st).2.2=true→Ww rows L st (rec t.2 st).2.1)→UpR st.1→(Yo rec ts e st).2.2=true→Ww rows L st (Yo rec ts e st).2.1
 | [],e,st,hr,ht,hk=>Ww.refl ht
 | t::ts,e,st,hr,ht,hk=>by
  unfold Yo at hk ⊢
  by_cases h:(rec t.2 st).2.2=true
  ·rw [if_pos h] at hk ⊢
   have h2:=hr t (List.mem_cons_self ..) st ht h
   exact h2.trans (Tx ts _ _ (fun t' ht'=>hr t' (List.mem_cons_of_mem _ ht')) h2.1 hk)
  rw [if_neg h] at hk
  cases hk
theorem S6 (rec:V4→Zy→E3 × Zy × Bool):∀ (ts:List (Int × V4)) (e:E3) (st:Zy),(Yo rec ts e st).2.2=true→(Yo rec ts e st).1.1=e.1
 | [],e,st,hk=>rfl
 | t::ts,e,st,hk=>by
  unfold Yo at hk ⊢
  by_cases h:(rec t.2 st).2.2=true
  ·rw [if_pos h] at hk ⊢
   exact S6 rec ts _ _ hk
  rw [if_neg h] at hk
  cases hk
theorem WK {rows:List (List I3)} (hp:Zf rows=true):∀ (f:Nat) (m:V4) (st:Zy),Zc m=true→UpR st.1→(ZG rows f m st).2.2=true→Ww rows (ZR rows m+1) st (ZG rows f m st).2.1
 | 0,m,st,hs,ht,hk=>by unfold ZG at hk;cases hk
 | f+1,m,st,hs,ht,hk=>by
  unfold ZG at hk ⊢
  by_cases h1:isE st.1 (Zt m)=true
  ·rw [if_pos h1]
   exact Ww.refl ht
  rw [if_neg h1] at hk ⊢
  by_cases h2:st.1.length=2000
  ·rw [if_pos h2] at hk
   cases hk
  rw [if_neg h2] at hk ⊢
  have key:=Tx (rows:=rows) (L:=ZR rows m) (rec:=ZG rows f) (nxM rows m) (Zt m,ZB rows m,Zx m) (st.1,st.2+1) (fun t htm st' ht' hk'=>by
   obtain ⟨q1,q2⟩:=XK hp hs t htm
   exact (WK hp f t.2 st' q1 ht' hk').mono (by omega)) ht
  have hkey:=S6 (ZG rows f) (nxM rows m) (Zt m,ZB rows m,Zx m) (st.1,st.2+1)
  generalize Yo (ZG rows f) (nxM rows m) (Zt m,ZB rows m,Zx m) (st.1,st.2+1)=R at *
  by_cases h3:R.2.2=true
  ·rw [if_pos h3] at hk ⊢
   have k2:=key h3
   have hk1:=hkey h3
   simp only at hk1
   by_cases h4:R.2.1.1.length=2000
   ·rw [if_pos h4] at hk
    cases hk
   rw [if_neg h4]
   have hni:isE R.2.1.1 (Zt m)=false:=by
    cases hi:isE R.2.1.1 (Zt m)
    ·rfl
    exfalso
    obtain ⟨e,he,hek⟩:=(XS k2.1.up (k:=Zt m)).1 hi
    rcases k2.2.2.1 e he with h9 | ⟨s,s1,s2,s3⟩
    ·exact h1 ((XS ht.up (k:=Zt m)).2 ⟨e,h9,hek⟩)
    have:s=m:=XU s1 hs (s3.symm.trans hek)
    subst this
    omega
   have hni2:isE R.2.1.1 R.1.1=false:=by rw [hk1];exact hni
   have hlen:=k2.1.few
   have hl:=ST (es:=R.2.1.1) (e:=R.1)
   rw [hni2] at hl
   simp only [Bool.false_eq_true,if_false] at hl
   have h5:=k2.2.2.2
   simp only at h5
   refine ⟨Ml k2.1 (.inr (by omega)),fun e he=>(Lo hni2).2 (.inr (k2.2.1 e he)),fun e he=>?_,by show st.2≤R.2.1.2;omega,?_⟩
   ·rcases (Lo hni2).1 he with h9 | h9
    ·exact .inr ⟨m,hs,by omega,by rw [h9,hk1]⟩
    rcases k2.2.2.1 e h9 with h8 | ⟨s,s1,s2,s3⟩
    ·exact .inl h8
    exact .inr ⟨s,s1,by omega,s3⟩
   show (XE R.2.1.1 R.1).length+st.2=st.1.length+R.2.1.2
   omega
  rw [if_neg h3] at hk
  cases hk
def Wk (rows:List (List I3)) (m:V4) (rec:V4→Zy→E3 × Zy):List (Int × V4)→List I3 × List Int→Zy→(List I3 × List Int) × Zy
 | [],acc,st=>(acc,st)
 | t::ts,acc,st=>Wk rows m rec ts (((acc.1++Xg rows m t.1)++ZC rows t.2)++(rec t.2 st).1.2.1,acc.2++(rec t.2 st).1.2.2) (rec t.2 st).2
def Ub (m:V4) (R:(List I3 × List Int) × Zy):E3:=(Zt m,ZK R.1.1 [],Yx R.1.2)
def Z7 (rows:List (List I3)) (g:Nat):Nat→V4→Zy→E3 × Zy
 | 0,_,st=>(e3d,st)
 | f+1,m,st =>
  if isE st.1 (Zt m)=true then (Vz st.1 (Zt m),st)
  else if 2000<g+(st.2+1) then (e3d,(st.1,st.2+1))
  else (Ub m (Wk rows m (Z7 rows g f) (nxM rows m) (ZC rows m,Zx m) (st.1,st.2+1)),(XE (Wk rows m (Z7 rows g f) (nxM rows m) (ZC rows m,Zx m) (st.1,st.2+1)).2.1 (Ub m (Wk rows m (Z7 rows g f) (nxM rows m) (ZC rows m,Zx m) (st.1,st.2+1))),(Wk rows m (Z7 rows g f) (nxM rows m) (ZC rows m,Zx m) (st.1,st.2+1)).2.2))
theorem S5 {rows:List (List I3)} {m:V4} {rec:V4→Zy→E3 × Zy} (h:∀ x st,st.2≤(rec x st).2.2):∀ (ts:List (Int × V4)) (acc:List I3 × List Int) (st:Zy),st.2≤(Wk rows m rec ts acc st).2.2
 | [],acc,st=>Nat.le_refl _
 | t::ts,acc,st=>by
  unfold Wk
  exact Nat.le_trans (h t.2 st) (S5 h ts _ _)
theorem Pi {rows:List (List I3)} {g:Nat}:∀ (f:Nat) (m:V4) (st:Zy),st.2≤(Z7 rows g f m st).2.2
 | 0,m,st=>Nat.le_refl _
 | f+1,m,st=>by
  unfold Z7
  split
  ·exact Nat.le_refl _
  split
  ·exact Nat.le_succ _
  have:=S5 (rows:=rows) (m:=m) (fun x st=>Pi (rows:=rows) (g:=g) f x st) (nxM rows m) (ZC rows m,Zx m) (st.1,st.2+1)
  simp only at this ⊢
  omega
def Ra (rows:List (List I3)) (m:V4) (ts:List (Int × V4)) (e e':E3) (a a':List I3 × List Int):Prop:=
 ∃ (P:I3→Prop) (Q:Int→Prop),(∀ x,x ∈ e'.2.1↔x ∈ e.2.1∨P x)∧(∀ y,y ∈ e'.2.2↔y ∈ e.2.2∨Q y) ∧
  (∀ x,x ∈ a'.1↔x ∈ a.1∨(∃ t ∈ ts,x ∈ Xg rows m t.1∨x ∈ ZC rows t.2)∨P x)∧(∀ y,y ∈ a'.2↔y ∈ a.2∨Q y)∧(YD e.2.1→YD e'.2.1)∧(e.2.2.Pairwise (· < ·)→e'.2.2.Pairwise (· < ·))∧e'.1=e.1
theorem Ra.nil {rows:List (List I3)} {m:V4} (e:E3) (a:List I3 × List Int):Ra rows m [] e e a a:=⟨fun _=>False,fun _=>False,by simp,by simp,by simp,by simp,id,id,rfl⟩
theorem Ra.cons {rows:List (List I3)} {m:V4} {t:Int × V4} {ts:List (Int × V4)} {e e':E3} {a a':List I3 × List Int} (r:E3) (h:Ra rows m ts (e.1,ZK e.2.1 r.2.1,Yx (e.2.2++r.2.2)) e' (((a.1++Xg rows m t.1)++ZC rows t.2)++r.2.1,a.2++r.2.2) a'):Ra rows m (t::ts) e e' a a':=by
 obtain ⟨P,Q,h1,h2,h3,h4,h5,h6,h7⟩:=h
 refine ⟨fun x=>x ∈ r.2.1∨P x,fun y=>y ∈ r.2.2∨Q y,fun x=>?_,fun y=>?_,fun x=>?_,fun y=>?_,fun _=>h5 (Yw _ _),fun _=>h6 (YQ _),h7⟩
 ·rw [h1,YF,or_assoc]
 ·rw [h2,XV,List.mem_append,or_assoc]
 ·rw [h3]
  simp only [List.mem_append,List.mem_cons,exists_eq_or_imp]
  constructor
  ·rintro ((((h | h) | h) | h) | h | h)
   ·exact .inl h
   ·exact .inr (.inl (.inl (.inl h)))
   ·exact .inr (.inl (.inl (.inr h)))
   ·exact .inr (.inr (.inl h))
   ·exact .inr (.inl (.inr h))
   exact .inr (.inr (.inr h))
  rintro (h | ((h | h) | h) | h | h)
  ·exact .inl (.inl (.inl (.inl h)))
  ·exact .inl (.inl (.inl (.inr h)))
  ·exact .inl (.inl (.inr h))
  ·exact .inr (.inl h)
  ·exact .inl (.inr h)
  exact .inr (.inr h)
 rw [h4]
 simp only [List.mem_append,or_assoc]
theorem Ra.ent {rows:List (List I3)} {m:V4} (hs:Zc m=true) {e':E3} {a':List I3 × List Int} {st:Zy} (h:Ra rows m (nxM rows m) (Zt m,ZB rows m,Zx m) e' (ZC rows m,Zx m) a'):Ub m (a',st)=e':=by
 obtain ⟨P,Q,h1,h2,h3,h4,h5,h6,h7⟩:=h
 have hB:ZK a'.1 []=e'.2.1:=(Yw _ _).same (h5 (Uw rows m)) (fun x=>by
  rw [YF,h1,h3]
  simp only [List.not_mem_nil,or_false]
  rw [WC]
  have hx:(∃ t ∈ nxM rows m,x ∈ Xg rows m t.1∨x ∈ ZC rows t.2)↔∃ k ∈ Zm rows m 3,x ∈ Xx rows m k:=by
   unfold nxM
   constructor
   ·rintro ⟨t,ht,h⟩
    obtain ⟨k,hk,rfl⟩:=List.mem_map.1 ht
    exact ⟨k,hk,X1.2 h⟩
   rintro ⟨k,hk,h⟩
   exact ⟨_,List.mem_map.2 ⟨k,hk,rfl⟩,X1.1 h⟩
  rw [hx,or_assoc])
 have hF:Yx a'.2=e'.2.2:=Q5 (YQ _) (h6 (VO hs)) (fun y=>by rw [XV,h2,h4])
 unfold Ub
 simp only
 rw [hB,hF,show Zt m=e'.1 from h7.symm]
theorem Dv {rows:List (List I3)} {m:V4} {g:Nat} {rec:V4→Zy→E3 × Zy × Bool} {rec':V4→Zy→E3 × Zy} {L:Nat}:∀ (ts:List (Int × V4)) (e:E3) (a:List I3 × List Int) (st:Zy),
  (∀ t ∈ ts,∀ st:Zy,UpR st.1→(rec t.2 st).2.2=true→Ww rows L st (rec t.2 st).2.1∧(g+(rec t.2 st).2.1.2≤2000→rec' t.2 st=((rec t.2 st).1,(rec t.2 st).2.1)))→UpR st.1→(Yo rec ts e st).2.2=true→g+(Yo rec ts e st).2.1.2≤2000 →
  Ra rows m ts e (Yo rec ts e st).1 a (Wk rows m rec' ts a st).1∧(Wk rows m rec' ts a st).2=(Yo rec ts e st).2.1
 | [],e,a,st,hr,ht,hk,hg=>⟨Ra.nil e a,rfl⟩
 | t::ts,e,a,st,hr,ht,hk,hg=>by
  unfold Yo at hk hg ⊢
  unfold Wk
  by_cases h:(rec t.2 st).2.2=true
  ·rw [if_pos h] at hk hg ⊢
   obtain ⟨h2,h3⟩:=hr t (List.mem_cons_self ..) st ht h
   have h4:=(Tx ts (e.1,ZK e.2.1 (rec t.2 st).1.2.1,Yx (e.2.2++(rec t.2 st).1.2.2)) (rec t.2 st).2.1 (fun t' ht' st' hu hk'=>(hr t' (List.mem_cons_of_mem _ ht') st' hu hk').1) h2.1 hk).2.2.2.1
   rw [h3 (by omega)]
   obtain ⟨q1,q2⟩:=Dv (m:=m) (rec':=rec') ts _ (((a.1++Xg rows m t.1)++ZC rows t.2)++(rec t.2 st).1.2.1,a.2++(rec t.2 st).1.2.2) _ (fun t' ht'=>hr t' (List.mem_cons_of_mem _ ht')) h2.1 hk hg
   exact ⟨Ra.cons (rec t.2 st).1 q1,q2⟩
  rw [if_neg h] at hk
  cases hk
theorem JH {rows:List (List I3)} (hp:Zf rows=true) {g:Nat}:∀ (f:Nat) (m:V4) (st:Zy),Zc m=true→UpR st.1→(ZG rows f m st).2.2=true→g+(ZG rows f m st).2.1.2≤2000→Z7 rows g f m st=((ZG rows f m st).1,(ZG rows f m st).2.1)
 | 0,m,st,hs,ht,hk,hg=>by unfold ZG at hk;cases hk
 | f+1,m,st,hs,ht,hk,hg=>by
  have hstr:=WK hp (f+1) m st hs ht hk
  unfold ZG at hk hg hstr ⊢
  unfold Z7
  by_cases h1:isE st.1 (Zt m)=true
  ·rw [if_pos h1,if_pos h1]
  rw [if_neg h1] at hk hg hstr ⊢
  rw [if_neg h1]
  by_cases h2:st.1.length=2000
  ·rw [if_pos h2] at hk
   cases hk
  rw [if_neg h2] at hk hg hstr ⊢
  have key:=Dv (rows:=rows) (m:=m) (g:=g) (L:=ZR rows m) (rec:=ZG rows f) (rec':=Z7 rows g f) (nxM rows m) (Zt m,ZB rows m,Zx m) (ZC rows m,Zx m) (st.1,st.2+1) (fun t htm st' ht' hk'=>by
   obtain ⟨q1,q2⟩:=XK hp hs t htm
   exact ⟨(WK hp f t.2 st' q1 ht' hk').mono (by omega),fun h9=>JH hp f t.2 st' q1 ht' hk' h9⟩) ht
  have kst:=Tx (rows:=rows) (L:=ZR rows m) (rec:=ZG rows f) (nxM rows m) (Zt m,ZB rows m,Zx m) (st.1,st.2+1) (fun t htm st' ht' hk'=>by
   obtain ⟨q1,q2⟩:=XK hp hs t htm
   exact (WK hp f t.2 st' q1 ht' hk').mono (by omega)) ht
  generalize Yo (ZG rows f) (nxM rows m) (Zt m,ZB rows m,Zx m) (st.1,st.2+1)=R at *
  generalize hK:Wk rows m (Z7 rows g f) (nxM rows m) (ZC rows m,Zx m) (st.1,st.2+1)=K at *
  by_cases h3:R.2.2=true
  ·rw [if_pos h3] at hk hg ⊢
   by_cases h4:R.2.1.1.length=2000
   ·rw [if_pos h4] at hk
    cases hk
   rw [if_neg h4] at hg ⊢
   simp only at hg
   obtain ⟨k1,k2⟩:=key h3 hg
   have k3:=(kst h3).2.2.2.1
   simp only at k3
   rw [if_neg (by omega)]
   have k4:=k1.ent (st:=K.2) hs
   rw [show Ub m K=R.1 from k4,k2]
  rw [if_neg h3] at hk
  cases hk
theorem Dw {rows:List (List I3)} {m:V4} {g:Nat} {rec:V4→Zy→E3 × Zy × Bool} {rec':V4→Zy→E3 × Zy} {L:Nat} (hc:∀ x st,st.2≤(rec' x st).2.2):∀ (ts:List (Int × V4)) (e:E3) (a:List I3 × List Int) (st:Zy),
  (∀ t ∈ ts,∀ st:Zy,UpR st.1→st.1.length≤g+st.2→g+(rec' t.2 st).2.2≤2000→(rec t.2 st).2.2=true∧Ww rows L st (rec t.2 st).2.1∧rec' t.2 st=((rec t.2 st).1,(rec t.2 st).2.1))→UpR st.1→st.1.length≤g+st.2→g+(Wk rows m rec' ts a st).2.2≤2000 →
  (Yo rec ts e st).2.2=true∧Ww rows L st (Yo rec ts e st).2.1∧Ra rows m ts e (Yo rec ts e st).1 a (Wk rows m rec' ts a st).1∧(Wk rows m rec' ts a st).2=(Yo rec ts e st).2.1
 | [],e,a,st,hr,ht,hl,hg=>⟨rfl,Ww.refl ht,Ra.nil e a,rfl⟩
 | t::ts,e,a,st,hr,ht,hl,hg=>by
  unfold Wk at hg ⊢
  have hg1:=Nat.le_trans (Nat.add_le_add_left (S5 (rows:=rows) (m:=m) hc ts (((a.1++Xg rows m t.1)++ZC rows t.2)++(rec' t.2 st).1.2.1,a.2++(rec' t.2 st).1.2.2) (rec' t.2 st).2) g) hg
  obtain ⟨h1,h2,h3⟩:=hr t (List.mem_cons_self ..) st ht hl hg1
  rw [h3] at hg ⊢
  unfold Yo
  rw [if_pos h1]
  have h5:=h2.2.2.2.2
  obtain ⟨q0,q1,q2,q3⟩:=Dw (L:=L) (rec:=rec) hc ts (e.1,ZK e.2.1 (rec t.2 st).1.2.1,Yx (e.2.2++(rec t.2 st).1.2.2)) _ _ (fun t' ht'=>hr t' (List.mem_cons_of_mem _ ht')) h2.1 (by omega) hg
  exact ⟨q0,h2.trans q1,Ra.cons (rec t.2 st).1 q2,q3⟩
theorem Mr {rows:List (List I3)} (hp:Zf rows=true) {g:Nat}:∀ (f:Nat) (m:V4) (st:Zy),Zc m=true→ZR rows m<f→UpR st.1→st.1.length≤g+st.2→g+(Z7 rows g f m st).2.2≤2000→(ZG rows f m st).2.2=true∧Z7 rows g f m st=((ZG rows f m st).1,(ZG rows f m st).2.1)
 | 0,m,st,hs,hf,ht,hl,hg=>by omega
 | f+1,m,st,hs,hf,ht,hl,hg=>by
  unfold Z7 at hg ⊢
  unfold ZG
  by_cases h1:isE st.1 (Zt m)=true
  ·rw [if_pos h1,if_pos h1]
   exact ⟨rfl,rfl⟩
  rw [if_neg h1] at hg ⊢
  rw [if_neg h1]
  by_cases h0:2000<g+(st.2+1)
  ·rw [if_pos h0] at hg
   simp only at hg
   omega
  rw [if_neg h0] at hg ⊢
  simp only at hg
  rw [if_neg (show ¬ st.1.length=2000 by omega)]
  obtain ⟨k0,k1,k2,k3⟩:=Dw (rows:=rows) (m:=m) (g:=g) (L:=ZR rows m) (rec:=ZG rows f) (rec':=Z7 rows g f) (fun x st=>Pi f x st) (nxM rows m) (Zt m,ZB rows m,Zx m) (ZC rows m,Zx m) (st.1,st.2+1) (fun t htm st' ht' hl' hg'=>by
   obtain ⟨q1,q2⟩:=XK hp hs t htm
   obtain ⟨r1,r2⟩:=Mr hp f t.2 st' q1 (by omega) ht' hl' hg'
   exact ⟨r1,(WK hp f t.2 st' q1 ht' r1).mono (by omega),r2⟩) ht (by show st.1.length≤g+(st.2+1);omega) hg
  generalize Yo (ZG rows f) (nxM rows m) (Zt m,ZB rows m,Zx m) (st.1,st.2+1)=R at *
  generalize hK:Wk rows m (Z7 rows g f) (nxM rows m) (ZC rows m,Zx m) (st.1,st.2+1)=K at *
  rw [if_pos k0]
  have k5:=k1.2.2.2.2
  simp only at k5
  rw [k3] at hg
  rw [if_neg (by omega)]
  have k4:=k2.ent (st:=K.2) hs
  rw [show Ub m K=R.1 from k4,k3]
  exact ⟨rfl,rfl⟩
theorem LP {rows:List (List I3)} (hp:Zf rows=true) {f:Nat} {m:V4} {es:List E3} (hs:Zc m=true) (hf:ZR rows m<f) (ht:UpR es):
  (es.length+(Z7 rows es.length f m (es,0)).2.2≤2000→(ZG rows f m (es,0)).2.2=true∧Z7 rows es.length f m (es,0)=((ZG rows f m (es,0)).1,(ZG rows f m (es,0)).2.1)) ∧
  (¬ es.length+(Z7 rows es.length f m (es,0)).2.2≤2000→(ZG rows f m (es,0)).2.2=false):=by
 refine ⟨fun h=>Mr hp f m (es,0) hs hf ht (by simp) h,fun h=>?_⟩
 cases hk:(ZG rows f m (es,0)).2.2
 ·rfl
 exfalso
 have h1:=WK hp f m (es,0) hs ht hk
 have h2:=h1.2.2.2.2
 have h3:=h1.1.few
 simp only at h2
 have h4:=JH hp (g:=es.length) f m (es,0) hs ht hk (by omega)
 rw [h4] at h
 simp only at h
 omega


theorem Nr {xs:List I3} (h:UN xs=true):∀ x ∈ xs,okB x=true:=by
 intro x hx
 obtain ⟨t,ht,rfl⟩:=List.getElem_of_mem hx
 have:=Uo h ht
 simp only [Mw,Bool.and_eq_true] at this
 simpa [List.getD,List.getElem?_eq_getElem ht] using this.1
theorem Gj {x:I3} (h:okB x=true):(0≤x.1∧x.1≤14)∧(0≤x.2.1∧x.2.1≤2)∧0≤x.2.2∧x.2.2≤5:=by
 unfold okB at h
 split at h
 ·simp only [Bool.and_eq_true,decide_eq_true_eq] at h
  omega
 split at h
 ·simp only [Bool.and_eq_true,inB,decide_eq_true_eq] at h
  omega
 cases h
theorem KL {xs:List Int} (h:TW xs=true):∀ x ∈ xs,0≤x∧x≤22:=by
 intro x hx
 obtain ⟨t,ht,rfl⟩:=List.getElem_of_mem hx
 have:=(Q2 h t ht).2
 simp only [List.getD,List.getElem?_eq_getElem ht,Option.getD_some,Wj,decide_eq_true_eq] at this
 omega
theorem Wd {e:E3} (h:YY e=true):Wz e.1=true∧UN e.2.1=true∧TW e.2.2=true∧e.2.1.length≤30:=by
 simp only [YY,Bool.and_eq_true,decide_eq_true_eq] at h
 exact h


def YL (e:E3):Prop:=YD e.2.1∧(∀ x ∈ e.2.1,okB x=true)∧e.2.2.Pairwise (· < ·)∧∀ y ∈ e.2.2,Wj y=true
theorem Wy:YL e3d:=⟨List.Pairwise.nil,by simp [e3d],List.Pairwise.nil,by simp [e3d]⟩
def nmB (x:I3):Int:=if x.1=14 then 0 else (x.1 - 12)*18+(x.2.1*6+x.2.2+1)
theorem C3 {x:I3} (h:okB x=true):0≤nmB x∧nmB x≤36:=by
 unfold okB inB at h
 unfold nmB
 split at h
 ·rename_i h1;rw [if_pos h1];omega
 rename_i h1
 rw [if_neg h1]
 split at h
 ·simp at h;omega
 cases h
theorem DZ {x y:I3} (h:okB x=true) (h':okB y=true) (e:nmB x=nmB y):x=y:=by
 obtain ⟨a,b,c⟩:=x
 obtain ⟨a',b',c'⟩:=y
 unfold okB inB at h h'
 unfold nmB at e
 simp only at h h' e
 by_cases h1:a=14<;>by_cases h2:a'=14
 ·rw [if_pos h1] at h;rw [if_pos h2] at h'
  simp at h h'
  obtain ⟨rfl,rfl⟩:=h
  obtain ⟨rfl,rfl⟩:=h'
  rw [h1,h2]
 ·rw [if_pos h1] at h e;rw [if_neg h2] at h' e
  split at h'
  ·simp at h';exfalso;omega
  cases h'
 ·rw [if_neg h1] at h e;rw [if_pos h2] at h' e
  split at h
  ·simp at h;exfalso;omega
  cases h
 rw [if_neg h1] at h e;rw [if_neg h2] at h' e
 split at h
 ·split at h'
  ·simp at h h'
   have e1:a=a':=by omega
   have e2:b=b':=by omega
   have e3:c=c':=by omega
   rw [e1,e2,e3]
  cases h'
 cases h
theorem QN {f:I3→Int}:∀ {xs:List I3},xs.Nodup→(∀ x ∈ xs,∀ y ∈ xs,f x=f y→x=y)→(xs.map f).Nodup
 | [],_,_=>List.nodup_nil
 | x::xs,hn,hc=>by
  obtain ⟨h1,h2⟩:=List.nodup_cons.1 hn
  rw [List.map_cons,List.nodup_cons]
  refine ⟨fun hm=>?_,QN h2 (fun y hy z hz=>hc y (List.mem_cons_of_mem _ hy) z (List.mem_cons_of_mem _ hz))⟩
  obtain ⟨y,hy,e⟩:=List.mem_map.1 hm
  have:=hc x (List.mem_cons_self ..) y (List.mem_cons_of_mem _ hy) e.symm
  subst this
  exact h1 hy
theorem YD.nodup11 {xs:List I3} (h:YD xs):xs.Nodup:=h.imp (fun h e=>by subst e;rw [VC] at h;cases h)
theorem YL.bugs {e:E3} (h:YL e):e.2.1.length≤37:=by
 have h1:=Ng (QN h.1.nodup11 (f:=nmB) (fun x hx y hy=>DZ (h.2.1 x hx) (h.2.1 y hy))) (a:=0) (b:=36) (fun y hy=>by
  obtain ⟨x,hx,rfl⟩:=List.mem_map.1 hy
  exact C3 (h.2.1 x hx))
 rw [List.length_map] at h1
 omega
theorem YL.foot {e:E3} (h:YL e):e.2.2.length≤23:=by
 have h1:=Q4 e.2.2 0 22 h.2.2.1 (fun x hx=>by
  have:=h.2.2.2 x hx
  unfold Wj at this
  simp only [decide_eq_true_eq] at this
  omega)
 omega
theorem YL.merge {e f:E3} (h:YL e) (h':YL f) (k:ByteArray):YL (k,ZK e.2.1 f.2.1,Yx (e.2.2++f.2.2)):=
 ⟨Yw _ _,fun x hx=>by
  rcases YF.1 hx with h9 | h9
  ·exact h.2.1 x h9
  ·exact h'.2.1 x h9,YQ _,fun y hy=>by
  rcases List.mem_append.1 ((XV _ y).1 hy) with h9 | h9
  ·exact h.2.2.2 y h9
  exact h'.2.2.2 y h9⟩
theorem Qq {rows:List (List I3)} (hp:Zf rows=true) {m:V4} (hs:Zc m=true) (k:ByteArray):YL (k,ZB rows m,Zx m):=⟨Uw rows m,(DV hp hs).1,VO hs,look_ok hs⟩
theorem Nq {xs:List I3} (h:UN xs=true):∀ {j i:Nat},i<j→j<xs.length→ltB (xs.getD i (0,0,0)) (xs.getD j (0,0,0))=true
 | 0,i,hi,_=>by omega
 | j+1,i,hi,hj=>by
  have hn:=Uo h hj
  simp only [Mw,Bool.and_eq_true,Bool.or_eq_true,decide_eq_true_eq] at hn
  have hn2:ltB (xs.getD j (0,0,0)) (xs.getD (j+1) (0,0,0))=true:=by
   rcases hn.2 with h0 | h1
   ·omega
   simpa using h1
  by_cases e:i=j
  ·rw [e];exact hn2
  exact Uf (Nq h (j:=j) (i:=i) (by omega) (by omega)) hn2
theorem Ns {xs:List Int} (h:TW xs=true):∀ {j i:Nat},i<j→j<xs.length→xs.getD i 0<xs.getD j 0
 | 0,i,hi,_=>by omega
 | j+1,i,hi,hj=>by
  have hn:=Uo h hj
  simp only [P0,Bool.and_eq_true,Bool.or_eq_true,decide_eq_true_eq] at hn
  have hn2:xs.getD j 0<xs.getD (j+1) 0:=by
   rcases hn.2 with h0 | h1
   ·omega
   simpa using h1
  by_cases e:i=j
  ·rw [e];exact hn2
  exact Int.lt_trans (Ns h (j:=j) (i:=i) (by omega) (by omega)) hn2
theorem FY {xs:List I3} (h:UN xs=true):YD xs:=by
 refine List.pairwise_iff_getElem.2 (fun i j hi hj hij=>?_)
 have:=Nq h hij hj
 simpa [List.getD,List.getElem?_eq_getElem hi,List.getElem?_eq_getElem hj] using this
theorem FZ {xs:List Int} (h:TW xs=true):xs.Pairwise (· < ·):=by
 refine List.pairwise_iff_getElem.2 (fun i j hi hj hij=>?_)
 have:=Ns h hij hj
 simpa [List.getD,List.getElem?_eq_getElem hi,List.getElem?_eq_getElem hj] using this
theorem Gy {xs:List Int} (h:TW xs=true):∀ x ∈ xs,Wj x=true:=by
 intro x hx
 obtain ⟨t,ht,rfl⟩:=List.getElem_of_mem hx
 have:=(Q2 h t ht).2
 simpa [List.getD,List.getElem?_eq_getElem ht] using this
theorem R3 {e:E3} (h:YY e=true):YL e:=by
 obtain ⟨_,h2,h3,_⟩:=Wd h
 refine ⟨?_,Nr h2,?_,?_⟩
 ·exact FY h2
 ·exact FZ h3
 exact Gy h3
theorem LO {rows:List (List I3)} {rec:V4→Zy→E3 × Zy × Bool}:∀ (ts:List (Int × V4)) (e:E3) (st:Zy),(∀ t ∈ ts,∀ st:Zy,(∀ x ∈ st.1,YL x)→YL (rec t.2 st).1∧∀ x ∈ (rec t.2 st).2.1.1,YL x)→(∀ x ∈ st.1,YL x)→YL e→YL (Yo rec ts e st).1∧∀ x ∈ (Yo rec ts e st).2.1.1,YL x
 | [],e,st,hr,ht,he=>⟨he,ht⟩
 | t::ts,e,st,hr,ht,he=>by
  obtain ⟨h1,h2⟩:=hr t (List.mem_cons_self ..) st ht
  unfold Yo
  split
  ·exact LO (rows:=rows) ts _ _ (fun t' ht'=>hr t' (List.mem_cons_of_mem _ ht')) h2 (he.merge h1 _)
  exact ⟨Wy,h2⟩
theorem Qe {rows:List (List I3)} (hp:Zf rows=true):∀ (f:Nat) (m:V4) (st:Zy),Zc m=true→(∀ x ∈ st.1,YL x)→YL (ZG rows f m st).1∧∀ x ∈ (ZG rows f m st).2.1.1,YL x
 | 0,m,st,hs,ht=>by unfold ZG;exact ⟨Wy,ht⟩
 | f+1,m,st,hs,ht=>by
  obtain ⟨k1,k2⟩:=LO (rows:=rows) (rec:=ZG rows f) (nxM rows m) (Zt m,ZB rows m,Zx m) (st.1,st.2+1) (fun t htm st' ht'=>Qe hp f t.2 st' (XK hp hs t htm).1 ht') ht (Qq hp hs _)
  unfold ZG
  by_cases h1:isE st.1 (Zt m)=true
  ·rw [if_pos h1]
   refine ⟨?_,ht⟩
   have hi:=h1
   simp only [isE,Bool.and_eq_true,decide_eq_true_eq] at hi
   show YL (Vz st.1 (Zt m))
   unfold Vz
   rw [if_pos h1,Y5 hi.1]
   exact ht _ (List.getElem_mem _)
  rw [if_neg h1]
  by_cases h2:st.1.length=2000
  ·rw [if_pos h2]
   exact ⟨Wy,ht⟩
  rw [if_neg h2]
  generalize Yo (ZG rows f) (nxM rows m) (Zt m,ZB rows m,Zx m) (st.1,st.2+1)=R at *
  by_cases h3:R.2.2=true
  ·rw [if_pos h3]
   by_cases h4:R.2.1.1.length=2000
   ·rw [if_pos h4]
    exact ⟨Wy,k2⟩
   rw [if_neg h4]
   refine ⟨k1,fun x hx=>?_⟩
   rcases WI hx with h9 | h9
   ·rw [h9];exact k1
   exact k2 x h9
  rw [if_neg h3]
  exact ⟨Wy,k2⟩


theorem Rf {rows:List (List I3)} (hp:Zf rows=true) (h:(ZL rows).length≤2000) (x:V4):x ∈ (ZL rows).map (·.1)↔x ∈ ZT rows 18 Zu:=by
 constructor
 ·intro hx
  obtain ⟨r,hr,rfl⟩:=List.mem_map.1 hx
  obtain ⟨j,hj,hje⟩:=List.getElem_of_mem hr
  obtain ⟨p1,p2,p3⟩:=QW (Qw rows) (VA rows) j j r (Nat.le_refl _) (by rw [List.getElem?_eq_getElem hj,hje])
  have hlen:=Mn hp _ Zu [] ZJ p2
  have h18:=Wt hp Zu
  unfold ZR at h18
  have:=Pg 18 _ Zu [] (show (UM (ZL rows) j j).length≤18 by omega) p2
  rw [p1] at this
  exact this
 refine Un (fun y=>y ∈ (ZL rows).map (·.1)) (fun y hy t ht=>?_) 18 Zu ?_ x
 ·obtain ⟨r,hr,rfl⟩:=List.mem_map.1 hy
  exact Us h r hr t ht
 exact List.mem_map.2 ⟨(Zu,0,0),List.mem_of_getElem? (VA rows),rfl⟩
theorem SD {C:List V4} {es:List E3} (h:UpE es) (hk:∀ e ∈ es,∃ s ∈ C,e.1=Zt s):es.length≤C.length:=by
 have h1:(es.map (·.1)).Nodup:=by
  unfold UpE at h
  rw [List.Nodup,List.pairwise_map]
  exact h.imp (fun h9 e=>by rw [e,VD] at h9;cases h9)
 have h2:=Th (es.map (·.1)) (C.map Zt) h1 (fun k hx=>by
  obtain ⟨e,he,rfl⟩:=List.mem_map.1 hx
  obtain ⟨s,hs,h9⟩:=hk e he
  exact List.mem_map.2 ⟨s,hs,h9.symm⟩)
 simpa using h2
theorem Ry {rows:List (List I3)} {P:Zy→Prop} {rec:V4→Zy→E3 × Zy × Bool}:∀ (ts:List (Int × V4)) (e:E3) (st:Zy),(∀ t ∈ ts,∀ st:Zy,P st→(rec t.2 st).2.2=true∧P (rec t.2 st).2.1)→P st→(Yo rec ts e st).2.2=true∧P (Yo rec ts e st).2.1
 | [],e,st,hr,ht=>⟨rfl,ht⟩
 | t::ts,e,st,hr,ht=>by
  obtain ⟨h1,h2⟩:=hr t (List.mem_cons_self ..) st ht
  unfold Yo
  rw [if_pos h1]
  exact Ry (rows:=rows) ts _ _ (fun t' ht'=>hr t' (List.mem_cons_of_mem _ ht')) h2
theorem Pn {rows:List (List I3)} {C:List V4} (hC:∀ x ∈ C,∀ t ∈ nxM rows x,t.2 ∈ C) (hfew:C.length≤1999) (hl:∀ x ∈ C,∀ t ∈ nxM rows x,ZR rows t.2<ZR rows x) :
  ∀ (f:Nat) (m:V4) (st:Zy),m ∈ C→ZR rows m<f→(UpR st.1∧∀ e ∈ st.1,∃ s ∈ C,e.1=Zt s)→(ZG rows f m st).2.2=true∧(UpR (ZG rows f m st).2.1.1∧∀ e ∈ (ZG rows f m st).2.1.1,∃ s ∈ C,e.1=Zt s)
 | 0,m,st,hm,hf,ht=>by omega
 | f+1,m,st,hm,hf,ht=>by
  have h9:=SD ht.1.up ht.2
  obtain ⟨k0,k1⟩:=Ry (rows:=rows) (P:=fun st=>UpR st.1∧∀ e ∈ st.1,∃ s ∈ C,e.1=Zt s) (rec:=ZG rows f) (nxM rows m) (Zt m,ZB rows m,Zx m) (st.1,st.2+1) (fun t htm st' ht'=>Pn hC hfew hl f t.2 st' (hC m hm t htm) (by have:=hl m hm t htm;omega) ht') ht
  have k2:=S6 (ZG rows f) (nxM rows m) (Zt m,ZB rows m,Zx m) (st.1,st.2+1) k0
  unfold ZG
  by_cases h1:isE st.1 (Zt m)=true
  ·rw [if_pos h1]
   exact ⟨rfl,ht⟩
  rw [if_neg h1,if_neg (show ¬ st.1.length=2000 by omega)]
  generalize Yo (ZG rows f) (nxM rows m) (Zt m,ZB rows m,Zx m) (st.1,st.2+1)=R at *
  have h8:=SD k1.1.up k1.2
  rw [if_pos k0,if_neg (show ¬ R.2.1.1.length=2000 by omega)]
  refine ⟨rfl,Ml k1.1 (.inr (by omega)),fun e he=>?_⟩
  rcases WI he with h7 | h7
  ·exact ⟨m,hm,by rw [h7];exact k2⟩
  exact k1.2 e h7
def Sg (rows:List (List I3)) (es:List E3):Prop:=∀ s,Zc s=true→Yr rows 18 s ∈ es→∀ t ∈ nxM rows s,Yr rows 18 t.2 ∈ es
theorem NB {rows:List (List I3)} {L:Nat} {rec:V4→Zy→E3 × Zy × Bool}:∀ (ts:List (Int × V4)) (e:E3) (st:Zy),
  (∀ t ∈ ts,∀ st:Zy,Wp rows st.1→Sg rows st.1→(rec t.2 st).2.2=true→Xk rows L st (rec t.2 st).2.1∧Sg rows (rec t.2 st).2.1.1∧Yr rows 18 t.2 ∈ (rec t.2 st).2.1.1)→Wp rows st.1→Sg rows st.1→(Yo rec ts e st).2.2=true →
  Xk rows L st (Yo rec ts e st).2.1∧Sg rows (Yo rec ts e st).2.1.1∧∀ t ∈ ts,Yr rows 18 t.2 ∈ (Yo rec ts e st).2.1.1
 | [],e,st,hr,ht,hc,hk=>⟨Xk.refl ht,hc,by simp⟩
 | t::ts,e,st,hr,ht,hc,hk=>by
  unfold Yo at hk ⊢
  by_cases h:(rec t.2 st).2.2=true
  ·rw [if_pos h] at hk ⊢
   obtain ⟨h1,h2,h3⟩:=hr t (List.mem_cons_self ..) st ht hc h
   obtain ⟨q1,q2,q3⟩:=NB (L:=L) ts (e.1,ZK e.2.1 (rec t.2 st).1.2.1,Yx (e.2.2++(rec t.2 st).1.2.2)) _ (fun t' ht'=>hr t' (List.mem_cons_of_mem _ ht')) h1.1 h2 hk
   refine ⟨h1.trans q1,q2,fun t' ht'=>?_⟩
   rcases List.mem_cons.1 ht' with h9 | h9
   ·rw [h9];exact q1.2.1 _ h3
   exact q3 t' h9
  rw [if_neg h] at hk
  cases hk
theorem Pm {rows:List (List I3)} (hp:Zf rows=true):∀ (f:Nat) (m:V4) (st:Zy),Zc m=true→ZR rows m<f→Wp rows st.1→Sg rows st.1→(ZG rows f m st).2.2=true→Sg rows (ZG rows f m st).2.1.1
 | 0,m,st,hs,hf,ht,hc,hk=>by omega
 | f+1,m,st,hs,hf,ht,hc,hk=>by
  have hall:=NE hp (f:=f+1) hs hf ht hk
  unfold ZG at hk hall ⊢
  by_cases h1:isE st.1 (Zt m)=true
  ·rw [if_pos h1]
   exact hc
  rw [if_neg h1] at hk hall ⊢
  by_cases h2:st.1.length=2000
  ·rw [if_pos h2] at hk
   cases hk
  rw [if_neg h2] at hk hall ⊢
  have key:=NB (rows:=rows) (L:=ZR rows m) (rec:=ZG rows f) (nxM rows m) (Zt m,ZB rows m,Zx m) (st.1,st.2+1) (fun t htm st' ht' hc' hk'=>by
   obtain ⟨q1,q2⟩:=XK hp hs t htm
   obtain ⟨_,r2,r3⟩:=NE hp (f:=f) q1 (by omega) ht' hk'
   exact ⟨r2.mono (by omega),Pm hp f t.2 st' q1 (by omega) ht' hc' hk',r3⟩) ht hc
  generalize Yo (ZG rows f) (nxM rows m) (Zt m,ZB rows m,Zx m) (st.1,st.2+1)=R at *
  by_cases h3:R.2.2=true
  ·rw [if_pos h3] at hk hall ⊢
   by_cases h4:R.2.1.1.length=2000
   ·rw [if_pos h4] at hk
    cases hk
   rw [if_neg h4] at hall ⊢
   obtain ⟨k1,k2,k3⟩:=key h3
   have e1:R.1=Yr rows 18 m:=hall.1
   have hin:∀ e ∈ R.2.1.1,e ∈ XE R.2.1.1 R.1∨e.1=R.1.1:=fun e he=>by
    by_cases h9:e.1=R.1.1
    ·exact .inr h9
    left
    have hU:UpE R.2.1.1:=(Ph k1.1.1).up
    unfold XE
    simp only [List.mem_append,List.mem_singleton]
    cases hi:isE R.2.1.1 R.1.1
    ·simp only [Bool.false_eq_true,if_false]
     rw [← List.take_append_drop (Yf R.2.1.1 R.1.1) R.2.1.1] at he
     rcases List.mem_append.1 he with h8 | h8
     ·exact .inl (.inl h8)
     exact .inr h8
    simp only [if_true]
    simp only [isE,Bool.and_eq_true,decide_eq_true_eq] at hi
    rw [← List.take_append_drop (Yf R.2.1.1 R.1.1) R.2.1.1] at he
    rcases List.mem_append.1 he with h8 | h8
    ·exact .inl (.inl h8)
    rw [List.drop_eq_getElem_cons hi.1] at h8
    rcases List.mem_cons.1 h8 with h7 | h7
    ·exfalso
     have h6:=hi.2
     rw [Y5 hi.1] at h6
     exact h9 (by rw [h7];exact h6)
    exact .inr h7
   have hself:R.1 ∈ XE R.2.1.1 R.1:=by unfold XE;simp
   have hin2:∀ s,Zc s=true→Yr rows 18 s ∈ R.2.1.1→Yr rows 18 s ∈ XE R.2.1.1 R.1:=fun s h5 h6=>by
    rcases hin _ h6 with h7 | h7
    ·exact h7
    have h8:s=m:=XU h5 hs (by rw [e1] at h7;exact h7)
    rw [h8,← e1]
    exact hself
   intro s h5 h6 t htm
   rcases WI h6 with h7 | h7
   ·have h8:s=m:=XU h5 hs (by rw [e1] at h7;exact congrArg (·.1) h7)
    subst h8
    exact hin2 _ (XK hp h5 t htm).1 (k3 t htm)
   exact hin2 _ (XK hp h5 t htm).1 (k2 s h5 h7 t htm)
  rw [if_neg h3] at hk
  cases hk
theorem Re {rows:List (List I3)} (hp:Zf rows=true) (h:(ZL rows).length≤1999) :
  (ZG rows 19 Zu ([],0)).2.2=true∧(ZG rows 19 Zu ([],0)).1=Yr rows 18 Zu∧Wp rows (ZG rows 19 Zu ([],0)).2.1.1∧(ZG rows 19 Zu ([],0)).2.1.2=(ZL rows).length∧(ZG rows 19 Zu ([],0)).2.1.1.length=(ZL rows).length∧(ZG rows 19 Zu ([],0)).1.2.1=UU rows (ZL rows):=by
 have hf:ZR rows Zu<19:=Nat.lt_succ_of_le (Wt hp Zu)
 have hsh:=Su hp
 have hm0:Zu ∈ (ZL rows).map (·.1):=List.mem_map.2 ⟨(Zu,0,0),List.mem_of_getElem? (VA rows),rfl⟩
 have hS:∀ x ∈ (ZL rows).map (·.1),Zc x=true:=fun x hx=>by
  obtain ⟨r,hr,rfl⟩:=List.mem_map.1 hx
  exact hsh r hr
 have hC:∀ x ∈ (ZL rows).map (·.1),∀ t ∈ nxM rows x,t.2 ∈ (ZL rows).map (·.1):=fun x hx t ht=>by
  obtain ⟨r,hr,rfl⟩:=List.mem_map.1 hx
  exact Us (by omega) r hr t ht
 have hnil:Wp rows []:=⟨rfl,by simp⟩
 obtain ⟨k0,k1,k2⟩:=Pn hC (by rw [List.length_map];omega) (fun x hx t ht=>(XK hp (hS x hx) t ht).2) 19 Zu ([],0) hm0 hf ⟨TM,by simp⟩
 obtain ⟨r1,r2,r3⟩:=NE hp (f:=19) (st:=([],0)) ZJ hf hnil k0
 have hcl:=Pm hp 19 Zu ([],0) ZJ hf hnil (by intro s _ h9;simp at h9) k0
 have hl:=r2.2.2.2
 simp only [List.length_nil,Nat.zero_add,Nat.add_zero] at hl
 generalize ZG rows 19 Zu ([],0)=r at *
 have hle:=SD k1.up k2
 rw [List.length_map] at hle
 have hall:∀ x ∈ (ZL rows).map (·.1),Yr rows 18 x ∈ r.2.1.1:=fun x hx=>by
  have hx2:=(Rf hp (by omega) x).1 hx
  exact (Un (fun y=>Zc y=true∧Yr rows 18 y ∈ r.2.1.1) (fun y hy t ht=>⟨(XK hp hy.1 t ht).1,hcl y hy.1 hy.2 t ht⟩) 18 Zu ⟨ZJ,r3⟩ x hx2).2
 have hge:(ZL rows).length≤r.2.1.1.length:=by
  have h1:(((ZL rows).map (·.1)).map Zt).Nodup:=by
   have hnd:=RE rows
   rw [List.Nodup,List.pairwise_map]
   refine List.Pairwise.imp_of_mem (fun {a b} ha hb hne e=>hne (XU (hS a ha) (hS b hb) e)) hnd
  have h2:=Th _ (r.2.1.1.map (·.1)) h1 (fun k hk=>by
   obtain ⟨x,hx,rfl⟩:=List.mem_map.1 hk
   exact List.mem_map.2 ⟨Yr rows 18 x,hall x hx,rfl⟩)
  simpa using h2
 refine ⟨k0,r1,r2.1,by omega,by omega,?_⟩
 rw [r1]
 show cmB rows 18 Zu=UU rows (ZL rows)
 rw [← Fb (show (ZL rows).length≤2000 by omega)]
 refine (Wx rows 18 Zu).same (To _ _ List.Pairwise.nil) (fun x=>?_)
 rw [VP]
 unfold DC
 rw [Rk]
 constructor
 ·rintro ⟨s,h1,h2⟩
  obtain ⟨q,hq,rfl⟩:=List.mem_map.1 ((Rf hp (by omega) s).2 h1)
  exact .inr ⟨q,hq,h2⟩
 rintro (h1 | ⟨q,hq,h2⟩)
 ·simp at h1
 exact ⟨q.1,(Rf hp (by omega) q.1).1 (List.mem_map.2 ⟨q,hq,rfl⟩),h2⟩


def WZ (rows rows':List (List I3)) (s:V4):Prop:=∀ k,k<3→(Yg rows k)[(s.1.getD k 0).toNat]?=(Yg rows' k)[(s.1.getD k 0).toNat]?
section
variable {rows rows' : List (List I3)} {s : V4}
theorem C6 (hs:Zc s=true) {k:Nat} (hk:k<3):s.1.getD k 0=(((s.1.getD k 0).toNat:Nat):Int):=by
 have h:=VM (Ym hs).1 (by decide) k
 omega
theorem WZ.done (h:WZ rows rows' s) (hs:Zc s=true) {k:Nat} (hk:k<3):Ya rows s k=Ya rows' s k:=by
 have e:=C6 hs hk
 have h1:=h k hk
 unfold Ya
 generalize (s.1.getD k 0).toNat=p at *
 rw [e]
 have a:∀ l:List I3,decide ((l.length:Int)≤(p:Int))=decide (l[p]?=none):=fun l=>by
  by_cases h9:l.length≤p
  ·rw [decide_eq_true (by omega),decide_eq_true (List.getElem?_eq_none h9)]
  rw [decide_eq_false (by omega),decide_eq_false (by rw [List.getElem?_eq_none_iff];exact h9)]
 rw [a,a,h1]
theorem WZ.ins (h:WZ rows rows' s) {k:Nat} (hk:k<3):Xa rows s k=Xa rows' s k:=by
 have h1:=h k hk
 unfold Xa
 generalize (s.1.getD k 0).toNat=p at *
 unfold List.getD
 rw [h1]
theorem WZ.can (h:WZ rows rows' s) (hs:Zc s=true) {k:Nat} (hk:k<3):YH rows s k=YH rows' s k:=by
 unfold YH
 rw [h.done hs hk,h.ins hk]
theorem WZ.enab (h:WZ rows rows' s) (hs:Zc s=true):∀ j,j≤3→Zm rows s j=Zm rows' s j
 | 0,_=>rfl
 | j+1,hj=>by
  have ih:=h.enab hs j (by omega)
  unfold Zm
  rw [h.can hs (by omega),ih]
theorem WZ.stuck (h:WZ rows rows' s) (hs:Zc s=true):YS rows s=YS rows' s:=by
 unfold YS
 rw [h.enab hs 3 (Nat.le_refl _)]
 congr 1
 rw [Xm rows s (show 0<3 by omega),Xm rows s (show 1<3 by omega),Xm rows s (show 2<3 by omega),Ue,Xm rows' s (show 0<3 by omega),Xm rows' s (show 1<3 by omega),Xm rows' s (show 2<3 by omega),Ue,h.done hs (show 0<3 by omega),h.done hs (show 1<3 by omega),h.done hs (show 2<3 by omega)]
theorem DK {k:Int} (hk:k ∈ Zm rows s 3):k.toNat<3:=by
 obtain ⟨h0,h2,_⟩:=XB (Xe hk)
 omega
theorem WZ.go (h:WZ rows rows' s) {k:Int} (hk:k ∈ Zm rows s 3):goM rows s k=goM rows' s k:=by
 unfold goM
 rw [h.ins (DK hk)]
theorem WZ.nx (h:WZ rows rows' s) (hs:Zc s=true):nxM rows s=nxM rows' s:=by
 unfold nxM
 rw [← h.enab hs 3 (Nat.le_refl _)]
 exact List.map_congr_left (fun k hk=>by rw [h.go hk])
theorem WZ.dead (h:WZ rows rows' s) (hs:Zc s=true):ZC rows s=ZC rows' s:=by
 unfold ZC
 rw [h.stuck hs]
theorem WZ.own (h:WZ rows rows' s) {k:Int} (hk:k ∈ Zm rows s 3):Xg rows s k=Xg rows' s k:=by
 unfold Xg
 rw [h.go hk]
end
theorem Pf {rows rows':List (List I3)} (hp:Zf rows=true):∀ (f:Nat) (m:V4),Zc m=true→(∀ x ∈ ZT rows f m,WZ rows rows' x)→ZT rows f m=ZT rows' f m
 | 0,m,hs,h=>rfl
 | f+1,m,hs,h=>by
  have hm:=h m (Vq rows (f+1) m)
  simp only [ZT]
  rw [← hm.nx hs]
  congr 1
  have hx:∀ t ∈ nxM rows m,ZT rows f t.2=ZT rows' f t.2:=fun t ht=>Pf hp f t.2 (XK hp hs t ht).1 (fun x hx=>h x (by
   simp only [ZT,List.mem_cons,List.mem_flatMap]
   exact .inr ⟨t,ht,hx⟩))
  generalize nxM rows m=ts at *
  clear hm h
  induction ts with
  | nil=>rfl
  | cons t ts ih =>
   rw [List.flatMap_cons,List.flatMap_cons,hx t (List.mem_cons_self ..),ih (fun t' ht'=>hx t' (List.mem_cons_of_mem _ ht'))]
theorem RZ {rows rows':List (List I3)} (hp:Zf rows=true) {s:V4} (hs:Zc s=true) (h:WZ rows rows' s) (hn:∀ t ∈ nxM rows s,WZ rows rows' t.2) (x:I3):x ∈ ZB rows s↔x ∈ ZB rows' s:=by
 rw [WC,WC,← h.enab hs 3 (Nat.le_refl _),h.dead hs]
 have hk:∀ k ∈ Zm rows s 3,(x ∈ Xx rows s k↔x ∈ Xx rows' s k):=fun k hk=>by
  have ht:((k,(goM rows s k).1):Int × V4) ∈ nxM rows s:=by unfold nxM;exact List.mem_map.2 ⟨k,hk,rfl⟩
  have h1:=hn _ ht
  have h2:=(XK hp hs _ ht).1
  rw [X1,X1,h.own hk,← h.go hk,h1.dead h2]
 constructor
 ·rintro (h9 | ⟨k,h9,h8⟩)
  ·exact .inl h9
  exact .inr ⟨k,h9,(hk k h9).1 h8⟩
 rintro (h9 | ⟨k,h9,h8⟩)
 ·exact .inl h9
 exact .inr ⟨k,h9,(hk k h9).2 h8⟩
theorem Kf {rows rows':List (List I3)} (hp:Zf rows=true) {m:V4} (hs:Zc m=true) (h:∀ x ∈ ZT rows 18 m,WZ rows rows' x):Yr rows 18 m=Yr rows' 18 m:=by
 have ht:=Pf hp 18 m hs h
 have hB:cmB rows 18 m=cmB rows' 18 m:=(Wx rows 18 m).same (Wx rows' 18 m) (fun x=>by
  rw [VP,VP,← ht]
  have key:∀ s ∈ ZT rows 18 m,(x ∈ ZB rows s↔x ∈ ZB rows' s):=fun s hs9=>RZ hp (UK hp hs s hs9) (h s hs9) (fun t htn=>h _ (Wh hp 18 m hs (Wt hp m) s hs9 t htn)) x
  constructor
  ·rintro ⟨s,h1,h2⟩;exact ⟨s,h1,(key s h1).1 h2⟩
  rintro ⟨s,h1,h2⟩;exact ⟨s,h1,(key s h1).2 h2⟩)
 have hF:cmF rows 18 m=cmF rows' 18 m:=by
  unfold cmF
  rw [ht]
 unfold Yr
 rw [hB,hF]


def JM (rows:List (List I3)) (k pc:Nat):Option I3:=(rows.getD k [])[pc]?


abbrev Pl9:=Nat × Nat
def Ch (P Q:List (List I3)) (k p:Nat):List Pl9:=((List.range p).filter (fun pc=>decide (¬ JM P k pc=JM Q k pc))).map (fun pc=>(k,pc))
def CK (P Q:List (List I3)) (k:Nat):List Pl9:=(List.range k).flatMap (fun j=>Ch P Q j 7)
def CT (P Q:List (List I3)):List Pl9:=CK P Q 3
def CZ (x:Pl9):Int:=8*(x.1:Int)+(x.2:Int)
def Fg (P Q:List (List I3)):List Int:=(CT P Q).map CZ

theorem F1 {P Q:List (List I3)} {k p:Nat} {x:Pl9} (h:x ∈ Ch P Q k p):x.1=k∧x.2<p∧¬ JM P x.1 x.2=JM Q x.1 x.2:=by
 simp only [Ch,List.mem_map,List.mem_filter,List.mem_range,decide_eq_true_eq] at h
 obtain ⟨pc,⟨h1,h2⟩,rfl⟩:=h
 exact ⟨rfl,h1,h2⟩
theorem Mx {P Q:List (List I3)} {x:Pl9}:x ∈ CT P Q↔x.1<3∧x.2<7∧¬ JM P x.1 x.2=JM Q x.1 x.2:=by
 simp only [CT,CK,List.mem_flatMap,List.mem_range]
 constructor
 ·rintro ⟨j,hj,hx⟩
  obtain ⟨h1,h2,h3⟩:=F1 hx
  exact ⟨by omega,h2,h3⟩
 rintro ⟨h1,h2,h3⟩
 refine ⟨x.1,h1,?_⟩
 simp only [Ch,List.mem_map,List.mem_filter,List.mem_range,decide_eq_true_eq]
 exact ⟨x.2,⟨h2,h3⟩,rfl⟩


theorem L7:(Tryz.prog.info? 5).map (fun i=>(i.zero,i.size,i.bytes))=some (some (.int .u8 0),1,1):=by kernel_rfl

theorem S1 (s:ByteArray) (w:World) (hlim:s.size≤281474976710656) :
  Calls Tryz.prog 133 #[.string s] w fun e w'=>e=.returned (.string s)∧Below w.heap.size w w':=by
 by_cases h0:s.size=0
 ·have hs:s=⟨#[]⟩:=by
   apply ByteArray.ext
   exact Array.eq_empty_of_size_eq_zero h0
  subst hs
  go_enter Tryz.func133,Tryz.ntmps133
  go_wp2
  go_ret
  exact ⟨rfl,Below.refl _ _⟩
 obtain ⟨i0,hi,hz0,hz1,hz2⟩:=info_parts L7
 have hinfo:(Tryz.prog.info? 5).map (·.size)=some 1:=by rw [hi];simp [hz1]
 have hco:Tryz.prog.cellsOf 5=1:=by simp [Program.cellsOf,hi,hz1]
 obtain ⟨M,hM⟩:∃ M,M=madeCells (Value.int .u8 0).cells (((s.size:Nat):Int).toNat*i0.size):=⟨_,rfl⟩
 have hMs:M.size=s.size:=by rw [hM,size_madeCells,hz1];simp
 have hmk:∀ W:World,(Instr.makeSlice 22 (.int .i64 (s.size:Int)) (.int .i64 (s.size:Int))).run Tryz.prog W=.ok (.slice (some ⟨W.heap.size,0,none⟩) s.size s.size) (W.alloc (.cells M 5)):=fun W=>by
  have h:=run_make (P:=Tryz.prog) W 22 5 i0 (.int .u8 0) Tryz.underlying22 hi hz0 .i64 .i64 (s.size:Int) (s.size:Int) (by omega) (by omega) (by rw [hz2];omega) (by omega)
  rw [← hM] at h
  simpa using h
 clear hM
 have hcp:=Lib.run_copy_row_string (P:=Tryz.prog) (w.alloc (.cells M 5)) 22 9 3 5 w.heap.size 0 s.size s.size s M 5 Tryz.underlying22 hinfo (heap_alloc_new w _) (Nat.le_refl _) (by omega)
 obtain ⟨Y,hY⟩:∃ Y,Y=(M.toList.take 0++Lib.byteCells s.data.toList++M.toList.drop (0+s.size)).toArray:=⟨_,rfl⟩
 rw [← hY] at hcp
 have hYl:Y.toList=Lib.byteCells s.data.toList:=by
  rw [hY,List.toList_toArray,List.take_zero,List.nil_append,List.drop_of_length_le (by rw [Array.length_toList];omega),List.append_nil]
 have hYs:Y.size=s.size:=by rw [← Array.length_toList,hYl,Lib.byteCells_length,← Lib.size_eq]
 have hgY:((w.alloc (.cells M 5)).setRow w.heap.size Y).heap[w.heap.size]?=some (.cells Y 5 (0,0)):=setRow_heap _ _ M _ 5 (0,0) (heap_alloc_new w _)
 have hne:s.data.toList≠[]:=fun e=>h0 (by rw [Lib.size_eq,e];rfl)
 have hUS:=Lib.run_unsafeString_row (P:=Tryz.prog) ((w.alloc (.cells M 5)).setRow w.heap.size Y) 230 3 9 5 Tryz.underlying230 hco w.heap.size Y.size (by unfold World.shape?;rw [hgY]) s.data.toList hne (by rw [← Lib.size_eq];omega) (by rw [← Lib.size_eq];omega)
  (fun j x hx=>Lib.cells_of_row hgY Y.size j _ (by rw [List.take_of_length_le (by rw [Array.length_toList];exact Nat.le_refl _),hYl];simp [Lib.byteCells,hx]))
 rw [← Lib.size_eq] at hUS
 clear hY
 go_enter Tryz.func133,Tryz.ntmps133
 go_wp2
 go_ret
 have hb1:Below w.heap.size w (w.alloc (.cells M 5)):=(Below.refl _ w).alloc (Nat.le_refl _) _
 have hb2:Below w.heap.size (w.alloc (.cells M 5)) ((w.alloc (.cells M 5)).setRow w.heap.size Y):=⟨rfl,rfl,rfl,by simp,fun k hk=>setRow_other _ _ _ _ (by omega)⟩
 exact ⟨rfl,Lib.below_freeze (hb1.trans hb2) (p:=⟨w.heap.size,0,none⟩) (Nat.le_refl _) _⟩

theorem PA (s:ByteArray) (w:World) (hlim:s.size≤281474976710656) :
  Calls Tryz.prog 88 #[.string s] w fun e w'=>e=.returned (.string s)∧Below w.heap.size w w':=by
 go_enter Tryz.func88,Tryz.ntmps88
 go_wp2_with (go_at_call 133;refine (S1 s _ hlim).mono ?_;rintro e w1 ⟨rfl,hb1⟩)
 go_ret
 exact ⟨rfl,hb1⟩


theorem PK (e:E3) (s:Sl2) (w:World) (h:YK w s e) (h1:e.2.1.length≤1048576) (h2:e.2.2.length≤1048576) (h3:e.1.size≤1048576) :
  Calls Tryz.prog 50 #[ZW e.1 s] w fun x w'=>Vr x w' w.heap.size e∧Below w.heap.size w w':=by
 obtain ⟨i0,hi0,hz00,hz01,hz02⟩:=info_parts Xp
 obtain ⟨i1,hi1,hz10,hz11,hz12⟩:=info_parts XQ
 obtain ⟨⟨_,z1,z2⟩,hB,hF,_⟩:=h
 have l1:=hB.1
 have l2:=hF.1
 have hb1:=hB.2.1
 have hb2:=hF.2.1
 obtain ⟨ek,eb,ez⟩:=e
 obtain ⟨⟨a1,n1,c1⟩,⟨a2,n2,c2⟩⟩:=s
 unfold ZW
 simp only at z1 z2 hB hF l1 l2 h1 h2 h3 hb1 hb2 ⊢
 subst l1
 subst l2
 have no1:=XX (m:=0) (P:=True) z1 hb1
 have no2:=XX (m:=0) (P:=True) z2 hb2
 clear z1 z2 hb1 hb2
 have kC:=fun W=>PA ek W (by omega)
 have bw:Below w.heap.size w ((w.alloc (.cells #[.string ek,.slice a1 eb.length c1,.slice a2 ez.length c2] 45)).alloc (.cells #[.string ⟨#[]⟩,.slice none 0 0,.slice none 0 0] 45)):=by go_grown
 have pX:Blk ((w.alloc (.cells #[.string ek,.slice a1 eb.length c1,.slice a2 ez.length c2] 45)).alloc (.cells #[.string ⟨#[]⟩,.slice none 0 0,.slice none 0 0] 45)) w.heap.size 45 [.string ek,.slice a1 eb.length c1,.slice a2 ez.length c2]:=Zl _ (Zj _ _ _ rfl)
 have pR:Blk ((w.alloc (.cells #[.string ek,.slice a1 eb.length c1,.slice a2 ez.length c2] 45)).alloc (.cells #[.string ⟨#[]⟩,.slice none 0 0,.slice none 0 0] 45)) (w.heap.size+1) 45 [.string ⟨#[]⟩,.slice none 0 0,.slice none 0 0]:=Zj _ _ _ (by simp)
 have x0:=pX.cell 0
 have x1:=pX.cell 1
 have x2:=pX.cell 2
 simp only [List.getElem?_cons_zero,List.getElem?_cons_succ] at x0 x1 x2
 go_enter Tryz.func50,Tryz.ntmps50
 go_wp2_with fail
 generalize ((w.alloc (.cells #[.string ek,.slice a1 eb.length c1,.slice a2 ez.length c2] 45)).alloc (.cells #[.string ⟨#[]⟩,.slice none 0 0,.slice none 0 0] 45))=W at *
 have bd0:Below W.heap.size W W.drew:=by go_grown
 have bd:Below w.heap.size w W.drew:=Zo bw bd0
 refine wp_region_held_drew (S:=(fun w'=>w'.cell? ⟨w.heap.size,0,none⟩=some (.string ek)∧w'.cell? ⟨w.heap.size,1,none⟩=some (.slice a1 eb.length c1)∧w'.cell? ⟨w.heap.size,2,none⟩=some (.slice a2 ez.length c2))) (by kernel_rfl) ⟨x0,x1,x2⟩ (fun hS0=>?_)
 refine tkv 0 3 (.pointer (some ⟨w.heap.size,0,none⟩)) ?_
 refine tkv 1 4 (.string ek) ?_
 refine tkv 3 6 (.pointer (some ⟨w.heap.size,1,none⟩)) ?_
 refine tkv 4 7 (.slice a1 eb.length c1) ?_
 refine tkv 6 9 (.pointer (some ⟨w.heap.size,2,none⟩)) ?_
 refine tkv 7 10 (.slice a2 ez.length c2) ?_
 refine tkr 2 5 (fun K hK=>?_)
 go_simp
 refine (kC _).mono ?_
 rintro e W1 ⟨rfl,hb1⟩
 go_wp2_with fail
 refine hK.out _ _ ?_ (fun hS1=>?_)
 ·exact ⟨Za hb1 _ _ hS0.1,Za hb1 _ _ hS0.2.1,Za hb1 _ _ hS0.2.2⟩
 clear hK
 replace bw:=Zo bd hb1
 replace pX:=(pX.below bd0).below hb1
 replace pR:=(pR.below bd0).below hb1
 clear hb1 bd bd0
 refine tkr 5 8 (fun K hK=>?_)
 refine YN rfl _ _ 28 rfl (w.heap.size+2) 103 i0 (.agg #[.int .i64 0,.int .i64 0,.int .i64 0]) 3 24 Tryz.underlying28 hi0 hz00 hz01 hz02 rfl (by decide) (.slice none 0 0) 0 [] rfl (World.ownsRow_nil _ _ _ _) a1 eb.length c1 rfl no1 (Zn eb) (by rw [Zw]) (fun ad ha=>by subst ha;exact Rm (hB.below bw)) (Yk eb) (by unfold maxLen;omega) (by omega) (by have:=pR.lt;omega) ?_
 intro v5 W5 hown hgrow _
 have hbn:Below W1.heap.size W1 W5:=⟨hgrow.os,hgrow.tape,hgrow.output,hgrow.size,fun g hg=>hgrow.block g hg (by simp [Value.ownBlock])⟩
 have q5:W5.ownsRow (w.heap.size+2) 103 3 v5 eb.length (Zn eb):=by simpa using hown
 go_simp
 refine hK.out _ _ ?_ (fun hS5=>?_)
 ·exact ⟨Za hbn _ _ hS1.1,Za hbn _ _ hS1.2.1,Za hbn _ _ hS1.2.2⟩
 clear hK
 try simp only [Act.put,tka,tkb,tkc]
 replace bw:=Zo bw hbn
 replace pX:=pX.below hbn
 replace pR:=pR.below hbn
 skip
 obtain ⟨va5,vc5,rfl⟩:=ZY q5
 clear hown hgrow hbn
 refine tkr 8 11 (fun K hK=>?_)
 refine YN rfl _ _ 36 rfl (w.heap.size+2) 3 i1 (.int .i64 0) 1 8 Tryz.underlying36 hi1 hz10 hz11 hz12 rfl (by decide) (.slice none 0 0) 0 [] rfl (World.ownsRow_nil _ _ _ _) a2 ez.length c2 rfl no2 (ez.map (Value.int .i64)) (by rw [List.length_map,Nat.mul_one]) (fun ad ha=>by subst ha;exact FO (hF.below bw)) (Ro ez) (by unfold maxLen;omega) (by omega) (by have:=pR.lt;omega) ?_
 intro v8 W8 hown hgrow _
 have hbn:Below W5.heap.size W5 W8:=⟨hgrow.os,hgrow.tape,hgrow.output,hgrow.size,fun g hg=>hgrow.block g hg (by simp [Value.ownBlock])⟩
 have q8:W8.ownsRow (w.heap.size+2) 3 1 v8 ez.length (ez.map (Value.int .i64)):=by simpa using hown
 go_simp
 refine hK.out _ _ ?_ (fun hS8=>?_)
 ·exact ⟨Za hbn _ _ hS5.1,Za hbn _ _ hS5.2.1,Za hbn _ _ hS5.2.2⟩
 clear hK
 try simp only [Act.put,tka,tkb,tkc]
 replace bw:=Zo bw hbn
 replace pX:=pX.below hbn
 replace pR:=pR.below hbn
 replace q5:=Z1 q5 hbn
 obtain ⟨va8,vc8,rfl⟩:=ZY q8
 clear hown hgrow hbn
 refine tkv 9 12 (.agg #[.string ek,.slice va5 eb.length vc5,.slice va8 ez.length vc8]) ?_
 have r0:=pR.cell 0
 have r1:=pR.cell 1
 have r2:=pR.cell 2
 have fr0:=pR.frozen 0
 have fr1:=pR.frozen 1
 have fr2:=pR.frozen 2
 simp only [List.getElem?_cons_zero,List.getElem?_cons_succ] at r0 r1 r2
 have pZ:=((pR.set 0 (.string ek)).set 1 (.slice va5 eb.length vc5)).set 2 (.slice va8 ez.length vc8)
 have pX2:=((pX.off ⟨w.heap.size+1,0,none⟩ (.string ek) (by simp)).off ⟨w.heap.size+1,1,none⟩ (.slice va5 eb.length vc5) (by simp)).off ⟨w.heap.size+1,2,none⟩ (.slice va8 ez.length vc8) (by simp)
 simp only [List.set_cons_zero,List.set_cons_succ] at pZ
 have z0:=pZ.cell 0
 have zz1:=pZ.cell 1
 have zz2:=pZ.cell 2
 have m0:=pX2.cell 0
 have m1:=pX2.cell 1
 have m2:=pX2.cell 2
 simp only [List.getElem?_cons_zero,List.getElem?_cons_succ] at z0 zz1 zz2 m0 m1 m2
 have hle:w.heap.size≤w.heap.size+1:=by omega
 have hlt9:w.heap.size+1<w.heap.size+2:=by omega
 have bz:=((bw.setCell (p:=⟨w.heap.size+1,0,none⟩) hle (.string ek)).setCell (p:=⟨w.heap.size+1,1,none⟩) hle (.slice va5 eb.length vc5)).setCell (p:=⟨w.heap.size+1,2,none⟩) hle (.slice va8 ez.length vc8)
 replace q5:=ownsRow_setCell_below (ownsRow_setCell_below (ownsRow_setCell_below q5 (a:=⟨w.heap.size+1,0,none⟩) hlt9 (.string ek)) (a:=⟨w.heap.size+1,1,none⟩) hlt9 (.slice va5 eb.length vc5)) (a:=⟨w.heap.size+1,2,none⟩) hlt9 (.slice va8 ez.length vc8)
 replace q8:=ownsRow_setCell_below (ownsRow_setCell_below (ownsRow_setCell_below q8 (a:=⟨w.heap.size+1,0,none⟩) hlt9 (.string ek)) (a:=⟨w.heap.size+1,1,none⟩) hlt9 (.slice va5 eb.length vc5)) (a:=⟨w.heap.size+1,2,none⟩) hlt9 (.slice va8 ez.length vc8)
 have qB9:=Yz q5 (show w.heap.size≤w.heap.size+2 by omega)
 have qF9:=Yz q8 (show w.heap.size≤w.heap.size+2 by omega)
 clear pR pZ pX pX2 bw q5 q8
 refine tkz 10 (fun K hK=>?_)
 go_simp
 refine hK.out _ _ ?_ (fun hS10=>?_)
 ·exact ⟨m0,m1,m2⟩
 clear hK
 try simp only [Act.put,tka,tkb,tkc]
 refine wpAnyH_done (by kernel_rfl) ?_ _
 go_wp2
 refine bodyPost_ret (by simp [results,Tryz.results50,go_sem,z0,zz1,zz2];try rfl) rfl ?_
 exact ⟨Vr.mk9 (e:=(ek,eb,ez)) ((va5,eb.length,vc5),(va8,ez.length,vc8)) ⟨qB9,qF9⟩,bz⟩


def S8 (x:Ending) (w':World) (B:Nat) (es:List E3):Prop:=∃ v,x=.returned (.agg #[v])∧Wi w' B v es
theorem S8.mk9 {w':World} {B:Nat} {v:Value} {es:List E3} (h:Wi w' B v es):S8 (.returned (.agg #[v])) w' B es:=⟨v,rfl,h⟩
theorem Vr.lower {x:Ending} {w':World} {B B':Nat} {e:E3} (h:Vr x w' B e) (hB:B'≤B):Vr x w' B' e:=by
 obtain ⟨s,h1,h2⟩:=h
 exact ⟨s,h1,h2.lower hB⟩
theorem Nf (w:World) (cs:List Value) (t:TypeId):∀ ad,some (⟨w.heap.size,0,none⟩:Addr)=some ad→∀ j u,cs[j]?=some u→(w.alloc (.cells cs.toArray t)).cell? (ad.add j)=some u:=by
 intro ad ha j u hj
 cases ha
 have e:(⟨w.heap.size,0,none⟩:Addr).add j=⟨w.heap.size,0+j,none⟩:=by unfold Addr.add;split<;>simp_all
 rw [e,Nat.zero_add]
 have p:Blk (w.alloc (.cells cs.toArray t)) w.heap.size t cs:=Zj _ _ _ rfl
 rw [p.cell j]
 exact hj
theorem Sp (k:ByteArray) (s:Sl2):∀ u ∈ YI k s,u.oneCell'=true:=by
 intro u hu
 simp [YI] at hu
 rcases hu with rfl | rfl | rfl<;>rfl
theorem UI {es:List E3} {k:Nat} (h:k<es.length):es.take k++[es.getD k e3d]=es.take (k+1):=by
 rw [List.take_add_one,List.getElem?_eq_getElem h,Y5 h]
 rfl
def SmE (es:List E3):Prop:=es.length≤2000∧∀ i,i<es.length→(es.getD i e3d).2.1.length≤1048576∧(es.getD i e3d).2.2.length≤1048576
theorem Kt (a:Option Addr) (n cap:Nat) (es:List E3) (w:World) (h:Y6 w a n cap es) (hok:SmE es) :
  Calls Tryz.prog 33 #[.agg #[.slice a n cap]] w fun e w'=>S8 e w' w.heap.size (es)∧Below w.heap.size w w':=by
 obtain ⟨i0,hi0,hz0,hz1,hz2⟩:=info_parts T5
 have hl:=h.1
 have hn:n≤2000:=by have:=hok.1;omega
 have bu:Below w.heap.size w ((w.alloc (.cells #[.slice a n cap] 33)).alloc (.cells #[.slice none 0 0] 33)):=by go_grown
 have pM:Blk ((w.alloc (.cells #[.slice a n cap] 33)).alloc (.cells #[.slice none 0 0] 33)) w.heap.size 33 [.slice a n cap]:=Zl _ (Zj _ _ _ rfl)
 have pR:Blk ((w.alloc (.cells #[.slice a n cap] 33)).alloc (.cells #[.slice none 0 0] 33)) (w.heap.size+1) 33 [.slice none 0 0]:=Zj _ _ _ (by simp)
 have g0:=pM.cell 0
 simp only [List.getElem?_cons_zero] at g0
 go_enter Tryz.func33,Tryz.ntmps33
 go_wp2_with fail
 have bE:Below ((w.alloc (.cells #[.slice a n cap] 33)).alloc (.cells #[.slice none 0 0] 33)).heap.size ((w.alloc (.cells #[.slice a n cap] 33)).alloc (.cells #[.slice none 0 0] 33)) (((w.alloc (.cells #[.slice a n cap] 33)).alloc (.cells #[.slice none 0 0] 33)).alloc (.cells #[] 45)):=by go_grown
 have M0:Wi (((w.alloc (.cells #[.slice a n cap] 33)).alloc (.cells #[.slice none 0 0] 33)).alloc (.cells #[] 45)) (w.heap.size+2) (.slice (some ⟨w.heap.size+1+1,0,none⟩) 0 0) []:=by
  have h9:=XZ ((w.alloc (.cells #[.slice a n cap] 33)).alloc (.cells #[.slice none 0 0] 33)) 45 3 (w.heap.size+2) (by simp)
  exact ⟨[],by simpa using h9,fun t ht=>by simp at ht,fun t _ ht=>by simp at ht⟩
 have bU:=Zo bu bE
 have gU:=ZM bE g0
 have rU:=pR.below bE
 generalize (((w.alloc (.cells #[.slice a n cap] 33)).alloc (.cells #[.slice none 0 0] 33)).alloc (.cells #[] 45))=U at *
 have rUs:w.heap.size+2≤U.heap.size:=by have:=rU.lt;omega
 go_loopw [3,4] (fun so si wr=>∃ (k:Nat) (va:Option Addr) (vn vc:Nat),k≤n∧si=.int .i64 k∧so=.slice va vn vc∧Wi wr (w.heap.size+2) (.slice va vn vc) (es.take k)∧Below w.heap.size w wr∧wr.cell? ⟨w.heap.size,0,none⟩=some (.slice a n cap)∧Blk wr (w.heap.size+1) 33 [.slice none 0 0]∧w.heap.size+2≤wr.heap.size) (fun _ si _=>n - (intOf si).toNat)
 case atStart=>exact ⟨0,_,_,_,by omega,rfl,rfl,by simpa using M0,bU,gU,rU,rUs⟩
 case round =>
  obtain ⟨k,xa,xn,xc,hk,rfl,rfl,hM,bw,gw,pW,hsW⟩:=hrel
  by_cases hlt:k<n
  ·obtain ⟨_,_,_,hcase⟩:=h.below bw
   rcases hcase with e0 | ⟨b,off,rfl,hb,hc⟩
   ·omega
   obtain ⟨s,x0,x1,x2,hm⟩:=hc k hlt
   clear hc hb
   have hek:=hok.2 k (by omega)
   have y1:=hek.1
   have y2:=hek.2
   have kE:=fun W (hb:Below wr.heap.size wr W)=>(QG (es.getD k e3d) s W (hm.below hb) (by omega) (by omega)).mono (fun x w' h9=>(⟨h9.1.lower hb.size,Zo hb h9.2⟩:Vr x w' wr.heap.size (es.getD k e3d)∧Below wr.heap.size wr w'))
   have hsn:=UI (es:=es) (k:=k) (by omega)
   clear hm hek y1 y2
   generalize es.getD k e3d=x at *
   generalize hps:es.take k=ps at *
   have hpl:ps.length≤2000:=by rw [← hps];rw [List.length_take];omega
   clear hps
   obtain ⟨xk,xb,xz⟩:=x
   obtain ⟨⟨a1,n1,c1⟩,⟨a2,n2,c2⟩⟩:=s
   unfold ZW at kE
   simp only at x0 x1 x2 kE
   have hlt':(k:Int)<(n:Int):=by omega
   have hk0:(0:Int)≤(k:Int):=by omega
   go_wp2_with fail
   refine (kE _ (Below.refl _ _)).mono ?_
   rintro e w1 ⟨⟨⟨⟨d1,p1,q1⟩,⟨d2,p2,q2⟩⟩,rfl,hO⟩,hbn⟩
   obtain ⟨cs,ho,hE⟩:=hM
   have hb2:Below w1.heap.size w1 (w1.alloc (.cells #[.string xk,.slice d1 p1 q1,.slice d2 p2 q2] 45)):=by go_grown
   have ho2:=Z1 (Z1 ho hbn) hb2
   have hs2:w.heap.size+2≤(w1.alloc (.cells #[.string xk,.slice d1 p1 q1,.slice d2 p2 q2] 45)).heap.size:=by have:=hb2.size;have:=hbn.size;omega
   clear x0 x1 x2 kE
   unfold ZW
   simp only
   go_wp2_with (at_builtin;refine XH rfl _ _ 31 rfl (w.heap.size+2) 45 i0 (.agg #[.string ⟨#[]⟩,.slice none 0 0,.slice none 0 0]) 3 64 Tryz.underlying31 hi0 hz0 hz1 hz2 rfl (by decide) _ _ _ rfl ho2 _ 1 1 rfl (fun h9=>by cases h9) (YI xk ((d1,p1,q1),(d2,p2,q2))) (by simp [YI]) (Nf w1 [.string xk,.slice d1 p1 q1,.slice d2 p2 q2] 45) (Sp _ _) (by unfold maxLen;omega) (by omega) hs2 ?_)
   intro v3 w3 hown hgrow _
   obtain ⟨va9,vc9,rfl⟩:=ZY hown
   have hM3:=Wi.snoc9 (s:=((d1,p1,q1),(d2,p2,q2))) ho hE hbn hO hb2 hgrow hown (by omega)
   have hgB:∀ g,(Value.ownBlock (.slice xa xn xc))=some g→w.heap.size+2≤g:=fun g hg=>(ho2.lt g hg).1
   have b3:Below w.heap.size w w3:=(Zo (Zo bw hbn) hb2).grown hgrow (by omega) (fun g hg=>by have:=hgB g hg;omega)
   have g3:=(Blk.kept ((pW.below hbn).below hb2) hgrow (fun e9=>by have:=hgB _ e9;omega))
   have c3:w3.cell? ⟨w.heap.size,0,none⟩=some (.slice (some ⟨b,off,none⟩) n cap):=Zp hgrow (ZM hb2 (ZM hbn gw)) (fun e9=>by have:=hgB _ e9.symm;simp at this;omega)
   have s3:w.heap.size+2≤w3.heap.size:=Nat.le_trans hs2 hgrow.size
   skip
   clear ho hE hbn hO hb2 ho2 hs2 hown hgrow hgB
   go_wp2
   go_roundw
   case rel=>exact ⟨k+1,_,_,_,by omega,by go_num,rfl,by rw [← hsn];exact hM3,b3,c3,g3,s3⟩
   case measure=>simp [intOf];omega
  obtain rfl:k=n:=by omega
  have e9:es.take k=es:=by rw [List.take_of_length_le (by omega)]
  rw [e9] at hM
  have r0:=pW.cell 0
  have fr0:=pW.frozen 0
  have pZ:=pW.set 0 (.slice xa xn xc)
  simp only [List.set_cons_zero] at pZ
  have z0:=pZ.cell 0
  simp only [List.getElem?_cons_zero] at z0 r0
  have hM9:=(hM.low (p:=⟨w.heap.size+1,0,none⟩) (show w.heap.size+1<w.heap.size+2 by omega) (.slice xa xn xc)).lower (show w.heap.size≤w.heap.size+2 by omega)
  have bz:=bw.setCell (p:=⟨w.heap.size+1,0,none⟩) (show w.heap.size≤w.heap.size+1 by omega) (.slice xa xn xc)
  clear hM pZ pW bw e9
  go_wp2
  refine bodyPost_ret (by simp [results,Tryz.results33,go_sem,z0];try rfl) rfl ?_
  exact ⟨S8.mk9 hM9,bz⟩

end Go.Proofs.YtgmhhegckcionaaGreatDoor
