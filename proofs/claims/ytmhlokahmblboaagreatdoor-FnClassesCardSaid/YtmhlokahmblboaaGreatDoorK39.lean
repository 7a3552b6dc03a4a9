/-
  Joined: SlpQ, Tab, JoinC, OrdP, NrmP, MatP, NrmS, OrdS.
-/
import Derived.IntWalk
import Derived.Test.YtmhlokahmblboaaGreatDoorK31

namespace Go.Proofs.YtmhlokahmblboaaGreatDoor
set_option maxRecDepth 100000
set_option maxHeartbeats 16000000
set_option linter.unusedVariables false

def cdC (m:V4) (x:I3) (k:Nat):Int:=if x.1=6 then (if m.2.2.1.getD x.2.1.toNat 0=k+1 then 0 else 13) else if x.1=1∨x.1=2∨x.1=3∨x.1=4∨x.1=5∨x.1=7 then 0 else if m.2.2.2.getD (k*2+x.2.1.toNat) 0=x.2.2 then 0 else 12
theorem Mj (m:V4) (x:I3) (k:Nat):(ZC m x k).2=cdC m x k:=by
 unfold ZC cdC
 rcases Wi x with h | h | h | h | h | h | h | h | ⟨h1,h2,h3,h4,h5,h6,h7,h8⟩
 ·simp [h]
 ·simp [h]
 ·simp [h]
 ·simp [h]
 ·simp [h]
 ·simp [h];split<;>simp
 ·simp [h];split<;>simp
 ·simp [h];split<;>simp
 simp [h1,h2,h3,h4,h5,h6,h7];split<;>simp
theorem Kb {m:V4} {x y:I3} {k l:Nat} (h:k≠l) (hx:okI x=true) (hy:okI y=true) (hc:¬ W7 x y):(ZC (ZC m x k).1 y l).2=(ZC m y l).2:=by
 rw [Mj,Mj]
 unfold cdC
 rw [Yl]
 simp only
 by_cases h6:y.1=6
 ·rw [if_pos h6,if_pos h6,S9 hy hx (Vv hc) (.inr h6)]
 rw [if_neg h6,if_neg h6]
 split
 ·rfl
 rename_i q
 rw [WN (Ne.symm h) hx ((Xq hy).1 (fun e=>q (by simp [e])))]
theorem QZ {rows:List (List I3)} {m:V4} {k l:Nat} (hp:Zn rows=true) (hs:Zk m=true) (h1:Zv rows m (k:Int)=0) (h2:Zv rows m (l:Int)=0) (hd:Z9 (Zz rows m k) (Zz rows m l)=false) :
  Yr rows (goM rows m (k:Int)).1 (l:Int)=Yr rows m (l:Int):=by
 obtain ⟨a0,a1,a2,a3⟩:=ZX h1
 obtain ⟨b0,b1,b2,b3⟩:=ZX h2
 rw [Int.toNat_natCast] at a2 a3 b2 b3
 obtain ⟨hkl,hc⟩:=Ul hd
 obtain ⟨_,_,_,_,ox⟩:=X0 hp hs (show k<3 by omega) a2
 obtain ⟨_,_,_,_,oy⟩:=X0 hp hs (show l<3 by omega) b2
 have e:(goM rows (goM rows m (k:Int)).1 (l:Int)).2=(goM rows m (l:Int)).2:=by
  simp only [WH]
  rw [Wy hkl]
  exact Kb hkl ox oy hc
 unfold Yr
 rw [e]
 have e2:(goM rows m (k:Int)).1.1.getD (l:Int).toNat 0=m.1.getD (l:Int).toNat 0:=by
  rw [WH,Int.toNat_natCast]
  exact XH m _ (Ne.symm hkl)
 rw [e2]

theorem Ta (rows:List (List I3)):∀ (ks:List Int) (m:V4) (fs:List I3),ZE rows m fs ks=((ZE rows m [] ks).1,fs++(ZE rows m [] ks).2.1,(ZE rows m [] ks).2.2)
 | [],m,fs=>by simp [ZE]
 | k::ks,m,fs=>by
  by_cases hz:Zv rows m k=0
  ·rw [WO hz,WO hz,Ta rows ks _ (fs++Yr rows m k),Ta rows ks _ ([]++Yr rows m k)]
   simp
  have e:∀ f,ZE rows m f (k::ks)=(m,f,Zv rows m k):=fun f=>by
   show (if Zv rows m k=0 then _ else _)=_
   rw [if_neg hz]
  rw [e,e]
  simp
def Eq7 (rows:List (List I3)) (m:V4) (ks ks':List Int):Prop:=(ZE rows m [] ks').2.2=0∧(ZE rows m [] ks').1=(ZE rows m [] ks).1∧Sw (YK rows m ks) (YK rows m ks')∧∀ x,x ∈ (ZE rows m [] ks').2.1↔x ∈ (ZE rows m [] ks).2.1
theorem Eq7.same {rows:List (List I3)} {m:V4} {ks:List Int} (h:(ZE rows m [] ks).2.2=0):Eq7 rows m ks ks:=⟨h,rfl,.refl _,fun _=>Iff.rfl⟩
theorem Eq7.trans {rows:List (List I3)} {m:V4} {a b c:List Int} (h:Eq7 rows m a b) (g:Eq7 rows m b c):Eq7 rows m a c:=⟨g.1,g.2.1.trans h.2.1,h.2.2.1.trans g.2.2.1,fun x=>(g.2.2.2 x).trans (h.2.2.2 x)⟩
theorem Xr {rows:List (List I3)} {m:V4} {k:Int} {ks:List Int} (hz:Zv rows m k=0):ZE rows m [] (k::ks)=((ZE rows (goM rows m k).1 [] ks).1,Yr rows m k++(ZE rows (goM rows m k).1 [] ks).2.1,(ZE rows (goM rows m k).1 [] ks).2.2):=by
 rw [WO hz,Ta,List.nil_append]
theorem Eq7.cons {rows:List (List I3)} {m:V4} {k:Int} {a b:List Int} (hz:Zv rows m k=0) (h:Eq7 rows (goM rows m k).1 a b):Eq7 rows m (k::a) (k::b):=by
 obtain ⟨h1,h2,h3,h4⟩:=h
 unfold Eq7
 rw [Xr hz,Xr hz]
 refine ⟨h1,h2,Sw.cons _ h3,fun x=>?_⟩
 simp only [List.mem_append,h4]
theorem Eq7.swap {rows:List (List I3)} {m:V4} {k l:Int} {ks:List Int} (hp:Zn rows=true) (hs:Zk m=true) (h:(ZE rows m [] (k::l::ks)).2.2=0) (hd:Z9 (Zz rows m k.toNat) (Zz rows m l.toNat)=false):Eq7 rows m (k::l::ks) (l::k::ks):=by
 obtain ⟨h1,e1⟩:=Xg h
 have h':=h
 rw [e1] at h'
 obtain ⟨h2,e2⟩:=Xg h'
 obtain ⟨a0,a1,_,_⟩:=ZX h1
 obtain ⟨b0,b1,_,_⟩:=ZX h2
 obtain ⟨k',rfl⟩:∃ k':Nat,k=k':=⟨k.toNat,by omega⟩
 obtain ⟨l',rfl⟩:∃ l':Nat,l=l':=⟨l.toNat,by omega⟩
 simp only [Int.toNat_natCast] at hd
 obtain ⟨hkl,_⟩:=Ul hd
 have hd2:Z9 (Zz rows m k') (Zz rows (goM rows m (k':Int)).1 l')=false:=by
  rw [WH,WU hkl];exact hd
 obtain ⟨g1,g2,g3,g4,g5⟩:=RD hp hs h1 h2 hd2
 obtain ⟨s1,s2,s3⟩:=Ga hp hs h (by simpa only [Int.toNat_natCast] using hd2)
 have o1:=QZ hp hs h1 g1 hd
 have o2:=QZ hp hs g1 h1 (by rw [Uk];exact hd)
 refine ⟨s2,s1,?_,fun x=>?_⟩
 ·rw [s3]
  exact .step (.refl _) ⟨[],_,_,_,rfl,rfl,by simpa only [Int.toNat_natCast] using hd2⟩
 rw [Xr g1,Xr g2,Xr h1,Xr h2,o1,o2,g3]
 simp only [List.mem_append]
 constructor<;>rintro (q | q | q)<;>simp [q]

def lvL (rows:List (List I3)) (m:V4) (rec:V4→List Int→List (List Int)):List Int→List Int→List (List Int)
 | [],_=>[]
 | k::ks,Z=>if k ∈ Z then lvL rows m rec ks Z else (rec (goM rows m k).1 (YM rows m Z k)).map (k::·)++lvL rows m rec ks (Z++[k])
def lvF (rows:List (List I3)):Nat→V4→List Int→List (List Int)
 | 0,_,_=>[]
 | f+1,m,Z=>if Zj rows m 3=[] then [[]] else lvL rows m (lvF rows f) (Zj rows m 3) Z
theorem NL {rows:List (List I3)} {m:V4} {rec:V4→List Int→List (List Int)} {k:Int} {ks Z:List Int} (h:k ∈ Z):lvL rows m rec (k::ks) Z=lvL rows m rec ks Z:=by rw [lvL,if_pos h]
theorem Hi {rows:List (List I3)} {m:V4} {rec:V4→List Int→List (List Int)} {k:Int} {ks Z:List Int} (h:k ∉ Z):lvL rows m rec (k::ks) Z=(rec (goM rows m k).1 (YM rows m Z k)).map (k::·)++lvL rows m rec ks (Z++[k]):=by rw [lvL,if_neg h]

theorem Nq {rows:List (List I3)} {m:V4} {k:Int} (h:Zv rows m k=0):k ∈ Zj rows m 3:=by
 obtain ⟨j,hj,e⟩:=List.mem_map.1 (Hp h)
 have:j=k:=congrArg Prod.fst e
 exact this▸hj
def JB (rows:List (List I3)) (m:V4) (w:List Int) (k:Int):Prop:=∃ w',Eq7 rows m w (k::w')
theorem PN {rows:List (List I3)} {m:V4} {f:Nat} {w:List Int} (hp:Zn rows=true) (hs:Zk m=true) (hf:YC rows m≤f) (hr:(ZE rows m [] w).2.2=0) (he:Zj rows (ZE rows m [] w).1 3=[])
  (ih:∀ m Z w,Zk m=true→YC rows m<f→(ZE rows m [] w).2.2=0→Zj rows (ZE rows m [] w).1 3=[]→(∀ j ∈ Z,¬ JB rows m w j)→∃ ks ∈ lvF rows f m Z,Eq7 rows m w ks) :
  ∀ (ks Z:List Int),(∀ k ∈ ks,Zv rows m k=0)→(∀ j ∈ Z,Zv rows m j=0→¬ JB rows m w j)→(∃ k ∈ ks,JB rows m w k)→∃ us ∈ lvL rows m (lvF rows f) ks Z,Eq7 rows m w us
 | [],Z,_,_,⟨k,hk,_⟩=>by simp at hk
 | k::ks,Z,hk,hZ,hI=>by
  have hk':∀ j ∈ ks,Zv rows m j=0:=fun j hj=>hk j (List.mem_cons_of_mem _ hj)
  have h0:=hk k (List.mem_cons_self ..)
  by_cases hz:k ∈ Z
  ·rw [NL hz]
   refine PN hp hs hf hr he ih ks Z hk' hZ ?_
   obtain ⟨j,hj,hi⟩:=hI
   rcases List.mem_cons.1 hj with rfl | hj
   ·exact absurd hi (hZ _ hz h0)
   exact ⟨j,hj,hi⟩
  rw [Hi hz]
  by_cases hi:JB rows m w k
  ·obtain ⟨w',q⟩:=hi
   have q0:=q.1
   have q1:=q.2.1
   rw [Xr h0] at q0 q1
   simp only at q0 q1
   have hl:=YX hp hs h0
   obtain ⟨us,hu,hE⟩:=ih (goM rows m k).1 (YM rows m Z k) w' (ZV hp hs h0) (by omega) q0 (by rw [q1];exact he) (fun j hj=>by
    rintro ⟨w'',r⟩
    obtain ⟨hjZ,hjd⟩:=List.mem_filter.1 hj
    have hd:Z9 (Zz rows m k.toNat) (Zz rows m j.toNat)=false:=by simpa using hjd
    have r1:=Eq7.cons h0 r
    have r2:=Eq7.swap hp hs r1.1 hd
    have hj0:Zv rows m j=0:=(Xg r2.1).1
    exact hZ j hjZ hj0 ⟨_,(q.trans r1).trans r2⟩)
   exact ⟨k::us,List.mem_append_left _ (List.mem_map.2 ⟨us,hu,rfl⟩),q.trans (Eq7.cons h0 hE)⟩
  obtain ⟨us,hu,hE⟩:=PN hp hs hf hr he ih ks (Z++[k]) hk' (fun j hj hj0=>by
   rcases List.mem_append.1 hj with hj | hj
   ·exact hZ j hj hj0
   ·rw [List.mem_singleton] at hj
    rw [hj];exact hi) (by
   obtain ⟨j,hj,hj2⟩:=hI
   rcases List.mem_cons.1 hj with rfl | hj
   ·exact absurd hj2 hi
   exact ⟨j,hj,hj2⟩)
  exact ⟨us,List.mem_append_right _ hu,hE⟩
theorem Hj {rows:List (List I3)} (hp:Zn rows=true):∀ (f:Nat) (m:V4) (Z w:List Int),Zk m=true→YC rows m<f→(ZE rows m [] w).2.2=0→Zj rows (ZE rows m [] w).1 3=[]→(∀ j ∈ Z,¬ JB rows m w j)→∃ ks ∈ lvF rows f m Z,Eq7 rows m w ks
 | 0,_,_,_,_,h,_,_,_=>absurd h (Nat.not_lt_zero _)
 | f+1,m,Z,w,hs,hf,hr,he,hZ=>by
  rw [lvF]
  match w,hr,he,hZ with
  | [],hr,he,hZ =>
   have he':Zj rows m 3=[]:=he
   rw [if_pos he']
   exact ⟨[],List.mem_singleton.2 rfl,Eq7.same hr⟩
  | k::w,hr,he,hZ =>
   have h0:=(Xg hr).1
   have hne:Zj rows m 3≠[]:=fun e=>by have:=Nq h0;rw [e] at this;simp at this
   rw [if_neg hne]
   exact PN hp hs (by omega) hr he (Hj hp f) _ _ (fun j hj=>Ya hj) (fun j hj _=>hZ j hj) ⟨k,Nq h0,w,Eq7.same hr⟩

def FA (rows:List (List I3)) (m:V4) (L:List (List Int)) (st r:St7):Prop:=r.2.1=st.2.1+L.length∧(∀ x ∈ st.1,x ∈ r.1)∧∀ ks ∈ L,(ZE rows m [] ks).2.2=0∧Zj rows (ZE rows m [] ks).1 3=[]∧∀ x,(x ∈ (ZE rows m [] ks).2.1∨x ∈ XS rows (ZE rows m [] ks).1)→x ∈ r.1
theorem R6 {rows:List (List I3)} {m:V4} {f:Nat} (ih:∀ m Z st,(Xu rows f m Z st).2.2≤5000→YC rows m<f→Zk m=true→FA rows m (lvF rows f m Z) st (Xu rows f m Z st)) (hp:Zn rows=true) (hs:Zk m=true) (hf:YC rows m≤f) :
  ∀ (ks Z:List Int) (st:St7),(∀ k ∈ ks,Zv rows m k=0)→(XJ rows m (Xu rows f) ks Z st).2.2≤5000→FA rows m (lvL rows m (lvF rows f) ks Z) st (XJ rows m (Xu rows f) ks Z st)
 | [],Z,st,_,_=>⟨by simp [XJ,lvL],fun x hx=>hx,fun ks hk=>by simp [lvL] at hk⟩
 | k::ks,Z,st,hk,h5=>by
  have hk':∀ j ∈ ks,Zv rows m j=0:=fun j hj=>hk j (List.mem_cons_of_mem _ hj)
  have h0:=hk k (List.mem_cons_self ..)
  by_cases hz:k ∈ Z
  ·rw [WB hz] at h5 ⊢
   rw [NL hz]
   exact R6 ih hp hs hf ks Z st hk' h5
  rw [Ux hz] at h5 ⊢
  rw [Hi hz]
  have hl:=YX hp hs h0
  have h6:=Nat.le_trans (Uy (Ph rows f) ks (Z++[k]) (Xu rows f (goM rows m k).1 (YM rows m Z k) (st.1++Yr rows m k,st.2))) h5
  obtain ⟨a1,a2,a3⟩:=ih (goM rows m k).1 (YM rows m Z k) (st.1++Yr rows m k,st.2) h6 (by omega) (ZV hp hs h0)
  obtain ⟨b1,b2,b3⟩:=R6 ih hp hs hf ks (Z++[k]) _ hk' h5
  refine ⟨?_,fun x hx=>b2 x (a2 x (List.mem_append_left _ hx)),fun us hu=>?_⟩
  ·rw [b1,a1,List.length_append,List.length_map]
   simp only
   omega
  rcases List.mem_append.1 hu with hu | hu
  ·obtain ⟨vs,hv,rfl⟩:=List.mem_map.1 hu
   obtain ⟨c1,c2,c3⟩:=a3 vs hv
   rw [Xr h0]
   refine ⟨c1,c2,fun x hx=>b2 x ?_⟩
   simp only [List.mem_append] at hx
   rcases hx with (hx | hx) | hx
   ·exact a2 x (List.mem_append_right _ hx)
   ·exact c3 x (.inl hx)
   exact c3 x (.inr hx)
  exact b3 us hu
theorem LY {rows:List (List I3)} (hp:Zn rows=true):∀ (f:Nat) (m:V4) (Z:List Int) (st:St7),(Xu rows f m Z st).2.2≤5000→YC rows m<f→Zk m=true→FA rows m (lvF rows f m Z) st (Xu rows f m Z st)
 | 0,_,_,_,_,h,_=>absurd h (Nat.not_lt_zero _)
 | f+1,m,Z,st,h5,hf,hs=>by
  rw [Xu] at h5 ⊢
  rw [lvF]
  split at h5
  ·rename_i h;simp only at h5;omega
  rename_i h
  rw [if_neg h]
  obtain ⟨a1,a2,a3⟩:=R6 (LY hp f) hp hs (by omega) (Zj rows m 3) Z (UC rows m st) (fun k hk=>Ya hk) h5
  by_cases he:Zj rows m 3=[]
  ·rw [if_pos he]
   rw [he] at a1 a2 a3 ⊢
   refine ⟨?_,fun x hx=>a2 x (List.mem_append_left _ hx),fun ks hk=>?_⟩
   ·rw [a1];unfold UC;simp [lvL,he]
   rw [List.mem_singleton] at hk
   subst hk
   refine ⟨rfl,he,fun x hx=>a2 x ?_⟩
   simp [ZE] at hx
   exact List.mem_append_right _ hx
  rw [if_neg he]
  refine ⟨?_,fun x hx=>a2 x (List.mem_append_left _ hx),a3⟩
  rw [a1];unfold UC;simp [he]

open Go.RowKit

def tab (n:Nat) (f:Nat→Value):List Value:=(List.range n).map f
theorem Wu {n i:Nat} (f:Nat→Value) (h:i<n):(tab n f)[i]?=some (f i):=by simp [tab,h]
theorem XI {n:Nat} {f g:Nat→Value} (h:∀ i,i<n→f i=g i):tab n f=tab n g:=by
 unfold tab
 refine List.map_congr_left (fun i hi=>h i (by simpa using hi))
theorem TW (n i:Nat) (f:Nat→Value) (v:Value):(tab n f).set i v=tab n (fun j=>if j=i then v else f j):=by
 refine List.ext_getElem (by simp [tab]) (fun j h1 h2=>?_)
 simp only [tab,List.length_set,List.length_map,List.length_range] at h1
 rw [List.getElem_set]
 simp only [tab,List.getElem_map,List.getElem_range]
 by_cases e:j=i
 ·subst e;simp
 simp [e,Ne.symm e]
theorem NM (z:Value) (n:Nat):(madeCells #[z] n).toList=tab n fun _=>z:=by
 unfold madeCells tab
 refine List.ext_getElem (by simp) (fun j h1 h2=>?_)
 simp [Nat.mod_one]
theorem KT (z:Value) (n:Nat):(madeCells #[z,z,z] n).toList=tab n fun _=>z:=by
 unfold madeCells tab
 refine List.ext_getElem (by simp) (fun j h1 h2=>?_)
 have h3:j % 3<3:=Nat.mod_lt _ (by omega)
 simp
 match j % 3,h3 with
 | 0,_=>rfl
 | 1,_=>rfl
 | 2,_=>rfl
theorem VR {w:World} {B e s g n:Nat} {xs:List Value} (h:w.ownsRow B e s (.slice (some ⟨g,0,none⟩) n n) n xs):Blk w g e xs∧B≤g:=by
 obtain ⟨hl,h | ⟨g',cap,cur,hv,hB,hg,h1,h2,h3,h4⟩⟩:=h
 ·cases h.1
 cases hv
 refine ⟨?_,hB⟩
 unfold Blk
 rw [hg,← h4,List.take_of_length_le (by simp [h3])]
def XK (n:Nat) (F:Nat→Nat→Bool):List Value:=tab (n*n) fun j=>.bool (F (j / n) (j % n))
theorem Mr {n i k:Nat} (hi:i<n) (hk:k<n):i*n+k<n*n∧(i*n+k) / n=i∧(i*n+k) % n=k:=by
 refine ⟨?_,?_,?_⟩
 ·have:(i+1)*n≤n*n:=Nat.mul_le_mul_right n (by omega)
  rw [Nat.add_mul] at this
  omega
 ·rw [Nat.mul_comm,Nat.mul_add_div (by omega),Nat.div_eq_of_lt hk,Nat.add_zero]
 rw [Nat.mul_comm,Nat.mul_add_mod,Nat.mod_eq_of_lt hk]
theorem TU {n i k:Nat} (F:Nat→Nat→Bool) (hi:i<n) (hk:k<n):(XK n F)[i*n+k]?=some (.bool (F i k)):=by
 obtain ⟨h1,h2,h3⟩:=Mr hi hk
 unfold XK
 rw [Wu _ h1,h2,h3]
theorem Td {n:Nat} {F G:Nat→Nat→Bool} (h:∀ i k,i<n→k<n→F i k=G i k):XK n F=XK n G:=by
 refine XI (fun j hj=>?_)
 have hn:0<n:=by
  rcases Nat.eq_zero_or_pos n with e | e
  ·subst e;simp at hj
  exact e
 rw [h _ _ ((Nat.div_lt_iff_lt_mul hn).2 hj) (Nat.mod_lt _ hn)]
theorem GF {n i k:Nat} (F:Nat→Nat→Bool) (b:Bool) (hi:i<n) (hk:k<n):(XK n F).set (i*n+k) (.bool b)=XK n (fun h c=>if h=i∧c=k then b else F h c):=by
 obtain ⟨h1,h2,h3⟩:=Mr hi hk
 unfold XK
 rw [TW]
 refine XI (fun j hj=>?_)
 by_cases e:j=i*n+k
 ·subst e
  rw [if_pos rfl,h2,h3]
  simp only [and_self,if_true]
 rw [if_neg e]
 have e9:¬ (j / n=i∧j % n=k):=by
  rintro ⟨e1,e2⟩
  apply e
  have:=Nat.div_add_mod j n
  rw [e1,e2,Nat.mul_comm] at this
  exact this.symm
 simp only [if_neg e9]
theorem PF {n i k N:Nat} (hN:N=n*n) (hb:N≤16777216) (hi:i<n) (hk:k<n):∃ M P:Nat,wrap64 ((i:Int)*(n:Int))=(M:Int)∧wrap64 ((M:Int)+(k:Int))=(P:Int)∧(P:Int)<(N:Int)∧(0:Int)≤(P:Int)∧P=i*n+k:=by
 have h1:=(Mr hi hk).1
 rw [← hN] at h1
 refine ⟨i*n,i*n+k,?_,?_,Int.ofNat_lt.2 h1,Int.natCast_nonneg _,rfl⟩
 ·rw [← Int.natCast_mul]
  generalize i*n=M at h1
  exact IntWalk.wrap64_in _ ⟨by omega,by omega⟩
 rw [← Int.natCast_add]
 generalize i*n+k=P at h1
 exact IntWalk.wrap64_in _ ⟨by omega,by omega⟩
theorem Fo {n N:Nat} (hN:N=n*n) (hb:N≤16777216):wrap64 ((n:Int)*(n:Int))=(N:Int):=by
 rw [← Int.natCast_mul,← hN]
 exact IntWalk.wrap64_in _ ⟨by omega,by omega⟩

set_option linter.unusedSimpArgs false

theorem J8 (x y z:Value) (W:World):(Instr.index 142 (.agg #[x,y,z]) (.int .i64 0)).run Tryz.prog W=.ok x W:=by kernel_rfl
theorem J9 (x y z:Value) (W:World):(Instr.index 142 (.agg #[x,y,z]) (.int .i64 1)).run Tryz.prog W=.ok y W:=by kernel_rfl
theorem Ha (x y z:Value) (W:World):(Instr.index 142 (.agg #[x,y,z]) (.int .i64 2)).run Tryz.prog W=.ok z W:=by kernel_rfl
def inC (a b:Nat→Nat):Bool:=decide (a 0≤b 0) && (decide (a 1≤b 1) && decide (a 2≤b 2))
def ck (f:Nat→Nat):Value:=.agg #[.int .i64 (f 0),.int .i64 (f 1),.int .i64 (f 2)]
theorem Jt (a b:Nat→Nat) (w:World) :
  Calls Tryz.prog 129 #[ck a,ck b] w fun e w'=>e=.returned (.bool (inC a b))∧Below w.heap.size w w':=by
 unfold ck inC
 generalize a 0=a0
 generalize a 1=a1
 generalize a 2=a2
 generalize b 0=b0
 generalize b 1=b1
 generalize b 2=b2
 have q0:=J8 (.int .i64 a0) (.int .i64 a1) (.int .i64 a2)
 have q1:=J9 (.int .i64 a0) (.int .i64 a1) (.int .i64 a2)
 have q2:=Ha (.int .i64 a0) (.int .i64 a1) (.int .i64 a2)
 by_cases h0:a0≤b0
 ·by_cases h1:a1≤b1
  ·by_cases h2:a2≤b2
   ·have g0:¬ (a0:Int) > (b0:Int):=by omega
    have g1:¬ (a1:Int) > (b1:Int):=by omega
    have g2:¬ (a2:Int) > (b2:Int):=by omega
    simp only [h0,h1,h2,decide_true,decide_false,Bool.and_self,Bool.and_true,Bool.true_and,Bool.false_and,Bool.and_false]
    clear h0 h1 h2
    go_enter Tryz.func129,Tryz.ntmps129
    go_wp2
    refine wp_loop_rounds 4 ?_
    rw [rounds_succ]
    go_wp2
    rw [rounds_succ]
    go_wp2
    rw [rounds_succ]
    go_wp2
    rw [rounds_succ]
    go_wp2
    go_ret
    exact ⟨rfl,by go_grown⟩
   have g0:¬ (a0:Int) > (b0:Int):=by omega
   have g1:¬ (a1:Int) > (b1:Int):=by omega
   have g2:(a2:Int) > (b2:Int):=by omega
   simp only [h0,h1,h2,decide_true,decide_false,Bool.and_self,Bool.and_true,Bool.true_and,Bool.false_and,Bool.and_false]
   clear h0 h1 h2
   go_enter Tryz.func129,Tryz.ntmps129
   go_wp2
   refine wp_loop_rounds 4 ?_
   rw [rounds_succ]
   go_wp2
   rw [rounds_succ]
   go_wp2
   rw [rounds_succ]
   go_wp2
   go_ret
   exact ⟨rfl,by go_grown⟩
  have g0:¬ (a0:Int) > (b0:Int):=by omega
  have g1:(a1:Int) > (b1:Int):=by omega
  simp only [h0,h1,decide_true,decide_false,Bool.and_self,Bool.and_true,Bool.true_and,Bool.false_and,Bool.and_false]
  clear h0 h1
  go_enter Tryz.func129,Tryz.ntmps129
  go_wp2
  refine wp_loop_rounds 4 ?_
  rw [rounds_succ]
  go_wp2
  rw [rounds_succ]
  go_wp2
  go_ret
  exact ⟨rfl,by go_grown⟩
 have g0:(a0:Int) > (b0:Int):=by omega
 simp only [h0,decide_true,decide_false,Bool.and_self,Bool.and_true,Bool.true_and,Bool.false_and,Bool.and_false]
 clear h0
 go_enter Tryz.func129,Tryz.ntmps129
 go_wp2
 refine wp_loop_rounds 4 ?_
 rw [rounds_succ]
 go_wp2
 go_ret
 exact ⟨rfl,by go_grown⟩

def set3 (cs:List Value) (off:Nat) (x y z:Value):List Value:=((cs.set off x).set (off+1) y).set (off+2) z
theorem GZ {w:World} {g t off:Nat} {cs:List Value} (hB:Blk w g t cs) (x y:Nat→Nat) (h0:cs[off]?=some (.int .i64 (x 0))) (h1:cs[off+1]?=some (.int .i64 (x 1))) (h2:cs[off+2]?=some (.int .i64 (x 2))) :
  Calls Tryz.prog 128 #[.pointer (some ⟨g,off,none⟩),ck y] w fun e w'=>e=.returned (.tuple #[])∧Blk w' g t (set3 cs off (.int .i64 (max (x 0) (y 0):Nat)) (.int .i64 (max (x 1) (y 1):Nat)) (.int .i64 (max (x 2) (y 2):Nat)))∧w.grownBy w' (some g):=by
 unfold ck set3
 generalize x 0=x0 at *
 generalize x 1=x1 at *
 generalize x 2=x2 at *
 generalize y 0=y0
 generalize y 1=y1
 generalize y 2=y2
 have q0:=J8 (.int .i64 y0) (.int .i64 y1) (.int .i64 y2)
 have q1:=J9 (.int .i64 y0) (.int .i64 y1) (.int .i64 y2)
 have q2:=Ha (.int .i64 y0) (.int .i64 y1) (.int .i64 y2)
 have hal:Below w.heap.size w (w.alloc (.cells #[.int .i64 y0,.int .i64 y1,.int .i64 y2] 142)):=by go_grown
 have pA:=hB.below hal
 have ga:w.grownBy (w.alloc (.cells #[.int .i64 y0,.int .i64 y1,.int .i64 y2] 142)) (some g):=Yb hal
 clear hal hB
 go_enter Tryz.func128,Tryz.ntmps128
 go_wp2
 generalize w.alloc (.cells #[.int .i64 y0,.int .i64 y1,.int .i64 y2] 142)=U0 at *
 refine wp_loop_rounds 4 ?_
 have c0:=pA.cell (off)
 rw [h0] at c0
 have f0:=pA.frozen (off)
 rw [rounds_succ]
 go_wp2_with fail
 go_region
 first | rw [show (if x0<y0 then (y0:Int) else (x0:Int))=((max x0 y0:Nat):Int) by split<;>omega] | rw [show max (x0:Int) (y0:Int)=((max x0 y0:Nat):Int) by omega]
 have p0:Blk ((U0.setCell ⟨g,off,none⟩ (.int .i64 (max x0 y0:Nat))).drew) g t (cs.set (off) (.int .i64 (max x0 y0:Nat))):=pA.set (off) _
 have g0:w.grownBy ((U0.setCell ⟨g,off,none⟩ (.int .i64 (max x0 y0:Nat))).drew) (some g):=ZL ga ⟨rfl,rfl,rfl,by simp,fun i _ hr=>Below.heap_setCell U0 ⟨g,off,none⟩ _ i (fun e=>hr (by rw [e]))⟩
 clear c0 f0 pA ga
 generalize (U0.setCell ⟨g,off,none⟩ (.int .i64 (max x0 y0:Nat))).drew=U1 at *
 go_wp2_with fail
 have c1:=p0.cell (off+1)
 rw [List.getElem?_set_ne (by omega),h1] at c1
 have f1:=p0.frozen (off+1)
 rw [rounds_succ]
 go_wp2_with fail
 go_region
 first | rw [show (if x1<y1 then (y1:Int) else (x1:Int))=((max x1 y1:Nat):Int) by split<;>omega] | rw [show max (x1:Int) (y1:Int)=((max x1 y1:Nat):Int) by omega]
 have p1:Blk ((U1.setCell ⟨g,off+1,none⟩ (.int .i64 (max x1 y1:Nat))).drew) g t ((cs.set (off) (.int .i64 (max x0 y0:Nat))).set (off+1) (.int .i64 (max x1 y1:Nat))):=p0.set (off+1) _
 have g1:w.grownBy ((U1.setCell ⟨g,off+1,none⟩ (.int .i64 (max x1 y1:Nat))).drew) (some g):=ZL g0 ⟨rfl,rfl,rfl,by simp,fun i _ hr=>Below.heap_setCell U1 ⟨g,off+1,none⟩ _ i (fun e=>hr (by rw [e]))⟩
 clear c1 f1 p0 g0
 generalize (U1.setCell ⟨g,off+1,none⟩ (.int .i64 (max x1 y1:Nat))).drew=U2 at *
 go_wp2_with fail
 have c2:=p1.cell (off+2)
 rw [List.getElem?_set_ne (by omega),List.getElem?_set_ne (by omega),h2] at c2
 have f2:=p1.frozen (off+2)
 rw [rounds_succ]
 go_wp2_with fail
 go_region
 first | rw [show (if x2<y2 then (y2:Int) else (x2:Int))=((max x2 y2:Nat):Int) by split<;>omega] | rw [show max (x2:Int) (y2:Int)=((max x2 y2:Nat):Int) by omega]
 have p2:Blk ((U2.setCell ⟨g,off+2,none⟩ (.int .i64 (max x2 y2:Nat))).drew) g t (((cs.set (off) (.int .i64 (max x0 y0:Nat))).set (off+1) (.int .i64 (max x1 y1:Nat))).set (off+2) (.int .i64 (max x2 y2:Nat))):=p1.set (off+2) _
 have g2:w.grownBy ((U2.setCell ⟨g,off+2,none⟩ (.int .i64 (max x2 y2:Nat))).drew) (some g):=ZL g1 ⟨rfl,rfl,rfl,by simp,fun i _ hr=>Below.heap_setCell U2 ⟨g,off+2,none⟩ _ i (fun e=>hr (by rw [e]))⟩
 clear c2 f2 p1 g1
 generalize (U2.setCell ⟨g,off+2,none⟩ (.int .i64 (max x2 y2:Nat))).drew=U3 at *
 go_wp2_with fail
 rw [rounds_succ]
 go_wp2
 go_end0
 exact ⟨rfl,p2,g2⟩


inductive Bef (D:Nat→Nat→Bool):Nat→Nat→Prop
 | one {i k:Nat}:i<k→D i k=true→Bef D i k
 | more {i j k:Nat}:Bef D i j→j<k→D j k=true→Bef D i k
theorem Bef.lt {D:Nat→Nat→Bool} {i k:Nat} (h:Bef D i k):i<k:=by
 induction h with
 | one h _=>exact h
 | more _ h _ ih=>omega
theorem SX {D:Nat→Nat→Bool} {i k:Nat}:Bef D i k↔∃ j,j<k∧D j k=true∧(i=j∨Bef D i j):=by
 constructor
 ·intro h
  cases h with
  | one h1 h2=>exact ⟨i,h1,h2,.inl rfl⟩
  | more h0 h1 h2=>exact ⟨_,h1,h2,.inr h0⟩
 rintro ⟨j,h1,h2,rfl | h3⟩
 ·exact .one h1 h2
 exact .more h3 h1 h2
def Vx (th:Nat→Nat) (t:Nat):Nat→Nat
 | 0=>0
 | n+1=>Vx th t n+(if th n=t then 1 else 0)
theorem Qy (th:Nat→Nat) (t:Nat) {a b:Nat} (h:a≤b):Vx th t a≤Vx th t b:=by
 induction b with
 | zero =>
  have:a=0:=by omega
  subst this
  exact Nat.le_refl _
 | succ b ih =>
  by_cases e:a=b+1
  ·subst e;exact Nat.le_refl _
  have:=ih (by omega)
  show _≤Vx th t b+_
  omega
def rk (th:Nat→Nat) (i:Nat):Nat:=Vx th (th i) i+1
theorem PT (th:Nat→Nat) (i:Nat):rk th i=Vx th (th i) (i+1):=by unfold rk;simp [Vx]
theorem N5 {th:Nat→Nat} {i j:Nat} (h:th i=th j) (hl:i<j):rk th i<rk th j:=by
 have h1:=Qy th (th i) (show i+1≤j by omega)
 rw [PT]
 unfold rk
 rw [← h]
 omega
theorem Q7 {th:Nat→Nat} {i j:Nat} (h:th i=th j):rk th i≤rk th j↔i≤j:=by
 constructor
 ·intro h1
  by_cases h2:i≤j
  ·exact h2
  have:=N5 h.symm (show j<i by omega)
  omega
 intro h1
 by_cases h2:i=j
 ·subst h2;exact Nat.le_refl _
 have:=N5 h (show i<j by omega)
 omega
theorem T3 (th:Nat→Nat) (t:Nat):∀ n,0<Vx th t n→∃ i,i<n∧th i=t∧rk th i=Vx th t n
 | 0,h=>by simp [Vx] at h
 | n+1,h=>by
  by_cases e:th n=t
  ·exact ⟨n,by omega,e,by rw [PT,e]⟩
  have h1:Vx th t (n+1)=Vx th t n:=by simp [Vx,e]
  rw [h1] at h ⊢
  obtain ⟨i,h2,h3,h4⟩:=T3 th t n h
  exact ⟨i,by omega,h3,h4⟩
def YF (D:Nat→Nat→Bool) (k:Nat) (prev:Nat→Nat→Nat) (t:Nat):Nat→Nat
 | 0=>0
 | n+1=>if D n k then Nat.max (YF D k prev t n) (prev n t) else YF D k prev t n
def X1 (D:Nat→Nat→Bool) (th:Nat→Nat):Nat→Nat→Nat→Nat
 | 0,_,_=>0
 | n+1,j,t=>if j=n then YF D n (X1 D th n) t n+(if t=th n then 1 else 0) else X1 D th n j t
def clk (D:Nat→Nat→Bool) (th:Nat→Nat) (k t:Nat):Nat:=X1 D th (k+1) k t
theorem Rp (D:Nat→Nat→Bool) (th:Nat→Nat) (j t:Nat):∀ n,j<n→X1 D th n j t=clk D th j t
 | 0,h=>by omega
 | n+1,h=>by
  by_cases e:j=n
  ·subst e;rfl
  have h1:X1 D th (n+1) j t=X1 D th n j t:=by show (if j=n then _ else _)=_;rw [if_neg e]
  rw [h1]
  exact Rp D th j t n (by omega)
theorem Nw {D:Nat→Nat→Bool} {k t x:Nat} {prev:Nat→Nat→Nat} (hx:0<x):∀ n,x≤YF D k prev t n↔∃ j,j<n∧D j k=true∧x≤prev j t
 | 0=>by simp [YF];omega
 | n+1=>by
  have ih:=Nw (D:=D) (k:=k) (t:=t) (x:=x) (prev:=prev) hx n
  by_cases hd:D n k=true
  ·have e:YF D k prev t (n+1)=Nat.max (YF D k prev t n) (prev n t):=by show (if D n k then _ else _)=_;rw [if_pos hd]
   rw [e]
   constructor
   ·intro h
    by_cases h1:x≤YF D k prev t n
    ·obtain ⟨j,h2,h3,h4⟩:=ih.1 h1
     exact ⟨j,by omega,h3,h4⟩
    exact ⟨n,by omega,hd,by have h5:Nat.max (YF D k prev t n) (prev n t)=max (YF D k prev t n) (prev n t):=rfl;rw [h5] at h;omega⟩
   rintro ⟨j,h2,h3,h4⟩
   have h5:Nat.max (YF D k prev t n) (prev n t)=max (YF D k prev t n) (prev n t):=rfl
   rw [h5]
   by_cases h6:j=n
   ·subst h6;omega
   have:=ih.2 ⟨j,by omega,h3,h4⟩
   omega
  have e:YF D k prev t (n+1)=YF D k prev t n:=by show (if D n k then _ else _)=_;rw [if_neg hd]
  rw [e,ih]
  constructor
  ·rintro ⟨j,h2,h3,h4⟩
   exact ⟨j,by omega,h3,h4⟩
  rintro ⟨j,h2,h3,h4⟩
  refine ⟨j,?_,h3,h4⟩
  by_cases h6:j=n
  ·subst h6;exact absurd h3 hd
  omega
theorem Nv (D:Nat→Nat→Bool) (th:Nat→Nat) (k t:Nat):∀ n,n≤k→YF D k (X1 D th k) t n=YF D k (clk D th) t n
 | 0,_=>rfl
 | n+1,h=>by
  have e1:=Nv D th k t n (by omega)
  have e2:=Rp D th n t k (by omega)
  show (if D n k then _ else _)=(if D n k then _ else _)
  rw [e1,e2]
theorem FF (D:Nat→Nat→Bool) (th:Nat→Nat) (k t:Nat):clk D th k t=YF D k (clk D th) t k+(if t=th k then 1 else 0):=by
 have h:clk D th k t=YF D k (X1 D th k) t k+(if t=th k then 1 else 0):=by show (if k=k then _ else _)=_;rw [if_pos rfl]
 rw [h,Nv D th k t k (Nat.le_refl _)]
theorem T1 {D:Nat→Nat→Bool} {th:Nat→Nat} (hD:∀ i k,i<k→th i=th k→D i k=true):∀ k t x,0<x→(x≤clk D th k t↔∃ i,(i=k∨Bef D i k)∧th i=t∧x≤rk th i):=by
 intro k
 induction k using Nat.strongRecOn with
 | _ k ih =>
  intro t x hx
  have hj:∀ y,0<y→(y≤YF D k (clk D th) t k↔∃ i,Bef D i k∧th i=t∧y≤rk th i):=by
   intro y hy
   rw [Nw hy]
   constructor
   ·rintro ⟨j,h1,h2,h3⟩
    obtain ⟨i,h4,h5,h6⟩:=(ih j h1 t y hy).1 h3
    exact ⟨i,SX.2 ⟨j,h1,h2,h4⟩,h5,h6⟩
   rintro ⟨i,h4,h5,h6⟩
   obtain ⟨j,h1,h2,h3⟩:=SX.1 h4
   exact ⟨j,h1,h2,(ih j h1 t y hy).2 ⟨i,h3,h5,h6⟩⟩
  rw [FF]
  by_cases e:t=th k
  ·rw [if_pos e]
   have hc:YF D k (clk D th) t k=Vx th t k:=by
    refine Nat.le_antisymm ?_ ?_
    ·by_cases h0:YF D k (clk D th) t k=0
     ·omega
     obtain ⟨i,h1,h2,h3⟩:=(hj _ (by omega)).1 (Nat.le_refl _)
     have h4:=Qy th t (show i+1≤k by have:=h1.lt;omega)
     rw [PT,h2] at h3
     omega
    by_cases h0:Vx th t k=0
    ·omega
    obtain ⟨i,h1,h2,h3⟩:=T3 th t k (by omega)
    exact (hj _ (by omega)).2 ⟨i,.one h1 (hD i k h1 (by rw [h2,e])),h2,by omega⟩
   rw [hc]
   have hr:Vx th t k+1=rk th k:=by unfold rk;rw [e]
   rw [hr]
   constructor
   ·intro h
    exact ⟨k,.inl rfl,e.symm,h⟩
   rintro ⟨i,h1 | h1,h2,h3⟩
   ·subst h1;exact h3
   have:=N5 (th:=th) (show th i=th k by rw [h2,e]) h1.lt
   omega
  rw [if_neg e,Nat.add_zero,hj x hx]
  constructor
  ·rintro ⟨i,h1,h2,h3⟩
   exact ⟨i,.inr h1,h2,h3⟩
  rintro ⟨i,h1 | h1,h2,h3⟩
  ·subst h1;exact absurd h2.symm e
  exact ⟨i,h1,h2,h3⟩
theorem SZ {D:Nat→Nat→Bool} {th:Nat→Nat} (hD:∀ i k,i<k→th i=th k→D i k=true) (k:Nat):clk D th k (th k)=rk th k:=by
 have h0:0<rk th k:=by unfold rk;omega
 refine Nat.le_antisymm ?_ ((T1 hD k (th k) _ h0).2 ⟨k,.inl rfl,rfl,Nat.le_refl _⟩)
 have h1:=(T1 hD k (th k) _ h0).2 ⟨k,.inl rfl,rfl,Nat.le_refl _⟩
 obtain ⟨i,h2,h3,h4⟩:=(T1 hD k (th k) (clk D th k (th k)) (by omega)).1 (Nat.le_refl _)
 rcases h2 with h2 | h2
 ·subst h2;exact h4
 have:=N5 (th:=th) h3 h2.lt
 omega
theorem Hn {D:Nat→Nat→Bool} {th:Nat→Nat} (hD:∀ i k,i<k→th i=th k→D i k=true) (taken:Nat→Nat) (k:Nat) :
  (clk D th k (th k)=taken (th k)+1∧∀ t,clk D th k t≤taken t+(if t=th k then 1 else 0))↔(taken (th k)<rk th k∧∀ i,Bef D i k→rk th i≤taken (th i)):=by
 have h0:∀ i,0<rk th i:=fun i=>by unfold rk;omega
 constructor
 ·rintro ⟨h1,h2⟩
  rw [SZ hD] at h1
  refine ⟨by omega,fun i hi=>?_⟩
  have h3:=(T1 hD k (th i) _ (h0 i)).2 ⟨i,.inr hi,rfl,Nat.le_refl _⟩
  have h4:=h2 (th i)
  by_cases e:th i=th k
  ·have:=N5 e hi.lt
   rw [e]
   omega
  rw [if_neg e] at h4
  omega
 rintro ⟨h1,h2⟩
 have hk:rk th k=taken (th k)+1:=by
  have h3:Vx th (th k) k≤taken (th k):=by
   by_cases e:Vx th (th k) k=0
   ·omega
   obtain ⟨i,h4,h5,h6⟩:=T3 th (th k) k (by omega)
   have h7:=h2 i (.one h4 (hD i k h4 h5))
   rw [h5] at h7
   omega
  have h8:rk th k=Vx th (th k) k+1:=rfl
  omega
 refine ⟨by rw [SZ hD];exact hk,fun t=>?_⟩
 by_cases e:t=th k
 ·rw [if_pos e,e,SZ hD]
  omega
 rw [if_neg e,Nat.add_zero]
 by_cases h9:clk D th k t=0
 ·omega
 obtain ⟨i,hi,ht,hr⟩:=(T1 hD k t (clk D th k t) (by omega)).1 (Nat.le_refl _)
 rcases hi with hi | hi
 ·subst hi;exact absurd ht.symm e
 have:=h2 i hi
 rw [ht] at this
 omega


def ZQ (ok:Nat→Bool) (th:Nat→Nat):Nat→Nat
 | 0=>3
 | n+1=>if ok n then Nat.min (ZQ ok th n) (th n) else ZQ ok th n
def Xb (ok:Nat→Bool) (th:Nat→Nat):Nat→Option Nat
 | 0=>none
 | n+1=>if ok n then (match Xb ok th n with | none=>some n | some b=>if th n<th b then some n else some b) else Xb ok th n
theorem Vt {ok:Nat→Bool} {th:Nat→Nat} (h3:∀ i,th i<3):∀ n,(Xb ok th n=none∧ZQ ok th n=3∧∀ i,i<n→ok i=false)∨∃ b,Xb ok th n=some b∧b<n∧ok b=true∧ZQ ok th n=th b
 | 0=>.inl ⟨rfl,rfl,fun i h=>by omega⟩
 | n+1=>by
  have ih:=Vt (ok:=ok) h3 n
  have e1:Xb ok th (n+1)=if ok n then (match Xb ok th n with | none=>some n | some b=>if th n<th b then some n else some b) else Xb ok th n:=rfl
  have e2:ZQ ok th (n+1)=if ok n then Nat.min (ZQ ok th n) (th n) else ZQ ok th n:=rfl
  have hm:∀ a b:Nat,Nat.min a b=min a b:=fun _ _=>rfl
  have hn:=h3 n
  cases ho:ok n
  ·rw [e1,e2,ho]
   simp only [Bool.false_eq_true,if_false]
   rcases ih with ⟨h1,h2,h4⟩ | ⟨b,h1,h2,h4,h5⟩
   ·refine .inl ⟨h1,h2,fun i hi=>?_⟩
    by_cases e:i=n
    ·subst e;exact ho
    exact h4 i (by omega)
   exact .inr ⟨b,h1,by omega,h4,h5⟩
  rw [e1,e2,ho]
  simp only [if_true]
  rcases ih with ⟨h1,h2,h4⟩ | ⟨b,h1,h2,h4,h5⟩
  ·refine .inr ⟨n,by rw [h1],by omega,ho,?_⟩
   rw [h2,hm]
   omega
  rw [h1]
  simp only
  by_cases hl:th n<th b
  ·refine .inr ⟨n,by rw [if_pos hl],by omega,ho,?_⟩
   rw [h5,hm]
   omega
  refine .inr ⟨b,by rw [if_neg hl],by omega,h4,?_⟩
  rw [h5,hm]
  omega
theorem FR {th:Nat→Nat} {i j:Nat} (h:th i=th j) (e:rk th i=rk th j):i=j:=by
 have h1:=(Q7 h).1 (by omega)
 have h2:=(Q7 h.symm).1 (by omega)
 omega
def okN (D:Nat→Nat→Bool) (th:Nat→Nat) (taken:Nat→Nat) (k:Nat):Bool:=decide (clk D th k (th k)=taken (th k)+1) && (decide (clk D th k 0≤taken 0+(if 0=th k then 1 else 0)) && (decide (clk D th k 1≤taken 1+(if 1=th k then 1 else 0)) && decide (clk D th k 2≤taken 2+(if 2=th k then 1 else 0))))
def TZ (B:Nat→Nat→Bool) (used:Nat→Bool) (k:Nat):Nat→Bool
 | 0=>true
 | n+1=>TZ B used k n && (used n || !B n k)
theorem VQ {B:Nat→Nat→Bool} {used:Nat→Bool} {k:Nat}:∀ n,TZ B used k n=true↔∀ i,i<n→B i k=true→used i=true
 | 0=>by simp [TZ]
 | n+1=>by
  have ih:=VQ (B:=B) (used:=used) (k:=k) n
  have e:TZ B used k (n+1)=(TZ B used k n && (used n || !B n k)):=rfl
  rw [e,Bool.and_eq_true,ih]
  constructor
  ·rintro ⟨h1,h2⟩ i hi hb
   by_cases h:i=n
   ·subst h
    rw [hb] at h2
    simpa using h2
   exact h1 i (by omega) hb
  intro h
  refine ⟨fun i hi hb=>h i (by omega) hb,?_⟩
  cases hb:B n k
  ·simp
  simp [h n (by omega) hb]
def okU (B:Nat→Nat→Bool) (n:Nat) (used:Nat→Bool) (k:Nat):Bool:=!used k && TZ B used k n
theorem L9 {D:Nat→Nat→Bool} {th:Nat→Nat} (hD:∀ i k,i<k→th i=th k→D i k=true) (h3:∀ i,th i<3) (k t:Nat) (ht:3≤t):clk D th k t=0:=by
 by_cases e:clk D th k t=0
 ·exact e
 obtain ⟨i,_,h,_⟩:=(T1 hD k t (clk D th k t) (by omega)).1 (Nat.le_refl _)
 have:=h3 i
 omega
theorem Lt {D B:Nat→Nat→Bool} {th:Nat→Nat} {n:Nat} (hD:∀ i k,i<k→th i=th k→D i k=true) (h3:∀ i,th i<3) (hB:∀ i k,i<n→k<n→(B i k=true↔Bef D i k)) {taken:Nat→Nat} {used:Nat→Bool} (hu:∀ i,i<n→(used i=true↔rk th i≤taken (th i))) {k:Nat} (hk:k<n):okN D th taken k=okU B n used k:=by
 have h1:okN D th taken k=true↔(clk D th k (th k)=taken (th k)+1∧∀ t,clk D th k t≤taken t+(if t=th k then 1 else 0)):=by
  unfold okN
  simp only [Bool.and_eq_true,decide_eq_true_eq]
  constructor
  ·rintro ⟨h,a,b,c⟩
   refine ⟨h,fun t=>?_⟩
   match t with
   | 0=>exact a
   | 1=>exact b
   | 2=>exact c
   | t+3=>rw [L9 hD h3 k (t+3) (by omega)];omega
  rintro ⟨h,a⟩
  exact ⟨h,a 0,a 1,a 2⟩
 have h2:okU B n used k=true↔(taken (th k)<rk th k∧∀ i,Bef D i k→rk th i≤taken (th i)):=by
  unfold okU
  rw [Bool.and_eq_true,VQ]
  constructor
  ·rintro ⟨a,b⟩
   refine ⟨?_,fun i hi=>?_⟩
   ·by_cases e:rk th k≤taken (th k)
    ·rw [(hu k hk).2 e] at a;cases a
    omega
   have hl:i<n:=by have:=hi.lt;omega
   exact (hu i hl).1 (b i hl ((hB i k hl hk).2 hi))
  rintro ⟨a,b⟩
  refine ⟨?_,fun i hi hb=>(hu i hi).2 (b i ((hB i k hi hk).1 hb))⟩
  cases e:used k
  ·rfl
  have:=(hu k hk).1 e
  omega
 have h4:=Hn hD taken k
 cases e1:okN D th taken k
 ·cases e2:okU B n used k
  ·rfl
  rw [h1.2 (h4.2 (h2.1 e2))] at e1;cases e1
 rw [h2.2 (h4.1 (h1.1 e1))]
def Xy (used:Nat→Bool):Nat→Nat
 | 0=>0
 | n+1=>Xy used n+(if used n then 1 else 0)
theorem QA {used:Nat→Bool}:∀ n,Xy used n<n→∃ k,k<n∧used k=false∧∀ i,i<k→used i=true
 | 0,h=>by omega
 | n+1,h=>by
  by_cases h1:Xy used n<n
  ·obtain ⟨k,a,b,c⟩:=QA n h1
   exact ⟨k,by omega,b,c⟩
  have hle:∀ m,Xy used m≤m:=fun m=>by
   induction m with
   | zero=>exact Nat.le_refl _
   | succ m ih=>show Xy used m+_≤_;split<;>omega
  have hall:∀ m,Xy used m=m→∀ i,i<m→used i=true:=fun m=>by
   induction m with
   | zero=>intro _ i hi;omega
   | succ m ih =>
    intro e i hi
    have e1:Xy used (m+1)=Xy used m+(if used m then 1 else 0):=rfl
    have e2:=hle m
    have e3:used m=true:=by
     cases hq:used m
     ·rw [e1,hq] at e;simp at e;omega
     rfl
    rw [e1,e3] at e
    simp at e
    by_cases hx:i=m
    ·subst hx;exact e3
    exact ih e i (by omega)
  have e0:Xy used n=n:=by have:=hle n;omega
  refine ⟨n,by omega,?_,hall n e0⟩
  cases hq:used n
  ·rfl
  have e1:Xy used (n+1)=Xy used n+(if used n then 1 else 0):=rfl
  rw [e1,hq,e0] at h
  simp at h
theorem Na {used:Nat→Bool} {b:Nat} (h:used b=false):∀ n,b<n→Xy (fun i=>used i || i == b) n=Xy used n+1
 | 0,hb=>by omega
 | n+1,hb=>by
  have e1:Xy (fun i=>used i || i == b) (n+1)=Xy (fun i=>used i || i == b) n+(if (used n || n == b) then 1 else 0):=rfl
  have e2:Xy used (n+1)=Xy used n+(if used n then 1 else 0):=rfl
  rw [e1,e2]
  by_cases e:n=b
  ·subst e
   have hs:∀ m,m≤n→Xy (fun i=>used i || i == n) m=Xy used m:=fun m=>by
    induction m with
    | zero=>intro _;rfl
    | succ m ih =>
     intro hm
     show Xy (fun i=>used i || i == n) m+(if (used m || m == n) then 1 else 0)=Xy used m+(if used m then 1 else 0)
     have hne:(m == n)=false:=by simp;omega
     rw [ih (by omega),hne,Bool.or_false]
   rw [hs n (Nat.le_refl _),h]
   simp
  have hne:(n == b)=false:=by simp;omega
  rw [Na h n (by omega),hne,Bool.or_false]
  omega
def stI (D:Nat→Nat→Bool) (th:Nat→Nat) (n:Nat):Nat→(Nat→Nat) × List Nat
 | 0=>(fun _=>0,[])
 | s+1=>(fun t=>(stI D th n s).1 t+(if t=ZQ (okN D th (stI D th n s).1) th n then 1 else 0),(stI D th n s).2++[ZQ (okN D th (stI D th n s).1) th n])
def stS (B:Nat→Nat→Bool) (th:Nat→Nat) (n:Nat):Nat→(Nat→Bool) × List Nat
 | 0=>(fun _=>false,[])
 | s+1=>match Xb (okU B n (stS B th n s).1) th n with
  | none=>stS B th n s
  | some b=>(fun i=>(stS B th n s).1 i || i == b,(stS B th n s).2++[th b])
theorem Tv {f g:Nat→Bool} {th:Nat→Nat}:∀ n,(∀ k,k<n→f k=g k)→ZQ f th n=ZQ g th n
 | 0,_=>rfl
 | n+1,h=>by
  have ih:=Tv (th:=th) n (fun k hk=>h k (by omega))
  show (if f n then _ else _)=(if g n then _ else _)
  rw [h n (by omega),ih]
theorem WA {D B:Nat→Nat→Bool} {th:Nat→Nat} {n:Nat} (hD:∀ i k,i<k→th i=th k→D i k=true) (h3:∀ i,th i<3) (hB:∀ i k,i<n→k<n→(B i k=true↔Bef D i k)):∀ s,s≤n→(stS B th n s).2=(stI D th n s).2∧(∀ i,i<n→((stS B th n s).1 i=true↔rk th i≤(stI D th n s).1 (th i)))∧Xy (stS B th n s).1 n=s∧(s<n→∃ b,Xb (okU B n (stS B th n s).1) th n=some b∧b<n∧ZQ (okN D th (stI D th n s).1) th n=th b)
 | s,hs=>by
  have main:(stS B th n s).2=(stI D th n s).2∧(∀ i,i<n→((stS B th n s).1 i=true↔rk th i≤(stI D th n s).1 (th i)))∧Xy (stS B th n s).1 n=s:=by
   match s,hs with
   | 0,_ =>
    refine ⟨rfl,fun i hi=>?_,?_⟩
    ·have:¬ rk th i≤0:=by unfold rk;omega
     simp [stS,stI,this]
    have hz:∀ m,Xy (fun _=>false) m=0:=fun m=>by
     induction m with
     | zero=>rfl
     | succ m ih=>show Xy (fun _=>false) m+0=0;omega
    exact hz n
   | s+1,hs =>
    obtain ⟨h1,h2,h4,h5⟩:=WA hD h3 hB s (by omega)
    obtain ⟨b,hb,hbn,hl⟩:=h5 (by omega)
    have hok:okU B n (stS B th n s).1 b=true:=by
     rcases Vt (ok:=okU B n (stS B th n s).1) h3 n with ⟨e,_,_⟩ | ⟨b',e,_,h,_⟩
     ·rw [hb] at e;cases e
     rw [hb] at e
     cases e
     exact h
    have hub:(stS B th n s).1 b=false:=by
     unfold okU at hok
     cases e:(stS B th n s).1 b
     ·rfl
     rw [e] at hok;simp at hok
    have hoi:okN D th (stI D th n s).1 b=true:=by rw [Lt hD h3 hB h2 hbn];exact hok
    have hrk:rk th b=(stI D th n s).1 (th b)+1:=by
     unfold okN at hoi
     simp only [Bool.and_eq_true,decide_eq_true_eq] at hoi
     rw [← SZ hD]
     exact hoi.1
    have eS:stS B th n (s+1)=(fun i=>(stS B th n s).1 i || i == b,(stS B th n s).2++[th b]):=by
     show (match Xb (okU B n (stS B th n s).1) th n with | none=>_ | some b=>_)=_
     rw [hb]
    have eI:stI D th n (s+1)=(fun t=>(stI D th n s).1 t+(if t=th b then 1 else 0),(stI D th n s).2++[th b]):=by
     show (fun t=>(stI D th n s).1 t+(if t=ZQ (okN D th (stI D th n s).1) th n then 1 else 0),(stI D th n s).2++[ZQ (okN D th (stI D th n s).1) th n])=_
     rw [hl]
    rw [eS,eI]
    refine ⟨by simp only [h1],fun i hi=>?_,by simp only;rw [Na hub n hbn,h4]⟩
    simp only
    by_cases et:th i=th b
    ·rw [if_pos et]
     have h6:=h2 i hi
     by_cases eb:i=b
     ·subst eb
      simp only [beq_self_eq_true,Bool.or_true,true_iff]
      omega
     have hne:(i == b)=false:=by simp [eb]
     rw [hne,Bool.or_false,h6]
     have h7:rk th i≠rk th b:=fun e=>eb (FR et e)
     rw [et]
     omega
    have hne:(i == b)=false:=by
     simp only [beq_eq_false_iff_ne,ne_eq]
     intro e
     subst e
     exact et rfl
    rw [if_neg et,hne,Bool.or_false,Nat.add_zero]
    exact h2 i hi
  refine ⟨main.1,main.2.1,main.2.2,fun hlt=>?_⟩
  obtain ⟨k,hk,hu,ha⟩:=QA n (show Xy (stS B th n s).1 n<n by rw [main.2.2];exact hlt)
  have hok:okU B n (stS B th n s).1 k=true:=by
   unfold okU
   rw [hu,Bool.and_eq_true,VQ]
   exact ⟨rfl,fun i hi hb=>ha i ((hB i k hi hk).1 hb).lt⟩
  rcases Vt (ok:=okU B n (stS B th n s).1) h3 n with ⟨_,_,h⟩ | ⟨b,e,hbn,_,hl⟩
  ·rw [h k hk] at hok;cases hok
  refine ⟨b,e,hbn,?_⟩
  rw [Tv n (fun k hk=>Lt hD h3 hB main.2.1 hk)]
  exact hl


noncomputable def YI (D:Nat→Nat→Bool) (i k:Nat):Bool:=@decide (Bef D i k) (Classical.propDecidable _)
theorem XQ {D:Nat→Nat→Bool} {i k:Nat}:YI D i k=true↔Bef D i k:=by
 unfold YI
 exact @decide_eq_true_iff _ (Classical.propDecidable _)
theorem Ti {a b:Bool} (h:a=true↔b=true):a=b:=by
 cases a<;>cases b<;>simp_all
noncomputable def Vg (D:Nat→Nat→Bool) (k i h:Nat):Bool:=@decide (∃ j,i≤j∧j<k∧D j k=true∧(h=j∨Bef D h j)) (Classical.propDecidable _)
theorem Vl {D:Nat→Nat→Bool} {k i h:Nat}:Vg D k i h=true↔∃ j,i≤j∧j<k∧D j k=true∧(h=j∨Bef D h j):=by
 unfold Vg
 exact @decide_eq_true_iff _ (Classical.propDecidable _)
noncomputable def VM (D:Nat→Nat→Bool) (k i c h:Nat):Bool:=Vg D k (i+1) h || (h == i || (decide (h<c) && YI D h i))
theorem JS (D:Nat→Nat→Bool) (k h:Nat):Vg D k k h=false:=by
 cases e:Vg D k k h
 ·rfl
 obtain ⟨j,h1,h2,_⟩:=Vl.1 e
 omega
theorem Kc {D:Nat→Nat→Bool} {k i:Nat} (hd:D i k=false) (h:Nat):Vg D k i h=Vg D k (i+1) h:=by
 refine Ti ?_
 rw [Vl,Vl]
 constructor
 ·rintro ⟨j,h1,h2,h3,h4⟩
  refine ⟨j,?_,h2,h3,h4⟩
  by_cases e:i=j
  ·subst e;rw [hd] at h3;cases h3
  omega
 rintro ⟨j,h1,h2,h3,h4⟩
 exact ⟨j,by omega,h2,h3,h4⟩
theorem KW (D:Nat→Nat→Bool) (k i h:Nat):VM D k i 0 h=(Vg D k (i+1) h || h == i):=by simp [VM]
theorem QT (D:Nat→Nat→Bool) (k i c h:Nat):VM D k i (c+1) h=(VM D k i c h || (h == c && YI D c i)):=by
 refine Ti ?_
 unfold VM
 simp only [Bool.or_eq_true,Bool.and_eq_true,decide_eq_true_eq,beq_iff_eq]
 constructor
 ·rintro (h1 | h1 | ⟨h1,h2⟩)
  ·exact .inl (.inl h1)
  ·exact .inl (.inr (.inl h1))
  by_cases e:h=c
  ·exact .inr ⟨e,by rw [← e];exact h2⟩
  exact .inl (.inr (.inr ⟨by omega,h2⟩))
 rintro ((h1 | h1 | ⟨h1,h2⟩) | ⟨h1,h2⟩)
 ·exact .inl h1
 ·exact .inr (.inl h1)
 ·exact .inr (.inr ⟨by omega,h2⟩)
 exact .inr (.inr ⟨by omega,by rw [h1];exact h2⟩)
theorem Hl {D:Nat→Nat→Bool} {k i:Nat} (hd:D i k=true) (hi:i<k) (h:Nat):VM D k i i h=Vg D k i h:=by
 refine Ti ?_
 unfold VM
 simp only [Bool.or_eq_true,Bool.and_eq_true,decide_eq_true_eq,beq_iff_eq]
 rw [Vl,Vl,XQ]
 constructor
 ·rintro (⟨j,h1,h2,h3,h4⟩ | h1 | ⟨h1,h2⟩)
  ·exact ⟨j,by omega,h2,h3,h4⟩
  ·exact ⟨i,Nat.le_refl _,hi,hd,.inl h1⟩
  exact ⟨i,Nat.le_refl _,hi,hd,.inr h2⟩
 rintro ⟨j,h1,h2,h3,h4⟩
 by_cases e:i=j
 ·subst e
  rcases h4 with h4 | h4
  ·exact .inr (.inl h4)
  exact .inr (.inr ⟨h4.lt,h4⟩)
 exact .inl ⟨j,by omega,h2,h3,h4⟩
theorem JR (D:Nat→Nat→Bool) (k h:Nat):Vg D k 0 h=YI D h k:=by
 refine Ti ?_
 rw [Vl,XQ,SX]
 constructor
 ·rintro ⟨j,_,h2,h3,h4⟩
  exact ⟨j,h2,h3,h4⟩
 rintro ⟨j,h2,h3,h4⟩
 exact ⟨j,by omega,h2,h3,h4⟩


def Xv (es:List I4) (i:Nat):I4:=es.getD i (0,0,0,0)
def thE (es:List I4) (i:Nat):Nat:=(Xv es i).1.toNat
def Z8 (es:List I4) (i k:Nat):Bool:=Z9 (Xv es i) (Xv es k)
def YH (es:List I4):Prop:=∀ x ∈ es,0≤x.1∧x.1<3
theorem JV {es:List I4} {i:Nat} (h:i<es.length):Xv es i ∈ es:=by
 unfold Xv
 simp only [List.getD,List.getElem?_eq_getElem h,Option.getD_some]
 exact List.getElem_mem h
theorem Rv {es:List I4} (h:YH es) (i:Nat):0≤(Xv es i).1∧(Xv es i).1<3:=by
 by_cases hi:i<es.length
 ·exact h _ (JV hi)
 unfold Xv
 simp [List.getD,List.getElem?_eq_none (Nat.le_of_not_lt hi)]
theorem Xt {es:List I4} (h:YH es) (i:Nat):thE es i<3:=by
 have:=Rv h i
 unfold thE
 omega
theorem Wv {es:List I4} (h:YH es) (i:Nat):((thE es i:Nat):Int)=(Xv es i).1:=by
 have:=Rv h i
 unfold thE
 omega
theorem Wd {es:List I4} (h:YH es) (i k:Nat) (_:i<k) (ht:thE es i=thE es k):Z8 es i k=true:=by
 refine VS ?_
 rw [← Wv h i,← Wv h k,ht]
theorem QN {ok:Nat→Bool} {th:Nat→Nat} {k:Nat} (ho:ok k=true):∀ n,k<n→ZQ ok th n≤th k
 | 0,h=>by omega
 | n+1,h=>by
  have e:ZQ ok th (n+1)=if ok n then Nat.min (ZQ ok th n) (th n) else ZQ ok th n:=rfl
  have hm:∀ a b:Nat,Nat.min a b=min a b:=fun _ _=>rfl
  by_cases hk:k=n
  ·subst hk
   rw [e,if_pos ho,hm]
   omega
  have ih:=QN (th:=th) ho n (by omega)
  rw [e]
  split
  ·rw [hm];omega
  exact ih
def WK (used:Nat→Bool) (n:Nat):List Nat:=(List.range n).filter (fun i=>!used i)
def UH (es:List I4) (used:Nat→Bool):List I4:=(WK used es.length).map (Xv es)
theorem Vq {used:Nat→Bool} {n i:Nat}:i ∈ WK used n↔i<n∧used i=false:=by
 unfold WK
 simp
theorem NH (used:Nat→Bool) (n:Nat):(WK used n).Pairwise (· < ·):=List.Pairwise.filter _ List.pairwise_lt_range
theorem UZ {used:Nat→Bool} {n k:Nat} {I J:List Nat} (h:WK used n=I++k::J):(∀ i ∈ I,i<k)∧(∀ j ∈ J,k<j):=by
 have hr:=NH used n
 rw [h,List.pairwise_append] at hr
 obtain ⟨_,h2,h3⟩:=hr
 rw [List.pairwise_cons] at h2
 exact ⟨fun i hi=>h3 i hi k (by simp),fun j hj=>h2.1 j hj⟩
theorem KO {used:Nat→Bool} {n b:Nat} {I J:List Nat} (h:WK used n=I++b::J):WK (fun i=>used i || i == b) n=I++J:=by
 obtain ⟨h1,h2⟩:=UZ h
 have e:WK (fun i=>used i || i == b) n=(WK used n).filter (fun i=>!(i == b)):=by
  unfold WK
  rw [List.filter_filter]
  refine List.filter_congr (fun i _=>?_)
  rw [Bool.not_or,Bool.and_comm]
 rw [e,h,List.filter_append]
 have f1:I.filter (fun i=>!(i == b))=I:=by
  rw [List.filter_eq_self]
  intro i hi
  have:=h1 i hi
  simp
  omega
 have f2:(b::J).filter (fun i=>!(i == b))=J:=by
  rw [List.filter_cons]
  simp only [beq_self_eq_true,Bool.not_true,Bool.false_eq_true,if_false]
  rw [List.filter_eq_self]
  intro i hi
  have:=h2 i hi
  simp
  omega
 rw [f1,f2]
theorem Hf (es:List I4):UH es (fun _=>false)=es:=by
 unfold UH WK
 have e:(List.range es.length).filter (fun i=>!false)=List.range es.length:=by
  rw [List.filter_eq_self]
  intro i _
  rfl
 rw [e]
 refine List.ext_getElem (by simp) (fun i h1 h2=>?_)
 simp [Xv,List.getD,h2]
theorem L6 {es:List I4} (h:YH es) {used:Nat→Bool} {b:Nat} (hc:∀ i k,k<es.length→Bef (Z8 es) i k→used k=true→used i=true) (hb:Xb (okU (YI (Z8 es)) es.length used) (thE es) es.length=some b) :
  b<es.length∧okU (YI (Z8 es)) es.length used b=true∧L4 (UH es used) (Xv es b) (UH es (fun i=>used i || i == b)):=by
 have ok_iff:∀ k,okU (YI (Z8 es)) es.length used k=true↔used k=false∧∀ i,i<es.length→Bef (Z8 es) i k→used i=true:=fun k=>by
  unfold okU
  rw [Bool.and_eq_true,VQ]
  simp only [Bool.not_eq_true',XQ]
 rcases Vt (ok:=okU (YI (Z8 es)) es.length used) (Xt h) es.length with ⟨e,_,_⟩ | ⟨b',e,hbn,hok,hl⟩
 ·rw [hb] at e;cases e
 rw [hb] at e
 cases e
 obtain ⟨o1,o2⟩:=(ok_iff b).1 hok
 refine ⟨hbn,hok,?_,?_⟩
 ·obtain ⟨I,J,hIJ⟩:=List.append_of_mem (Vq.2 ⟨hbn,o1⟩)
  obtain ⟨p1,p2⟩:=UZ hIJ
  refine ⟨I.map (Xv es),J.map (Xv es),by unfold UH;rw [hIJ];simp,by unfold UH;rw [KO hIJ];simp,?_⟩
  intro x hx
  obtain ⟨i,hi,rfl⟩:=List.mem_map.1 hx
  have hm:i ∈ WK used es.length:=by rw [hIJ];simp [hi]
  obtain ⟨q1,q2⟩:=Vq.1 hm
  cases hd:Z9 (Xv es i) (Xv es b)
  ·rfl
  have:=o2 i q1 (.one (p1 i hi) hd)
  rw [q2] at this
  cases this
 rintro e' rest' ⟨a,c,f1,f2,f3⟩
 unfold UH at f1
 obtain ⟨I,R,g1,g2,g3⟩:=List.map_eq_append_iff.1 f1
 obtain ⟨k,J,g4,g5,g6⟩:=List.map_eq_cons_iff.1 g3
 rw [g4] at g1
 obtain ⟨p1,p2⟩:=UZ g1
 have hm:k ∈ WK used es.length:=by rw [g1];simp
 obtain ⟨q1,q2⟩:=Vq.1 hm
 have free:∀ i,i<k→used i=false→Z8 es i k=false:=fun i hi hu=>by
  have hmi:i ∈ WK used es.length:=Vq.2 ⟨by omega,hu⟩
  rw [g1] at hmi
  simp only [List.mem_append,List.mem_cons] at hmi
  rcases hmi with hmi | hmi | hmi
  ·have:=f3 (Xv es i) (by rw [← g2];exact List.mem_map_of_mem hmi)
   rw [← g5] at this
   exact this
  ·omega
  have:=p2 i hmi
  omega
 have okk:okU (YI (Z8 es)) es.length used k=true:=by
  rw [ok_iff]
  refine ⟨q2,fun i hi hbf=>?_⟩
  obtain ⟨j,j1,j2,j3⟩:=SX.1 hbf
  have hj:used j=true:=by
   cases hu:used j
   ·rw [free j j1 hu] at j2;cases j2
   rfl
  rcases j3 with rfl | j3
  ·exact hj
  exact hc i j (by omega) j3 hj
 have hle:=QN (th:=thE es) okk es.length q1
 rw [hl] at hle
 rw [← g5,← Wv h b,← Wv h k]
 omega
theorem Qc {B:Nat→Nat→Bool} {th:Nat→Nat} {n s b:Nat} (hb:Xb (okU B n (stS B th n s).1) th n=some b):stS B th n (s+1)=(fun i=>(stS B th n s).1 i || i == b,(stS B th n s).2++[th b]):=by
 show (match Xb (okU B n (stS B th n s).1) th n with | none=>_ | some b=>_)=_
 rw [hb]
theorem Lr {es:List I4} (h:YH es):∀ s,s≤es.length→(∀ i k,k<es.length→Bef (Z8 es) i k→(stS (YI (Z8 es)) (thE es) es.length s).1 k=true→(stS (YI (Z8 es)) (thE es) es.length s).1 i=true)∧∀ ts,Nrm (UH es (stS (YI (Z8 es)) (thE es) es.length s).1) ts→Nrm es ((stS (YI (Z8 es)) (thE es) es.length s).2.map (fun t:Nat=>(t:Int))++ts)
 | 0,_=>by
  refine ⟨fun i k _ _ hk=>(by cases hk),fun ts ht=>?_⟩
  have e:UH es (stS (YI (Z8 es)) (thE es) es.length 0).1=es:=Hf es
  rw [e] at ht
  exact ht
 | s+1,hs=>by
  obtain ⟨ic,ih⟩:=Lr h s (by omega)
  obtain ⟨_,_,_,h4⟩:=WA (D:=Z8 es) (B:=YI (Z8 es)) (Wd h) (Xt h) (n:=es.length) (fun i k _ _=>XQ) s (by omega)
  obtain ⟨b,hb,hbn,_⟩:=h4 (by omega)
  obtain ⟨_,hok,hp⟩:=L6 h ic hb
  have hall:∀ i,i<es.length→Bef (Z8 es) i b→(stS (YI (Z8 es)) (thE es) es.length s).1 i=true:=fun i hi hbf=>by
   unfold okU at hok
   rw [Bool.and_eq_true,VQ] at hok
   exact hok.2 i hi (XQ.2 hbf)
  rw [Qc hb]
  refine ⟨fun i k hk hbf hu=>?_,fun ts ht=>?_⟩
  ·simp only [Bool.or_eq_true,beq_iff_eq] at hu ⊢
   rcases hu with hu | hu
   ·exact .inl (ic i k hk hbf hu)
   subst hu
   exact .inl (hall i (by have:=hbf.lt;omega) hbf)
  have h5:=ih _ (Nrm.cons hp ht)
  rw [List.map_append,List.append_assoc]
  have h6:((Xv es b).1::ts)=([thE es b].map (fun t:Nat=>(t:Int))++ts):=by
   simp [Wv h b]
  rw [h6] at h5
  exact h5
theorem Qz {used:Nat→Bool}:∀ n,Xy used n=n→∀ i,i<n→used i=true
 | 0,_,i,hi=>by omega
 | n+1,h,i,hi=>by
  have hle:∀ m,Xy used m≤m:=fun m=>by
   induction m with
   | zero=>exact Nat.le_refl _
   | succ m ih=>show Xy used m+_≤_;split<;>omega
  have e:Xy used (n+1)=Xy used n+(if used n then 1 else 0):=rfl
  have h1:=hle n
  cases hu:used n
  ·rw [e,hu] at h;simp at h;omega
  rw [e,hu] at h
  simp at h
  by_cases hx:i=n
  ·subst hx;exact hu
  exact Qz n h i (by omega)
theorem PO {es:List I4} (h:YH es):Nrm es ((stS (YI (Z8 es)) (thE es) es.length es.length).2.map (fun t:Nat=>(t:Int)))∧(stS (YI (Z8 es)) (thE es) es.length es.length).2=(stI (Z8 es) (thE es) es.length es.length).2:=by
 obtain ⟨h1,_,h3,_⟩:=WA (D:=Z8 es) (B:=YI (Z8 es)) (Wd h) (Xt h) (n:=es.length) (fun i k _ _=>XQ) es.length (Nat.le_refl _)
 refine ⟨?_,h1⟩
 have h4:=(Lr h es.length (Nat.le_refl _)).2 []
 rw [List.append_nil] at h4
 refine h4 ?_
 have e:WK (stS (YI (Z8 es)) (thE es) es.length es.length).1 es.length=[]:=by
  rw [List.eq_nil_iff_forall_not_mem]
  intro i hi
  obtain ⟨q1,q2⟩:=Vq.1 hi
  rw [Qz es.length h3 i q1] at q2
  cases q2
 unfold UH
 rw [e]
 exact .nil


theorem RE:(Tryz.prog.info? 4).map (fun i=>(i.zero,i.size,i.bytes))=some (some (.bool false),1,1):=by kernel_rfl
def Mp (e:Ending) (w w':World) (n:Nat) (D:Nat→Nat→Bool):Prop:=∃ g,e=.returned (.slice (some ⟨g,0,none⟩) (n*n) (n*n))∧Blk w' g 4 (XK n (YI D))∧w.heap.size≤g∧Below w.heap.size w w'
noncomputable def Wk (D:Nat→Nat→Bool) (k:Nat) (f:Nat→Bool) (h c:Nat):Bool:=if c<k then YI D h c else if c=k then f h else false
theorem K3 {n k:Nat} {D:Nat→Nat→Bool}:XK n (Wk D k (YI D · k))=XK n (Wk D (k+1) (fun _=>false)):=by
 refine Td (fun i c _ _=>?_)
 unfold Wk
 by_cases h1:c<k
 ·rw [if_pos h1,if_pos (by omega)]
 rw [if_neg h1]
 by_cases h2:c=k
 ·rw [if_pos h2,if_pos (by omega),h2]
 rw [if_neg h2,if_neg (by omega)]
 split<;>rfl
theorem NU {n k i:Nat} {D:Nat→Nat→Bool} {f:Nat→Bool} (hi:i<n) (hk:k<n):(XK n (Wk D k f)).set (i*n+k) (.bool true)=XK n (Wk D k (fun h=>f h || h == i)):=by
 rw [GF _ _ hi hk]
 refine Td (fun h c _ _=>?_)
 unfold Wk
 by_cases h1:c<k
 ·rw [if_neg (by omega),if_pos h1,if_pos h1]
 rw [if_neg h1,if_neg h1]
 by_cases h2:c=k
 ·subst h2
  simp only [and_true,if_true]
  by_cases h3:h=i
  ·simp [h3]
  simp [h3]
 simp [h2]
theorem Xz {n k:Nat} {D:Nat→Nat→Bool} {f g:Nat→Bool} (h:∀ i,f i=g i):XK n (Wk D k f)=XK n (Wk D k g):=by
 have:f=g:=funext h
 rw [this]

theorem ND (a:Option Addr) (n c:Nat) (es:List I4) (w:World) (h:Evs w a n es) (hn:n≤4096) :
  Calls Tryz.prog 136 #[.slice a n c] w fun e w'=>Mp e w w' n (Z8 es):=by
 obtain ⟨i0,hi9,hz0,hz1,hz2⟩:=info_parts RE
 obtain ⟨N,hN⟩:∃ N,N=n*n:=⟨_,rfl⟩
 have hNb:N≤16777216:=by rw [hN];exact Nat.mul_le_mul hn hn
 have hw:=Fo hN hNb
 unfold Mp
 rw [← hN]
 have HN:Hid (N=n*n):=hN
 clear hN
 obtain ⟨D,hD⟩:∃ D,D=Z8 es:=⟨_,rfl⟩
 rw [← hD]
 have HD:Hid (D=Z8 es):=hD
 clear hD
 go_enter Tryz.func136,Tryz.ntmps136
 go_wp2_with (at_make;refine wpList_make_full _ rfl _ _ 216 rfl w.heap.size 4 i0 (.bool false) 1 Tryz.underlying216 hi9 hz0 hz1 _ _ _ _ N rfl rfl hw hw ?b2 ?b3 ?b4 ?_)
 case b2=>rw [hz2];omega
 case b3=>unfold maxLen;omega
 case b4=>exact Nat.le_refl _
 intro w1 hown hgrow
 rw [NM] at hown
 have bw:Below w.heap.size w w1:=⟨hgrow.os,hgrow.tape,hgrow.output,hgrow.size,fun k hk=>hgrow.block k hk (by simp)⟩
 have pT:Hid (Blk w1 w.heap.size 4 (XK n (Wk D 0 (fun _=>false)))):=by
  have:=(VR hown).1
  rw [HN.out] at this
  refine this.trans ?_
  congr 3
  refine XI (fun i _=>?_)
  unfold Wk
  simp
 clear hown hgrow
 obtain ⟨g,hg⟩:∃ g,g=w.heap.size:=⟨_,rfl⟩
 have hgw:w.heap.size≤g:=by omega
 rw [← hg] at pT ⊢
 clear hg
 go_wp2_with fail
 go_loopw [5] (fun sk wr=>∃ k:Nat,k≤n∧sk=.int .i64 k∧Hid (Blk wr g 4 (XK n (Wk D k (fun _=>false))))∧Below w.heap.size w wr) (fun sk _=>n - (intOf sk).toNat)
 case atStart=>exact ⟨0,by omega,rfl,pT,bw⟩
 case round =>
  clear pT bw
  obtain ⟨k,hk,rfl,pT,bw⟩:=hrel
  by_cases hkn:k<n
  ·have hkn':(k:Int)<(n:Int):=by omega
   have pT2:Hid (Blk wr g 4 (XK n (Wk D k (Vg D k k)))):=by
    have e:=Xz (n:=n) (k:=k) (D:=D) (f:=Vg D k k) (g:=fun _=>false) (JS D k)
    unfold Hid
    rw [e]
    exact pT.out
   clear pT
   go_wp2_with fail
   go_loopw [6] (fun si wr=>∃ ii:Nat,ii≤k∧si=.int .i64 ((ii:Int) - 1)∧Hid (Blk wr g 4 (XK n (Wk D k (Vg D k ii))))∧Below w.heap.size w wr) (fun si _=>(intOf si+1).toNat)
   case atStart=>exact ⟨k,by omega,rfl,pT2,bw⟩
   case round =>
    clear pT2 bw
    obtain ⟨ii,hii,rfl,pT,bw⟩:=hrel
    rcases Nat.eq_zero_or_pos ii with rfl | hpos
    ·have pT2:Hid (Blk wr g 4 (XK n (Wk D (k+1) (fun _=>false)))):=by
      have e:=Xz (n:=n) (k:=k) (D:=D) (f:=Vg D k 0) (g:=(YI D · k)) (JR D k)
      unfold Hid
      rw [← K3,← e]
      exact pT.out
     clear pT
     go_wp2
     go_roundw
     case rel=>exact ⟨k+1,by omega,by go_num,pT2,bw⟩
     case measure=>simp [intOf];omega
    obtain ⟨i,rfl⟩:∃ i,ii=i+1:=⟨ii - 1,by omega⟩
    have hi0:((i+1:Nat):Int) - 1=(i:Int):=by omega
    rw [hi0]
    have hi9:(0:Int)≤(i:Int):=by omega
    have hin:(i:Int)<(n:Int):=by omega
    have hk0:(0:Int)≤(k:Int):=by omega
    obtain ⟨h1,h2,h3 | ⟨ge,rfl,hgl,hce⟩⟩:=h
    ·clear h2;omega
    clear h2
    have gc:=fun t ht=>by
     have:=hce t ht
     rw [← bw.cell (p:=⟨ge,_,none⟩) hgl,← bw.cell (p:=⟨ge,_,none⟩) hgl,← bw.cell (p:=⟨ge,_,none⟩) hgl,← bw.cell (p:=⟨ge,_,none⟩) hgl] at this
     exact this
    obtain ⟨c0,c1,c2,c3⟩:=gc i (by omega)
    obtain ⟨e0,e1,e2,e3⟩:=gc k (by omega)
    clear gc
    have hDx:D i k=Z9 (es.getD i (0,0,0,0)) (es.getD k (0,0,0,0)):=by rw [HD.out];rfl
    generalize es.getD i (0,0,0,0)=x at c0 c1 c2 c3 hDx
    generalize es.getD k (0,0,0,0)=y at e0 e1 e2 e3 hDx
    obtain ⟨M,P,hw1,hw2,hP,hP0,hPe⟩:=PF HN.out hNb (show i<n by omega) hkn
    have HP:Hid (P=i*n+k):=hPe
    clear hPe
    go_wp2_with fail
    go_region_held3 (fun w'=>w'.cell? ⟨ge,i*4,none⟩=some (.int .i64 x.1)∧w'.cell? ⟨ge,i*4+1,none⟩=some (.int .i64 x.2.1)∧w'.cell? ⟨ge,i*4+2,none⟩=some (.int .i64 x.2.2.1)∧w'.cell? ⟨ge,i*4+3,none⟩=some (.int .i64 x.2.2.2)∧w'.cell? ⟨ge,k*4,none⟩=some (.int .i64 y.1)∧w'.cell? ⟨ge,k*4+1,none⟩=some (.int .i64 y.2.1)∧w'.cell? ⟨ge,k*4+2,none⟩=some (.int .i64 y.2.2.1)∧w'.cell? ⟨ge,k*4+3,none⟩=some (.int .i64 y.2.2.2)) (first | (exact ⟨c0,c1,c2,c3,e0,e1,e2,e3⟩) | (refine ⟨?_,?_,?_,?_,?_,?_,?_,?_⟩<;>(apply Za (by assumption);assumption)) | go_keep)
     (first | (go_at_call 183;refine (R8 x y _).mono ?_;rintro e w2 ⟨rfl,hb1⟩))
    rename_i hHeld
    rw [← hDx]
    have bw2:Below w.heap.size w w2:=Zb bw (Zb (by go_grown) hb1)
    have pT2:Hid (Blk w2 g 4 (XK n (Wk D k (Vg D k (i+1))))):=pT.out.below (Zb (by go_grown) hb1)
    clear pT hb1 bw c0 c1 c2 c3 e0 e1 e2 e3 hce
    cases hd:D i k
    ·have pT3:Hid (Blk w2 g 4 (XK n (Wk D k (Vg D k i)))):=by
      have e:=Xz (n:=n) (k:=k) (D:=D) (f:=Vg D k i) (g:=Vg D k (i+1)) (Kc hd)
      unfold Hid
      rw [e]
      exact pT2.out
     clear pT2 hDx hHeld hd
     go_wp2
     go_roundw
     case rel=>exact ⟨i,by omega,by go_num,pT3,bw2⟩
     case measure=>simp [intOf]<;>omega
    have qc:=pT2.out.cell P
    have qf:=pT2.out.frozen P
    rw [HP.out,TU _ (by omega) hkn,← HP.out] at qc
    have pT3:Hid (Blk (w2.setCell ⟨g,P,none⟩ (.bool true)) g 4 (XK n (Wk D k (VM D k i 0)))):=by
     have:=pT2.out.set P (.bool true)
     rw [HP.out,NU (by omega) hkn,← HP.out] at this
     have e:=Xz (n:=n) (k:=k) (D:=D) (f:=VM D k i 0) (g:=fun h=>Vg D k (i+1) h || h == i) (KW D k i)
     unfold Hid
     rw [e]
     exact this
    have bw3:Below w.heap.size w (w2.setCell ⟨g,P,none⟩ (.bool true)):=bw2.setCell hgw _
    clear hDx hHeld pT2 bw2
    go_wp2_with fail
    generalize w2.setCell ⟨g,P,none⟩ (.bool true)=w3 at *
    clear qc qf hw1 hw2 hP hP0 HP
    go_loopw [7] (fun sh wr=>∃ h:Nat,h≤i∧sh=.int .i64 h∧Hid (Blk wr g 4 (XK n (Wk D k (VM D k i h))))∧Below w.heap.size w wr) (fun sh _=>i - (intOf sh).toNat)
    case atStart=>exact ⟨0,by omega,rfl,pT3,bw3⟩
    case round =>
     clear pT3 bw3
     obtain ⟨h,hh,rfl,pT,bw⟩:=hrel
     by_cases hhi:h<i
     ·have hhi':(h:Int)<(i:Int):=by omega
      obtain ⟨M,P,hw1,hw2,hP,hP0,hPe⟩:=PF HN.out hNb (show h<n by omega) (show i<n by omega)
      have HP:Hid (P=h*n+i):=hPe
      obtain ⟨M',P',hw1',hw2',hP',hP0',hPe'⟩:=PF HN.out hNb (show h<n by omega) hkn
      have HP':Hid (P'=h*n+k):=hPe'
      have eM:M'=M:=by
       exact (Int.ofNat_inj.1 (hw1.symm.trans hw1')).symm
      subst eM
      clear hPe hPe' hw1'
      have qc:=pT.out.cell P
      rw [HP.out,TU _ (by omega) (by omega),← HP.out] at qc
      have eB:Wk D k (VM D k i h) h i=YI D h i:=by unfold Wk;rw [if_pos (by omega)]
      rw [eB] at qc
      clear eB
      have qc':=pT.out.cell P'
      have qf':=pT.out.frozen P'
      rw [HP'.out,TU _ (by omega) (by omega),← HP'.out] at qc'
      cases hb:YI D h i
      ·have pT3:Hid (Blk wr g 4 (XK n (Wk D k (VM D k i (h+1))))):=by
        have e:=Xz (n:=n) (k:=k) (D:=D) (f:=VM D k i (h+1)) (g:=VM D k i h) (fun j=>by rw [QT,hb];simp)
        unfold Hid
        rw [e]
        exact pT.out
       rw [hb] at qc
       clear pT hb
       go_wp2
       go_roundw
       case rel=>exact ⟨h+1,by omega,by go_num,pT3,bw⟩
       case measure=>simp [intOf];omega
      have pT3:Hid (Blk (wr.setCell ⟨g,P',none⟩ (.bool true)) g 4 (XK n (Wk D k (VM D k i (h+1))))):=by
       have:=pT.out.set P' (.bool true)
       rw [HP'.out,NU (by omega) hkn,← HP'.out] at this
       have e:=Xz (n:=n) (k:=k) (D:=D) (f:=VM D k i (h+1)) (g:=fun j=>VM D k i h j || j == h) (fun j=>by rw [QT,hb];simp)
       unfold Hid
       rw [e]
       exact this
      have bw3:Below w.heap.size w (wr.setCell ⟨g,P',none⟩ (.bool true)):=bw.setCell hgw _
      rw [hb] at qc
      clear pT hb bw
      go_wp2
      go_roundw
      case rel=>exact ⟨h+1,by omega,by go_num,pT3,bw3⟩
      case measure=>simp [intOf];omega
     obtain rfl:h=i:=by omega
     have pT3:Hid (Blk wr g 4 (XK n (Wk D k (Vg D k h)))):=by
      have e:=Xz (n:=n) (k:=k) (D:=D) (f:=Vg D k h) (g:=VM D k h h) (fun j=>(Hl hd (by omega) j).symm)
      unfold Hid
      rw [e]
      exact pT.out
     clear pT hd
     go_wp2
     go_roundw
     case rel=>exact ⟨h,by omega,by go_num,pT3,bw⟩
     case measure=>simp [intOf]<;>omega
  obtain rfl:k=n:=by omega
  have pT2:Blk wr g 4 (XK k (YI D)):=by
   have e:XK k (YI D)=XK k (Wk D k (fun _=>false)):=Td (fun i c _ hc=>by unfold Wk;rw [if_pos hc])
   rw [e]
   exact pT.out
  clear pT
  go_wp2
  go_ret
  exact ⟨g,rfl,pT2,hgw,bw⟩
end Go.Proofs.YtmhlokahmblboaaGreatDoor
