/-
  Joined: CmtQ, FulQ, FulB, FulD, NrmQ, SlpP, SaI, Rw3, RpH.
-/
import Derived.Test.YtifoggpohlegmaaGreatDoorE30

namespace Go.Proofs.YtifoggpohlegmaaGreatDoor
set_option maxRecDepth 100000
set_option maxHeartbeats 16000000
open Go.RowKit
set_option linter.unusedVariables false
set_option linter.unusedSimpArgs false

theorem WP (rows:List (List I3)) (m:V4) (k:Nat):goM rows m (k:Int)=ZG m (Ys rows m k) k:=by unfold goM;rw [Int.toNat_natCast]
theorem VG {rows:List (List I3)} {m:V4} {x:I3} {k l:Nat} (h:k≠l):Z2 rows (ZG m x k).1 l=Z2 rows m l:=by unfold Z2;rw [XL m x (Ne.symm h)]
theorem WF {rows:List (List I3)} {m:V4} {x:I3} {k l:Nat} (h:k≠l):Ys rows (ZG m x k).1 l=Ys rows m l:=by unfold Ys;rw [XL m x (Ne.symm h)]
theorem W8 {rows:List (List I3)} {m:V4} {x:I3} {k l:Nat} (h:k≠l):ZB rows (ZG m x k).1 l=ZB rows m l:=by unfold ZB;rw [WF h,XL m x (Ne.symm h)]
theorem RW {m:V4} {x y:I3} {k:Nat} (hx:okI x=true) (hy:okI y=true) (hc:¬ Vj x y):XT (ZG m x k).1 y=XT m y:=by
 unfold XT
 by_cases h5:y.1=5
 ·rw [Ym]
  simp only
  rw [Rg hy hx (VC hc) (.inl h5)]
 simp [h5]
theorem Ut {rows:List (List I3)} {m:V4} {k l:Nat} (hd:Ya (ZB rows m k) (ZB rows m l)=false):k≠l∧¬ Vj (Ys rows m k) (Ys rows m l):=by
 unfold Ya ZB at hd
 simp only [Bool.or_eq_false_iff,decide_eq_false_iff_not] at hd
 obtain ⟨h1,h2⟩:=hd
 refine ⟨fun e=>h1 (by rw [e]),?_⟩
 rintro ⟨a,b,c⟩
 have e1:decide (0≤X8 (Ys rows m k))=true:=by simp [a]
 have e2:decide (X8 (Ys rows m k)=X8 (Ys rows m l))=true:=by simp [b]
 have e3:(decide ((Ys rows m k).1=1) && decide ((Ys rows m l).1=1))=false:=by
  cases e:(decide ((Ys rows m k).1=1) && decide ((Ys rows m l).1=1))
  ·rfl
  simp only [Bool.and_eq_true,decide_eq_true_eq] at e
  exact absurd e c
 rw [e1,e2,e3] at h2
 cases h2
theorem Rc {rows:List (List I3)} {m:V4} {k:Nat} (hk:k<3) (hc:YC rows m k=true):Zx rows m (k:Int)=0:=by
 have hd:=(Kd hc).1
 unfold Zx
 rw [if_pos (by omega),Int.toNat_natCast]
 simp [hd,hc]
theorem RK {rows:List (List I3)} {m:V4} {k l:Nat} (hp:Zn rows=true) (hs:Zk m=true) (h1:Zx rows m (k:Int)=0) (h2:Zx rows (goM rows m (k:Int)).1 (l:Int)=0) (hd:Ya (ZB rows m k) (ZB rows (goM rows m (k:Int)).1 l)=false) :
  Zx rows m (l:Int)=0∧Zx rows (goM rows m (l:Int)).1 (k:Int)=0∧(goM rows (goM rows m (l:Int)).1 (k:Int)).1=(goM rows (goM rows m (k:Int)).1 (l:Int)).1∧ZB rows m l=ZB rows (goM rows m (k:Int)).1 l∧ZB rows (goM rows m (l:Int)).1 k=ZB rows m k:=by
 obtain ⟨a0,a1,a2,a3⟩:=ZY h1
 obtain ⟨b0,b1,b2,b3⟩:=ZY h2
 rw [Int.toNat_natCast] at a2 a3 b2 b3
 have hk:k<3:=by omega
 have hl:l<3:=by omega
 simp only [WP] at *
 have hkl:k≠l:=fun e=>by
  subst e
  unfold Ya ZB at hd
  simp at hd
 rw [W8 hkl] at hd
 obtain ⟨_,hc⟩:=Ut hd
 rw [VG hkl] at b2
 obtain ⟨_,_,_,_,ox⟩:=X4 hp hs hk a2
 obtain ⟨_,_,_,_,oy⟩:=X4 hp hs hl b2
 have c1:YC rows m l=true:=by
  unfold YC at b3 ⊢
  rw [VG hkl,WF hkl,RW ox oy hc] at b3
  exact b3
 have c2:YC rows (ZG m (Ys rows m l) l).1 k=true:=by
  unfold YC at a3 ⊢
  rw [VG (Ne.symm hkl),WF (Ne.symm hkl),RW oy ox (VC hc)]
  exact a3
 refine ⟨Rc hl c1,Rc hk c2,?_,(W8 hkl).symm,W8 (Ne.symm hkl)⟩
 rw [WF hkl,WF (Ne.symm hkl)]
 exact (P4 hkl ox oy hc).symm
theorem LK (rows:List (List I3)):∀ (ks:List Int) (m:V4) (fs fs':List I3),(ZH rows m fs ks).1=(ZH rows m fs' ks).1∧(ZH rows m fs ks).2.2=(ZH rows m fs' ks).2.2
 | [],m,fs,fs'=>⟨rfl,rfl⟩
 | k::ks,m,fs,fs'=>by
  have e:∀ f,ZH rows m f (k::ks)=if Zx rows m k=0 then ZH rows (goM rows m k).1 (f++Yt rows m k) ks else (m,f,Zx rows m k):=fun f=>rfl
  rw [e,e]
  split
  ·exact LK rows ks _ _ _
  exact ⟨rfl,rfl⟩
theorem Xj {rows:List (List I3)} {m:V4} {fs:List I3} {k:Int} {ks:List Int} (h:(ZH rows m fs (k::ks)).2.2=0):Zx rows m k=0∧ZH rows m fs (k::ks)=ZH rows (goM rows m k).1 (fs++Yt rows m k) ks:=by
 have e:ZH rows m fs (k::ks)=if Zx rows m k=0 then ZH rows (goM rows m k).1 (fs++Yt rows m k) ks else (m,fs,Zx rows m k):=rfl
 by_cases hz:Zx rows m k=0
 ·rw [if_pos hz] at e
  exact ⟨hz,e⟩
 rw [e,if_neg hz] at h
 exact absurd h hz
theorem WW {rows:List (List I3)} {m:V4} {fs:List I3} {k:Int} {ks:List Int} (hz:Zx rows m k=0):ZH rows m fs (k::ks)=ZH rows (goM rows m k).1 (fs++Yt rows m k) ks:=by
 show (if Zx rows m k=0 then _ else _)=_
 rw [if_pos hz]
theorem Gc {rows:List (List I3)} {m:V4} {fs:List I3} {k l:Int} {ks:List Int} (hp:Zn rows=true) (hs:Zk m=true) (h:(ZH rows m fs (k::l::ks)).2.2=0) (hd:Ya (ZB rows m k.toNat) (ZB rows (goM rows m k).1 l.toNat)=false) :
  (ZH rows m fs (l::k::ks)).1=(ZH rows m fs (k::l::ks)).1∧(ZH rows m fs (l::k::ks)).2.2=0∧YN rows m (l::k::ks)=ZB rows (goM rows m k).1 l.toNat::ZB rows m k.toNat::YN rows (goM rows (goM rows m k).1 l).1 ks:=by
 obtain ⟨h1,e1⟩:=Xj h
 rw [e1] at h ⊢
 obtain ⟨h2,e2⟩:=Xj h
 rw [e2] at h ⊢
 obtain ⟨a0,a1,_,_⟩:=ZY h1
 obtain ⟨b0,b1,_,_⟩:=ZY h2
 obtain ⟨k',rfl⟩:∃ k':Nat,k=k':=⟨k.toNat,by omega⟩
 obtain ⟨l',rfl⟩:∃ l':Nat,l=l':=⟨l.toNat,by omega⟩
 simp only [Int.toNat_natCast] at hd ⊢
 obtain ⟨g1,g2,g3,g4,g5⟩:=RK hp hs h1 h2 hd
 rw [WW g1,WW g2,g3]
 obtain ⟨f1,f2⟩:=LK rows ks (goM rows (goM rows m (k':Int)).1 (l':Int)).1 (fs++Yt rows m (l':Int)++Yt rows (goM rows m (l':Int)).1 (k':Int)) (fs++Yt rows m (k':Int)++Yt rows (goM rows m (k':Int)).1 (l':Int))
 refine ⟨f1,f2.trans h,?_⟩
 show ZB rows m (l':Int).toNat::ZB rows (goM rows m (l':Int)).1 (k':Int).toNat::YN rows (goM rows (goM rows m (l':Int)).1 (k':Int)).1 ks=_
 rw [Int.toNat_natCast,Int.toNat_natCast,g3,g4,g5]
theorem LL {rows:List (List I3)}:∀ (pre ks:List Int) (m:V4) (fs:List I3),(ZH rows m fs pre).2.2=0→ZH rows m fs (pre++ks)=ZH rows (ZH rows m fs pre).1 (ZH rows m fs pre).2.1 ks∧YN rows m (pre++ks)=YN rows m pre++YN rows (ZH rows m fs pre).1 ks
 | [],ks,m,fs,_=>⟨rfl,rfl⟩
 | k::pre,ks,m,fs,h=>by
  obtain ⟨h1,e1⟩:=Xj h
  rw [e1] at h ⊢
  obtain ⟨i1,i2⟩:=LL pre ks _ _ h
  rw [List.cons_append,WW h1,i1]
  refine ⟨rfl,?_⟩
  show ZB rows m k.toNat::YN rows (goM rows m k).1 (pre++ks)=ZB rows m k.toNat::(YN rows (goM rows m k).1 pre++_)
  rw [i2]
theorem RF (rows:List (List I3)):∀ (ks:List Int) (m:V4),(YN rows m ks).length=ks.length
 | [],m=>rfl
 | k::ks,m=>by show (YN rows (goM rows m k).1 ks).length+1=ks.length+1;rw [RF rows ks]


def nxM (rows:List (List I3)) (m:V4):List (Int × V4):=(Zj rows m 3).map fun k=>(k,(goM rows m k).1)
theorem PX {rows:List (List I3)} {m:V4} {t:Int × V4} (h:t ∈ nxM rows m):Zx rows m t.1=0∧t.2=(goM rows m t.1).1:=by
 unfold nxM at h
 obtain ⟨k,hk,rfl⟩:=List.mem_map.1 h
 obtain ⟨i,hi,hie⟩:=List.getElem_of_mem hk
 obtain ⟨k',e,h3,hc⟩:=GU hi
 have e2:(Zj rows m 3).getD i 0=k:=by simp [List.getD,hi,hie]
 rw [e2] at e
 subst e
 exact ⟨Rc h3 hc,rfl⟩
theorem Hs {rows:List (List I3)} {m:V4} {k:Int} (h:Zx rows m k=0):(k,(goM rows m k).1) ∈ nxM rows m:=by
 obtain ⟨h0,h2,hd,hc⟩:=ZY h
 obtain ⟨q,rfl⟩:∃ q:Nat,k=q:=⟨k.toNat,by omega⟩
 rw [Int.toNat_natCast] at hc
 exact List.mem_map.2 ⟨(q:Int),(TG 3).2 ⟨by omega,hc⟩,rfl⟩
theorem K3 {rows:List (List I3)} {m:V4} (hp:Zn rows=true) (hs:Zk m=true) {t:Int × V4} (h:t ∈ nxM rows m):Zk t.2=true:=by
 obtain ⟨h1,h2⟩:=PX h
 rw [h2]
 exact ZW hp hs h1
def Yd (rows:List (List I3)):List (Zr V4):=WY (nxM rows) 2000 0 [(Zl,0,0)]
def YM (S:List (Zr V4)):Prop:=∀ r ∈ S,Zk r.1=true
theorem Uj {i:Nat} {S:List (Zr V4)} {t:Int × V4} (h:YM S) (ht:Zk t.2=true):YM (X0 i S t):=by
 unfold X0
 split
 ·exact h
 intro r hr
 rcases List.mem_append.1 hr with hr | hr
 ·exact h r hr
 simp at hr
 subst hr
 exact ht
theorem R4 {i:Nat}:∀ (ts:List (Int × V4)) (S:List (Zr V4)),YM S→(∀ t ∈ ts,Zk t.2=true)→YM (onS i S ts)
 | [],S,h,_=>h
 | t::ts,S,h,ht=>R4 ts _ (Uj h (ht t (by simp))) (fun u hu=>ht u (by simp [hu]))
theorem SU {rows:List (List I3)} (hp:Zn rows=true):∀ (f i:Nat) (S:List (Zr V4)),YM S→YM (WY (nxM rows) f i S)
 | 0,_,S,h=>h
 | f+1,i,S,h=>by
  unfold WY
  split
  ·exact h
  rename_i r hr
  exact SU hp f (i+1) _ (R4 _ S h (fun t ht=>K3 hp (h r (List.mem_of_getElem? hr)) ht))
theorem TC {rows:List (List I3)} (hp:Zn rows=true):YM (Yd rows):=SU hp _ _ _ (fun r hr=>by simp at hr;subst hr;exact ZJ)
theorem VI (rows:List (List I3)):(Yd rows)[0]?=some (Zl,0,0):=by
 obtain ⟨r,hr⟩:=TZ (nxM rows) 2000 0 [(Zl,0,0)]
 unfold Yd
 rw [← hr]
 rfl
theorem MF (rows:List (List I3)):P6 (nxM rows) (Yd rows):=Pg _ _ _ (fun j r hj hr=>by
 match j,hj with
 | j+1,_=>simp at hr)
theorem Nt (rows:List (List I3)):((Yd rows).map (·.1)).Nodup:=Qi _ _ _ (by simp)
theorem Tz {rows:List (List I3)} (h:(Yd rows).length≤2000):∀ r ∈ Yd rows,∀ t ∈ nxM rows r.1,t.2 ∈ (Yd rows).map (·.1):=
 ST 2000 0 _ (fun j r hj=>by omega) (by omega) (by unfold Yd at h;omega)
def Uh (S:List (Zr V4)):Nat→Nat→List Int
 | 0,_=>[]
 | f+1,j=>if j=0 then [] else match S[j]? with
  | none=>[]
  | some r=>Uh S f r.2.1++[r.2.2]
theorem N5 {rows:List (List I3)} {S:List (Zr V4)} (hC:P6 (nxM rows) S) (h0:S[0]?=some (Zl,0,0)):∀ (f j:Nat) (r:Zr V4),j≤f→S[j]?=some r →
  (ZH rows Zl [] (Uh S f j)).1=r.1∧(ZH rows Zl [] (Uh S f j)).2.2=0∧(Uh S f j).length≤j
 | 0,j,r,hj,hr=>by
  obtain rfl:j=0:=by omega
  rw [h0] at hr
  cases hr
  exact ⟨rfl,rfl,Nat.le_refl _⟩
 | f+1,j,r,hj,hr=>by
  by_cases e:j=0
  ·subst e
   rw [h0] at hr
   cases hr
   exact ⟨rfl,rfl,Nat.le_refl _⟩
  obtain ⟨h1,q,h2,h3⟩:=hC j r (by omega) hr
  have hp9:Uh S (f+1) j=Uh S f r.2.1++[r.2.2]:=by
   show (if j=0 then [] else match S[j]? with | none=>[] | some r=>Uh S f r.2.1++[r.2.2])=_
   rw [if_neg e,hr]
  obtain ⟨i1,i2,i3⟩:=N5 hC h0 f r.2.1 q (by omega) h2
  obtain ⟨n1,n2⟩:=PX h3
  simp only at n1 n2
  have ha:=(LL (rows:=rows) (Uh S f r.2.1) [r.2.2] Zl [] i2).1
  rw [i1] at ha
  have hg:ZH rows q.1 (ZH rows Zl [] (Uh S f r.2.1)).2.1 [r.2.2]=((goM rows q.1 r.2.2).1,(ZH rows Zl [] (Uh S f r.2.1)).2.1++Yt rows q.1 r.2.2,0):=by
   show (if Zx rows q.1 r.2.2=0 then _ else _)=_
   rw [if_pos n1]
   rfl
  rw [hp9,ha,hg]
  refine ⟨n2.symm,rfl,?_⟩
  rw [List.length_append]
  simp
  omega


theorem R0 {α:Type} [DecidableEq α]:∀ (l t:List α),l.Nodup→(∀ x ∈ l,x ∈ t)→l.length≤t.length
 | [],t,_,_=>Nat.zero_le _
 | x::l,t,hn,hs=>by
  have hn':=List.nodup_cons.1 hn
  have hx:x ∈ t:=hs x (by simp)
  have ih:=R0 l (t.erase x) hn'.2 (fun y hy=>by
   have hy':y ∈ t:=hs y (by simp [hy])
   have hne:y≠x:=fun e=>hn'.1 (e▸hy)
   exact (List.mem_erase_of_ne hne).2 hy')
  rw [List.length_erase_of_mem hx] at ih
  have:0<t.length:=List.length_pos_of_mem hx
  simp only [List.length_cons]
  omega
def Y9:Nat→Nat→Nat→Nat→Nat
 | 0,_,_,_=>1
 | f+1,a,b,c=>1+(if a=0 then 0 else Y9 f (a - 1) b c)+(if b=0 then 0 else Y9 f a (b - 1) c)+(if c=0 then 0 else Y9 f a b (c - 1))
theorem XE:∀ (f a b c a' b' c':Nat),a≤a'→b≤b'→c≤c'→Y9 f a b c≤Y9 f a' b' c'
 | 0,_,_,_,_,_,_,_,_,_=>Nat.le_refl _
 | f+1,a,b,c,a',b',c',h1,h2,h3=>by
  have i1:=XE f (a - 1) b c (a' - 1) b' c' (by omega) h2 h3
  have i2:=XE f a (b - 1) c a' (b' - 1) c' h1 (by omega) h3
  have i3:=XE f a b (c - 1) a' b' (c' - 1) h1 h2 (by omega)
  show 1+(if a=0 then 0 else Y9 f (a - 1) b c)+(if b=0 then 0 else Y9 f a (b - 1) c)+(if c=0 then 0 else Y9 f a b (c - 1))≤1+(if a'=0 then 0 else Y9 f (a' - 1) b' c')+(if b'=0 then 0 else Y9 f a' (b' - 1) c')+(if c'=0 then 0 else Y9 f a' b' (c' - 1))
  have k1:(if a=0 then 0 else Y9 f (a - 1) b c)≤(if a'=0 then 0 else Y9 f (a' - 1) b' c'):=by
   by_cases e:a=0
   ·rw [if_pos e];exact Nat.zero_le _
   rw [if_neg e,if_neg (by omega)];exact i1
  have k2:(if b=0 then 0 else Y9 f a (b - 1) c)≤(if b'=0 then 0 else Y9 f a' (b' - 1) c'):=by
   by_cases e:b=0
   ·rw [if_pos e];exact Nat.zero_le _
   rw [if_neg e,if_neg (by omega)];exact i2
  have k3:(if c=0 then 0 else Y9 f a b (c - 1))≤(if c'=0 then 0 else Y9 f a' b' (c' - 1)):=by
   by_cases e:c=0
   ·rw [if_pos e];exact Nat.zero_le _
   rw [if_neg e,if_neg (by omega)];exact i3
  omega
theorem Jv:Y9 8 3 3 2=1749:=by decide
def WZ (rows:List (List I3)):Nat→V4→List V4
 | 0,m=>[m]
 | f+1,m=>m::(nxM rows m).flatMap fun t=>WZ rows f t.2
def Yy (rows:List (List I3)) (m:V4) (k:Nat):Nat:=(Yn rows k).length - (m.1.getD k 0).toNat
theorem Uk {rows:List (List I3)} {m:V4} (hp:Zn rows=true) (hs:Zk m=true) {k:Nat} (hk:k<3) (hd:Z2 rows m k=false) :
  Yy rows (goM rows m k).1 k+1≤Yy rows m k∧∀ j,j≠k→Yy rows (goM rows m k).1 j=Yy rows m j:=by
 have h1:=Pi hp hs hk hd
 have hb:=Yi hs
 have hpc:=Xq hb.1 (by omega) k
 have hlt:m.1.getD k 0<(Yn rows k).length:=by
  unfold Z2 at hd
  rw [decide_eq_false_iff_not] at hd
  omega
 rw [WP]
 refine ⟨?_,fun j hj=>?_⟩
 ·unfold Yy
  omega
 unfold Yy
 rw [XL m _ hj]
theorem MD {rows:List (List I3)} {m:V4} (F:Int→Nat):((Zj rows m 3).map F).sum=(if YC rows m 0 then F 0 else 0)+(if YC rows m 1 then F 1 else 0)+(if YC rows m 2 then F 2 else 0):=by
 have e:Zj rows m 3=(if YC rows m 2 then (if YC rows m 1 then (if YC rows m 0 then []++[(0:Int)] else [])++[(1:Int)] else (if YC rows m 0 then []++[(0:Int)] else []))++[(2:Int)] else (if YC rows m 1 then (if YC rows m 0 then []++[(0:Int)] else [])++[(1:Int)] else (if YC rows m 0 then []++[(0:Int)] else []))):=rfl
 rw [e]
 cases YC rows m 0<;>cases YC rows m 1<;>cases YC rows m 2<;>simp<;>omega
theorem Pn {rows:List (List I3)} (hp:Zn rows=true):∀ (f:Nat) (m:V4),Zk m=true→(WZ rows f m).length≤Y9 f (Yy rows m 0) (Yy rows m 1) (Yy rows m 2)
 | 0,m,_=>Nat.le_refl _
 | f+1,m,hs=>by
  have key:∀ k:Nat,k<3→YC rows m k=true→(WZ rows f (goM rows m (k:Int)).1).length≤Y9 f (Yy rows (goM rows m (k:Int)).1 0) (Yy rows (goM rows m (k:Int)).1 1) (Yy rows (goM rows m (k:Int)).1 2)∧Z2 rows m k=false:=fun k hk hc=>by
   have hd:Z2 rows m k=false:=by
    unfold YC at hc
    simp at hc
    exact hc.1
   exact ⟨Pn hp f _ (ZW hp hs (Rc hk hc)),hd⟩
  have hl:(WZ rows (f+1) m).length=1+((Zj rows m 3).map fun k=>(WZ rows f (goM rows m k).1).length).sum:=by
   show ((m::(nxM rows m).flatMap fun t=>WZ rows f t.2)).length=_
   rw [List.length_cons,List.length_flatMap]
   unfold nxM
   rw [List.map_map]
   simp only [Function.comp_def]
   omega
  rw [hl,MD fun k=>(WZ rows f (goM rows m k).1).length]
  have b0:(if YC rows m 0 then (WZ rows f (goM rows m 0).1).length else 0)≤(if Yy rows m 0=0 then 0 else Y9 f (Yy rows m 0 - 1) (Yy rows m 1) (Yy rows m 2)):=by
   by_cases hc:YC rows m 0=true
   ·obtain ⟨k1,hd⟩:=key 0 (by omega) hc
    obtain ⟨r1,r2⟩:=Uk hp hs (show 0<3 by omega) hd
    rw [if_pos hc,if_neg (by omega)]
    refine Nat.le_trans k1 (XE f _ _ _ _ _ _ ?_ ?_ ?_)
    ·have:Yy rows (goM rows m ((0:Nat):Int)).1 0+1≤Yy rows m 0:=r1
     omega
    ·exact Nat.le_of_eq (r2 1 (by omega))
    exact Nat.le_of_eq (r2 2 (by omega))
   rw [if_neg hc];exact Nat.zero_le _
  have b1:(if YC rows m 1 then (WZ rows f (goM rows m 1).1).length else 0)≤(if Yy rows m 1=0 then 0 else Y9 f (Yy rows m 0) (Yy rows m 1 - 1) (Yy rows m 2)):=by
   by_cases hc:YC rows m 1=true
   ·obtain ⟨k1,hd⟩:=key 1 (by omega) hc
    obtain ⟨r1,r2⟩:=Uk hp hs (show 1<3 by omega) hd
    rw [if_pos hc,if_neg (by omega)]
    refine Nat.le_trans k1 (XE f _ _ _ _ _ _ ?_ ?_ ?_)
    ·exact Nat.le_of_eq (r2 0 (by omega))
    ·have:Yy rows (goM rows m ((1:Nat):Int)).1 1+1≤Yy rows m 1:=r1
     omega
    exact Nat.le_of_eq (r2 2 (by omega))
   rw [if_neg hc];exact Nat.zero_le _
  have b2:(if YC rows m 2 then (WZ rows f (goM rows m 2).1).length else 0)≤(if Yy rows m 2=0 then 0 else Y9 f (Yy rows m 0) (Yy rows m 1) (Yy rows m 2 - 1)):=by
   by_cases hc:YC rows m 2=true
   ·obtain ⟨k1,hd⟩:=key 2 (by omega) hc
    obtain ⟨r1,r2⟩:=Uk hp hs (show 2<3 by omega) hd
    rw [if_pos hc,if_neg (by omega)]
    refine Nat.le_trans k1 (XE f _ _ _ _ _ _ ?_ ?_ ?_)
    ·exact Nat.le_of_eq (r2 0 (by omega))
    ·exact Nat.le_of_eq (r2 1 (by omega))
    have:Yy rows (goM rows m ((2:Nat):Int)).1 2+1≤Yy rows m 2:=r1
    omega
   rw [if_neg hc];exact Nat.zero_le _
  show _≤1+(if Yy rows m 0=0 then 0 else Y9 f (Yy rows m 0 - 1) (Yy rows m 1) (Yy rows m 2))+(if Yy rows m 1=0 then 0 else Y9 f (Yy rows m 0) (Yy rows m 1 - 1) (Yy rows m 2))+(if Yy rows m 2=0 then 0 else Y9 f (Yy rows m 0) (Yy rows m 1) (Yy rows m 2 - 1))
  omega
theorem Mt {rows:List (List I3)}:∀ (f:Nat) (ks:List Int) (m:V4) (fs:List I3),ks.length≤f→(ZH rows m fs ks).2.2=0→(ZH rows m fs ks).1 ∈ WZ rows f m
 | 0,[],m,fs,_,_=>by simp [WZ,ZH]
 | 0,k::ks,m,fs,h,_=>by simp at h
 | f+1,[],m,fs,_,_=>by simp [WZ,ZH]
 | f+1,k::ks,m,fs,h,hz=>by
  obtain ⟨hh,he⟩:=Xj hz
  rw [he] at hz ⊢
  have ih:=Mt f ks _ _ (by simpa using h) hz
  show _ ∈ m::(nxM rows m).flatMap fun t=>WZ rows f t.2
  exact List.mem_cons_of_mem _ (List.mem_flatMap.2 ⟨_,Hs hh,ih⟩)
theorem LM {rows:List (List I3)} (hp:Zn rows=true):∀ (ks:List Int) (m:V4) (fs:List I3),Zk m=true→(ZH rows m fs ks).2.2=0→ks.length≤Yy rows m 0+Yy rows m 1+Yy rows m 2
 | [],_,_,_,_=>Nat.zero_le _
 | k::ks,m,fs,hs,hz=>by
  obtain ⟨hh,he⟩:=Xj hz
  rw [he] at hz
  have ih:=LM hp ks _ _ (ZW hp hs hh) hz
  obtain ⟨h0,h2,hd,hc⟩:=ZY hh
  obtain ⟨q,rfl⟩:∃ q:Nat,k=q:=⟨k.toNat,by omega⟩
  rw [Int.toNat_natCast] at hd
  obtain ⟨r1,r2⟩:=Uk hp hs (show q<3 by omega) hd
  have hq:q=0∨q=1∨q=2:=by omega
  simp only [List.length_cons]
  rcases hq with rfl | rfl | rfl
  ·have a:=r2 1 (by omega);have b:=r2 2 (by omega);omega
  ·have a:=r2 0 (by omega);have b:=r2 2 (by omega);omega
  have a:=r2 0 (by omega);have b:=r2 1 (by omega);omega
theorem M8 {rows:List (List I3)} (hp:Zn rows=true) (h0:(Yn rows 0).length≤3) (h1:(Yn rows 1).length≤3) (h2:(Yn rows 2).length≤2):(Yd rows).length≤1749:=by
 have hz:∀ k,Yy rows Zl k≤(Yn rows k).length:=fun k=>by unfold Yy;omega
 have hl:=Pn hp 8 Zl ZJ
 have hm:=XE 8 _ _ _ 3 3 2 (Nat.le_trans (hz 0) h0) (Nat.le_trans (hz 1) h1) (Nat.le_trans (hz 2) h2)
 rw [Jv] at hm
 have hn:=R0 ((Yd rows).map (·.1)) (WZ rows 8 Zl) (Nt rows) (fun x hx=>by
  obtain ⟨r,hr,rfl⟩:=List.mem_map.1 hx
  obtain ⟨j,hj,hje⟩:=List.getElem_of_mem hr
  obtain ⟨p1,p2,p3⟩:=N5 (MF rows) (VI rows) j j r (Nat.le_refl _) (by rw [List.getElem?_eq_getElem hj,hje])
  have hlen:=LM hp _ Zl [] ZJ p2
  have a:=hz 0
  have b:=hz 1
  have c:=hz 2
  have:=Mt 8 _ Zl [] (show (Uh (Yd rows) j j).length≤8 by omega) p2
  rw [p1] at this
  exact this)
 rw [List.length_map] at hn
 omega


def T7 (n:Nat):Nat:=Nat.min n 1000000
def SW (rows:List (List I3)):Nat→V4→Nat
 | 0,_=>1
 | f+1,m=>if Zj rows m 3=[] then 1 else T7 ((Zj rows m 3).map fun k=>SW rows f (goM rows m k).1).sum
def YE (rows:List (List I3)) (m:V4):Nat:=Yy rows m 0+Yy rows m 1+Yy rows m 2
def Z8 (rows:List (List I3)) (m:V4):Nat:=SW rows (YE rows m) m
theorem Y4 {rows:List (List I3)} {m:V4} (hp:Zn rows=true) (hs:Zk m=true) {k:Int} (h:Zx rows m k=0):YE rows (goM rows m k).1+1≤YE rows m:=by
 obtain ⟨h0,h2,hd,hc⟩:=ZY h
 obtain ⟨q,rfl⟩:∃ q:Nat,k=q:=⟨k.toNat,by omega⟩
 rw [Int.toNat_natCast] at hd
 obtain ⟨r1,r2⟩:=Uk hp hs (show q<3 by omega) hd
 unfold YE
 have hq:q=0∨q=1∨q=2:=by omega
 rcases hq with rfl | rfl | rfl
 ·have a:=r2 1 (by omega);have b:=r2 2 (by omega);omega
 ·have a:=r2 0 (by omega);have b:=r2 2 (by omega);omega
 have a:=r2 0 (by omega);have b:=r2 1 (by omega);omega
theorem Yb {rows:List (List I3)} {m:V4} {k:Int} (h:k ∈ Zj rows m 3):Zx rows m k=0:=(PX (t:=(k,(goM rows m k).1)) (List.mem_map.2 ⟨k,h,rfl⟩)).1
theorem QK {rows:List (List I3)} {m:V4} (hp:Zn rows=true) (hs:Zk m=true) (h:YE rows m=0):Zj rows m 3=[]:=by
 rw [List.eq_nil_iff_forall_not_mem]
 intro k hk
 have:=Y4 hp hs (Yb hk)
 omega
theorem QF {rows:List (List I3)} (hp:Zn rows=true):∀ (f:Nat) (m:V4),Zk m=true→YE rows m≤f→SW rows (f+1) m=SW rows f m
 | 0,m,hs,h=>by
  show (if Zj rows m 3=[] then 1 else _)=1
  rw [if_pos (QK hp hs (by omega))]
 | f+1,m,hs,h=>by
  show (if Zj rows m 3=[] then 1 else T7 ((Zj rows m 3).map fun k=>SW rows (f+1) (goM rows m k).1).sum)=(if Zj rows m 3=[] then 1 else T7 ((Zj rows m 3).map fun k=>SW rows f (goM rows m k).1).sum)
  have e:((Zj rows m 3).map fun k=>SW rows (f+1) (goM rows m k).1)=((Zj rows m 3).map fun k=>SW rows f (goM rows m k).1):=by
   refine List.map_congr_left (fun k hk=>?_)
   have hz:=Yb hk
   exact QF hp f _ (ZW hp hs hz) (by have:=Y4 hp hs hz;omega)
  rw [e]
theorem Ry {rows:List (List I3)} (hp:Zn rows=true) {m:V4} (hs:Zk m=true):∀ (d:Nat),SW rows (YE rows m+d) m=Z8 rows m
 | 0=>rfl
 | d+1=>by
  rw [← Nat.add_assoc,QF hp _ m hs (by omega)]
  exact Ry hp hs d
theorem Rz {rows:List (List I3)} (hp:Zn rows=true) {m:V4} (hs:Zk m=true):Z8 rows m=if Zj rows m 3=[] then 1 else T7 ((Zj rows m 3).map fun k=>Z8 rows (goM rows m k).1).sum:=by
 have h1:Z8 rows m=SW rows (YE rows m+1) m:=(Ry hp hs 1).symm
 rw [h1]
 show (if Zj rows m 3=[] then 1 else T7 ((Zj rows m 3).map fun k=>SW rows (YE rows m) (goM rows m k).1).sum)=_
 have e:((Zj rows m 3).map fun k=>SW rows (YE rows m) (goM rows m k).1)=((Zj rows m 3).map fun k=>Z8 rows (goM rows m k).1):=by
  refine List.map_congr_left (fun k hk=>?_)
  have hz:=Yb hk
  have hl:=Y4 hp hs hz
  obtain ⟨d,hd⟩:∃ d,YE rows m=YE rows (goM rows m k).1+d:=⟨YE rows m - YE rows (goM rows m k).1,by omega⟩
  rw [hd]
  exact Ry hp (ZW hp hs hz) d
 rw [e]
theorem Pw (n:Nat):T7 n≤1000000:=Nat.min_le_right _ _
theorem Tv (n:Nat):T7 n=min n 1000000:=rfl
theorem WM {rows:List (List I3)} (hp:Zn rows=true):∀ (f:Nat) (m:V4),Zk m=true→YE rows m≤f→1≤Z8 rows m∧Z8 rows m≤1000000
 | 0,m,hs,h=>by
  rw [Rz hp hs,if_pos (QK hp hs (by omega))]
  omega
 | f+1,m,hs,h=>by
  rw [Rz hp hs]
  by_cases he:Zj rows m 3=[]
  ·rw [if_pos he];omega
  rw [if_neg he]
  refine ⟨?_,Pw _⟩
  cases hx:Zj rows m 3 with
  | nil=>exact absurd hx he
  | cons k ks =>
   have hk:k ∈ Zj rows m 3:=by rw [hx];simp
   have hz:=Yb hk
   have:=(WM hp f _ (ZW hp hs hz) (by have:=Y4 hp hs hz;omega)).1
   rw [List.map_cons,List.sum_cons,Tv]
   omega
theorem Nd (F:Int→Nat):∀ (ks:List Int) (s:Nat),s≤1000000→ks.foldl (fun s k=>T7 (s+F k)) s=T7 (s+(ks.map F).sum)
 | [],s,h=>by simp [Tv];omega
 | k::ks,s,h=>by
  rw [List.foldl_cons,Nd F ks _ (Pw _),List.map_cons,List.sum_cons]
  simp only [Tv]
  omega
def Sq (m:V4):Int:=m.1.getD 0 0+m.1.getD 1 0+m.1.getD 2 0
theorem H4 {rows:List (List I3)} {m:V4} (hp:Zn rows=true) (hs:Zk m=true) {k:Int} (h:Zx rows m k=0):Sq m<Sq (goM rows m k).1:=by
 obtain ⟨h0,h2,hd,hc⟩:=ZY h
 obtain ⟨q,rfl⟩:∃ q:Nat,k=q:=⟨k.toNat,by omega⟩
 rw [Int.toNat_natCast] at hd
 have h1:=Pi hp hs (show q<3 by omega) hd
 have ho:=fun j (hj:j≠q)=>XL m (Ys rows m q) hj
 rw [WP]
 unfold Sq
 have hq:q=0∨q=1∨q=2:=by omega
 rcases hq with rfl | rfl | rfl
 ·have a:=ho 1 (by omega);have b:=ho 2 (by omega);omega
 ·have a:=ho 0 (by omega);have b:=ho 2 (by omega);omega
 have a:=ho 0 (by omega);have b:=ho 1 (by omega);omega
theorem Ti {m:V4} (hs:Zk m=true):0≤Sq m∧Sq m≤18:=by
 have hb:=(Yi hs).1
 have a:=Xq hb (by omega) 0
 have b:=Xq hb (by omega) 1
 have c:=Xq hb (by omega) 2
 unfold Sq
 omega


theorem Us (x y:I4):Ya x y=Ya y x:=by
 unfold Ya
 by_cases h1:x.1=y.1
 ·simp [h1]
 have h1':¬ y.1=x.1:=fun e=>h1 e.symm
 by_cases h2:x.2.2.2=y.2.2.2
 ·simp only [h1,h1',h2,decide_false,Bool.false_or,decide_true,Bool.and_true]
  rw [Bool.and_comm (decide (x.2.2.1=1))]
 have h2':¬ y.2.2.2=x.2.2.2:=fun e=>h2 e.symm
 simp [h1,h1',h2,h2']
theorem V5 {x y:I4} (h:x.1=y.1):Ya x y=true:=by unfold Ya;simp [h]
def Ka (es:List I4) (e:I4) (rest:List I4):Prop:=∃ a b,es=a++e::b∧rest=a++b∧∀ x ∈ a,Ya x e=false
def Kb (es:List I4) (e:I4) (rest:List I4):Prop:=Ka es e rest∧∀ e' rest',Ka es e' rest'→e.1≤e'.1
inductive Nrm:List I4→List Int→Prop
 | nil:Nrm [] []
 | cons {es rest:List I4} {e:I4} {ts:List Int}:Kb es e rest→Nrm rest ts→Nrm es (e.1::ts)
def Sw1 (es es':List I4):Prop:=∃ a x y b,es=a++x::y::b∧es'=a++y::x::b∧Ya x y=false
inductive Sw:List I4→List I4→Prop
 | refl (es:List I4):Sw es es
 | step {es es' es'':List I4}:Sw es es'→Sw1 es' es''→Sw es es''
theorem Sw1.symm {es es':List I4} (h:Sw1 es es'):Sw1 es' es:=by
 obtain ⟨a,x,y,b,h1,h2,h3⟩:=h
 exact ⟨a,y,x,b,h2,h1,by rw [Us];exact h3⟩
theorem Sw.trans {a b c:List I4} (h:Sw a b) (g:Sw b c):Sw a c:=by
 induction g with
 | refl=>exact h
 | step _ s ih=>exact .step ih s
theorem Sw1.cons {es es':List I4} (e:I4) (h:Sw1 es es'):Sw1 (e::es) (e::es'):=by
 obtain ⟨a,x,y,b,h1,h2,h3⟩:=h
 exact ⟨e::a,x,y,b,by rw [h1];rfl,by rw [h2];rfl,h3⟩
theorem Sw.cons {es es':List I4} (e:I4) (h:Sw es es'):Sw (e::es) (e::es'):=by
 induction h with
 | refl=>exact .refl _
 | step _ s ih=>exact .step ih (s.cons e)
theorem N4 {a b c d:List I4} {e f:I4} (h:a++e::b=c++f::d):(a=c∧e=f∧b=d)∨(∃ m,c=a++e::m∧b=m++f::d)∨(∃ m,a=c++f::m∧d=m++e::b):=by
 rcases List.append_eq_append_iff.1 h with ⟨m,h1,h2⟩ | ⟨m,h1,h2⟩
 ·cases m with
  | nil =>
   simp at h1 h2
   exact .inl ⟨h1.symm,h2.1,h2.2⟩
  | cons g m =>
   simp at h2
   exact .inr (.inl ⟨m,by rw [h1,← h2.1],h2.2⟩)
 cases m with
 | nil =>
  simp at h1 h2
  exact .inl ⟨h1,h2.1.symm,h2.2.symm⟩
 | cons g m =>
  simp at h2
  exact .inr (.inr ⟨m,by rw [h1,← h2.1],h2.2⟩)
theorem J1 {es rest rest':List I4} {e e':I4} (h:Ka es e rest) (h':Ka es e' rest') (ht:e.1=e'.1):e=e'∧rest=rest':=by
 obtain ⟨a,b,h1,h2,h3⟩:=h
 obtain ⟨c,d,g1,g2,g3⟩:=h'
 rcases N4 (h1.symm.trans g1) with ⟨r1,r2,r3⟩ | ⟨m,r1,r2⟩ | ⟨m,r1,r2⟩
 ·exact ⟨r2,by rw [h2,g2,r1,r3]⟩
 ·have:=g3 e (by rw [r1];simp)
  rw [V5 ht] at this
  cases this
 have:=h3 e' (by rw [r1];simp)
 rw [V5 ht.symm] at this
 cases this
theorem H5 {es rest rest':List I4} {e e':I4} (h:Kb es e rest) (h':Kb es e' rest'):e=e'∧rest=rest':=by
 have h1:=h.2 _ _ h'.1
 have h2:=h'.2 _ _ h.1
 exact J1 h.1 h'.1 (by omega)
theorem G6 {es:List I4} {ts ts':List Int} (h:Nrm es ts) (h':Nrm es ts'):ts=ts':=by
 induction h generalizing ts' with
 | nil =>
  cases h' with
  | nil=>rfl
  | cons p _=>obtain ⟨⟨a,b,h1,_⟩,_⟩:=p;simp at h1
 | cons p n ih =>
  cases h' with
  | nil=>obtain ⟨⟨a,b,h1,_⟩,_⟩:=p;simp at h1
  | cons p' n' =>
   obtain ⟨rfl,rfl⟩:=H5 p p'
   rw [ih n']
theorem Ln {es es' rest:List I4} {e:I4} (h:Ka es e rest) (s:Sw1 es es'):∃ rest',Ka es' e rest'∧(rest=rest'∨Sw1 rest rest'):=by
 obtain ⟨a,b,h1,h2,h3⟩:=h
 obtain ⟨p,x,y,q,s1,s2,s3⟩:=s
 rcases N4 (h1.symm.trans s1) with ⟨r1,r2,r3⟩ | ⟨m,r1,r2⟩ | ⟨m,r1,r2⟩
 ·-- e is x
  subst r1 r2 r3
  refine ⟨a++y::q,⟨a++[y],q,by rw [s2];simp,by simp,?_⟩,.inl h2⟩
  intro z hz
  simp at hz
  rcases hz with hz | hz
  ·exact h3 z hz
  subst hz;rw [Us];exact s3
 ·-- e before x
  refine ⟨a++(m++y::x::q),⟨a,m++y::x::q,by rw [s2,r1];simp,rfl,h3⟩,.inr ⟨a++m,x,y,q,by rw [h2,r2];simp,by simp,s3⟩⟩
 -- e behind x
 cases m with
 | nil =>
  simp at r2
  obtain ⟨r2,r4⟩:=r2
  subst r2 r4
  refine ⟨p++x::q,⟨p,x::q,s2,rfl,fun z hz=>h3 z (by rw [r1];simp [hz])⟩,.inl (by rw [h2,r1];simp)⟩
 | cons g m =>
  simp at r2
  obtain ⟨r2,r4⟩:=r2
  subst r2
  refine ⟨p++y::x::(m++b),⟨p++y::x::m,b,by rw [s2,r4];simp,by simp,?_⟩,.inr ⟨p,x,y,m++b,by rw [h2,r1];simp,rfl,s3⟩⟩
  intro z hz
  refine h3 z ?_
  rw [r1]
  simp at hz ⊢
  rcases hz with hz | hz | hz | hz
  ·exact .inl hz
  ·exact .inr (.inr (.inl hz))
  ·exact .inr (.inl hz)
  exact .inr (.inr (.inr hz))
theorem Fh {es es' rest:List I4} {e:I4} (h:Kb es e rest) (s:Sw1 es es'):∃ rest',Kb es' e rest'∧(rest=rest'∨Sw1 rest rest'):=by
 obtain ⟨rest',f,r⟩:=Ln h.1 s
 refine ⟨rest',⟨f,fun e' rest'' f'=>?_⟩,r⟩
 obtain ⟨r3,f3,_⟩:=Ln f' s.symm
 exact h.2 _ _ f3
theorem G7 {es:List I4} {ts:List Int} (h:Nrm es ts):∀ {es':List I4},Sw1 es es'→Nrm es' ts:=by
 induction h with
 | nil =>
  intro es' s
  obtain ⟨a,x,y,b,h1,_⟩:=s
  simp at h1
 | cons p n ih =>
  intro es' s
  obtain ⟨rest',p',r⟩:=Fh p s
  rcases r with rfl | r
  ·exact .cons p' n
  exact .cons p' (ih r)
theorem FQ {es es':List I4} {ts:List Int} (h:Nrm es ts) (s:Sw es es'):Nrm es' ts:=by
 induction s with
 | refl=>exact h
 | step _ s ih=>exact G7 ih s


def YP (rows:List (List I3)) (m:V4) (Z:List Int) (k:Int):List Int:=Z.filter fun j=>!Ya (ZB rows m k.toNat) (ZB rows m j.toNat)
abbrev St7:=List I3 × Nat × Nat
def XN (rows:List (List I3)) (m:V4) (rec:V4→List Int→St7→St7):List Int→List Int→St7→St7
 | [],_,st=>st
 | k::ks,Z,st=>if k ∈ Z then XN rows m rec ks Z st else XN rows m rec ks (Z++[k]) (rec (goM rows m k).1 (YP rows m Z k) (st.1++Yt rows m k,st.2))
def UL (rows:List (List I3)) (m:V4) (st:St7):St7:=(st.1++XW rows m,st.2.1+(if Zj rows m 3=[] then 1 else 0),st.2.2+1)
def Xy (rows:List (List I3)):Nat→V4→List Int→St7→St7
 | 0,_,_,st=>st
 | f+1,m,Z,st=>if 5000<st.2.2+1 then (st.1,st.2.1,st.2.2+1) else XN rows m (Xy rows f) (Zj rows m 3) Z (UL rows m st)
theorem WJ {rows:List (List I3)} {m:V4} {rec:V4→List Int→St7→St7} {k:Int} {ks Z:List Int} {st:St7} (h:k ∈ Z):XN rows m rec (k::ks) Z st=XN rows m rec ks Z st:=by
 rw [XN,if_pos h]
theorem UH {rows:List (List I3)} {m:V4} {rec:V4→List Int→St7→St7} {k:Int} {ks Z:List Int} {st:St7} (h:k ∉ Z):XN rows m rec (k::ks) Z st=XN rows m rec ks (Z++[k]) (rec (goM rows m k).1 (YP rows m Z k) (st.1++Yt rows m k,st.2)):=by
 rw [XN,if_neg h]
theorem UI {rows:List (List I3)} {m:V4} {rec:V4→List Int→St7→St7} (hr:∀ m Z st,st.2.2≤(rec m Z st).2.2):∀ (ks Z:List Int) (st:St7),st.2.2≤(XN rows m rec ks Z st).2.2
 | [],_,st=>Nat.le_refl _
 | k::ks,Z,st=>by
  by_cases h:k ∈ Z
  ·rw [WJ h];exact UI hr ks Z st
  rw [UH h]
  exact Nat.le_trans (hr _ _ (st.1++Yt rows m k,st.2)) (UI hr ks _ _)
theorem Po (rows:List (List I3)):∀ (f:Nat) (m:V4) (Z:List Int) (st:St7),st.2.2≤(Xy rows f m Z st).2.2
 | 0,_,_,_=>Nat.le_refl _
 | f+1,m,Z,st=>by
  rw [Xy]
  split
  ·exact Nat.le_succ _
  exact Nat.le_trans (Nat.le_succ _) (UI (Po rows f) _ _ (UL rows m st))

theorem Np (rows:List (List I3)) (m:V4):(Zj rows m 3).length≤3:=by
 have h:∀ n,(Zj rows m n).length≤n:=fun n=>by
  induction n with
  | zero=>exact Nat.le_refl _
  | succ n ih =>
   rw [Zj]
   split
   ·rw [List.length_append];simp;omega
   omega
 exact h 3
def XY:Nat→Nat
 | 0=>0
 | f+1=>1+3*XY f
theorem Ss {rows:List (List I3)} {m:V4} {rec:V4→List Int→St7→St7} {T:Nat} (hr:∀ m Z st,(rec m Z st).2.2≤st.2.2+T):∀ (ks Z:List Int) (st:St7),(XN rows m rec ks Z st).2.2≤st.2.2+ks.length*T
 | [],_,st=>by simp [XN]
 | k::ks,Z,st=>by
  have e:(ks.length+1)*T=ks.length*T+T:=Nat.succ_mul _ _
  rw [List.length_cons,e]
  by_cases h:k ∈ Z
  ·rw [WJ h]
   have:=Ss (rows:=rows) (m:=m) hr ks Z st
   omega
  rw [UH h]
  have a:=hr (goM rows m k).1 (YP rows m Z k) (st.1++Yt rows m k,st.2)
  have b:=Ss (rows:=rows) (m:=m) hr ks (Z++[k]) (rec (goM rows m k).1 (YP rows m Z k) (st.1++Yt rows m k,st.2))
  simp only at a
  omega
theorem SD (rows:List (List I3)):∀ (f:Nat) (m:V4) (Z:List Int) (st:St7),(Xy rows f m Z st).2.2≤st.2.2+XY f
 | 0,_,_,_=>Nat.le_refl _
 | f+1,m,Z,st=>by
  rw [Xy]
  split
  ·simp only [XY];omega
  have a:=Ss (rows:=rows) (m:=m) (SD rows f) (Zj rows m 3) Z (UL rows m st)
  have b:=Np rows m
  have c:(Zj rows m 3).length*XY f≤3*XY f:=Nat.mul_le_mul_right _ b
  have d:(UL rows m st).2.2=st.2.2+1:=rfl
  rw [d] at a
  simp only [XY]
  omega
theorem LE (rows:List (List I3)) (m:V4) (k:Int):(Yt rows m k).length≤1:=by unfold Yt;split<;>simp
theorem JY (rows:List (List I3)) (m:V4):(XW rows m).length≤1:=by unfold XW;split<;>simp
theorem St {rows:List (List I3)} {m:V4} {rec:V4→List Int→St7→St7} (hr:∀ m Z st c,st.1.length+c≤4*st.2.2→st.2.1≤st.2.2→(rec m Z st).1.length+c≤4*(rec m Z st).2.2∧(rec m Z st).2.1≤(rec m Z st).2.2) :
  ∀ (ks Z:List Int) (st:St7) (c:Nat),st.1.length+ks.length+c≤4*st.2.2→st.2.1≤st.2.2→(XN rows m rec ks Z st).1.length+c≤4*(XN rows m rec ks Z st).2.2∧(XN rows m rec ks Z st).2.1≤(XN rows m rec ks Z st).2.2
 | [],_,st,c,h,h'=>⟨by simp only [XN];simp at h;omega,h'⟩
 | k::ks,Z,st,c,h,h'=>by
  rw [List.length_cons] at h
  by_cases hk:k ∈ Z
  ·rw [WJ hk]
   exact St hr ks Z st c (by omega) h'
  rw [UH hk]
  have o:=LE rows m k
  obtain ⟨a,b⟩:=hr (goM rows m k).1 (YP rows m Z k) (st.1++Yt rows m k,st.2) (ks.length+c) (by rw [List.length_append];simp only;omega) h'
  exact St hr ks _ _ c (by omega) b
theorem SE (rows:List (List I3)):∀ (f:Nat) (m:V4) (Z:List Int) (st:St7) (c:Nat),st.1.length+c≤4*st.2.2→st.2.1≤st.2.2→(Xy rows f m Z st).1.length+c≤4*(Xy rows f m Z st).2.2∧(Xy rows f m Z st).2.1≤(Xy rows f m Z st).2.2
 | 0,_,_,st,c,h,h'=>⟨h,h'⟩
 | f+1,m,Z,st,c,h,h'=>by
  rw [Xy]
  split
  ·exact ⟨by simp only;omega,by simp only;omega⟩
  have b:=Np rows m
  have d:=JY rows m
  refine St (SE rows f) _ _ _ c ?_ ?_
  ·unfold UL;rw [List.length_append];simp only;omega
  unfold UL;simp only;split<;>omega

theorem Rf {rows:List (List I3)} (hp:Zn rows=true) (m:V4):YE rows m≤18:=by
 obtain ⟨h1,h2⟩:=Xb hp
 have h:∀ k,(Yn rows k).length≤6:=fun k=>by
  unfold Yn
  rcases Nat.lt_or_ge k rows.length with hk | hk
  ·simp only [List.getD,List.getElem?_eq_getElem hk,Option.getD_some]
   exact (h2 _ (List.getElem_mem hk)).1
  simp [List.getD,List.getElem?_eq_none hk]
 unfold YE Yy
 have a:=h 0;have b:=h 1;have c:=h 2
 omega
def UM (rows:List (List I3)):St7:=Xy rows 19 Zl [] ([],0,0)


def GO (e:Ending) (w:World) (B:Nat) (ks:List Int):Prop:=∃ v,e=.returned v∧w.ownsRow B 3 1 v ks.length (ks.map (Value.int .i64))
def SG (rows:List (List I3)) (m:V4) (Z:List Int):Prop:=∀ j ∈ Z,∃ q:Nat,j=q∧q<3∧Z2 rows m q=false

theorem GL {w:World} {g bx ev:Nat} {cs:Sl × Sl × Sl} {rows:List (List I3)} {m:V4} (h:Yk w g cs rows m) (hp:Zn rows=true) (hs:Zk m=true) (cB:w.cell? ⟨bx,0,none⟩=some (.pointer (some ⟨g,0,none⟩))) (x0 x1 x2 x3:Int)
  (c0:w.cell? ⟨ev,0,none⟩=some (.int .i64 x0)) (c1:w.cell? ⟨ev,1,none⟩=some (.int .i64 x1)) (c2:w.cell? ⟨ev,2,none⟩=some (.int .i64 x2)) (c3:w.cell? ⟨ev,3,none⟩=some (.int .i64 x3)) {j:Nat} (hj:j<3) (hd:Z2 rows m j=false) :
  Calls Tryz.prog 147 #[.int .i64 j,.pointer (some ⟨bx,0,none⟩),.pointer (some ⟨ev,0,none⟩)] w fun e w'=>e=.returned (.bool (Ya (ZB rows m j) (x0,x1,x2,x3)))∧Below w.heap.size w w':=by
 have kE:=fun (W:World) (b:Below w.heap.size w W)=>RE (h.below b) hp hs hj hd
 generalize ZB rows m j=y at *
 obtain ⟨y0,y1,y2,y3⟩:=y
 have kD:=fun (W:World)=>Ua (y0,y1,y2,y3) (x0,x1,x2,x3) W
 unfold I4.val at kD
 simp only at kD kE
 have bd:Below w.heap.size w w.drew:=by go_grown
 clear h
 go_enter Tryz.func147,Tryz.ntmps147
 go_wp2_with fail
 refine wp_region_held_drew (S:=(fun w'=>w'.cell? ⟨bx,0,none⟩=some (.pointer (some ⟨g,0,none⟩))∧w'.cell? ⟨ev,0,none⟩=some (.int .i64 x0)∧w'.cell? ⟨ev,1,none⟩=some (.int .i64 x1)∧w'.cell? ⟨ev,2,none⟩=some (.int .i64 x2)∧w'.cell? ⟨ev,3,none⟩=some (.int .i64 x3))) (by kernel_rfl) ⟨cB,c0,c1,c2,c3⟩ (fun hS0=>?_)
 refine tkm 0 5 (.pointer (some ⟨g,0,none⟩)) ?_
 refine tkm 1 6 (.int .i64 (j:Int)) ?_
 refine tkm 3 8 (.agg #[.int .i64 x0,.int .i64 x1,.int .i64 x2,.int .i64 x3]) ?_
 refine tkr 2 7 (fun K hK=>?_)
 go_simp
 refine (kE _ bd).mono ?_
 rintro e w1 ⟨rfl,hb1⟩
 go_wp2_with fail
 refine hK.out _ _ ?_ (fun hS1=>?_)
 ·exact ⟨Za hb1 _ _ hS0.1,Za hb1 _ _ hS0.2.1,Za hb1 _ _ hS0.2.2.1,Za hb1 _ _ hS0.2.2.2.1,Za hb1 _ _ hS0.2.2.2.2⟩
 clear hK
 refine tkr 4 9 (fun K hK=>?_)
 go_simp
 refine (kD _).mono ?_
 rintro e w2 ⟨rfl,hb2⟩
 go_wp2_with fail
 refine hK.out _ _ ?_ (fun hS2=>?_)
 ·exact ⟨Za hb2 _ _ hS1.1,Za hb2 _ _ hS1.2.1,Za hb2 _ _ hS1.2.2.1,Za hb2 _ _ hS1.2.2.2.1,Za hb2 _ _ hS1.2.2.2.2⟩
 clear hK
 refine tkm 5 4 (.bool (Ya (y0,y1,y2,y3) (x0,x1,x2,x3))) ?_
 refine wpAnyH_done (by kernel_rfl) ?_ _
 go_wp2
 go_ret
 exact ⟨rfl,Zb bd (Zb hb1 hb2)⟩

theorem Qn {w:World} {g:Nat} {cs:Sl × Sl × Sl} {rows:List (List I3)} {m:V4} (h:Yk w g cs rows m) (hp:Zn rows=true) (hs:Zk m=true) {k:Nat} (hk:k<3) (hd:Z2 rows m k=false) (la:Option Addr) (n c:Nat) (Z:List Int) (hL:YV .i64 w la n c Z) (hn:n≤4096) (hZ:SG rows m Z) :
  Calls Tryz.prog 94 #[.pointer (some ⟨g,0,none⟩),.slice la n c,.int .i64 k] w fun e w'=>GO e w' w.heap.size (YP rows m Z k)∧Below w.heap.size w w':=by
 obtain ⟨i1,hi,hz3,hz4,hz5⟩:=info_parts Xe
 have hll:=hL.1
 have eS:YP rows m Z (k:Int)=Z.filter (fun z=>!(fun j:Int=>Ya (ZB rows m j.toNat) (ZB rows m k)) z):=by
  unfold YP
  rw [Int.toNat_natCast]
  congr 1
  funext j
  rw [Us]
 rw [eS]
 clear eS
 have kE:=fun (W:World) (b:Below w.heap.size w W)=>RE (h.below b) hp hs hk hd
 have kW:=fun (W:World) (b:Below w.heap.size w W) (bx ev:Nat) cB x0 x1 x2 x3 c0 c1 c2 c3 (q:Nat) (hq:q<3) hdq=>GL (bx:=bx) (ev:=ev) (h.below b) hp hs cB x0 x1 x2 x3 c0 c1 c2 c3 (j:=q) hq hdq
 have hM:=h.1.lt
 clear h hd hp
 generalize ZB rows m k=y at *
 obtain ⟨y0,y1,y2,y3⟩:=y
 simp only at kE
 have pB:=Blk.new w 168 [.pointer (some ⟨g,0,none⟩)]
 have bw:Below w.heap.size w (w.alloc (.cells #[.pointer (some ⟨g,0,none⟩)] 168)):=by go_grown
 have hsz:(w.alloc (.cells #[.pointer (some ⟨g,0,none⟩)] 168)).heap.size=w.heap.size+1:=by simp
 replace hL:=hL.below bw
 go_enter Tryz.func94,Tryz.ntmps94
 go_wp2_with (at_make;refine wpList_make_full _ rfl _ _ 27 rfl w.heap.size 3 i1 (.int .i64 0) 1 Tryz.underlying27 hi hz3 hz4 _ _ _ _ n rfl rfl rfl rfl ?b2 ?b3 ?b4 ?_)
 case b2=>first | omega | (rw [hz5];omega)
 case b3=>unfold maxLen;omega
 case b4=>simp
 intro W1 hown hgrow
 generalize (w.alloc (.cells #[.pointer (some ⟨g,0,none⟩)] 168))=W0 at *
 obtain ⟨g1,hg1⟩:∃ g1,g1=w.heap.size+1:=⟨_,rfl⟩
 rw [← hg1] at hown hsz ⊢
 have hg1w:W0.heap.size≤g1:=by omega
 obtain ⟨bx,hbx⟩:∃ bx,bx=w.heap.size:=⟨_,rfl⟩
 have hbw:w.heap.size≤bx:=by omega
 rw [← hbx] at pB
 have b1:Below W0.heap.size W0 W1:=⟨hgrow.os,hgrow.tape,hgrow.output,hgrow.size,fun k hk=>hgrow.block k hk (by simp)⟩
 replace hL:=hL.below b1
 clear hgrow
 have hne:bx≠g1:=by omega
 have hbg:w.heap.size≤g1:=by omega
 try rw [← hbx]
 clear hbx hsz hg1
 have HO:Hid (∃ cur:List Value,cur.length=n∧W1.heap[g1]?=some (.cells cur.toArray 3 (0,0))∧∀ (W:World) (cs:List Value),cs.length=n→W.heap[g1]?=some (.cells cs.toArray 3 (0,0))→W.ownsRow w.heap.size 3 1 (.slice (some ⟨g1,0,none⟩) n n) n cs):=by
  rcases hown.2 with ⟨hv,_⟩ | ⟨g',cap',cur,hv,hB,hg,hn9,hc9,hsz9,ht9⟩
  ·cases hv
  cases hv
  refine ⟨cur.toList,by simpa using hsz9,by simpa using hg,fun W cs hcs hW=>⟨by omega,.inr ⟨g1,n,cs.toArray,rfl,hbg,hW,Nat.le_refl _,hc9,by simp [hcs],?_⟩⟩⟩
  simp [hcs]
  exact List.take_of_length_le (by omega)
 clear hown
 obtain ⟨cur,hcl,hcur,HOW⟩:=HO.out
 have HOW:Hid _:=HOW
 clear HO
 have hcs1:(Z.map (Value.int .i64)).length=Nat.min n n:=by rw [List.length_map,hll];exact (Nat.min_self n).symm
 have HP:Hid (0<(Z.map (Value.int .i64)).length→(some (⟨g1,0,none⟩:Addr))=some ⟨g1,0,none⟩∧∃ ad,la=some ad∧∀ j v,(Z.map (Value.int .i64))[j]?=some v→W1.cell? (ad.add j)=some v):=by
  intro hpos
  rw [List.length_map] at hpos
  obtain ⟨_,_,_,hcase⟩:=hL
  rcases hcase with e0 | ⟨b,off,rfl,hb,hc⟩
  ·omega
  refine ⟨rfl,_,rfl,fun j v hj=>?_⟩
  rw [List.getElem?_map] at hj
  obtain ⟨z,hz,rfl⟩:=Option.map_eq_some_iff.1 hj
  have hjl:=(List.getElem?_eq_some_iff.1 hz).1
  have h9:=hc j (by omega)
  rw [List.getD,hz,Option.getD_some] at h9
  by_cases e0:j=0
  ·subst e0;simpa [Addr.add] using h9
  simpa [Addr.add,e0] using h9
 go_wp2_with (refine wpList_copy_splice rfl _ _ 27 27 rfl 3 Tryz.underlying27 (by kernel_rfl) _ _ _ _ _ _ rfl rfl g1 0 cur 3 hcur (Z.map (Value.int .i64)) hcs1 HP.out (by rw [List.length_map];omega) (fun v hv=>by obtain ⟨z,_,rfl⟩:=List.mem_map.1 hv;rfl) W0.heap.size W0 b1 hg1w ?_)
 intro W2 HC b2
 have hC:=HC.out
 have hsp:splice cur 0 (Z.map (Value.int .i64))=Z.map (Value.int .i64):=by
  unfold splice
  rw [List.drop_of_length_le (by rw [List.length_map];omega)]
  simp
 rw [hsp] at hC
 have Q:=HOW.out W2 _ (by rw [List.length_map];exact hll) hC
 replace bw:=Zb bw b2
 replace pB:=pB.below b2
 clear HC hC hsp hcur hcl HOW cur b1 b2 hL hcs1
 have cB:W2.cell? ⟨bx,0,none⟩=some (.pointer (some ⟨g,0,none⟩)):=by simpa using pB.cell 0
 have kEx:=kE W2 bw
 clear kE
 go_wp2_with fail
 refine kEx.mono ?_
 rintro e W3 ⟨rfl,hb3⟩
 replace bw:=Zb bw hb3
 replace pB:=pB.below hb3
 have Q3:=Zf Q hb3
 clear cB kEx Q hb3
 have b4:Below W3.heap.size W3 (W3.alloc (.cells #[.int .i64 0,.int .i64 0,.int .i64 0,.int .i64 0] 38)):=by go_grown
 have pE:=Blk.new W3 38 [.int .i64 0,.int .i64 0,.int .i64 0,.int .i64 0]
 have hb9:=pB.lt
 have hg9:=(Q3.lt g1 rfl).2
 obtain ⟨ev,hev⟩:∃ ev,ev=W3.heap.size:=⟨_,rfl⟩
 rw [← hev] at pE hb9 hg9
 have hwe:w.heap.size≤ev:=by rw [hev];exact bw.size
 have HV:Hid (ev=W3.heap.size):=hev
 clear hev
 go_wp2_with (rw [← HV.out];refine Ze rfl 38 _ _ rfl ev [.int .i64 y0,.int .i64 y1,.int .i64 y2,.int .i64 y3] rfl rfl pE (by kernel_rfl) rfl rfl ?_)
 intro W4 pE4 g4
 have Q4:=(Zf Q3 b4).kept g4 (.inr (by simp [Value.ownBlock];omega))
 have pB4:=(pB.below b4).kept g4 (by simp;omega)
 have bw4:=(Zb bw b4).grown g4 (Nat.le_trans bw.size b4.size) (fun x hx=>by cases hx;exact hwe)
 have pE5:=pE4.out
 clear pE g4 b4 Q3 pB bw pE4
 have eg:∀ args w,(callFunc 147 args).run Tryz.prog w=.ok (.enter 147 args) w:=enters_of Tryz.func147 (by kernel_rfl) rfl
 have hA:Jy 147 #[.pointer (some ⟨bx,0,none⟩),.pointer (some ⟨ev,0,none⟩)] (fun j:Int=>Ya (ZB rows m j.toNat) (y0,y1,y2,y3)) W4 g1 Z:=fun W gW j hj=>by
  obtain ⟨q,rfl,hq3,hqd⟩:=hZ j hj
  have bW:=bw4.grown gW bw4.size (fun x hx=>by cases hx;exact hbg)
  have pBW:=pB4.kept gW (by simp;omega)
  have pEW:=pE5.kept gW (by simp;omega)
  simp only [Int.toNat_natCast]
  exact kW W bW bx ev (by simpa using pBW.cell 0) y0 y1 y2 y3 (by simpa using pEW.cell 0) (by simpa using pEW.cell 1) (by simpa using pEW.cell 2) (by simpa using pEW.cell 3) q hq3 hqd
 obtain ⟨R,hR⟩:∃ R,R=Z.filter (fun z=>!Ya (ZB rows m z.toNat) (y0,y1,y2,y3)):=⟨_,rfl⟩
 have kD:Calls Tryz.prog 148 #[.slice (some ⟨g1,0,none⟩) n n,.func (.func 147) #[] #[.pointer (some ⟨bx,0,none⟩),.pointer (some ⟨ev,0,none⟩)]] W4 fun e w'=>JB e W4 w' w.heap.size g1 n R:=by
  rw [hR]
  exact Qw 147 #[.pointer (some ⟨bx,0,none⟩),.pointer (some ⟨ev,0,none⟩)] (fun j:Int=>Ya (ZB rows m j.toNat) (y0,y1,y2,y3)) eg w.heap.size g1 n n Z W4 Q4 hll (by omega) hA
 have HR:Hid (R=Z.filter (fun z=>!Ya (ZB rows m z.toNat) (y0,y1,y2,y3))):=hR
 clear hA eg kW Q4 pB4 pE5 hZ hR
 go_wp2_with fail
 refine kD.mono ?_
 rintro e W5 ⟨rfl,Q5,g5⟩
 have bw5:=bw4.grown g5 bw4.size (fun x hx=>by cases hx;exact hbg)
 clear kD g5 bw4
 go_wp2
 go_ret
 exact ⟨⟨.slice (some ⟨g1,0,none⟩) R.length n,rfl,by rw [← HR.out];exact Q5⟩,bw5⟩


def Ap3 (v u:Value):Prop:=∀ g,v.ownBlock=some g→u.ownBlock≠some g
theorem Ap3.symm {v u:Value} (h:Ap3 v u):Ap3 u v:=fun g hg h2=>h g h2 hg
theorem Ap3.or {v u:Value} (h:Ap3 v u):v.ownBlock=none∨v.ownBlock≠u.ownBlock:=by
 cases e:v.ownBlock with
 | none=>exact .inl rfl
 | some g=>exact .inr fun e2=>h g e e2.symm
theorem Ap3.types {w:World} {B B' e e' s s' n n':Nat} {v v':Value} {xs xs':List Value} (h:w.ownsRow B e s v n xs) (h':w.ownsRow B' e' s' v' n' xs') (he:e≠e'):Ap3 v v':=fun g hg h2=>by
 rcases Yh h h' he with h3 | h3
 ·rw [h3] at hg;cases hg
 exact h3 (hg.trans h2.symm)
theorem ZN {w:World} {B e s n:Nat} {v:Value} {xs:List Value} (h:w.ownsRow B e s v n xs) {g:Nat} (hg:v.ownBlock=some g):B≤g∧g<w.heap.size:=by
 rcases h.2 with ⟨rfl,_⟩ | ⟨g',cap,cur,rfl,hb,hgg,_⟩
 ·simp [Value.ownBlock] at hg
 simp [Value.ownBlock] at hg
 subst hg
 refine ⟨hb,?_⟩
 rcases Nat.lt_or_ge g' w.heap.size with h1 | h1
 ·exact h1
 rw [Array.getElem?_eq_none h1] at hgg;cases hgg
theorem Ap3.fresh {w w':World} {B e e' s s' n n' B':Nat} {v v':Value} {xs xs':List Value} (h:w.ownsRow B e s v n xs) (h':w'.ownsRow B' e' s' v' n' xs') (hB:w.heap.size≤B'):Ap3 v v':=fun g hg h2=>by
 have h1:=(ZN h hg).2
 have h3:=(ZN h' h2).1
 omega
theorem Ap3.moved {w:World} {B e s n:Nat} {v u u':Value} {xs:List Value} (h:w.ownsRow B e s v n xs) (ha:Ap3 v u) (hu:u'.ownBlock=u.ownBlock∨u'.ownBlock=some w.heap.size):Ap3 v u':=fun g hg h2=>by
 rcases hu with hu | hu
 ·exact ha g hg (hu▸h2)
 have h1:=(ZN h hg).2
 rw [hu] at h2
 cases h2
 omega

structure Tri (w:World) (B:Nat) (v1 v2 v3:Value) (ts:List ByteArray) (fs bs:List Int):Prop where
 ks:w.ownsRow B 9 1 v1 ts.length (ts.map Value.string)
 fr:w.ownsRow B 3 1 v2 fs.length (fs.map (Value.int .i64))
 bw:w.ownsRow B 3 1 v3 bs.length (bs.map (Value.int .i64))
 ap:Ap3 v2 v3
theorem Tri.below {w w':World} {B:Nat} {v1 v2 v3:Value} {ts:List ByteArray} {fs bs:List Int} (h:Tri w B v1 v2 v3 ts fs bs) (hb:Below w.heap.size w w'):Tri w' B v1 v2 v3 ts fs bs:=
 ⟨Zf h.ks hb,Zf h.fr hb,Zf h.bw hb,h.ap⟩
theorem Tri.a12 {w:World} {B:Nat} {v1 v2 v3:Value} {ts:List ByteArray} {fs bs:List Int} (h:Tri w B v1 v2 v3 ts fs bs):Ap3 v1 v2:=Ap3.types h.ks h.fr (by decide)
theorem Tri.a13 {w:World} {B:Nat} {v1 v2 v3:Value} {ts:List ByteArray} {fs bs:List Int} (h:Tri w B v1 v2 v3 ts fs bs):Ap3 v1 v3:=Ap3.types h.ks h.bw (by decide)
theorem Tri.put1 {w w':World} {B:Nat} {v1 v2 v3 u:Value} {ts ts':List ByteArray} {fs bs:List Int} (h:Tri w B v1 v2 v3 ts fs bs) (hu:w'.ownsRow B 9 1 u ts'.length (ts'.map Value.string)) (hg:w.grownBy w' v1.ownBlock):Tri w' B u v2 v3 ts' fs bs:=
 ⟨hu,World.ownsRow.kept h.fr hg h.a12.symm.or,World.ownsRow.kept h.bw hg h.a13.symm.or,h.ap⟩
theorem Tri.put2 {w w':World} {B:Nat} {v1 v2 v3 u:Value} {ts:List ByteArray} {fs fs' bs:List Int} (h:Tri w B v1 v2 v3 ts fs bs) (hu:w'.ownsRow B 3 1 u fs'.length (fs'.map (Value.int .i64))) (hg:w.grownBy w' v2.ownBlock) (ha:u.ownBlock=v2.ownBlock∨u.ownBlock=some w.heap.size):Tri w' B v1 u v3 ts fs' bs:=
 ⟨World.ownsRow.kept h.ks hg h.a12.or,hu,World.ownsRow.kept h.bw hg h.ap.symm.or,(Ap3.moved h.bw h.ap.symm ha).symm⟩
theorem Tri.put3 {w w':World} {B:Nat} {v1 v2 v3 u:Value} {ts:List ByteArray} {fs bs bs':List Int} (h:Tri w B v1 v2 v3 ts fs bs) (hu:w'.ownsRow B 3 1 u bs'.length (bs'.map (Value.int .i64))) (hg:w.grownBy w' v3.ownBlock) (ha:u.ownBlock=v3.ownBlock∨u.ownBlock=some w.heap.size):Tri w' B v1 v2 u ts fs bs':=
 ⟨World.ownsRow.kept h.ks hg h.a13.or,World.ownsRow.kept h.fr hg h.ap.or,hu,Ap3.moved h.fr h.ap ha⟩

structure Wp (wi w:World) (v1 v2 v3 u1 u2 u3:Value):Prop where
 size:wi.heap.size≤w.heap.size
 keep:∀ k,k<wi.heap.size→v1.ownBlock≠some k→v2.ownBlock≠some k→v3.ownBlock≠some k→w.heap[k]?=wi.heap[k]?
 at1:u1.ownBlock=v1.ownBlock∨∃ g,wi.heap.size≤g∧u1.ownBlock=some g
 at2:u2.ownBlock=v2.ownBlock∨∃ g,wi.heap.size≤g∧u2.ownBlock=some g
 at3:u3.ownBlock=v3.ownBlock∨∃ g,wi.heap.size≤g∧u3.ownBlock=some g
theorem Wp.refl (w:World) (v1 v2 v3:Value):Wp w w v1 v2 v3 v1 v2 v3:=⟨Nat.le_refl _,fun _ _ _ _ _=>rfl,.inl rfl,.inl rfl,.inl rfl⟩
theorem Wp.below {wi w w':World} {v1 v2 v3 u1 u2 u3:Value} (h:Wp wi w v1 v2 v3 u1 u2 u3) (hb:Below w.heap.size w w'):Wp wi w' v1 v2 v3 u1 u2 u3:=
 ⟨Nat.le_trans h.size hb.size,fun k hk a b c=>(hb.block k (Nat.lt_of_lt_of_le hk h.size)).trans (h.keep k hk a b c),h.at1,h.at2,h.at3⟩
theorem MT {wi w:World} {u v u':Value} (h:u.ownBlock=v.ownBlock∨∃ g,wi.heap.size≤g∧u.ownBlock=some g) (hs:wi.heap.size≤w.heap.size) (ha:u'.ownBlock=u.ownBlock∨u'.ownBlock=some w.heap.size):u'.ownBlock=v.ownBlock∨∃ g,wi.heap.size≤g∧u'.ownBlock=some g:=by
 rcases ha with ha | ha
 ·rw [ha];exact h
 exact .inr ⟨_,hs,ha⟩
theorem Hf {wi:World} {u v:Value} (h:u.ownBlock=v.ownBlock∨∃ g,wi.heap.size≤g∧u.ownBlock=some g) {k:Nat} (hk:k<wi.heap.size) (hv:v.ownBlock≠some k):some k≠u.ownBlock:=by
 rcases h with h | ⟨g,hg,h⟩
 ·rw [h];exact fun e=>hv e.symm
 rw [h];intro e;cases e;omega
theorem Wp.put1 {wi w w':World} {v1 v2 v3 u1 u2 u3 u:Value} (h:Wp wi w v1 v2 v3 u1 u2 u3) (hg:w.grownBy w' u1.ownBlock) (ha:u.ownBlock=u1.ownBlock∨u.ownBlock=some w.heap.size):Wp wi w' v1 v2 v3 u u2 u3:=
 ⟨Nat.le_trans h.size hg.size,fun k hk a b c=>(hg.block k (Nat.lt_of_lt_of_le hk h.size) (Hf h.at1 hk a)).trans (h.keep k hk a b c),MT h.at1 h.size ha,h.at2,h.at3⟩
theorem Wp.put2 {wi w w':World} {v1 v2 v3 u1 u2 u3 u:Value} (h:Wp wi w v1 v2 v3 u1 u2 u3) (hg:w.grownBy w' u2.ownBlock) (ha:u.ownBlock=u2.ownBlock∨u.ownBlock=some w.heap.size):Wp wi w' v1 v2 v3 u1 u u3:=
 ⟨Nat.le_trans h.size hg.size,fun k hk a b c=>(hg.block k (Nat.lt_of_lt_of_le hk h.size) (Hf h.at2 hk b)).trans (h.keep k hk a b c),h.at1,MT h.at2 h.size ha,h.at3⟩
theorem Wp.put3 {wi w w':World} {v1 v2 v3 u1 u2 u3 u:Value} (h:Wp wi w v1 v2 v3 u1 u2 u3) (hg:w.grownBy w' u3.ownBlock) (ha:u.ownBlock=u3.ownBlock∨u.ownBlock=some w.heap.size):Wp wi w' v1 v2 v3 u1 u2 u:=
 ⟨Nat.le_trans h.size hg.size,fun k hk a b c=>(hg.block k (Nat.lt_of_lt_of_le hk h.size) (Hf h.at3 hk c)).trans (h.keep k hk a b c),h.at1,h.at2,MT h.at3 h.size ha⟩
theorem Wp.row {wi w:World} {v1 v2 v3 u1 u2 u3:Value} (h:Wp wi w v1 v2 v3 u1 u2 u3) {B e s n:Nat} {v:Value} {xs:List Value} (ho:wi.ownsRow B e s v n xs) (a1:Ap3 v v1) (a2:Ap3 v v2) (a3:Ap3 v v3):w.ownsRow B e s v n xs:=by
 have hlt:=fun g hg=>(ZN ho (g:=g) hg).2
 refine ⟨ho.1,?_⟩
 rcases ho.2 with hn | ⟨g,cap,cur,rfl,hb,hgg,rest⟩
 ·exact .inl hn
 exact .inr ⟨g,cap,cur,rfl,hb,(h.keep g (hlt g rfl) (a1 g rfl) (a2 g rfl) (a3 g rfl)).trans hgg,rest⟩

/-! The rows that go with the list of states. -/
def ZA (S:List (Zr V4)):List ByteArray:=S.map fun r=>Ye r.1
def YT:List (Zr V4)→List Int
 | []=>[]
 | _::S=>-1::S.map fun r=>(r.2.1:Int)
def byL:List (Zr V4)→List Int
 | []=>[]
 | _::S=>-1::S.map fun r=>r.2.2
theorem Xh (S:List (Zr V4)):(ZA S).length=S.length:=by simp [ZA]
theorem Ux (S:List (Zr V4)):(YT S).length=S.length:=by cases S<;>simp [YT]
theorem S8 (S:List (Zr V4)):(byL S).length=S.length:=by cases S<;>simp [byL]
theorem Sh (S:List (Zr V4)) (r:Zr V4):ZA (S++[r])=ZA S++[Ye r.1]:=by simp [ZA]
theorem QP {S:List (Zr V4)} (h:S≠[]) (r:Zr V4):YT (S++[r])=YT S++[(r.2.1:Int)]:=by
 cases S with
 | nil=>exact absurd rfl h
 | cons a S=>simp [YT]
theorem Ll {S:List (Zr V4)} (h:S≠[]) (r:Zr V4):byL (S++[r])=byL S++[r.2.2]:=by
 cases S with
 | nil=>exact absurd rfl h
 | cons a S=>simp [byL]


def US (e:Ending) (w:World) (B:Nat) (z:V4) (fs:List I3) (c:Int):Prop:=∃ (t:S4) (v:Value),e=.returned (.tuple #[t.val,v,.int .i64 c])∧ZQ w B t z∧w.ownsRow B 64 3 v fs.length (Zo fs)
theorem US.mk9 {e:Ending} {w:World} {B:Nat} {z:V4} {fs:List I3} {c:Int} (t:S4) (v:Value) (he:e=.returned (.tuple #[t.val,v,.int .i64 c])) (h1:ZQ w B t z) (h2:w.ownsRow B 64 3 v fs.length (Zo fs)):US e w B z fs c:=⟨t,v,he,h1,h2⟩
end Go.Proofs.YtifoggpohlegmaaGreatDoor
