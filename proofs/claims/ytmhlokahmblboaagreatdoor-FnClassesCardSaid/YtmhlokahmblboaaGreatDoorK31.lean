/-
  Joined: RpG, EvC, CmtQ, FulQ, FulB, FulD, NrmQ, SlpP, SaI, Rw3, RpH.
-/
import Derived.Lib.Hide
import Derived.Deep.MidRow
import Derived.Test.YtmhlokahmblboaaGreatDoorK29

namespace Go.Proofs.YtmhlokahmblboaaGreatDoor
set_option maxRecDepth 100000
set_option maxHeartbeats 16000000
open Go.RowKit
set_option linter.unusedVariables false
set_option linter.unusedSimpArgs false

theorem XC {w:World} {B:Nat} {v:Value} {xs:List I3} (h:w.ownsRow B 90 3 v xs.length (Zr xs)) (hf:∀ x ∈ xs,I3.fits x):∃ a cap,v=.slice a xs.length cap∧ZK w a xs.length cap xs∧JA a cap:=by
 rcases h.2 with ⟨rfl,h0⟩ | ⟨g,cap,cur,hv,_⟩
 ·exact ⟨none,0,by rw [h0],⟨rfl,by omega,by unfold maxLen;omega,hf,.inl h0⟩,fun _=>rfl,fun x hx=>by cases hx⟩
 subst hv
 exact ⟨_,_,rfl,ZK.of_owns h rfl hf rfl,(fun h=>by cases h),fun x hx=>by cases hx;rfl⟩


def YK (rows:List (List I3)):V4→List Int→List I4
 | _,[]=>[]
 | m,k::ks=>Zz rows m k.toNat::YK rows (goM rows m k).1 ks
def FY (e:Ending) (w:World) (B:Nat) (es:List I4) (c:Int):Prop:=∃ v,e=.returned (.tuple #[v,.int .i64 c])∧w.ownsRow B 135 4 v es.length (Yu es)
theorem RF:(Tryz.prog.info? 135).map (fun i=>(i.zero,i.size,i.bytes))=some (some (.agg #[.int .i64 0,.int .i64 0,.int .i64 0,.int .i64 0]),4,32):=by kernel_rfl
theorem N7 (rows:List (List I3)) (m:V4) (fs:List I3) (k:Int):ZE rows m fs [k]=if Zv rows m k=0 then ((goM rows m k).1,fs++Yr rows m k,0) else (m,fs,Zv rows m k):=by
 show (if Zv rows m k=0 then _ else _)=_
 rfl
theorem GT {w:World} {G:Nat} {a b c d:Value} (h:Blk w G 135 [a,b,c,d]):∀ j u,[a,b,c,d][j]?=some u→w.cell? ((⟨G,0,none⟩:Addr).add j)=some u:=by
 intro j u hj
 rw [Addr.add_mid,Nat.zero_add,h.cell]
 exact hj
theorem JW (a b c d:Int):∀ u ∈ [Value.int .i64 a,Value.int .i64 b,Value.int .i64 c,Value.int .i64 d],u.oneCell'=true:=by
 intro u hu
 simp at hu
 rcases hu with rfl | rfl | rfl | rfl<;>rfl
theorem ME {w:World} {a:Option Addr} {n c:Nat} {ks:List Int} (h:YS .i64 w a n c ks) {i:Nat} (hi:i<n):∃ b off,a=some ⟨b,off,none⟩∧w.cell? ⟨b,off+i,none⟩=some (.int .i64 (ks.getD i 0))∧b<w.heap.size:=by
 obtain ⟨h1,h2,h3,h4⟩:=h
 rcases h4 with h4 | ⟨b,off,ha,hl,hc⟩
 ·omega
 exact ⟨b,off,ha,hc i hi,hl⟩


theorem WH (rows:List (List I3)) (m:V4) (k:Nat):goM rows m (k:Int)=ZC m (Yq rows m k) k:=by unfold goM;rw [Int.toNat_natCast]
theorem Vz {rows:List (List I3)} {m:V4} {x:I3} {k l:Nat} (h:k≠l):Z1 rows (ZC m x k).1 l=Z1 rows m l:=by unfold Z1;rw [XH m x (Ne.symm h)]
theorem Wy {rows:List (List I3)} {m:V4} {x:I3} {k l:Nat} (h:k≠l):Yq rows (ZC m x k).1 l=Yq rows m l:=by unfold Yq;rw [XH m x (Ne.symm h)]
theorem WU {rows:List (List I3)} {m:V4} {x:I3} {k l:Nat} (h:k≠l):Zz rows (ZC m x k).1 l=Zz rows m l:=by unfold Zz;rw [Wy h,XH m x (Ne.symm h)]
theorem RP {m:V4} {x y:I3} {k:Nat} (hx:okI x=true) (hy:okI y=true) (hc:¬ W7 x y):XP (ZC m x k).1 y=XP m y:=by
 unfold XP
 by_cases h5:y.1=5
 ·rw [Yl]
  simp only
  rw [S9 hy hx (Vv hc) (.inl h5)]
 simp [h5]
theorem Ul {rows:List (List I3)} {m:V4} {k l:Nat} (hd:Z9 (Zz rows m k) (Zz rows m l)=false):k≠l∧¬ W7 (Yq rows m k) (Yq rows m l):=by
 unfold Z9 Zz at hd
 simp only [Bool.or_eq_false_iff,decide_eq_false_iff_not] at hd
 obtain ⟨h1,h2⟩:=hd
 refine ⟨fun e=>h1 (by rw [e]),?_⟩
 rintro ⟨a,b,c⟩
 have e1:decide (0≤X3 (Yq rows m k))=true:=by simp [a]
 have e2:decide (X3 (Yq rows m k)=X3 (Yq rows m l))=true:=by simp [b]
 have e3:(decide ((Yq rows m k).1=1) && decide ((Yq rows m l).1=1))=false:=by
  cases e:(decide ((Yq rows m k).1=1) && decide ((Yq rows m l).1=1))
  ·rfl
  simp only [Bool.and_eq_true,decide_eq_true_eq] at e
  exact absurd e c
 rw [e1,e2,e3] at h2
 cases h2
theorem S5 {rows:List (List I3)} {m:V4} {k:Nat} (hk:k<3) (hc:YA rows m k=true):Zv rows m (k:Int)=0:=by
 have hd:=(L7 hc).1
 unfold Zv
 rw [if_pos (by omega),Int.toNat_natCast]
 simp [hd,hc]
theorem RD {rows:List (List I3)} {m:V4} {k l:Nat} (hp:Zn rows=true) (hs:Zk m=true) (h1:Zv rows m (k:Int)=0) (h2:Zv rows (goM rows m (k:Int)).1 (l:Int)=0) (hd:Z9 (Zz rows m k) (Zz rows (goM rows m (k:Int)).1 l)=false) :
  Zv rows m (l:Int)=0∧Zv rows (goM rows m (l:Int)).1 (k:Int)=0∧(goM rows (goM rows m (l:Int)).1 (k:Int)).1=(goM rows (goM rows m (k:Int)).1 (l:Int)).1∧Zz rows m l=Zz rows (goM rows m (k:Int)).1 l∧Zz rows (goM rows m (l:Int)).1 k=Zz rows m k:=by
 obtain ⟨a0,a1,a2,a3⟩:=ZX h1
 obtain ⟨b0,b1,b2,b3⟩:=ZX h2
 rw [Int.toNat_natCast] at a2 a3 b2 b3
 have hk:k<3:=by omega
 have hl:l<3:=by omega
 simp only [WH] at *
 have hkl:k≠l:=fun e=>by
  subst e
  unfold Z9 Zz at hd
  simp at hd
 rw [WU hkl] at hd
 obtain ⟨_,hc⟩:=Ul hd
 rw [Vz hkl] at b2
 obtain ⟨_,_,_,_,ox⟩:=X0 hp hs hk a2
 obtain ⟨_,_,_,_,oy⟩:=X0 hp hs hl b2
 have c1:YA rows m l=true:=by
  unfold YA at b3 ⊢
  rw [Vz hkl,Wy hkl,RP ox oy hc] at b3
  exact b3
 have c2:YA rows (ZC m (Yq rows m l) l).1 k=true:=by
  unfold YA at a3 ⊢
  rw [Vz (Ne.symm hkl),Wy (Ne.symm hkl),RP oy ox (Vv hc)]
  exact a3
 refine ⟨S5 hl c1,S5 hk c2,?_,(WU hkl).symm,WU (Ne.symm hkl)⟩
 rw [Wy hkl,Wy (Ne.symm hkl)]
 exact (PX hkl ox oy hc).symm
theorem LE (rows:List (List I3)):∀ (ks:List Int) (m:V4) (fs fs':List I3),(ZE rows m fs ks).1=(ZE rows m fs' ks).1∧(ZE rows m fs ks).2.2=(ZE rows m fs' ks).2.2
 | [],m,fs,fs'=>⟨rfl,rfl⟩
 | k::ks,m,fs,fs'=>by
  have e:∀ f,ZE rows m f (k::ks)=if Zv rows m k=0 then ZE rows (goM rows m k).1 (f++Yr rows m k) ks else (m,f,Zv rows m k):=fun f=>rfl
  rw [e,e]
  split
  ·exact LE rows ks _ _ _
  exact ⟨rfl,rfl⟩
theorem Xg {rows:List (List I3)} {m:V4} {fs:List I3} {k:Int} {ks:List Int} (h:(ZE rows m fs (k::ks)).2.2=0):Zv rows m k=0∧ZE rows m fs (k::ks)=ZE rows (goM rows m k).1 (fs++Yr rows m k) ks:=by
 have e:ZE rows m fs (k::ks)=if Zv rows m k=0 then ZE rows (goM rows m k).1 (fs++Yr rows m k) ks else (m,fs,Zv rows m k):=rfl
 by_cases hz:Zv rows m k=0
 ·rw [if_pos hz] at e
  exact ⟨hz,e⟩
 rw [e,if_neg hz] at h
 exact absurd h hz
theorem WO {rows:List (List I3)} {m:V4} {fs:List I3} {k:Int} {ks:List Int} (hz:Zv rows m k=0):ZE rows m fs (k::ks)=ZE rows (goM rows m k).1 (fs++Yr rows m k) ks:=by
 show (if Zv rows m k=0 then _ else _)=_
 rw [if_pos hz]
theorem Ga {rows:List (List I3)} {m:V4} {fs:List I3} {k l:Int} {ks:List Int} (hp:Zn rows=true) (hs:Zk m=true) (h:(ZE rows m fs (k::l::ks)).2.2=0) (hd:Z9 (Zz rows m k.toNat) (Zz rows (goM rows m k).1 l.toNat)=false) :
  (ZE rows m fs (l::k::ks)).1=(ZE rows m fs (k::l::ks)).1∧(ZE rows m fs (l::k::ks)).2.2=0∧YK rows m (l::k::ks)=Zz rows (goM rows m k).1 l.toNat::Zz rows m k.toNat::YK rows (goM rows (goM rows m k).1 l).1 ks:=by
 obtain ⟨h1,e1⟩:=Xg h
 rw [e1] at h ⊢
 obtain ⟨h2,e2⟩:=Xg h
 rw [e2] at h ⊢
 obtain ⟨a0,a1,_,_⟩:=ZX h1
 obtain ⟨b0,b1,_,_⟩:=ZX h2
 obtain ⟨k',rfl⟩:∃ k':Nat,k=k':=⟨k.toNat,by omega⟩
 obtain ⟨l',rfl⟩:∃ l':Nat,l=l':=⟨l.toNat,by omega⟩
 simp only [Int.toNat_natCast] at hd ⊢
 obtain ⟨g1,g2,g3,g4,g5⟩:=RD hp hs h1 h2 hd
 rw [WO g1,WO g2,g3]
 obtain ⟨f1,f2⟩:=LE rows ks (goM rows (goM rows m (k':Int)).1 (l':Int)).1 (fs++Yr rows m (l':Int)++Yr rows (goM rows m (l':Int)).1 (k':Int)) (fs++Yr rows m (k':Int)++Yr rows (goM rows m (k':Int)).1 (l':Int))
 refine ⟨f1,f2.trans h,?_⟩
 show Zz rows m (l':Int).toNat::Zz rows (goM rows m (l':Int)).1 (k':Int).toNat::YK rows (goM rows (goM rows m (l':Int)).1 (k':Int)).1 ks=_
 rw [Int.toNat_natCast,Int.toNat_natCast,g3,g4,g5]
theorem LF {rows:List (List I3)}:∀ (pre ks:List Int) (m:V4) (fs:List I3),(ZE rows m fs pre).2.2=0→ZE rows m fs (pre++ks)=ZE rows (ZE rows m fs pre).1 (ZE rows m fs pre).2.1 ks∧YK rows m (pre++ks)=YK rows m pre++YK rows (ZE rows m fs pre).1 ks
 | [],ks,m,fs,_=>⟨rfl,rfl⟩
 | k::pre,ks,m,fs,h=>by
  obtain ⟨h1,e1⟩:=Xg h
  rw [e1] at h ⊢
  obtain ⟨i1,i2⟩:=LF pre ks _ _ h
  rw [List.cons_append,WO h1,i1]
  refine ⟨rfl,?_⟩
  show Zz rows m k.toNat::YK rows (goM rows m k).1 (pre++ks)=Zz rows m k.toNat::(YK rows (goM rows m k).1 pre++_)
  rw [i2]
theorem Ry (rows:List (List I3)):∀ (ks:List Int) (m:V4),(YK rows m ks).length=ks.length
 | [],m=>rfl
 | k::ks,m=>by show (YK rows (goM rows m k).1 ks).length+1=ks.length+1;rw [Ry rows ks]


def nxM (rows:List (List I3)) (m:V4):List (Int × V4):=(Zj rows m 3).map fun k=>(k,(goM rows m k).1)
theorem PQ {rows:List (List I3)} {m:V4} {t:Int × V4} (h:t ∈ nxM rows m):Zv rows m t.1=0∧t.2=(goM rows m t.1).1:=by
 unfold nxM at h
 obtain ⟨k,hk,rfl⟩:=List.mem_map.1 h
 obtain ⟨i,hi,hie⟩:=List.getElem_of_mem hk
 obtain ⟨k',e,h3,hc⟩:=GS hi
 have e2:(Zj rows m 3).getD i 0=k:=by simp [List.getD,hi,hie]
 rw [e2] at e
 subst e
 exact ⟨S5 h3 hc,rfl⟩
theorem Hp {rows:List (List I3)} {m:V4} {k:Int} (h:Zv rows m k=0):(k,(goM rows m k).1) ∈ nxM rows m:=by
 obtain ⟨h0,h2,hd,hc⟩:=ZX h
 obtain ⟨q,rfl⟩:∃ q:Nat,k=q:=⟨k.toNat,by omega⟩
 rw [Int.toNat_natCast] at hc
 exact List.mem_map.2 ⟨(q:Int),(Tw 3).2 ⟨by omega,hc⟩,rfl⟩
theorem KY {rows:List (List I3)} {m:V4} (hp:Zn rows=true) (hs:Zk m=true) {t:Int × V4} (h:t ∈ nxM rows m):Zk t.2=true:=by
 obtain ⟨h1,h2⟩:=PQ h
 rw [h2]
 exact ZV hp hs h1
def Yd (rows:List (List I3)):List (Zp V4):=WQ (nxM rows) 2000 0 [(Zl,0,0)]
def YJ (S:List (Zp V4)):Prop:=∀ r ∈ S,Zk r.1=true
theorem Ub {i:Nat} {S:List (Zp V4)} {t:Int × V4} (h:YJ S) (ht:Zk t.2=true):YJ (XW i S t):=by
 unfold XW
 split
 ·exact h
 intro r hr
 rcases List.mem_append.1 hr with hr | hr
 ·exact h r hr
 simp at hr
 subst hr
 exact ht
theorem RX {i:Nat}:∀ (ts:List (Int × V4)) (S:List (Zp V4)),YJ S→(∀ t ∈ ts,Zk t.2=true)→YJ (onS i S ts)
 | [],S,h,_=>h
 | t::ts,S,h,ht=>RX ts _ (Ub h (ht t (by simp))) (fun u hu=>ht u (by simp [hu]))
theorem SN {rows:List (List I3)} (hp:Zn rows=true):∀ (f i:Nat) (S:List (Zp V4)),YJ S→YJ (WQ (nxM rows) f i S)
 | 0,_,S,h=>h
 | f+1,i,S,h=>by
  unfold WQ
  split
  ·exact h
  rename_i r hr
  exact SN hp f (i+1) _ (RX _ S h (fun t ht=>KY hp (h r (List.mem_of_getElem? hr)) ht))
theorem Ts {rows:List (List I3)} (hp:Zn rows=true):YJ (Yd rows):=SN hp _ _ _ (fun r hr=>by simp at hr;subst hr;exact ZH)
theorem VB (rows:List (List I3)):(Yd rows)[0]?=some (Zl,0,0):=by
 obtain ⟨r,hr⟩:=TR (nxM rows) 2000 0 [(Zl,0,0)]
 unfold Yd
 rw [← hr]
 rfl
theorem Mz (rows:List (List I3)):PZ (nxM rows) (Yd rows):=Q8 _ _ _ (fun j r hj hr=>by
 match j,hj with
 | j+1,_=>simp at hr)
theorem Nm (rows:List (List I3)):((Yd rows).map (·.1)).Nodup:=Qb _ _ _ (by simp)
theorem Tr {rows:List (List I3)} (h:(Yd rows).length≤2000):∀ r ∈ Yd rows,∀ t ∈ nxM rows r.1,t.2 ∈ (Yd rows).map (·.1):=
 SM 2000 0 _ (fun j r hj=>by omega) (by omega) (by unfold Yd at h;omega)
def V7 (S:List (Zp V4)):Nat→Nat→List Int
 | 0,_=>[]
 | f+1,j=>if j=0 then [] else match S[j]? with
  | none=>[]
  | some r=>V7 S f r.2.1++[r.2.2]
theorem NY {rows:List (List I3)} {S:List (Zp V4)} (hC:PZ (nxM rows) S) (h0:S[0]?=some (Zl,0,0)):∀ (f j:Nat) (r:Zp V4),j≤f→S[j]?=some r →
  (ZE rows Zl [] (V7 S f j)).1=r.1∧(ZE rows Zl [] (V7 S f j)).2.2=0∧(V7 S f j).length≤j
 | 0,j,r,hj,hr=>by
  obtain rfl:j=0:=by omega
  rw [h0] at hr
  cases hr
  exact ⟨rfl,rfl,Nat.le_refl _⟩
 | f+1,j,r,hj,hr=>by
  by_cases e:j=0
  ·subst e
   rw [h0] at hr
   cases hr
   exact ⟨rfl,rfl,Nat.le_refl _⟩
  obtain ⟨h1,q,h2,h3⟩:=hC j r (by omega) hr
  have hp9:V7 S (f+1) j=V7 S f r.2.1++[r.2.2]:=by
   show (if j=0 then [] else match S[j]? with | none=>[] | some r=>V7 S f r.2.1++[r.2.2])=_
   rw [if_neg e,hr]
  obtain ⟨i1,i2,i3⟩:=NY hC h0 f r.2.1 q (by omega) h2
  obtain ⟨n1,n2⟩:=PQ h3
  simp only at n1 n2
  have ha:=(LF (rows:=rows) (V7 S f r.2.1) [r.2.2] Zl [] i2).1
  rw [i1] at ha
  have hg:ZE rows q.1 (ZE rows Zl [] (V7 S f r.2.1)).2.1 [r.2.2]=((goM rows q.1 r.2.2).1,(ZE rows Zl [] (V7 S f r.2.1)).2.1++Yr rows q.1 r.2.2,0):=by
   show (if Zv rows q.1 r.2.2=0 then _ else _)=_
   rw [if_pos n1]
   rfl
  rw [hp9,ha,hg]
  refine ⟨n2.symm,rfl,?_⟩
  rw [List.length_append]
  simp
  omega


theorem RT {α:Type} [DecidableEq α]:∀ (l t:List α),l.Nodup→(∀ x ∈ l,x ∈ t)→l.length≤t.length
 | [],t,_,_=>Nat.zero_le _
 | x::l,t,hn,hs=>by
  have hn':=List.nodup_cons.1 hn
  have hx:x ∈ t:=hs x (by simp)
  have ih:=RT l (t.erase x) hn'.2 (fun y hy=>by
   have hy':y ∈ t:=hs y (by simp [hy])
   have hne:y≠x:=fun e=>hn'.1 (e▸hy)
   exact (List.mem_erase_of_ne hne).2 hy')
  rw [List.length_erase_of_mem hx] at ih
  have:0<t.length:=List.length_pos_of_mem hx
  simp only [List.length_cons]
  omega
def Y7:Nat→Nat→Nat→Nat→Nat
 | 0,_,_,_=>1
 | f+1,a,b,c=>1+(if a=0 then 0 else Y7 f (a - 1) b c)+(if b=0 then 0 else Y7 f a (b - 1) c)+(if c=0 then 0 else Y7 f a b (c - 1))
theorem XA:∀ (f a b c a' b' c':Nat),a≤a'→b≤b'→c≤c'→Y7 f a b c≤Y7 f a' b' c'
 | 0,_,_,_,_,_,_,_,_,_=>Nat.le_refl _
 | f+1,a,b,c,a',b',c',h1,h2,h3=>by
  have i1:=XA f (a - 1) b c (a' - 1) b' c' (by omega) h2 h3
  have i2:=XA f a (b - 1) c a' (b' - 1) c' h1 (by omega) h3
  have i3:=XA f a b (c - 1) a' b' (c' - 1) h1 h2 (by omega)
  show 1+(if a=0 then 0 else Y7 f (a - 1) b c)+(if b=0 then 0 else Y7 f a (b - 1) c)+(if c=0 then 0 else Y7 f a b (c - 1))≤1+(if a'=0 then 0 else Y7 f (a' - 1) b' c')+(if b'=0 then 0 else Y7 f a' (b' - 1) c')+(if c'=0 then 0 else Y7 f a' b' (c' - 1))
  have k1:(if a=0 then 0 else Y7 f (a - 1) b c)≤(if a'=0 then 0 else Y7 f (a' - 1) b' c'):=by
   by_cases e:a=0
   ·rw [if_pos e];exact Nat.zero_le _
   rw [if_neg e,if_neg (by omega)];exact i1
  have k2:(if b=0 then 0 else Y7 f a (b - 1) c)≤(if b'=0 then 0 else Y7 f a' (b' - 1) c'):=by
   by_cases e:b=0
   ·rw [if_pos e];exact Nat.zero_le _
   rw [if_neg e,if_neg (by omega)];exact i2
  have k3:(if c=0 then 0 else Y7 f a b (c - 1))≤(if c'=0 then 0 else Y7 f a' b' (c' - 1)):=by
   by_cases e:c=0
   ·rw [if_pos e];exact Nat.zero_le _
   rw [if_neg e,if_neg (by omega)];exact i3
  omega
theorem Jr:Y7 8 3 3 2=1749:=by decide
def WR (rows:List (List I3)):Nat→V4→List V4
 | 0,m=>[m]
 | f+1,m=>m::(nxM rows m).flatMap fun t=>WR rows f t.2
def Yw (rows:List (List I3)) (m:V4) (k:Nat):Nat:=(Yn rows k).length - (m.1.getD k 0).toNat
theorem Uc {rows:List (List I3)} {m:V4} (hp:Zn rows=true) (hs:Zk m=true) {k:Nat} (hk:k<3) (hd:Z1 rows m k=false) :
  Yw rows (goM rows m k).1 k+1≤Yw rows m k∧∀ j,j≠k→Yw rows (goM rows m k).1 j=Yw rows m j:=by
 have h1:=Pb hp hs hk hd
 have hb:=Yi hs
 have hpc:=Xn hb.1 (by omega) k
 have hlt:m.1.getD k 0<(Yn rows k).length:=by
  unfold Z1 at hd
  rw [decide_eq_false_iff_not] at hd
  omega
 rw [WH]
 refine ⟨?_,fun j hj=>?_⟩
 ·unfold Yw
  omega
 unfold Yw
 rw [XH m _ hj]
theorem Mx {rows:List (List I3)} {m:V4} (F:Int→Nat):((Zj rows m 3).map F).sum=(if YA rows m 0 then F 0 else 0)+(if YA rows m 1 then F 1 else 0)+(if YA rows m 2 then F 2 else 0):=by
 have e:Zj rows m 3=(if YA rows m 2 then (if YA rows m 1 then (if YA rows m 0 then []++[(0:Int)] else [])++[(1:Int)] else (if YA rows m 0 then []++[(0:Int)] else []))++[(2:Int)] else (if YA rows m 1 then (if YA rows m 0 then []++[(0:Int)] else [])++[(1:Int)] else (if YA rows m 0 then []++[(0:Int)] else []))):=rfl
 rw [e]
 cases YA rows m 0<;>cases YA rows m 1<;>cases YA rows m 2<;>simp<;>omega
theorem Pg {rows:List (List I3)} (hp:Zn rows=true):∀ (f:Nat) (m:V4),Zk m=true→(WR rows f m).length≤Y7 f (Yw rows m 0) (Yw rows m 1) (Yw rows m 2)
 | 0,m,_=>Nat.le_refl _
 | f+1,m,hs=>by
  have key:∀ k:Nat,k<3→YA rows m k=true→(WR rows f (goM rows m (k:Int)).1).length≤Y7 f (Yw rows (goM rows m (k:Int)).1 0) (Yw rows (goM rows m (k:Int)).1 1) (Yw rows (goM rows m (k:Int)).1 2)∧Z1 rows m k=false:=fun k hk hc=>by
   have hd:Z1 rows m k=false:=by
    unfold YA at hc
    simp at hc
    exact hc.1
   exact ⟨Pg hp f _ (ZV hp hs (S5 hk hc)),hd⟩
  have hl:(WR rows (f+1) m).length=1+((Zj rows m 3).map fun k=>(WR rows f (goM rows m k).1).length).sum:=by
   show ((m::(nxM rows m).flatMap fun t=>WR rows f t.2)).length=_
   rw [List.length_cons,List.length_flatMap]
   unfold nxM
   rw [List.map_map]
   simp only [Function.comp_def]
   omega
  rw [hl,Mx fun k=>(WR rows f (goM rows m k).1).length]
  have b0:(if YA rows m 0 then (WR rows f (goM rows m 0).1).length else 0)≤(if Yw rows m 0=0 then 0 else Y7 f (Yw rows m 0 - 1) (Yw rows m 1) (Yw rows m 2)):=by
   by_cases hc:YA rows m 0=true
   ·obtain ⟨k1,hd⟩:=key 0 (by omega) hc
    obtain ⟨r1,r2⟩:=Uc hp hs (show 0<3 by omega) hd
    rw [if_pos hc,if_neg (by omega)]
    refine Nat.le_trans k1 (XA f _ _ _ _ _ _ ?_ ?_ ?_)
    ·have:Yw rows (goM rows m ((0:Nat):Int)).1 0+1≤Yw rows m 0:=r1
     omega
    ·exact Nat.le_of_eq (r2 1 (by omega))
    exact Nat.le_of_eq (r2 2 (by omega))
   rw [if_neg hc];exact Nat.zero_le _
  have b1:(if YA rows m 1 then (WR rows f (goM rows m 1).1).length else 0)≤(if Yw rows m 1=0 then 0 else Y7 f (Yw rows m 0) (Yw rows m 1 - 1) (Yw rows m 2)):=by
   by_cases hc:YA rows m 1=true
   ·obtain ⟨k1,hd⟩:=key 1 (by omega) hc
    obtain ⟨r1,r2⟩:=Uc hp hs (show 1<3 by omega) hd
    rw [if_pos hc,if_neg (by omega)]
    refine Nat.le_trans k1 (XA f _ _ _ _ _ _ ?_ ?_ ?_)
    ·exact Nat.le_of_eq (r2 0 (by omega))
    ·have:Yw rows (goM rows m ((1:Nat):Int)).1 1+1≤Yw rows m 1:=r1
     omega
    exact Nat.le_of_eq (r2 2 (by omega))
   rw [if_neg hc];exact Nat.zero_le _
  have b2:(if YA rows m 2 then (WR rows f (goM rows m 2).1).length else 0)≤(if Yw rows m 2=0 then 0 else Y7 f (Yw rows m 0) (Yw rows m 1) (Yw rows m 2 - 1)):=by
   by_cases hc:YA rows m 2=true
   ·obtain ⟨k1,hd⟩:=key 2 (by omega) hc
    obtain ⟨r1,r2⟩:=Uc hp hs (show 2<3 by omega) hd
    rw [if_pos hc,if_neg (by omega)]
    refine Nat.le_trans k1 (XA f _ _ _ _ _ _ ?_ ?_ ?_)
    ·exact Nat.le_of_eq (r2 0 (by omega))
    ·exact Nat.le_of_eq (r2 1 (by omega))
    have:Yw rows (goM rows m ((2:Nat):Int)).1 2+1≤Yw rows m 2:=r1
    omega
   rw [if_neg hc];exact Nat.zero_le _
  show _≤1+(if Yw rows m 0=0 then 0 else Y7 f (Yw rows m 0 - 1) (Yw rows m 1) (Yw rows m 2))+(if Yw rows m 1=0 then 0 else Y7 f (Yw rows m 0) (Yw rows m 1 - 1) (Yw rows m 2))+(if Yw rows m 2=0 then 0 else Y7 f (Yw rows m 0) (Yw rows m 1) (Yw rows m 2 - 1))
  omega
theorem Mn {rows:List (List I3)}:∀ (f:Nat) (ks:List Int) (m:V4) (fs:List I3),ks.length≤f→(ZE rows m fs ks).2.2=0→(ZE rows m fs ks).1 ∈ WR rows f m
 | 0,[],m,fs,_,_=>by simp [WR,ZE]
 | 0,k::ks,m,fs,h,_=>by simp at h
 | f+1,[],m,fs,_,_=>by simp [WR,ZE]
 | f+1,k::ks,m,fs,h,hz=>by
  obtain ⟨hh,he⟩:=Xg hz
  rw [he] at hz ⊢
  have ih:=Mn f ks _ _ (by simpa using h) hz
  show _ ∈ m::(nxM rows m).flatMap fun t=>WR rows f t.2
  exact List.mem_cons_of_mem _ (List.mem_flatMap.2 ⟨_,Hp hh,ih⟩)
theorem LG {rows:List (List I3)} (hp:Zn rows=true):∀ (ks:List Int) (m:V4) (fs:List I3),Zk m=true→(ZE rows m fs ks).2.2=0→ks.length≤Yw rows m 0+Yw rows m 1+Yw rows m 2
 | [],_,_,_,_=>Nat.zero_le _
 | k::ks,m,fs,hs,hz=>by
  obtain ⟨hh,he⟩:=Xg hz
  rw [he] at hz
  have ih:=LG hp ks _ _ (ZV hp hs hh) hz
  obtain ⟨h0,h2,hd,hc⟩:=ZX hh
  obtain ⟨q,rfl⟩:∃ q:Nat,k=q:=⟨k.toNat,by omega⟩
  rw [Int.toNat_natCast] at hd
  obtain ⟨r1,r2⟩:=Uc hp hs (show q<3 by omega) hd
  have hq:q=0∨q=1∨q=2:=by omega
  simp only [List.length_cons]
  rcases hq with rfl | rfl | rfl
  ·have a:=r2 1 (by omega);have b:=r2 2 (by omega);omega
  ·have a:=r2 0 (by omega);have b:=r2 2 (by omega);omega
  have a:=r2 0 (by omega);have b:=r2 1 (by omega);omega
theorem M3 {rows:List (List I3)} (hp:Zn rows=true) (h0:(Yn rows 0).length≤3) (h1:(Yn rows 1).length≤3) (h2:(Yn rows 2).length≤2):(Yd rows).length≤1749:=by
 have hz:∀ k,Yw rows Zl k≤(Yn rows k).length:=fun k=>by unfold Yw;omega
 have hl:=Pg hp 8 Zl ZH
 have hm:=XA 8 _ _ _ 3 3 2 (Nat.le_trans (hz 0) h0) (Nat.le_trans (hz 1) h1) (Nat.le_trans (hz 2) h2)
 rw [Jr] at hm
 have hn:=RT ((Yd rows).map (·.1)) (WR rows 8 Zl) (Nm rows) (fun x hx=>by
  obtain ⟨r,hr,rfl⟩:=List.mem_map.1 hx
  obtain ⟨j,hj,hje⟩:=List.getElem_of_mem hr
  obtain ⟨p1,p2,p3⟩:=NY (Mz rows) (VB rows) j j r (Nat.le_refl _) (by rw [List.getElem?_eq_getElem hj,hje])
  have hlen:=LG hp _ Zl [] ZH p2
  have a:=hz 0
  have b:=hz 1
  have c:=hz 2
  have:=Mn 8 _ Zl [] (show (V7 (Yd rows) j j).length≤8 by omega) p2
  rw [p1] at this
  exact this)
 rw [List.length_map] at hn
 omega


def T0 (n:Nat):Nat:=Nat.min n 1000000
def SP (rows:List (List I3)):Nat→V4→Nat
 | 0,_=>1
 | f+1,m=>if Zj rows m 3=[] then 1 else T0 ((Zj rows m 3).map fun k=>SP rows f (goM rows m k).1).sum
def YC (rows:List (List I3)) (m:V4):Nat:=Yw rows m 0+Yw rows m 1+Yw rows m 2
def Z7 (rows:List (List I3)) (m:V4):Nat:=SP rows (YC rows m) m
theorem YX {rows:List (List I3)} {m:V4} (hp:Zn rows=true) (hs:Zk m=true) {k:Int} (h:Zv rows m k=0):YC rows (goM rows m k).1+1≤YC rows m:=by
 obtain ⟨h0,h2,hd,hc⟩:=ZX h
 obtain ⟨q,rfl⟩:∃ q:Nat,k=q:=⟨k.toNat,by omega⟩
 rw [Int.toNat_natCast] at hd
 obtain ⟨r1,r2⟩:=Uc hp hs (show q<3 by omega) hd
 unfold YC
 have hq:q=0∨q=1∨q=2:=by omega
 rcases hq with rfl | rfl | rfl
 ·have a:=r2 1 (by omega);have b:=r2 2 (by omega);omega
 ·have a:=r2 0 (by omega);have b:=r2 2 (by omega);omega
 have a:=r2 0 (by omega);have b:=r2 1 (by omega);omega
theorem Ya {rows:List (List I3)} {m:V4} {k:Int} (h:k ∈ Zj rows m 3):Zv rows m k=0:=(PQ (t:=(k,(goM rows m k).1)) (List.mem_map.2 ⟨k,h,rfl⟩)).1
theorem QC {rows:List (List I3)} {m:V4} (hp:Zn rows=true) (hs:Zk m=true) (h:YC rows m=0):Zj rows m 3=[]:=by
 rw [List.eq_nil_iff_forall_not_mem]
 intro k hk
 have:=YX hp hs (Ya hk)
 omega
theorem Qx {rows:List (List I3)} (hp:Zn rows=true):∀ (f:Nat) (m:V4),Zk m=true→YC rows m≤f→SP rows (f+1) m=SP rows f m
 | 0,m,hs,h=>by
  show (if Zj rows m 3=[] then 1 else _)=1
  rw [if_pos (QC hp hs (by omega))]
 | f+1,m,hs,h=>by
  show (if Zj rows m 3=[] then 1 else T0 ((Zj rows m 3).map fun k=>SP rows (f+1) (goM rows m k).1).sum)=(if Zj rows m 3=[] then 1 else T0 ((Zj rows m 3).map fun k=>SP rows f (goM rows m k).1).sum)
  have e:((Zj rows m 3).map fun k=>SP rows (f+1) (goM rows m k).1)=((Zj rows m 3).map fun k=>SP rows f (goM rows m k).1):=by
   refine List.map_congr_left (fun k hk=>?_)
   have hz:=Ya hk
   exact Qx hp f _ (ZV hp hs hz) (by have:=YX hp hs hz;omega)
  rw [e]
theorem Rr {rows:List (List I3)} (hp:Zn rows=true) {m:V4} (hs:Zk m=true):∀ (d:Nat),SP rows (YC rows m+d) m=Z7 rows m
 | 0=>rfl
 | d+1=>by
  rw [← Nat.add_assoc,Qx hp _ m hs (by omega)]
  exact Rr hp hs d
theorem Rs {rows:List (List I3)} (hp:Zn rows=true) {m:V4} (hs:Zk m=true):Z7 rows m=if Zj rows m 3=[] then 1 else T0 ((Zj rows m 3).map fun k=>Z7 rows (goM rows m k).1).sum:=by
 have h1:Z7 rows m=SP rows (YC rows m+1) m:=(Rr hp hs 1).symm
 rw [h1]
 show (if Zj rows m 3=[] then 1 else T0 ((Zj rows m 3).map fun k=>SP rows (YC rows m) (goM rows m k).1).sum)=_
 have e:((Zj rows m 3).map fun k=>SP rows (YC rows m) (goM rows m k).1)=((Zj rows m 3).map fun k=>Z7 rows (goM rows m k).1):=by
  refine List.map_congr_left (fun k hk=>?_)
  have hz:=Ya hk
  have hl:=YX hp hs hz
  obtain ⟨d,hd⟩:∃ d,YC rows m=YC rows (goM rows m k).1+d:=⟨YC rows m - YC rows (goM rows m k).1,by omega⟩
  rw [hd]
  exact Rr hp (ZV hp hs hz) d
 rw [e]
theorem Pp (n:Nat):T0 n≤1000000:=Nat.min_le_right _ _
theorem Tn (n:Nat):T0 n=min n 1000000:=rfl
theorem WE {rows:List (List I3)} (hp:Zn rows=true):∀ (f:Nat) (m:V4),Zk m=true→YC rows m≤f→1≤Z7 rows m∧Z7 rows m≤1000000
 | 0,m,hs,h=>by
  rw [Rs hp hs,if_pos (QC hp hs (by omega))]
  omega
 | f+1,m,hs,h=>by
  rw [Rs hp hs]
  by_cases he:Zj rows m 3=[]
  ·rw [if_pos he];omega
  rw [if_neg he]
  refine ⟨?_,Pp _⟩
  cases hx:Zj rows m 3 with
  | nil=>exact absurd hx he
  | cons k ks =>
   have hk:k ∈ Zj rows m 3:=by rw [hx];simp
   have hz:=Ya hk
   have:=(WE hp f _ (ZV hp hs hz) (by have:=YX hp hs hz;omega)).1
   rw [List.map_cons,List.sum_cons,Tn]
   omega
theorem P6 (F:Int→Nat):∀ (ks:List Int) (s:Nat),s≤1000000→ks.foldl (fun s k=>T0 (s+F k)) s=T0 (s+(ks.map F).sum)
 | [],s,h=>by simp [Tn];omega
 | k::ks,s,h=>by
  rw [List.foldl_cons,P6 F ks _ (Pp _),List.map_cons,List.sum_cons]
  simp only [Tn]
  omega
def Si (m:V4):Int:=m.1.getD 0 0+m.1.getD 1 0+m.1.getD 2 0
theorem HU {rows:List (List I3)} {m:V4} (hp:Zn rows=true) (hs:Zk m=true) {k:Int} (h:Zv rows m k=0):Si m<Si (goM rows m k).1:=by
 obtain ⟨h0,h2,hd,hc⟩:=ZX h
 obtain ⟨q,rfl⟩:∃ q:Nat,k=q:=⟨k.toNat,by omega⟩
 rw [Int.toNat_natCast] at hd
 have h1:=Pb hp hs (show q<3 by omega) hd
 have ho:=fun j (hj:j≠q)=>XH m (Yq rows m q) hj
 rw [WH]
 unfold Si
 have hq:q=0∨q=1∨q=2:=by omega
 rcases hq with rfl | rfl | rfl
 ·have a:=ho 1 (by omega);have b:=ho 2 (by omega);omega
 ·have a:=ho 0 (by omega);have b:=ho 2 (by omega);omega
 have a:=ho 0 (by omega);have b:=ho 1 (by omega);omega
theorem U9 {m:V4} (hs:Zk m=true):0≤Si m∧Si m≤18:=by
 have hb:=(Yi hs).1
 have a:=Xn hb (by omega) 0
 have b:=Xn hb (by omega) 1
 have c:=Xn hb (by omega) 2
 unfold Si
 omega


theorem Uk (x y:I4):Z9 x y=Z9 y x:=by
 unfold Z9
 by_cases h1:x.1=y.1
 ·simp [h1]
 have h1':¬ y.1=x.1:=fun e=>h1 e.symm
 by_cases h2:x.2.2.2=y.2.2.2
 ·simp only [h1,h1',h2,decide_false,Bool.false_or,decide_true,Bool.and_true]
  rw [Bool.and_comm (decide (x.2.2.1=1))]
 have h2':¬ y.2.2.2=x.2.2.2:=fun e=>h2 e.symm
 simp [h1,h1',h2,h2']
theorem VS {x y:I4} (h:x.1=y.1):Z9 x y=true:=by unfold Z9;simp [h]
def L3 (es:List I4) (e:I4) (rest:List I4):Prop:=∃ a b,es=a++e::b∧rest=a++b∧∀ x ∈ a,Z9 x e=false
def L4 (es:List I4) (e:I4) (rest:List I4):Prop:=L3 es e rest∧∀ e' rest',L3 es e' rest'→e.1≤e'.1
inductive Nrm:List I4→List Int→Prop
 | nil:Nrm [] []
 | cons {es rest:List I4} {e:I4} {ts:List Int}:L4 es e rest→Nrm rest ts→Nrm es (e.1::ts)
def Sw1 (es es':List I4):Prop:=∃ a x y b,es=a++x::y::b∧es'=a++y::x::b∧Z9 x y=false
inductive Sw:List I4→List I4→Prop
 | refl (es:List I4):Sw es es
 | step {es es' es'':List I4}:Sw es es'→Sw1 es' es''→Sw es es''
theorem Sw1.symm {es es':List I4} (h:Sw1 es es'):Sw1 es' es:=by
 obtain ⟨a,x,y,b,h1,h2,h3⟩:=h
 exact ⟨a,y,x,b,h2,h1,by rw [Uk];exact h3⟩
theorem Sw.trans {a b c:List I4} (h:Sw a b) (g:Sw b c):Sw a c:=by
 induction g with
 | refl=>exact h
 | step _ s ih=>exact .step ih s
theorem Sw1.cons {es es':List I4} (e:I4) (h:Sw1 es es'):Sw1 (e::es) (e::es'):=by
 obtain ⟨a,x,y,b,h1,h2,h3⟩:=h
 exact ⟨e::a,x,y,b,by rw [h1];rfl,by rw [h2];rfl,h3⟩
theorem Sw.cons {es es':List I4} (e:I4) (h:Sw es es'):Sw (e::es) (e::es'):=by
 induction h with
 | refl=>exact .refl _
 | step _ s ih=>exact .step ih (s.cons e)
theorem NX {a b c d:List I4} {e f:I4} (h:a++e::b=c++f::d):(a=c∧e=f∧b=d)∨(∃ m,c=a++e::m∧b=m++f::d)∨(∃ m,a=c++f::m∧d=m++e::b):=by
 rcases List.append_eq_append_iff.1 h with ⟨m,h1,h2⟩ | ⟨m,h1,h2⟩
 ·cases m with
  | nil =>
   simp at h1 h2
   exact .inl ⟨h1.symm,h2.1,h2.2⟩
  | cons g m =>
   simp at h2
   exact .inr (.inl ⟨m,by rw [h1,← h2.1],h2.2⟩)
 cases m with
 | nil =>
  simp at h1 h2
  exact .inl ⟨h1,h2.1.symm,h2.2.symm⟩
 | cons g m =>
  simp at h2
  exact .inr (.inr ⟨m,by rw [h1,← h2.1],h2.2⟩)
theorem JX {es rest rest':List I4} {e e':I4} (h:L3 es e rest) (h':L3 es e' rest') (ht:e.1=e'.1):e=e'∧rest=rest':=by
 obtain ⟨a,b,h1,h2,h3⟩:=h
 obtain ⟨c,d,g1,g2,g3⟩:=h'
 rcases NX (h1.symm.trans g1) with ⟨r1,r2,r3⟩ | ⟨m,r1,r2⟩ | ⟨m,r1,r2⟩
 ·exact ⟨r2,by rw [h2,g2,r1,r3]⟩
 ·have:=g3 e (by rw [r1];simp)
  rw [VS ht] at this
  cases this
 have:=h3 e' (by rw [r1];simp)
 rw [VS ht.symm] at this
 cases this
theorem H0 {es rest rest':List I4} {e e':I4} (h:L4 es e rest) (h':L4 es e' rest'):e=e'∧rest=rest':=by
 have h1:=h.2 _ _ h'.1
 have h2:=h'.2 _ _ h.1
 exact JX h.1 h'.1 (by omega)
theorem G4 {es:List I4} {ts ts':List Int} (h:Nrm es ts) (h':Nrm es ts'):ts=ts':=by
 induction h generalizing ts' with
 | nil =>
  cases h' with
  | nil=>rfl
  | cons p _=>obtain ⟨⟨a,b,h1,_⟩,_⟩:=p;simp at h1
 | cons p n ih =>
  cases h' with
  | nil=>obtain ⟨⟨a,b,h1,_⟩,_⟩:=p;simp at h1
  | cons p' n' =>
   obtain ⟨rfl,rfl⟩:=H0 p p'
   rw [ih n']
theorem Li {es es' rest:List I4} {e:I4} (h:L3 es e rest) (s:Sw1 es es'):∃ rest',L3 es' e rest'∧(rest=rest'∨Sw1 rest rest'):=by
 obtain ⟨a,b,h1,h2,h3⟩:=h
 obtain ⟨p,x,y,q,s1,s2,s3⟩:=s
 rcases NX (h1.symm.trans s1) with ⟨r1,r2,r3⟩ | ⟨m,r1,r2⟩ | ⟨m,r1,r2⟩
 ·-- e is x
  subst r1 r2 r3
  refine ⟨a++y::q,⟨a++[y],q,by rw [s2];simp,by simp,?_⟩,.inl h2⟩
  intro z hz
  simp at hz
  rcases hz with hz | hz
  ·exact h3 z hz
  subst hz;rw [Uk];exact s3
 ·-- e before x
  refine ⟨a++(m++y::x::q),⟨a,m++y::x::q,by rw [s2,r1];simp,rfl,h3⟩,.inr ⟨a++m,x,y,q,by rw [h2,r2];simp,by simp,s3⟩⟩
 -- e behind x
 cases m with
 | nil =>
  simp at r2
  obtain ⟨r2,r4⟩:=r2
  subst r2 r4
  refine ⟨p++x::q,⟨p,x::q,s2,rfl,fun z hz=>h3 z (by rw [r1];simp [hz])⟩,.inl (by rw [h2,r1];simp)⟩
 | cons g m =>
  simp at r2
  obtain ⟨r2,r4⟩:=r2
  subst r2
  refine ⟨p++y::x::(m++b),⟨p++y::x::m,b,by rw [s2,r4];simp,by simp,?_⟩,.inr ⟨p,x,y,m++b,by rw [h2,r1];simp,rfl,s3⟩⟩
  intro z hz
  refine h3 z ?_
  rw [r1]
  simp at hz ⊢
  rcases hz with hz | hz | hz | hz
  ·exact .inl hz
  ·exact .inr (.inr (.inl hz))
  ·exact .inr (.inl hz)
  exact .inr (.inr (.inr hz))
theorem Ff {es es' rest:List I4} {e:I4} (h:L4 es e rest) (s:Sw1 es es'):∃ rest',L4 es' e rest'∧(rest=rest'∨Sw1 rest rest'):=by
 obtain ⟨rest',f,r⟩:=Li h.1 s
 refine ⟨rest',⟨f,fun e' rest'' f'=>?_⟩,r⟩
 obtain ⟨r3,f3,_⟩:=Li f' s.symm
 exact h.2 _ _ f3
theorem G5 {es:List I4} {ts:List Int} (h:Nrm es ts):∀ {es':List I4},Sw1 es es'→Nrm es' ts:=by
 induction h with
 | nil =>
  intro es' s
  obtain ⟨a,x,y,b,h1,_⟩:=s
  simp at h1
 | cons p n ih =>
  intro es' s
  obtain ⟨rest',p',r⟩:=Ff p s
  rcases r with rfl | r
  ·exact .cons p' n
  exact .cons p' (ih r)
theorem FP {es es':List I4} {ts:List Int} (h:Nrm es ts) (s:Sw es es'):Nrm es' ts:=by
 induction s with
 | refl=>exact h
 | step _ s ih=>exact G5 ih s


def YM (rows:List (List I3)) (m:V4) (Z:List Int) (k:Int):List Int:=Z.filter fun j=>!Z9 (Zz rows m k.toNat) (Zz rows m j.toNat)
abbrev St7:=List I3 × Nat × Nat
def XJ (rows:List (List I3)) (m:V4) (rec:V4→List Int→St7→St7):List Int→List Int→St7→St7
 | [],_,st=>st
 | k::ks,Z,st=>if k ∈ Z then XJ rows m rec ks Z st else XJ rows m rec ks (Z++[k]) (rec (goM rows m k).1 (YM rows m Z k) (st.1++Yr rows m k,st.2))
def UC (rows:List (List I3)) (m:V4) (st:St7):St7:=(st.1++XS rows m,st.2.1+(if Zj rows m 3=[] then 1 else 0),st.2.2+1)
def Xu (rows:List (List I3)):Nat→V4→List Int→St7→St7
 | 0,_,_,st=>st
 | f+1,m,Z,st=>if 5000<st.2.2+1 then (st.1,st.2.1,st.2.2+1) else XJ rows m (Xu rows f) (Zj rows m 3) Z (UC rows m st)
theorem WB {rows:List (List I3)} {m:V4} {rec:V4→List Int→St7→St7} {k:Int} {ks Z:List Int} {st:St7} (h:k ∈ Z):XJ rows m rec (k::ks) Z st=XJ rows m rec ks Z st:=by
 rw [XJ,if_pos h]
theorem Ux {rows:List (List I3)} {m:V4} {rec:V4→List Int→St7→St7} {k:Int} {ks Z:List Int} {st:St7} (h:k ∉ Z):XJ rows m rec (k::ks) Z st=XJ rows m rec ks (Z++[k]) (rec (goM rows m k).1 (YM rows m Z k) (st.1++Yr rows m k,st.2)):=by
 rw [XJ,if_neg h]
theorem Uy {rows:List (List I3)} {m:V4} {rec:V4→List Int→St7→St7} (hr:∀ m Z st,st.2.2≤(rec m Z st).2.2):∀ (ks Z:List Int) (st:St7),st.2.2≤(XJ rows m rec ks Z st).2.2
 | [],_,st=>Nat.le_refl _
 | k::ks,Z,st=>by
  by_cases h:k ∈ Z
  ·rw [WB h];exact Uy hr ks Z st
  rw [Ux h]
  exact Nat.le_trans (hr _ _ (st.1++Yr rows m k,st.2)) (Uy hr ks _ _)
theorem Ph (rows:List (List I3)):∀ (f:Nat) (m:V4) (Z:List Int) (st:St7),st.2.2≤(Xu rows f m Z st).2.2
 | 0,_,_,_=>Nat.le_refl _
 | f+1,m,Z,st=>by
  rw [Xu]
  split
  ·exact Nat.le_succ _
  exact Nat.le_trans (Nat.le_succ _) (Uy (Ph rows f) _ _ (UC rows m st))

theorem Ni (rows:List (List I3)) (m:V4):(Zj rows m 3).length≤3:=by
 have h:∀ n,(Zj rows m n).length≤n:=fun n=>by
  induction n with
  | zero=>exact Nat.le_refl _
  | succ n ih =>
   rw [Zj]
   split
   ·rw [List.length_append];simp;omega
   omega
 exact h 3
def XU:Nat→Nat
 | 0=>0
 | f+1=>1+3*XU f
theorem Sk {rows:List (List I3)} {m:V4} {rec:V4→List Int→St7→St7} {T:Nat} (hr:∀ m Z st,(rec m Z st).2.2≤st.2.2+T):∀ (ks Z:List Int) (st:St7),(XJ rows m rec ks Z st).2.2≤st.2.2+ks.length*T
 | [],_,st=>by simp [XJ]
 | k::ks,Z,st=>by
  have e:(ks.length+1)*T=ks.length*T+T:=Nat.succ_mul _ _
  rw [List.length_cons,e]
  by_cases h:k ∈ Z
  ·rw [WB h]
   have:=Sk (rows:=rows) (m:=m) hr ks Z st
   omega
  rw [Ux h]
  have a:=hr (goM rows m k).1 (YM rows m Z k) (st.1++Yr rows m k,st.2)
  have b:=Sk (rows:=rows) (m:=m) hr ks (Z++[k]) (rec (goM rows m k).1 (YM rows m Z k) (st.1++Yr rows m k,st.2))
  simp only at a
  omega
theorem Sv (rows:List (List I3)):∀ (f:Nat) (m:V4) (Z:List Int) (st:St7),(Xu rows f m Z st).2.2≤st.2.2+XU f
 | 0,_,_,_=>Nat.le_refl _
 | f+1,m,Z,st=>by
  rw [Xu]
  split
  ·simp only [XU];omega
  have a:=Sk (rows:=rows) (m:=m) (Sv rows f) (Zj rows m 3) Z (UC rows m st)
  have b:=Ni rows m
  have c:(Zj rows m 3).length*XU f≤3*XU f:=Nat.mul_le_mul_right _ b
  have d:(UC rows m st).2.2=st.2.2+1:=rfl
  rw [d] at a
  simp only [XU]
  omega
theorem Lz (rows:List (List I3)) (m:V4) (k:Int):(Yr rows m k).length≤1:=by unfold Yr;split<;>simp
theorem JU (rows:List (List I3)) (m:V4):(XS rows m).length≤1:=by unfold XS;split<;>simp
theorem Sm {rows:List (List I3)} {m:V4} {rec:V4→List Int→St7→St7} (hr:∀ m Z st c,st.1.length+c≤4*st.2.2→st.2.1≤st.2.2→(rec m Z st).1.length+c≤4*(rec m Z st).2.2∧(rec m Z st).2.1≤(rec m Z st).2.2) :
  ∀ (ks Z:List Int) (st:St7) (c:Nat),st.1.length+ks.length+c≤4*st.2.2→st.2.1≤st.2.2→(XJ rows m rec ks Z st).1.length+c≤4*(XJ rows m rec ks Z st).2.2∧(XJ rows m rec ks Z st).2.1≤(XJ rows m rec ks Z st).2.2
 | [],_,st,c,h,h'=>⟨by simp only [XJ];simp at h;omega,h'⟩
 | k::ks,Z,st,c,h,h'=>by
  rw [List.length_cons] at h
  by_cases hk:k ∈ Z
  ·rw [WB hk]
   exact Sm hr ks Z st c (by omega) h'
  rw [Ux hk]
  have o:=Lz rows m k
  obtain ⟨a,b⟩:=hr (goM rows m k).1 (YM rows m Z k) (st.1++Yr rows m k,st.2) (ks.length+c) (by rw [List.length_append];simp only;omega) h'
  exact Sm hr ks _ _ c (by omega) b
theorem Sx (rows:List (List I3)):∀ (f:Nat) (m:V4) (Z:List Int) (st:St7) (c:Nat),st.1.length+c≤4*st.2.2→st.2.1≤st.2.2→(Xu rows f m Z st).1.length+c≤4*(Xu rows f m Z st).2.2∧(Xu rows f m Z st).2.1≤(Xu rows f m Z st).2.2
 | 0,_,_,st,c,h,h'=>⟨h,h'⟩
 | f+1,m,Z,st,c,h,h'=>by
  rw [Xu]
  split
  ·exact ⟨by simp only;omega,by simp only;omega⟩
  have b:=Ni rows m
  have d:=JU rows m
  refine Sm (Sx rows f) _ _ _ c ?_ ?_
  ·unfold UC;rw [List.length_append];simp only;omega
  unfold UC;simp only;split<;>omega

theorem S8 {rows:List (List I3)} (hp:Zn rows=true) (m:V4):YC rows m≤18:=by
 obtain ⟨h1,h2⟩:=Y9 hp
 have h:∀ k,(Yn rows k).length≤6:=fun k=>by
  unfold Yn
  rcases Nat.lt_or_ge k rows.length with hk | hk
  ·simp only [List.getD,List.getElem?_eq_getElem hk,Option.getD_some]
   exact (h2 _ (List.getElem_mem hk)).1
  simp [List.getD,List.getElem?_eq_none hk]
 unfold YC Yw
 have a:=h 0;have b:=h 1;have c:=h 2
 omega
def UD (rows:List (List I3)):St7:=Xu rows 19 Zl [] ([],0,0)


def GM (e:Ending) (w:World) (B:Nat) (ks:List Int):Prop:=∃ v,e=.returned v∧w.ownsRow B 3 1 v ks.length (ks.map (Value.int .i64))
def Sz (rows:List (List I3)) (m:V4) (Z:List Int):Prop:=∀ j ∈ Z,∃ q:Nat,j=q∧q<3∧Z1 rows m q=false

theorem GJ {w:World} {g bx ev:Nat} {cs:Sl × Sl × Sl} {rows:List (List I3)} {m:V4} (h:Yj w g cs rows m) (hp:Zn rows=true) (hs:Zk m=true) (cB:w.cell? ⟨bx,0,none⟩=some (.pointer (some ⟨g,0,none⟩))) (x0 x1 x2 x3:Int)
  (c0:w.cell? ⟨ev,0,none⟩=some (.int .i64 x0)) (c1:w.cell? ⟨ev,1,none⟩=some (.int .i64 x1)) (c2:w.cell? ⟨ev,2,none⟩=some (.int .i64 x2)) (c3:w.cell? ⟨ev,3,none⟩=some (.int .i64 x3)) {j:Nat} (hj:j<3) (hd:Z1 rows m j=false) :
  Calls Tryz.prog 88 #[.int .i64 j,.pointer (some ⟨bx,0,none⟩),.pointer (some ⟨ev,0,none⟩)] w fun e w'=>e=.returned (.bool (Z9 (Zz rows m j) (x0,x1,x2,x3)))∧Below w.heap.size w w':=by
 have kE:=fun (W:World) (b:Below w.heap.size w W)=>Rx (h.below b) hp hs hj hd
 generalize Zz rows m j=y at *
 obtain ⟨y0,y1,y2,y3⟩:=y
 have kD:=fun (W:World)=>VV (y0,y1,y2,y3) (x0,x1,x2,x3) W
 unfold I4.val at kD
 simp only at kD kE
 have bd:Below w.heap.size w w.drew:=by go_grown
 clear h
 go_enter Tryz.func88,Tryz.ntmps88
 go_wp2_with fail
 refine wp_region_held_drew (S:=(fun w'=>w'.cell? ⟨bx,0,none⟩=some (.pointer (some ⟨g,0,none⟩))∧w'.cell? ⟨ev,0,none⟩=some (.int .i64 x0)∧w'.cell? ⟨ev,1,none⟩=some (.int .i64 x1)∧w'.cell? ⟨ev,2,none⟩=some (.int .i64 x2)∧w'.cell? ⟨ev,3,none⟩=some (.int .i64 x3))) (by kernel_rfl) ⟨cB,c0,c1,c2,c3⟩ (fun hS0=>?_)
 refine tkm 0 5 (.pointer (some ⟨g,0,none⟩)) ?_
 refine tkm 1 6 (.int .i64 (j:Int)) ?_
 refine tkm 3 8 (.agg #[.int .i64 x0,.int .i64 x1,.int .i64 x2,.int .i64 x3]) ?_
 refine tkr 2 7 (fun K hK=>?_)
 go_simp
 refine (kE _ bd).mono ?_
 rintro e w1 ⟨rfl,hb1⟩
 go_wp2_with fail
 refine hK.out _ _ ?_ (fun hS1=>?_)
 ·exact ⟨Za hb1 _ _ hS0.1,Za hb1 _ _ hS0.2.1,Za hb1 _ _ hS0.2.2.1,Za hb1 _ _ hS0.2.2.2.1,Za hb1 _ _ hS0.2.2.2.2⟩
 clear hK
 refine tkr 4 9 (fun K hK=>?_)
 go_simp
 refine (kD _).mono ?_
 rintro e w2 ⟨rfl,hb2⟩
 go_wp2_with fail
 refine hK.out _ _ ?_ (fun hS2=>?_)
 ·exact ⟨Za hb2 _ _ hS1.1,Za hb2 _ _ hS1.2.1,Za hb2 _ _ hS1.2.2.1,Za hb2 _ _ hS1.2.2.2.1,Za hb2 _ _ hS1.2.2.2.2⟩
 clear hK
 refine tkm 5 4 (.bool (Z9 (y0,y1,y2,y3) (x0,x1,x2,x3))) ?_
 refine wpAnyH_done (by kernel_rfl) ?_ _
 go_wp2
 go_ret
 exact ⟨rfl,Zb bd (Zb hb1 hb2)⟩

theorem Qg {w:World} {g:Nat} {cs:Sl × Sl × Sl} {rows:List (List I3)} {m:V4} (h:Yj w g cs rows m) (hp:Zn rows=true) (hs:Zk m=true) {k:Nat} (hk:k<3) (hd:Z1 rows m k=false) (la:Option Addr) (n c:Nat) (Z:List Int) (hL:YS .i64 w la n c Z) (hn:n≤4096) (hZ:Sz rows m Z) :
  Calls Tryz.prog 40 #[.pointer (some ⟨g,0,none⟩),.slice la n c,.int .i64 k] w fun e w'=>GM e w' w.heap.size (YM rows m Z k)∧Below w.heap.size w w':=by
 obtain ⟨i1,hi,hz3,hz4,hz5⟩:=info_parts Xc
 have hll:=hL.1
 have eS:YM rows m Z (k:Int)=Z.filter (fun z=>!(fun j:Int=>Z9 (Zz rows m j.toNat) (Zz rows m k)) z):=by
  unfold YM
  rw [Int.toNat_natCast]
  congr 1
  funext j
  rw [Uk]
 rw [eS]
 clear eS
 have kE:=fun (W:World) (b:Below w.heap.size w W)=>Rx (h.below b) hp hs hk hd
 have kW:=fun (W:World) (b:Below w.heap.size w W) (bx ev:Nat) cB x0 x1 x2 x3 c0 c1 c2 c3 (q:Nat) (hq:q<3) hdq=>GJ (bx:=bx) (ev:=ev) (h.below b) hp hs cB x0 x1 x2 x3 c0 c1 c2 c3 (j:=q) hq hdq
 have hM:=h.1.lt
 clear h hd hp
 generalize Zz rows m k=y at *
 obtain ⟨y0,y1,y2,y3⟩:=y
 simp only at kE
 have pB:=Blk.new w 131 [.pointer (some ⟨g,0,none⟩)]
 have bw:Below w.heap.size w (w.alloc (.cells #[.pointer (some ⟨g,0,none⟩)] 131)):=by go_grown
 have hsz:(w.alloc (.cells #[.pointer (some ⟨g,0,none⟩)] 131)).heap.size=w.heap.size+1:=by simp
 replace hL:=hL.below bw
 go_enter Tryz.func40,Tryz.ntmps40
 go_wp2_with (at_make;refine wpList_make_full _ rfl _ _ 72 rfl w.heap.size 3 i1 (.int .i64 0) 1 Tryz.underlying72 hi hz3 hz4 _ _ _ _ n rfl rfl rfl rfl ?b2 ?b3 ?b4 ?_)
 case b2=>first | omega | (rw [hz5];omega)
 case b3=>unfold maxLen;omega
 case b4=>simp
 intro W1 hown hgrow
 generalize (w.alloc (.cells #[.pointer (some ⟨g,0,none⟩)] 131))=W0 at *
 obtain ⟨g1,hg1⟩:∃ g1,g1=w.heap.size+1:=⟨_,rfl⟩
 rw [← hg1] at hown hsz ⊢
 have hg1w:W0.heap.size≤g1:=by omega
 obtain ⟨bx,hbx⟩:∃ bx,bx=w.heap.size:=⟨_,rfl⟩
 have hbw:w.heap.size≤bx:=by omega
 rw [← hbx] at pB
 have b1:Below W0.heap.size W0 W1:=⟨hgrow.os,hgrow.tape,hgrow.output,hgrow.size,fun k hk=>hgrow.block k hk (by simp)⟩
 replace hL:=hL.below b1
 clear hgrow
 have hne:bx≠g1:=by omega
 have hbg:w.heap.size≤g1:=by omega
 try rw [← hbx]
 clear hbx hsz hg1
 have HO:Hid (∃ cur:List Value,cur.length=n∧W1.heap[g1]?=some (.cells cur.toArray 3 (0,0))∧∀ (W:World) (cs:List Value),cs.length=n→W.heap[g1]?=some (.cells cs.toArray 3 (0,0))→W.ownsRow w.heap.size 3 1 (.slice (some ⟨g1,0,none⟩) n n) n cs):=by
  rcases hown.2 with ⟨hv,_⟩ | ⟨g',cap',cur,hv,hB,hg,hn9,hc9,hsz9,ht9⟩
  ·cases hv
  cases hv
  refine ⟨cur.toList,by simpa using hsz9,by simpa using hg,fun W cs hcs hW=>⟨by omega,.inr ⟨g1,n,cs.toArray,rfl,hbg,hW,Nat.le_refl _,hc9,by simp [hcs],?_⟩⟩⟩
  simp [hcs]
  exact List.take_of_length_le (by omega)
 clear hown
 obtain ⟨cur,hcl,hcur,HOW⟩:=HO.out
 have HOW:Hid _:=HOW
 clear HO
 have hcs1:(Z.map (Value.int .i64)).length=Nat.min n n:=by rw [List.length_map,hll];exact (Nat.min_self n).symm
 have HP:Hid (0<(Z.map (Value.int .i64)).length→(some (⟨g1,0,none⟩:Addr))=some ⟨g1,0,none⟩∧∃ ad,la=some ad∧∀ j v,(Z.map (Value.int .i64))[j]?=some v→W1.cell? (ad.add j)=some v):=by
  intro hpos
  rw [List.length_map] at hpos
  obtain ⟨_,_,_,hcase⟩:=hL
  rcases hcase with e0 | ⟨b,off,rfl,hb,hc⟩
  ·omega
  refine ⟨rfl,_,rfl,fun j v hj=>?_⟩
  rw [List.getElem?_map] at hj
  obtain ⟨z,hz,rfl⟩:=Option.map_eq_some_iff.1 hj
  have hjl:=(List.getElem?_eq_some_iff.1 hz).1
  have h9:=hc j (by omega)
  rw [List.getD,hz,Option.getD_some] at h9
  by_cases e0:j=0
  ·subst e0;simpa [Addr.add] using h9
  simpa [Addr.add,e0] using h9
 go_wp2_with (refine wpList_copy_splice rfl _ _ 72 72 rfl 3 Tryz.underlying72 (by kernel_rfl) _ _ _ _ _ _ rfl rfl g1 0 cur 3 hcur (Z.map (Value.int .i64)) hcs1 HP.out (by rw [List.length_map];omega) (fun v hv=>by obtain ⟨z,_,rfl⟩:=List.mem_map.1 hv;rfl) W0.heap.size W0 b1 hg1w ?_)
 intro W2 HC b2
 have hC:=HC.out
 have hsp:splice cur 0 (Z.map (Value.int .i64))=Z.map (Value.int .i64):=by
  unfold splice
  rw [List.drop_of_length_le (by rw [List.length_map];omega)]
  simp
 rw [hsp] at hC
 have Q:=HOW.out W2 _ (by rw [List.length_map];exact hll) hC
 replace bw:=Zb bw b2
 replace pB:=pB.below b2
 clear HC hC hsp hcur hcl HOW cur b1 b2 hL hcs1
 have cB:W2.cell? ⟨bx,0,none⟩=some (.pointer (some ⟨g,0,none⟩)):=by simpa using pB.cell 0
 have kEx:=kE W2 bw
 clear kE
 go_wp2_with fail
 refine kEx.mono ?_
 rintro e W3 ⟨rfl,hb3⟩
 replace bw:=Zb bw hb3
 replace pB:=pB.below hb3
 have Q3:=Ze Q hb3
 clear cB kEx Q hb3
 have b4:Below W3.heap.size W3 (W3.alloc (.cells #[.int .i64 0,.int .i64 0,.int .i64 0,.int .i64 0] 135)):=by go_grown
 have pE:=Blk.new W3 135 [.int .i64 0,.int .i64 0,.int .i64 0,.int .i64 0]
 have hb9:=pB.lt
 have hg9:=(Q3.lt g1 rfl).2
 obtain ⟨ev,hev⟩:∃ ev,ev=W3.heap.size:=⟨_,rfl⟩
 rw [← hev] at pE hb9 hg9
 have hwe:w.heap.size≤ev:=by rw [hev];exact bw.size
 have HV:Hid (ev=W3.heap.size):=hev
 clear hev
 go_wp2_with (rw [← HV.out];refine Zd rfl 135 _ _ rfl ev [.int .i64 y0,.int .i64 y1,.int .i64 y2,.int .i64 y3] rfl rfl pE (by kernel_rfl) rfl rfl ?_)
 intro W4 pE4 g4
 have Q4:=(Ze Q3 b4).kept g4 (.inr (by simp [Value.ownBlock];omega))
 have pB4:=(pB.below b4).kept g4 (by simp;omega)
 have bw4:=(Zb bw b4).grown g4 (Nat.le_trans bw.size b4.size) (fun x hx=>by cases hx;exact hwe)
 have pE5:=pE4.out
 clear pE g4 b4 Q3 pB bw pE4
 have eg:∀ args w,(callFunc 88 args).run Tryz.prog w=.ok (.enter 88 args) w:=enters_of Tryz.func88 (by kernel_rfl) rfl
 have hA:Ju 88 #[.pointer (some ⟨bx,0,none⟩),.pointer (some ⟨ev,0,none⟩)] (fun j:Int=>Z9 (Zz rows m j.toNat) (y0,y1,y2,y3)) W4 g1 Z:=fun W gW j hj=>by
  obtain ⟨q,rfl,hq3,hqd⟩:=hZ j hj
  have bW:=bw4.grown gW bw4.size (fun x hx=>by cases hx;exact hbg)
  have pBW:=pB4.kept gW (by simp;omega)
  have pEW:=pE5.kept gW (by simp;omega)
  simp only [Int.toNat_natCast]
  exact kW W bW bx ev (by simpa using pBW.cell 0) y0 y1 y2 y3 (by simpa using pEW.cell 0) (by simpa using pEW.cell 1) (by simpa using pEW.cell 2) (by simpa using pEW.cell 3) q hq3 hqd
 obtain ⟨R,hR⟩:∃ R,R=Z.filter (fun z=>!Z9 (Zz rows m z.toNat) (y0,y1,y2,y3)):=⟨_,rfl⟩
 have kD:Calls Tryz.prog 90 #[.slice (some ⟨g1,0,none⟩) n n,.func (.func 88) #[] #[.pointer (some ⟨bx,0,none⟩),.pointer (some ⟨ev,0,none⟩)]] W4 fun e w'=>Jx e W4 w' w.heap.size g1 n R:=by
  rw [hR]
  exact Qp 88 #[.pointer (some ⟨bx,0,none⟩),.pointer (some ⟨ev,0,none⟩)] (fun j:Int=>Z9 (Zz rows m j.toNat) (y0,y1,y2,y3)) eg w.heap.size g1 n n Z W4 Q4 hll (by omega) hA
 have HR:Hid (R=Z.filter (fun z=>!Z9 (Zz rows m z.toNat) (y0,y1,y2,y3))):=hR
 clear hA eg kW Q4 pB4 pE5 hZ hR
 go_wp2_with fail
 refine kD.mono ?_
 rintro e W5 ⟨rfl,Q5,g5⟩
 have bw5:=bw4.grown g5 bw4.size (fun x hx=>by cases hx;exact hbg)
 clear kD g5 bw4
 go_wp2
 go_ret
 exact ⟨⟨.slice (some ⟨g1,0,none⟩) R.length n,rfl,by rw [← HR.out];exact Q5⟩,bw5⟩


def Ap3 (v u:Value):Prop:=∀ g,v.ownBlock=some g→u.ownBlock≠some g
theorem Ap3.symm {v u:Value} (h:Ap3 v u):Ap3 u v:=fun g hg h2=>h g h2 hg
theorem Ap3.or {v u:Value} (h:Ap3 v u):v.ownBlock=none∨v.ownBlock≠u.ownBlock:=by
 cases e:v.ownBlock with
 | none=>exact .inl rfl
 | some g=>exact .inr fun e2=>h g e e2.symm
theorem Ap3.types {w:World} {B B' e e' s s' n n':Nat} {v v':Value} {xs xs':List Value} (h:w.ownsRow B e s v n xs) (h':w.ownsRow B' e' s' v' n' xs') (he:e≠e'):Ap3 v v':=fun g hg h2=>by
 rcases Yh h h' he with h3 | h3
 ·rw [h3] at hg;cases hg
 exact h3 (hg.trans h2.symm)
theorem ZM {w:World} {B e s n:Nat} {v:Value} {xs:List Value} (h:w.ownsRow B e s v n xs) {g:Nat} (hg:v.ownBlock=some g):B≤g∧g<w.heap.size:=by
 rcases h.2 with ⟨rfl,_⟩ | ⟨g',cap,cur,rfl,hb,hgg,_⟩
 ·simp [Value.ownBlock] at hg
 simp [Value.ownBlock] at hg
 subst hg
 refine ⟨hb,?_⟩
 rcases Nat.lt_or_ge g' w.heap.size with h1 | h1
 ·exact h1
 rw [Array.getElem?_eq_none h1] at hgg;cases hgg
theorem Ap3.fresh {w w':World} {B e e' s s' n n' B':Nat} {v v':Value} {xs xs':List Value} (h:w.ownsRow B e s v n xs) (h':w'.ownsRow B' e' s' v' n' xs') (hB:w.heap.size≤B'):Ap3 v v':=fun g hg h2=>by
 have h1:=(ZM h hg).2
 have h3:=(ZM h' h2).1
 omega
theorem Ap3.moved {w:World} {B e s n:Nat} {v u u':Value} {xs:List Value} (h:w.ownsRow B e s v n xs) (ha:Ap3 v u) (hu:u'.ownBlock=u.ownBlock∨u'.ownBlock=some w.heap.size):Ap3 v u':=fun g hg h2=>by
 rcases hu with hu | hu
 ·exact ha g hg (hu▸h2)
 have h1:=(ZM h hg).2
 rw [hu] at h2
 cases h2
 omega

structure Tri (w:World) (B:Nat) (v1 v2 v3:Value) (ts:List ByteArray) (fs bs:List Int):Prop where
 ks:w.ownsRow B 9 1 v1 ts.length (ts.map Value.string)
 fr:w.ownsRow B 3 1 v2 fs.length (fs.map (Value.int .i64))
 bw:w.ownsRow B 3 1 v3 bs.length (bs.map (Value.int .i64))
 ap:Ap3 v2 v3
theorem Tri.below {w w':World} {B:Nat} {v1 v2 v3:Value} {ts:List ByteArray} {fs bs:List Int} (h:Tri w B v1 v2 v3 ts fs bs) (hb:Below w.heap.size w w'):Tri w' B v1 v2 v3 ts fs bs:=
 ⟨Ze h.ks hb,Ze h.fr hb,Ze h.bw hb,h.ap⟩
theorem Tri.a12 {w:World} {B:Nat} {v1 v2 v3:Value} {ts:List ByteArray} {fs bs:List Int} (h:Tri w B v1 v2 v3 ts fs bs):Ap3 v1 v2:=Ap3.types h.ks h.fr (by decide)
theorem Tri.a13 {w:World} {B:Nat} {v1 v2 v3:Value} {ts:List ByteArray} {fs bs:List Int} (h:Tri w B v1 v2 v3 ts fs bs):Ap3 v1 v3:=Ap3.types h.ks h.bw (by decide)
theorem Tri.put1 {w w':World} {B:Nat} {v1 v2 v3 u:Value} {ts ts':List ByteArray} {fs bs:List Int} (h:Tri w B v1 v2 v3 ts fs bs) (hu:w'.ownsRow B 9 1 u ts'.length (ts'.map Value.string)) (hg:w.grownBy w' v1.ownBlock):Tri w' B u v2 v3 ts' fs bs:=
 ⟨hu,World.ownsRow.kept h.fr hg h.a12.symm.or,World.ownsRow.kept h.bw hg h.a13.symm.or,h.ap⟩
theorem Tri.put2 {w w':World} {B:Nat} {v1 v2 v3 u:Value} {ts:List ByteArray} {fs fs' bs:List Int} (h:Tri w B v1 v2 v3 ts fs bs) (hu:w'.ownsRow B 3 1 u fs'.length (fs'.map (Value.int .i64))) (hg:w.grownBy w' v2.ownBlock) (ha:u.ownBlock=v2.ownBlock∨u.ownBlock=some w.heap.size):Tri w' B v1 u v3 ts fs' bs:=
 ⟨World.ownsRow.kept h.ks hg h.a12.or,hu,World.ownsRow.kept h.bw hg h.ap.symm.or,(Ap3.moved h.bw h.ap.symm ha).symm⟩
theorem Tri.put3 {w w':World} {B:Nat} {v1 v2 v3 u:Value} {ts:List ByteArray} {fs bs bs':List Int} (h:Tri w B v1 v2 v3 ts fs bs) (hu:w'.ownsRow B 3 1 u bs'.length (bs'.map (Value.int .i64))) (hg:w.grownBy w' v3.ownBlock) (ha:u.ownBlock=v3.ownBlock∨u.ownBlock=some w.heap.size):Tri w' B v1 v2 u ts fs bs':=
 ⟨World.ownsRow.kept h.ks hg h.a13.or,World.ownsRow.kept h.fr hg h.ap.or,hu,Ap3.moved h.fr h.ap ha⟩

structure Wj (wi w:World) (v1 v2 v3 u1 u2 u3:Value):Prop where
 size:wi.heap.size≤w.heap.size
 keep:∀ k,k<wi.heap.size→v1.ownBlock≠some k→v2.ownBlock≠some k→v3.ownBlock≠some k→w.heap[k]?=wi.heap[k]?
 at1:u1.ownBlock=v1.ownBlock∨∃ g,wi.heap.size≤g∧u1.ownBlock=some g
 at2:u2.ownBlock=v2.ownBlock∨∃ g,wi.heap.size≤g∧u2.ownBlock=some g
 at3:u3.ownBlock=v3.ownBlock∨∃ g,wi.heap.size≤g∧u3.ownBlock=some g
theorem Wj.refl (w:World) (v1 v2 v3:Value):Wj w w v1 v2 v3 v1 v2 v3:=⟨Nat.le_refl _,fun _ _ _ _ _=>rfl,.inl rfl,.inl rfl,.inl rfl⟩
theorem Wj.below {wi w w':World} {v1 v2 v3 u1 u2 u3:Value} (h:Wj wi w v1 v2 v3 u1 u2 u3) (hb:Below w.heap.size w w'):Wj wi w' v1 v2 v3 u1 u2 u3:=
 ⟨Nat.le_trans h.size hb.size,fun k hk a b c=>(hb.block k (Nat.lt_of_lt_of_le hk h.size)).trans (h.keep k hk a b c),h.at1,h.at2,h.at3⟩
theorem MN {wi w:World} {u v u':Value} (h:u.ownBlock=v.ownBlock∨∃ g,wi.heap.size≤g∧u.ownBlock=some g) (hs:wi.heap.size≤w.heap.size) (ha:u'.ownBlock=u.ownBlock∨u'.ownBlock=some w.heap.size):u'.ownBlock=v.ownBlock∨∃ g,wi.heap.size≤g∧u'.ownBlock=some g:=by
 rcases ha with ha | ha
 ·rw [ha];exact h
 exact .inr ⟨_,hs,ha⟩
theorem Hb {wi:World} {u v:Value} (h:u.ownBlock=v.ownBlock∨∃ g,wi.heap.size≤g∧u.ownBlock=some g) {k:Nat} (hk:k<wi.heap.size) (hv:v.ownBlock≠some k):some k≠u.ownBlock:=by
 rcases h with h | ⟨g,hg,h⟩
 ·rw [h];exact fun e=>hv e.symm
 rw [h];intro e;cases e;omega
theorem Wj.put1 {wi w w':World} {v1 v2 v3 u1 u2 u3 u:Value} (h:Wj wi w v1 v2 v3 u1 u2 u3) (hg:w.grownBy w' u1.ownBlock) (ha:u.ownBlock=u1.ownBlock∨u.ownBlock=some w.heap.size):Wj wi w' v1 v2 v3 u u2 u3:=
 ⟨Nat.le_trans h.size hg.size,fun k hk a b c=>(hg.block k (Nat.lt_of_lt_of_le hk h.size) (Hb h.at1 hk a)).trans (h.keep k hk a b c),MN h.at1 h.size ha,h.at2,h.at3⟩
theorem Wj.put2 {wi w w':World} {v1 v2 v3 u1 u2 u3 u:Value} (h:Wj wi w v1 v2 v3 u1 u2 u3) (hg:w.grownBy w' u2.ownBlock) (ha:u.ownBlock=u2.ownBlock∨u.ownBlock=some w.heap.size):Wj wi w' v1 v2 v3 u1 u u3:=
 ⟨Nat.le_trans h.size hg.size,fun k hk a b c=>(hg.block k (Nat.lt_of_lt_of_le hk h.size) (Hb h.at2 hk b)).trans (h.keep k hk a b c),h.at1,MN h.at2 h.size ha,h.at3⟩
theorem Wj.put3 {wi w w':World} {v1 v2 v3 u1 u2 u3 u:Value} (h:Wj wi w v1 v2 v3 u1 u2 u3) (hg:w.grownBy w' u3.ownBlock) (ha:u.ownBlock=u3.ownBlock∨u.ownBlock=some w.heap.size):Wj wi w' v1 v2 v3 u1 u2 u:=
 ⟨Nat.le_trans h.size hg.size,fun k hk a b c=>(hg.block k (Nat.lt_of_lt_of_le hk h.size) (Hb h.at3 hk c)).trans (h.keep k hk a b c),h.at1,h.at2,MN h.at3 h.size ha⟩
theorem Wj.row {wi w:World} {v1 v2 v3 u1 u2 u3:Value} (h:Wj wi w v1 v2 v3 u1 u2 u3) {B e s n:Nat} {v:Value} {xs:List Value} (ho:wi.ownsRow B e s v n xs) (a1:Ap3 v v1) (a2:Ap3 v v2) (a3:Ap3 v v3):w.ownsRow B e s v n xs:=by
 have hlt:=fun g hg=>(ZM ho (g:=g) hg).2
 refine ⟨ho.1,?_⟩
 rcases ho.2 with hn | ⟨g,cap,cur,rfl,hb,hgg,rest⟩
 ·exact .inl hn
 exact .inr ⟨g,cap,cur,rfl,hb,(h.keep g (hlt g rfl) (a1 g rfl) (a2 g rfl) (a3 g rfl)).trans hgg,rest⟩

/-! The rows that go with the list of states. -/
def Zy (S:List (Zp V4)):List ByteArray:=S.map fun r=>Ye r.1
def YQ:List (Zp V4)→List Int
 | []=>[]
 | _::S=>-1::S.map fun r=>(r.2.1:Int)
def byL:List (Zp V4)→List Int
 | []=>[]
 | _::S=>-1::S.map fun r=>r.2.2
theorem Xe (S:List (Zp V4)):(Zy S).length=S.length:=by simp [Zy]
theorem Up (S:List (Zp V4)):(YQ S).length=S.length:=by cases S<;>simp [YQ]
theorem SY (S:List (Zp V4)):(byL S).length=S.length:=by cases S<;>simp [byL]
theorem Sa (S:List (Zp V4)) (r:Zp V4):Zy (S++[r])=Zy S++[Ye r.1]:=by simp [Zy]
theorem QI {S:List (Zp V4)} (h:S≠[]) (r:Zp V4):YQ (S++[r])=YQ S++[(r.2.1:Int)]:=by
 cases S with
 | nil=>exact absurd rfl h
 | cons a S=>simp [YQ]
theorem Lg {S:List (Zp V4)} (h:S≠[]) (r:Zp V4):byL (S++[r])=byL S++[r.2.2]:=by
 cases S with
 | nil=>exact absurd rfl h
 | cons a S=>simp [byL]


def UL (e:Ending) (w:World) (B:Nat) (z:V4) (fs:List I3) (c:Int):Prop:=∃ (t:S4) (v:Value),e=.returned (.tuple #[t.val,v,.int .i64 c])∧ZP w B t z∧w.ownsRow B 90 3 v fs.length (Zr fs)
theorem UL.mk9 {e:Ending} {w:World} {B:Nat} {z:V4} {fs:List I3} {c:Int} (t:S4) (v:Value) (he:e=.returned (.tuple #[t.val,v,.int .i64 c])) (h1:ZP w B t z) (h2:w.ownsRow B 90 3 v fs.length (Zr fs)):UL e w B z fs c:=⟨t,v,he,h1,h2⟩
end Go.Proofs.YtmhlokahmblboaaGreatDoor
