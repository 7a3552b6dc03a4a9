/-
  Joined: ClsP, ClsQ, Lists, PackRead, Num, NumOK, PackList, NumbersPlain, PackListI, SmL, ScI, LstM, ForP.
-/
import Derived.Maps.OwnOps
import Derived.Maps.Own
import Derived.Test.YtifoggpohlegmaaGreatDoorE33
import Derived.Test.YtifoggpohlegmaaGreatDoorE43

namespace Go.Proofs.YtifoggpohlegmaaGreatDoor
set_option maxRecDepth 100000
set_option maxHeartbeats 16000000
open Go.RowKit
set_option linter.unusedVariables false
set_option linter.unusedSimpArgs false

def rnF (rows:List (List I3)):Nat→V4→List (List Int)
 | 0,_=>[]
 | f+1,m=>if Zj rows m 3=[] then [[]] else ((Zj rows m 3).map fun k=>(rnF rows f (goM rows m k).1).map (k::·)).flatten
theorem H8 {rows:List (List I3)}:∀ (f:Nat) (m:V4) (ks:List Int),ks ∈ rnF rows f m→(ZH rows m [] ks).2.2=0∧Zj rows (ZH rows m [] ks).1 3=[]
 | 0,_,_,h=>by simp [rnF] at h
 | f+1,m,ks,h=>by
  rw [rnF] at h
  split at h
  ·rename_i he
   rw [List.mem_singleton] at h
   subst h
   exact ⟨rfl,he⟩
  obtain ⟨l,hl,hk⟩:=List.mem_flatten.1 h
  obtain ⟨k,hke,rfl⟩:=List.mem_map.1 hl
  obtain ⟨ks',hks,rfl⟩:=List.mem_map.1 hk
  have hz:=Yb hke
  rw [Xu hz]
  exact H8 f _ _ hks
theorem LJ {rows:List (List I3)} (hp:Zn rows=true):∀ (f:Nat) (m:V4),Zk m=true→YE rows m<f→∃ ks,ks ∈ rnF rows f m
 | 0,_,_,h=>absurd h (Nat.not_lt_zero _)
 | f+1,m,hs,hf=>by
  rw [rnF]
  split
  ·exact ⟨[],List.mem_singleton.2 rfl⟩
  rename_i hne
  obtain ⟨k,hk⟩:=List.exists_mem_of_ne_nil _ hne
  have hz:=Yb hk
  have:=Y4 hp hs hz
  obtain ⟨ks,hks⟩:=LJ hp f (goM rows m k).1 (ZW hp hs hz) (by omega)
  exact ⟨k::ks,List.mem_flatten.2 ⟨_,List.mem_map.2 ⟨k,hk,rfl⟩,List.mem_map.2 ⟨ks,hks,rfl⟩⟩⟩
def ddG (out:List (List Int)) (x:List Int):List (List Int):=if x ∈ out then out else out++[x]
def X2 (o:List (List Int) × Bool) (x:List Int):List (List Int) × Bool:=if o.2 then (if x ∈ o.1 then o else (o.1++[x],decide (o.1.length<300))) else o
theorem Lm:∀ (xs out:List (List Int)),out.length≤(xs.foldl ddG out).length
 | [],_=>Nat.le_refl _
 | x::xs,out=>by
  refine Nat.le_trans ?_ (Lm xs (ddG out x))
  unfold ddG
  split
  ·exact Nat.le_refl _
  simp
theorem Tp:∀ (xs out:List (List Int)),xs.foldl X2 (out,false)=(out,false)
 | [],_=>rfl
 | x::xs,out=>Tp xs out
theorem Mw:∀ (xs out:List (List Int)),out.length≤300→((xs.foldl X2 (out,true)).2=true→(xs.foldl X2 (out,true)).1=xs.foldl ddG out∧(xs.foldl ddG out).length≤300)∧((xs.foldl X2 (out,true)).2=false→300<(xs.foldl ddG out).length)
 | [],out,h=>⟨fun _=>⟨rfl,h⟩,fun e=>by simp at e⟩
 | x::xs,out,h=>by
  rw [List.foldl_cons,List.foldl_cons]
  by_cases hx:x ∈ out
  ·rw [show X2 (out,true) x=(out,true) by simp [X2,hx],show ddG out x=out by simp [ddG,hx]]
   exact Mw xs out h
  by_cases h3:out.length<300
  ·rw [show X2 (out,true) x=(out++[x],true) by simp [X2,hx,h3],show ddG out x=out++[x] by simp [ddG,hx]]
   exact Mw xs _ (by simp;omega)
  rw [show X2 (out,true) x=(out++[x],false) by simp [X2,hx,h3],show ddG out x=out++[x] by simp [ddG,hx],Tp]
  refine ⟨fun e=>by simp at e,fun _=>?_⟩
  have:=Lm xs (out++[x])
  simp at this
  omega
theorem PD {x:List Int}:∀ {xs out:List (List Int)},x ∈ xs.foldl ddG out↔x ∈ out∨x ∈ xs
 | [],_=>by simp
 | y::xs,out=>by
  rw [List.foldl_cons,PD (xs:=xs)]
  unfold ddG
  split
  ·rename_i h
   constructor
   ·rintro (q | q)<;>simp [q]
   rintro (q | q)
   ·exact .inl q
   rcases List.mem_cons.1 q with rfl | q
   ·exact .inl h
   exact .inr q
  simp only [List.mem_append,List.mem_cons,List.not_mem_nil,or_false]
  constructor
  ·rintro ((q | q) | q)<;>simp [q]
  rintro (q | q | q)<;>simp [q]
theorem Nk:∀ (xs out:List (List Int)),out.Nodup→(xs.foldl ddG out).Nodup
 | [],_,h=>h
 | x::xs,out,h=>by
  rw [List.foldl_cons]
  refine Nk xs _ ?_
  unfold ddG
  split
  ·exact h
  rename_i hx
  rw [List.nodup_append]
  refine ⟨h,by simp,fun a ha b hb=>?_⟩
  rw [List.mem_singleton] at hb
  subst hb
  exact fun e=>hx (e▸ha)
noncomputable def nfG (rows:List (List I3)) (ks:List Int):List Int:=Uf (YN rows Zl ks)
noncomputable def Vk (rows:List (List I3)):List (List Int):=((rnF rows 19 Zl).map (nfG rows)).foldl ddG []
theorem FP {rows:List (List I3)} {ks ks':List Int} (h:(ZH rows Zl [] ks).2.2=0) (e:Eq7 rows Zl ks ks'):nfG rows ks=nfG rows ks':=
 G6 (FQ (PV (WN ks Zl [] h)).1 e.2.2.1) (PV (WN ks' Zl [] e.1)).1
theorem GR {rows:List (List I3)} (hp:Zn rows=true) (h5:(UM rows).2.2≤5000):1≤(Vk rows).length∧(Vk rows).length≤(UM rows).2.1:=by
 have hl:=Rf hp Zl
 obtain ⟨a1,_,_⟩:=L7 hp 19 Zl [] ([],0,0) h5 (by omega) ZJ
 have d:(UM rows).2.1=(lvF rows 19 Zl []).length:=by unfold UM;rw [a1];simp
 refine ⟨?_,?_⟩
 ·obtain ⟨ks,hks⟩:=LJ hp 19 Zl ZJ (by omega)
  have:nfG rows ks ∈ Vk rows:=PD.2 (.inr (List.mem_map.2 ⟨ks,hks,rfl⟩))
  exact List.length_pos_of_mem this
 rw [d]
 suffices h:(Vk rows).length≤((lvF rows 19 Zl []).map (nfG rows)).length by rwa [List.length_map] at h
 refine R0 _ _ (Nk _ _ List.nodup_nil) (fun x hx=>?_)
 rcases PD.1 hx with hx | hx
 ·simp at hx
 obtain ⟨ks,hks,rfl⟩:=List.mem_map.1 hx
 obtain ⟨hr,he⟩:=H8 19 Zl ks hks
 obtain ⟨ks',hk',e⟩:=Hm hp 19 Zl [] ks ZJ (by omega) hr he (fun j hj=>by simp at hj)
 exact List.mem_map.2 ⟨ks',hk',(FP hr e).symm⟩


noncomputable def W6 (rows:List (List I3)) (f:Nat) (m:V4) (ls:List Int) (o:List (List Int) × Bool):List (List Int) × Bool:=((rnF rows f m).map fun ks=>nfG rows (ls++ks)).foldl X2 o
noncomputable def Qx (rows:List (List I3)) (f:Nat) (m:V4) (ls:List Int) (es:List Int) (o:List (List Int) × Bool):List (List Int) × Bool:=es.foldl (fun o k=>W6 rows f (goM rows m k).1 (ls++[k]) o) o
theorem GX {rows:List (List I3)} {f:Nat} {m:V4} {ls:List Int} {o:List (List Int) × Bool} (h:Zj rows m 3=[]):W6 rows (f+1) m ls o=X2 o (nfG rows ls):=by
 unfold W6
 rw [rnF,if_pos h]
 simp
theorem Nv {rows:List (List I3)} {f:Nat} {m:V4} {ls:List Int}:∀ (es:List Int) (o:List (List Int) × Bool),(((es.map fun k=>(rnF rows f (goM rows m k).1).map (k::·)).flatten).map fun ks=>nfG rows (ls++ks)).foldl X2 o=Qx rows f m ls es o
 | [],o=>rfl
 | k::es,o=>by
  rw [List.map_cons,List.flatten_cons,List.map_append,List.foldl_append,Nv es]
  unfold Qx W6
  rw [List.foldl_cons,List.map_map]
  congr 2
  simp [Function.comp_def]
theorem FH {rows:List (List I3)} {f:Nat} {m:V4} {ls:List Int} {o:List (List Int) × Bool} (h:Zj rows m 3≠[]):W6 rows (f+1) m ls o=Qx rows f m ls (Zj rows m 3) o:=by
 rw [← Nv]
 unfold W6
 rw [rnF,if_neg h]
theorem J4 {rows:List (List I3)} {f:Nat} {m:V4} {ls:List Int} (out:List (List Int)):W6 rows f m ls (out,false)=(out,false):=Tp _ _
theorem Uy {rows:List (List I3)} {f:Nat} {m:V4} {ls:List Int} (out:List (List Int)):∀ es:List Int,Qx rows f m ls es (out,false)=(out,false)
 | []=>rfl
 | k::es=>by
  unfold Qx
  rw [List.foldl_cons,J4]
  exact Uy out es
theorem Kp {rows:List (List I3)} {f:Nat} {m:V4} {ls es:List Int} {k:Int} {o:List (List Int) × Bool}:Qx rows f m ls (k::es) o=Qx rows f m ls es (W6 rows f (goM rows m k).1 (ls++[k]) o):=rfl
theorem Rs:∀ (xs out:List (List Int)),out.length≤300→(xs.foldl X2 (out,true)).1.length≤301∧((xs.foldl X2 (out,true)).2=true→(xs.foldl X2 (out,true)).1.length≤300)
 | [],out,h=>⟨by simp;omega,fun _=>h⟩
 | x::xs,out,h=>by
  rw [List.foldl_cons]
  by_cases hx:x ∈ out
  ·rw [show X2 (out,true) x=(out,true) by simp [X2,hx]]
   exact Rs xs out h
  by_cases h3:out.length<300
  ·rw [show X2 (out,true) x=(out++[x],true) by simp [X2,hx,h3]]
   exact Rs xs _ (by simp;omega)
  rw [show X2 (out,true) x=(out++[x],false) by simp [X2,hx,h3],Tp]
  exact ⟨by simp;omega,fun e=>by simp at e⟩
theorem J3 {rows:List (List I3)} {f:Nat} {m:V4} {ls:List Int} {out:List (List Int)} (h:out.length≤300):(W6 rows f m ls (out,true)).1.length≤301∧((W6 rows f m ls (out,true)).2=true→(W6 rows f m ls (out,true)).1.length≤300):=Rs _ _ h
theorem GW (rows:List (List I3)):((W6 rows 19 Zl [] ([],true)).2=true→(W6 rows 19 Zl [] ([],true)).1=Vk rows∧(Vk rows).length≤300)∧((W6 rows 19 Zl [] ([],true)).2=false→300<(Vk rows).length):=by
 have h:=Mw ((rnF rows 19 Zl).map (nfG rows)) [] (by simp)
 exact h


def VW (s:ByteArray):Nat→List Nat→Nat→Prop
 | p,[],q=>q=p
 | p,z::zs,q=>∃ k,Num s p z k∧VW s (p+k) zs q
theorem UQ {s:ByteArray}:∀ {zs ys:List Nat} {p q r:Nat},VW s p zs q→VW s p ys r→zs.length≤ys.length→∃ rest,ys=zs++rest∧VW s q rest r
 | [],ys,p,q,r,h,g,_=>by
  obtain rfl:q=p:=h
  exact ⟨ys,rfl,g⟩
 | z::zs,[],_,_,_,_,_,hl=>by simp at hl
 | z::zs,y::ys,p,q,r,h,g,hl=>by
  obtain ⟨j,hj,hr⟩:=h
  obtain ⟨k,hk,gr⟩:=g
  obtain ⟨rfl,rfl⟩:=hj.only hk
  obtain ⟨rest,rfl,h'⟩:=UQ hr gr (by simpa using hl)
  exact ⟨rest,rfl,h'⟩
def Rn (s:ByteArray) (zs:List Nat):Prop:=∃ k,Num s 0 zs.length k∧zs.length≤4096∧VW s k zs s.size
theorem Rn.only {s:ByteArray} {zs ys:List Nat} (h:Rn s zs) (g:Rn s ys):zs=ys:=by
 obtain ⟨k,hk,_,hz⟩:=h
 obtain ⟨j,hj,_,hy⟩:=g
 obtain ⟨hl,rfl⟩:=hk.only hj
 obtain ⟨rest,rfl,_⟩:=UQ hz hy (by omega)
 have:rest=[]:=by
  have e:=hl
  simp at e
  exact e
 rw [this,List.append_nil]
theorem KU {s:ByteArray} {n k q:Nat} {zs:List Nat} (h:Num s 0 n k) (hn:n≤4096) (hz:VW s k zs q) (hl:zs.length=n) (hq:q=s.size):Rn s zs:=by
 subst hl hq
 exact ⟨k,h,hn,hz⟩


def VB (s:ByteArray) (p:Nat) (xs:List Int):Prop:=p+xs.length≤s.size∧∀ i,i<xs.length→(bt s (p+i):Int)=xs.getD i 0
theorem Tu {s:ByteArray} {p:Nat} {xs ys:List Int} (h:VB s p (xs++ys)):VB s p xs:=by
 obtain ⟨h1,h2⟩:=h
 rw [List.length_append] at h1
 refine ⟨by omega,fun i hi=>?_⟩
 rw [h2 i (by rw [List.length_append];omega)]
 simp [List.getD,List.getElem?_append_left hi]
theorem UN {s:ByteArray} {p:Nat} {xs ys:List Int} (h:VB s p (xs++ys)):VB s (p+xs.length) ys:=by
 obtain ⟨h1,h2⟩:=h
 rw [List.length_append] at h1
 refine ⟨by omega,fun i hi=>?_⟩
 have:=h2 (xs.length+i) (by rw [List.length_append];omega)
 rw [show p+xs.length+i=p+(xs.length+i) by omega,this]
 simp [List.getD,List.getElem?_append_right (show xs.length≤xs.length+i by omega)]

theorem TH {s:ByteArray} {p n:Nat} (hn:n≤999999999) (h:VB s p (YW n)):Num s p n (YW n).length:=by
 obtain ⟨hs,hb⟩:=h
 by_cases h1:n<128
 ·rw [Tg h1] at hs hb ⊢
  have b0:=hb 0 (by simp)
  simp at b0 hs
  refine ⟨⟨by simp,by simp,by simpa using hs,fun i hi=>by simp at hi,by simp;omega⟩,by simp,?_,hn⟩
  simp only [List.length_cons,List.length_nil,val]
  omega
 by_cases h2:n<16384
 ·rw [HJ (by omega) h2] at hs hb ⊢
  have b0:=hb 0 (by simp)
  have b1:=hb 1 (by simp)
  simp at b0 b1 hs
  refine ⟨⟨by simp,by simp,by simpa using hs,fun i hi=>?_,?_⟩,?_,?_,hn⟩
  ·simp at hi;obtain rfl:i=0:=by omega
   simp;omega
  ·simp only [List.length_cons,List.length_nil,show p+(0+1+1) - 1=p+1 by omega];omega
  ·simp only [List.length_cons,List.length_nil,show p+(0+1+1) - 1=p+1 by omega];omega
  simp only [List.length_cons,List.length_nil,val];omega
 by_cases h3:n<2097152
 ·rw [HU (by omega) h3] at hs hb ⊢
  have b0:=hb 0 (by simp)
  have b1:=hb 1 (by simp)
  have b2:=hb 2 (by simp)
  simp at b0 b1 b2 hs
  refine ⟨⟨by simp,by simp,by simpa using hs,fun i hi=>?_,?_⟩,?_,?_,hn⟩
  ·simp at hi
   have:i=0∨i=1:=by omega
   rcases this with rfl | rfl
   ·simp;omega
   omega
  ·simp only [List.length_cons,List.length_nil,show p+(0+1+1+1) - 1=p+2 by omega];omega
  ·simp only [List.length_cons,List.length_nil,show p+(0+1+1+1) - 1=p+2 by omega];omega
  simp only [List.length_cons,List.length_nil,val];omega
 by_cases h4:n<268435456
 ·rw [H0 (by omega) h4] at hs hb ⊢
  have b0:=hb 0 (by simp)
  have b1:=hb 1 (by simp)
  have b2:=hb 2 (by simp)
  have b3:=hb 3 (by simp)
  simp at b0 b1 b2 b3 hs
  refine ⟨⟨by simp,by simp,by simpa using hs,fun i hi=>?_,?_⟩,?_,?_,hn⟩
  ·simp at hi
   have:i=0∨i=1∨i=2:=by omega
   rcases this with rfl | rfl | rfl
   ·simp;omega
   ·omega
   omega
  ·simp only [List.length_cons,List.length_nil,show p+(0+1+1+1+1) - 1=p+3 by omega];omega
  ·simp only [List.length_cons,List.length_nil,show p+(0+1+1+1+1) - 1=p+3 by omega];omega
  simp only [List.length_cons,List.length_nil,val];omega
 rw [Fy (by omega)] at hs hb ⊢
 have b0:=hb 0 (by simp)
 have b1:=hb 1 (by simp)
 have b2:=hb 2 (by simp)
 have b3:=hb 3 (by simp)
 have b4:=hb 4 (by simp)
 simp at b0 b1 b2 b3 b4 hs
 refine ⟨⟨by simp,by simp,by simpa using hs,fun i hi=>?_,?_⟩,?_,?_,hn⟩
 ·simp at hi
  have:i=0∨i=1∨i=2∨i=3:=by omega
  rcases this with rfl | rfl | rfl | rfl
  ·simp;omega
  ·omega
  ·omega
  omega
 ·simp only [List.length_cons,List.length_nil,show p+(0+1+1+1+1+1) - 1=p+4 by omega];omega
 ·simp only [List.length_cons,List.length_nil,show p+(0+1+1+1+1+1) - 1=p+4 by omega];omega
 simp only [List.length_cons,List.length_nil,val];omega

def WU (zs:List Nat):List Int:=zs.flatMap fun z=>YW z
theorem VS {s:ByteArray}:∀ {zs:List Nat} {p:Nat},(∀ z ∈ zs,z≤999999999)→VB s p (WU zs)→VW s p zs (p+(WU zs).length)
 | [],p,_,_=>by simp [WU,VW]
 | z::zs,p,hz,h=>by
  have e:WU (z::zs)=YW z++WU zs:=by simp [WU]
  rw [e] at h ⊢
  refine ⟨_,TH (hz z (by simp)) (Tu h),?_⟩
  have:=VS (fun y hy=>hz y (by simp [hy])) (UN h)
  rw [List.length_append,← Nat.add_assoc]
  exact this

theorem FF (xs:List Int) (h:∀ x ∈ xs,0≤x∧x≤255) (i:Nat) (hi:i<xs.length):(bt (strOfNums xs) i:Int)=xs.getD i 0:=by
 have hs:i<(strOfNums xs).size:=by rw [strOfNums_size];exact hi
 unfold bt
 rw [dif_pos hs]
 have hx:=h xs[i] (List.getElem_mem hi)
 have e:((strOfNums xs)[i]'hs)=UInt8.ofNat xs[i].toNat:=by
  show (strOfNums xs).data[i]'(by simpa using hs)=_
  simp [strOfNums]
 rw [e]
 simp [List.getElem?_eq_getElem hi]
 omega
theorem Nc (xs:List Int) (h:∀ x ∈ xs,0≤x∧x≤255):VB (strOfNums xs) 0 xs:=
 ⟨by rw [strOfNums_size];omega,fun i hi=>by rw [Nat.zero_add];exact FF xs h i hi⟩


theorem X3 (base m:Nat) (v:Value) (xs:List Int) (n:Nat) (w:World) (hn:n≤999999999) (hown:w.ownsRow base 5 1 v m (u8s xs)) (hb:base≤w.heap.size) (hm:m≤1099511627776) :
  Calls Tryz.prog 156 #[v,.int .i64 n] w fun e w'=>∃ v',e=.returned v'∧w'.ownsRow base 5 1 v' (m+(YW n).length) (u8s (xs++YW n))∧Below base w w':=by
 obtain ⟨i0,hi,hz0,hz1,hz2⟩:=info_parts PK
 go_enter Tryz.func156,Tryz.ntmps156
 go_wp2
 go_loopw [0,1] (fun sv si wr=>∃ (k:Nat) (ys:List Int),k≤999999999∧si=.int .i64 k∧wr.ownsRow base 5 1 sv (m+ys.length) (u8s (xs++ys))∧Hid (ys++YW k=YW n)∧Below base w wr) (fun _ si _=>(intOf si).toNat)
 case atStart=>exact ⟨n,[],hn,rfl,by simpa using hown,by simp [Hid],Below.refl _ _⟩
 case round =>
  obtain ⟨k,ys,hk,rfl,ho,HY,hbel⟩:=hrel
  have hlen:ys.length≤4:=by
   have h1:=congrArg List.length HY.out
   have h2:=Ug k
   have h3:=Ug n
   simp at h1;omega
  have hbw:base≤wr.heap.size:=by have:=hbel.size;omega
  by_cases hlt:128≤k
  ·go_wp2_with (at_builtin;refine wpList_append_own _ rfl _ _ 22 rfl base 5 i0 (.int .u8 0) 1 1 Tryz.underlying22 hi hz0 hz1 hz2 rfl (by decide) _ _ _ rfl (ho.alloc _) ⟨wr.heap.size,0,none⟩ 1 1 [.int .u8 ((k:Int) % 128+128)] rfl rfl (cell_one_new _ _ _) (Te _) ?c3 ?c4 ?c5 ?_)
   case c3=>unfold maxLen;omega
   case c4=>omega
   case c5=>simp;omega
   intro v' w1 hown' hgrow _
   have R:w1.ownsRow base 5 1 v' (m+(ys++[(k:Int) % 128+128]).length) (u8s (xs++(ys++[(k:Int) % 128+128]))):=by simpa [Nat.add_assoc] using hown'
   have hb1:Below base w w1:=(hbel.alloc hbw _).grown hgrow (by simp;omega) (fun j hj=>(ho.lt _ hj).1)
   clear hown' hgrow ho
   go_wp2
   go_roundw
   case rel=>exact ⟨k / 128,ys++[(k:Int) % 128+128],by omega,by go_num,R,by rw [Hid,List.append_assoc,List.singleton_append,← K9 hlt (by omega)];exact HY.out,hb1⟩
   case measure=>simp [intOf];omega
  go_wp2_with (at_builtin;refine wpList_append_own _ rfl _ _ 22 rfl base 5 i0 (.int .u8 0) 1 1 Tryz.underlying22 hi hz0 hz1 hz2 rfl (by decide) _ _ _ rfl (ho.alloc _) ⟨wr.heap.size,0,none⟩ 1 1 [.int .u8 (k:Int)] rfl rfl (cell_one_new _ _ _) (Te _) ?d3 ?d4 ?d5 ?_)
  case d3=>unfold maxLen;omega
  case d4=>omega
  case d5=>simp;omega
  intro v' w1 hown' hgrow _
  have hb1:Below base w w1:=(hbel.alloc hbw _).grown hgrow (by simp;omega) (fun j hj=>(ho.lt _ hj).1)
  have hp:YW n=ys++[(k:Int)]:=by rw [← HY.out,Tg (by omega)]
  have R:w1.ownsRow base 5 1 v' (m+(YW n).length) (u8s (xs++YW n)):=by rw [hp];simpa [Nat.add_assoc] using hown'
  clear hown' hgrow ho hp HY
  go_wp2
  go_ret
  exact ⟨v',rfl,R,hb1⟩


theorem PW (n:Int) (w:World) (h:0≤n∧n≤999999999):Calls Tryz.prog 157 #[.int .i64 n] w fun e w'=>e=.returned (.bool true)∧w=w':=by
 obtain ⟨h1,h2⟩:=h
 go_enter Tryz.func157,Tryz.ntmps157
 go_wp2
 go_ret
 exact ⟨rfl,rfl⟩
theorem NX (n:Int) (w:World) (h:¬ (0≤n∧n≤999999999)):Calls Tryz.prog 157 #[.int .i64 n] w fun e w'=>e=.returned (.bool false)∧w=w':=by
 by_cases h1:0≤n
 ·have h2:decide (n≤999999999)=false:=by simp;omega
  clear h
  go_enter Tryz.func157,Tryz.ntmps157
  go_wp2
  go_ret
  exact ⟨rfl,rfl⟩
 clear h
 go_enter Tryz.func157,Tryz.ntmps157
 go_wp2
 go_ret
 exact ⟨rfl,rfl⟩


def SH (zs:List Int):Prop:=∀ z ∈ zs,0≤z∧z≤999999999
def Wu (zs:List Int):List Int:=zs.flatMap fun z=>YW z.toNat
def R9 (zs:List Int):List Int:=YW zs.length++Wu zs

theorem Sp:∀ zs:List Int,(Wu zs).length≤5*zs.length
 | []=>by simp [Wu]
 | z::zs=>by
  have h:=Sp zs
  have h2:=(Ug z.toNat).2
  simp only [Wu,List.flatMap_cons,List.length_append,List.length_cons] at h ⊢
  omega
theorem MZ (zs:List Int) (k:Nat) (h:k<zs.length):Wu (zs.take (k+1))=Wu (zs.take k)++YW (zs.getD k 0).toNat:=by
 have g:zs.getD k 0=zs[k]:=by simp [List.getElem?_eq_getElem h]
 rw [g,List.take_succ_eq_append_getElem h]
 unfold Wu
 rw [List.flatMap_append]
 simp only [List.flatMap_cons,List.flatMap_nil,List.append_nil]
theorem J5 {zs:List Int} {k:Nat} (h:k<zs.length):zs.getD k 0 ∈ zs:=by
 simp [List.getElem?_eq_getElem h]


theorem Lv {zs:List Int} (h:∀ z ∈ zs,0≤z∧z≤999999999):∃ ns:List Nat,zs=ns.map (fun z:Nat=>(z:Int))∧∀ n ∈ ns,n≤999999999:=by
 refine ⟨zs.map Int.toNat,?_,?_⟩
 ·rw [List.map_map]
  conv=>lhs;rw [← List.map_id zs]
  apply List.map_congr_left
  intro z hz
  have:=h z hz
  simp only [id,Function.comp]
  omega
 intro n hn
 obtain ⟨z,hz,rfl⟩:=List.mem_map.1 hn
 have:=h z hz
 omega
theorem Qa (ns:List Nat):R9 (ns.map (fun z:Nat=>(z:Int)))=YW ns.length++WU ns:=by
 unfold R9 Wu WU
 rw [List.length_map]
 congr 1
 induction ns with
 | nil=>rfl
 | cons n ns ih=>simp [List.flatMap_cons,ih]
theorem N3 {ns:List Nat} (h:∀ n ∈ ns,n≤999999999):∀ x ∈ WU ns,0≤x∧x≤255:=by
 intro x hx
 obtain ⟨n,hn,hx⟩:=List.mem_flatMap.1 hx
 exact Pd n (by have:=h n hn;omega) x hx
theorem MY {ns:List Nat} (h:∀ n ∈ ns,n≤999999999) (hl:ns.length≤4096):∀ x ∈ YW ns.length++WU ns,0≤x∧x≤255:=by
 intro x hx
 rcases List.mem_append.1 hx with hx | hx
 ·exact Pd _ (by omega) x hx
 exact N3 h x hx
theorem SN {ns:List Nat} (h:∀ n ∈ ns,n≤999999999) (hl:ns.length≤4096):Rn (strOfNums (YW ns.length++WU ns)) ns:=by
 have hb:=Nc _ (MY h hl)
 have hn:=TH (by omega) (Tu hb)
 refine KU hn hl (VS h ?_) rfl ?_
 ·simpa using UN hb
 rw [strOfNums_size,List.length_append]


theorem K5 {zs:List Int} {k:Nat} (h:SH (zs.take k)) (hk:k<zs.length) (hx:0≤zs.getD k 0∧zs.getD k 0≤999999999):SH (zs.take (k+1)):=by
 have g:zs.getD k 0=zs[k]:=by simp [List.getElem?_eq_getElem hk]
 rw [List.take_succ_eq_append_getElem hk]
 intro z hz
 rcases List.mem_append.1 hz with hz | hz
 ·exact h z hz
 simp at hz;subst hz;rw [← g];exact hx
theorem K6 (zs:List Int):SH (zs.take 0):=by intro z hz;simp at hz

theorem Se (a:Option Addr) (len cap:Nat) (zs:List Int) (w:World) (h:YV .i64 w a len cap zs) (hlen:len≤4096) :
  Calls Tryz.prog 104 #[.slice a len cap] w fun e w'=>((SH zs∧e=.returned (.tuple #[.string (strOfNums (R9 zs)),.int .i64 0]))∨(¬ SH zs∧e=.returned (.tuple #[.string ByteArray.empty,.int .i64 4])))∧Below w.heap.size w w':=by
 obtain ⟨hl,hlc,hcm,hcase⟩:=h
 unfold maxLen at hcm
 rcases hcase with h0 | ⟨b,off,rfl,hblt,hcell⟩
 ·subst h0
  have hz:zs=[]:=by simpa using hl
  subst hz
  go_enter Tryz.func104,Tryz.ntmps104
  go_wp2_with fail
  refine (X3 w.heap.size 0 _ [] 0 _ (by omega) (World.ownsRow_nil _ _ _ _) (Nat.le_refl _) (by omega)).mono ?_
  rintro e w1 ⟨v',rfl,hown,hbel⟩
  have hcv:=VF hown
  clear hown
  rw [List.nil_append] at hcv
  go_wp2
  refine wp_loop_rounds 1 ?_
  rw [rounds_succ]
  go_wp2
  go_ret2
  exact ⟨.inl ⟨(fun z hz=>by cases hz),rfl⟩,hbel⟩
 go_enter Tryz.func104,Tryz.ntmps104
 go_wp2_with fail
 refine (X3 w.heap.size 0 _ [] len _ (by omega) (World.ownsRow_nil _ _ _ _) (Nat.le_refl _) (by omega)).mono ?_
 rintro e w1 ⟨v',rfl,hown,hb1⟩
 rw [List.nil_append,Nat.zero_add] at hown
 go_wp2
 go_loopw [4,15] (fun sv si wr=>∃ k:Nat,k≤len∧si=.int .i64 k∧SH (zs.take k)∧wr.ownsRow w.heap.size 5 1 sv (YW len++Wu (zs.take k)).length (u8s (YW len++Wu (zs.take k)))∧Below w.heap.size w wr) (fun _ si _=>len - (intOf si).toNat)
 case atStart=>exact ⟨0,by omega,rfl,K6 zs,by simpa [Wu] using hown,hb1⟩
 case round =>
  obtain ⟨k,hk,rfl,hto,ho,hbel⟩:=hrel
  by_cases hlt:k<len
  ·have hc:wr.cell? ⟨b,off+k,none⟩=some (.int .i64 (zs.getD k 0)):=by rw [hbel.cell (p:=⟨b,off+k,none⟩) hblt];exact hcell k hlt
   have hsn:=MZ zs k (by omega)
   have hpl:=Sp (zs.take k)
   have hp5:=(Ug len).2
   have htl:(zs.take k).length≤4096:=by simp;omega
   have hm:(YW len++Wu (zs.take k)).length≤1099511627776:=by rw [List.length_append];omega
   by_cases hx:0≤zs.getD k 0∧zs.getD k 0≤999999999
   ·have hto':=K5 hto (by omega) hx
    generalize zs.getD k 0=x at hc hx hsn
    obtain ⟨n,rfl⟩:=Int.eq_ofNat_of_zero_le hx.1
    have hn:n≤999999999:=by omega
    rw [Int.toNat_natCast] at hsn
    have R:Hid (YW len++Wu (zs.take k)++YW n=YW len++Wu (zs.take (k+1))):=by rw [Hid,hsn,List.append_assoc]
    clear hsn hpl hp5 htl
    generalize YW len++Wu (zs.take k)=ys at ho hm R
    have hbw:=hbel.size
    go_wp2_with (first | (go_at_call 157;refine (PW _ _ hx).mono ?_;rintro e w' ⟨rfl,rfl⟩) | (go_at_call 156;refine (X3 w.heap.size _ _ ys n _ hn ho hbw hm).mono ?_;rintro e w2 ⟨v2,rfl,hown2,hb2⟩))
    rw [R.out,← List.length_append,R.out] at hown2
    go_roundw
    case rel=>exact ⟨k+1,by omega,by go_num,hto',hown2,hbel.trans hb2⟩
    case measure=>simp [intOf];omega
   have hbad:¬ SH zs:=fun h=>hx (h _ (J5 (by omega)))
   generalize zs.getD k 0=x at hc hx hsn
   clear hsn hpl hp5 htl hm ho
   go_wp2_with (go_at_call 157;refine (NX _ _ hx).mono ?_;rintro e w' ⟨rfl,rfl⟩)
   go_ret2
   exact ⟨.inr ⟨hbad,rfl⟩,hbel⟩
  obtain rfl:k=len:=by omega
  rw [List.take_of_length_le (Nat.le_of_eq hl)] at hto ho
  have e:YW k++Wu zs=R9 zs:=by unfold R9;rw [hl]
  rw [e] at ho
  have hcv:=VF ho
  clear ho
  go_wp2
  go_ret2
  exact ⟨.inl ⟨hto,rfl⟩,hbel⟩


theorem Km {xs ys:List Int} (hl:xs.length=ys.length) (h:∀ i,i<xs.length→xs.getD i 0=ys.getD i 0):xs=ys:=by
 refine List.ext_getElem hl (fun i h1 h2=>?_)
 have:=h i h1
 simpa [List.getD,h1,h2] using this

theorem MM (a:Option Addr) (n c:Nat) (xs:List Int) (a':Option Addr) (n' c':Nat) (ys:List Int) (w:World) (h:YV .i64 w a n c xs) (h':YV .i64 w a' n' c' ys) :
  Calls Tryz.prog 158 #[.slice a n c,.slice a' n' c'] w fun e w'=>e=.returned (.bool (decide (xs=ys)))∧∃ d,w'=w.drewN d:=by
 obtain ⟨dd,hdd⟩:∃ dd,dd=decide (xs=ys):=⟨_,rfl⟩
 rw [← hdd]
 have HD:Hid (dd=decide (xs=ys)):=hdd
 clear hdd
 obtain ⟨hl,hlc,hcm,hcase⟩:=h
 obtain ⟨hl',hlc',hcm',hcase'⟩:=h'
 unfold maxLen at hcm hcm'
 by_cases hnn:n=n'
 case neg =>
  have hne:((n:Int) != (n':Int))=true:=by simp;omega
  have HF:Hid (dd=false):=by
   rw [Hid,HD.out,decide_eq_false_iff_not]
   intro e
   rw [e,hl'] at hl
   exact hnn hl.symm
  clear hcase hcase'
  go_enter Tryz.func158,Tryz.ntmps158
  go_wp2
  go_ret
  exact ⟨by rw [HF.out];rfl,0,rfl⟩
 subst hnn
 have hne:((n:Int) != (n:Int))=false:=by simp
 by_cases h0:n=0
 ·subst h0
  have HT:Hid (dd=true):=by
   rw [Hid,HD.out,decide_eq_true_iff,List.length_eq_zero_iff.1 hl,List.length_eq_zero_iff.1 hl']
  clear hcase hcase' hl hl'
  go_enter Tryz.func158,Tryz.ntmps158
  go_wp2
  refine wp_loop_rounds 1 ?_
  rw [rounds_succ]
  go_wp2
  go_ret
  exact ⟨by rw [HT.out];rfl,0,rfl⟩
 rcases hcase with h0' | ⟨b,off,rfl,hblt,hcell⟩
 ·exact absurd h0' h0
 rcases hcase' with h0' | ⟨b',off',rfl,hblt',hcell'⟩
 ·exact absurd h0' h0
 have HL:Hid (xs.length=n∧ys.length=n):=⟨hl,hl'⟩
 clear hl hl'
 go_enter Tryz.func158,Tryz.ntmps158
 go_wp2
 go_loopw [5] (fun si wr=>∃ k d:Nat,k≤n∧si=.int .i64 k∧Hid (∀ i,i<k→xs.getD i 0=ys.getD i 0)∧wr=w.drewN d) (fun si _=>n - (intOf si).toNat)
 case atStart=>exact ⟨0,0,by omega,rfl,fun i hi=>by omega,rfl⟩
 case round =>
  obtain ⟨k,d,hk,rfl,hH,rfl⟩:=hrel
  by_cases hlt:k<n
  ·have hc:=hcell k hlt
   have hc':=hcell' k hlt
   have hlt':(k:Int)<(n:Int):=by omega
   clear hcell hcell'
   by_cases hx:xs.getD k 0=ys.getD k 0
   ·have hH2:Hid (∀ i,i<k+1→xs.getD i 0=ys.getD i 0):=fun i hi=>by
     by_cases e:i=k
     ·subst e;exact hx
     exact hH.out i (by omega)
    rw [← hx] at hc'
    clear hx hH
    generalize xs.getD k 0=x at hc hc'
    have hxx:(x != x)=false:=by simp
    go_wp2
    go_quiet (fail)
    go_wp2
    go_roundw
    case rel=>exact ⟨k+1,_,by omega,by go_num,hH2,rfl⟩
    case measure=>simp [intOf];omega
   have HF:Hid (dd=false):=by
    rw [Hid,HD.out,decide_eq_false_iff_not]
    intro e
    rw [e] at hx
    exact hx rfl
   have hxx:(xs.getD k 0 != ys.getD k 0)=true:=by simpa using hx
   clear hx hH
   generalize xs.getD k 0=x at hc hxx
   generalize ys.getD k 0=y at hc' hxx
   go_wp2
   go_quiet (fail)
   go_wp2
   go_ret
   exact ⟨by rw [HF.out];rfl,d+nq,by simp [World.drewN];omega⟩
  have HT:Hid (dd=true):=by
   rw [Hid,HD.out,decide_eq_true_iff]
   have hL:=HL.out
   exact Km (by omega) (fun i hi=>hH.out i (by omega))
  clear hcell hcell' hH
  go_wp2
  go_ret
  exact ⟨by rw [HT.out];rfl,d,rfl⟩


theorem NB {w:World} {B n c:Nat} {a:Option Addr} {xs:List Int} (h:w.ownsRow B 3 1 (.slice a n c) n (xs.map (Value.int .i64))):YV .i64 w a n c xs:=by
 have hl:=h.1
 rw [List.length_map,Nat.mul_one] at hl
 rcases h.2 with ⟨h1,h2⟩ | ⟨g,cap,cur,h1,_,_,h3,h4,_⟩
 ·cases h1
  exact ⟨hl,Nat.le_refl _,Nat.zero_le _,.inl rfl⟩
 cases h1
 exact YV.of_owns h


theorem KV {w:World} {B:Nat} {v:Value} {xs:List Int} (h:w.ownsRow B 3 1 v xs.length (xs.map (Value.int .i64))):∃ a cap,v=.slice a xs.length cap∧YV .i64 w a xs.length cap xs:=by
 obtain ⟨a,cap,rfl⟩:=SR h
 exact ⟨a,cap,rfl,NB h⟩


def pkT (xs:List Int):ByteArray:=strOfNums (R9 xs)
def okF (xs:List Int):Prop:=SH xs∧xs.length≤4096
theorem FR {xs ys:List Int} (hx:okF xs) (hy:okF ys) (h:pkT xs=pkT ys):xs=ys:=by
 obtain ⟨na,ea,ma⟩:=Lv hx.1
 obtain ⟨nb,eb,mb⟩:=Lv hy.1
 have la:na.length=xs.length:=by rw [ea];simp
 have lb:nb.length=ys.length:=by rw [eb];simp
 have La:=SN ma (by have:=hx.2;omega)
 have Lb:=SN mb (by have:=hy.2;omega)
 rw [← Qa,← ea] at La
 rw [← Qa,← eb] at Lb
 unfold pkT at h
 rw [← h] at Lb
 rw [ea,eb,La.only Lb]
theorem Ph (es:List I4):∀ s,∀ x ∈ (stJ es s).2,x≤3
 | 0,x,hx=>by simp [stJ,stI] at hx
 | s+1,x,hx=>by
  rw [T0] at hx
  rcases List.mem_append.1 hx with hx | hx
  ·exact Ph es s x hx
  rw [List.mem_singleton] at hx
  subst hx
  exact VL _
theorem G5 {es:List I4} (h:YK es) (hl:es.length≤4096):okF (Uf es):=by
 refine ⟨?_,by rw [Hr h];exact hl⟩
 rw [← P3 h]
 intro z hz
 obtain ⟨t,ht,rfl⟩:=List.mem_map.1 hz
 have:=Ph es es.length t ht
 omega
structure FmD (D:DataW Unit) (fs:List (List Int)):Prop where
 has:∀ t:ByteArray,Maps.has D (.string t.data.toList)=true↔t ∈ fs.map pkT
 bnd:∀ (t:ByteArray) (c:Int),D.atKey (.string t.data.toList) (.lit (.int .i64 0))=.lit (.int .i64 c)→0≤c∧c≤fs.length
 siz:Maps.size D=(fs.foldl ddG []).length
 ok:∀ x ∈ fs,okF x
theorem FmD.start:FmD (.map []) []:=⟨fun t=>by simp [Maps.has],fun t c h=>by
 simp [DataW.atKey] at h
 subst h
 simp,rfl,fun x hx=>by simp at hx⟩
theorem FmD.put {D:DataW Unit} {fs:List (List Int)} (h:FmD D fs) (hm:Maps.IsMap D) (ht:Maps.Tidy D) {x:List Int} (hx:okF x) {c:Int} (hc0:0≤c) (hc:c≤fs.length) :
  FmD (D.put (.string (pkT x).data.toList) (.lit (.int .i64 (c+1)))) (fs++[x]):=by
 have hkl:WideAt.IsKeyLit (.string (pkT x).data.toList):=trivial
 refine ⟨fun t=>?_,fun y d hd=>?_,?_,fun y hy=>?_⟩
 ·by_cases e:t=pkT x
  ·subst e
   rw [Maps.has_put_same hm hkl]
   simp
  rw [Maps.has_put_other (PT e),h.has]
  simp [e]
 ·by_cases e:y=pkT x
  ·subst e
   rw [Maps.atKey_put_same hm hkl] at hd
   injection hd with hd
   injection hd with _ hd
   subst hd
   simp
   omega
  rw [Maps.atKey_put_other (PT e)] at hd
  have:=h.bnd y d hd
  simp
  omega
 ·rw [Maps.size_put ht,List.foldl_append]
  show _=(ddG (fs.foldl ddG []) x).length
  have hmem:x ∈ fs.foldl ddG []↔x ∈ fs:=by rw [PD];simp
  by_cases e:x ∈ fs
  ·have h1:Maps.has D (.string (pkT x).data.toList)=true:=(h.has _).2 (List.mem_map.2 ⟨x,e,rfl⟩)
   rw [h1,if_pos rfl,h.siz,show ddG (fs.foldl ddG []) x=fs.foldl ddG [] from if_pos (hmem.2 e)]
  have h1:Maps.has D (.string (pkT x).data.toList)=false:=by
   cases q:Maps.has D (.string (pkT x).data.toList)
   ·rfl
   obtain ⟨y,hy,e2⟩:=List.mem_map.1 ((h.has _).1 q)
   exact absurd (FR (h.ok y hy) hx e2▸hy) e
  rw [h1,h.siz,show ddG (fs.foldl ddG []) x=fs.foldl ddG []++[x] from if_neg (fun q=>e (hmem.1 q))]
  simp
 rcases List.mem_append.1 hy with hy | hy
 ·exact h.ok y hy
 simp at hy;subst hy;exact hx
def Vp (w:World) (nb:Nat) (fs:List (List Int)):Prop:=∃ D:DataW Unit,w.ownsMap Tryz.prog 9 (plainElem Tryz.prog 3) nb fs.length D∧FmD D fs
theorem Vp.kept {w w':World} {nb:Nat} {fs:List (List Int)} {row:Option Nat} (h:Vp w nb fs) (hg:w.grownBy w' row) (hne:row≠some nb):Vp w' nb fs:=by
 obtain ⟨D,hm,hf⟩:=h
 exact ⟨D,hm.kept hg (fun e=>hne e.symm),hf⟩
theorem Vp.below {w w':World} {nb:Nat} {fs:List (List Int)} (h:Vp w nb fs) (hb:Below w.heap.size w w'):Vp w' nb fs:=h.kept (row:=none) ⟨hb.os,hb.tape,hb.output,hb.size,fun k hk _=>hb.block k hk⟩ (by simp)
theorem Hg {t:ByteArray} (h:t.size≤maxLen):keyOf Tryz.prog 9 (.string t)=some (.string t.data.toList):=by
 simp [keyOf,Tryz.underlying9,mapKey,h]
theorem F2 {z:Int} (h:0≤z) (h':z≤2000000000):(Lit.int .i64 z).wf=true:=by
 simp only [Lit.wf,Bool.and_eq_true,decide_eq_true_eq]
 have h1:IntKind.i64.min=-9223372036854775808:=by decide
 have h2:IntKind.i64.max=9223372036854775807:=by decide
 omega

theorem Fo (ea:Option Addr) (n c Fb nb:Nat) (es:List I4) (fs:List (List Int)) (w:World) (hE:Evs w ea n es) (hn:n≤60) (hc:n≤c) (hI:YK es) (hF:Blk w Fb 104 [.map (some nb)]) (hM:Vp w nb fs) (hl:fs.length≤1200000000) :
  Calls Tryz.prog 103 #[.slice ea n c,.pointer (some ⟨Fb,0,none⟩)] w fun e w'=>e=.returned (.tuple #[])∧Vp w' nb (fs++[Uf es])∧w.grownBy w' (some nb):=by
 have hln:=hE.1
 have kN:=NW ea n c es w hE (by omega) hc hI hln.symm
 have hok:=G5 hI (by omega)
 generalize Uf es=x at *
 clear hE hI
 go_enter Tryz.func103,Tryz.ntmps103
 go_wp2_with fail
 refine kN.mono ?_
 rintro e w1 ⟨⟨v,rfl,q⟩,hb⟩
 obtain ⟨xa,xc,rfl⟩:=Gd q
 have kP:=Se xa x.length xc x w1 (Lq q) hok.2
 replace hF:=hF.below hb
 replace hM:=hM.below hb
 have b1:=hb
 clear kN hb q
 go_wp2_with fail
 refine kP.mono ?_
 rintro e w2 ⟨he,hb⟩
 obtain rfl:e=.returned (.tuple #[.string (pkT x),.int .i64 0]):=by
  rcases he with ⟨_,he⟩ | ⟨hn,_⟩
  ·exact he
  exact absurd hok.1 hn
 clear he
 replace hF:=hF.below hb
 replace hM:=hM.below hb
 replace b1:=Pv b1 hb
 clear hb kP
 obtain ⟨D,hm,hD⟩:=hM
 have hsz:(pkT x).size≤maxLen:=by
  unfold pkT
  rw [strOfNums_size]
  have h1:=Sp x
  have h2:=(Ug x.length).2
  unfold R9
  rw [List.length_append]
  have:=hok.2
  unfold maxLen
  omega
 have hkey:=Hg hsz
 have cF:w2.cell? ⟨Fb,0,none⟩=some (.map (some nb)):=by simpa using hF.cell 0
 have hbn:∀ c:Int,D.atKey (.string (pkT x).data.toList) (.lit (.int .i64 0))=.lit (.int .i64 c)→(0≤c∧c≤1200000000)∧FmD (D.put (.string (pkT x).data.toList) (.lit (.int .i64 (c+1)))) (fs++[x]):=fun c hat=>by
  have:=hD.bnd _ c hat
  exact ⟨by omega,hD.put hm.isMap (hm.tidy Vv) hok this.1 this.2⟩
 clear hD hF hsz
 generalize pkT x=key at *
 go_wp2_with (first | (at_lookup;refine wpList_lookup_own_int _ rfl _ _ 104 rfl 9 3 .i64 Vv Tryz.underlying104 Tryz.underlying3 (SF _) nb fs.length D rfl hm _ _ rfl hkey ?_;intro cc hat hwc;obtain ⟨⟨hc0,hc1⟩,hSP⟩:=hbn cc hat;clear hbn hat hwc) | (at_mapUpdate;refine wpList_mapUpdate_own _ rfl _ _ _ 104 rfl 9 3 Vv Tryz.underlying104 _ nb fs.length D rfl hm (by unfold maxLen;omega) _ _ _ rfl rfl hkey _ [] (plainElem_int Tryz.underlying3 (F2 (by omega) (by omega))) ?_;intro w3 hm3 g3))
 go_end0
 refine ⟨rfl,⟨_,by rw [List.length_append];exact hm3,hSP⟩,?_⟩
 exact ⟨g3.os.trans b1.os,g3.tape.trans b1.tape,g3.output.trans b1.output,Nat.le_trans b1.size g3.size,fun k hk hne=>(g3.block k (Nat.lt_of_lt_of_le hk b1.size) hne).trans (b1.block k hk)⟩
end Go.Proofs.YtifoggpohlegmaaGreatDoor
