/-
  Joined: FulQ, FulB.
-/
import Derived.Test.YtifoggpohlegmaaGreatDoorA16
import Derived.Test.YtifoggpohlegmaaGreatDoorA26

namespace Go.Proofs.YtifoggpohlegmaaGreatDoor
set_option maxRecDepth 100000
set_option maxHeartbeats 16000000
set_option linter.unusedVariables false

def nxM (rows:List (List I3)) (m:V4):List (Int × V4):=(enabM rows m 3).map fun k=>(k,(goM rows m k).1)
theorem nxM_mem {rows:List (List I3)} {m:V4} {t:Int × V4} (h:t ∈ nxM rows m):haltM rows m t.1=0∧t.2=(goM rows m t.1).1:=by
 unfold nxM at h
 obtain ⟨k,hk,rfl⟩:=List.mem_map.1 h
 obtain ⟨i,hi,hie⟩:=List.getElem_of_mem hk
 obtain ⟨k',e,h3,hc⟩:=enab_at hi
 have e2:(enabM rows m 3).getD i 0=k:=by simp [List.getD,hi,hie]
 rw [e2] at e
 subst e
 exact ⟨halt_go h3 hc,rfl⟩
theorem nxM_of {rows:List (List I3)} {m:V4} {k:Int} (h:haltM rows m k=0):(k,(goM rows m k).1) ∈ nxM rows m:=by
 obtain ⟨h0,h2,hd,hc⟩:=halt_can h
 obtain ⟨q,rfl⟩:∃ q:Nat,k=q:=⟨k.toNat,by omega⟩
 rw [Int.toNat_natCast] at hc
 exact List.mem_map.2 ⟨(q:Int),(mem_enab 3).2 ⟨by omega,hc⟩,rfl⟩
theorem nxM_shape {rows:List (List I3)} {m:V4} (hp:progOk rows=true) (hs:shapeOk m=true) {t:Int × V4} (h:t ∈ nxM rows m):shapeOk t.2=true:=by
 obtain ⟨h1,h2⟩:=nxM_mem h
 rw [h2]
 exact goM_shape hp hs h1
def fullS (rows:List (List I3)):List (Rec6 V4):=srch (nxM rows) 2000 0 [(zeroV,0,0)]
def Shaped (S:List (Rec6 V4)):Prop:=∀ r ∈ S,shapeOk r.1=true
theorem putS_shaped {i:Nat} {S:List (Rec6 V4)} {t:Int × V4} (h:Shaped S) (ht:shapeOk t.2=true):Shaped (putS i S t):=by
 unfold putS
 split
 ·exact h
 ·intro r hr
  rcases List.mem_append.1 hr with hr | hr
  ·exact h r hr
  ·simp at hr
   subst hr
   exact ht
theorem onS_shaped {i:Nat}:∀ (ts:List (Int × V4)) (S:List (Rec6 V4)),Shaped S→(∀ t ∈ ts,shapeOk t.2=true)→Shaped (onS i S ts)
 | [],S,h,_=>h
 | t::ts,S,h,ht=>onS_shaped ts _ (putS_shaped h (ht t (by simp))) (fun u hu=>ht u (by simp [hu]))
theorem srch_shaped {rows:List (List I3)} (hp:progOk rows=true):∀ (f i:Nat) (S:List (Rec6 V4)),Shaped S→Shaped (srch (nxM rows) f i S)
 | 0,_,S,h=>h
 | f+1,i,S,h=>by
  unfold srch
  split
  ·exact h
  ·rename_i r hr
   exact srch_shaped hp f (i+1) _ (onS_shaped _ S h (fun t ht=>nxM_shape hp (h r (List.mem_of_getElem? hr)) ht))
theorem fullS_shaped {rows:List (List I3)} (hp:progOk rows=true):Shaped (fullS rows):=srch_shaped hp _ _ _ (fun r hr=>by simp at hr;subst hr;exact zero_shape)
theorem fullS_head (rows:List (List I3)):(fullS rows)[0]?=some (zeroV,0,0):=by
 obtain ⟨r,hr⟩:=srch_pre (nxM rows) 2000 0 [(zeroV,0,0)]
 unfold fullS
 rw [← hr]
 rfl
theorem fullS_came (rows:List (List I3)):Came (nxM rows) (fullS rows):=srch_came _ _ _ (fun j r hj hr=>by
 match j,hj with
 | j+1,_=>simp at hr)
theorem fullS_nodup (rows:List (List I3)):((fullS rows).map (·.1)).Nodup:=srch_nodup _ _ _ (by simp)
theorem fullS_closed {rows:List (List I3)} (h:(fullS rows).length≤2000):∀ r ∈ fullS rows,∀ t ∈ nxM rows r.1,t.2 ∈ (fullS rows).map (·.1):=
 srch_closed 2000 0 _ (fun j r hj=>by omega) (by omega) (by unfold fullS at h;omega)
theorem fullS_runs {rows:List (List I3)} (h:(fullS rows).length≤2000):∀ (ks:List Int) (m:V4) (fs:List I3),m ∈ (fullS rows).map (·.1)→(runI rows m fs ks).2.2=0→(runI rows m fs ks).1 ∈ (fullS rows).map (·.1)
 | [],m,fs,hm,_=>hm
 | k::ks,m,fs,hm,hz=>by
  obtain ⟨hh,he⟩:=runI_cons hz
  rw [he] at hz ⊢
  obtain ⟨r,hr,rfl⟩:=List.mem_map.1 hm
  exact fullS_runs h ks _ _ (fullS_closed h r hr _ (nxM_of hh)) hz
def pathS (S:List (Rec6 V4)):Nat→Nat→List Int
 | 0,_=>[]
 | f+1,j=>if j=0 then [] else match S[j]? with
  | none=>[]
  | some r=>pathS S f r.2.1++[r.2.2]
theorem path_run {rows:List (List I3)} {S:List (Rec6 V4)} (hC:Came (nxM rows) S) (h0:S[0]?=some (zeroV,0,0)):∀ (f j:Nat) (r:Rec6 V4),j≤f→S[j]?=some r →
  (runI rows zeroV [] (pathS S f j)).1=r.1∧(runI rows zeroV [] (pathS S f j)).2.2=0∧(pathS S f j).length≤j
 | 0,j,r,hj,hr=>by
  obtain rfl:j=0:=by omega
  rw [h0] at hr
  cases hr
  exact ⟨rfl,rfl,Nat.le_refl _⟩
 | f+1,j,r,hj,hr=>by
  by_cases e:j=0
  ·subst e
   rw [h0] at hr
   cases hr
   exact ⟨rfl,rfl,Nat.le_refl _⟩
  ·obtain ⟨h1,q,h2,h3⟩:=hC j r (by omega) hr
   have hp9:pathS S (f+1) j=pathS S f r.2.1++[r.2.2]:=by
    show (if j=0 then [] else match S[j]? with | none=>[] | some r=>pathS S f r.2.1++[r.2.2])=_
    rw [if_neg e,hr]
   obtain ⟨i1,i2,i3⟩:=path_run hC h0 f r.2.1 q (by omega) h2
   obtain ⟨n1,n2⟩:=nxM_mem h3
   simp only at n1 n2
   have ha:=(run_app (rows:=rows) (pathS S f r.2.1) [r.2.2] zeroV [] i2).1
   rw [i1] at ha
   have hg:runI rows q.1 (runI rows zeroV [] (pathS S f r.2.1)).2.1 [r.2.2]=((goM rows q.1 r.2.2).1,(runI rows zeroV [] (pathS S f r.2.1)).2.1++ownM rows q.1 r.2.2,0):=by
    show (if haltM rows q.1 r.2.2=0 then _ else _)=_
    rw [if_pos n1]
    rfl
   rw [hp9,ha,hg]
   refine ⟨n2.symm,rfl,?_⟩
   rw [List.length_append]
   simp
   omega


theorem nodup_le {α:Type} [DecidableEq α]:∀ (l t:List α),l.Nodup→(∀ x ∈ l,x ∈ t)→l.length≤t.length
 | [],t,_,_=>Nat.zero_le _
 | x::l,t,hn,hs=>by
  have hn':=List.nodup_cons.1 hn
  have hx:x ∈ t:=hs x (by simp)
  have ih:=nodup_le l (t.erase x) hn'.2 (fun y hy=>by
   have hy':y ∈ t:=hs y (by simp [hy])
   have hne:y≠x:=fun e=>hn'.1 (e▸hy)
   exact (List.mem_erase_of_ne hne).2 hy')
  rw [List.length_erase_of_mem hx] at ih
  have:0<t.length:=List.length_pos_of_mem hx
  simp only [List.length_cons]
  omega
def treeN:Nat→Nat→Nat→Nat→Nat
 | 0,_,_,_=>1
 | f+1,a,b,c=>1+(if a=0 then 0 else treeN f (a - 1) b c)+(if b=0 then 0 else treeN f a (b - 1) c)+(if c=0 then 0 else treeN f a b (c - 1))
theorem treeN_mono:∀ (f a b c a' b' c':Nat),a≤a'→b≤b'→c≤c'→treeN f a b c≤treeN f a' b' c'
 | 0,_,_,_,_,_,_,_,_,_=>Nat.le_refl _
 | f+1,a,b,c,a',b',c',h1,h2,h3=>by
  have i1:=treeN_mono f (a - 1) b c (a' - 1) b' c' (by omega) h2 h3
  have i2:=treeN_mono f a (b - 1) c a' (b' - 1) c' h1 (by omega) h3
  have i3:=treeN_mono f a b (c - 1) a' b' (c' - 1) h1 h2 (by omega)
  show 1+(if a=0 then 0 else treeN f (a - 1) b c)+(if b=0 then 0 else treeN f a (b - 1) c)+(if c=0 then 0 else treeN f a b (c - 1))≤1+(if a'=0 then 0 else treeN f (a' - 1) b' c')+(if b'=0 then 0 else treeN f a' (b' - 1) c')+(if c'=0 then 0 else treeN f a' b' (c' - 1))
  have k1:(if a=0 then 0 else treeN f (a - 1) b c)≤(if a'=0 then 0 else treeN f (a' - 1) b' c'):=by
   by_cases e:a=0
   ·rw [if_pos e];exact Nat.zero_le _
   ·rw [if_neg e,if_neg (by omega)];exact i1
  have k2:(if b=0 then 0 else treeN f a (b - 1) c)≤(if b'=0 then 0 else treeN f a' (b' - 1) c'):=by
   by_cases e:b=0
   ·rw [if_pos e];exact Nat.zero_le _
   ·rw [if_neg e,if_neg (by omega)];exact i2
  have k3:(if c=0 then 0 else treeN f a b (c - 1))≤(if c'=0 then 0 else treeN f a' b' (c' - 1)):=by
   by_cases e:c=0
   ·rw [if_pos e];exact Nat.zero_le _
   ·rw [if_neg e,if_neg (by omega)];exact i3
  omega
theorem treeN_332:treeN 8 3 3 2=1749:=by decide
def treeM (rows:List (List I3)):Nat→V4→List V4
 | 0,m=>[m]
 | f+1,m=>m::(nxM rows m).flatMap fun t=>treeM rows f t.2
def remM (rows:List (List I3)) (m:V4) (k:Nat):Nat:=(codeM rows k).length - (m.1.getD k 0).toNat
theorem rem_step {rows:List (List I3)} {m:V4} (hp:progOk rows=true) (hs:shapeOk m=true) {k:Nat} (hk:k<3) (hd:doneM rows m k=false) :
  remM rows (goM rows m k).1 k+1≤remM rows m k∧∀ j,j≠k→remM rows (goM rows m k).1 j=remM rows m j:=by
 have h1:=stepM_own hp hs hk hd
 have hb:=shape_bounds hs
 have hpc:=getD_in hb.1 (by omega) k
 have hlt:m.1.getD k 0<(codeM rows k).length:=by
  unfold doneM at hd
  rw [decide_eq_false_iff_not] at hd
  omega
 rw [goM_natC]
 refine ⟨?_,fun j hj=>?_⟩
 ·unfold remM
  omega
 ·unfold remM
  rw [stepM_other m _ hj]
theorem enab_three {rows:List (List I3)} {m:V4} (F:Int→Nat):((enabM rows m 3).map F).sum=(if canM rows m 0 then F 0 else 0)+(if canM rows m 1 then F 1 else 0)+(if canM rows m 2 then F 2 else 0):=by
 have e:enabM rows m 3=(if canM rows m 2 then (if canM rows m 1 then (if canM rows m 0 then []++[(0:Int)] else [])++[(1:Int)] else (if canM rows m 0 then []++[(0:Int)] else []))++[(2:Int)] else (if canM rows m 1 then (if canM rows m 0 then []++[(0:Int)] else [])++[(1:Int)] else (if canM rows m 0 then []++[(0:Int)] else []))):=rfl
 rw [e]
 cases canM rows m 0<;>cases canM rows m 1<;>cases canM rows m 2<;>simp<;>omega
theorem treeM_len {rows:List (List I3)} (hp:progOk rows=true):∀ (f:Nat) (m:V4),shapeOk m=true→(treeM rows f m).length≤treeN f (remM rows m 0) (remM rows m 1) (remM rows m 2)
 | 0,m,_=>Nat.le_refl _
 | f+1,m,hs=>by
  have key:∀ k:Nat,k<3→canM rows m k=true→(treeM rows f (goM rows m (k:Int)).1).length≤treeN f (remM rows (goM rows m (k:Int)).1 0) (remM rows (goM rows m (k:Int)).1 1) (remM rows (goM rows m (k:Int)).1 2)∧doneM rows m k=false:=fun k hk hc=>by
   have hd:doneM rows m k=false:=by
    unfold canM at hc
    simp at hc
    exact hc.1
   exact ⟨treeM_len hp f _ (goM_shape hp hs (halt_go hk hc)),hd⟩
  have hl:(treeM rows (f+1) m).length=1+((enabM rows m 3).map fun k=>(treeM rows f (goM rows m k).1).length).sum:=by
   show ((m::(nxM rows m).flatMap fun t=>treeM rows f t.2)).length=_
   rw [List.length_cons,List.length_flatMap]
   unfold nxM
   rw [List.map_map]
   simp only [Function.comp_def]
   omega
  rw [hl,enab_three fun k=>(treeM rows f (goM rows m k).1).length]
  have b0:(if canM rows m 0 then (treeM rows f (goM rows m 0).1).length else 0)≤(if remM rows m 0=0 then 0 else treeN f (remM rows m 0 - 1) (remM rows m 1) (remM rows m 2)):=by
   by_cases hc:canM rows m 0=true
   ·obtain ⟨k1,hd⟩:=key 0 (by omega) hc
    obtain ⟨r1,r2⟩:=rem_step hp hs (show 0<3 by omega) hd
    rw [if_pos hc,if_neg (by omega)]
    refine Nat.le_trans k1 (treeN_mono f _ _ _ _ _ _ ?_ ?_ ?_)
    ·have:remM rows (goM rows m ((0:Nat):Int)).1 0+1≤remM rows m 0:=r1
     omega
    ·exact Nat.le_of_eq (r2 1 (by omega))
    ·exact Nat.le_of_eq (r2 2 (by omega))
   ·rw [if_neg hc];exact Nat.zero_le _
  have b1:(if canM rows m 1 then (treeM rows f (goM rows m 1).1).length else 0)≤(if remM rows m 1=0 then 0 else treeN f (remM rows m 0) (remM rows m 1 - 1) (remM rows m 2)):=by
   by_cases hc:canM rows m 1=true
   ·obtain ⟨k1,hd⟩:=key 1 (by omega) hc
    obtain ⟨r1,r2⟩:=rem_step hp hs (show 1<3 by omega) hd
    rw [if_pos hc,if_neg (by omega)]
    refine Nat.le_trans k1 (treeN_mono f _ _ _ _ _ _ ?_ ?_ ?_)
    ·exact Nat.le_of_eq (r2 0 (by omega))
    ·have:remM rows (goM rows m ((1:Nat):Int)).1 1+1≤remM rows m 1:=r1
     omega
    ·exact Nat.le_of_eq (r2 2 (by omega))
   ·rw [if_neg hc];exact Nat.zero_le _
  have b2:(if canM rows m 2 then (treeM rows f (goM rows m 2).1).length else 0)≤(if remM rows m 2=0 then 0 else treeN f (remM rows m 0) (remM rows m 1) (remM rows m 2 - 1)):=by
   by_cases hc:canM rows m 2=true
   ·obtain ⟨k1,hd⟩:=key 2 (by omega) hc
    obtain ⟨r1,r2⟩:=rem_step hp hs (show 2<3 by omega) hd
    rw [if_pos hc,if_neg (by omega)]
    refine Nat.le_trans k1 (treeN_mono f _ _ _ _ _ _ ?_ ?_ ?_)
    ·exact Nat.le_of_eq (r2 0 (by omega))
    ·exact Nat.le_of_eq (r2 1 (by omega))
    ·have:remM rows (goM rows m ((2:Nat):Int)).1 2+1≤remM rows m 2:=r1
     omega
   ·rw [if_neg hc];exact Nat.zero_le _
  show _≤1+(if remM rows m 0=0 then 0 else treeN f (remM rows m 0 - 1) (remM rows m 1) (remM rows m 2))+(if remM rows m 1=0 then 0 else treeN f (remM rows m 0) (remM rows m 1 - 1) (remM rows m 2))+(if remM rows m 2=0 then 0 else treeN f (remM rows m 0) (remM rows m 1) (remM rows m 2 - 1))
  omega
theorem tree_run {rows:List (List I3)}:∀ (f:Nat) (ks:List Int) (m:V4) (fs:List I3),ks.length≤f→(runI rows m fs ks).2.2=0→(runI rows m fs ks).1 ∈ treeM rows f m
 | 0,[],m,fs,_,_=>by simp [treeM,runI]
 | 0,k::ks,m,fs,h,_=>by simp at h
 | f+1,[],m,fs,_,_=>by simp [treeM,runI]
 | f+1,k::ks,m,fs,h,hz=>by
  obtain ⟨hh,he⟩:=runI_cons hz
  rw [he] at hz ⊢
  have ih:=tree_run f ks _ _ (by simpa using h) hz
  show _ ∈ m::(nxM rows m).flatMap fun t=>treeM rows f t.2
  exact List.mem_cons_of_mem _ (List.mem_flatMap.2 ⟨_,nxM_of hh,ih⟩)
theorem run_len {rows:List (List I3)} (hp:progOk rows=true):∀ (ks:List Int) (m:V4) (fs:List I3),shapeOk m=true→(runI rows m fs ks).2.2=0→ks.length≤remM rows m 0+remM rows m 1+remM rows m 2
 | [],_,_,_,_=>Nat.zero_le _
 | k::ks,m,fs,hs,hz=>by
  obtain ⟨hh,he⟩:=runI_cons hz
  rw [he] at hz
  have ih:=run_len hp ks _ _ (goM_shape hp hs hh) hz
  obtain ⟨h0,h2,hd,hc⟩:=halt_can hh
  obtain ⟨q,rfl⟩:∃ q:Nat,k=q:=⟨k.toNat,by omega⟩
  rw [Int.toNat_natCast] at hd
  obtain ⟨r1,r2⟩:=rem_step hp hs (show q<3 by omega) hd
  have hq:q=0∨q=1∨q=2:=by omega
  simp only [List.length_cons]
  rcases hq with rfl | rfl | rfl
  ·have a:=r2 1 (by omega);have b:=r2 2 (by omega);omega
  ·have a:=r2 0 (by omega);have b:=r2 2 (by omega);omega
  ·have a:=r2 0 (by omega);have b:=r2 1 (by omega);omega
theorem small_room {rows:List (List I3)} (hp:progOk rows=true) (h0:(codeM rows 0).length≤3) (h1:(codeM rows 1).length≤3) (h2:(codeM rows 2).length≤2):(fullS rows).length≤1749:=by
 have hz:∀ k,remM rows zeroV k≤(codeM rows k).length:=fun k=>by unfold remM;omega
 have hl:=treeM_len hp 8 zeroV zero_shape
 have hm:=treeN_mono 8 _ _ _ 3 3 2 (Nat.le_trans (hz 0) h0) (Nat.le_trans (hz 1) h1) (Nat.le_trans (hz 2) h2)
 rw [treeN_332] at hm
 have hn:=nodup_le ((fullS rows).map (·.1)) (treeM rows 8 zeroV) (fullS_nodup rows) (fun x hx=>by
  obtain ⟨r,hr,rfl⟩:=List.mem_map.1 hx
  obtain ⟨j,hj,hje⟩:=List.getElem_of_mem hr
  obtain ⟨p1,p2,p3⟩:=path_run (fullS_came rows) (fullS_head rows) j j r (Nat.le_refl _) (by rw [List.getElem?_eq_getElem hj,hje])
  have hlen:=run_len hp _ zeroV [] zero_shape p2
  have a:=hz 0
  have b:=hz 1
  have c:=hz 2
  have:=tree_run 8 _ zeroV [] (show (pathS (fullS rows) j j).length≤8 by omega) p2
  rw [p1] at this
  exact this)
 rw [List.length_map] at hn
 omega
end Go.Proofs.YtifoggpohlegmaaGreatDoor
