/-
  Joined: FulB, FulD.
-/
import Derived.Test.YtifoggpohlegmaaGreatDoorF28

namespace Go.Proofs.YtifoggpohlegmaaGreatDoor
set_option maxRecDepth 100000
set_option maxHeartbeats 16000000
set_option linter.unusedVariables false

theorem nodup_le {α:Type} [DecidableEq α]:∀ (l t:List α),l.Nodup→(∀ x ∈ l,x ∈ t)→l.length≤t.length
 | [],t,_,_=>Nat.zero_le _
 | x::l,t,hn,hs=>by
  have hn':=List.nodup_cons.1 hn
  have hx:x ∈ t:=hs x (by simp)
  have ih:=nodup_le l (t.erase x) hn'.2 (fun y hy=>by
   have hy':y ∈ t:=hs y (by simp [hy])
   have hne:y≠x:=fun e=>hn'.1 (e▸hy)
   exact (List.mem_erase_of_ne hne).2 hy')
  rw [List.length_erase_of_mem hx] at ih
  have:0<t.length:=List.length_pos_of_mem hx
  simp only [List.length_cons]
  omega
def treeN:Nat→Nat→Nat→Nat→Nat
 | 0,_,_,_=>1
 | f+1,a,b,c=>1+(if a=0 then 0 else treeN f (a - 1) b c)+(if b=0 then 0 else treeN f a (b - 1) c)+(if c=0 then 0 else treeN f a b (c - 1))
theorem treeN_mono:∀ (f a b c a' b' c':Nat),a≤a'→b≤b'→c≤c'→treeN f a b c≤treeN f a' b' c'
 | 0,_,_,_,_,_,_,_,_,_=>Nat.le_refl _
 | f+1,a,b,c,a',b',c',h1,h2,h3=>by
  have i1:=treeN_mono f (a - 1) b c (a' - 1) b' c' (by omega) h2 h3
  have i2:=treeN_mono f a (b - 1) c a' (b' - 1) c' h1 (by omega) h3
  have i3:=treeN_mono f a b (c - 1) a' b' (c' - 1) h1 h2 (by omega)
  show 1+(if a=0 then 0 else treeN f (a - 1) b c)+(if b=0 then 0 else treeN f a (b - 1) c)+(if c=0 then 0 else treeN f a b (c - 1))≤1+(if a'=0 then 0 else treeN f (a' - 1) b' c')+(if b'=0 then 0 else treeN f a' (b' - 1) c')+(if c'=0 then 0 else treeN f a' b' (c' - 1))
  have k1:(if a=0 then 0 else treeN f (a - 1) b c)≤(if a'=0 then 0 else treeN f (a' - 1) b' c'):=by
   by_cases e:a=0
   ·rw [if_pos e];exact Nat.zero_le _
   ·rw [if_neg e,if_neg (by omega)];exact i1
  have k2:(if b=0 then 0 else treeN f a (b - 1) c)≤(if b'=0 then 0 else treeN f a' (b' - 1) c'):=by
   by_cases e:b=0
   ·rw [if_pos e];exact Nat.zero_le _
   ·rw [if_neg e,if_neg (by omega)];exact i2
  have k3:(if c=0 then 0 else treeN f a b (c - 1))≤(if c'=0 then 0 else treeN f a' b' (c' - 1)):=by
   by_cases e:c=0
   ·rw [if_pos e];exact Nat.zero_le _
   ·rw [if_neg e,if_neg (by omega)];exact i3
  omega
theorem treeN_332:treeN 8 3 3 2=1749:=by decide
def treeM (rows:List (List I3)):Nat→V4→List V4
 | 0,m=>[m]
 | f+1,m=>m::(nxM rows m).flatMap fun t=>treeM rows f t.2
def remM (rows:List (List I3)) (m:V4) (k:Nat):Nat:=(codeM rows k).length - (m.1.getD k 0).toNat
theorem rem_step {rows:List (List I3)} {m:V4} (hp:progOk rows=true) (hs:shapeOk m=true) {k:Nat} (hk:k<3) (hd:doneM rows m k=false) :
  remM rows (goM rows m k).1 k+1≤remM rows m k∧∀ j,j≠k→remM rows (goM rows m k).1 j=remM rows m j:=by
 have h1:=stepM_own hp hs hk hd
 have hb:=shape_bounds hs
 have hpc:=getD_in hb.1 (by omega) k
 have hlt:m.1.getD k 0<(codeM rows k).length:=by
  unfold doneM at hd
  rw [decide_eq_false_iff_not] at hd
  omega
 rw [goM_natC]
 refine ⟨?_,fun j hj=>?_⟩
 ·unfold remM
  omega
 ·unfold remM
  rw [stepM_other m _ hj]
theorem enab_three {rows:List (List I3)} {m:V4} (F:Int→Nat):((enabM rows m 3).map F).sum=(if canM rows m 0 then F 0 else 0)+(if canM rows m 1 then F 1 else 0)+(if canM rows m 2 then F 2 else 0):=by
 have e:enabM rows m 3=(if canM rows m 2 then (if canM rows m 1 then (if canM rows m 0 then []++[(0:Int)] else [])++[(1:Int)] else (if canM rows m 0 then []++[(0:Int)] else []))++[(2:Int)] else (if canM rows m 1 then (if canM rows m 0 then []++[(0:Int)] else [])++[(1:Int)] else (if canM rows m 0 then []++[(0:Int)] else []))):=rfl
 rw [e]
 cases canM rows m 0<;>cases canM rows m 1<;>cases canM rows m 2<;>simp<;>omega
theorem treeM_len {rows:List (List I3)} (hp:progOk rows=true):∀ (f:Nat) (m:V4),shapeOk m=true→(treeM rows f m).length≤treeN f (remM rows m 0) (remM rows m 1) (remM rows m 2)
 | 0,m,_=>Nat.le_refl _
 | f+1,m,hs=>by
  have key:∀ k:Nat,k<3→canM rows m k=true→(treeM rows f (goM rows m (k:Int)).1).length≤treeN f (remM rows (goM rows m (k:Int)).1 0) (remM rows (goM rows m (k:Int)).1 1) (remM rows (goM rows m (k:Int)).1 2)∧doneM rows m k=false:=fun k hk hc=>by
   have hd:doneM rows m k=false:=by
    unfold canM at hc
    simp at hc
    exact hc.1
   exact ⟨treeM_len hp f _ (goM_shape hp hs (halt_go hk hc)),hd⟩
  have hl:(treeM rows (f+1) m).length=1+((enabM rows m 3).map fun k=>(treeM rows f (goM rows m k).1).length).sum:=by
   show ((m::(nxM rows m).flatMap fun t=>treeM rows f t.2)).length=_
   rw [List.length_cons,List.length_flatMap]
   unfold nxM
   rw [List.map_map]
   simp only [Function.comp_def]
   omega
  rw [hl,enab_three fun k=>(treeM rows f (goM rows m k).1).length]
  have b0:(if canM rows m 0 then (treeM rows f (goM rows m 0).1).length else 0)≤(if remM rows m 0=0 then 0 else treeN f (remM rows m 0 - 1) (remM rows m 1) (remM rows m 2)):=by
   by_cases hc:canM rows m 0=true
   ·obtain ⟨k1,hd⟩:=key 0 (by omega) hc
    obtain ⟨r1,r2⟩:=rem_step hp hs (show 0<3 by omega) hd
    rw [if_pos hc,if_neg (by omega)]
    refine Nat.le_trans k1 (treeN_mono f _ _ _ _ _ _ ?_ ?_ ?_)
    ·have:remM rows (goM rows m ((0:Nat):Int)).1 0+1≤remM rows m 0:=r1
     omega
    ·exact Nat.le_of_eq (r2 1 (by omega))
    ·exact Nat.le_of_eq (r2 2 (by omega))
   ·rw [if_neg hc];exact Nat.zero_le _
  have b1:(if canM rows m 1 then (treeM rows f (goM rows m 1).1).length else 0)≤(if remM rows m 1=0 then 0 else treeN f (remM rows m 0) (remM rows m 1 - 1) (remM rows m 2)):=by
   by_cases hc:canM rows m 1=true
   ·obtain ⟨k1,hd⟩:=key 1 (by omega) hc
    obtain ⟨r1,r2⟩:=rem_step hp hs (show 1<3 by omega) hd
    rw [if_pos hc,if_neg (by omega)]
    refine Nat.le_trans k1 (treeN_mono f _ _ _ _ _ _ ?_ ?_ ?_)
    ·exact Nat.le_of_eq (r2 0 (by omega))
    ·have:remM rows (goM rows m ((1:Nat):Int)).1 1+1≤remM rows m 1:=r1
     omega
    ·exact Nat.le_of_eq (r2 2 (by omega))
   ·rw [if_neg hc];exact Nat.zero_le _
  have b2:(if canM rows m 2 then (treeM rows f (goM rows m 2).1).length else 0)≤(if remM rows m 2=0 then 0 else treeN f (remM rows m 0) (remM rows m 1) (remM rows m 2 - 1)):=by
   by_cases hc:canM rows m 2=true
   ·obtain ⟨k1,hd⟩:=key 2 (by omega) hc
    obtain ⟨r1,r2⟩:=rem_step hp hs (show 2<3 by omega) hd
    rw [if_pos hc,if_neg (by omega)]
    refine Nat.le_trans k1 (treeN_mono f _ _ _ _ _ _ ?_ ?_ ?_)
    ·exact Nat.le_of_eq (r2 0 (by omega))
    ·exact Nat.le_of_eq (r2 1 (by omega))
    ·have:remM rows (goM rows m ((2:Nat):Int)).1 2+1≤remM rows m 2:=r1
     omega
   ·rw [if_neg hc];exact Nat.zero_le _
  show _≤1+(if remM rows m 0=0 then 0 else treeN f (remM rows m 0 - 1) (remM rows m 1) (remM rows m 2))+(if remM rows m 1=0 then 0 else treeN f (remM rows m 0) (remM rows m 1 - 1) (remM rows m 2))+(if remM rows m 2=0 then 0 else treeN f (remM rows m 0) (remM rows m 1) (remM rows m 2 - 1))
  omega


def leftN (rows:List (List I3)) (m:V4):Nat:=remM rows m 0+remM rows m 1+remM rows m 2
theorem left_step {rows:List (List I3)} {m:V4} (hp:progOk rows=true) (hs:shapeOk m=true) {k:Int} (h:haltM rows m k=0):leftN rows (goM rows m k).1+1≤leftN rows m:=by
 obtain ⟨h0,h2,hd,hc⟩:=halt_can h
 obtain ⟨q,rfl⟩:∃ q:Nat,k=q:=⟨k.toNat,by omega⟩
 rw [Int.toNat_natCast] at hd
 obtain ⟨r1,r2⟩:=rem_step hp hs (show q<3 by omega) hd
 unfold leftN
 have hq:q=0∨q=1∨q=2:=by omega
 rcases hq with rfl | rfl | rfl
 ·have a:=r2 1 (by omega);have b:=r2 2 (by omega);omega
 ·have a:=r2 0 (by omega);have b:=r2 2 (by omega);omega
 ·have a:=r2 0 (by omega);have b:=r2 1 (by omega);omega
theorem enab_halt {rows:List (List I3)} {m:V4} {k:Int} (h:k ∈ enabM rows m 3):haltM rows m k=0:=(nxM_mem (t:=(k,(goM rows m k).1)) (List.mem_map.2 ⟨k,h,rfl⟩)).1
theorem enab_none {rows:List (List I3)} {m:V4} (hp:progOk rows=true) (hs:shapeOk m=true) (h:leftN rows m=0):enabM rows m 3=[]:=by
 rw [List.eq_nil_iff_forall_not_mem]
 intro k hk
 have:=left_step hp hs (enab_halt hk)
 omega
end Go.Proofs.YtifoggpohlegmaaGreatDoor
