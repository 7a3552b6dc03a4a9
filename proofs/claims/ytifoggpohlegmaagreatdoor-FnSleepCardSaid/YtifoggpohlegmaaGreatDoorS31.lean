/-
  Joined: FulD, NrmQ.
-/
import Derived.Test.YtifoggpohlegmaaGreatDoorS30

namespace Go.Proofs.YtifoggpohlegmaaGreatDoor
set_option maxRecDepth 100000
set_option maxHeartbeats 16000000
set_option linter.unusedVariables false

def capN (n:Nat):Nat:=Nat.min n 1000000
def cntF (rows:List (List I3)):Nat→V4→Nat
 | 0,_=>1
 | f+1,m=>if enabM rows m 3=[] then 1 else capN ((enabM rows m 3).map fun k=>cntF rows f (goM rows m k).1).sum
def leftN (rows:List (List I3)) (m:V4):Nat:=remM rows m 0+remM rows m 1+remM rows m 2
def cntM (rows:List (List I3)) (m:V4):Nat:=cntF rows (leftN rows m) m
theorem left_step {rows:List (List I3)} {m:V4} (hp:progOk rows=true) (hs:shapeOk m=true) {k:Int} (h:haltM rows m k=0):leftN rows (goM rows m k).1+1≤leftN rows m:=by
 obtain ⟨h0,h2,hd,hc⟩:=halt_can h
 obtain ⟨q,rfl⟩:∃ q:Nat,k=q:=⟨k.toNat,by omega⟩
 rw [Int.toNat_natCast] at hd
 obtain ⟨r1,r2⟩:=rem_step hp hs (show q<3 by omega) hd
 unfold leftN
 have hq:q=0∨q=1∨q=2:=by omega
 rcases hq with rfl | rfl | rfl
 ·have a:=r2 1 (by omega);have b:=r2 2 (by omega);omega
 ·have a:=r2 0 (by omega);have b:=r2 2 (by omega);omega
 ·have a:=r2 0 (by omega);have b:=r2 1 (by omega);omega
theorem enab_halt {rows:List (List I3)} {m:V4} {k:Int} (h:k ∈ enabM rows m 3):haltM rows m k=0:=(nxM_mem (t:=(k,(goM rows m k).1)) (List.mem_map.2 ⟨k,h,rfl⟩)).1
theorem enab_none {rows:List (List I3)} {m:V4} (hp:progOk rows=true) (hs:shapeOk m=true) (h:leftN rows m=0):enabM rows m 3=[]:=by
 rw [List.eq_nil_iff_forall_not_mem]
 intro k hk
 have:=left_step hp hs (enab_halt hk)
 omega
theorem cntF_more {rows:List (List I3)} (hp:progOk rows=true):∀ (f:Nat) (m:V4),shapeOk m=true→leftN rows m≤f→cntF rows (f+1) m=cntF rows f m
 | 0,m,hs,h=>by
  show (if enabM rows m 3=[] then 1 else _)=1
  rw [if_pos (enab_none hp hs (by omega))]
 | f+1,m,hs,h=>by
  show (if enabM rows m 3=[] then 1 else capN ((enabM rows m 3).map fun k=>cntF rows (f+1) (goM rows m k).1).sum)=(if enabM rows m 3=[] then 1 else capN ((enabM rows m 3).map fun k=>cntF rows f (goM rows m k).1).sum)
  have e:((enabM rows m 3).map fun k=>cntF rows (f+1) (goM rows m k).1)=((enabM rows m 3).map fun k=>cntF rows f (goM rows m k).1):=by
   refine List.map_congr_left (fun k hk=>?_)
   have hz:=enab_halt hk
   exact cntF_more hp f _ (goM_shape hp hs hz) (by have:=left_step hp hs hz;omega)
  rw [e]
theorem cntF_any {rows:List (List I3)} (hp:progOk rows=true) {m:V4} (hs:shapeOk m=true):∀ (d:Nat),cntF rows (leftN rows m+d) m=cntM rows m
 | 0=>rfl
 | d+1=>by
  rw [← Nat.add_assoc,cntF_more hp _ m hs (by omega)]
  exact cntF_any hp hs d
theorem cnt_eq {rows:List (List I3)} (hp:progOk rows=true) {m:V4} (hs:shapeOk m=true):cntM rows m=if enabM rows m 3=[] then 1 else capN ((enabM rows m 3).map fun k=>cntM rows (goM rows m k).1).sum:=by
 have h1:cntM rows m=cntF rows (leftN rows m+1) m:=(cntF_any hp hs 1).symm
 rw [h1]
 show (if enabM rows m 3=[] then 1 else capN ((enabM rows m 3).map fun k=>cntF rows (leftN rows m) (goM rows m k).1).sum)=_
 have e:((enabM rows m 3).map fun k=>cntF rows (leftN rows m) (goM rows m k).1)=((enabM rows m 3).map fun k=>cntM rows (goM rows m k).1):=by
  refine List.map_congr_left (fun k hk=>?_)
  have hz:=enab_halt hk
  have hl:=left_step hp hs hz
  obtain ⟨d,hd⟩:∃ d,leftN rows m=leftN rows (goM rows m k).1+d:=⟨leftN rows m - leftN rows (goM rows m k).1,by omega⟩
  rw [hd]
  exact cntF_any hp (goM_shape hp hs hz) d
 rw [e]
theorem capN_le (n:Nat):capN n≤1000000:=Nat.min_le_right _ _
theorem capN_eq (n:Nat):capN n=min n 1000000:=rfl
theorem cnt_bounds {rows:List (List I3)} (hp:progOk rows=true):∀ (f:Nat) (m:V4),shapeOk m=true→leftN rows m≤f→1≤cntM rows m∧cntM rows m≤1000000
 | 0,m,hs,h=>by
  rw [cnt_eq hp hs,if_pos (enab_none hp hs (by omega))]
  omega
 | f+1,m,hs,h=>by
  rw [cnt_eq hp hs]
  by_cases he:enabM rows m 3=[]
  ·rw [if_pos he];omega
  ·rw [if_neg he]
   refine ⟨?_,capN_le _⟩
   cases hx:enabM rows m 3 with
   | nil=>exact absurd hx he
   | cons k ks =>
    have hk:k ∈ enabM rows m 3:=by rw [hx];simp
    have hz:=enab_halt hk
    have:=(cnt_bounds hp f _ (goM_shape hp hs hz) (by have:=left_step hp hs hz;omega)).1
    rw [List.map_cons,List.sum_cons,capN_eq]
    omega
theorem cap_fold (F:Int→Nat):∀ (ks:List Int) (s:Nat),s≤1000000→ks.foldl (fun s k=>capN (s+F k)) s=capN (s+(ks.map F).sum)
 | [],s,h=>by simp [capN_eq];omega
 | k::ks,s,h=>by
  rw [List.foldl_cons,cap_fold F ks _ (capN_le _),List.map_cons,List.sum_cons]
  simp only [capN_eq]
  omega
def pcsN (m:V4):Int:=m.1.getD 0 0+m.1.getD 1 0+m.1.getD 2 0
theorem pcs_step {rows:List (List I3)} {m:V4} (hp:progOk rows=true) (hs:shapeOk m=true) {k:Int} (h:haltM rows m k=0):pcsN m<pcsN (goM rows m k).1:=by
 obtain ⟨h0,h2,hd,hc⟩:=halt_can h
 obtain ⟨q,rfl⟩:∃ q:Nat,k=q:=⟨k.toNat,by omega⟩
 rw [Int.toNat_natCast] at hd
 have h1:=stepM_own hp hs (show q<3 by omega) hd
 have ho:=fun j (hj:j≠q)=>stepM_other m (insM rows m q) hj
 rw [goM_natC]
 unfold pcsN
 have hq:q=0∨q=1∨q=2:=by omega
 rcases hq with rfl | rfl | rfl
 ·have a:=ho 1 (by omega);have b:=ho 2 (by omega);omega
 ·have a:=ho 0 (by omega);have b:=ho 2 (by omega);omega
 ·have a:=ho 0 (by omega);have b:=ho 1 (by omega);omega
theorem pcs_bounds {m:V4} (hs:shapeOk m=true):0≤pcsN m∧pcsN m≤18:=by
 have hb:=(shape_bounds hs).1
 have a:=getD_in hb (by omega) 0
 have b:=getD_in hb (by omega) 1
 have c:=getD_in hb (by omega) 2
 unfold pcsN
 omega


theorem depM_symm (x y:I4):depM x y=depM y x:=by
 unfold depM
 by_cases h1:x.1=y.1
 ·simp [h1]
 ·have h1':¬ y.1=x.1:=fun e=>h1 e.symm
  by_cases h2:x.2.2.2=y.2.2.2
  ·simp only [h1,h1',h2,decide_false,Bool.false_or,decide_true,Bool.and_true]
   rw [Bool.and_comm (decide (x.2.2.1=1))]
  ·have h2':¬ y.2.2.2=x.2.2.2:=fun e=>h2 e.symm
   simp [h1,h1',h2,h2']
def Sw1 (es es':List I4):Prop:=∃ a x y b,es=a++x::y::b∧es'=a++y::x::b∧depM x y=false
inductive Sw:List I4→List I4→Prop
 | refl (es:List I4):Sw es es
 | step {es es' es'':List I4}:Sw es es'→Sw1 es' es''→Sw es es''
theorem Sw1.symm {es es':List I4} (h:Sw1 es es'):Sw1 es' es:=by
 obtain ⟨a,x,y,b,h1,h2,h3⟩:=h
 exact ⟨a,y,x,b,h2,h1,by rw [depM_symm];exact h3⟩
theorem Sw.trans {a b c:List I4} (h:Sw a b) (g:Sw b c):Sw a c:=by
 induction g with
 | refl=>exact h
 | step _ s ih=>exact .step ih s
theorem Sw.symm {a b:List I4} (h:Sw a b):Sw b a:=by
 induction h with
 | refl=>exact .refl _
 | step _ s ih=>exact (Sw.step (.refl _) s.symm).trans ih
theorem Sw1.cons {es es':List I4} (e:I4) (h:Sw1 es es'):Sw1 (e::es) (e::es'):=by
 obtain ⟨a,x,y,b,h1,h2,h3⟩:=h
 exact ⟨e::a,x,y,b,by rw [h1];rfl,by rw [h2];rfl,h3⟩
theorem Sw.cons {es es':List I4} (e:I4) (h:Sw es es'):Sw (e::es) (e::es'):=by
 induction h with
 | refl=>exact .refl _
 | step _ s ih=>exact .step ih (s.cons e)
end Go.Proofs.YtifoggpohlegmaaGreatDoor
