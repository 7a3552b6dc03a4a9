/-
  Joined: CmtP, CmtQ.
-/
import Derived.Test.YtifoggpohlegmaaGreatDoorC36

namespace Go.Proofs.YtifoggpohlegmaaGreatDoor
set_option maxRecDepth 100000
set_option maxHeartbeats 16000000
open Go.RowKit
set_option linter.unusedVariables false
set_option linter.unusedSimpArgs false

def pcC (m:V4) (x:I3) (k:Nat):Int:=if x.1=7∧m.2.2.2.getD (k*2+x.2.1.toNat) 0≠0 then x.2.2 else m.1.getD k 0+1
def shC (m:V4) (x:I3) (k:Nat):List Int:=if x.1=2 then m.2.1.set x.2.1.toNat (m.2.2.2.getD (k*2+x.2.2.toNat) 0) else m.2.1
def lkC (m:V4) (x:I3) (k:Nat):List Int:=if x.1=5 then m.2.2.1.set x.2.1.toNat (k+1) else if x.1=6∧m.2.2.1.getD x.2.1.toNat 0=k+1 then m.2.2.1.set x.2.1.toNat 0 else m.2.2.1
def rgC (m:V4) (x:I3) (k:Nat):List Int:=if x.1=1 then m.2.2.2.set (k*2+x.2.1.toNat) (m.2.1.getD x.2.2.toNat 0) else if x.1=3 then m.2.2.2.set (k*2+x.2.1.toNat) x.2.2 else if x.1=4 then m.2.2.2.set (k*2+x.2.1.toNat) ((m.2.2.2.getD (k*2+x.2.1.toNat) 0+x.2.2) % 10) else m.2.2.2
theorem step_parts (m:V4) (x:I3) (k:Nat):(stepM m x k).1=(m.1.set k (pcC m x k),shC m x k,lkC m x k,rgC m x k):=by
 unfold stepM pcC shC lkC rgC
 rcases op_cases x with h | h | h | h | h | h | h | h | ⟨h1,h2,h3,h4,h5,h6,h7,h8⟩
 ·simp [h]
 ·simp [h]
 ·simp [h]
 ·simp [h]
 ·simp [h]
 ·simp [h];split<;>simp
 ·simp [h];split<;>simp_all
 ·simp [h];split<;>simp
 ·simp [h1,h2,h3,h4,h5,h6,h7];split<;>simp
theorem reg_own {k l:Nat} (h:k≠l) {a b:Int} (ha:0≤a∧a≤1) (hb:0≤b∧b≤1):k*2+a.toNat≠l*2+b.toNat:=by omega
theorem ok_bounds {x:I3} (h:okI x=true):(x.1≠2→0≤x.2.1∧x.2.1≤1)∧(x.1=1→0≤x.2.2∧x.2.2≤3)∧(x.1=2→(0≤x.2.1∧x.2.1≤3)∧0≤x.2.2∧x.2.2≤1):=by
 unfold okI at h
 simp only [inB,Bool.and_eq_true,decide_eq_true_eq] at h
 repeat' split at h
 all_goals simp_all
def clashI (x y:I3):Prop:=0≤objM x∧objM x=objM y∧¬ (x.1=1∧y.1=1)
theorem reg_kept {m:V4} {y:I3} {k l:Nat} (h:k≠l) (hy:okI y=true) {a:Int} (ha:0≤a∧a≤1):(rgC m y l).getD (k*2+a.toNat) 0=m.2.2.2.getD (k*2+a.toNat) 0:=by
 have hb:=ok_bounds hy
 unfold rgC
 repeat' split
 all_goals first
  | rfl
  | (refine getD_set_ne (reg_own h ha (hb.1 ?_));omega)
theorem sh_kept {m:V4} {x y:I3} {l:Nat} (hx:okI x=true) (hy:okI y=true) (hc:¬ clashI x y) (h1:x.1=1):(shC m y l).getD x.2.2.toNat 0=m.2.1.getD x.2.2.toNat 0:=by
 have ha:=ok_bounds hx
 have hb:=ok_bounds hy
 unfold shC
 split
 ·rename_i h2
  refine getD_set_ne (fun e=>hc ?_)
  have:=ha.2.1 h1
  have:=(hb.2.2 h2).1
  unfold clashI objM
  simp [h1,h2]
  omega
 ·rfl
theorem lk_kept {m:V4} {x y:I3} {l:Nat} (hx:okI x=true) (hy:okI y=true) (hc:¬ clashI x y) (h1:x.1=5∨x.1=6):(lkC m y l).getD x.2.1.toNat 0=m.2.2.1.getD x.2.1.toNat 0:=by
 have ha:=(ok_bounds hx).1
 have hb:=(ok_bounds hy).1
 have key:y.1=5∨y.1=6→x.2.1.toNat≠y.2.1.toNat:=fun h2 e=>hc (by
  have h3:=ha (by omega)
  have h4:=hb (by omega)
  have hxo:objM x=4+x.2.1:=by unfold objM;rw [if_neg (by omega),if_neg (by omega),if_pos h1]
  have hyo:objM y=4+y.2.1:=by unfold objM;rw [if_neg (by omega),if_neg (by omega),if_pos h2]
  refine ⟨by omega,by rw [hxo,hyo];omega,by omega⟩)
 unfold lkC
 repeat' split
 ·exact getD_set_ne (key (by omega))
 ·exact getD_set_ne (key (by omega))
 ·rfl
theorem clash_symm {x y:I3} (h:¬ clashI x y):¬ clashI y x:=fun ⟨a,b,c⟩=>h ⟨by omega,b.symm,fun e=>c ⟨e.2,e.1⟩⟩
theorem pcC_kept {m:V4} {x y:I3} {k l:Nat} (h:k≠l) (hx:okI x=true) (hy:okI y=true):pcC (stepM m y l).1 x k=pcC m x k:=by
 rw [step_parts]
 have ha:=ok_bounds hx
 unfold pcC
 simp only
 rw [getD_set_ne h]
 by_cases h7:x.1=7
 ·rw [reg_kept h hy (ha.1 (by omega))]
 ·simp [h7]
def putO (u:Option Int) (R:List Int) (i:Nat):List Int:=match u with | none=>R | some z=>R.set i z
theorem step_commute {m:V4} {x y:I3} {k l:Nat} (h:k≠l) (hx:okI x=true) (hy:okI y=true) (hc:¬ clashI x y):(stepM (stepM m x k).1 y l).1=(stepM (stepM m y l).1 x k).1:=by
 have hc':=clash_symm hc
 have bx:=ok_bounds hx
 have by':=ok_bounds hy
 have p1:=pcC_kept (m:=m) h hx hy
 have p2:=pcC_kept (m:=m) (Ne.symm h) hy hx
 rw [step_parts (stepM m x k).1,step_parts (stepM m y l).1,p1,p2]
 have e1:(stepM m x k).1.1=m.1.set k (pcC m x k):=by rw [step_parts]
 have e2:(stepM m y l).1.1=m.1.set l (pcC m y l):=by rw [step_parts]
 have hsx:(stepM m x k).1.2.1=shC m x k:=by rw [step_parts]
 have hsy:(stepM m y l).1.2.1=shC m y l:=by rw [step_parts]
 have hlx:(stepM m x k).1.2.2.1=lkC m x k:=by rw [step_parts]
 have hly:(stepM m y l).1.2.2.1=lkC m y l:=by rw [step_parts]
 have hrx:(stepM m x k).1.2.2.2=rgC m x k:=by rw [step_parts]
 have hry:(stepM m y l).1.2.2.2=rgC m y l:=by rw [step_parts]
 refine Prod.ext ?_ (Prod.ext ?_ (Prod.ext ?_ ?_))
 ·simp only
  rw [e1,e2,List.set_comm _ _ h]
 ·simp only
  unfold shC
  rw [hsx,hsy,hrx,hry]
  by_cases x2:x.1=2
  ·have rx:=reg_kept (m:=m) (y:=y) h hy (bx.2.2 x2).2
   by_cases y2:y.1=2
   ·have ry:=reg_kept (m:=m) (y:=x) (Ne.symm h) hx (by'.2.2 y2).2
    have hne:x.2.1.toNat≠y.2.1.toNat:=fun e=>hc (by
     have:=(bx.2.2 x2).1
     have:=(by'.2.2 y2).1
     unfold clashI objM
     simp [x2,y2]
     omega)
    rw [if_pos y2,if_pos x2,rx,ry]
    unfold shC
    rw [if_pos x2,if_pos y2,List.set_comm _ _ hne]
   ·rw [if_neg y2,if_pos x2,rx]
    unfold shC
    rw [if_pos x2,if_neg y2]
  ·by_cases y2:y.1=2
   ·have ry:=reg_kept (m:=m) (y:=x) (Ne.symm h) hx (by'.2.2 y2).2
    rw [if_pos y2,if_neg x2,ry]
    unfold shC
    rw [if_neg x2,if_pos y2]
   ·rw [if_neg y2,if_neg x2]
    unfold shC
    rw [if_neg x2,if_neg y2]
 ·simp only
  have kx:(x.1=5∨x.1=6)→(lkC m y l).getD x.2.1.toNat 0=m.2.2.1.getD x.2.1.toNat 0:=fun g=>lk_kept hx hy hc g
  have ky:(y.1=5∨y.1=6)→(lkC m x k).getD y.2.1.toNat 0=m.2.2.1.getD y.2.1.toNat 0:=fun g=>lk_kept hy hx hc' g
  have hne:(x.1=5∨x.1=6)→(y.1=5∨y.1=6)→x.2.1.toNat≠y.2.1.toNat:=fun h1 h2 e=>hc (by
   have h3:=bx.1 (by omega)
   have h4:=by'.1 (by omega)
   have hxo:objM x=4+x.2.1:=by unfold objM;rw [if_neg (by omega),if_neg (by omega),if_pos h1]
   have hyo:objM y=4+y.2.1:=by unfold objM;rw [if_neg (by omega),if_neg (by omega),if_pos h2]
   exact ⟨by omega,by rw [hxo,hyo];omega,by omega⟩)
  have ex:∀ L:List Int,(x.1=5∨x.1=6→L.getD x.2.1.toNat 0=m.2.2.1.getD x.2.1.toNat 0)→(if x.1=5 then L.set x.2.1.toNat ((k:Int)+1) else if x.1=6∧L.getD x.2.1.toNat 0=(k:Int)+1 then L.set x.2.1.toNat 0 else L)=(if x.1=5 then L.set x.2.1.toNat ((k:Int)+1) else if x.1=6∧m.2.2.1.getD x.2.1.toNat 0=(k:Int)+1 then L.set x.2.1.toNat 0 else L):=fun L g=>by
   by_cases a6:x.1=6
   ·rw [g (.inr a6)]
   ·simp [a6]
  have ey:∀ L:List Int,(y.1=5∨y.1=6→L.getD y.2.1.toNat 0=m.2.2.1.getD y.2.1.toNat 0)→(if y.1=5 then L.set y.2.1.toNat ((l:Int)+1) else if y.1=6∧L.getD y.2.1.toNat 0=(l:Int)+1 then L.set y.2.1.toNat 0 else L)=(if y.1=5 then L.set y.2.1.toNat ((l:Int)+1) else if y.1=6∧m.2.2.1.getD y.2.1.toNat 0=(l:Int)+1 then L.set y.2.1.toNat 0 else L):=fun L g=>by
   by_cases a6:y.1=6
   ·rw [g (.inr a6)]
   ·simp [a6]
  unfold lkC
  rw [hlx,hly,ey _ ky,ex _ kx]
  unfold lkC
  by_cases x5:x.1=5
  ·by_cases y5:y.1=5
   ·simp only [x5,y5,if_true]
    exact List.set_comm _ _ (hne (.inl x5) (.inl y5))
   ·by_cases y6:y.1=6∧m.2.2.1.getD y.2.1.toNat 0=(l:Int)+1
    ·simp only [if_pos x5,if_neg y5,if_pos y6]
     exact List.set_comm _ _ (hne (.inl x5) (.inr y6.1))
    ·simp only [if_pos x5,if_neg y5,if_neg y6]
  ·by_cases x6:x.1=6∧m.2.2.1.getD x.2.1.toNat 0=(k:Int)+1
   ·by_cases y5:y.1=5
    ·simp only [if_neg x5,if_pos x6,if_pos y5]
     exact List.set_comm _ _ (hne (.inr x6.1) (.inl y5))
    ·by_cases y6:y.1=6∧m.2.2.1.getD y.2.1.toNat 0=(l:Int)+1
     ·simp only [if_neg x5,if_pos x6,if_neg y5,if_pos y6]
      exact List.set_comm _ _ (hne (.inr x6.1) (.inr y6.1))
     ·simp only [if_neg x5,if_pos x6,if_neg y5,if_neg y6]
   ·simp only [if_neg x5,if_neg x6]
 ·simp only
  have sx:x.1=1→(shC m y l).getD x.2.2.toNat 0=m.2.1.getD x.2.2.toNat 0:=fun g=>sh_kept hx hy hc g
  have sy:y.1=1→(shC m x k).getD y.2.2.toNat 0=m.2.1.getD y.2.2.toNat 0:=fun g=>sh_kept hy hx hc' g
  have rx:x.1=4→(rgC m y l).getD (k*2+x.2.1.toNat) 0=m.2.2.2.getD (k*2+x.2.1.toNat) 0:=fun g=>reg_kept h hy (bx.1 (by omega))
  have ry:y.1=4→(rgC m x k).getD (l*2+y.2.1.toNat) 0=m.2.2.2.getD (l*2+y.2.1.toNat) 0:=fun g=>reg_kept (Ne.symm h) hx (by'.1 (by omega))
  have hne:x.1≠2→y.1≠2→k*2+x.2.1.toNat≠l*2+y.2.1.toNat:=fun a b=>reg_own h (bx.1 a) (by'.1 b)
  obtain ⟨u,hu⟩:∃ u:Option Int,∀ (S R:List Int),(x.1=1→S.getD x.2.2.toNat 0=m.2.1.getD x.2.2.toNat 0)→(x.1=4→R.getD (k*2+x.2.1.toNat) 0=m.2.2.2.getD (k*2+x.2.1.toNat) 0)→(if x.1=1 then R.set (k*2+x.2.1.toNat) (S.getD x.2.2.toNat 0) else if x.1=3 then R.set (k*2+x.2.1.toNat) x.2.2 else if x.1=4 then R.set (k*2+x.2.1.toNat) ((R.getD (k*2+x.2.1.toNat) 0+x.2.2) % 10) else R)=putO u (R) (k*2+x.2.1.toNat)∧(u≠none→x.1≠2):=by
   by_cases a1:x.1=1
   ·exact ⟨some (m.2.1.getD x.2.2.toNat 0),fun S R g1 g4=>⟨by rw [if_pos a1,g1 a1];rfl,fun _=>by omega⟩⟩
   ·by_cases a3:x.1=3
    ·exact ⟨some x.2.2,fun S R g1 g4=>⟨by rw [if_neg a1,if_pos a3];rfl,fun _=>by omega⟩⟩
    ·by_cases a4:x.1=4
     ·exact ⟨some ((m.2.2.2.getD (k*2+x.2.1.toNat) 0+x.2.2) % 10),fun S R g1 g4=>⟨by rw [if_neg a1,if_neg a3,if_pos a4,g4 a4];rfl,fun _=>by omega⟩⟩
     ·exact ⟨none,fun S R g1 g4=>⟨by rw [if_neg a1,if_neg a3,if_neg a4];rfl,fun g=>absurd rfl g⟩⟩
  obtain ⟨v,hv⟩:∃ v:Option Int,∀ (S R:List Int),(y.1=1→S.getD y.2.2.toNat 0=m.2.1.getD y.2.2.toNat 0)→(y.1=4→R.getD (l*2+y.2.1.toNat) 0=m.2.2.2.getD (l*2+y.2.1.toNat) 0)→(if y.1=1 then R.set (l*2+y.2.1.toNat) (S.getD y.2.2.toNat 0) else if y.1=3 then R.set (l*2+y.2.1.toNat) y.2.2 else if y.1=4 then R.set (l*2+y.2.1.toNat) ((R.getD (l*2+y.2.1.toNat) 0+y.2.2) % 10) else R)=putO v (R) (l*2+y.2.1.toNat)∧(v≠none→y.1≠2):=by
   by_cases a1:y.1=1
   ·exact ⟨some (m.2.1.getD y.2.2.toNat 0),fun S R g1 g4=>⟨by rw [if_pos a1,g1 a1];rfl,fun _=>by omega⟩⟩
   ·by_cases a3:y.1=3
    ·exact ⟨some y.2.2,fun S R g1 g4=>⟨by rw [if_neg a1,if_pos a3];rfl,fun _=>by omega⟩⟩
    ·by_cases a4:y.1=4
     ·exact ⟨some ((m.2.2.2.getD (l*2+y.2.1.toNat) 0+y.2.2) % 10),fun S R g1 g4=>⟨by rw [if_neg a1,if_neg a3,if_pos a4,g4 a4];rfl,fun _=>by omega⟩⟩
     ·exact ⟨none,fun S R g1 g4=>⟨by rw [if_neg a1,if_neg a3,if_neg a4];rfl,fun g=>absurd rfl g⟩⟩
  have f1:=hv (shC m x k) (rgC m x k) sy ry
  have f2:=hu (shC m y l) (rgC m y l) sx rx
  have f3:=hu m.2.1 m.2.2.2 (fun _=>rfl) (fun _=>rfl)
  have f4:=hv m.2.1 m.2.2.2 (fun _=>rfl) (fun _=>rfl)
  have g3:rgC m x k=putO u (m.2.2.2) (k*2+x.2.1.toNat):=f3.1
  have g4:rgC m y l=putO v (m.2.2.2) (l*2+y.2.1.toNat):=f4.1
  have g1:rgC (stepM m x k).1 y l=putO v (rgC m x k) (l*2+y.2.1.toNat):=by
   rw [← f1.1]
   show rgC (stepM m x k).1 y l=_
   unfold rgC
   rw [hsx,hrx]
   rfl
  have g2:rgC (stepM m y l).1 x k=putO u (rgC m y l) (k*2+x.2.1.toNat):=by
   rw [← f2.1]
   show rgC (stepM m y l).1 x k=_
   unfold rgC
   rw [hsy,hry]
   rfl
  rw [g1,g2,g3,g4]
  cases u with
  | none=>cases v<;>rfl
  | some a =>
   cases v with
   | none=>rfl
   | some b=>exact List.set_comm _ _ (hne (f3.2 (by simp)) (f4.2 (by simp)))


theorem goM_natC (rows:List (List I3)) (m:V4) (k:Nat):goM rows m (k:Int)=stepM m (insM rows m k) k:=by unfold goM;rw [Int.toNat_natCast]
theorem done_other {rows:List (List I3)} {m:V4} {x:I3} {k l:Nat} (h:k≠l):doneM rows (stepM m x k).1 l=doneM rows m l:=by unfold doneM;rw [stepM_other m x (Ne.symm h)]
theorem ins_other {rows:List (List I3)} {m:V4} {x:I3} {k l:Nat} (h:k≠l):insM rows (stepM m x k).1 l=insM rows m l:=by unfold insM;rw [stepM_other m x (Ne.symm h)]
theorem event_other {rows:List (List I3)} {m:V4} {x:I3} {k l:Nat} (h:k≠l):eventM rows (stepM m x k).1 l=eventM rows m l:=by unfold eventM;rw [ins_other h,stepM_other m x (Ne.symm h)]
theorem lock_other {m:V4} {x y:I3} {k:Nat} (hx:okI x=true) (hy:okI y=true) (hc:¬ clashI x y):atLock (stepM m x k).1 y=atLock m y:=by
 unfold atLock
 by_cases h5:y.1=5
 ·rw [step_parts]
  simp only
  rw [lk_kept hy hx (clash_symm hc) (.inl h5)]
 ·simp [h5]
theorem dep_clash {rows:List (List I3)} {m:V4} {k l:Nat} (hd:depM (eventM rows m k) (eventM rows m l)=false):k≠l∧¬ clashI (insM rows m k) (insM rows m l):=by
 unfold depM eventM at hd
 simp only [Bool.or_eq_false_iff,decide_eq_false_iff_not] at hd
 obtain ⟨h1,h2⟩:=hd
 refine ⟨fun e=>h1 (by rw [e]),?_⟩
 rintro ⟨a,b,c⟩
 have e1:decide (0≤objM (insM rows m k))=true:=by simp [a]
 have e2:decide (objM (insM rows m k)=objM (insM rows m l))=true:=by simp [b]
 have e3:(decide ((insM rows m k).1=1) && decide ((insM rows m l).1=1))=false:=by
  cases e:(decide ((insM rows m k).1=1) && decide ((insM rows m l).1=1))
  ·rfl
  ·simp only [Bool.and_eq_true,decide_eq_true_eq] at e
   exact absurd e c
 rw [e1,e2,e3] at h2
 cases h2
theorem halt_go {rows:List (List I3)} {m:V4} {k:Nat} (hk:k<3) (hc:canM rows m k=true):haltM rows m (k:Int)=0:=by
 have hd:=(can_parts hc).1
 unfold haltM
 rw [if_pos (by omega),Int.toNat_natCast]
 simp [hd,hc]
theorem go_commute {rows:List (List I3)} {m:V4} {k l:Nat} (hp:progOk rows=true) (hs:shapeOk m=true) (h1:haltM rows m (k:Int)=0) (h2:haltM rows (goM rows m (k:Int)).1 (l:Int)=0) (hd:depM (eventM rows m k) (eventM rows (goM rows m (k:Int)).1 l)=false) :
  haltM rows m (l:Int)=0∧haltM rows (goM rows m (l:Int)).1 (k:Int)=0∧(goM rows (goM rows m (l:Int)).1 (k:Int)).1=(goM rows (goM rows m (k:Int)).1 (l:Int)).1∧eventM rows m l=eventM rows (goM rows m (k:Int)).1 l∧eventM rows (goM rows m (l:Int)).1 k=eventM rows m k:=by
 obtain ⟨a0,a1,a2,a3⟩:=halt_can h1
 obtain ⟨b0,b1,b2,b3⟩:=halt_can h2
 rw [Int.toNat_natCast] at a2 a3 b2 b3
 have hk:k<3:=by omega
 have hl:l<3:=by omega
 simp only [goM_natC] at *
 have hkl:k≠l:=fun e=>by
  subst e
  unfold depM eventM at hd
  simp at hd
 rw [event_other hkl] at hd
 obtain ⟨_,hc⟩:=dep_clash hd
 rw [done_other hkl] at b2
 obtain ⟨_,_,_,_,ox⟩:=at_ins hp hs hk a2
 obtain ⟨_,_,_,_,oy⟩:=at_ins hp hs hl b2
 have c1:canM rows m l=true:=by
  unfold canM at b3 ⊢
  rw [done_other hkl,ins_other hkl,lock_other ox oy hc] at b3
  exact b3
 have c2:canM rows (stepM m (insM rows m l) l).1 k=true:=by
  unfold canM at a3 ⊢
  rw [done_other (Ne.symm hkl),ins_other (Ne.symm hkl),lock_other oy ox (clash_symm hc)]
  exact a3
 refine ⟨halt_go hl c1,halt_go hk c2,?_,(event_other hkl).symm,event_other (Ne.symm hkl)⟩
 rw [ins_other hkl,ins_other (Ne.symm hkl)]
 exact (step_commute hkl ox oy hc).symm
theorem runI_fs (rows:List (List I3)):∀ (ks:List Int) (m:V4) (fs fs':List I3),(runI rows m fs ks).1=(runI rows m fs' ks).1∧(runI rows m fs ks).2.2=(runI rows m fs' ks).2.2
 | [],m,fs,fs'=>⟨rfl,rfl⟩
 | k::ks,m,fs,fs'=>by
  have e:∀ f,runI rows m f (k::ks)=if haltM rows m k=0 then runI rows (goM rows m k).1 (f++ownM rows m k) ks else (m,f,haltM rows m k):=fun f=>rfl
  rw [e,e]
  split
  ·exact runI_fs rows ks _ _ _
  ·exact ⟨rfl,rfl⟩
theorem runI_cons {rows:List (List I3)} {m:V4} {fs:List I3} {k:Int} {ks:List Int} (h:(runI rows m fs (k::ks)).2.2=0):haltM rows m k=0∧runI rows m fs (k::ks)=runI rows (goM rows m k).1 (fs++ownM rows m k) ks:=by
 have e:runI rows m fs (k::ks)=if haltM rows m k=0 then runI rows (goM rows m k).1 (fs++ownM rows m k) ks else (m,fs,haltM rows m k):=rfl
 by_cases hz:haltM rows m k=0
 ·rw [if_pos hz] at e
  exact ⟨hz,e⟩
 ·rw [e,if_neg hz] at h
  exact absurd h hz
theorem runI_yes {rows:List (List I3)} {m:V4} {fs:List I3} {k:Int} {ks:List Int} (hz:haltM rows m k=0):runI rows m fs (k::ks)=runI rows (goM rows m k).1 (fs++ownM rows m k) ks:=by
 show (if haltM rows m k=0 then _ else _)=_
 rw [if_pos hz]
theorem run_swap {rows:List (List I3)} {m:V4} {fs:List I3} {k l:Int} {ks:List Int} (hp:progOk rows=true) (hs:shapeOk m=true) (h:(runI rows m fs (k::l::ks)).2.2=0) (hd:depM (eventM rows m k.toNat) (eventM rows (goM rows m k).1 l.toNat)=false) :
  (runI rows m fs (l::k::ks)).1=(runI rows m fs (k::l::ks)).1∧(runI rows m fs (l::k::ks)).2.2=0∧evsM rows m (l::k::ks)=eventM rows (goM rows m k).1 l.toNat::eventM rows m k.toNat::evsM rows (goM rows (goM rows m k).1 l).1 ks:=by
 obtain ⟨h1,e1⟩:=runI_cons h
 rw [e1] at h ⊢
 obtain ⟨h2,e2⟩:=runI_cons h
 rw [e2] at h ⊢
 obtain ⟨a0,a1,_,_⟩:=halt_can h1
 obtain ⟨b0,b1,_,_⟩:=halt_can h2
 obtain ⟨k',rfl⟩:∃ k':Nat,k=k':=⟨k.toNat,by omega⟩
 obtain ⟨l',rfl⟩:∃ l':Nat,l=l':=⟨l.toNat,by omega⟩
 simp only [Int.toNat_natCast] at hd ⊢
 obtain ⟨g1,g2,g3,g4,g5⟩:=go_commute hp hs h1 h2 hd
 rw [runI_yes g1,runI_yes g2,g3]
 obtain ⟨f1,f2⟩:=runI_fs rows ks (goM rows (goM rows m (k':Int)).1 (l':Int)).1 (fs++ownM rows m (l':Int)++ownM rows (goM rows m (l':Int)).1 (k':Int)) (fs++ownM rows m (k':Int)++ownM rows (goM rows m (k':Int)).1 (l':Int))
 refine ⟨f1,f2.trans h,?_⟩
 show eventM rows m (l':Int).toNat::eventM rows (goM rows m (l':Int)).1 (k':Int).toNat::evsM rows (goM rows (goM rows m (l':Int)).1 (k':Int)).1 ks=_
 rw [Int.toNat_natCast,Int.toNat_natCast,g3,g4,g5]
theorem run_app {rows:List (List I3)}:∀ (pre ks:List Int) (m:V4) (fs:List I3),(runI rows m fs pre).2.2=0→runI rows m fs (pre++ks)=runI rows (runI rows m fs pre).1 (runI rows m fs pre).2.1 ks∧evsM rows m (pre++ks)=evsM rows m pre++evsM rows (runI rows m fs pre).1 ks
 | [],ks,m,fs,_=>⟨rfl,rfl⟩
 | k::pre,ks,m,fs,h=>by
  obtain ⟨h1,e1⟩:=runI_cons h
  rw [e1] at h ⊢
  obtain ⟨i1,i2⟩:=run_app pre ks _ _ h
  rw [List.cons_append,runI_yes h1,i1]
  refine ⟨rfl,?_⟩
  show eventM rows m k.toNat::evsM rows (goM rows m k).1 (pre++ks)=eventM rows m k.toNat::(evsM rows (goM rows m k).1 pre++_)
  rw [i2]
theorem run_pre {rows:List (List I3)}:∀ (pre ks:List Int) (m:V4) (fs:List I3),(runI rows m fs (pre++ks)).2.2=0→(runI rows m fs pre).2.2=0
 | [],ks,m,fs,_=>rfl
 | k::pre,ks,m,fs,h=>by
  rw [List.cons_append] at h
  obtain ⟨h1,e1⟩:=runI_cons h
  rw [runI_yes h1]
  rw [e1] at h
  exact run_pre pre ks _ _ h
theorem evsM_len (rows:List (List I3)):∀ (ks:List Int) (m:V4),(evsM rows m ks).length=ks.length
 | [],m=>rfl
 | k::ks,m=>by show (evsM rows (goM rows m k).1 ks).length+1=ks.length+1;rw [evsM_len rows ks]
theorem swap_at {rows:List (List I3)} (hp:progOk rows=true) (pre ks:List Int) (k l:Int) (h:(runI rows zeroV [] (pre++k::l::ks)).2.2=0) :
  ∃ e1 e2 rest,evsM rows zeroV (pre++k::l::ks)=evsM rows zeroV pre++e1::e2::rest∧(depM e1 e2=false→(runI rows zeroV [] (pre++l::k::ks)).1=(runI rows zeroV [] (pre++k::l::ks)).1∧(runI rows zeroV [] (pre++l::k::ks)).2.2=0∧evsM rows zeroV (pre++l::k::ks)=evsM rows zeroV pre++e2::e1::rest):=by
 have h0:=run_pre pre (k::l::ks) zeroV [] h
 have a1:=run_app pre (k::l::ks) zeroV [] h0
 have a2:=run_app pre (l::k::ks) zeroV [] h0
 have hs:=(runI_ok hp pre zeroV [] zero_shape (by simp)).1
 rw [a1.1] at h
 refine ⟨_,_,_,a1.2,fun hd=>?_⟩
 obtain ⟨s1,s2,s3⟩:=run_swap hp hs h hd
 rw [a1.1,a2.1,a2.2,s3]
 exact ⟨s1,s2,rfl⟩
end Go.Proofs.YtifoggpohlegmaaGreatDoor
