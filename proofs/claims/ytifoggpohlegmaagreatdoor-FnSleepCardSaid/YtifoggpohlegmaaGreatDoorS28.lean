/-
  Joined: CmtQ, FulQ.
-/
import Derived.Test.YtifoggpohlegmaaGreatDoorS22
import Derived.Test.YtifoggpohlegmaaGreatDoorS27

namespace Go.Proofs.YtifoggpohlegmaaGreatDoor
set_option maxRecDepth 100000
set_option maxHeartbeats 16000000
open Go.RowKit
set_option linter.unusedVariables false
set_option linter.unusedSimpArgs false

theorem goM_natC (rows:List (List I3)) (m:V4) (k:Nat):goM rows m (k:Int)=stepM m (insM rows m k) k:=by unfold goM;rw [Int.toNat_natCast]
theorem done_other {rows:List (List I3)} {m:V4} {x:I3} {k l:Nat} (h:k≠l):doneM rows (stepM m x k).1 l=doneM rows m l:=by unfold doneM;rw [stepM_other m x (Ne.symm h)]
theorem ins_other {rows:List (List I3)} {m:V4} {x:I3} {k l:Nat} (h:k≠l):insM rows (stepM m x k).1 l=insM rows m l:=by unfold insM;rw [stepM_other m x (Ne.symm h)]
theorem event_other {rows:List (List I3)} {m:V4} {x:I3} {k l:Nat} (h:k≠l):eventM rows (stepM m x k).1 l=eventM rows m l:=by unfold eventM;rw [ins_other h,stepM_other m x (Ne.symm h)]
theorem lock_other {m:V4} {x y:I3} {k:Nat} (hx:okI x=true) (hy:okI y=true) (hc:¬ clashI x y):atLock (stepM m x k).1 y=atLock m y:=by
 unfold atLock
 by_cases h5:y.1=5
 ·rw [step_parts]
  simp only
  rw [lk_kept hy hx (clash_symm hc) (.inl h5)]
 ·simp [h5]
theorem dep_clash {rows:List (List I3)} {m:V4} {k l:Nat} (hd:depM (eventM rows m k) (eventM rows m l)=false):k≠l∧¬ clashI (insM rows m k) (insM rows m l):=by
 unfold depM eventM at hd
 simp only [Bool.or_eq_false_iff,decide_eq_false_iff_not] at hd
 obtain ⟨h1,h2⟩:=hd
 refine ⟨fun e=>h1 (by rw [e]),?_⟩
 rintro ⟨a,b,c⟩
 have e1:decide (0≤objM (insM rows m k))=true:=by simp [a]
 have e2:decide (objM (insM rows m k)=objM (insM rows m l))=true:=by simp [b]
 have e3:(decide ((insM rows m k).1=1) && decide ((insM rows m l).1=1))=false:=by
  cases e:(decide ((insM rows m k).1=1) && decide ((insM rows m l).1=1))
  ·rfl
  ·simp only [Bool.and_eq_true,decide_eq_true_eq] at e
   exact absurd e c
 rw [e1,e2,e3] at h2
 cases h2
theorem halt_go {rows:List (List I3)} {m:V4} {k:Nat} (hk:k<3) (hc:canM rows m k=true):haltM rows m (k:Int)=0:=by
 have hd:=(can_parts hc).1
 unfold haltM
 rw [if_pos (by omega),Int.toNat_natCast]
 simp [hd,hc]
theorem go_commute {rows:List (List I3)} {m:V4} {k l:Nat} (hp:progOk rows=true) (hs:shapeOk m=true) (h1:haltM rows m (k:Int)=0) (h2:haltM rows (goM rows m (k:Int)).1 (l:Int)=0) (hd:depM (eventM rows m k) (eventM rows (goM rows m (k:Int)).1 l)=false) :
  haltM rows m (l:Int)=0∧haltM rows (goM rows m (l:Int)).1 (k:Int)=0∧(goM rows (goM rows m (l:Int)).1 (k:Int)).1=(goM rows (goM rows m (k:Int)).1 (l:Int)).1∧eventM rows m l=eventM rows (goM rows m (k:Int)).1 l∧eventM rows (goM rows m (l:Int)).1 k=eventM rows m k:=by
 obtain ⟨a0,a1,a2,a3⟩:=halt_can h1
 obtain ⟨b0,b1,b2,b3⟩:=halt_can h2
 rw [Int.toNat_natCast] at a2 a3 b2 b3
 have hk:k<3:=by omega
 have hl:l<3:=by omega
 simp only [goM_natC] at *
 have hkl:k≠l:=fun e=>by
  subst e
  unfold depM eventM at hd
  simp at hd
 rw [event_other hkl] at hd
 obtain ⟨_,hc⟩:=dep_clash hd
 rw [done_other hkl] at b2
 obtain ⟨_,_,_,_,ox⟩:=at_ins hp hs hk a2
 obtain ⟨_,_,_,_,oy⟩:=at_ins hp hs hl b2
 have c1:canM rows m l=true:=by
  unfold canM at b3 ⊢
  rw [done_other hkl,ins_other hkl,lock_other ox oy hc] at b3
  exact b3
 have c2:canM rows (stepM m (insM rows m l) l).1 k=true:=by
  unfold canM at a3 ⊢
  rw [done_other (Ne.symm hkl),ins_other (Ne.symm hkl),lock_other oy ox (clash_symm hc)]
  exact a3
 refine ⟨halt_go hl c1,halt_go hk c2,?_,(event_other hkl).symm,event_other (Ne.symm hkl)⟩
 rw [ins_other hkl,ins_other (Ne.symm hkl)]
 exact (step_commute hkl ox oy hc).symm
theorem runI_fs (rows:List (List I3)):∀ (ks:List Int) (m:V4) (fs fs':List I3),(runI rows m fs ks).1=(runI rows m fs' ks).1∧(runI rows m fs ks).2.2=(runI rows m fs' ks).2.2
 | [],m,fs,fs'=>⟨rfl,rfl⟩
 | k::ks,m,fs,fs'=>by
  have e:∀ f,runI rows m f (k::ks)=if haltM rows m k=0 then runI rows (goM rows m k).1 (f++ownM rows m k) ks else (m,f,haltM rows m k):=fun f=>rfl
  rw [e,e]
  split
  ·exact runI_fs rows ks _ _ _
  ·exact ⟨rfl,rfl⟩
theorem runI_cons {rows:List (List I3)} {m:V4} {fs:List I3} {k:Int} {ks:List Int} (h:(runI rows m fs (k::ks)).2.2=0):haltM rows m k=0∧runI rows m fs (k::ks)=runI rows (goM rows m k).1 (fs++ownM rows m k) ks:=by
 have e:runI rows m fs (k::ks)=if haltM rows m k=0 then runI rows (goM rows m k).1 (fs++ownM rows m k) ks else (m,fs,haltM rows m k):=rfl
 by_cases hz:haltM rows m k=0
 ·rw [if_pos hz] at e
  exact ⟨hz,e⟩
 ·rw [e,if_neg hz] at h
  exact absurd h hz
theorem runI_yes {rows:List (List I3)} {m:V4} {fs:List I3} {k:Int} {ks:List Int} (hz:haltM rows m k=0):runI rows m fs (k::ks)=runI rows (goM rows m k).1 (fs++ownM rows m k) ks:=by
 show (if haltM rows m k=0 then _ else _)=_
 rw [if_pos hz]
theorem run_swap {rows:List (List I3)} {m:V4} {fs:List I3} {k l:Int} {ks:List Int} (hp:progOk rows=true) (hs:shapeOk m=true) (h:(runI rows m fs (k::l::ks)).2.2=0) (hd:depM (eventM rows m k.toNat) (eventM rows (goM rows m k).1 l.toNat)=false) :
  (runI rows m fs (l::k::ks)).1=(runI rows m fs (k::l::ks)).1∧(runI rows m fs (l::k::ks)).2.2=0∧evsM rows m (l::k::ks)=eventM rows (goM rows m k).1 l.toNat::eventM rows m k.toNat::evsM rows (goM rows (goM rows m k).1 l).1 ks:=by
 obtain ⟨h1,e1⟩:=runI_cons h
 rw [e1] at h ⊢
 obtain ⟨h2,e2⟩:=runI_cons h
 rw [e2] at h ⊢
 obtain ⟨a0,a1,_,_⟩:=halt_can h1
 obtain ⟨b0,b1,_,_⟩:=halt_can h2
 obtain ⟨k',rfl⟩:∃ k':Nat,k=k':=⟨k.toNat,by omega⟩
 obtain ⟨l',rfl⟩:∃ l':Nat,l=l':=⟨l.toNat,by omega⟩
 simp only [Int.toNat_natCast] at hd ⊢
 obtain ⟨g1,g2,g3,g4,g5⟩:=go_commute hp hs h1 h2 hd
 rw [runI_yes g1,runI_yes g2,g3]
 obtain ⟨f1,f2⟩:=runI_fs rows ks (goM rows (goM rows m (k':Int)).1 (l':Int)).1 (fs++ownM rows m (l':Int)++ownM rows (goM rows m (l':Int)).1 (k':Int)) (fs++ownM rows m (k':Int)++ownM rows (goM rows m (k':Int)).1 (l':Int))
 refine ⟨f1,f2.trans h,?_⟩
 show eventM rows m (l':Int).toNat::eventM rows (goM rows m (l':Int)).1 (k':Int).toNat::evsM rows (goM rows (goM rows m (l':Int)).1 (k':Int)).1 ks=_
 rw [Int.toNat_natCast,Int.toNat_natCast,g3,g4,g5]
theorem run_app {rows:List (List I3)}:∀ (pre ks:List Int) (m:V4) (fs:List I3),(runI rows m fs pre).2.2=0→runI rows m fs (pre++ks)=runI rows (runI rows m fs pre).1 (runI rows m fs pre).2.1 ks∧evsM rows m (pre++ks)=evsM rows m pre++evsM rows (runI rows m fs pre).1 ks
 | [],ks,m,fs,_=>⟨rfl,rfl⟩
 | k::pre,ks,m,fs,h=>by
  obtain ⟨h1,e1⟩:=runI_cons h
  rw [e1] at h ⊢
  obtain ⟨i1,i2⟩:=run_app pre ks _ _ h
  rw [List.cons_append,runI_yes h1,i1]
  refine ⟨rfl,?_⟩
  show eventM rows m k.toNat::evsM rows (goM rows m k).1 (pre++ks)=eventM rows m k.toNat::(evsM rows (goM rows m k).1 pre++_)
  rw [i2]


def nxM (rows:List (List I3)) (m:V4):List (Int × V4):=(enabM rows m 3).map fun k=>(k,(goM rows m k).1)
theorem nxM_mem {rows:List (List I3)} {m:V4} {t:Int × V4} (h:t ∈ nxM rows m):haltM rows m t.1=0∧t.2=(goM rows m t.1).1:=by
 unfold nxM at h
 obtain ⟨k,hk,rfl⟩:=List.mem_map.1 h
 obtain ⟨i,hi,hie⟩:=List.getElem_of_mem hk
 obtain ⟨k',e,h3,hc⟩:=enab_at hi
 have e2:(enabM rows m 3).getD i 0=k:=by simp [List.getD,hi,hie]
 rw [e2] at e
 subst e
 exact ⟨halt_go h3 hc,rfl⟩
theorem nxM_of {rows:List (List I3)} {m:V4} {k:Int} (h:haltM rows m k=0):(k,(goM rows m k).1) ∈ nxM rows m:=by
 obtain ⟨h0,h2,hd,hc⟩:=halt_can h
 obtain ⟨q,rfl⟩:∃ q:Nat,k=q:=⟨k.toNat,by omega⟩
 rw [Int.toNat_natCast] at hc
 exact List.mem_map.2 ⟨(q:Int),(mem_enab 3).2 ⟨by omega,hc⟩,rfl⟩
theorem nxM_shape {rows:List (List I3)} {m:V4} (hp:progOk rows=true) (hs:shapeOk m=true) {t:Int × V4} (h:t ∈ nxM rows m):shapeOk t.2=true:=by
 obtain ⟨h1,h2⟩:=nxM_mem h
 rw [h2]
 exact goM_shape hp hs h1
def fullS (rows:List (List I3)):List (Rec6 V4):=srch (nxM rows) 2000 0 [(zeroV,0,0)]
def Shaped (S:List (Rec6 V4)):Prop:=∀ r ∈ S,shapeOk r.1=true
theorem putS_shaped {i:Nat} {S:List (Rec6 V4)} {t:Int × V4} (h:Shaped S) (ht:shapeOk t.2=true):Shaped (putS i S t):=by
 unfold putS
 split
 ·exact h
 ·intro r hr
  rcases List.mem_append.1 hr with hr | hr
  ·exact h r hr
  ·simp at hr
   subst hr
   exact ht
theorem onS_shaped {i:Nat}:∀ (ts:List (Int × V4)) (S:List (Rec6 V4)),Shaped S→(∀ t ∈ ts,shapeOk t.2=true)→Shaped (onS i S ts)
 | [],S,h,_=>h
 | t::ts,S,h,ht=>onS_shaped ts _ (putS_shaped h (ht t (by simp))) (fun u hu=>ht u (by simp [hu]))
theorem srch_shaped {rows:List (List I3)} (hp:progOk rows=true):∀ (f i:Nat) (S:List (Rec6 V4)),Shaped S→Shaped (srch (nxM rows) f i S)
 | 0,_,S,h=>h
 | f+1,i,S,h=>by
  unfold srch
  split
  ·exact h
  ·rename_i r hr
   exact srch_shaped hp f (i+1) _ (onS_shaped _ S h (fun t ht=>nxM_shape hp (h r (List.mem_of_getElem? hr)) ht))
theorem fullS_shaped {rows:List (List I3)} (hp:progOk rows=true):Shaped (fullS rows):=srch_shaped hp _ _ _ (fun r hr=>by simp at hr;subst hr;exact zero_shape)
theorem fullS_head (rows:List (List I3)):(fullS rows)[0]?=some (zeroV,0,0):=by
 obtain ⟨r,hr⟩:=srch_pre (nxM rows) 2000 0 [(zeroV,0,0)]
 unfold fullS
 rw [← hr]
 rfl
theorem fullS_came (rows:List (List I3)):Came (nxM rows) (fullS rows):=srch_came _ _ _ (fun j r hj hr=>by
 match j,hj with
 | j+1,_=>simp at hr)
theorem fullS_nodup (rows:List (List I3)):((fullS rows).map (·.1)).Nodup:=srch_nodup _ _ _ (by simp)
theorem fullS_closed {rows:List (List I3)} (h:(fullS rows).length≤2000):∀ r ∈ fullS rows,∀ t ∈ nxM rows r.1,t.2 ∈ (fullS rows).map (·.1):=
 srch_closed 2000 0 _ (fun j r hj=>by omega) (by omega) (by unfold fullS at h;omega)
def pathS (S:List (Rec6 V4)):Nat→Nat→List Int
 | 0,_=>[]
 | f+1,j=>if j=0 then [] else match S[j]? with
  | none=>[]
  | some r=>pathS S f r.2.1++[r.2.2]
theorem path_run {rows:List (List I3)} {S:List (Rec6 V4)} (hC:Came (nxM rows) S) (h0:S[0]?=some (zeroV,0,0)):∀ (f j:Nat) (r:Rec6 V4),j≤f→S[j]?=some r →
  (runI rows zeroV [] (pathS S f j)).1=r.1∧(runI rows zeroV [] (pathS S f j)).2.2=0∧(pathS S f j).length≤j
 | 0,j,r,hj,hr=>by
  obtain rfl:j=0:=by omega
  rw [h0] at hr
  cases hr
  exact ⟨rfl,rfl,Nat.le_refl _⟩
 | f+1,j,r,hj,hr=>by
  by_cases e:j=0
  ·subst e
   rw [h0] at hr
   cases hr
   exact ⟨rfl,rfl,Nat.le_refl _⟩
  ·obtain ⟨h1,q,h2,h3⟩:=hC j r (by omega) hr
   have hp9:pathS S (f+1) j=pathS S f r.2.1++[r.2.2]:=by
    show (if j=0 then [] else match S[j]? with | none=>[] | some r=>pathS S f r.2.1++[r.2.2])=_
    rw [if_neg e,hr]
   obtain ⟨i1,i2,i3⟩:=path_run hC h0 f r.2.1 q (by omega) h2
   obtain ⟨n1,n2⟩:=nxM_mem h3
   simp only at n1 n2
   have ha:=(run_app (rows:=rows) (pathS S f r.2.1) [r.2.2] zeroV [] i2).1
   rw [i1] at ha
   have hg:runI rows q.1 (runI rows zeroV [] (pathS S f r.2.1)).2.1 [r.2.2]=((goM rows q.1 r.2.2).1,(runI rows zeroV [] (pathS S f r.2.1)).2.1++ownM rows q.1 r.2.2,0):=by
    show (if haltM rows q.1 r.2.2=0 then _ else _)=_
    rw [if_pos n1]
    rfl
   rw [hp9,ha,hg]
   refine ⟨n2.symm,rfl,?_⟩
   rw [List.length_append]
   simp
   omega
end Go.Proofs.YtifoggpohlegmaaGreatDoor
