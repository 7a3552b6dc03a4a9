/-
  Joined: SlwE, SlpQ.
-/
import Derived.Test.YtifoggpohlegmaaGreatDoorRows
import Derived.ProofKit
import Derived.OpenShut
import Derived.LaidMore
import Derived.MakeChecks
import Derived.Stop.LaidErr
import Derived.Test.YtifoggpohlegmaaGreatDoorS43

namespace Go.Proofs.YtifoggpohlegmaaGreatDoor
set_option maxRecDepth 100000
set_option maxHeartbeats 16000000
open Go.RowKit
set_option linter.unusedVariables false

theorem slpB_ok (rows:List (List I3)):(∀ x ∈ slpB rows,I3.fits x)∧(slpB rows).length≤100000:=by
 unfold slpB
 split
 ·rename_i h
  unfold slpC at h
  split at h
  ·rename_i hp
   split at h
   ·rename_i h5
    refine ⟨fun x hx=>?_,?_⟩
    ·rw [mem_mergeB] at hx
     rcases hx with hx | hx
     ·exact slp_fits hp x hx
     ·simp at hx
    ·have h1:=mergeB_len (slpS rows).1 []
     have h2:=(visI_size rows 19 zeroV [] ([],0,0) 0 (by simp) (by simp)).1
     have e:visI rows 19 zeroV [] ([],0,0)=slpS rows:=rfl
     rw [e] at h2
     simp only [List.length_nil] at h1
     omega
   ·omega
  ·omega
 ·exact ⟨fun x hx=>by simp at hx,by simp⟩


def cdC (m:V4) (x:I3) (k:Nat):Int:=if x.1=6 then (if m.2.2.1.getD x.2.1.toNat 0=k+1 then 0 else 13) else if x.1=1∨x.1=2∨x.1=3∨x.1=4∨x.1=5∨x.1=7 then 0 else if m.2.2.2.getD (k*2+x.2.1.toNat) 0=x.2.2 then 0 else 12
theorem step_cdC (m:V4) (x:I3) (k:Nat):(stepM m x k).2=cdC m x k:=by
 unfold stepM cdC
 rcases op_cases x with h | h | h | h | h | h | h | h | ⟨h1,h2,h3,h4,h5,h6,h7,h8⟩
 ·simp [h]
 ·simp [h]
 ·simp [h]
 ·simp [h]
 ·simp [h]
 ·simp [h];split<;>simp
 ·simp [h];split<;>simp
 ·simp [h];split<;>simp
 ·simp [h1,h2,h3,h4,h5,h6,h7];split<;>simp
theorem code_kept {m:V4} {x y:I3} {k l:Nat} (h:k≠l) (hx:okI x=true) (hy:okI y=true) (hc:¬ clashI x y):(stepM (stepM m x k).1 y l).2=(stepM m y l).2:=by
 rw [step_cdC,step_cdC]
 unfold cdC
 rw [step_parts]
 simp only
 by_cases h6:y.1=6
 ·rw [if_pos h6,if_pos h6,lk_kept hy hx (clash_symm hc) (.inr h6)]
 ·rw [if_neg h6,if_neg h6]
  split
  ·rfl
  ·rename_i q
   rw [reg_kept (Ne.symm h) hx ((ok_bounds hy).1 (fun e=>q (by simp [e])))]
theorem own_other {rows:List (List I3)} {m:V4} {k l:Nat} (hp:progOk rows=true) (hs:shapeOk m=true) (h1:haltM rows m (k:Int)=0) (h2:haltM rows m (l:Int)=0) (hd:depM (eventM rows m k) (eventM rows m l)=false) :
  ownM rows (goM rows m (k:Int)).1 (l:Int)=ownM rows m (l:Int):=by
 obtain ⟨a0,a1,a2,a3⟩:=halt_can h1
 obtain ⟨b0,b1,b2,b3⟩:=halt_can h2
 rw [Int.toNat_natCast] at a2 a3 b2 b3
 obtain ⟨hkl,hc⟩:=dep_clash hd
 obtain ⟨_,_,_,_,ox⟩:=at_ins hp hs (show k<3 by omega) a2
 obtain ⟨_,_,_,_,oy⟩:=at_ins hp hs (show l<3 by omega) b2
 have e:(goM rows (goM rows m (k:Int)).1 (l:Int)).2=(goM rows m (l:Int)).2:=by
  simp only [goM_natC]
  rw [ins_other hkl]
  exact code_kept hkl ox oy hc
 unfold ownM
 rw [e]
 have e2:(goM rows m (k:Int)).1.1.getD (l:Int).toNat 0=m.1.getD (l:Int).toNat 0:=by
  rw [goM_natC,Int.toNat_natCast]
  exact stepM_other m _ (Ne.symm hkl)
 rw [e2]

theorem runI_shift (rows:List (List I3)):∀ (ks:List Int) (m:V4) (fs:List I3),runI rows m fs ks=((runI rows m [] ks).1,fs++(runI rows m [] ks).2.1,(runI rows m [] ks).2.2)
 | [],m,fs=>by simp [runI]
 | k::ks,m,fs=>by
  by_cases hz:haltM rows m k=0
  ·rw [runI_yes hz,runI_yes hz,runI_shift rows ks _ (fs++ownM rows m k),runI_shift rows ks _ ([]++ownM rows m k)]
   simp
  ·have e:∀ f,runI rows m f (k::ks)=(m,f,haltM rows m k):=fun f=>by
    show (if haltM rows m k=0 then _ else _)=_
    rw [if_neg hz]
   rw [e,e]
   simp
def Eq7 (rows:List (List I3)) (m:V4) (ks ks':List Int):Prop:=(runI rows m [] ks').2.2=0∧(runI rows m [] ks').1=(runI rows m [] ks).1∧Sw (evsM rows m ks) (evsM rows m ks')∧∀ x,x ∈ (runI rows m [] ks').2.1↔x ∈ (runI rows m [] ks).2.1
theorem Eq7.same {rows:List (List I3)} {m:V4} {ks:List Int} (h:(runI rows m [] ks).2.2=0):Eq7 rows m ks ks:=⟨h,rfl,.refl _,fun _=>Iff.rfl⟩
theorem Eq7.trans {rows:List (List I3)} {m:V4} {a b c:List Int} (h:Eq7 rows m a b) (g:Eq7 rows m b c):Eq7 rows m a c:=⟨g.1,g.2.1.trans h.2.1,h.2.2.1.trans g.2.2.1,fun x=>(g.2.2.2 x).trans (h.2.2.2 x)⟩
theorem run_front {rows:List (List I3)} {m:V4} {k:Int} {ks:List Int} (hz:haltM rows m k=0):runI rows m [] (k::ks)=((runI rows (goM rows m k).1 [] ks).1,ownM rows m k++(runI rows (goM rows m k).1 [] ks).2.1,(runI rows (goM rows m k).1 [] ks).2.2):=by
 rw [runI_yes hz,runI_shift,List.nil_append]
theorem Eq7.cons {rows:List (List I3)} {m:V4} {k:Int} {a b:List Int} (hz:haltM rows m k=0) (h:Eq7 rows (goM rows m k).1 a b):Eq7 rows m (k::a) (k::b):=by
 obtain ⟨h1,h2,h3,h4⟩:=h
 unfold Eq7
 rw [run_front hz,run_front hz]
 refine ⟨h1,h2,Sw.cons _ h3,fun x=>?_⟩
 simp only [List.mem_append,h4]
theorem Eq7.swap {rows:List (List I3)} {m:V4} {k l:Int} {ks:List Int} (hp:progOk rows=true) (hs:shapeOk m=true) (h:(runI rows m [] (k::l::ks)).2.2=0) (hd:depM (eventM rows m k.toNat) (eventM rows m l.toNat)=false):Eq7 rows m (k::l::ks) (l::k::ks):=by
 obtain ⟨h1,e1⟩:=runI_cons h
 have h':=h
 rw [e1] at h'
 obtain ⟨h2,e2⟩:=runI_cons h'
 obtain ⟨a0,a1,_,_⟩:=halt_can h1
 obtain ⟨b0,b1,_,_⟩:=halt_can h2
 obtain ⟨k',rfl⟩:∃ k':Nat,k=k':=⟨k.toNat,by omega⟩
 obtain ⟨l',rfl⟩:∃ l':Nat,l=l':=⟨l.toNat,by omega⟩
 simp only [Int.toNat_natCast] at hd
 obtain ⟨hkl,_⟩:=dep_clash hd
 have hd2:depM (eventM rows m k') (eventM rows (goM rows m (k':Int)).1 l')=false:=by
  rw [goM_natC,event_other hkl];exact hd
 obtain ⟨g1,g2,g3,g4,g5⟩:=go_commute hp hs h1 h2 hd2
 obtain ⟨s1,s2,s3⟩:=run_swap hp hs h (by simpa only [Int.toNat_natCast] using hd2)
 have o1:=own_other hp hs h1 g1 hd
 have o2:=own_other hp hs g1 h1 (by rw [depM_symm];exact hd)
 refine ⟨s2,s1,?_,fun x=>?_⟩
 ·rw [s3]
  exact .step (.refl _) ⟨[],_,_,_,rfl,rfl,by simpa only [Int.toNat_natCast] using hd2⟩
 ·rw [run_front g1,run_front g2,run_front h1,run_front h2,o1,o2,g3]
  simp only [List.mem_append]
  constructor<;>rintro (q | q | q)<;>simp [q]

def lvL (rows:List (List I3)) (m:V4) (rec:V4→List Int→List (List Int)):List Int→List Int→List (List Int)
 | [],_=>[]
 | k::ks,Z=>if k ∈ Z then lvL rows m rec ks Z else (rec (goM rows m k).1 (stillM rows m Z k)).map (k::·)++lvL rows m rec ks (Z++[k])
def lvF (rows:List (List I3)):Nat→V4→List Int→List (List Int)
 | 0,_,_=>[]
 | f+1,m,Z=>if enabM rows m 3=[] then [[]] else lvL rows m (lvF rows f) (enabM rows m 3) Z
theorem lvL_skip {rows:List (List I3)} {m:V4} {rec:V4→List Int→List (List Int)} {k:Int} {ks Z:List Int} (h:k ∈ Z):lvL rows m rec (k::ks) Z=lvL rows m rec ks Z:=by rw [lvL,if_pos h]
theorem lvL_go {rows:List (List I3)} {m:V4} {rec:V4→List Int→List (List Int)} {k:Int} {ks Z:List Int} (h:k ∉ Z):lvL rows m rec (k::ks) Z=(rec (goM rows m k).1 (stillM rows m Z k)).map (k::·)++lvL rows m rec ks (Z++[k]):=by rw [lvL,if_neg h]

theorem halt_in7 {rows:List (List I3)} {m:V4} {k:Int} (h:haltM rows m k=0):k ∈ enabM rows m 3:=by
 obtain ⟨j,hj,e⟩:=List.mem_map.1 (nxM_of h)
 have:j=k:=congrArg Prod.fst e
 exact this▸hj
def Ini7 (rows:List (List I3)) (m:V4) (w:List Int) (k:Int):Prop:=∃ w',Eq7 rows m w (k::w')
theorem lvL_all {rows:List (List I3)} {m:V4} {f:Nat} {w:List Int} (hp:progOk rows=true) (hs:shapeOk m=true) (hf:leftN rows m≤f) (hr:(runI rows m [] w).2.2=0) (he:enabM rows (runI rows m [] w).1 3=[])
  (ih:∀ m Z w,shapeOk m=true→leftN rows m<f→(runI rows m [] w).2.2=0→enabM rows (runI rows m [] w).1 3=[]→(∀ j ∈ Z,¬ Ini7 rows m w j)→∃ ks ∈ lvF rows f m Z,Eq7 rows m w ks) :
  ∀ (ks Z:List Int),(∀ k ∈ ks,haltM rows m k=0)→(∀ j ∈ Z,haltM rows m j=0→¬ Ini7 rows m w j)→(∃ k ∈ ks,Ini7 rows m w k)→∃ us ∈ lvL rows m (lvF rows f) ks Z,Eq7 rows m w us
 | [],Z,_,_,⟨k,hk,_⟩=>by simp at hk
 | k::ks,Z,hk,hZ,hI=>by
  have hk':∀ j ∈ ks,haltM rows m j=0:=fun j hj=>hk j (List.mem_cons_of_mem _ hj)
  have h0:=hk k (List.mem_cons_self ..)
  by_cases hz:k ∈ Z
  ·rw [lvL_skip hz]
   refine lvL_all hp hs hf hr he ih ks Z hk' hZ ?_
   obtain ⟨j,hj,hi⟩:=hI
   rcases List.mem_cons.1 hj with rfl | hj
   ·exact absurd hi (hZ _ hz h0)
   ·exact ⟨j,hj,hi⟩
  ·rw [lvL_go hz]
   by_cases hi:Ini7 rows m w k
   ·obtain ⟨w',q⟩:=hi
    have q0:=q.1
    have q1:=q.2.1
    rw [run_front h0] at q0 q1
    simp only at q0 q1
    have hl:=left_step hp hs h0
    obtain ⟨us,hu,hE⟩:=ih (goM rows m k).1 (stillM rows m Z k) w' (goM_shape hp hs h0) (by omega) q0 (by rw [q1];exact he) (fun j hj=>by
     rintro ⟨w'',r⟩
     obtain ⟨hjZ,hjd⟩:=List.mem_filter.1 hj
     have hd:depM (eventM rows m k.toNat) (eventM rows m j.toNat)=false:=by simpa using hjd
     have r1:=Eq7.cons h0 r
     have r2:=Eq7.swap hp hs r1.1 hd
     have hj0:haltM rows m j=0:=(runI_cons r2.1).1
     exact hZ j hjZ hj0 ⟨_,(q.trans r1).trans r2⟩)
    exact ⟨k::us,List.mem_append_left _ (List.mem_map.2 ⟨us,hu,rfl⟩),q.trans (Eq7.cons h0 hE)⟩
   ·obtain ⟨us,hu,hE⟩:=lvL_all hp hs hf hr he ih ks (Z++[k]) hk' (fun j hj hj0=>by
     rcases List.mem_append.1 hj with hj | hj
     ·exact hZ j hj hj0
     ·rw [List.mem_singleton] at hj
      rw [hj];exact hi) (by
     obtain ⟨j,hj,hj2⟩:=hI
     rcases List.mem_cons.1 hj with rfl | hj
     ·exact absurd hj2 hi
     ·exact ⟨j,hj,hj2⟩)
    exact ⟨us,List.mem_append_right _ hu,hE⟩
theorem lv_all {rows:List (List I3)} (hp:progOk rows=true):∀ (f:Nat) (m:V4) (Z w:List Int),shapeOk m=true→leftN rows m<f→(runI rows m [] w).2.2=0→enabM rows (runI rows m [] w).1 3=[]→(∀ j ∈ Z,¬ Ini7 rows m w j)→∃ ks ∈ lvF rows f m Z,Eq7 rows m w ks
 | 0,_,_,_,_,h,_,_,_=>absurd h (Nat.not_lt_zero _)
 | f+1,m,Z,w,hs,hf,hr,he,hZ=>by
  rw [lvF]
  match w,hr,he,hZ with
  | [],hr,he,hZ =>
   have he':enabM rows m 3=[]:=he
   rw [if_pos he']
   exact ⟨[],List.mem_singleton.2 rfl,Eq7.same hr⟩
  | k::w,hr,he,hZ =>
   have h0:=(runI_cons hr).1
   have hne:enabM rows m 3≠[]:=fun e=>by have:=halt_in7 h0;rw [e] at this;simp at this
   rw [if_neg hne]
   exact lvL_all hp hs (by omega) hr he (lv_all hp f) _ _ (fun j hj=>enab_halt hj) (fun j hj _=>hZ j hj) ⟨k,halt_in7 h0,w,Eq7.same hr⟩

def Fnd7 (rows:List (List I3)) (m:V4) (L:List (List Int)) (st r:St7):Prop:=r.2.1=st.2.1+L.length∧(∀ x ∈ st.1,x ∈ r.1)∧∀ ks ∈ L,(runI rows m [] ks).2.2=0∧enabM rows (runI rows m [] ks).1 3=[]∧∀ x,(x ∈ (runI rows m [] ks).2.1∨x ∈ deadM rows (runI rows m [] ks).1)→x ∈ r.1
theorem slpL_fnd {rows:List (List I3)} {m:V4} {f:Nat} (ih:∀ m Z st,(visI rows f m Z st).2.2≤5000→leftN rows m<f→shapeOk m=true→Fnd7 rows m (lvF rows f m Z) st (visI rows f m Z st)) (hp:progOk rows=true) (hs:shapeOk m=true) (hf:leftN rows m≤f) :
  ∀ (ks Z:List Int) (st:St7),(∀ k ∈ ks,haltM rows m k=0)→(slpL rows m (visI rows f) ks Z st).2.2≤5000→Fnd7 rows m (lvL rows m (lvF rows f) ks Z) st (slpL rows m (visI rows f) ks Z st)
 | [],Z,st,_,_=>⟨by simp [slpL,lvL],fun x hx=>hx,fun ks hk=>by simp [lvL] at hk⟩
 | k::ks,Z,st,hk,h5=>by
  have hk':∀ j ∈ ks,haltM rows m j=0:=fun j hj=>hk j (List.mem_cons_of_mem _ hj)
  have h0:=hk k (List.mem_cons_self ..)
  by_cases hz:k ∈ Z
  ·rw [slpL_skip hz] at h5 ⊢
   rw [lvL_skip hz]
   exact slpL_fnd ih hp hs hf ks Z st hk' h5
  ·rw [slpL_go hz] at h5 ⊢
   rw [lvL_go hz]
   have hl:=left_step hp hs h0
   have h6:=Nat.le_trans (slpL_mono (visI_mono rows f) ks (Z++[k]) (visI rows f (goM rows m k).1 (stillM rows m Z k) (st.1++ownM rows m k,st.2))) h5
   obtain ⟨a1,a2,a3⟩:=ih (goM rows m k).1 (stillM rows m Z k) (st.1++ownM rows m k,st.2) h6 (by omega) (goM_shape hp hs h0)
   obtain ⟨b1,b2,b3⟩:=slpL_fnd ih hp hs hf ks (Z++[k]) _ hk' h5
   refine ⟨?_,fun x hx=>b2 x (a2 x (List.mem_append_left _ hx)),fun us hu=>?_⟩
   ·rw [b1,a1,List.length_append,List.length_map]
    simp only
    omega
   ·rcases List.mem_append.1 hu with hu | hu
    ·obtain ⟨vs,hv,rfl⟩:=List.mem_map.1 hu
     obtain ⟨c1,c2,c3⟩:=a3 vs hv
     rw [run_front h0]
     refine ⟨c1,c2,fun x hx=>b2 x ?_⟩
     simp only [List.mem_append] at hx
     rcases hx with (hx | hx) | hx
     ·exact a2 x (List.mem_append_right _ hx)
     ·exact c3 x (.inl hx)
     ·exact c3 x (.inr hx)
    ·exact b3 us hu
theorem vis_fnd {rows:List (List I3)} (hp:progOk rows=true):∀ (f:Nat) (m:V4) (Z:List Int) (st:St7),(visI rows f m Z st).2.2≤5000→leftN rows m<f→shapeOk m=true→Fnd7 rows m (lvF rows f m Z) st (visI rows f m Z st)
 | 0,_,_,_,_,h,_=>absurd h (Nat.not_lt_zero _)
 | f+1,m,Z,st,h5,hf,hs=>by
  rw [visI] at h5 ⊢
  rw [lvF]
  split at h5
  ·rename_i h;simp only at h5;omega
  ·rename_i h
   rw [if_neg h]
   obtain ⟨a1,a2,a3⟩:=slpL_fnd (vis_fnd hp f) hp hs (by omega) (enabM rows m 3) Z (inSt rows m st) (fun k hk=>enab_halt hk) h5
   by_cases he:enabM rows m 3=[]
   ·rw [if_pos he]
    rw [he] at a1 a2 a3 ⊢
    refine ⟨?_,fun x hx=>a2 x (List.mem_append_left _ hx),fun ks hk=>?_⟩
    ·rw [a1];unfold inSt;simp [lvL,he]
    ·rw [List.mem_singleton] at hk
     subst hk
     refine ⟨rfl,he,fun x hx=>a2 x ?_⟩
     simp [runI] at hx
     exact List.mem_append_right _ hx
   ·rw [if_neg he]
    refine ⟨?_,fun x hx=>a2 x (List.mem_append_left _ hx),a3⟩
    rw [a1];unfold inSt;simp [he]

theorem to_end {rows:List (List I3)} (hp:progOk rows=true):∀ (n:Nat) (m:V4),shapeOk m=true→leftN rows m≤n→∃ w,(runI rows m [] w).2.2=0∧enabM rows (runI rows m [] w).1 3=[]
 | n,m,hs,hn=>by
  by_cases he:enabM rows m 3=[]
  ·exact ⟨[],rfl,he⟩
  ·obtain ⟨k,hk⟩:=List.exists_mem_of_ne_nil _ he
   have h0:=enab_halt hk
   have hl:=left_step hp hs h0
   match n,hn with
   | 0,hn=>omega
   | n+1,hn =>
    obtain ⟨w,h1,h2⟩:=to_end hp n (goM rows m k).1 (goM_shape hp hs h0) (by omega)
    exact ⟨k::w,by rw [run_front h0];exact h1,by rw [run_front h0];exact h2⟩
theorem all_runs {rows:List (List I3)} (hp:progOk rows=true) {x:I3} (hx:x ∈ allI rows (fullS rows)):∃ w,(runI rows zeroV [] w).2.2=0∧enabM rows (runI rows zeroV [] w).1 3=[]∧(x ∈ (runI rows zeroV [] w).2.1∨x ∈ deadM rows (runI rows zeroV [] w).1):=by
 obtain ⟨r,hr,hb⟩:=mem_allI.1 hx
 obtain ⟨j,hj,hjr⟩:=List.getElem_of_mem hr
 have hjs:(fullS rows)[j]?=some r:=by rw [List.getElem?_eq_getElem hj,hjr]
 obtain ⟨p1,p2,_⟩:=path_run (fullS_came rows) (fullS_head rows) j j r (Nat.le_refl _) hjs
 generalize pathS (fullS rows) j j=pre at *
 have hs:=fullS_shaped hp r hr
 rcases mem_bugsI.1 hb with hd | ⟨k,hk,ho⟩
 ·refine ⟨pre,p2,?_,.inr (by rw [p1];exact hd)⟩
  rw [p1]
  unfold deadM at hd
  split at hd
  ·rename_i q
   unfold stuckM at q
   simp only [Bool.and_eq_true,decide_eq_true_eq] at q
   exact q.1
  ·simp at hd
 ·have h0:=enab_halt hk
  obtain ⟨w,h1,h2⟩:=to_end hp _ (goM rows r.1 k).1 (goM_shape hp hs h0) (Nat.le_refl _)
  have e:=(run_app (rows:=rows) pre (k::w) zeroV [] p2).1
  rw [p1,runI_shift rows (k::w) r.1 (runI rows zeroV [] pre).2.1,run_front h0] at e
  refine ⟨pre++k::w,?_,?_,.inl ?_⟩
  ·rw [e];exact h1
  ·rw [e];exact h2
  ·rw [e]
   simp only [List.mem_append]
   exact .inr (.inl ho)
theorem slpL_in {rows:List (List I3)} {f:Nat} {m:V4} (hf:(fullS rows).length≤2000) (hm:m ∈ (fullS rows).map (·.1)) {x:I3} (ih:∀ m Z st,m ∈ (fullS rows).map (·.1)→x ∈ (visI rows f m Z st).1→x ∈ st.1∨x ∈ allI rows (fullS rows)) :
  ∀ (ks Z:List Int) (st:St7),(∀ k ∈ ks,haltM rows m k=0)→x ∈ (slpL rows m (visI rows f) ks Z st).1→x ∈ st.1∨x ∈ allI rows (fullS rows)
 | [],Z,st,_,h=>.inl h
 | k::ks,Z,st,hk,h=>by
  have hk':∀ j ∈ ks,haltM rows m j=0:=fun j hj=>hk j (List.mem_cons_of_mem _ hj)
  have h0:=hk k (List.mem_cons_self ..)
  by_cases hz:k ∈ Z
  ·rw [slpL_skip hz] at h
   exact slpL_in hf hm ih ks Z st hk' h
  ·rw [slpL_go hz] at h
   obtain ⟨r,hr,rfl⟩:=List.mem_map.1 hm
   rcases slpL_in hf hm ih ks _ _ hk' h with h | h
   ·rcases ih _ _ _ (fullS_closed hf r hr _ (nxM_of h0)) h with h | h
    ·rcases List.mem_append.1 h with h | h
     ·exact .inl h
     ·exact .inr (mem_allI.2 ⟨r,hr,mem_bugsI.2 (.inr ⟨k,halt_in7 h0,h⟩)⟩)
    ·exact .inr h
   ·exact .inr h
theorem vis_in {rows:List (List I3)} (hf:(fullS rows).length≤2000) {x:I3}:∀ (f:Nat) (m:V4) (Z:List Int) (st:St7),m ∈ (fullS rows).map (·.1)→x ∈ (visI rows f m Z st).1→x ∈ st.1∨x ∈ allI rows (fullS rows)
 | 0,_,_,st,_,h=>.inl h
 | f+1,m,Z,st,hm,h=>by
  rw [visI] at h
  split at h
  ·exact .inl h
  ·rcases slpL_in hf hm (vis_in hf f) _ _ _ (fun k hk=>enab_halt hk) h with h | h
   ·rcases List.mem_append.1 h with h | h
    ·exact .inl h
    ·obtain ⟨r,hr,rfl⟩:=List.mem_map.1 hm
     exact .inr (mem_allI.2 ⟨r,hr,mem_bugsI.2 (.inl h)⟩)
   ·exact .inr h
theorem slp_all {rows:List (List I3)} (hp:progOk rows=true) (hf:(fullS rows).length≤2000) (h5:(slpS rows).2.2≤5000):mergeB (slpS rows).1 []=allI rows (fullS rows):=by
 refine (mergeB_rises _ _).same (mergeB_rises _ _) (fun x=>?_)
 rw [mem_mergeB]
 constructor
 ·rintro (h | h)
  ·rcases vis_in hf 19 zeroV [] _ (List.mem_map.2 ⟨_,List.mem_of_getElem? (fullS_head rows),rfl⟩) h with h | h
   ·simp at h
   ·exact h
  ·simp at h
 ·intro h
  refine .inl ?_
  have hl:=left_18 hp zeroV
  obtain ⟨w,h1,h2,h3⟩:=all_runs hp h
  obtain ⟨ks,hk,q1,q2,q3,q4⟩:=lv_all hp 19 zeroV [] w zero_shape (by omega) h1 h2 (fun j hj=>by simp at hj)
  obtain ⟨_,_,a3⟩:=vis_fnd hp 19 zeroV [] ([],0,0) h5 (by omega) zero_shape
  refine (a3 ks hk).2.2 x ?_
  rw [q4,q2]
  exact h3
theorem cap_mono {a b:Nat} (h:a≤b):capN a≤capN b:=by rw [capN_eq,capN_eq];omega
theorem lvL_cnt {rows:List (List I3)} {m:V4} {f:Nat} (ih:∀ m Z,shapeOk m=true→leftN rows m<f→capN (lvF rows f m Z).length≤cntM rows m) (hp:progOk rows=true) (hs:shapeOk m=true) (hf:leftN rows m≤f) :
  ∀ (ks Z:List Int),(∀ k ∈ ks,haltM rows m k=0)→capN (lvL rows m (lvF rows f) ks Z).length≤capN (ks.map fun k=>cntM rows (goM rows m k).1).sum
 | [],Z,_=>by simp [lvL]
 | k::ks,Z,hk=>by
  have hk':∀ j ∈ ks,haltM rows m j=0:=fun j hj=>hk j (List.mem_cons_of_mem _ hj)
  have h0:=hk k (List.mem_cons_self ..)
  have hl:=left_step hp hs h0
  by_cases hz:k ∈ Z
  ·rw [lvL_skip hz]
   refine Nat.le_trans (lvL_cnt ih hp hs hf ks Z hk') (cap_mono ?_)
   simp
  ·rw [lvL_go hz]
   have a:=ih (goM rows m k).1 (stillM rows m Z k) (goM_shape hp hs h0) (by omega)
   have b:=lvL_cnt ih hp hs hf ks (Z++[k]) hk'
   rw [List.length_append,List.length_map,List.map_cons,List.sum_cons]
   rw [capN_eq] at a b ⊢
   rw [capN_eq] at b ⊢
   omega
theorem lv_cnt {rows:List (List I3)} (hp:progOk rows=true):∀ (f:Nat) (m:V4) (Z:List Int),shapeOk m=true→leftN rows m<f→capN (lvF rows f m Z).length≤cntM rows m
 | 0,_,_,_,h=>absurd h (Nat.not_lt_zero _)
 | f+1,m,Z,hs,hf=>by
  rw [lvF,cnt_eq hp hs]
  by_cases he:enabM rows m 3=[]
  ·rw [if_pos he,if_pos he];exact Nat.min_le_left _ _
  ·rw [if_neg he,if_neg he]
   exact lvL_cnt (lv_cnt hp f) hp hs (by omega) _ _ (fun k hk=>enab_halt hk)
theorem slp_runs {rows:List (List I3)} (hp:progOk rows=true) (h5:(slpS rows).2.2≤5000):(slpS rows).2.1≤cntM rows zeroV:=by
 have hl:=left_18 hp zeroV
 obtain ⟨a1,_,_⟩:=vis_fnd hp 19 zeroV [] ([],0,0) h5 (by omega) zero_shape
 have b:=lv_cnt hp 19 zeroV [] zero_shape (by omega)
 have c:=(visI_size rows 19 zeroV [] ([],0,0) 0 (by simp) (by simp)).2
 have d:(slpS rows).2.1=(lvF rows 19 zeroV []).length:=by unfold slpS;rw [a1];simp
 have e:(slpS rows).2.1≤(slpS rows).2.2:=c
 rw [capN_eq] at b
 omega
end Go.Proofs.YtifoggpohlegmaaGreatDoor
