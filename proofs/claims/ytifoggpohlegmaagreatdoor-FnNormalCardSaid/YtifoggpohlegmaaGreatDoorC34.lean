/-
  Joined: RunQ, Kit8.
-/
import Derived.Lib.Hide
import Derived.Test.YtifoggpohlegmaaGreatDoorC27

namespace Go.Proofs.YtifoggpohlegmaaGreatDoor
set_option maxRecDepth 100000
set_option maxHeartbeats 16000000
open Go.RowKit
set_option linter.unusedVariables false

theorem step_codeQ (m:V4) (x:I3) (k:Nat):(stepM m x k).2=0∨(stepM m x k).2=12∨(stepM m x k).2=13:=by
 unfold stepM
 repeat' split
 all_goals simp
theorem ownM_ok {rows:List (List I3)} {m:V4} {k:Int} (hp:progOk rows=true) (hs:shapeOk m=true) (hz:haltM rows m k=0):∀ x ∈ ownM rows m k,okB x=true:=by
 obtain ⟨h0,h2,hd,hc⟩:=halt_can hz
 obtain ⟨q,rfl⟩:∃ q:Nat,k=q:=⟨k.toNat,by omega⟩
 rw [Int.toNat_natCast] at hd
 have hq:q<3:=by omega
 obtain ⟨p,ep,hlt,_,_⟩:=at_ins hp hs hq hd
 have hl6:=(codeM_len hp hq).1
 have hf:=step_codeQ m (insM rows m q) q
 intro x hx
 unfold ownM goM at hx
 rw [Int.toNat_natCast] at hx
 split at hx
 ·simp at hx
 ·rename_i h9
  simp only [List.mem_singleton] at hx
  subst hx
  unfold okB
  simp only
  have h12:(stepM m (insM rows m q) q).2=12∨(stepM m (insM rows m q) q).2=13:=by omega
  rw [if_neg (by omega),if_pos h12,ep]
  rw [Bool.and_eq_true]
  exact ⟨inB_true.2 (by omega),inB_true.2 (by omega)⟩
theorem goM_shape {rows:List (List I3)} {m:V4} {k:Int} (hp:progOk rows=true) (hs:shapeOk m=true) (hz:haltM rows m k=0):shapeOk (goM rows m k).1=true:=by
 obtain ⟨h0,h2,hd,hc⟩:=halt_can hz
 exact shape_step hp hs (by omega) hd
theorem runI_ok {rows:List (List I3)} (hp:progOk rows=true):∀ (ks:List Int) (m:V4) (fs:List I3),shapeOk m=true→(∀ x ∈ fs,okB x=true)→shapeOk (runI rows m fs ks).1=true∧∀ x ∈ (runI rows m fs ks).2.1,okB x=true
 | [],m,fs,hs,hf=>⟨hs,hf⟩
 | k::ks,m,fs,hs,hf=>by
  by_cases hz:haltM rows m k=0
  ·have e2:runI rows m fs (k::ks)=runI rows (goM rows m k).1 (fs++ownM rows m k) ks:=by
    show (if haltM rows m k=0 then _ else _)=_
    rw [if_pos hz]
   rw [e2]
   exact runI_ok hp ks _ _ (goM_shape hp hs hz) fun x hx=>(List.mem_append.1 hx).elim (hf x) (ownM_ok hp hs hz x)
  ·have e2:runI rows m fs (k::ks)=(m,fs,haltM rows m k):=by
    show (if haltM rows m k=0 then _ else _)=_
    rw [if_neg hz]
   rw [e2]
   exact ⟨hs,hf⟩
theorem okB_fitsQ {x:I3} (h:okB x=true):I3.fits x:=by
 unfold okB at h
 split at h
 ·rename_i h1
  simp only [Bool.and_eq_true,decide_eq_true_eq] at h
  exact ⟨fits_small (by omega) (by omega),fits_small (by omega) (by omega),fits_small (by omega) (by omega)⟩
 ·split at h
  ·rename_i h1
   rw [Bool.and_eq_true] at h
   have a:=inB_true.1 h.1
   have b:=inB_true.1 h.2
   exact ⟨fits_small (by omega) (by omega),fits_small (by omega) (by omega),fits_small (by omega) (by omega)⟩
  ·cases h


theorem bel8 {a b c:World} (h:Below a.heap.size a b) (k:Below b.heap.size b c):Below a.heap.size a c:=h.trans (k.mono h.size)
end Go.Proofs.YtifoggpohlegmaaGreatDoor
