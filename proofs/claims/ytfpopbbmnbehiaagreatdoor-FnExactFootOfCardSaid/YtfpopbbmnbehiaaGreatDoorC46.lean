/-
  Joined: ProgM, RunQ.
-/
import Derived.Test.YtfpopbbmnbehiaaGreatDoorC09
import Derived.Test.YtfpopbbmnbehiaaGreatDoorC29
import Derived.Test.YtfpopbbmnbehiaaGreatDoorC31
import Derived.Test.YtfpopbbmnbehiaaGreatDoorC37
import Derived.Test.YtfpopbbmnbehiaaGreatDoorC38

namespace Go.Proofs.YtfpopbbmnbehiaaGreatDoor
set_option maxRecDepth 100000
set_option maxHeartbeats 16000000
open Go.RowKit

theorem RowsOwn.snoc {w w':World} {B P k G len:Nat} {vs:List Value} {done:List (List I3)} {r:List I3} (h:RowsOwn w B k vs done) (hd:done.length=k) (hb:Below w.heap.size w w') (hk:k<vs.length) (hG:w.heap.size≤G)
  (hn:w'.ownsRow B 144 3 (.slice (some ⟨G,0,none⟩) len len) r.length (flat r)) (hP:P<w.heap.size) (hPn:∀ t,t<k→(vs.getD t undef).ownBlock≠some P) :
  RowsOwn (w'.setCell ⟨P,k,none⟩ (.slice (some ⟨G,0,none⟩) len len)) B (k+1) (vs.set k (.slice (some ⟨G,0,none⟩) len len)) (done++[r]):=by
 have hold:∀ t,t<k→(done++[r]).getD t []=done.getD t []:=fun t ht=>by simp [List.getD,List.getElem?_append_left (show t<done.length by omega)]
 have hnew:(done++[r]).getD k []=r:=by subst hd;simp [List.getD]
 have h':RowsOwn w B k vs (done++[r]):=⟨fun t ht=>by rw [hold t ht];exact h.1 t ht,h.2⟩
 exact h'.put hb hk hG (by rw [hnew];exact hn) hP hPn

theorem OwnProg.lower {w:World} {B B':Nat} {v:Value} {rows:List (List I3)} (h:OwnProg w B v rows) (hB:B'≤B):OwnProg w B' v rows:=by
 obtain ⟨vs,h1,h2,h3,h4⟩:=h
 exact ⟨vs,owns_lower h1 hB,h2,fun t ht=>owns_lower (h3 t ht) hB,h4⟩

set_option linter.unusedVariables false

theorem step_codeQ (m:V4) (x:I3) (k:Nat):(stepM m x k).2=0∨(stepM m x k).2=12∨(stepM m x k).2=13:=by
 unfold stepM
 repeat' split
 all_goals simp
theorem ownM_ok {rows:List (List I3)} {m:V4} {k:Int} (hp:progOk rows=true) (hs:shapeOk m=true) (hz:haltM rows m k=0):∀ x ∈ ownM rows m k,okB x=true:=by
 obtain ⟨h0,h2,hd,hc⟩:=halt_can hz
 obtain ⟨q,rfl⟩:∃ q:Nat,k=q:=⟨k.toNat,by omega⟩
 rw [Int.toNat_natCast] at hd
 have hq:q<3:=by omega
 obtain ⟨p,ep,hlt,_,_⟩:=at_ins hp hs hq hd
 have hl6:=(codeM_len hp hq).1
 have hf:=step_codeQ m (insM rows m q) q
 intro x hx
 unfold ownM goM at hx
 rw [Int.toNat_natCast] at hx
 split at hx
 ·simp at hx
 ·rename_i h9
  simp only [List.mem_singleton] at hx
  subst hx
  unfold okB
  simp only
  have h12:(stepM m (insM rows m q) q).2=12∨(stepM m (insM rows m q) q).2=13:=by omega
  rw [if_neg (by omega),if_pos h12,ep]
  rw [Bool.and_eq_true]
  exact ⟨inB_true.2 (by omega),inB_true.2 (by omega)⟩
theorem goM_shape {rows:List (List I3)} {m:V4} {k:Int} (hp:progOk rows=true) (hs:shapeOk m=true) (hz:haltM rows m k=0):shapeOk (goM rows m k).1=true:=by
 obtain ⟨h0,h2,hd,hc⟩:=halt_can hz
 exact shape_step hp hs (by omega) hd
theorem okB_fitsQ {x:I3} (h:okB x=true):I3.fits x:=by
 unfold okB at h
 split at h
 ·rename_i h1
  simp only [Bool.and_eq_true,decide_eq_true_eq] at h
  exact ⟨fits_small (by omega) (by omega),fits_small (by omega) (by omega),fits_small (by omega) (by omega)⟩
 ·split at h
  ·rename_i h1
   rw [Bool.and_eq_true] at h
   have a:=inB_true.1 h.1
   have b:=inB_true.1 h.2
   exact ⟨fits_small (by omega) (by omega),fits_small (by omega) (by omega),fits_small (by omega) (by omega)⟩
  ·cases h
end Go.Proofs.YtfpopbbmnbehiaaGreatDoor
