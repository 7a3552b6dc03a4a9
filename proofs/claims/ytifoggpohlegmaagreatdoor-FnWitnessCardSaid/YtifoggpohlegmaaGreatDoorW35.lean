/-
  Joined: CntI, FulC.
-/
import Derived.Carry
import Derived.Deep.CutRange
import Derived.Test.YtifoggpohlegmaaGreatDoorW25

namespace Go.Proofs.YtifoggpohlegmaaGreatDoor
set_option maxRecDepth 100000
set_option maxHeartbeats 16000000
open Go.RowKit
set_option linter.unusedVariables false
set_option linter.unusedSimpArgs false

def CtOk (rows:List (List I3)) (L:List (Rec6 V4 × Value)) (cts:List Int):Prop:=cts.length=L.length∧∀ i r mv,L[i]?=some (r,mv)→cts.getD i 0=0∨cts.getD i 0=(cntM rows r.1:Int)
theorem CtOk.put {rows:List (List I3)} {L:List (Rec6 V4 × Value)} {cts:List Int} (h:CtOk rows L cts) {at9:Nat} {r:Rec6 V4} {mv:Value} (hr:L[at9]?=some (r,mv)):CtOk rows L (cts.set at9 (cntM rows r.1:Int)):=by
 have hl:at9<L.length:=(List.getElem?_eq_some_iff.1 hr).1
 refine ⟨by simp [h.1],fun i r' mv' hi=>?_⟩
 by_cases e:at9=i
 ·subst e
  rw [hr] at hi
  cases hi
  right
  simp [List.getD,h.1,hl]
 ·have:=h.2 i r' mv' hi
  simp only [List.getD,List.getElem?_set_ne e] at this ⊢
  exact this
theorem move_at {rows:List (List I3)} {F:List (Rec6 V4)} {m:V4} {j:Nat} {k:Int} (h:(enabM rows m 3)[j]?=some k):(mvsOf rows F m)[j]?=some (mvOf rows F m k):=by
 unfold mvsOf
 rw [List.getElem?_map,h]
 rfl
theorem range_move {w:World} {B G cap:Nat} {xs:List I4} (h:w.ownsRow B 192 4 (.slice (some ⟨G,0,none⟩) xs.length cap) xs.length (flat4 xs)) {j:Nat} {x:I4} (hx:xs[j]?=some x):w.rangeAt G (j*4) [.int .i64 x.1,.int .i64 x.2.1,.int .i64 x.2.2.1,.int .i64 x.2.2.2]:=by
 have hl:j<xs.length:=(List.getElem?_eq_some_iff.1 hx).1
 have hg:xs.getD j (0,0,0,0)=x:=by simp [List.getD,hx]
 obtain ⟨f0,f1,f2,f3⟩:=flat4_at xs j hl
 rw [hg] at f0 f1 f2 f3
 intro q v hq
 have hq4:q<4:=by have:=(List.getElem?_eq_some_iff.1 hq).1;simpa using this
 rw [h.cellAt (j*4+q) (by omega)]
 match q,hq4 with
 | 0,_=>simp at hq;subst hq;exact f0
 | 1,_=>simp at hq;subst hq;exact f1
 | 2,_=>simp at hq;subst hq;exact f2
 | 3,_=>simp at hq;subst hq;exact f3


def bugsI (rows:List (List I3)) (m:V4):List I3:=if stuckM rows m then [(14,0,0)] else (enabM rows m 3).flatMap (ownM rows m)
theorem mem_foundM {rows:List (List I3)} {m:V4} {k:Int} {x:I3}:x ∈ foundM rows m k↔x ∈ ownM rows m k∨x ∈ deadM rows (goM rows m k).1:=by
 unfold foundM deadM
 split
 ·rw [mem_putB]
  simp
 ·simp
theorem mem_bugsI {rows:List (List I3)} {m:V4} {x:I3}:x ∈ bugsI rows m↔x ∈ deadM rows m∨∃ k ∈ enabM rows m 3,x ∈ ownM rows m k:=by
 unfold bugsI deadM
 by_cases hs:stuckM rows m=true
 ·rw [if_pos hs,if_pos hs]
  have he:enabM rows m 3=[]:=by
   unfold stuckM at hs
   simp at hs
   exact hs.1
  rw [he]
  simp
 ·rw [if_neg hs,if_neg hs]
  simp
def allI (rows:List (List I3)) (S:List (Rec6 V4)):List I3:=mergeB (S.flatMap fun r=>bugsI rows r.1) []
theorem mem_allI {rows:List (List I3)} {S:List (Rec6 V4)} {x:I3}:x ∈ allI rows S↔∃ r ∈ S,x ∈ bugsI rows r.1:=by
 unfold allI
 rw [mem_mergeB]
 simp
def hitS (rows:List (List I3)) (b:I3) (m:V4):Option (List Int):=
 if b.1=14 then (if stuckM rows m then some [] else none) else ((enabM rows m 3).find? fun k=>decide (b ∈ foundM rows m k)).map fun k=>[k]
def hitI (rows:List (List I3)) (b:I3) (m:V4):Option (List Int):=
 if b ∈ bugsI rows m then some (if b.1=14 then [] else [b.2.1]) else none
theorem own_kind {rows:List (List I3)} {m:V4} {k:Int} {x:I3} (h:x ∈ ownM rows m k):x.2.1=k∧(x.1=12∨x.1=13):=by
 unfold ownM at h
 split at h
 ·simp at h
 ·rename_i hn
  simp only [List.mem_singleton] at h
  subst h
  refine ⟨rfl,?_⟩
  rcases step_codeQ m (insM rows m k.toNat) k.toNat with h | h | h
  ·exact absurd h hn
  ·exact .inl h
  ·exact .inr h
theorem dead_kind {rows:List (List I3)} {m:V4} {x:I3} (h:x ∈ deadM rows m):x=(14,0,0)∧stuckM rows m=true:=by
 unfold deadM at h
 split at h
 ·rename_i hs
  simp only [List.mem_singleton] at h
  exact ⟨h,hs⟩
 ·simp at h
theorem hit_same {rows:List (List I3)} {b:I3} (hb:b.1=14→b=(14,0,0)) (m:V4):hitS rows b m=hitI rows b m:=by
 unfold hitS hitI
 by_cases h14:b.1=14
 ·have e:=hb h14
  subst e
  simp only [if_true]
  by_cases hs:stuckM rows m=true
  ·rw [if_pos hs,if_pos (mem_bugsI.2 (.inl (by unfold deadM;rw [if_pos hs];simp)))]
  ·rw [if_neg hs,if_neg]
   intro hx
   rcases mem_bugsI.1 hx with hx | ⟨k,_,hx⟩
   ·exact hs (dead_kind hx).2
   ·have:=(own_kind hx).2
    simp at this
 ·simp only [if_neg h14]
  have hown:∀ k,b ∈ foundM rows m k↔b ∈ ownM rows m k:=fun k=>by
   rw [mem_foundM]
   constructor
   ·rintro (h | h)
    ·exact h
    ·exact absurd (by rw [(dead_kind h).1]) h14
   ·exact .inl
  by_cases hx:b ∈ bugsI rows m
  ·rw [if_pos hx]
   rcases mem_bugsI.1 hx with h | ⟨k,hk,h⟩
   ·exact absurd (by rw [(dead_kind h).1]) h14
   ·have hk':=(own_kind h).1
    cases hf:(enabM rows m 3).find? fun k=>decide (b ∈ foundM rows m k) with
    | none =>
     rw [List.find?_eq_none] at hf
     have:=hf k hk
     simp [(hown k).2 h] at this
    | some q =>
     have h1:=List.find?_some hf
     simp at h1
     have:=(own_kind ((hown q).1 h1)).1
     simp [this]
  ·rw [if_neg hx]
   have hf:((enabM rows m 3).find? fun k=>decide (b ∈ foundM rows m k))=none:=by
    rw [List.find?_eq_none]
    intro k hk
    simp only [decide_eq_true_eq]
    intro h
    exact hx (mem_bugsI.2 (.inr ⟨k,hk,(hown k).1 h⟩))
   rw [hf]
   rfl
end Go.Proofs.YtifoggpohlegmaaGreatDoor
