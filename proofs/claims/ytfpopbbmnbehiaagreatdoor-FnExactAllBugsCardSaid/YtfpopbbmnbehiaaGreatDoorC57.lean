/-
  Joined: CntI, FulC.
-/
import Derived.Carry
import Derived.Deep.CutRange
import Derived.Test.YtfpopbbmnbehiaaGreatDoorC50

namespace Go.Proofs.YtfpopbbmnbehiaaGreatDoor
set_option maxRecDepth 100000
set_option maxHeartbeats 16000000
open Go.RowKit
set_option linter.unusedVariables false
set_option linter.unusedSimpArgs false

def CtOk (rows:List (List I3)) (L:List (Rec6 V4 × Value)) (cts:List Int):Prop:=cts.length=L.length∧∀ i r mv,L[i]?=some (r,mv)→cts.getD i 0=0∨cts.getD i 0=(cntM rows r.1:Int)
theorem CtOk.put {rows:List (List I3)} {L:List (Rec6 V4 × Value)} {cts:List Int} (h:CtOk rows L cts) {at9:Nat} {r:Rec6 V4} {mv:Value} (hr:L[at9]?=some (r,mv)):CtOk rows L (cts.set at9 (cntM rows r.1:Int)):=by
 have hl:at9<L.length:=(List.getElem?_eq_some_iff.1 hr).1
 refine ⟨by simp [h.1],fun i r' mv' hi=>?_⟩
 by_cases e:at9=i
 ·subst e
  rw [hr] at hi
  cases hi
  right
  simp [List.getD,h.1,hl]
 ·have:=h.2 i r' mv' hi
  simp only [List.getD,List.getElem?_set_ne e] at this ⊢
  exact this
theorem move_at {rows:List (List I3)} {F:List (Rec6 V4)} {m:V4} {j:Nat} {k:Int} (h:(enabM rows m 3)[j]?=some k):(mvsOf rows F m)[j]?=some (mvOf rows F m k):=by
 unfold mvsOf
 rw [List.getElem?_map,h]
 rfl
theorem range_move {w:World} {B G cap:Nat} {xs:List I4} (h:w.ownsRow B 172 4 (.slice (some ⟨G,0,none⟩) xs.length cap) xs.length (flat4 xs)) {j:Nat} {x:I4} (hx:xs[j]?=some x):w.rangeAt G (j*4) [.int .i64 x.1,.int .i64 x.2.1,.int .i64 x.2.2.1,.int .i64 x.2.2.2]:=by
 have hl:j<xs.length:=(List.getElem?_eq_some_iff.1 hx).1
 have hg:xs.getD j (0,0,0,0)=x:=by simp [List.getD,hx]
 obtain ⟨f0,f1,f2,f3⟩:=flat4_at xs j hl
 rw [hg] at f0 f1 f2 f3
 intro q v hq
 have hq4:q<4:=by have:=(List.getElem?_eq_some_iff.1 hq).1;simpa using this
 rw [h.cellAt (j*4+q) (by omega)]
 match q,hq4 with
 | 0,_=>simp at hq;subst hq;exact f0
 | 1,_=>simp at hq;subst hq;exact f1
 | 2,_=>simp at hq;subst hq;exact f2
 | 3,_=>simp at hq;subst hq;exact f3


def bugsI (rows:List (List I3)) (m:V4):List I3:=if stuckM rows m then [(14,0,0)] else (enabM rows m 3).flatMap (ownM rows m)
def localS (rows:List (List I3)) (m:V4):List I3:=(enabM rows m 3).foldl (fun out k=>mergeB out (foundM rows m k)) (deadM rows m)
theorem mem_fold {f:Int→List I3} {x:I3}:∀ (ks:List Int) (out:List I3),x ∈ ks.foldl (fun out k=>mergeB out (f k)) out↔x ∈ out∨∃ k ∈ ks,x ∈ f k
 | [],out=>by simp
 | k::ks,out=>by
  rw [List.foldl_cons,mem_fold ks,mem_mergeB]
  simp only [List.mem_cons,exists_eq_or_imp,or_assoc]
theorem mem_localS {rows:List (List I3)} {m:V4} {x:I3}:x ∈ localS rows m↔x ∈ deadM rows m∨∃ k ∈ enabM rows m 3,x ∈ foundM rows m k:=mem_fold _ _
theorem mem_foundM {rows:List (List I3)} {m:V4} {k:Int} {x:I3}:x ∈ foundM rows m k↔x ∈ ownM rows m k∨x ∈ deadM rows (goM rows m k).1:=by
 unfold foundM deadM
 split
 ·rw [mem_putB]
  simp
 ·simp
theorem mem_bugsI {rows:List (List I3)} {m:V4} {x:I3}:x ∈ bugsI rows m↔x ∈ deadM rows m∨∃ k ∈ enabM rows m 3,x ∈ ownM rows m k:=by
 unfold bugsI deadM
 by_cases hs:stuckM rows m=true
 ·rw [if_pos hs,if_pos hs]
  have he:enabM rows m 3=[]:=by
   unfold stuckM at hs
   simp at hs
   exact hs.1
  rw [he]
  simp
 ·rw [if_neg hs,if_neg hs]
  simp
def allI (rows:List (List I3)) (S:List (Rec6 V4)):List I3:=mergeB (S.flatMap fun r=>bugsI rows r.1) []
def allS (rows:List (List I3)) (S:List (Rec6 V4)):List I3:=S.foldl (fun out r=>mergeB out (localS rows r.1)) []
theorem mem_foldR {f:Rec6 V4→List I3} {x:I3}:∀ (S:List (Rec6 V4)) (out:List I3),x ∈ S.foldl (fun out r=>mergeB out (f r)) out↔x ∈ out∨∃ r ∈ S,x ∈ f r
 | [],out=>by simp
 | r::S,out=>by
  rw [List.foldl_cons,mem_foldR S,mem_mergeB]
  simp only [List.mem_cons,exists_eq_or_imp,or_assoc]
theorem rises_foldR {f:Rec6 V4→List I3}:∀ (S:List (Rec6 V4)) (out:List I3),Rises out→Rises (S.foldl (fun out r=>mergeB out (f r)) out)
 | [],out,h=>h
 | r::S,out,h=>rises_foldR S _ (mergeB_rises _ _)
theorem mem_allI {rows:List (List I3)} {S:List (Rec6 V4)} {x:I3}:x ∈ allI rows S↔∃ r ∈ S,x ∈ bugsI rows r.1:=by
 unfold allI
 rw [mem_mergeB]
 simp
theorem all_same {rows:List (List I3)} (h:(fullS rows).length≤2000):allS rows (fullS rows)=allI rows (fullS rows):=by
 refine (rises_foldR _ _ List.Pairwise.nil).same (mergeB_rises _ _) (fun x=>?_)
 show x ∈ allS rows (fullS rows)↔x ∈ allI rows (fullS rows)
 rw [mem_allI]
 unfold allS
 rw [mem_foldR]
 constructor
 ·rintro (hx | ⟨r,hr,hx⟩)
  ·simp at hx
  ·rcases mem_localS.1 hx with hx | ⟨k,hk,hx⟩
   ·exact ⟨r,hr,mem_bugsI.2 (.inl hx)⟩
   ·rcases mem_foundM.1 hx with hx | hx
    ·exact ⟨r,hr,mem_bugsI.2 (.inr ⟨k,hk,hx⟩)⟩
    ·have hc:=fullS_closed h r hr (k,(goM rows r.1 k).1) (List.mem_map.2 ⟨k,hk,rfl⟩)
     obtain ⟨q,hq,e⟩:=List.mem_map.1 hc
     refine ⟨q,hq,mem_bugsI.2 (.inl ?_)⟩
     have e':q.1=(goM rows r.1 k).1:=e
     rw [e']
     exact hx
 ·rintro ⟨r,hr,hx⟩
  refine .inr ⟨r,hr,mem_localS.2 ?_⟩
  rcases mem_bugsI.1 hx with hx | ⟨k,hk,hx⟩
  ·exact .inl hx
  ·exact .inr ⟨k,hk,mem_foundM.2 (.inl hx)⟩
end Go.Proofs.YtfpopbbmnbehiaaGreatDoor
