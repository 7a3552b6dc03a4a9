/-
  Joined: Parts.
-/
import Derived.Deep.RegionLaw
import Derived.Laws.OwnMore
import Derived.Test.YtojcgajjnmjjpaaDoorL21

namespace Go.Proofs.YtojcgajjnmjjpaaDoor
set_option maxRecDepth 100000
open Go.RowKit

theorem okFrom_mem {n:Nat}:∀ {xs:List I3} {i:Nat},okFrom n i xs=true→∀ x ∈ xs,okI x=true
 | [],_,_,x,hx=>by cases hx
 | y::ys,i,h,x,hx=>by
  unfold okFrom at h
  simp only [Bool.and_eq_true] at h
  rcases List.mem_cons.1 hx with rfl | hx
  ·exact h.1.1
  ·exact okFrom_mem h.2 x hx
theorem progOk_parts {rows:List (List I3)} (h:progOk rows=true):rows.length=3∧∀ r ∈ rows,r.length≤6∧∀ x ∈ r,okI x=true:=by
 unfold progOk at h
 simp only [Bool.and_eq_true,decide_eq_true_eq,List.all_eq_true] at h
 refine ⟨h.1,fun r hr=>?_⟩
 have:=h.2 r hr
 unfold codeOk at this
 simp only [Bool.and_eq_true,decide_eq_true_eq] at this
 exact ⟨this.1,okFrom_mem this.2⟩
end Go.Proofs.YtojcgajjnmjjpaaDoor
