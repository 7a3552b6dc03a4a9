/-
  Joined: EokI.
-/
import Derived.Test.YtdopgkbegjfhjaaC38
import Derived.Test.YtdopgkbegjfhjaaC43

namespace Go.Proofs.Ytdopgkbegjfhjaa
set_option maxRecDepth 100000
set_option maxHeartbeats 16000000
open Go.RowKit
set_option linter.unusedVariables false
set_option linter.unusedSimpArgs false

theorem riseB_split (xs:List I3):riseB xs=(okBs xs && upB xs):=by
 rw [Bool.eq_iff_iff]
 simp only [riseB,okBs,upB,Bool.and_eq_true,List.all_eq_true,List.mem_range,bStep,stB]
 constructor
 ·intro h
  refine ⟨fun x hx=>?_,fun i hi=>(h i hi).2⟩
  obtain ⟨t,ht,rfl⟩:=List.getElem_of_mem hx
  have:=(h t ht).1
  simpa [List.getD,List.getElem?_eq_getElem ht] using this
 ·rintro ⟨h1,h2⟩ i hi
  exact ⟨h1 _ (by simp [List.getD,List.getElem?_eq_getElem hi]),h2 i hi⟩
theorem entryBugsOK_is (a:Option Addr) (n cap:Nat) (xs:List I3) (w:World) (h:Instrs w a n cap xs) :
  Calls Try.prog 12 #[.slice a n cap] w fun e w'=>e=.returned (.bool (decide (xs.length≤30) && riseB xs))∧Below w.heap.size w w':=by
 rw [riseB_split]
 have hl:=h.1
 have kR:=fun W (hb:Below w.heap.size w W)=>risesB_is a n cap xs W (h.below hb)
 rw [hl]
 by_cases h30:n≤30
 ·have kB:=bugsOK_is a n cap xs w h (by omega)
  rw [decide_eq_true h30,Bool.true_and]
  have h3:(n:Int)≤30:=by omega
  generalize upB xs=u at *
  cases hO:okBs xs
  ·rw [hO] at kB
   rw [Bool.false_and]
   clear hO
   go_enter Try.func12,Try.ntmps12
   go_wp2_with fail
   refine kB.mono ?_
   rintro e w1 ⟨rfl,hb⟩
   go_wp2
   go_ret
   exact ⟨rfl,hb⟩
  ·rw [hO] at kB
   rw [Bool.true_and]
   clear hO
   go_enter Try.func12,Try.ntmps12
   go_wp2_with fail
   refine kB.mono ?_
   rintro e w1 ⟨rfl,hb⟩
   go_wp2_with fail
   refine (kR _ hb).mono ?_
   rintro e w2 ⟨rfl,hb2⟩
   replace hb:=bel8 hb hb2
   go_wp2
   go_ret
   exact ⟨rfl,hb⟩
 ·rw [decide_eq_false h30,Bool.false_and]
  have h3:¬ (n:Int)≤30:=by omega
  clear kR
  go_enter Try.func12,Try.ntmps12
  go_wp2
  go_ret
  exact ⟨rfl,Below.refl _ _⟩

end Go.Proofs.Ytdopgkbegjfhjaa
