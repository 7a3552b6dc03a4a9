/-
  Joined: RciI.
-/
import Derived.Lib.AppendStr
import Derived.Test.YtdopgkbegjfhjaaC22
import Derived.Test.YtdopgkbegjfhjaaC39
import Derived.Test.YtdopgkbegjfhjaaC40
import Derived.Test.YtdopgkbegjfhjaaC44
import Derived.Test.YtdopgkbegjfhjaaC46
import Derived.Test.YtdopgkbegjfhjaaC47

namespace Go.Proofs.Ytdopgkbegjfhjaa
set_option maxRecDepth 100000
set_option maxHeartbeats 16000000
open Go.RowKit
set_option linter.unusedVariables false
set_option linter.unusedSimpArgs false

theorem implCommitText_is (a:Option Addr) (n cap:Nat) (xs:List I3) (w:World) (h:Instrs w a n cap xs) :
  Calls Try.prog 7 #[.slice a n cap] w fun e w'=>e=ResC (comC xs)∧Below w.heap.size w w':=by
 have hl:=h.1
 have hcm:n≤9223372036854775807:=by have:=h.2.1;have:=h.2.2.1;unfold maxLen at this;omega
 have kE:=entryBugsOK_is a n cap xs w h
 by_cases hlong:4096<n
 ·have HA:Hid (comC xs=(⟨#[]⟩,2)):=by unfold comC;rw [Hid,if_pos (by omega)]
  have h2:(4096:Int)<(n:Int):=by omega
  clear h kE
  go_enter Try.func7,Try.ntmps7
  go_wp2
  go_ret2
  exact ⟨by rw [HA.out];rfl,Below.refl _ _⟩
 have h2:¬ (4096:Int)<(n:Int):=by omega
 by_cases hr:riseB xs=true∧n≤30
 ·have HA:Hid (comC xs=(strOfNums (packL (unT xs)),0)):=by unfold comC;rw [Hid,if_neg (by omega),if_pos ⟨hr.1,by omega⟩]
  have hd:(decide (xs.length≤30) && riseB xs)=true:=by rw [hr.1,hl,decide_eq_true hr.2];rfl
  rw [hd] at kE
  have kN:=fun W (hb:Below w.heap.size w W)=>numbersOfBugs_is a n cap xs W (h.below hb) hr.2
  have hok:allOk (rowNums xs):=by rw [unT_row];exact unT_rise hr.1
  have hrl:(rowNums xs).length≤4096:=by rw [rowNums_length];omega
  rw [← unT_row] at HA
  clear h hd hr
  go_enter Try.func7,Try.ntmps7
  go_wp2_with fail
  refine kE.mono ?_
  rintro e w1 ⟨rfl,b1⟩
  go_wp2_with fail
  refine (kN _ b1).mono ?_
  rintro e w2 ⟨⟨v,rfl,ho⟩,b2⟩
  obtain ⟨a2,c2,rfl⟩:∃ a2 c2,v=.slice a2 (rowNums xs).length c2:=by
   rcases ho.2 with ⟨hv,h0⟩ | ⟨g,cc,cur,hv,_⟩
   ·exact ⟨none,0,by rw [hv,h0]⟩
   ·exact ⟨_,_,hv⟩
  have hI:=ints8 ho
  have kP:=implPackList_any a2 _ c2 (rowNums xs) w2 hI hrl
  generalize (rowNums xs).length=m2 at *
  clear hI ho kE kN hrl
  go_wp2_with fail
  refine kP.mono ?_
  rintro e w3 ⟨hh,b3⟩
  rcases hh with ⟨_,rfl⟩ | ⟨hno,_⟩
  ·clear kP
   generalize strOfNums (packL (rowNums xs))=t at *
   go_wp2
   go_ret2
   exact ⟨by rw [HA.out];rfl,(b1.trans (b2.mono b1.size)).trans (b3.mono (Nat.le_trans b1.size b2.size))⟩
  ·exact absurd hok hno
 ·have HA:Hid (comC xs=(⟨#[]⟩,1)):=by unfold comC;rw [Hid,if_neg (by omega),if_neg (fun g=>hr ⟨g.1,by omega⟩)]
  have hd:(decide (xs.length≤30) && riseB xs)=false:=by
   rw [hl]
   by_cases g:n≤30
   ·rw [decide_eq_true g,Bool.true_and]
    cases hx:riseB xs
    ·rfl
    ·exact absurd ⟨hx,g⟩ hr
   ·rw [decide_eq_false g,Bool.false_and]
  rw [hd] at kE
  clear h hd hr
  go_enter Try.func7,Try.ntmps7
  go_wp2_with fail
  refine kE.mono ?_
  rintro e w1 ⟨rfl,b1⟩
  go_wp2
  go_ret2
  exact ⟨by rw [HA.out];rfl,b1⟩
end Go.Proofs.Ytdopgkbegjfhjaa
