/-
  Joined: MachE, SpecE.
-/
import Derived.Test.YtgmhhegckcionaaGreatDoorP05

namespace Go.Proofs.YtgmhhegckcionaaGreatDoor
set_option maxRecDepth 100000
set_option maxHeartbeats 16000000
open Go.RowKit

theorem enabM_yes {rows:List (List I3)} {m:V4} {k:Nat} (h:canM rows m k=true):enabM rows m (k+1)=enabM rows m k++[(k:Int)]:=by simp [enabM,h]
theorem enabM_no {rows:List (List I3)} {m:V4} {k:Nat} (h:canM rows m k=false):enabM rows m (k+1)=enabM rows m k:=by simp [enabM,h]
theorem enabM_len (rows:List (List I3)) (m:V4):∀ k,(enabM rows m k).length≤k
 | 0=>by simp [enabM]
 | k+1=>by
  have:=enabM_len rows m k
  unfold enabM
  split
  ·simp;omega
  ·omega

theorem enabled_is (g:Nat) (cs:Sl × Sl × Sl) (rows:List (List I3)) (m:V4) (w:World) (h:MachAt w g cs rows m) (hp:progOk rows=true) (hs:shapeOk m=true) :
  Calls Tryz.prog 124 #[.pointer (some ⟨g,0,none⟩)] w fun e w'=>(∃ s:Sl,e=.returned (.slice s.1 s.2.1 s.2.2)∧OwnI w' w.heap.size s (enabM rows m 3))∧Below w.heap.size w w':=by
 obtain ⟨i0,hi,hz0,hz1,hz2⟩:=info_parts info_int
 have kD:=fun (W:World) (hM:MachAt W g cs rows m) (k:Nat) (hk:k<3)=>doneT_is hM hk
 have kW:=fun (W:World) (hM:MachAt W g cs rows m) (k:Nat) (hk:k<3)=>waits_is hM hp hs hk
 go_enter Tryz.func124,Tryz.ntmps124
 go_wp2_with fail
 go_loopw [3,5] (fun so si wr=>∃ (k:Nat) (n:Nat) (v:Value),v=so∧k≤3∧si=.int .i64 k∧Hid (n=(enabM rows m k).length)∧wr.ownsRow w.heap.size 3 1 v n ((enabM rows m k).map (Value.int .i64))∧Below w.heap.size w wr) (fun _ si _=>3 - (intOf si).toNat)
 case atStart=>exact ⟨0,0,_,rfl,by omega,rfl,rfl,World.ownsRow_nil _ _ _ _,Below.refl _ _⟩
 case round =>
  obtain ⟨k,n,so,rfl,hk,rfl,HN,hr,hbw⟩:=hrel
  have hM:=h.below hbw
  by_cases hlt:k<3
  ·have hk3:(k:Int)<3:=by omega
   have kD1:=kD _ hM k hlt
   have hsz:=hbw.size
   cases hd:doneM rows m k
   ·rw [hd] at kD1
    go_wp2_with fail
    refine kD1.mono ?_
    rintro e w1 ⟨rfl,d,rfl⟩
    replace hM:MachAt (wr.drewN d) g cs rows m:=hM.below (below_dN _)
    replace hr:(wr.drewN d).ownsRow w.heap.size 3 1 so n ((enabM rows m k).map (Value.int .i64)):=hr
    replace hbw:Below w.heap.size w (wr.drewN d):=bel_trans hbw (below_dN _)
    replace hsz:w.heap.size≤(wr.drewN d).heap.size:=hsz
    generalize wr.drewN d=W1 at *
    have kW1:=kW _ hM k hlt
    clear kD1
    cases hw:waitM rows m k
    ·have hcan:canM rows m k=true:=by
      unfold waitM at hw
      unfold canM
      rw [hd] at hw ⊢
      simpa using hw
     rw [hw] at kW1
     go_wp2_with fail
     refine kW1.mono ?_
     rintro e w2 ⟨rfl,hb⟩
     replace hM:=hM.below hb
     replace hr:=owns_below hr hb
     replace hbw:=bel_trans hbw hb
     replace hsz:=hbw.size
     clear hb kW1
     have hn3:n≤3:=by have:=enabM_len rows m k;have:=HN.out;omega
     have HN2:Hid (n+1=(enabM rows m (k+1)).length):=by rw [Hid,enabM_yes hcan,List.length_append,← HN.out];rfl
     have HX:Hid (enabM rows m (k+1)=enabM rows m k++[(k:Int)]):=enabM_yes hcan
     go_wp2_with (at_builtin;refine wpList_append_own _ rfl _ _ 36 rfl w.heap.size 3 i0 (.int .i64 0) 1 8 Tryz.underlying36 hi hz0 hz1 hz2 rfl (by decide) _ _ _ rfl (hr.alloc _) ⟨w2.heap.size,0,none⟩ 1 1 [.int .i64 (k:Int)] rfl rfl (cell_one_new _ _ _) (by simp [Value.oneCell']) ?c3 ?c4 ?c5 ?_)
     case c3=>unfold maxLen;omega
     case c4=>omega
     case c5=>simp;omega
     intro v' wn hown' hgrow _
     have R:wn.ownsRow w.heap.size 3 1 v' (n+1) ((enabM rows m (k+1)).map (Value.int .i64)):=by
      rw [HX.out,List.map_append]
      exact hown'
     have bn:Below w.heap.size w wn:=(hbw.alloc hsz _).grown hgrow (by simp;omega) (fun k hk=>(hr.lt k hk).1)
     clear hown' hgrow hr hbw hM HX
     go_wp2
     go_roundw
     case rel=>exact ⟨k+1,n+1,_,rfl,by omega,by go_num,HN2,R,bn⟩
     case measure=>simp [intOf];omega
    ·have hcan:canM rows m k=false:=by
      unfold waitM at hw
      unfold canM
      rw [hd] at hw ⊢
      simpa using hw
     rw [hw] at kW1
     have HN2:Hid (n=(enabM rows m (k+1)).length):=by rw [Hid,enabM_no hcan];exact HN.out
     rw [← enabM_no hcan] at hr
     go_wp2_with fail
     refine kW1.mono ?_
     rintro e w2 ⟨rfl,hb⟩
     replace hM:=hM.below hb
     replace hr:=owns_below hr hb
     replace hbw:=bel_trans hbw hb
     clear hb kW1
     go_wp2
     go_roundw
     case rel=>exact ⟨k+1,n,_,rfl,by omega,by go_num,HN2,hr,hbw⟩
     case measure=>simp [intOf];omega
   ·have hcan:canM rows m k=false:=by unfold canM;rw [hd];rfl
    rw [hd] at kD1
    have HN2:Hid (n=(enabM rows m (k+1)).length):=by rw [Hid,enabM_no hcan];exact HN.out
    rw [← enabM_no hcan] at hr
    go_wp2_with fail
    refine kD1.mono ?_
    rintro e w1 ⟨rfl,d,rfl⟩
    replace hM:MachAt (wr.drewN d) g cs rows m:=hM.below (below_dN _)
    replace hr:(wr.drewN d).ownsRow w.heap.size 3 1 so n ((enabM rows m (k+1)).map (Value.int .i64)):=hr
    replace hbw:Below w.heap.size w (wr.drewN d):=bel_trans hbw (below_dN _)
    generalize wr.drewN d=W1 at *
    go_wp2
    go_roundw
    case rel=>exact ⟨k+1,n,_,rfl,by omega,by go_num,HN2,hr,hbw⟩
    case measure=>simp [intOf];omega
  ·obtain rfl:k=3:=by omega
   obtain ⟨a,c,rfl⟩:∃ a c,so=.slice a n c:=by
    rcases hr.2 with ⟨rfl,rfl⟩ | ⟨g',cap,cur,hv,_⟩
    ·exact ⟨none,0,rfl⟩
    ·exact ⟨_,cap,hv⟩
   clear kD kW hM
   go_wp2
   go_ret
   exact ⟨⟨(a,n,c),rfl,hr⟩,hbw⟩

theorem stuck_is (g:Nat) (cs:Sl × Sl × Sl) (rows:List (List I3)) (m:V4) (w:World) (h:MachAt w g cs rows m) (hp:progOk rows=true) (hs:shapeOk m=true) :
  Calls Tryz.prog 159 #[.pointer (some ⟨g,0,none⟩)] w fun e w'=>e=.returned (.bool (stuckM rows m))∧Below w.heap.size w w':=by
 have kE:=enabled_is g cs rows m w h hp hs
 have kD:=fun (W:World) (hM:MachAt W g cs rows m) (k:Nat) (hk:k<3)=>doneT_is hM hk
 obtain ⟨fin,hfin⟩:∃ fin,fin=stuckM rows m:=⟨_,rfl⟩
 rw [← hfin]
 have HF:Hid (fin=(decide (enabM rows m 3=[]) && leftM rows m 0)):=hfin
 clear hfin
 go_enter Tryz.func159,Tryz.ntmps159
 go_wp2_with fail
 refine kE.mono ?_
 rintro e w1 ⟨⟨⟨a,n,c⟩,rfl,ho⟩,hb⟩
 have hn:(enabM rows m 3).length=n:=by
  have:=ho.1
  simpa using this
 clear ho kE
 simp only
 by_cases h0:n=0
 ·subst h0
  have HL:Hid (fin=leftM rows m 0):=by rw [Hid,HF.out,List.eq_nil_of_length_eq_zero hn];rfl
  clear HF hn
  go_wp2_with fail
  go_loopw [8] (fun si wr=>∃ k:Nat,k≤3∧si=.int .i64 k∧Hid (fin=leftM rows m k)∧Below w.heap.size w wr) (fun si _=>3 - (intOf si).toNat)
  case atStart=>exact ⟨0,by omega,rfl,HL,hb⟩
  case round =>
   clear hb HL
   obtain ⟨k,hk,rfl,HL,hbw⟩:=hrel
   by_cases hlt:k<3
   ·have hk3:(k:Int)<3:=by omega
    have kD1:=kD _ (h.below hbw) k hlt
    have hst:=leftM_step rows m hlt
    have HS:Hid (leftM rows m k=(!doneM rows m k || leftM rows m (k+1))):=hst
    clear hst
    cases hd:doneM rows m k
    ·rw [hd] at kD1
     obtain rfl:fin=true:=by rw [HL.out,HS.out,hd];rfl
     clear HL HS
     go_wp2_with fail
     refine kD1.mono ?_
     rintro e w2 ⟨rfl,d,rfl⟩
     replace hbw:Below w.heap.size w (wr.drewN d):=bel_trans hbw (below_dN _)
     go_wp2
     go_ret
     exact ⟨rfl,hbw⟩
    ·rw [hd] at kD1
     have HL2:Hid (fin=leftM rows m (k+1)):=by rw [Hid,HL.out,HS.out,hd];rfl
     clear HL HS
     go_wp2_with fail
     refine kD1.mono ?_
     rintro e w2 ⟨rfl,d,rfl⟩
     replace hbw:Below w.heap.size w (wr.drewN d):=bel_trans hbw (below_dN _)
     generalize wr.drewN d=W1 at *
     go_wp2
     go_roundw
     case rel=>exact ⟨k+1,by omega,by go_num,HL2,hbw⟩
     case measure=>simp [intOf];omega
   ·obtain rfl:k=3:=by omega
    obtain rfl:fin=false:=HL.out.trans (leftM_end _ _)
    clear kD HL
    go_wp2
    go_ret
    exact ⟨rfl,hbw⟩
 ·obtain rfl:fin=false:=by
   rw [HF.out,decide_eq_false]
   ·rfl
   ·intro e
    rw [e] at hn
    exact h0 hn.symm
  have hpos:(0:Int)<(n:Int):=by omega
  clear HF hn kD
  go_wp2
  go_ret
  exact ⟨rfl,hb⟩

set_option linter.unusedVariables false

theorem own_ne_blk {w:World} {B e s n g t:Nat} {v:Value} {xs cs:List Value} (h:w.ownsRow B e s v n xs) (hB:Blk w g t cs) (he:e≠t):v.ownBlock≠some g:=by
 rcases h.2 with ⟨rfl,_⟩ | ⟨g',cap,cur,rfl,_,hg,_⟩
 ·simp [Value.ownBlock]
 ·simp only [Value.ownBlock,ne_eq,Option.some.injEq]
  rintro rfl
  unfold Blk at hB
  rw [hg] at hB
  simp at hB
  exact he hB.2

end Go.Proofs.YtgmhhegckcionaaGreatDoor
