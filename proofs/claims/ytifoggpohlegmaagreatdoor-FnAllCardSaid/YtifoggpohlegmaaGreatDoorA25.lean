/-
  Joined: DedI, RpG.
-/
import Derived.Test.YtifoggpohlegmaaGreatDoorA21
import Derived.Test.YtifoggpohlegmaaGreatDoorA24

namespace Go.Proofs.YtifoggpohlegmaaGreatDoor
set_option maxRecDepth 100000
set_option maxHeartbeats 16000000
open Go.RowKit
set_option linter.unusedVariables false
set_option linter.unusedSimpArgs false

def RowD (e:Ending) (w':World) (B:Nat) (xs:List I3):Prop:=∃ v,e=.returned v∧w'.ownsRow B 64 3 v xs.length (flat xs)
theorem deadlock_of {w:World} {p:Addr} {b:Bool} (k:Calls Tryz.prog 91 #[.pointer (some p)] w fun e w'=>e=.returned (.bool b)∧Below w.heap.size w w') :
  Calls Tryz.prog 123 #[.pointer (some p)] w fun e w'=>RowD e w' w.heap.size (if b then [(14,0,0)] else [])∧Below w.heap.size w w':=by
 cases b
 ·go_enter Tryz.func123,Tryz.ntmps123
  go_wp2_with fail
  refine k.mono ?_
  rintro e w1 ⟨rfl,hb⟩
  go_wp2
  go_ret
  exact ⟨⟨_,rfl,World.ownsRow_nil _ _ _ _⟩,hb⟩
 ·go_enter Tryz.func123,Tryz.ntmps123
  go_wp2_with fail
  refine k.mono ?_
  rintro e w1 ⟨rfl,hb⟩
  have q:=World.ownsRow_lit (e:=64) (base:=w.heap.size) (size:=3) w1 #[.int .i64 14,.int .i64 0,.int .i64 0] 1 hb.size (by unfold maxLen;omega) rfl
  have HD:Hid (RowD (.returned (.slice (some ⟨w1.heap.size,0,none⟩) 1 1)) (w1.alloc (.cells #[.int .i64 14,.int .i64 0,.int .i64 0] 64)) w.heap.size [(14,0,0)]):=⟨_,rfl,q⟩
  clear q
  go_wp2
  go_ret
  exact ⟨HD.out,bel8 hb (by go_grown)⟩


theorem newReplay_ok {a:Option Addr} {len cap:Nat} {rows:List (List I3)} {w:World} {cs:Sl × Sl × Sl} (hC:Codes w a len cap rows) (hV:VmShape w) (hp:progOk rows=true) (hR:RowsAt w a cs rows) :
  Calls Tryz.prog 54 #[.agg #[.slice a len cap]] w fun e w'=>e=.returned (.tuple #[.agg (Rp.machR (.slice none 0 0) cs.1.val cs.2.1.val cs.2.2.val zeroV).toArray,.int .i64 0])∧Below w.heap.size w w':=by
 refine newReplay_of a len cap w 0 cs.1.1 cs.1.2.1 cs.1.2.2 cs.2.1.1 cs.2.1.2.1 cs.2.1.2.2 cs.2.2.1 cs.2.2.2.1 cs.2.2.2.2 0 0 0 0 0 0 0 0 0 0 0 0 0 0 0 fun W s bW hs=>?_
 refine (machineOf_ok a len cap rows s zeroV W (hC.below bW) hs (hV.below bW) hp zero_shape).mono ?_
 rintro e w' ⟨⟨cs',rfl,hR'⟩,hb⟩
 obtain rfl:=hR'.uniq (hR.below bW)
 exact ⟨rfl,hb⟩
theorem newReplay_bad {a:Option Addr} {len cap:Nat} {rows:List (List I3)} {w:World} (hC:Codes w a len cap rows) (hV:VmShape w) (hp:progOk rows=false) :
  Calls Tryz.prog 54 #[.agg #[.slice a len cap]] w fun e w'=>e=.returned (.tuple #[.agg #[.slice none 0 0,.int .i64 0,.int .i64 0,.int .i64 0,.slice none 0 0,.int .i64 0,.int .i64 0,.int .i64 0,.slice none 0 0,.int .i64 0,.int .i64 0,.int .i64 0,.int .i64 0,.int .i64 0,.int .i64 0,.int .i64 0,.int .i64 0,.int .i64 0,.slice none 0 0],.int .i64 1])∧Below w.heap.size w w':=by
 refine newReplay_of a len cap w 1 none 0 0 none 0 0 none 0 0 0 0 0 0 0 0 0 0 0 0 0 0 0 0 0 fun W s bW hs=>?_
 exact machineOf_bad a len cap rows s zeroV W (hC.below bW) hs (hV.below bW) (by rw [hp];rfl)

theorem bugs_sliceR {w:World} {B:Nat} {v:Value} {xs:List I3} (h:w.ownsRow B 64 3 v xs.length (flat xs)) (hf:∀ x ∈ xs,I3.fits x):∃ a cap,v=.slice a xs.length cap∧Instrs w a xs.length cap xs∧GoodS a cap:=by
 rcases h.2 with ⟨rfl,h0⟩ | ⟨g,cap,cur,hv,_⟩
 ·exact ⟨none,0,by rw [h0],⟨rfl,by omega,by unfold maxLen;omega,hf,.inl h0⟩,fun _=>rfl,fun x hx=>by cases hx⟩
 ·subst hv
  exact ⟨_,_,rfl,Instrs.of_owns h rfl hf rfl,(fun h=>by cases h),fun x hx=>by cases hx;rfl⟩

theorem rbugs_is {fv:Value} {w:World} {g B:Nat} {cs:Sl × Sl × Sl} {rows:List (List I3)} {m:V4} {fs:List I3} (h:Rp.MachAt fv w g cs rows m) (hp:progOk rows=true) (hs:shapeOk m=true) (hF:w.ownsRow B 64 3 fv fs.length (flat fs)) (hfit:∀ x ∈ fs,I3.fits x) (hn:fs.length≤400000) :
  Calls Tryz.prog 60 #[.pointer (some ⟨g,0,none⟩)] w fun e w'=>BugsOne e w' w.heap.size (mergeB fs (deadM rows m))∧Below w.heap.size w w':=by
 have kU:=fun (W:World) (b:Below w.heap.size w W)=>deadlock_of (Rp.stuck_is g cs rows m W (h.below b) hp hs)
 rw [show (if stuckM rows m then [((14:Int),(0:Int),(0:Int))] else [])=deadM rows m from rfl] at kU
 have r1:=h.1.cell 18
 rw [Rp.machR_found] at r1
 obtain ⟨fa,fc,rfl,hI,hG⟩:=bugs_sliceR hF hfit
 have hdl:(deadM rows m).length≤1:=by unfold deadM;split<;>simp
 have hdf:∀ x ∈ deadM rows m,I3.fits x:=by
  intro x hx
  unfold deadM at hx
  split at hx
  ·simp only [List.mem_singleton] at hx
   subst hx
   exact okB_fitsQ rfl
  ·cases hx
 generalize deadM rows m=dd at *
 obtain ⟨fin,hfin⟩:∃ fin,fin=mergeB fs dd:=⟨_,rfl⟩
 rw [← hfin]
 have HF:Hid (fin=mergeB fs dd):=hfin
 clear hF hfin
 go_enter Tryz.func60,Tryz.ntmps60
 go_wp2_with fail
 refine wp_region_held_drew (S:=(fun w'=>w'.cell? ⟨g,18,none⟩=some (.slice fa fs.length fc))) (by kernel_rfl) r1 (fun hS0=>?_)
 refine tkm 0 3 (.pointer (some ⟨g,0,none⟩)) ?_
 refine tkm 1 4 (.pointer (some ⟨g,0,none⟩)) ?_
 refine tkm 2 5 (.pointer (some ⟨g,18,none⟩)) ?_
 refine tkm 3 6 (.slice fa fs.length fc) ?_
 refine tkm 4 7 (.pointer (some ⟨g,0,none⟩)) ?_
 refine tkm 5 8 (.pointer (some ⟨g,0,none⟩)) ?_
 refine tkm 6 9 (.pointer (some ⟨g,0,none⟩)) ?_
 have bd:Below w.heap.size w w.drew:=by go_grown
 have kU2:=kU _ bd
 replace hI:=hI.below bd
 generalize w.drew=V0 at *
 clear kU
 refine tkr 7 10 (fun K hK=>?_)
 go_simp
 refine kU2.mono ?_
 rintro e w1 ⟨⟨v,rfl,q⟩,hb1⟩
 obtain ⟨da,dc,rfl,hID,hGD⟩:=bugs_sliceR q hdf
 go_wp2_with fail
 refine hK.out _ _ (cells_kept hb1 _ _ hS0) (fun hS1=>?_)
 clear hK kU2
 try simp only [Act.put,tka,tkb,tkc]
 have kM:=mergedBugs_is fa fs.length fc fs da dd.length dc dd w1 (hI.below hb1) hID hn (by omega) hG hGD
 rw [← HF.out] at kM
 refine tkr 8 11 (fun K hK=>?_)
 go_simp
 refine kM.mono ?_
 rintro e w2 ⟨⟨v,rfl,q⟩,hb2⟩
 go_wp2_with fail
 refine hK.out _ _ (cells_kept hb2 _ _ hS1) (fun hS2=>?_)
 clear hK
 try simp only [Act.put,tka,tkb,tkc]
 refine tkm 9 2 v ?_
 refine wpAnyH_done (by kernel_rfl) ?_ _
 have q2:=own_lowerB q (Nat.le_trans bd.size hb1.size)
 have bz:=bel_trans bd (bel_trans hb1 hb2)
 clear kM q hb1 hb2 r1 hS0 hS1 hS2
 go_wp2
 go_ret
 exact ⟨⟨v,rfl,q2⟩,bz⟩
end Go.Proofs.YtifoggpohlegmaaGreatDoor
