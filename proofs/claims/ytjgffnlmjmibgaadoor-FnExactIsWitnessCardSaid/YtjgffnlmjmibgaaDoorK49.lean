/-
  Joined: WitB, VmLaid, WitEnd, Vars.
-/
import Derived.Test.YtjgffnlmjmibgaaDoorRows
import Derived.ProofKit
import Derived.OpenShut
import Derived.LaidMore
import Derived.MakeChecks
import Derived.Stop.LaidErr
import Derived.WalkSmall
import Derived.ChangeOld
import Derived.Test.YtjgffnlmjmibgaaDoorK10
import Derived.Test.YtjgffnlmjmibgaaDoorK48

namespace Go.Proofs.YtjgffnlmjmibgaaDoor
set_option maxRecDepth 100000
set_option maxHeartbeats 16000000
open Go.RowKit
set_option linter.unusedVariables false
set_option linter.unusedSimpArgs false

def witV (rows:List (List I3)) (ks:List Int) (y:I3):Bool:=if 4096<ks.length then false else if progOk rows && okB y then decide (runC rows ks=0) && hasW (runF rows ks) y else false
def witC (rows:List (List I3)) (ks:List Int) (y:I3):Int:=if 4096<ks.length then 2 else if progOk rows && okB y then 0 else 1
theorem runS_runI (rows:List (List I3)) (ks:List Int):runS rows zeroV [] ks=((runI rows zeroV [] ks).1,mergeB (runI rows zeroV [] ks).2.1 (deadM rows (runI rows zeroV [] ks).1),(runI rows zeroV [] ks).2.2):=by
 have h0:([]:List I3)=mergeB [] (deadM rows zeroV):=by unfold deadM;rw [stuck_zero];rfl
 obtain ⟨h1,h2,h3⟩:=run_same (rows:=rows) ks zeroV [] [] h0
 rw [← h1,← h2] at *
 exact Prod.ext h1 (Prod.ext h3 rfl)
theorem runF_ok (rows:List (List I3)) (ks:List Int):(∀ x ∈ runF rows ks,okB x=true)∧(runF rows ks).length≤5000:=by
 unfold runF
 split
 ·simp
 ·split
  ·rename_i h1 h2
   have a:=runI_ok h2 ks zeroV [] zero_shape (by simp)
   have b:=runI_len (rows:=rows) ks zeroV []
   have c:=mergeB_len (runI rows zeroV [] ks).2.1 (deadM rows (runI rows zeroV [] ks).1)
   have d:(deadM rows (runI rows zeroV [] ks).1).length≤1:=by unfold deadM;split<;>simp
   refine ⟨mergeB_ok a.2 (deadM_ok _ _),?_⟩
   simp at b
   omega
  ·simp

theorem implIsWitness_is (a:Option Addr) (len cap:Nat) (rows:List (List I3)) (la:Option Addr) (n c:Nat) (ks:List Int) (y:I3) (w:World) (hC:Codes w a len cap rows) (hV:VmShape w) (hL:Ints .i64 w la n c ks) :
  Calls Tryd.prog 12 #[.agg #[.slice a len cap],.slice la n c,y.val] w fun e w'=>e=.returned (.tuple #[.bool (witV rows ks y),.int .i64 (witC rows ks y)])∧Below w.heap.size w w':=by
 have hll:=hL.1
 unfold witV witC
 rw [hll]
 obtain ⟨y0,y1,y2⟩:=y
 unfold I3.val
 simp only
 have bw:Below w.heap.size w ((w.alloc (.cells #[.slice a len cap] 25)).alloc (.cells #[.int .i64 y0,.int .i64 y1,.int .i64 y2] 40)):=by go_grown
 have pP:Blk ((w.alloc (.cells #[.slice a len cap] 25)).alloc (.cells #[.int .i64 y0,.int .i64 y1,.int .i64 y2] 40)) w.heap.size 25 [.slice a len cap]:=blkOld _ (blkAt _ _ _ rfl)
 have pB:Blk ((w.alloc (.cells #[.slice a len cap] 25)).alloc (.cells #[.int .i64 y0,.int .i64 y1,.int .i64 y2] 40)) (w.heap.size+1) 40 [.int .i64 y0,.int .i64 y1,.int .i64 y2]:=blkAt _ _ _ (by simp)
 by_cases hn:4096<n
 ·have hn':(4096:Int)<(n:Int):=by omega
  simp only [if_pos hn]
  clear hC hV hL hn pP pB
  go_enter Tryd.func12,Tryd.ntmps12
  go_wp2
  go_ret2
  exact ⟨rfl,bw⟩
 simp only [if_neg hn]
 have hn':¬ (4096:Int)<(n:Int):=by omega
 cases hp:progOk rows
 ·have kN:=fun W (b:Below w.heap.size w W)=>newReplay_bad (hC.below b) (hV.below b) hp
  simp only [Bool.false_and,Bool.false_eq_true,if_false]
  clear hp hC hV hL hn
  go_enter Tryd.func12,Tryd.ntmps12
  go_wp2_with fail
  generalize ((w.alloc (.cells #[.slice a len cap] 25)).alloc (.cells #[.int .i64 y0,.int .i64 y1,.int .i64 y2] 40))=U at *
  have bx:Below U.heap.size U U:=Below.refl _ _
  go_wp2_with (first | refine wpList_load_blk rfl 25 _ rfl w.heap.size rfl pP _ Tryd.underlying25 rfl (by kernel_rfl) ?_)
  refine (kN _ bw).mono ?_
  rintro e w1 ⟨rfl,hb⟩
  replace bx:=bel_trans bx hb
  have pN:=Blk.new w1 71 [.slice none 0 0,.int .i64 0,.int .i64 0,.int .i64 0,.slice none 0 0,.int .i64 0,.int .i64 0,.int .i64 0,.slice none 0 0,.int .i64 0,.int .i64 0,.int .i64 0,.int .i64 0,.int .i64 0,.int .i64 0,.int .i64 0,.int .i64 0,.int .i64 0,.slice none 0 0]
  have ha:Below w1.heap.size w1 (w1.alloc (.cells #[.slice none 0 0,.int .i64 0,.int .i64 0,.int .i64 0,.slice none 0 0,.int .i64 0,.int .i64 0,.int .i64 0,.slice none 0 0,.int .i64 0,.int .i64 0,.int .i64 0,.int .i64 0,.int .i64 0,.int .i64 0,.int .i64 0,.int .i64 0,.int .i64 0,.slice none 0 0] 71)):=by go_grown
  have hgU:U.heap.size≤w1.heap.size:=bx.size
  clear kN hb pP
  go_wp2_with (refine wpList_store_blk rfl 71 _ _ rfl w1.heap.size [.slice none 0 0,.int .i64 0,.int .i64 0,.int .i64 0,.slice none 0 0,.int .i64 0,.int .i64 0,.int .i64 0,.slice none 0 0,.int .i64 0,.int .i64 0,.int .i64 0,.int .i64 0,.int .i64 0,.int .i64 0,.int .i64 0,.int .i64 0,.int .i64 0,.slice none 0 0] rfl rfl pN (by kernel_rfl) rfl rfl ?_)
  intro W pM g1
  replace bx:=(bel_trans bx ha).grown g1 (by simp;omega) (fun x hx=>by cases hx;omega)
  have pG:=pM.out
  clear g1 ha pN pM
  generalize w1.heap.size=g at *
  clear pG hgU pB
  replace bw:=bel_trans bw bx
  clear bx
  go_wp2
  go_ret2
  exact ⟨rfl,bw⟩
 ·obtain ⟨rfl,cs,hR⟩:=hC.rowsAt hp
  have kN:=fun W (b:Below w.heap.size w W)=>newReplay_ok (hC.below b) (hV.below b) hp (hR.below b)
  have kO:=fun W=>implBugOK_is (y0,y1,y2) W
  unfold I3.val at kO
  simp only at kO
  simp only [Bool.true_and]
  cases hy:okB (y0,y1,y2)
  ·rw [hy] at kO
   simp only [Bool.false_eq_true,if_false]
   clear hp hC hV hL hn hy hR
   go_enter Tryd.func12,Tryd.ntmps12
   go_wp2_with fail
   generalize ((w.alloc (.cells #[.slice a 3 cap] 25)).alloc (.cells #[.int .i64 y0,.int .i64 y1,.int .i64 y2] 40))=U at *
   have bx:Below U.heap.size U U:=Below.refl _ _
   go_wp2_with (first | refine wpList_load_blk rfl 25 _ rfl w.heap.size rfl pP _ Tryd.underlying25 rfl (by kernel_rfl) ?_)
   refine (kN _ bw).mono ?_
   rintro e w1 ⟨rfl,hb⟩
   replace bx:=bel_trans bx hb
   have pN:=Blk.new w1 71 [.slice none 0 0,.int .i64 0,.int .i64 0,.int .i64 0,.slice none 0 0,.int .i64 0,.int .i64 0,.int .i64 0,.slice none 0 0,.int .i64 0,.int .i64 0,.int .i64 0,.int .i64 0,.int .i64 0,.int .i64 0,.int .i64 0,.int .i64 0,.int .i64 0,.slice none 0 0]
   have ha:Below w1.heap.size w1 (w1.alloc (.cells #[.slice none 0 0,.int .i64 0,.int .i64 0,.int .i64 0,.slice none 0 0,.int .i64 0,.int .i64 0,.int .i64 0,.slice none 0 0,.int .i64 0,.int .i64 0,.int .i64 0,.int .i64 0,.int .i64 0,.int .i64 0,.int .i64 0,.int .i64 0,.int .i64 0,.slice none 0 0] 71)):=by go_grown
   have hgU:U.heap.size≤w1.heap.size:=bx.size
   clear kN hb pP
   go_wp2_with (refine wpList_store_blk rfl 71 _ _ rfl w1.heap.size (Rp.machR (.slice none 0 0) cs.1.val cs.2.1.val cs.2.2.val zeroV) rfl rfl pN (by kernel_rfl) rfl rfl ?_)
   intro W pM g1
   replace bx:=(bel_trans bx ha).grown g1 (by simp;omega) (fun x hx=>by cases hx;omega)
   have pG:=pM.out
   clear g1 ha pN pM
   generalize w1.heap.size=g at *
   clear pG hgU
   replace pB:=pB.below bx
   replace bw:=bel_trans bw bx
   clear bx
   have d0:=pB.cell 0
   have d1:=pB.cell 1
   have d2:=pB.cell 2
   simp only [List.getElem?_cons_zero,List.getElem?_cons_succ] at d0 d1 d2
   go_wp2_with fail
   refine (kO _).mono ?_
   rintro e w2 ⟨rfl,hb⟩
   replace bw:=bel_trans bw hb
   clear hb kO pB d0 d1 d2
   go_wp2
   go_ret2
   exact ⟨rfl,bw⟩
  ·rw [hy] at kO
   simp only [if_true]
   have okF:=runI_ok hp ks zeroV [] zero_shape (by simp)
   have lenF:=runI_len (rows:=rows) ks zeroV []
   have rF:=runF_ok rows ks
   have eF:runF rows ks=mergeB (runI rows zeroV [] ks).2.1 (deadM rows (runI rows zeroV [] ks).1):=by unfold runF;rw [if_neg (by omega),if_pos hp]
   have eC:runC rows ks=(runI rows zeroV [] ks).2.2:=by unfold runC;rw [if_neg (by omega),if_pos hp]
   rw [eF] at rF ⊢
   rw [eC]
   clear eF eC
   have kRun:=fun (U W:World) (g:Nat) (bU:Below w.heap.size w U) (b:Below U.heap.size U W) (hg:U.heap.size≤g) (hM:RanTo W g U.heap.size cs zeroV []) (hl:ListAt W U.heap.size la n c ks)=>run_is (hR.below bU) b hg hp zero_shape hM hl (by simp;omega)
   have hL0:∀ U W,Below w.heap.size w U→Below U.heap.size U W→ListAt W U.heap.size la n c ks:=fun U W bU b=>⟨(hL.below bU).below b,fun b' o' ha h0=>by
    rcases hL.2.2.2 with h9 | ⟨b9,o9,e9,l9,_⟩
    ·omega
    ·rw [ha] at e9
     cases e9
     exact .inl (Nat.lt_of_lt_of_le l9 bU.size)⟩
   generalize runI rows zeroV [] ks=fin at *
   obtain ⟨m,fs,code⟩:=fin
   simp only at okF lenF kRun rF ⊢
   obtain ⟨hs,hok⟩:=okF
   have kB:=fun (W:World) (g:Nat) (fv:Value) (h:Rp.MachAt fv W g cs rows m) (B:Nat) (hF:W.ownsRow B 40 3 fv fs.length (flat fs))=>rbugs_is h hp hs hF (fun x hx=>okB_fitsQ (hok x hx)) (by simp at lenF;omega)
   generalize mergeB fs (deadM rows m)=found at *
   obtain ⟨hfo,hfl⟩:=rF
   have kCn:=fun (W:World) (fa:Option Addr) (fc:Nat) (h:Instrs W fa found.length fc found)=>contains_is fa found.length fc found (y0,y1,y2) W h (by omega)
   unfold I3.val at kCn
   simp only at kCn
   generalize hasW found (y0,y1,y2)=hw at *
   clear hp hC hV hL hn hy hs hok lenF hll
   go_enter Tryd.func12,Tryd.ntmps12
   go_wp2_with fail
   generalize ((w.alloc (.cells #[.slice a 3 cap] 25)).alloc (.cells #[.int .i64 y0,.int .i64 y1,.int .i64 y2] 40))=U at *
   have bx:Below U.heap.size U U:=Below.refl _ _
   go_wp2_with (first | refine wpList_load_blk rfl 25 _ rfl w.heap.size rfl pP _ Tryd.underlying25 rfl (by kernel_rfl) ?_)
   refine (kN _ bw).mono ?_
   rintro e w1 ⟨rfl,hb⟩
   replace bx:=bel_trans bx hb
   have pN:=Blk.new w1 71 [.slice none 0 0,.int .i64 0,.int .i64 0,.int .i64 0,.slice none 0 0,.int .i64 0,.int .i64 0,.int .i64 0,.slice none 0 0,.int .i64 0,.int .i64 0,.int .i64 0,.int .i64 0,.int .i64 0,.int .i64 0,.int .i64 0,.int .i64 0,.int .i64 0,.slice none 0 0]
   have ha:Below w1.heap.size w1 (w1.alloc (.cells #[.slice none 0 0,.int .i64 0,.int .i64 0,.int .i64 0,.slice none 0 0,.int .i64 0,.int .i64 0,.int .i64 0,.slice none 0 0,.int .i64 0,.int .i64 0,.int .i64 0,.int .i64 0,.int .i64 0,.int .i64 0,.int .i64 0,.int .i64 0,.int .i64 0,.slice none 0 0] 71)):=by go_grown
   have hgU:U.heap.size≤w1.heap.size:=bx.size
   clear kN hb pP
   go_wp2_with (refine wpList_store_blk rfl 71 _ _ rfl w1.heap.size (Rp.machR (.slice none 0 0) cs.1.val cs.2.1.val cs.2.2.val zeroV) rfl rfl pN (by kernel_rfl) rfl rfl ?_)
   intro W pM g1
   replace bx:=(bel_trans bx ha).grown g1 (by simp;omega) (fun x hx=>by cases hx;omega)
   have pG:=pM.out
   clear g1 ha pN pM
   generalize w1.heap.size=g at *
   have pB2:=pB.below bx
   have d0:=pB2.cell 0
   have d1:=pB2.cell 1
   have d2:=pB2.cell 2
   simp only [List.getElem?_cons_zero,List.getElem?_cons_succ] at d0 d1 d2
   go_wp2_with fail
   refine (kO _).mono ?_
   rintro e w2 ⟨rfl,hb⟩
   replace bx:=bel_trans bx hb
   replace pG:=pG.below hb
   clear hb kO pB2 d0 d1 d2
   have kRx:=kRun U w2 g bw bx hgU ⟨_,pG,World.ownsRow_nil _ _ _ _⟩ (hL0 _ _ bw bx)
   clear kRun hL0
   by_cases hcd:code=0
   ·subst hcd
    have he0:((0:Int) == 0)=true:=rfl
    simp only [decide_true,Bool.true_and]
    go_wp2_with fail
    refine kRx.mono ?_
    rintro e w3 ⟨rfl,⟨fv,hM3,hF3⟩,bw3,kp3⟩
    have pB3:=pB.below bw3
    clear kRx pG pB kp3 bx
    have c0:=pB3.cell 0
    have c1:=pB3.cell 1
    have c2:=pB3.cell 2
    simp only [List.getElem?_cons_zero,List.getElem?_cons_succ] at c0 c1 c2
    go_wp2_with fail
    have hdr:Below w3.heap.size w3 w3.drew:=by go_grown
    have kBx:=kB w3.drew g fv (rowsMach ((hR.below bw).below (bel_trans bw3 hdr)) (hM3.below hdr)) _ (owns_below hF3 hdr)
    have bd:=bel_trans bw3 hdr
    clear hdr kB
    refine wp_region_held_drew (S:=(fun w'=>w'.cell? ⟨w.heap.size+1,0,none⟩=some (.int .i64 y0)∧w'.cell? ⟨w.heap.size+1,1,none⟩=some (.int .i64 y1)∧w'.cell? ⟨w.heap.size+1,2,none⟩=some (.int .i64 y2))) (by kernel_rfl) ⟨c0,c1,c2⟩ (fun hS0=>?_)
    refine tkm 0 29 (.bool true) ?_
    refine tkm 1 30 (.bool true) ?_
    refine tkm 3 32 (.agg #[.int .i64 y0,.int .i64 y1,.int .i64 y2]) ?_
    refine tkr 2 31 (fun K hK=>?_)
    go_simp
    refine kBx.mono ?_
    rintro e w4 ⟨⟨v4,rfl,q4⟩,hb4⟩
    obtain ⟨fa,fc,rfl,hI4,hG4⟩:=bugs_sliceR q4 (fun x hx=>okB_fitsQ (hfo x hx))
    clear hG4 q4
    go_wp2_with fail
    refine hK.out _ _ ?_ (fun hS1=>?_)
    ·exact ⟨cells_kept hb4 _ _ hS0.1,cells_kept hb4 _ _ hS0.2.1,cells_kept hb4 _ _ hS0.2.2⟩
    clear hK kBx
    refine tkr 4 33 (fun K hK=>?_)
    go_simp
    refine (kCn _ fa fc hI4).mono ?_
    rintro e w5 ⟨rfl,hb5⟩
    go_wp2_with fail
    refine hK.out _ _ ?_ (fun hS2=>?_)
    ·exact ⟨cells_kept hb5 _ _ hS1.1,cells_kept hb5 _ _ hS1.2.1,cells_kept hb5 _ _ hS1.2.2⟩
    clear hK kCn
    refine tkm 5 34 (.bool hw) ?_
    refine tkm 6 6 (.bool hw) ?_
    refine tkm 7 7 (.int .i64 0) ?_
    refine wpAnyH_done (by kernel_rfl) ?_ _
    have bz:=bel_trans bw (bel_trans bd (bel_trans hb4 hb5))
    clear hS0 hS1 hS2 bd hb4 hb5 hI4 hM3 hF3 bw3 pB3 c0 c1 c2 bw hR
    go_wp2
    go_ret2
    exact ⟨rfl,bz⟩
   ·have he0:(code == 0)=false:=by simp [hcd]
    have HC:Hid (decide (code=0)=false):=by rw [Hid];simp [hcd]
    clear hcd
    go_wp2_with fail
    refine kRx.mono ?_
    rintro e w3 ⟨rfl,⟨fv,hM3,hF3⟩,bw3,kp3⟩
    have pB3:=pB.below bw3
    clear kRx pG pB kp3 bx
    have c0:=pB3.cell 0
    have c1:=pB3.cell 1
    have c2:=pB3.cell 2
    simp only [List.getElem?_cons_zero,List.getElem?_cons_succ] at c0 c1 c2
    go_wp2_with fail
    clear pB3 c0 c1 c2
    refine wp_region_held_drew (S:=(fun w'=>True)) (by kernel_rfl) trivial (fun hS0=>?_)
    refine tkm 0 29 (.bool false) ?_
    refine tkm 1 30 (.bool false) ?_
    refine tku 2 31 ?_
    refine tku 3 32 ?_
    refine tku 4 33 ?_
    refine tkm 5 34 (.bool false) ?_
    refine tkm 6 6 (.bool false) ?_
    refine tkm 7 7 (.int .i64 0) ?_
    refine wpAnyH_done (by kernel_rfl) ?_ _
    have bz:=bel_trans bw (bel_trans bw3 (by go_grown:Below w3.heap.size w3 w3.drew))
    clear hM3 hF3 bw3 bw hR kB kCn
    go_wp2
    go_ret2
    exact ⟨by rw [HC.out];rfl,bz⟩

theorem specIsWitness_is (a:Option Addr) (len cap:Nat) (rows:List (List I3)) (la:Option Addr) (n c:Nat) (ks:List Int) (y:I3) (w:World) (hC:Codes w a len cap rows) (hL:Ints .i64 w la n c ks) :
  Calls Tryd.prog 16 #[.agg #[.slice a len cap],.slice la n c,y.val] w fun e w'=>e=.returned (.tuple #[.bool (witV rows ks y),.int .i64 (witC rows ks y)])∧Below w.heap.size w w':=by
 have hll:=hL.1
 unfold witV witC
 rw [hll]
 obtain ⟨y0,y1,y2⟩:=y
 unfold I3.val
 simp only
 have bw:Below w.heap.size w ((w.alloc (.cells #[.slice a len cap] 25)).alloc (.cells #[.int .i64 y0,.int .i64 y1,.int .i64 y2] 40)):=by go_grown
 have pP:Blk ((w.alloc (.cells #[.slice a len cap] 25)).alloc (.cells #[.int .i64 y0,.int .i64 y1,.int .i64 y2] 40)) w.heap.size 25 [.slice a len cap]:=blkOld _ (blkAt _ _ _ rfl)
 have pB:Blk ((w.alloc (.cells #[.slice a len cap] 25)).alloc (.cells #[.int .i64 y0,.int .i64 y1,.int .i64 y2] 40)) (w.heap.size+1) 40 [.int .i64 y0,.int .i64 y1,.int .i64 y2]:=blkAt _ _ _ (by simp)
 by_cases hn:4096<n
 ·have hn':(4096:Int)<(n:Int):=by omega
  simp only [if_pos hn]
  clear hC hL hn pP pB
  go_enter Tryd.func16,Tryd.ntmps16
  go_wp2
  go_ret2
  exact ⟨rfl,bw⟩
 simp only [if_neg hn]
 have hn':¬ (4096:Int)<(n:Int):=by omega
 have kP:=fun W (b:Below w.heap.size w W)=>specProgramOK_is a len cap rows W (hC.below b)
 cases hp:progOk rows
 ·rw [hp] at kP
  simp only [Bool.false_and,Bool.false_eq_true,if_false]
  clear hp hC hL hn
  go_enter Tryd.func16,Tryd.ntmps16
  go_wp2_with fail
  generalize ((w.alloc (.cells #[.slice a len cap] 25)).alloc (.cells #[.int .i64 y0,.int .i64 y1,.int .i64 y2] 40))=U at *
  go_wp2_with (first | refine wpList_load_blk rfl 25 _ rfl w.heap.size rfl pP _ Tryd.underlying25 rfl (by kernel_rfl) ?_)
  refine (kP _ bw).mono ?_
  rintro e w1 ⟨rfl,hb⟩
  replace bw:=bel_trans bw hb
  clear hb kP pP pB
  go_wp2
  go_ret2
  exact ⟨rfl,bw⟩
 ·rw [hp] at kP
  obtain ⟨rfl,cs,hR⟩:=hC.rowsAt hp
  have kO:=fun W=>specBugOK_is (y0,y1,y2) W
  unfold I3.val at kO
  simp only at kO
  simp only [Bool.true_and]
  cases hy:okB (y0,y1,y2)
  ·rw [hy] at kO
   simp only [Bool.false_eq_true,if_false]
   clear hp hC hL hn hy hR
   go_enter Tryd.func16,Tryd.ntmps16
   go_wp2_with fail
   generalize ((w.alloc (.cells #[.slice a 3 cap] 25)).alloc (.cells #[.int .i64 y0,.int .i64 y1,.int .i64 y2] 40))=U at *
   go_wp2_with (first | refine wpList_load_blk rfl 25 _ rfl w.heap.size rfl pP _ Tryd.underlying25 rfl (by kernel_rfl) ?_)
   refine (kP _ bw).mono ?_
   rintro e w1 ⟨rfl,hb⟩
   replace bw:=bel_trans bw hb
   replace pP:=pP.below hb
   replace pB:=pB.below hb
   clear hb kP
   have d0:=pB.cell 0
   have d1:=pB.cell 1
   have d2:=pB.cell 2
   simp only [List.getElem?_cons_zero,List.getElem?_cons_succ] at d0 d1 d2
   go_wp2_with fail
   refine (kO _).mono ?_
   rintro e w2 ⟨rfl,hb⟩
   replace bw:=bel_trans bw hb
   replace pP:=pP.below hb
   replace pB:=pB.below hb
   clear hb kO d0 d1 d2
   clear pP pB
   go_wp2
   go_ret2
   exact ⟨rfl,bw⟩
  ·rw [hy] at kO
   simp only [if_true]
   have rF:=runF_ok rows ks
   have kR:=fun (W:World) (b:Below w.heap.size w W)=>l04Run_is (cap:=cap) (hR.below b) hp (hL.below b) (by omega)
   rw [runS_runI] at kR
   simp only at kR
   have eF:runF rows ks=mergeB (runI rows zeroV [] ks).2.1 (deadM rows (runI rows zeroV [] ks).1):=by unfold runF;rw [if_neg (by omega),if_pos hp]
   have eC:runC rows ks=(runI rows zeroV [] ks).2.2:=by unfold runC;rw [if_neg (by omega),if_pos hp]
   rw [← eF,← eC] at kR
   clear eF eC
   generalize (runI rows zeroV [] ks).1=z at *
   generalize runF rows ks=xs at *
   generalize runC rows ks=code at *
   obtain ⟨hfo,hfl⟩:=rF
   obtain ⟨r,hr⟩:∃ r,r=hasW xs (y0,y1,y2):=⟨_,rfl⟩
   rw [← hr]
   have HR:Hid (r=hasW (xs.drop 0) (y0,y1,y2)):=by rw [Hid];simpa using hr
   clear hr
   obtain ⟨ec,hec⟩:∃ ec,ec=decide (code=0):=⟨_,rfl⟩
   rw [← hec]
   have hce:(code == 0)=ec:=by rw [hec];by_cases h9:code=0<;>simp [h9]
   clear hec
   clear hp hC hL hn hy hR hll
   go_enter Tryd.func16,Tryd.ntmps16
   go_wp2_with fail
   generalize ((w.alloc (.cells #[.slice a 3 cap] 25)).alloc (.cells #[.int .i64 y0,.int .i64 y1,.int .i64 y2] 40))=U at *
   go_wp2_with (first | refine wpList_load_blk rfl 25 _ rfl w.heap.size rfl pP _ Tryd.underlying25 rfl (by kernel_rfl) ?_)
   refine (kP _ bw).mono ?_
   rintro e w1 ⟨rfl,hb⟩
   replace bw:=bel_trans bw hb
   replace pP:=pP.below hb
   replace pB:=pB.below hb
   clear hb kP
   have d0:=pB.cell 0
   have d1:=pB.cell 1
   have d2:=pB.cell 2
   simp only [List.getElem?_cons_zero,List.getElem?_cons_succ] at d0 d1 d2
   go_wp2_with fail
   refine (kO _).mono ?_
   rintro e w2 ⟨rfl,hb⟩
   replace bw:=bel_trans bw hb
   replace pP:=pP.below hb
   replace pB:=pB.below hb
   clear hb kO d0 d1 d2
   go_wp2_with (first | refine wpList_load_blk rfl 25 _ rfl w.heap.size rfl pP _ Tryd.underlying25 rfl (by kernel_rfl) ?_)
   refine (kR _ bw).mono ?_
   rintro e w3 ⟨⟨⟨⟨t0a,t0n,t0c⟩,⟨t1a,t1n,t1c⟩,⟨t2a,t2n,t2c⟩,⟨t3a,t3n,t3c⟩⟩,v,rfl,hO,q⟩,hb⟩
   have ut:S4.val ((t0a,t0n,t0c),(t1a,t1n,t1c),(t2a,t2n,t2c),(t3a,t3n,t3c))=.agg #[.slice t0a t0n t0c,.slice t1a t1n t1c,.slice t2a t2n t2c,.slice t3a t3n t3c]:=rfl
   rw [ut]
   clear ut hO
   replace bw:=bel_trans bw hb
   replace pB:=pB.below hb
   clear hb kR pP
   have ha:Below w3.heap.size w3 (w3.alloc (.cells #[.slice t0a t0n t0c,.slice t1a t1n t1c,.slice t2a t2n t2c,.slice t3a t3n t3c] 30)):=by go_grown
   replace bw:=bel_trans bw ha
   replace pB:=pB.below ha
   obtain ⟨va,vc,rfl,hI,hG9⟩:=bugs_sliceR q (fun x hx=>okB_fitsQ (hfo x hx))
   replace hI:=hI.below ha
   clear ha q hG9
   go_wp2_with fail
   generalize w3.alloc (.cells #[.slice t0a t0n t0c,.slice t1a t1n t1c,.slice t2a t2n t2c,.slice t3a t3n t3c] 30)=W0 at *
   have h:=hI
   clear hI
   generalize hn9:xs.length=n9 at *
   have HL:Hid (xs.length=n9):=hn9
   clear hn9
   have c0:=pB.cell 0
   have c1:=pB.cell 1
   have c2:=pB.cell 2
   simp only [List.getElem?_cons_zero,List.getElem?_cons_succ] at c0 c1 c2
   go_loopw [11] (fun si wr=>∃ k:Nat,k≤n9∧si=.int .i64 k∧Hid (r=hasW (xs.drop k) (y0,y1,y2))∧Below W0.heap.size W0 wr∧wr.cell? ⟨w.heap.size+1,0,none⟩=some (.int .i64 y0)∧wr.cell? ⟨w.heap.size+1,1,none⟩=some (.int .i64 y1)∧wr.cell? ⟨w.heap.size+1,2,none⟩=some (.int .i64 y2)) (fun si _=>n9 - (intOf si).toNat)
   case atStart=>exact ⟨0,by omega,rfl,HR,Below.refl _ _,c0,c1,c2⟩
   case round =>
    clear HR c0 c1 c2 pB
    obtain ⟨k,hk,rfl,HR,bx,c0,c1,c2⟩:=hrel
    by_cases hlt:k<n9
    ·obtain ⟨_,_,_,_,hcase⟩:=h.below bx
     rcases hcase with e0 | ⟨b,off,rfl,hb,hc⟩
     ·omega
     obtain ⟨d0,d1,d2⟩:=hc k hlt
     clear hc hb
     have hst:=hasW_step (xs:=xs) (k:=k) (by have:=HL.out;omega) (y0,y1,y2)
     generalize xs.getD k (0,0,0)=x at d0 d1 d2 hst
     have HS:Hid (hasW (xs.drop k) (y0,y1,y2)=(decide (x=(y0,y1,y2)) || hasW (xs.drop (k+1)) (y0,y1,y2))):=hst
     clear hst
     have hlt':(k:Int)<(n9:Int):=by omega
     have hk0:(0:Int)≤(k:Int):=by omega
     obtain ⟨x0,x1,x2⟩:=x
     simp only at d0 d1 d2
     by_cases hE:(x0,x1,x2)=(y0,y1,y2)
     ·cases hE
      have HF:Hid (r=true):=by rw [Hid,HR.out,HS.out];simp
      clear HS HR
      have q0:(y0 == y0)=true:=by simp
      have q1:(y1 == y1)=true:=by simp
      have q2:(y2 == y2)=true:=by simp
      go_wp2_with fail
      go_quiet (fail)
      have bwd:=bel_trans bw (bel_trans bx (below_dN nq))
      generalize wr.drewN nq=U9 at *
      clear d0 d1 d2 c0 c1 c2 bx q0 q1 q2
      go_wp2
      go_ret2
      exact ⟨by rw [HF.out,Bool.and_true];rfl,bwd⟩
     ·have HF:Hid (r=hasW (xs.drop (k+1)) (y0,y1,y2)):=by rw [Hid,HR.out,HS.out];simp only [hE,decide_false,Bool.false_or]
      clear HS HR
      have h3:x0≠y0∨(x0=y0∧x1≠y1)∨(x0=y0∧x1=y1∧x2≠y2):=by
       by_cases q0:x0=y0
       ·by_cases q1:x1=y1
        ·refine .inr (.inr ⟨q0,q1,fun q2=>hE ?_⟩)
         rw [q0,q1,q2]
        ·exact .inr (.inl ⟨q0,q1⟩)
       ·exact .inl q0
      clear hE
      go_wp2_with fail
      rcases h3 with t0 | ⟨rfl,t1⟩ | ⟨rfl,rfl,t2⟩
      ·have t0':(x0 == y0)=false:=by simp [t0]
       go_quiet (fail)
       have bwd:=bel_trans bx (below_dN (w:=wr) nq)
       replace c0:(wr.drewN nq).cell? ⟨w.heap.size+1,0,none⟩=some (.int .i64 y0):=c0
       replace c1:(wr.drewN nq).cell? ⟨w.heap.size+1,1,none⟩=some (.int .i64 y1):=c1
       replace c2:(wr.drewN nq).cell? ⟨w.heap.size+1,2,none⟩=some (.int .i64 y2):=c2
       generalize wr.drewN nq=U9 at *
       clear d0 d1 d2 bx  t0 t0'
       go_wp2
       go_roundw
       case rel=>exact ⟨k+1,by omega,by go_num,HF,bwd,c0,c1,c2⟩
       case measure=>simp [intOf];omega
      ·have q0:(x0 == x0)=true:=by simp
       have t1':(x1 == y1)=false:=by simp [t1]
       go_quiet (fail)
       have bwd:=bel_trans bx (below_dN (w:=wr) nq)
       replace c0:(wr.drewN nq).cell? ⟨w.heap.size+1,0,none⟩=some (.int .i64 x0):=c0
       replace c1:(wr.drewN nq).cell? ⟨w.heap.size+1,1,none⟩=some (.int .i64 y1):=c1
       replace c2:(wr.drewN nq).cell? ⟨w.heap.size+1,2,none⟩=some (.int .i64 y2):=c2
       generalize wr.drewN nq=U9 at *
       clear d0 d1 d2 bx q0 t1 t1'
       go_wp2
       go_roundw
       case rel=>exact ⟨k+1,by omega,by go_num,HF,bwd,c0,c1,c2⟩
       case measure=>simp [intOf];omega
      ·have q0:(x0 == x0)=true:=by simp
       have q1:(x1 == x1)=true:=by simp
       have t2':(x2 == y2)=false:=by simp [t2]
       go_quiet (fail)
       have bwd:=bel_trans bx (below_dN (w:=wr) nq)
       replace c0:(wr.drewN nq).cell? ⟨w.heap.size+1,0,none⟩=some (.int .i64 x0):=c0
       replace c1:(wr.drewN nq).cell? ⟨w.heap.size+1,1,none⟩=some (.int .i64 x1):=c1
       replace c2:(wr.drewN nq).cell? ⟨w.heap.size+1,2,none⟩=some (.int .i64 y2):=c2
       generalize wr.drewN nq=U9 at *
       clear d0 d1 d2 bx q0 q1 t2 t2'
       go_wp2
       go_roundw
       case rel=>exact ⟨k+1,by omega,by go_num,HF,bwd,c0,c1,c2⟩
       case measure=>simp [intOf];omega
    ·obtain rfl:k=n9:=by omega
     have HF:Hid (r=false):=by rw [Hid,HR.out,List.drop_of_length_le (by have:=HL.out;omega)];rfl
     clear HR c0 c1 c2
     replace bw:=bel_trans bw bx
     clear bx
     go_wp2
     go_ret2
     exact ⟨by rw [HF.out,Bool.and_false];rfl,bw⟩

open Go.RowKit Go.ChangeShapes

theorem gVmShape:Tryd.prog.globalNamed "loop.example/g00632/impl.vmShape"=some 0:=by kernel_rfl
theorem tVmShape:(Tryd.prog.globals[0]?).map (·.type)=some 129:=by kernel_rfl

section
variable {H : Type} {enc : TypeId × Value → H} {w : World} {base : Nat} {spare : Nat → Bool} {held : Bool}
theorem part_cells {fuel:Nat} {cs:List Value} {a b:Int} {p:List MemPlace} (h:DataW.trod enc Tryd.prog w base spare held fuel 128 cs=some (.agg [.lit (.int .i64 a),.lit (.int .i64 b)],p)):cs=[.int .i64 a,.int .i64 b]:=by
 obtain ⟨y0,y1,n,hx,hl,h0,h1⟩:=trod_struct2 Tryd.underlying128 h
 have hl2:cs.length=2:=hl.trans (by kernel_rfl)
 have hk:Tryd.prog.cellsOf 3=1:=by kernel_rfl
 match cs,hl2 with
 | [c0,c1],_ =>
  simp only [hk] at h0 h1
  obtain ⟨z0,e0,hy0,_⟩:=DataW.trod_int Tryd.underlying3 h0
  obtain ⟨z1,e1,hy1,_⟩:=DataW.trod_int Tryd.underlying3 h1
  simp at e0 e1
  subst hy0 hy1 e0 e1
  simp at hx
  simp [hx]
theorem shape_cells {fuel:Nat} {cs:List Value} {p:List MemPlace} (h:DataW.trod enc Tryd.prog w base spare held fuel 129 cs=some (Rows.laid_loop_example_g00632_impl_vmShape,p)):cs=[3,6,4,9,2,3,6,9].map (Value.int .i64):=by
 obtain ⟨xs,m,_,hx,hl,hn,hi⟩:=DataW.trod_array Tryd.underlying129 h
 have hk:Tryd.prog.cellsOf 128=2:=by kernel_rfl
 have hl8:cs.length=8:=hl.trans (by kernel_rfl)
 rw [hk] at hi
 match xs,hn with
 | [⟨x0,p0⟩,⟨x1,p1⟩,⟨x2,p2⟩,⟨x3,p3⟩],_ =>
  unfold Rows.laid_loop_example_g00632_impl_vmShape at hx
  simp at hx
  obtain ⟨⟨rfl,rfl,rfl,rfl⟩,_⟩:=hx
  match cs,hl8 with
  | [c0,c1,c2,c3,c4,c5,c6,c7],_ =>
   have g0:=part_cells (hi 0 (by decide))
   have g1:=part_cells (hi 1 (by decide))
   have g2:=part_cells (hi 2 (by decide))
   have g3:=part_cells (hi 3 (by decide))
   simp at g0 g1 g2 g3
   simp [g0,g1,g2,g3]
end

theorem vmShape_of_laid {W:World} {p:List (String × DataW Unit)} (hp:p=[("loop.example/g00632/impl.vmShape",Rows.laid_loop_example_g00632_impl_vmShape)]) (h:laidMetH Tryd.prog p W):VmShape W:=by
 subst hp
 rw [MakeChecks.laidMetH_plain _ _ _ (by kernel_rfl)] at h
 obtain ⟨ps,⟨g0,t0,cs0,f0,p0,q0,hg0,ht0,hv0,hd0,_,_⟩,_,_⟩:=h
 obtain rfl:=Option.some.inj (gVmShape.symm.trans hg0)
 obtain rfl:=Option.some.inj (tVmShape.symm.trans ht0)
 have hcs:=shape_cells hd0
 unfold World.var? at hv0
 simp only [gVmShape,Option.bind_some] at hv0
 cases hh:W.heap[0]? with
 | none=>rw [hh] at hv0;cases hv0
 | some o =>
  rw [hh] at hv0
  cases o with
  | cells cs t fr =>
   simp only [Option.some.injEq] at hv0
   subst hv0
   intro i v hi
   rw [← hcs] at hi
   simp only [World.cell?,hh]
   simpa using hi
  | _=>cases hv0


theorem fnExactIsWitness_walk (a0:Option Addr) (n0 c0:Nat) (r0:List (List I3)) (a1:Option Addr) (n1 c1:Nat) (z1:List Int) (y2:I3) (w:World) (h0:Codes w a0 n0 c0 r0) (h1:IsRow .i64 w a1 n1 c1 z1) (_h2:y2.fits) (hG:VmShape w) :
  Calls Tryd.prog 4 #[.agg #[.slice a0 n0 c0],.slice a1 n1 c1,y2.val] w fun e w'=>e=.returned (.bool true)∧Below w.heap.size w w':=
 fnExactIsWitness_of a0 n0 c0 r0 a1 n1 c1 y2 (z1.take n1) (witV r0 (z1.take n1) y2) (witC r0 (z1.take n1) y2) w h0 (Ints.of_isRow h1) hG
  (fun a n c la ln lc w hC hL=>specIsWitness_is a n c r0 la ln lc _ y2 w hC hL)
  (fun a n c la ln lc w hC hL hV=>implIsWitness_is a n c r0 la ln lc _ y2 w hC hV hL)

theorem fnExactIsWitness_laid {W:World} (h:laidMetH Tryd.prog Rows.fnExactIsWitnessRow.laid W):VmShape W:=vmShape_of_laid rfl h
theorem fnExactIsWitness_door_met (os:Os) (args:Array Value):laidMetH Tryd.prog Rows.fnExactIsWitnessRow.laid ((World.doorLaid Tryd.prog 400 os).forCall (fun _ _=>0) ⟨#[],args,[]⟩).memory:=
 laidMetH_of_parts3 (fuel:=8) (laidMet_of_run' 8 (by kernel_rfl) (by kernel_rfl)) (by kernel_rfl) (by kernel_rfl)


def varsFit (P:Program) (ns:List String):Bool:=ns.all fun n =>
 match P.globalNamed n with
 | some g=>match (P.globals[g]?).map (·.type) with
  | some t=>P.readableRec t && decide (t<P.types.size)
  | none=>false
 | none=>false

theorem var?_lt {P:Program} {W:World} {n:String} {g:Nat} {cs:Array Value} (hg:P.globalNamed n=some g) (hv:W.var? P n=some cs):g<W.heap.size:=by
 rcases Nat.lt_or_ge g W.heap.size with h | h
 ·exact h
 ·unfold World.var? at hv
  simp [hg,Array.getElem?_eq_none h] at hv

theorem vars_below {H:Type} {enc:TypeId × Value→H} {P:Program} {W W':World} (hl:laidOutB P=true) (bel:Below W.heap.size W W') :
  ∀ {ns:List String} {gs:List (DataW H)} {ps:List MemPlace},varsFit P ns=true→DataW.TrodVars enc P W (fun _=>true) ns gs ps→DataW.TrodVars enc P W' (fun b=>decide (b<W.heap.size)) ns gs ps
 | [],[],ps,_,h=>h
 | [],_::_,_,_,h=>by cases h
 | _::_,[],_,_,h=>by cases h
 | n::ns,d::ds,ps,hf,h=>by
  obtain ⟨g,t,cs,fuel,p,q,hg,ht,hv,hd,hr,e⟩:=h
  simp only [varsFit,List.all_cons,Bool.and_eq_true] at hf
  obtain ⟨hf1,hf2⟩:=hf
  rw [hg] at hf1
  simp only [ht,Bool.and_eq_true,decide_eq_true_eq] at hf1
  obtain ⟨fuel',hd'⟩:=Below.trod hl hf1.1 hf1.2 (v:=.agg cs) (⟨fuel,by simpa [Value.cells] using hd⟩:DataW.Trod enc P W 0 (fun _=>true) true t (.agg cs) d p) bel (DataW.trod_lt fuel _ _ _ hd)
  exact ⟨g,t,cs,fuel',p,q,hg,ht,var?_below bel hg (var?_lt hg hv) hv,by simpa [Value.cells] using hd',vars_below hl bel hf2 hr,e⟩

theorem vars_len {H:Type} {enc:TypeId × Value→H} {P:Program} {W:World} {spare:Nat→Bool}:∀ {ns:List String} {gs:List (DataW H)} {ps:List MemPlace},DataW.TrodVars enc P W spare ns gs ps→gs.length=ns.length
 | [],[],_,_=>rfl
 | [],_::_,_,h=>by cases h
 | _::_,[],_,h=>by cases h
 | _::_,_::_,_,h=>by
  obtain ⟨_,_,_,_,_,_,_,_,_,_,hr,_⟩:=h
  simp [vars_len hr]
end Go.Proofs.YtjgffnlmjmibgaaDoor
