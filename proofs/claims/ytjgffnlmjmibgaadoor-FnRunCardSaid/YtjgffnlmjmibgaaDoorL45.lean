/-
  Joined: WitA, WitB, FrP, RsS.
-/
import Derived.Test.YtjgffnlmjmibgaaDoorL06
import Derived.Test.YtjgffnlmjmibgaaDoorL44

namespace Go.Proofs.YtjgffnlmjmibgaaDoor
set_option maxRecDepth 100000
set_option maxHeartbeats 16000000
open Go.RowKit
set_option linter.unusedVariables false
set_option linter.unusedSimpArgs false

def hasW:List I3→I3→Bool
 | [],_=>false
 | y::l,x=>decide (y=x) || hasW l x
theorem hasW_iff {x:I3}:∀ {l:List I3},hasW l x=true↔x ∈ l
 | []=>by simp [hasW]
 | y::l=>by
  have h:=hasW_iff (x:=x) (l:=l)
  show (decide (y=x) || hasW l x)=true↔_
  rw [Bool.or_eq_true,h,List.mem_cons,decide_eq_true_iff]
  exact or_congr ⟨Eq.symm,Eq.symm⟩ Iff.rfl
theorem hasW_step {xs:List I3} {k:Nat} (hk:k<xs.length) (y:I3):hasW (xs.drop k) y=(decide (xs.getD k (0,0,0)=y) || hasW (xs.drop (k+1)) y):=by
 rw [List.drop_eq_getElem_cons hk]
 simp [hasW,List.getD,List.getElem?_eq_getElem hk]
theorem below_dNW {w W:World} (h:Below w.heap.size w W) (d:Nat):Below w.heap.size w (W.drewN d):=bel_trans h (below_dN d)
def IdxW (e:Ending) (b:Bool):Prop:=∃ r:Int,e=.returned (.int .i64 r)∧decide (0≤r)=b

theorem index_is (a:Option Addr) (n cap:Nat) (xs:List I3) (y:I3) (w:World) (h:Instrs w a n cap xs) (hn:n≤1000000) :
  Calls Tryd.prog 75 #[.slice a n cap,y.val] w fun e w'=>IdxW e (hasW xs y)∧Below w.heap.size w w':=by
 have hl:=h.1
 obtain ⟨r,hr⟩:∃ r,r=hasW xs y:=⟨_,rfl⟩
 rw [← hr]
 have HR:Hid (r=hasW (xs.drop 0) y):=by rw [Hid];simpa using hr
 clear hr
 obtain ⟨y0,y1,y2⟩:=y
 unfold I3.val
 simp only
 have bw0:Below w.heap.size w (w.alloc (.cells #[.int .i64 y0,.int .i64 y1,.int .i64 y2] 40)):=by go_grown
 have c0:(w.alloc (.cells #[.int .i64 y0,.int .i64 y1,.int .i64 y2] 40)).cell? ⟨w.heap.size,0,none⟩=some (.int .i64 y0):=by simp [go_sem]
 have c1:(w.alloc (.cells #[.int .i64 y0,.int .i64 y1,.int .i64 y2] 40)).cell? ⟨w.heap.size,1,none⟩=some (.int .i64 y1):=by simp [go_sem]
 have c2:(w.alloc (.cells #[.int .i64 y0,.int .i64 y1,.int .i64 y2] 40)).cell? ⟨w.heap.size,2,none⟩=some (.int .i64 y2):=by simp [go_sem]
 go_enter Tryd.func75,Tryd.ntmps75
 go_wp2_with fail
 generalize (w.alloc (.cells #[.int .i64 y0,.int .i64 y1,.int .i64 y2] 40))=W0 at *
 go_loopw [8] (fun si wr=>∃ k:Nat,k≤n∧si=.int .i64 k∧Hid (r=hasW (xs.drop k) (y0,y1,y2))∧Below w.heap.size w wr∧wr.cell? ⟨w.heap.size,0,none⟩=some (.int .i64 y0)∧wr.cell? ⟨w.heap.size,1,none⟩=some (.int .i64 y1)∧wr.cell? ⟨w.heap.size,2,none⟩=some (.int .i64 y2)) (fun si _=>n - (intOf si).toNat)
 case atStart=>exact ⟨0,by omega,rfl,HR,bw0,c0,c1,c2⟩
 case round =>
  clear HR bw0 c0 c1 c2
  obtain ⟨k,hk,rfl,HR,bw,c0,c1,c2⟩:=hrel
  by_cases hlt:k<n
  ·obtain ⟨_,_,_,_,hcase⟩:=h.below bw
   rcases hcase with e0 | ⟨b,off,rfl,hb,hc⟩
   ·omega
   obtain ⟨d0,d1,d2⟩:=hc k hlt
   clear hc hb
   have hst:=hasW_step (xs:=xs) (k:=k) (by omega) (y0,y1,y2)
   generalize xs.getD k (0,0,0)=x at d0 d1 d2 hst
   have HS:Hid (hasW (xs.drop k) (y0,y1,y2)=(decide (x=(y0,y1,y2)) || hasW (xs.drop (k+1)) (y0,y1,y2))):=hst
   clear hst
   have hlt':(k:Int)<(n:Int):=by omega
   have hk0:(0:Int)≤(k:Int):=by omega
   obtain ⟨x0,x1,x2⟩:=x
   simp only at d0 d1 d2
   by_cases hE:(x0,x1,x2)=(y0,y1,y2)
   ·cases hE
    have HF:Hid (r=true):=by rw [Hid,HR.out,HS.out];simp
    clear HS HR
    have q0:(y0 == y0)=true:=by simp
    have q1:(y1 == y1)=true:=by simp
    have q2:(y2 == y2)=true:=by simp
    go_wp2_with fail
    go_quiet (fail)
    have bwd:=below_dNW bw nq
    generalize wr.drewN nq=U at *
    clear d0 d1 d2 c0 c1 c2 bw q0 q1 q2
    go_wp2
    go_ret
    exact ⟨⟨k,rfl,by rw [HF.out];simp⟩,bwd⟩
   ·have HF:Hid (r=hasW (xs.drop (k+1)) (y0,y1,y2)):=by rw [Hid,HR.out,HS.out];simp only [hE,decide_false,Bool.false_or]
    clear HS HR
    have h3:x0≠y0∨(x0=y0∧x1≠y1)∨(x0=y0∧x1=y1∧x2≠y2):=by
     by_cases q0:x0=y0
     ·by_cases q1:x1=y1
      ·refine .inr (.inr ⟨q0,q1,fun q2=>hE ?_⟩)
       rw [q0,q1,q2]
      ·exact .inr (.inl ⟨q0,q1⟩)
     ·exact .inl q0
    clear hE
    go_wp2_with fail
    rcases h3 with t0 | ⟨rfl,t1⟩ | ⟨rfl,rfl,t2⟩
    ·have t0':(y0 == x0)=false:=by simp [Ne.symm t0]
     go_quiet (fail)
     have bwd:=below_dNW bw nq
     replace c0:(wr.drewN nq).cell? ⟨w.heap.size,0,none⟩=some (.int .i64 y0):=c0
     replace c1:(wr.drewN nq).cell? ⟨w.heap.size,1,none⟩=some (.int .i64 y1):=c1
     replace c2:(wr.drewN nq).cell? ⟨w.heap.size,2,none⟩=some (.int .i64 y2):=c2
     generalize wr.drewN nq=U at *
     clear d0 d1 d2 bw  t0 t0'
     go_wp2
     go_roundw
     case rel=>exact ⟨k+1,by omega,by go_num,HF,bwd,c0,c1,c2⟩
     case measure=>simp [intOf];omega
    ·have q0:(x0 == x0)=true:=by simp
     have t1':(y1 == x1)=false:=by simp [Ne.symm t1]
     go_quiet (fail)
     have bwd:=below_dNW bw nq
     replace c0:(wr.drewN nq).cell? ⟨w.heap.size,0,none⟩=some (.int .i64 x0):=c0
     replace c1:(wr.drewN nq).cell? ⟨w.heap.size,1,none⟩=some (.int .i64 y1):=c1
     replace c2:(wr.drewN nq).cell? ⟨w.heap.size,2,none⟩=some (.int .i64 y2):=c2
     generalize wr.drewN nq=U at *
     clear d0 d1 d2 bw q0 t1 t1'
     go_wp2
     go_roundw
     case rel=>exact ⟨k+1,by omega,by go_num,HF,bwd,c0,c1,c2⟩
     case measure=>simp [intOf];omega
    ·have q0:(x0 == x0)=true:=by simp
     have q1:(x1 == x1)=true:=by simp
     have t2':(y2 == x2)=false:=by simp [Ne.symm t2]
     go_quiet (fail)
     have bwd:=below_dNW bw nq
     replace c0:(wr.drewN nq).cell? ⟨w.heap.size,0,none⟩=some (.int .i64 x0):=c0
     replace c1:(wr.drewN nq).cell? ⟨w.heap.size,1,none⟩=some (.int .i64 x1):=c1
     replace c2:(wr.drewN nq).cell? ⟨w.heap.size,2,none⟩=some (.int .i64 y2):=c2
     generalize wr.drewN nq=U at *
     clear d0 d1 d2 bw q0 q1 t2 t2'
     go_wp2
     go_roundw
     case rel=>exact ⟨k+1,by omega,by go_num,HF,bwd,c0,c1,c2⟩
     case measure=>simp [intOf];omega
  ·obtain rfl:k=n:=by omega
   have HF:Hid (r=false):=by rw [Hid,HR.out,List.drop_of_length_le (by omega)];rfl
   clear HR c0 c1 c2
   go_wp2
   go_ret
   exact ⟨⟨-1,rfl,by rw [HF.out];simp⟩,bw⟩

theorem contains_is (a:Option Addr) (n cap:Nat) (xs:List I3) (y:I3) (w:World) (h:Instrs w a n cap xs) (hn:n≤1000000) :
  Calls Tryd.prog 38 #[.slice a n cap,y.val] w fun e w'=>e=.returned (.bool (hasW xs y))∧Below w.heap.size w w':=by
 have kI:=fun W hb=>index_is a n cap xs y W hb hn
 obtain ⟨r,hr⟩:∃ r,r=hasW xs y:=⟨_,rfl⟩
 rw [← hr] at kI ⊢
 clear hr
 obtain ⟨y0,y1,y2⟩:=y
 unfold I3.val at *
 simp only at kI ⊢
 have bw:Below w.heap.size w (w.alloc (.cells #[.int .i64 y0,.int .i64 y1,.int .i64 y2] 40)):=by go_grown
 go_enter Tryd.func38,Tryd.ntmps38
 go_wp2_with fail
 refine (kI _ (h.below bw)).mono ?_
 rintro e w1 ⟨⟨i,rfl,hi⟩,hb⟩
 replace bw:=bel_trans bw hb
 replace hi:decide (i ≥ 0)=r:=hi
 clear kI hb h
 go_wp2
 go_ret
 exact ⟨rfl,bw⟩


def witV (rows:List (List I3)) (ks:List Int) (y:I3):Bool:=if 4096<ks.length then false else if progOk rows && okB y then decide (runC rows ks=0) && hasW (runF rows ks) y else false
def witC (rows:List (List I3)) (ks:List Int) (y:I3):Int:=if 4096<ks.length then 2 else if progOk rows && okB y then 0 else 1
theorem runF_ok (rows:List (List I3)) (ks:List Int):(∀ x ∈ runF rows ks,okB x=true)∧(runF rows ks).length≤5000:=by
 unfold runF
 split
 ·simp
 ·split
  ·rename_i h1 h2
   have a:=runI_ok h2 ks zeroV [] zero_shape (by simp)
   have b:=runI_len (rows:=rows) ks zeroV []
   have c:=mergeB_len (runI rows zeroV [] ks).2.1 (deadM rows (runI rows zeroV [] ks).1)
   have d:(deadM rows (runI rows zeroV [] ks).1).length≤1:=by unfold deadM;split<;>simp
   refine ⟨mergeB_ok a.2 (deadM_ok _ _),?_⟩
   simp at b
   omega
  ·simp

theorem implIsWitness_is (a:Option Addr) (len cap:Nat) (rows:List (List I3)) (la:Option Addr) (n c:Nat) (ks:List Int) (y:I3) (w:World) (hC:Codes w a len cap rows) (hV:VmShape w) (hL:Ints .i64 w la n c ks) :
  Calls Tryd.prog 12 #[.agg #[.slice a len cap],.slice la n c,y.val] w fun e w'=>e=.returned (.tuple #[.bool (witV rows ks y),.int .i64 (witC rows ks y)])∧Below w.heap.size w w':=by
 have hll:=hL.1
 unfold witV witC
 rw [hll]
 obtain ⟨y0,y1,y2⟩:=y
 unfold I3.val
 simp only
 have bw:Below w.heap.size w ((w.alloc (.cells #[.slice a len cap] 25)).alloc (.cells #[.int .i64 y0,.int .i64 y1,.int .i64 y2] 40)):=by go_grown
 have pP:Blk ((w.alloc (.cells #[.slice a len cap] 25)).alloc (.cells #[.int .i64 y0,.int .i64 y1,.int .i64 y2] 40)) w.heap.size 25 [.slice a len cap]:=blkOld _ (blkAt _ _ _ rfl)
 have pB:Blk ((w.alloc (.cells #[.slice a len cap] 25)).alloc (.cells #[.int .i64 y0,.int .i64 y1,.int .i64 y2] 40)) (w.heap.size+1) 40 [.int .i64 y0,.int .i64 y1,.int .i64 y2]:=blkAt _ _ _ (by simp)
 by_cases hn:4096<n
 ·have hn':(4096:Int)<(n:Int):=by omega
  simp only [if_pos hn]
  clear hC hV hL hn pP pB
  go_enter Tryd.func12,Tryd.ntmps12
  go_wp2
  go_ret2
  exact ⟨rfl,bw⟩
 simp only [if_neg hn]
 have hn':¬ (4096:Int)<(n:Int):=by omega
 cases hp:progOk rows
 ·have kN:=fun W (b:Below w.heap.size w W)=>newReplay_bad (hC.below b) (hV.below b) hp
  simp only [Bool.false_and,Bool.false_eq_true,if_false]
  clear hp hC hV hL hn
  go_enter Tryd.func12,Tryd.ntmps12
  go_wp2_with fail
  generalize ((w.alloc (.cells #[.slice a len cap] 25)).alloc (.cells #[.int .i64 y0,.int .i64 y1,.int .i64 y2] 40))=U at *
  have bx:Below U.heap.size U U:=Below.refl _ _
  go_wp2_with (first | refine wpList_load_blk rfl 25 _ rfl w.heap.size rfl pP _ Tryd.underlying25 rfl (by kernel_rfl) ?_)
  refine (kN _ bw).mono ?_
  rintro e w1 ⟨rfl,hb⟩
  replace bx:=bel_trans bx hb
  have pN:=Blk.new w1 71 [.slice none 0 0,.int .i64 0,.int .i64 0,.int .i64 0,.slice none 0 0,.int .i64 0,.int .i64 0,.int .i64 0,.slice none 0 0,.int .i64 0,.int .i64 0,.int .i64 0,.int .i64 0,.int .i64 0,.int .i64 0,.int .i64 0,.int .i64 0,.int .i64 0,.slice none 0 0]
  have ha:Below w1.heap.size w1 (w1.alloc (.cells #[.slice none 0 0,.int .i64 0,.int .i64 0,.int .i64 0,.slice none 0 0,.int .i64 0,.int .i64 0,.int .i64 0,.slice none 0 0,.int .i64 0,.int .i64 0,.int .i64 0,.int .i64 0,.int .i64 0,.int .i64 0,.int .i64 0,.int .i64 0,.int .i64 0,.slice none 0 0] 71)):=by go_grown
  have hgU:U.heap.size≤w1.heap.size:=bx.size
  clear kN hb pP
  go_wp2_with (refine wpList_store_blk rfl 71 _ _ rfl w1.heap.size [.slice none 0 0,.int .i64 0,.int .i64 0,.int .i64 0,.slice none 0 0,.int .i64 0,.int .i64 0,.int .i64 0,.slice none 0 0,.int .i64 0,.int .i64 0,.int .i64 0,.int .i64 0,.int .i64 0,.int .i64 0,.int .i64 0,.int .i64 0,.int .i64 0,.slice none 0 0] rfl rfl pN (by kernel_rfl) rfl rfl ?_)
  intro W pM g1
  replace bx:=(bel_trans bx ha).grown g1 (by simp;omega) (fun x hx=>by cases hx;omega)
  have pG:=pM.out
  clear g1 ha pN pM
  generalize w1.heap.size=g at *
  clear pG hgU pB
  replace bw:=bel_trans bw bx
  clear bx
  go_wp2
  go_ret2
  exact ⟨rfl,bw⟩
 ·obtain ⟨rfl,cs,hR⟩:=hC.rowsAt hp
  have kN:=fun W (b:Below w.heap.size w W)=>newReplay_ok (hC.below b) (hV.below b) hp (hR.below b)
  have kO:=fun W=>implBugOK_is (y0,y1,y2) W
  unfold I3.val at kO
  simp only at kO
  simp only [Bool.true_and]
  cases hy:okB (y0,y1,y2)
  ·rw [hy] at kO
   simp only [Bool.false_eq_true,if_false]
   clear hp hC hV hL hn hy hR
   go_enter Tryd.func12,Tryd.ntmps12
   go_wp2_with fail
   generalize ((w.alloc (.cells #[.slice a 3 cap] 25)).alloc (.cells #[.int .i64 y0,.int .i64 y1,.int .i64 y2] 40))=U at *
   have bx:Below U.heap.size U U:=Below.refl _ _
   go_wp2_with (first | refine wpList_load_blk rfl 25 _ rfl w.heap.size rfl pP _ Tryd.underlying25 rfl (by kernel_rfl) ?_)
   refine (kN _ bw).mono ?_
   rintro e w1 ⟨rfl,hb⟩
   replace bx:=bel_trans bx hb
   have pN:=Blk.new w1 71 [.slice none 0 0,.int .i64 0,.int .i64 0,.int .i64 0,.slice none 0 0,.int .i64 0,.int .i64 0,.int .i64 0,.slice none 0 0,.int .i64 0,.int .i64 0,.int .i64 0,.int .i64 0,.int .i64 0,.int .i64 0,.int .i64 0,.int .i64 0,.int .i64 0,.slice none 0 0]
   have ha:Below w1.heap.size w1 (w1.alloc (.cells #[.slice none 0 0,.int .i64 0,.int .i64 0,.int .i64 0,.slice none 0 0,.int .i64 0,.int .i64 0,.int .i64 0,.slice none 0 0,.int .i64 0,.int .i64 0,.int .i64 0,.int .i64 0,.int .i64 0,.int .i64 0,.int .i64 0,.int .i64 0,.int .i64 0,.slice none 0 0] 71)):=by go_grown
   have hgU:U.heap.size≤w1.heap.size:=bx.size
   clear kN hb pP
   go_wp2_with (refine wpList_store_blk rfl 71 _ _ rfl w1.heap.size (Rp.machR (.slice none 0 0) cs.1.val cs.2.1.val cs.2.2.val zeroV) rfl rfl pN (by kernel_rfl) rfl rfl ?_)
   intro W pM g1
   replace bx:=(bel_trans bx ha).grown g1 (by simp;omega) (fun x hx=>by cases hx;omega)
   have pG:=pM.out
   clear g1 ha pN pM
   generalize w1.heap.size=g at *
   clear pG hgU
   replace pB:=pB.below bx
   replace bw:=bel_trans bw bx
   clear bx
   have d0:=pB.cell 0
   have d1:=pB.cell 1
   have d2:=pB.cell 2
   simp only [List.getElem?_cons_zero,List.getElem?_cons_succ] at d0 d1 d2
   go_wp2_with fail
   refine (kO _).mono ?_
   rintro e w2 ⟨rfl,hb⟩
   replace bw:=bel_trans bw hb
   clear hb kO pB d0 d1 d2
   go_wp2
   go_ret2
   exact ⟨rfl,bw⟩
  ·rw [hy] at kO
   simp only [if_true]
   have okF:=runI_ok hp ks zeroV [] zero_shape (by simp)
   have lenF:=runI_len (rows:=rows) ks zeroV []
   have rF:=runF_ok rows ks
   have eF:runF rows ks=mergeB (runI rows zeroV [] ks).2.1 (deadM rows (runI rows zeroV [] ks).1):=by unfold runF;rw [if_neg (by omega),if_pos hp]
   have eC:runC rows ks=(runI rows zeroV [] ks).2.2:=by unfold runC;rw [if_neg (by omega),if_pos hp]
   rw [eF] at rF ⊢
   rw [eC]
   clear eF eC
   have kRun:=fun (U W:World) (g:Nat) (bU:Below w.heap.size w U) (b:Below U.heap.size U W) (hg:U.heap.size≤g) (hM:RanTo W g U.heap.size cs zeroV []) (hl:ListAt W U.heap.size la n c ks)=>run_is (hR.below bU) b hg hp zero_shape hM hl (by simp;omega)
   have hL0:∀ U W,Below w.heap.size w U→Below U.heap.size U W→ListAt W U.heap.size la n c ks:=fun U W bU b=>⟨(hL.below bU).below b,fun b' o' ha h0=>by
    rcases hL.2.2.2 with h9 | ⟨b9,o9,e9,l9,_⟩
    ·omega
    ·rw [ha] at e9
     cases e9
     exact .inl (Nat.lt_of_lt_of_le l9 bU.size)⟩
   generalize runI rows zeroV [] ks=fin at *
   obtain ⟨m,fs,code⟩:=fin
   simp only at okF lenF kRun rF ⊢
   obtain ⟨hs,hok⟩:=okF
   have kB:=fun (W:World) (g:Nat) (fv:Value) (h:Rp.MachAt fv W g cs rows m) (B:Nat) (hF:W.ownsRow B 40 3 fv fs.length (flat fs))=>rbugs_is h hp hs hF (fun x hx=>okB_fitsQ (hok x hx)) (by simp at lenF;omega)
   generalize mergeB fs (deadM rows m)=found at *
   obtain ⟨hfo,hfl⟩:=rF
   have kCn:=fun (W:World) (fa:Option Addr) (fc:Nat) (h:Instrs W fa found.length fc found)=>contains_is fa found.length fc found (y0,y1,y2) W h (by omega)
   unfold I3.val at kCn
   simp only at kCn
   generalize hasW found (y0,y1,y2)=hw at *
   clear hp hC hV hL hn hy hs hok lenF hll
   go_enter Tryd.func12,Tryd.ntmps12
   go_wp2_with fail
   generalize ((w.alloc (.cells #[.slice a 3 cap] 25)).alloc (.cells #[.int .i64 y0,.int .i64 y1,.int .i64 y2] 40))=U at *
   have bx:Below U.heap.size U U:=Below.refl _ _
   go_wp2_with (first | refine wpList_load_blk rfl 25 _ rfl w.heap.size rfl pP _ Tryd.underlying25 rfl (by kernel_rfl) ?_)
   refine (kN _ bw).mono ?_
   rintro e w1 ⟨rfl,hb⟩
   replace bx:=bel_trans bx hb
   have pN:=Blk.new w1 71 [.slice none 0 0,.int .i64 0,.int .i64 0,.int .i64 0,.slice none 0 0,.int .i64 0,.int .i64 0,.int .i64 0,.slice none 0 0,.int .i64 0,.int .i64 0,.int .i64 0,.int .i64 0,.int .i64 0,.int .i64 0,.int .i64 0,.int .i64 0,.int .i64 0,.slice none 0 0]
   have ha:Below w1.heap.size w1 (w1.alloc (.cells #[.slice none 0 0,.int .i64 0,.int .i64 0,.int .i64 0,.slice none 0 0,.int .i64 0,.int .i64 0,.int .i64 0,.slice none 0 0,.int .i64 0,.int .i64 0,.int .i64 0,.int .i64 0,.int .i64 0,.int .i64 0,.int .i64 0,.int .i64 0,.int .i64 0,.slice none 0 0] 71)):=by go_grown
   have hgU:U.heap.size≤w1.heap.size:=bx.size
   clear kN hb pP
   go_wp2_with (refine wpList_store_blk rfl 71 _ _ rfl w1.heap.size (Rp.machR (.slice none 0 0) cs.1.val cs.2.1.val cs.2.2.val zeroV) rfl rfl pN (by kernel_rfl) rfl rfl ?_)
   intro W pM g1
   replace bx:=(bel_trans bx ha).grown g1 (by simp;omega) (fun x hx=>by cases hx;omega)
   have pG:=pM.out
   clear g1 ha pN pM
   generalize w1.heap.size=g at *
   have pB2:=pB.below bx
   have d0:=pB2.cell 0
   have d1:=pB2.cell 1
   have d2:=pB2.cell 2
   simp only [List.getElem?_cons_zero,List.getElem?_cons_succ] at d0 d1 d2
   go_wp2_with fail
   refine (kO _).mono ?_
   rintro e w2 ⟨rfl,hb⟩
   replace bx:=bel_trans bx hb
   replace pG:=pG.below hb
   clear hb kO pB2 d0 d1 d2
   have kRx:=kRun U w2 g bw bx hgU ⟨_,pG,World.ownsRow_nil _ _ _ _⟩ (hL0 _ _ bw bx)
   clear kRun hL0
   by_cases hcd:code=0
   ·subst hcd
    have he0:((0:Int) == 0)=true:=rfl
    simp only [decide_true,Bool.true_and]
    go_wp2_with fail
    refine kRx.mono ?_
    rintro e w3 ⟨rfl,⟨fv,hM3,hF3⟩,bw3,kp3⟩
    have pB3:=pB.below bw3
    clear kRx pG pB kp3 bx
    have c0:=pB3.cell 0
    have c1:=pB3.cell 1
    have c2:=pB3.cell 2
    simp only [List.getElem?_cons_zero,List.getElem?_cons_succ] at c0 c1 c2
    go_wp2_with fail
    have hdr:Below w3.heap.size w3 w3.drew:=by go_grown
    have kBx:=kB w3.drew g fv (rowsMach ((hR.below bw).below (bel_trans bw3 hdr)) (hM3.below hdr)) _ (owns_below hF3 hdr)
    have bd:=bel_trans bw3 hdr
    clear hdr kB
    refine wp_region_held_drew (S:=(fun w'=>w'.cell? ⟨w.heap.size+1,0,none⟩=some (.int .i64 y0)∧w'.cell? ⟨w.heap.size+1,1,none⟩=some (.int .i64 y1)∧w'.cell? ⟨w.heap.size+1,2,none⟩=some (.int .i64 y2))) (by kernel_rfl) ⟨c0,c1,c2⟩ (fun hS0=>?_)
    refine tkm 0 29 (.bool true) ?_
    refine tkm 1 30 (.bool true) ?_
    refine tkm 3 32 (.agg #[.int .i64 y0,.int .i64 y1,.int .i64 y2]) ?_
    refine tkr 2 31 (fun K hK=>?_)
    go_simp
    refine kBx.mono ?_
    rintro e w4 ⟨⟨v4,rfl,q4⟩,hb4⟩
    obtain ⟨fa,fc,rfl,hI4,hG4⟩:=bugs_sliceR q4 (fun x hx=>okB_fitsQ (hfo x hx))
    clear hG4 q4
    go_wp2_with fail
    refine hK.out _ _ ?_ (fun hS1=>?_)
    ·exact ⟨cells_kept hb4 _ _ hS0.1,cells_kept hb4 _ _ hS0.2.1,cells_kept hb4 _ _ hS0.2.2⟩
    clear hK kBx
    refine tkr 4 33 (fun K hK=>?_)
    go_simp
    refine (kCn _ fa fc hI4).mono ?_
    rintro e w5 ⟨rfl,hb5⟩
    go_wp2_with fail
    refine hK.out _ _ ?_ (fun hS2=>?_)
    ·exact ⟨cells_kept hb5 _ _ hS1.1,cells_kept hb5 _ _ hS1.2.1,cells_kept hb5 _ _ hS1.2.2⟩
    clear hK kCn
    refine tkm 5 34 (.bool hw) ?_
    refine tkm 6 6 (.bool hw) ?_
    refine tkm 7 7 (.int .i64 0) ?_
    refine wpAnyH_done (by kernel_rfl) ?_ _
    have bz:=bel_trans bw (bel_trans bd (bel_trans hb4 hb5))
    clear hS0 hS1 hS2 bd hb4 hb5 hI4 hM3 hF3 bw3 pB3 c0 c1 c2 bw hR
    go_wp2
    go_ret2
    exact ⟨rfl,bz⟩
   ·have he0:(code == 0)=false:=by simp [hcd]
    have HC:Hid (decide (code=0)=false):=by rw [Hid];simp [hcd]
    clear hcd
    go_wp2_with fail
    refine kRx.mono ?_
    rintro e w3 ⟨rfl,⟨fv,hM3,hF3⟩,bw3,kp3⟩
    have pB3:=pB.below bw3
    clear kRx pG pB kp3 bx
    have c0:=pB3.cell 0
    have c1:=pB3.cell 1
    have c2:=pB3.cell 2
    simp only [List.getElem?_cons_zero,List.getElem?_cons_succ] at c0 c1 c2
    go_wp2_with fail
    clear pB3 c0 c1 c2
    refine wp_region_held_drew (S:=(fun w'=>True)) (by kernel_rfl) trivial (fun hS0=>?_)
    refine tkm 0 29 (.bool false) ?_
    refine tkm 1 30 (.bool false) ?_
    refine tku 2 31 ?_
    refine tku 3 32 ?_
    refine tku 4 33 ?_
    refine tkm 5 34 (.bool false) ?_
    refine tkm 6 6 (.bool false) ?_
    refine tkm 7 7 (.int .i64 0) ?_
    refine wpAnyH_done (by kernel_rfl) ?_ _
    have bz:=bel_trans bw (bel_trans bw3 (by go_grown:Below w3.heap.size w3 w3.drew))
    clear hM3 hF3 bw3 bw hR kB kCn
    go_wp2
    go_ret2
    exact ⟨by rw [HC.out];rfl,bz⟩


theorem goes_run {rows:List (List I3)} {ks:List Int} {m:V4} (hp:progOk rows=true) (h:goesTo rows ks m) (hl:ks.length≤14):runZ rows ks=m∧runC rows ks=0∧shapeOk m=true:=by
 obtain ⟨h1,h2⟩:=h
 have h9:¬ 4096<ks.length:=by omega
 unfold runZ runC
 simp only [if_neg h9,if_pos hp]
 refine ⟨h2,h1,?_⟩
 rw [← h2]
 exact (runI_ok hp ks zeroV [] zero_shape (by simp)).1
theorem goes_beyond {rows:List (List I3)} {ks:List Int} {m:V4} (hp:progOk rows=true) (h:goesTo rows ks m) (hl:ks.length≤14):runC rows (ks++[3])=4:=by
 obtain ⟨h1,h2⟩:=h
 unfold runC
 rw [if_neg (by rw [List.length_append];simp;omega),if_pos hp,runI_snoc rows 3 ks zeroV [] h1]
 have hz:haltM rows (runI rows zeroV [] ks).1 3=4:=by unfold haltM;rw [if_neg (by omega)]
 show (if haltM rows (runI rows zeroV [] ks).1 3=0 then _ else _:V4 × List I3 × Int).2.2=4
 rw [if_neg (by rw [hz];decide)]
 exact hz
theorem goes_witness {rows:List (List I3)} {ks:List Int} {m:V4} {y:I3} (hp:progOk rows=true) (h:goesTo rows ks m) (hl:ks.length≤14) (hy:y ∈ runF rows ks):witV rows ks y=true∧witC rows ks y=0:=by
 have hc:=(goes_run hp h hl).2.1
 have ho:=(runF_ok rows ks).1 y hy
 have h9:¬ 4096<ks.length:=by omega
 unfold witV witC
 rw [hp,ho,hc]
 simp only [if_neg h9]
 simp only [Bool.and_self,if_true,decide_true,Bool.true_and,and_true]
 exact hasW_iff.2 hy
theorem halt_step {rows:List (List I3)} {m:V4} {k:Int} (hp:progOk rows=true) (hs:shapeOk m=true) (hz:haltM rows m k=0):stepZ rows m k=(goM rows m k).1∧stepC rows m k=0:=by
 obtain ⟨h0,h2,hd,hc⟩:=halt_can hz
 have hk3:(0:Int)≤k∧k<3:=by omega
 unfold stepZ stepC goM
 simp only [hp,hs,Bool.and_self,if_true,hk3,and_self,hd,hc]
theorem getD_memF {xs:List I3} {k:Nat} (hk:k<xs.length):xs.getD k (0,0,0) ∈ xs:=by
 simp only [List.getD,List.getElem?_eq_getElem hk,Option.getD_some]
 exact List.getElem_mem hk


theorem runS_runJ (rows:List (List I3)) (ks:List Int):runS rows zeroV [] ks=((runI rows zeroV [] ks).1,mergeB (runI rows zeroV [] ks).2.1 (deadM rows (runI rows zeroV [] ks).1),(runI rows zeroV [] ks).2.2):=by
 have h0:([]:List I3)=mergeB [] (deadM rows zeroV):=by unfold deadM;rw [stuck_zero];rfl
 obtain ⟨h1,h2,h3⟩:=run_same (rows:=rows) ks zeroV [] [] h0
 rw [← h1,← h2] at *
 exact Prod.ext h1 (Prod.ext h3 rfl)
theorem specRunSchedule_is (a:Option Addr) (len cap:Nat) (rows:List (List I3)) (la:Option Addr) (n c:Nat) (ks:List Int) (w:World) (hC:Codes w a len cap rows) (hL:Ints .i64 w la n c ks) :
  Calls Tryd.prog 9 #[.agg #[.slice a len cap],.slice la n c] w fun e w'=>RunGot e w' w.heap.size (runZ rows ks) (runF rows ks) (runC rows ks)∧Below w.heap.size w w':=by
 unfold runZ runF runC
 rw [hL.1]
 have bw:Below w.heap.size w ((w.alloc (.cells #[.slice a len cap] 25)).alloc (.cells #[.slice none 0 0,.slice none 0 0,.slice none 0 0,.slice none 0 0] 30)):=by go_grown
 have pP:Blk ((w.alloc (.cells #[.slice a len cap] 25)).alloc (.cells #[.slice none 0 0,.slice none 0 0,.slice none 0 0,.slice none 0 0] 30)) w.heap.size 25 [.slice a len cap]:=blkOld _ (blkAt _ _ _ rfl)
 have pR:Blk ((w.alloc (.cells #[.slice a len cap] 25)).alloc (.cells #[.slice none 0 0,.slice none 0 0,.slice none 0 0,.slice none 0 0] 30)) (w.heap.size+1) 30 [.slice none 0 0,.slice none 0 0,.slice none 0 0,.slice none 0 0]:=blkAt _ _ _ (by simp)
 have hsU:w.heap.size+1<((w.alloc (.cells #[.slice a len cap] 25)).alloc (.cells #[.slice none 0 0,.slice none 0 0,.slice none 0 0,.slice none 0 0] 30)).heap.size:=pR.lt
 by_cases hn:4096<n
 ·have hn':(4096:Int)<(n:Int):=by omega
  simp only [if_pos hn]
  clear hC hL hn pP
  go_enter Tryd.func9,Tryd.ntmps9
  go_wp2_with fail
  go_returns
  exact ⟨RunGot.mk9 ((none,0,0),(none,0,0),(none,0,0),(none,0,0)) _ rfl (own_nilV _ _) (by simpa [flat] using own_emptyB ((w.alloc (.cells #[.slice a len cap] 25)).alloc (.cells #[.slice none 0 0,.slice none 0 0,.slice none 0 0,.slice none 0 0] 30)) 40 3 w.heap.size (by simp;omega)),bel_trans bw (by go_grown)⟩
 simp only [if_neg hn]
 have hn':¬ (4096:Int)<(n:Int):=by omega
 have kP:=fun W (b:Below w.heap.size w W)=>specProgramOK_is a len cap rows W (hC.below b)
 cases hp:progOk rows
 ·rw [hp] at kP
  simp only [Bool.false_eq_true,if_false]
  clear hp hC hL hn
  go_enter Tryd.func9,Tryd.ntmps9
  go_wp2_with fail
  generalize ((w.alloc (.cells #[.slice a len cap] 25)).alloc (.cells #[.slice none 0 0,.slice none 0 0,.slice none 0 0,.slice none 0 0] 30))=U at *
  go_wp2_with (first | refine wpList_load_blk rfl 25 _ rfl w.heap.size rfl pP _ Tryd.underlying25 rfl (by kernel_rfl) ?_)
  refine (kP _ bw).mono ?_
  rintro e w1 ⟨rfl,hb⟩
  replace bw:=bel_trans bw hb
  replace pR:=pR.below hb
  have ha:Below w1.heap.size w1 (w1.alloc (.cells #[] 40)):=by go_grown
  have q:=own_emptyB w1 40 3 w.heap.size bw.size
  replace bw:=bel_trans bw ha
  replace pR:=pR.below ha
  clear hb kP pP ha
  go_wp2_with (first | refine wpList_store_blk rfl 30 _ _ rfl (w.heap.size+1) [.slice none 0 0,.slice none 0 0,.slice none 0 0,.slice none 0 0] rfl rfl pR (by kernel_rfl) rfl rfl ?_)
  intro U2 pR2 g2
  have bz:=bw.grown g2 bw.size (fun k e=>by cases e;omega)
  have q2:=q.kept g2 (own_apart_blk q pR (by decide))
  clear bw g2 pR q
  go_wp2_with fail
  refine bodyPost_ret (results_blk3 Tryd.results9 _ _ _ _ _ _ rfl pR2.out Tryd.underlying30 rfl (by kernel_rfl)) rfl ?_
  exact ⟨RunGot.mk9 ((none,0,0),(none,0,0),(none,0,0),(none,0,0)) _ rfl (own_nilV _ _) q2,bz⟩
 ·rw [hp] at kP
  simp only [if_true]
  obtain ⟨rfl,cs,hR⟩:=hC.rowsAt hp
  have kR:=fun (W:World) (b:Below w.heap.size w W)=>l04Run_is (cap:=cap) (hR.below b) hp (hL.below b) (by omega)
  rw [runS_runJ] at kR
  simp only at kR
  generalize mergeB (runI rows zeroV [] ks).2.1 (deadM rows (runI rows zeroV [] ks).1)=fs at *
  generalize (runI rows zeroV [] ks).1=z at *
  generalize (runI rows zeroV [] ks).2.2=cd at *
  clear hp hC hL hn hR
  go_enter Tryd.func9,Tryd.ntmps9
  go_wp2_with fail
  generalize ((w.alloc (.cells #[.slice a 3 cap] 25)).alloc (.cells #[.slice none 0 0,.slice none 0 0,.slice none 0 0,.slice none 0 0] 30))=U at *
  go_wp2_with (first | refine wpList_load_blk rfl 25 _ rfl w.heap.size rfl pP _ Tryd.underlying25 rfl (by kernel_rfl) ?_)
  refine (kP _ bw).mono ?_
  rintro e w1 ⟨rfl,hb⟩
  replace bw:=bel_trans bw hb
  replace pP:=pP.below hb
  replace pR:=pR.below hb
  clear hb kP
  go_wp2_with (first | refine wpList_load_blk rfl 25 _ rfl w.heap.size rfl pP _ Tryd.underlying25 rfl (by kernel_rfl) ?_)
  refine (kR _ bw).mono ?_
  rintro e w2 ⟨⟨⟨⟨t0a,t0n,t0c⟩,⟨t1a,t1n,t1c⟩,⟨t2a,t2n,t2c⟩,⟨t3a,t3n,t3c⟩⟩,v,rfl,hO,q⟩,hb⟩
  have ut:S4.val ((t0a,t0n,t0c),(t1a,t1n,t1c),(t2a,t2n,t2c),(t3a,t3n,t3c))=.agg #[.slice t0a t0n t0c,.slice t1a t1n t1c,.slice t2a t2n t2c,.slice t3a t3n t3c]:=rfl
  rw [ut]
  replace hO:=hO.lowerB (B':=w.heap.size) bw.size
  replace q:=own_lowerB (B':=w.heap.size) q bw.size
  replace bw:=bel_trans bw hb
  replace pR:=pR.below hb
  clear hb kR pP ut
  go_wp2_with (first | refine wpList_store_blk rfl 30 _ _ rfl (w.heap.size+1) [.slice t0a t0n t0c,.slice t1a t1n t1c,.slice t2a t2n t2c,.slice t3a t3n t3c] rfl rfl pR (by kernel_rfl) rfl rfl ?_)
  intro U2 pR2 g2
  have bz:=bw.grown g2 bw.size (fun k e=>by cases e;omega)
  have q2:=q.kept g2 (own_apart_blk q pR (by decide))
  have hO2:=hO.kept9 g2 pR (by decide)
  clear bw g2 pR q hO
  go_wp2_with fail
  refine bodyPost_ret (results_blk3 Tryd.results9 _ _ _ _ _ _ rfl pR2.out Tryd.underlying30 rfl (by kernel_rfl)) rfl ?_
  exact ⟨RunGot.mk9 ((t0a,t0n,t0c),(t1a,t1n,t1c),(t2a,t2n,t2c),(t3a,t3n,t3c)) _ rfl hO2 q2,bz⟩
end Go.Proofs.YtjgffnlmjmibgaaDoor
