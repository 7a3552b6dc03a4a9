/-
  Joined: RpH.
-/
import Derived.Test.YtjgffnlmjmibgaaGreatDoorE41
import Derived.Test.YtjgffnlmjmibgaaGreatDoorE42

namespace Go.Proofs.YtjgffnlmjmibgaaGreatDoor
set_option maxRecDepth 100000
set_option maxHeartbeats 16000000
open Go.RowKit
set_option linter.unusedVariables false
set_option linter.unusedSimpArgs false

def RunGot (e:Ending) (w:World) (B:Nat) (z:V4) (fs:List I3) (c:Int):Prop:=∃ (t:S4) (v:Value),e=.returned (.tuple #[t.val,v,.int .i64 c])∧OwnV w B t z∧w.ownsRow B 99 3 v fs.length (flat fs)
theorem RunGot.mk9 {e:Ending} {w:World} {B:Nat} {z:V4} {fs:List I3} {c:Int} (t:S4) (v:Value) (he:e=.returned (.tuple #[t.val,v,.int .i64 c])) (h1:OwnV w B t z) (h2:w.ownsRow B 99 3 v fs.length (flat fs)):RunGot e w B z fs c:=⟨t,v,he,h1,h2⟩
def runZ (rows:List (List I3)) (ks:List Int):V4:=if 4096<ks.length then ([],[],[],[]) else if progOk rows then (runI rows zeroV [] ks).1 else ([],[],[],[])
def runF (rows:List (List I3)) (ks:List Int):List I3:=if 4096<ks.length then [] else if progOk rows then mergeB (runI rows zeroV [] ks).2.1 (deadM rows (runI rows zeroV [] ks).1) else []
def runC (rows:List (List I3)) (ks:List Int):Int:=if 4096<ks.length then 2 else if progOk rows then (runI rows zeroV [] ks).2.2 else 1
theorem apart_nilV (s:Sl):Apart (none,0,0) s:=fun g h=>by simp [Value.ownBlock] at h
theorem own_nilV (w:World) (B:Nat):OwnV w B ((none,0,0),(none,0,0),(none,0,0),(none,0,0)) ([],[],[],[]):=
 ⟨⟨World.ownsRow_nil _ _ _ _,World.ownsRow_nil _ _ _ _,World.ownsRow_nil _ _ _ _,World.ownsRow_nil _ _ _ _⟩,apart_nilV _,apart_nilV _,apart_nilV _,apart_nilV _,apart_nilV _,apart_nilV _⟩

theorem implRunSchedule_long (a:Option Addr) (len cap:Nat) (la:Option Addr) (n c:Nat) (w:World) (hn:4096<n) :
  Calls Tryz.prog 12 #[.agg #[.slice a len cap],.slice la n c] w fun e w'=>RunGot e w' w.heap.size ([],[],[],[]) [] 2∧Below w.heap.size w w':=by
 have hn':(4096:Int)<(n:Int):=by omega
 have bw:Below w.heap.size w ((w.alloc (.cells #[.slice a len cap] 25)).alloc (.cells #[.slice none 0 0,.slice none 0 0,.slice none 0 0,.slice none 0 0] 33)):=by go_grown
 have pR:Blk ((w.alloc (.cells #[.slice a len cap] 25)).alloc (.cells #[.slice none 0 0,.slice none 0 0,.slice none 0 0,.slice none 0 0] 33)) (w.heap.size+1) 33 [.slice none 0 0,.slice none 0 0,.slice none 0 0,.slice none 0 0]:=blkAt _ _ _ (by simp)
 go_enter Tryz.func12,Tryz.ntmps12
 go_wp2_with fail
 go_returns
 exact ⟨RunGot.mk9 ((none,0,0),(none,0,0),(none,0,0),(none,0,0)) _ rfl (own_nilV _ _) (World.ownsRow_nil _ _ _ _),bw⟩

theorem implRunSchedule_bad (a:Option Addr) (len cap:Nat) (rows:List (List I3)) (la:Option Addr) (n c:Nat) (w:World) (hC:Codes w a len cap rows) (hV:VmShape w) (hp:progOk rows=false) (hn:¬ 4096<n) :
  Calls Tryz.prog 12 #[.agg #[.slice a len cap],.slice la n c] w fun e w'=>RunGot e w' w.heap.size ([],[],[],[]) [] 1∧Below w.heap.size w w':=by
 have hn':¬ (4096:Int)<(n:Int):=by omega
 have kN:=fun W (b:Below w.heap.size w W)=>newReplay_bad (hC.below b) (hV.below b) hp
 have bw:Below w.heap.size w ((w.alloc (.cells #[.slice a len cap] 25)).alloc (.cells #[.slice none 0 0,.slice none 0 0,.slice none 0 0,.slice none 0 0] 33)):=by go_grown
 have pP:Blk ((w.alloc (.cells #[.slice a len cap] 25)).alloc (.cells #[.slice none 0 0,.slice none 0 0,.slice none 0 0,.slice none 0 0] 33)) w.heap.size 25 [.slice a len cap]:=blkOld _ (blkAt _ _ _ rfl)
 have pR:Blk ((w.alloc (.cells #[.slice a len cap] 25)).alloc (.cells #[.slice none 0 0,.slice none 0 0,.slice none 0 0,.slice none 0 0] 33)) (w.heap.size+1) 33 [.slice none 0 0,.slice none 0 0,.slice none 0 0,.slice none 0 0]:=blkAt _ _ _ (by simp)
 clear hp hC hV hn
 go_enter Tryz.func12,Tryz.ntmps12
 go_wp2_with fail
 generalize ((w.alloc (.cells #[.slice a len cap] 25)).alloc (.cells #[.slice none 0 0,.slice none 0 0,.slice none 0 0,.slice none 0 0] 33))=U at *
 go_wp2_with (first | refine wpList_load_blk rfl 25 _ rfl w.heap.size rfl pP _ Tryz.underlying25 rfl (by kernel_rfl) ?_)
 refine (kN _ bw).mono ?_
 rintro e w1 ⟨rfl,hb⟩
 replace bw:=bel_trans bw hb
 replace pR:=pR.below hb
 have pN:=Blk.new w1 82 [.slice none 0 0,.int .i64 0,.int .i64 0,.int .i64 0,.slice none 0 0,.int .i64 0,.int .i64 0,.int .i64 0,.slice none 0 0,.int .i64 0,.int .i64 0,.int .i64 0,.int .i64 0,.int .i64 0,.int .i64 0,.int .i64 0,.int .i64 0,.int .i64 0,.slice none 0 0]
 have ha:Below w1.heap.size w1 (w1.alloc (.cells #[.slice none 0 0,.int .i64 0,.int .i64 0,.int .i64 0,.slice none 0 0,.int .i64 0,.int .i64 0,.int .i64 0,.slice none 0 0,.int .i64 0,.int .i64 0,.int .i64 0,.int .i64 0,.int .i64 0,.int .i64 0,.int .i64 0,.int .i64 0,.int .i64 0,.slice none 0 0] 82)):=by go_grown
 have hg1:w.heap.size+1<w1.heap.size:=pR.lt
 clear kN hb pP
 go_wp2_with (refine wpList_store_blk rfl 82 _ _ rfl w1.heap.size [.slice none 0 0,.int .i64 0,.int .i64 0,.int .i64 0,.slice none 0 0,.int .i64 0,.int .i64 0,.int .i64 0,.slice none 0 0,.int .i64 0,.int .i64 0,.int .i64 0,.int .i64 0,.int .i64 0,.int .i64 0,.int .i64 0,.int .i64 0,.int .i64 0,.slice none 0 0] rfl rfl pN (by kernel_rfl) rfl rfl ?_)
 intro w2 pM g1
 replace pR:=(pR.below ha).kept g1 (by simp;omega)
 replace bw:=(bel_trans bw ha).grown g1 (by simp;omega) (fun x hx=>by cases hx;omega)
 clear g1 ha pN pM
 generalize w1.heap.size=gM at *
 go_wp2_with (first | refine wpList_store_blk rfl 33 _ _ rfl (w.heap.size+1) [.slice none 0 0,.slice none 0 0,.slice none 0 0,.slice none 0 0] rfl rfl pR (by kernel_rfl) rfl rfl ?_)
 intro U2 pR2 g2
 have bz:=bw.grown g2 bw.size (fun k e=>by cases e;omega)
 clear bw g2 pR
 go_wp2_with fail
 refine bodyPost_ret (results_blk3 Tryz.results12 _ _ _ _ _ _ rfl pR2.out Tryz.underlying33 rfl (by kernel_rfl)) rfl ?_
 exact ⟨RunGot.mk9 ((none,0,0),(none,0,0),(none,0,0),(none,0,0)) _ rfl (own_nilV _ _) (World.ownsRow_nil _ _ _ _),bz⟩

theorem implRunSchedule_ok (a:Option Addr) (len cap:Nat) (rows:List (List I3)) (la:Option Addr) (n c:Nat) (ks:List Int) (w:World) (hC:Codes w a len cap rows) (hV:VmShape w) (hp:progOk rows=true) (hL:Ints .i64 w la n c ks) (hn:¬ 4096<n) :
  Calls Tryz.prog 12 #[.agg #[.slice a len cap],.slice la n c] w fun e w'=>RunGot e w' w.heap.size (runI rows zeroV [] ks).1 (mergeB (runI rows zeroV [] ks).2.1 (deadM rows (runI rows zeroV [] ks).1)) (runI rows zeroV [] ks).2.2∧Below w.heap.size w w':=by
 have hn':¬ (4096:Int)<(n:Int):=by omega
 obtain ⟨rfl,cs,hR⟩:=hC.rowsAt hp
 have kN:=fun W (b:Below w.heap.size w W)=>newReplay_ok (hC.below b) (hV.below b) hp (hR.below b)
 have okF:=runI_ok hp ks zeroV [] zero_shape (by simp)
 have lenF:=runI_len (rows:=rows) ks zeroV []
 have hll:=hL.1
 have kRun:=fun (W:World) (g:Nat) (b:Below w.heap.size w W) (hg:w.heap.size≤g) (hM:RanTo W g w.heap.size cs zeroV []) (hl:ListAt W w.heap.size la n c ks)=>run_is hR b hg hp zero_shape hM hl (by simp;omega)
 have hL0:∀ W,Below w.heap.size w W→ListAt W w.heap.size la n c ks:=fun W b=>⟨hL.below b,fun b' o' ha h0=>by
  rcases hL.2.2.2 with h9 | ⟨b9,o9,e9,l9,_⟩
  ·omega
  ·rw [ha] at e9
   cases e9
   exact .inl l9⟩
 generalize runI rows zeroV [] ks=fin at *
 obtain ⟨m,fs,code⟩:=fin
 simp only at okF lenF kRun ⊢
 obtain ⟨hs,hok⟩:=okF
 have kSt:=fun (W:World) (g:Nat) (fv:Value) (hM:Blk W g 82 (Rp.machR fv cs.1.val cs.2.1.val cs.2.2.val m))=>Rp.state_is hM hs
 have kB:=fun (W:World) (g:Nat) (fv:Value) (h:Rp.MachAt fv W g cs rows m) (hF:W.ownsRow w.heap.size 99 3 fv fs.length (flat fs))=>rbugs_is h hp hs hF (fun x hx=>okB_fitsQ (hok x hx)) (by simp at lenF;omega)
 have bw:Below w.heap.size w ((w.alloc (.cells #[.slice a 3 cap] 25)).alloc (.cells #[.slice none 0 0,.slice none 0 0,.slice none 0 0,.slice none 0 0] 33)):=by go_grown
 have pP:Blk ((w.alloc (.cells #[.slice a 3 cap] 25)).alloc (.cells #[.slice none 0 0,.slice none 0 0,.slice none 0 0,.slice none 0 0] 33)) w.heap.size 25 [.slice a 3 cap]:=blkOld _ (blkAt _ _ _ rfl)
 have pR:Blk ((w.alloc (.cells #[.slice a 3 cap] 25)).alloc (.cells #[.slice none 0 0,.slice none 0 0,.slice none 0 0,.slice none 0 0] 33)) (w.heap.size+1) 33 [.slice none 0 0,.slice none 0 0,.slice none 0 0,.slice none 0 0]:=blkAt _ _ _ (by simp)
 clear hC hV hL hs hok lenF hll hn
 go_enter Tryz.func12,Tryz.ntmps12
 go_wp2_with fail
 generalize ((w.alloc (.cells #[.slice a 3 cap] 25)).alloc (.cells #[.slice none 0 0,.slice none 0 0,.slice none 0 0,.slice none 0 0] 33))=U at *
 go_wp2_with (first | refine wpList_load_blk rfl 25 _ rfl w.heap.size rfl pP _ Tryz.underlying25 rfl (by kernel_rfl) ?_)
 refine (kN _ bw).mono ?_
 rintro e w1 ⟨rfl,hb⟩
 replace bw:=bel_trans bw hb
 replace pR:=pR.below hb
 have pN:=Blk.new w1 82 [.slice none 0 0,.int .i64 0,.int .i64 0,.int .i64 0,.slice none 0 0,.int .i64 0,.int .i64 0,.int .i64 0,.slice none 0 0,.int .i64 0,.int .i64 0,.int .i64 0,.int .i64 0,.int .i64 0,.int .i64 0,.int .i64 0,.int .i64 0,.int .i64 0,.slice none 0 0]
 have ha:Below w1.heap.size w1 (w1.alloc (.cells #[.slice none 0 0,.int .i64 0,.int .i64 0,.int .i64 0,.slice none 0 0,.int .i64 0,.int .i64 0,.int .i64 0,.slice none 0 0,.int .i64 0,.int .i64 0,.int .i64 0,.int .i64 0,.int .i64 0,.int .i64 0,.int .i64 0,.int .i64 0,.int .i64 0,.slice none 0 0] 82)):=by go_grown
 have hg1:w.heap.size+1<w1.heap.size:=pR.lt
 clear kN hb pP
 go_wp2_with (refine wpList_store_blk rfl 82 _ _ rfl w1.heap.size (Rp.machR (.slice none 0 0) cs.1.val cs.2.1.val cs.2.2.val zeroV) rfl rfl pN (by kernel_rfl) rfl rfl ?_)
 intro W pM g1
 replace pR:=(pR.below ha).kept g1 (by simp;omega)
 replace bw:=(bel_trans bw ha).grown g1 (by simp;omega) (fun x hx=>by cases hx;omega)
 have hgW:w.heap.size≤w1.heap.size:=by omega
 have pG:=pM.out
 clear g1 ha pN pM
 generalize w1.heap.size=g at *
 go_wp2_with fail
 refine (kRun W g bw hgW ⟨_,pG,World.ownsRow_nil _ _ _ _⟩ (hL0 _ bw)).mono ?_
 rintro e w2 ⟨rfl,⟨fv,hM2,hF2⟩,bw2,kp2⟩
 replace pR:=kp2.blk pR (by decide) (by decide)
 clear kRun hL0 kp2 bw pG
 go_wp2_with fail
 refine (kSt _ g fv hM2).mono ?_
 rintro e w3 ⟨⟨⟨⟨t0a,t0n,t0c⟩,⟨t1a,t1n,t1c⟩,⟨t2a,t2n,t2c⟩,⟨t3a,t3n,t3c⟩⟩,rfl,hO⟩,hb3⟩
 have uX:S4.val ((t0a,t0n,t0c),(t1a,t1n,t1c),(t2a,t2n,t2c),(t3a,t3n,t3c))=.agg #[.slice t0a t0n t0c,.slice t1a t1n t1c,.slice t2a t2n t2c,.slice t3a t3n t3c]:=rfl
 rw [uX]
 clear uX
 have bw3:=bel_trans bw2 hb3
 replace pR:=pR.below hb3
 have hO3:=hO.lowerB (B':=w.heap.size) bw2.size
 have kBx:=kB _ g fv (rowsMach (hR.below bw3) (hM2.below hb3)) (owns_below hF2 hb3)
 clear kSt kB hO hb3 hM2 hF2 bw2
 go_wp2_with fail
 refine kBx.mono ?_
 rintro e w4 ⟨⟨v,rfl,q⟩,hb4⟩
 have bw4:=bel_trans bw3 hb4
 replace pR:=pR.below hb4
 replace hO3:=hO3.below hb4
 replace q:=own_lowerB (B':=w.heap.size) q bw3.size
 clear kBx hb4 bw3 hR
 go_wp2_with (first | refine wpList_store_blk rfl 33 _ _ rfl (w.heap.size+1) [.slice t0a t0n t0c,.slice t1a t1n t1c,.slice t2a t2n t2c,.slice t3a t3n t3c] rfl rfl pR (by kernel_rfl) rfl rfl ?_)
 intro U2 pR2 g2
 have bz:=bw4.grown g2 bw4.size (fun k e=>by cases e;omega)
 have q2:=q.kept g2 (.inr (own_ne_blkR q pR (by decide)).symm)
 have hO4:=hO3.kept9 g2 pR (by decide)
 clear bw4 g2 pR q hO3
 go_wp2_with fail
 refine bodyPost_ret (results_blk3 Tryz.results12 _ _ _ _ _ _ rfl pR2.out Tryz.underlying33 rfl (by kernel_rfl)) rfl ?_
 exact ⟨RunGot.mk9 ((t0a,t0n,t0c),(t1a,t1n,t1c),(t2a,t2n,t2c),(t3a,t3n,t3c)) _ rfl hO4 q2,bz⟩

theorem implRunSchedule_is (a:Option Addr) (len cap:Nat) (rows:List (List I3)) (la:Option Addr) (n c:Nat) (ks:List Int) (w:World) (hC:Codes w a len cap rows) (hV:VmShape w) (hL:Ints .i64 w la n c ks) :
  Calls Tryz.prog 12 #[.agg #[.slice a len cap],.slice la n c] w fun e w'=>RunGot e w' w.heap.size (runZ rows ks) (runF rows ks) (runC rows ks)∧Below w.heap.size w w':=by
 unfold runZ runF runC
 rw [hL.1]
 by_cases hn:4096<n
 ·simp only [if_pos hn]
  exact implRunSchedule_long a len cap la n c w hn
 ·simp only [if_neg hn]
  cases hp:progOk rows
  ·exact implRunSchedule_bad a len cap rows la n c w hC hV hp hn
  ·exact implRunSchedule_ok a len cap rows la n c ks w hC hV hp hL hn
end Go.Proofs.YtjgffnlmjmibgaaGreatDoor
