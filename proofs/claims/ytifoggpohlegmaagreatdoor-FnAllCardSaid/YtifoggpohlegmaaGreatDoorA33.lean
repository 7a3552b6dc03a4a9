/-
  Joined: RpH, FndS.
-/
import Derived.Test.YtifoggpohlegmaaGreatDoorA25
import Derived.Test.YtifoggpohlegmaaGreatDoorA32

namespace Go.Proofs.YtifoggpohlegmaaGreatDoor
set_option maxRecDepth 100000
set_option maxHeartbeats 16000000
open Go.RowKit
set_option linter.unusedVariables false
set_option linter.unusedSimpArgs false

def RunGot (e:Ending) (w:World) (B:Nat) (z:V4) (fs:List I3) (c:Int):Prop:=∃ (t:S4) (v:Value),e=.returned (.tuple #[t.val,v,.int .i64 c])∧OwnV w B t z∧w.ownsRow B 64 3 v fs.length (flat fs)
theorem RunGot.mk9 {e:Ending} {w:World} {B:Nat} {z:V4} {fs:List I3} {c:Int} (t:S4) (v:Value) (he:e=.returned (.tuple #[t.val,v,.int .i64 c])) (h1:OwnV w B t z) (h2:w.ownsRow B 64 3 v fs.length (flat fs)):RunGot e w B z fs c:=⟨t,v,he,h1,h2⟩
def runZ (rows:List (List I3)) (ks:List Int):V4:=if 4096<ks.length then ([],[],[],[]) else if progOk rows then (runI rows zeroV [] ks).1 else ([],[],[],[])
def runF (rows:List (List I3)) (ks:List Int):List I3:=if 4096<ks.length then [] else if progOk rows then mergeB (runI rows zeroV [] ks).2.1 (deadM rows (runI rows zeroV [] ks).1) else []
def runC (rows:List (List I3)) (ks:List Int):Int:=if 4096<ks.length then 2 else if progOk rows then (runI rows zeroV [] ks).2.2 else 1
theorem apart_nilV (s:Sl):Apart (none,0,0) s:=fun g h=>by simp [Value.ownBlock] at h
theorem own_nilV (w:World) (B:Nat):OwnV w B ((none,0,0),(none,0,0),(none,0,0),(none,0,0)) ([],[],[],[]):=
 ⟨⟨World.ownsRow_nil _ _ _ _,World.ownsRow_nil _ _ _ _,World.ownsRow_nil _ _ _ _,World.ownsRow_nil _ _ _ _⟩,apart_nilV _,apart_nilV _,apart_nilV _,apart_nilV _,apart_nilV _,apart_nilV _⟩

theorem implRunSchedule_long (a:Option Addr) (len cap:Nat) (la:Option Addr) (n c:Nat) (w:World) (hn:4096<n) :
  Calls Tryz.prog 14 #[.agg #[.slice a len cap],.slice la n c] w fun e w'=>RunGot e w' w.heap.size ([],[],[],[]) [] 2∧Below w.heap.size w w':=by
 have hn':(4096:Int)<(n:Int):=by omega
 have bw:Below w.heap.size w ((w.alloc (.cells #[.slice a len cap] 25)).alloc (.cells #[.slice none 0 0,.slice none 0 0,.slice none 0 0,.slice none 0 0] 33)):=by go_grown
 have pR:Blk ((w.alloc (.cells #[.slice a len cap] 25)).alloc (.cells #[.slice none 0 0,.slice none 0 0,.slice none 0 0,.slice none 0 0] 33)) (w.heap.size+1) 33 [.slice none 0 0,.slice none 0 0,.slice none 0 0,.slice none 0 0]:=blkAt _ _ _ (by simp)
 go_enter Tryz.func14,Tryz.ntmps14
 go_wp2_with fail
 go_returns
 exact ⟨RunGot.mk9 ((none,0,0),(none,0,0),(none,0,0),(none,0,0)) _ rfl (own_nilV _ _) (World.ownsRow_nil _ _ _ _),bw⟩

theorem implRunSchedule_bad (a:Option Addr) (len cap:Nat) (rows:List (List I3)) (la:Option Addr) (n c:Nat) (w:World) (hC:Codes w a len cap rows) (hV:VmShape w) (hp:progOk rows=false) (hn:¬ 4096<n) :
  Calls Tryz.prog 14 #[.agg #[.slice a len cap],.slice la n c] w fun e w'=>RunGot e w' w.heap.size ([],[],[],[]) [] 1∧Below w.heap.size w w':=by
 have hn':¬ (4096:Int)<(n:Int):=by omega
 have kN:=fun W (b:Below w.heap.size w W)=>newReplay_bad (hC.below b) (hV.below b) hp
 have bw:Below w.heap.size w ((w.alloc (.cells #[.slice a len cap] 25)).alloc (.cells #[.slice none 0 0,.slice none 0 0,.slice none 0 0,.slice none 0 0] 33)):=by go_grown
 have pP:Blk ((w.alloc (.cells #[.slice a len cap] 25)).alloc (.cells #[.slice none 0 0,.slice none 0 0,.slice none 0 0,.slice none 0 0] 33)) w.heap.size 25 [.slice a len cap]:=blkOld _ (blkAt _ _ _ rfl)
 have pR:Blk ((w.alloc (.cells #[.slice a len cap] 25)).alloc (.cells #[.slice none 0 0,.slice none 0 0,.slice none 0 0,.slice none 0 0] 33)) (w.heap.size+1) 33 [.slice none 0 0,.slice none 0 0,.slice none 0 0,.slice none 0 0]:=blkAt _ _ _ (by simp)
 clear hp hC hV hn
 go_enter Tryz.func14,Tryz.ntmps14
 go_wp2_with fail
 generalize ((w.alloc (.cells #[.slice a len cap] 25)).alloc (.cells #[.slice none 0 0,.slice none 0 0,.slice none 0 0,.slice none 0 0] 33))=U at *
 go_wp2_with (first | refine wpList_load_blk rfl 25 _ rfl w.heap.size rfl pP _ Tryz.underlying25 rfl (by kernel_rfl) ?_)
 refine (kN _ bw).mono ?_
 rintro e w1 ⟨rfl,hb⟩
 replace bw:=bel_trans bw hb
 replace pR:=pR.below hb
 have pN:=Blk.new w1 91 [.slice none 0 0,.int .i64 0,.int .i64 0,.int .i64 0,.slice none 0 0,.int .i64 0,.int .i64 0,.int .i64 0,.slice none 0 0,.int .i64 0,.int .i64 0,.int .i64 0,.int .i64 0,.int .i64 0,.int .i64 0,.int .i64 0,.int .i64 0,.int .i64 0,.slice none 0 0]
 have ha:Below w1.heap.size w1 (w1.alloc (.cells #[.slice none 0 0,.int .i64 0,.int .i64 0,.int .i64 0,.slice none 0 0,.int .i64 0,.int .i64 0,.int .i64 0,.slice none 0 0,.int .i64 0,.int .i64 0,.int .i64 0,.int .i64 0,.int .i64 0,.int .i64 0,.int .i64 0,.int .i64 0,.int .i64 0,.slice none 0 0] 91)):=by go_grown
 have hg1:w.heap.size+1<w1.heap.size:=pR.lt
 clear kN hb pP
 go_wp2_with (refine wpList_store_blk rfl 91 _ _ rfl w1.heap.size [.slice none 0 0,.int .i64 0,.int .i64 0,.int .i64 0,.slice none 0 0,.int .i64 0,.int .i64 0,.int .i64 0,.slice none 0 0,.int .i64 0,.int .i64 0,.int .i64 0,.int .i64 0,.int .i64 0,.int .i64 0,.int .i64 0,.int .i64 0,.int .i64 0,.slice none 0 0] rfl rfl pN (by kernel_rfl) rfl rfl ?_)
 intro w2 pM g1
 replace pR:=(pR.below ha).kept g1 (by simp;omega)
 replace bw:=(bel_trans bw ha).grown g1 (by simp;omega) (fun x hx=>by cases hx;omega)
 clear g1 ha pN pM
 generalize w1.heap.size=gM at *
 go_wp2_with (first | refine wpList_store_blk rfl 33 _ _ rfl (w.heap.size+1) [.slice none 0 0,.slice none 0 0,.slice none 0 0,.slice none 0 0] rfl rfl pR (by kernel_rfl) rfl rfl ?_)
 intro U2 pR2 g2
 have bz:=bw.grown g2 bw.size (fun k e=>by cases e;omega)
 clear bw g2 pR
 go_wp2_with fail
 refine bodyPost_ret (results_blk3 Tryz.results14 _ _ _ _ _ _ rfl pR2.out Tryz.underlying33 rfl (by kernel_rfl)) rfl ?_
 exact ⟨RunGot.mk9 ((none,0,0),(none,0,0),(none,0,0),(none,0,0)) _ rfl (own_nilV _ _) (World.ownsRow_nil _ _ _ _),bz⟩

theorem implRunSchedule_ok (a:Option Addr) (len cap:Nat) (rows:List (List I3)) (la:Option Addr) (n c:Nat) (ks:List Int) (w:World) (hC:Codes w a len cap rows) (hV:VmShape w) (hp:progOk rows=true) (hL:Ints .i64 w la n c ks) (hn:¬ 4096<n) :
  Calls Tryz.prog 14 #[.agg #[.slice a len cap],.slice la n c] w fun e w'=>RunGot e w' w.heap.size (runI rows zeroV [] ks).1 (mergeB (runI rows zeroV [] ks).2.1 (deadM rows (runI rows zeroV [] ks).1)) (runI rows zeroV [] ks).2.2∧Below w.heap.size w w':=by
 have hn':¬ (4096:Int)<(n:Int):=by omega
 obtain ⟨rfl,cs,hR⟩:=hC.rowsAt hp
 have kN:=fun W (b:Below w.heap.size w W)=>newReplay_ok (hC.below b) (hV.below b) hp (hR.below b)
 have okF:=runI_ok hp ks zeroV [] zero_shape (by simp)
 have lenF:=runI_len (rows:=rows) ks zeroV []
 have hll:=hL.1
 have kRun:=fun (W:World) (g:Nat) (b:Below w.heap.size w W) (hg:w.heap.size≤g) (hM:RanTo W g w.heap.size cs zeroV []) (hl:ListAt W w.heap.size la n c ks)=>run_is hR b hg hp zero_shape hM hl (by simp;omega)
 have hL0:∀ W,Below w.heap.size w W→ListAt W w.heap.size la n c ks:=fun W b=>⟨hL.below b,fun b' o' ha h0=>by
  rcases hL.2.2.2 with h9 | ⟨b9,o9,e9,l9,_⟩
  ·omega
  ·rw [ha] at e9
   cases e9
   exact .inl l9⟩
 generalize runI rows zeroV [] ks=fin at *
 obtain ⟨m,fs,code⟩:=fin
 simp only at okF lenF kRun ⊢
 obtain ⟨hs,hok⟩:=okF
 have kSt:=fun (W:World) (g:Nat) (fv:Value) (hM:Blk W g 91 (Rp.machR fv cs.1.val cs.2.1.val cs.2.2.val m))=>Rp.state_is hM hs
 have kB:=fun (W:World) (g:Nat) (fv:Value) (h:Rp.MachAt fv W g cs rows m) (hF:W.ownsRow w.heap.size 64 3 fv fs.length (flat fs))=>rbugs_is h hp hs hF (fun x hx=>okB_fitsQ (hok x hx)) (by simp at lenF;omega)
 have bw:Below w.heap.size w ((w.alloc (.cells #[.slice a 3 cap] 25)).alloc (.cells #[.slice none 0 0,.slice none 0 0,.slice none 0 0,.slice none 0 0] 33)):=by go_grown
 have pP:Blk ((w.alloc (.cells #[.slice a 3 cap] 25)).alloc (.cells #[.slice none 0 0,.slice none 0 0,.slice none 0 0,.slice none 0 0] 33)) w.heap.size 25 [.slice a 3 cap]:=blkOld _ (blkAt _ _ _ rfl)
 have pR:Blk ((w.alloc (.cells #[.slice a 3 cap] 25)).alloc (.cells #[.slice none 0 0,.slice none 0 0,.slice none 0 0,.slice none 0 0] 33)) (w.heap.size+1) 33 [.slice none 0 0,.slice none 0 0,.slice none 0 0,.slice none 0 0]:=blkAt _ _ _ (by simp)
 clear hC hV hL hs hok lenF hll hn
 go_enter Tryz.func14,Tryz.ntmps14
 go_wp2_with fail
 generalize ((w.alloc (.cells #[.slice a 3 cap] 25)).alloc (.cells #[.slice none 0 0,.slice none 0 0,.slice none 0 0,.slice none 0 0] 33))=U at *
 go_wp2_with (first | refine wpList_load_blk rfl 25 _ rfl w.heap.size rfl pP _ Tryz.underlying25 rfl (by kernel_rfl) ?_)
 refine (kN _ bw).mono ?_
 rintro e w1 ⟨rfl,hb⟩
 replace bw:=bel_trans bw hb
 replace pR:=pR.below hb
 have pN:=Blk.new w1 91 [.slice none 0 0,.int .i64 0,.int .i64 0,.int .i64 0,.slice none 0 0,.int .i64 0,.int .i64 0,.int .i64 0,.slice none 0 0,.int .i64 0,.int .i64 0,.int .i64 0,.int .i64 0,.int .i64 0,.int .i64 0,.int .i64 0,.int .i64 0,.int .i64 0,.slice none 0 0]
 have ha:Below w1.heap.size w1 (w1.alloc (.cells #[.slice none 0 0,.int .i64 0,.int .i64 0,.int .i64 0,.slice none 0 0,.int .i64 0,.int .i64 0,.int .i64 0,.slice none 0 0,.int .i64 0,.int .i64 0,.int .i64 0,.int .i64 0,.int .i64 0,.int .i64 0,.int .i64 0,.int .i64 0,.int .i64 0,.slice none 0 0] 91)):=by go_grown
 have hg1:w.heap.size+1<w1.heap.size:=pR.lt
 clear kN hb pP
 go_wp2_with (refine wpList_store_blk rfl 91 _ _ rfl w1.heap.size (Rp.machR (.slice none 0 0) cs.1.val cs.2.1.val cs.2.2.val zeroV) rfl rfl pN (by kernel_rfl) rfl rfl ?_)
 intro W pM g1
 replace pR:=(pR.below ha).kept g1 (by simp;omega)
 replace bw:=(bel_trans bw ha).grown g1 (by simp;omega) (fun x hx=>by cases hx;omega)
 have hgW:w.heap.size≤w1.heap.size:=by omega
 have pG:=pM.out
 clear g1 ha pN pM
 generalize w1.heap.size=g at *
 go_wp2_with fail
 refine (kRun W g bw hgW ⟨_,pG,World.ownsRow_nil _ _ _ _⟩ (hL0 _ bw)).mono ?_
 rintro e w2 ⟨rfl,⟨fv,hM2,hF2⟩,bw2,kp2⟩
 replace pR:=kp2.blk pR (by decide) (by decide)
 clear kRun hL0 kp2 bw pG
 go_wp2_with fail
 refine (kSt _ g fv hM2).mono ?_
 rintro e w3 ⟨⟨⟨⟨t0a,t0n,t0c⟩,⟨t1a,t1n,t1c⟩,⟨t2a,t2n,t2c⟩,⟨t3a,t3n,t3c⟩⟩,rfl,hO⟩,hb3⟩
 have uX:S4.val ((t0a,t0n,t0c),(t1a,t1n,t1c),(t2a,t2n,t2c),(t3a,t3n,t3c))=.agg #[.slice t0a t0n t0c,.slice t1a t1n t1c,.slice t2a t2n t2c,.slice t3a t3n t3c]:=rfl
 rw [uX]
 clear uX
 have bw3:=bel_trans bw2 hb3
 replace pR:=pR.below hb3
 have hO3:=hO.lowerB (B':=w.heap.size) bw2.size
 have kBx:=kB _ g fv (rowsMach (hR.below bw3) (hM2.below hb3)) (owns_below hF2 hb3)
 clear kSt kB hO hb3 hM2 hF2 bw2
 go_wp2_with fail
 refine kBx.mono ?_
 rintro e w4 ⟨⟨v,rfl,q⟩,hb4⟩
 have bw4:=bel_trans bw3 hb4
 replace pR:=pR.below hb4
 replace hO3:=hO3.below hb4
 replace q:=own_lowerB (B':=w.heap.size) q bw3.size
 clear kBx hb4 bw3 hR
 go_wp2_with (first | refine wpList_store_blk rfl 33 _ _ rfl (w.heap.size+1) [.slice t0a t0n t0c,.slice t1a t1n t1c,.slice t2a t2n t2c,.slice t3a t3n t3c] rfl rfl pR (by kernel_rfl) rfl rfl ?_)
 intro U2 pR2 g2
 have bz:=bw4.grown g2 bw4.size (fun k e=>by cases e;omega)
 have q2:=q.kept g2 (.inr (own_ne_blkR q pR (by decide)).symm)
 have hO4:=hO3.kept9 g2 pR (by decide)
 clear bw4 g2 pR q hO3
 go_wp2_with fail
 refine bodyPost_ret (results_blk3 Tryz.results14 _ _ _ _ _ _ rfl pR2.out Tryz.underlying33 rfl (by kernel_rfl)) rfl ?_
 exact ⟨RunGot.mk9 ((t0a,t0n,t0c),(t1a,t1n,t1c),(t2a,t2n,t2c),(t3a,t3n,t3c)) _ rfl hO4 q2,bz⟩

theorem implRunSchedule_is (a:Option Addr) (len cap:Nat) (rows:List (List I3)) (la:Option Addr) (n c:Nat) (ks:List Int) (w:World) (hC:Codes w a len cap rows) (hV:VmShape w) (hL:Ints .i64 w la n c ks) :
  Calls Tryz.prog 14 #[.agg #[.slice a len cap],.slice la n c] w fun e w'=>RunGot e w' w.heap.size (runZ rows ks) (runF rows ks) (runC rows ks)∧Below w.heap.size w w':=by
 unfold runZ runF runC
 rw [hL.1]
 by_cases hn:4096<n
 ·simp only [if_pos hn]
  exact implRunSchedule_long a len cap la n c w hn
 ·simp only [if_neg hn]
  cases hp:progOk rows
  ·exact implRunSchedule_bad a len cap rows la n c w hC hV hp hn
  ·exact implRunSchedule_ok a len cap rows la n c ks w hC hV hp hL hn


def FoundGot (e:Ending) (w:World) (B:Nat) (z:V4) (fs:List I3):Prop:=∃ (t:S4) (v:Value),e=.returned (.tuple #[t.val,v])∧OwnV w B t z∧w.ownsRow B 64 3 v fs.length (flat fs)
theorem own_apart_blk {w:World} {B e s n g t:Nat} {v:Value} {xs cs:List Value} (h:w.ownsRow B e s v n xs) (hB:Blk w g t cs) (he:e≠t):v.ownBlock=none∨v.ownBlock≠some g:=.inr (own_ne_blk h hB he)
theorem owns_low {B e s n:Nat} {v:Value} {xs:List Value} {w w':World} (h:w.ownsRow B e s v n xs) (hb:Below w.heap.size w w'):w'.ownsRow B e s v n xs:=by
 refine h.kept (w':=w') (row:=none) ⟨hb.os,hb.tape,hb.output,hb.size,fun k hk _=>hb.block k hk⟩ ?_
 cases v.ownBlock with
 | none=>exact .inl rfl
 | some x=>exact .inr (by simp)
theorem goM_nat (rows:List (List I3)) (m:V4) (k:Nat):goM rows m (k:Int)=stepM m (insM rows m k) k:=by unfold goM;rw [Int.toNat_natCast]
theorem step_code (m:V4) (x:I3) (k:Nat):(stepM m x k).2=0∨(stepM m x k).2=12∨(stepM m x k).2=13:=by
 unfold stepM
 repeat' split
 all_goals simp
theorem instrs_own {w:World} {B g n c:Nat} {xs:List I3} (h:w.ownsRow B 64 3 (.slice (some ⟨g,0,none⟩) n c) n (flat xs)) (hl:xs.length=n) (hf:∀ x ∈ xs,I3.fits x):Instrs w (some ⟨g,0,none⟩) n c xs:=Instrs.of_owns h hl hf rfl

theorem l04Found_is {w:World} {a9:Option Addr} {cap:Nat} {cs:Sl × Sl × Sl} {rows:List (List I3)} {s:S4} {m:V4} (hR:RowsAt w a9 cs rows) (h:Vmem w s m) (hp:progOk rows=true) (hs:shapeOk m=true) {k:Nat} (hk:k<3) (hd:doneM rows m k=false) :
  Calls Tryz.prog 88 #[.agg #[.slice a9 3 cap],s.val,.int .i64 k] w fun e w'=>FoundGot e w' w.heap.size (goM rows m k).1 (foundM rows m k)∧Below w.heap.size w w':=by
 obtain ⟨i0,hi,hz0,hz1,hz2⟩:=info_parts info_bug
 have kP:=fun (W:World) (hR:RowsAt W a9 cs rows) (h:Vmem W s m)=>l03Step_is (cap:=cap) rfl hR h hp hs hk hd
 have hsz:=shape_step hp hs hk hd
 obtain ⟨fin,hfin⟩:∃ fin,fin=foundM rows m k:=⟨_,rfl⟩
 rw [← hfin,goM_nat]
 unfold foundM ownM at hfin
 rw [goM_nat,Int.toNat_natCast] at hfin
 have hf9:=step_code m (insM rows m k) k
 generalize stepM m (insM rows m k) k=zf at *
 obtain ⟨z,f⟩:=zf
 simp only at kP hsz hfin hf9 ⊢
 have fz:=(shape_fits9 hsz).1
 have kU:=fun (W:World) (hR:RowsAt W a9 cs rows) (t:S4) (h:Vmem W t z)=>l03Stuck_is a9 3 cap rows t z cs W rfl hR h hp hsz
 obtain ⟨own,hown⟩:∃ own:List I3,own=if f=0 then [] else [(f,(k:Int),m.1.getD k 0)]:=⟨_,rfl⟩
 rw [← hown] at hfin
 have HFin:Hid (fin=if stuckM rows z then putB own (14,0,0) else own):=hfin
 have HOwn:Hid (own=if f=0 then [] else [(f,(k:Int),m.1.getD k 0)]):=hown
 clear hfin hown
 obtain ⟨b,off,rfl,hbl,hrow⟩:=id hR
 clear hbl hrow
 have hM:=h
 obtain ⟨⟨j0,_⟩,_⟩:=h
 obtain ⟨l0,_⟩:=shape_parts hs
 have hpc9:=getD_in (shape_bounds hs).1 (by decide) k
 obtain ⟨⟨a0,n0,c0⟩,⟨a1,n1,c1⟩,⟨a2,n2,c2⟩,⟨a3,n3,c3⟩⟩:=s
 simp only at j0
 obtain ⟨rfl,b0,o0,rfl⟩:=some_of_ints j0 l0 (by decide)
 have r1:=ints_at9 j0 (t:=k) hk
 have uA:S4.val ((some ⟨b0,o0,none⟩,3,c0),(a1,n1,c1),(a2,n2,c2),(a3,n3,c3))=.agg #[.slice (some ⟨b0,o0,none⟩) 3 c0,.slice a1 n1 c1,.slice a2 n2 c2,.slice a3 n3 c3]:=rfl
 rw [uA] at kP ⊢
 clear uA j0 l0 hp hs hd
 generalize m.1.getD k 0=pc at *
 have hk3:(k:Int)<3:=by omega
 have bw:Below w.heap.size w (((w.alloc (.cells #[.slice (some ⟨b,off,none⟩) 3 cap] 25)).alloc (.cells #[.slice (some ⟨b0,o0,none⟩) 3 c0,.slice a1 n1 c1,.slice a2 n2 c2,.slice a3 n3 c3] 33)).alloc (.cells #[.slice none 0 0,.slice none 0 0,.slice none 0 0,.slice none 0 0] 33)):=by go_grown
 have pP:Blk (((w.alloc (.cells #[.slice (some ⟨b,off,none⟩) 3 cap] 25)).alloc (.cells #[.slice (some ⟨b0,o0,none⟩) 3 c0,.slice a1 n1 c1,.slice a2 n2 c2,.slice a3 n3 c3] 33)).alloc (.cells #[.slice none 0 0,.slice none 0 0,.slice none 0 0,.slice none 0 0] 33)) w.heap.size 25 [.slice (some ⟨b,off,none⟩) 3 cap]:=blkOld _ (blkOld _ (blkAt _ _ _ rfl))
 have pS:Blk (((w.alloc (.cells #[.slice (some ⟨b,off,none⟩) 3 cap] 25)).alloc (.cells #[.slice (some ⟨b0,o0,none⟩) 3 c0,.slice a1 n1 c1,.slice a2 n2 c2,.slice a3 n3 c3] 33)).alloc (.cells #[.slice none 0 0,.slice none 0 0,.slice none 0 0,.slice none 0 0] 33)) (w.heap.size+1) 33 [.slice (some ⟨b0,o0,none⟩) 3 c0,.slice a1 n1 c1,.slice a2 n2 c2,.slice a3 n3 c3]:=blkOld _ (blkAt _ _ _ (by simp))
 have pR:Blk (((w.alloc (.cells #[.slice (some ⟨b,off,none⟩) 3 cap] 25)).alloc (.cells #[.slice (some ⟨b0,o0,none⟩) 3 c0,.slice a1 n1 c1,.slice a2 n2 c2,.slice a3 n3 c3] 33)).alloc (.cells #[.slice none 0 0,.slice none 0 0,.slice none 0 0,.slice none 0 0] 33)) (w.heap.size+2) 33 [.slice none 0 0,.slice none 0 0,.slice none 0 0,.slice none 0 0]:=blkAt _ _ _ (by simp)
 have hW1:w.heap.size+3≤(((w.alloc (.cells #[.slice (some ⟨b,off,none⟩) 3 cap] 25)).alloc (.cells #[.slice (some ⟨b0,o0,none⟩) 3 c0,.slice a1 n1 c1,.slice a2 n2 c2,.slice a3 n3 c3] 33)).alloc (.cells #[.slice none 0 0,.slice none 0 0,.slice none 0 0,.slice none 0 0] 33)).heap.size:=by simp
 go_enter Tryz.func88,Tryz.ntmps88
 go_wp2_with fail
 generalize (((w.alloc (.cells #[.slice (some ⟨b,off,none⟩) 3 cap] 25)).alloc (.cells #[.slice (some ⟨b0,o0,none⟩) 3 c0,.slice a1 n1 c1,.slice a2 n2 c2,.slice a3 n3 c3] 33)).alloc (.cells #[.slice none 0 0,.slice none 0 0,.slice none 0 0,.slice none 0 0] 33))=W1 at *
 have kPx:=kP W1 (hR.below bw) (hM.below bw)
 go_wp2_with (first | refine wpList_load_blk rfl 25 _ rfl w.heap.size rfl pP _ Tryz.underlying25 rfl (by kernel_rfl) ?_ | refine wpList_load_blk rfl 33 _ rfl (w.heap.size+1) rfl pS _ Tryz.underlying33 rfl (by kernel_rfl) ?_)
 refine kPx.mono ?_
 rintro e w2 ⟨⟨⟨⟨t0a,t0n,t0c⟩,⟨t1a,t1n,t1c⟩,⟨t2a,t2n,t2c⟩,⟨t3a,t3n,t3c⟩⟩,rfl,hO⟩,hb⟩
 replace hO:=hO.lowerB (B':=w.heap.size+3) hW1
 replace bw:=bel_trans bw hb
 replace pP:=pP.below hb
 replace pS:=pS.below hb
 replace pR:=pR.below hb
 have hsz2:w.heap.size+3≤w2.heap.size:=Nat.le_trans hW1 hb.size
 clear hb kPx kP hW1
 have ha:Below w2.heap.size w2 ((w2.alloc (.cells #[.slice t0a t0n t0c,.slice t1a t1n t1c,.slice t2a t2n t2c,.slice t3a t3n t3c] 33)).alloc (.cells #[] 64)):=by go_grown
 have pX:Blk ((w2.alloc (.cells #[.slice t0a t0n t0c,.slice t1a t1n t1c,.slice t2a t2n t2c,.slice t3a t3n t3c] 33)).alloc (.cells #[] 64)) w2.heap.size 33 [.slice t0a t0n t0c,.slice t1a t1n t1c,.slice t2a t2n t2c,.slice t3a t3n t3c]:=blkOld _ (blkAt _ _ _ rfl)
 have oO:((w2.alloc (.cells #[.slice t0a t0n t0c,.slice t1a t1n t1c,.slice t2a t2n t2c,.slice t3a t3n t3c] 33)).alloc (.cells #[] 64)).ownsRow w.heap.size 64 3 (.slice (some ⟨w2.heap.size+1,0,none⟩) 0 0) 0 []:=by
  have h9:=own_emptyB (w2.alloc (.cells #[.slice t0a t0n t0c,.slice t1a t1n t1c,.slice t2a t2n t2c,.slice t3a t3n t3c] 33)) 64 3 w.heap.size (by simp;omega)
  simpa using h9
 replace bw:=bel_trans bw ha
 replace hO:=hO.below ha
 replace pP:=pP.below ha
 replace pS:=pS.below ha
 replace pR:=pR.below ha
 replace r1:=cells_kept bw _ _ r1
 have uX:S4.val ((t0a,t0n,t0c),(t1a,t1n,t1c),(t2a,t2n,t2c),(t3a,t3n,t3c))=.agg #[.slice t0a t0n t0c,.slice t1a t1n t1c,.slice t2a t2n t2c,.slice t3a t3n t3c]:=rfl
 rw [uX]
 clear ha hsz
 by_cases hf:f=0
 ·subst hf
  have HO2:Hid (own=[]):=by rw [Hid,HOwn.out];rfl
  have hfit:∀ x ∈ ([]:List I3),I3.fits x:=by simp
  have kUx:=kU _ (hR.below bw) _ (hO.mem fz)
  rw [uX] at kUx
  clear HOwn hf9 pS r1 hM hR kU uX
  cases hst:stuckM rows z
  ·rw [hst] at kUx
   have HF:Hid (fin=[]):=by rw [Hid,HFin.out,hst,HO2.out];rfl
   clear hst HFin HO2
   go_wp2_with (first | refine wpList_load_blk rfl 25 _ rfl w.heap.size rfl pP _ Tryz.underlying25 rfl (by kernel_rfl) ?_ | refine wpList_load_blk rfl 33 _ rfl w2.heap.size rfl pX _ Tryz.underlying33 rfl (by kernel_rfl) ?_)
   refine kUx.mono ?_
   rintro e u1 ⟨rfl,hb⟩
   replace bw:=bel_trans bw hb
   replace hO:=hO.below hb
   replace oO:=owns_low oO hb
   replace pP:=pP.below hb
   replace pR:=pR.below hb
   replace pX:=pX.below hb
   clear hb
   clear kUx
   have q3:u1.ownsRow w.heap.size 64 3 (.slice (some ⟨(w2.heap.size+1),0,none⟩) 0 0) fin.length (flat fin):=by rw [HF.out];exact oO
   clear oO HF
   go_wp2_with (first | refine wpList_load_blk rfl 33 _ rfl w2.heap.size rfl pX _ Tryz.underlying33 rfl (by kernel_rfl) ?_ | refine wpList_store_blk rfl 33 _ _ rfl (w.heap.size+2) [.slice t0a t0n t0c,.slice t1a t1n t1c,.slice t2a t2n t2c,.slice t3a t3n t3c] rfl rfl pR (by kernel_rfl) rfl rfl ?_)
   intro u2 pR2 g2
   have q2:=q3.kept g2 (own_apart_blk q3 pR (by decide))
   clear q3
   have hO2:=(hO.kept9 g2 pR (by decide)).lowerB (B':=w.heap.size) (by omega)
   have bw2:=bw.grown g2 bw.size (fun k e=>by cases e;omega)
   clear g2 hO bw
   go_wp2_with fail
   refine bodyPost_ret (results_blk2 Tryz.results88 _ _ _ _ _ _ rfl pR2.out Tryz.underlying33 rfl (by kernel_rfl)) rfl ?_
   exact ⟨⟨((t0a,t0n,t0c),(t1a,t1n,t1c),(t2a,t2n,t2c),(t3a,t3n,t3c)),_,rfl,hO2,q2⟩,bw2⟩
  ·rw [hst] at kUx
   have HF:Hid (fin=putB [] (14,0,0)):=by rw [Hid,HFin.out,hst,HO2.out];rfl
   clear hst HFin HO2
   go_wp2_with (first | refine wpList_load_blk rfl 25 _ rfl w.heap.size rfl pP _ Tryz.underlying25 rfl (by kernel_rfl) ?_ | refine wpList_load_blk rfl 33 _ rfl w2.heap.size rfl pX _ Tryz.underlying33 rfl (by kernel_rfl) ?_)
   refine kUx.mono ?_
   rintro e u1 ⟨rfl,hb⟩
   replace bw:=bel_trans bw hb
   replace hO:=hO.below hb
   replace oO:=owns_low oO hb
   replace pP:=pP.below hb
   replace pR:=pR.below hb
   replace pX:=pX.below hb
   clear hb
   clear kUx
   have kPut:=l04Put_is (w2.heap.size+1) 0 0 0 [] (14,0,0) u1 (instrs_own oO rfl hfit) (by decide)
   unfold I3.val at kPut
   simp only at kPut
   go_wp2_with fail
   refine kPut.mono ?_
   rintro e u3 ⟨⟨v3,rfl,q3⟩,hb⟩
   replace q3:=own_lowerB (B':=w.heap.size) q3 bw.size
   rw [← HF.out] at q3
   replace bw:=bel_trans bw hb
   replace hO:=hO.below hb
   replace pP:=pP.below hb
   replace pR:=pR.below hb
   replace pX:=pX.below hb
   clear hb
   clear kPut oO HF
   go_wp2_with (first | refine wpList_load_blk rfl 33 _ rfl w2.heap.size rfl pX _ Tryz.underlying33 rfl (by kernel_rfl) ?_ | refine wpList_store_blk rfl 33 _ _ rfl (w.heap.size+2) [.slice t0a t0n t0c,.slice t1a t1n t1c,.slice t2a t2n t2c,.slice t3a t3n t3c] rfl rfl pR (by kernel_rfl) rfl rfl ?_)
   intro u2 pR2 g2
   have q2:=q3.kept g2 (own_apart_blk q3 pR (by decide))
   clear q3
   have hO2:=(hO.kept9 g2 pR (by decide)).lowerB (B':=w.heap.size) (by omega)
   have bw2:=bw.grown g2 bw.size (fun k e=>by cases e;omega)
   clear g2 hO bw
   go_wp2_with fail
   refine bodyPost_ret (results_blk2 Tryz.results88 _ _ _ _ _ _ rfl pR2.out Tryz.underlying33 rfl (by kernel_rfl)) rfl ?_
   exact ⟨⟨((t0a,t0n,t0c),(t1a,t1n,t1c),(t2a,t2n,t2c),(t3a,t3n,t3c)),_,rfl,hO2,q2⟩,bw2⟩
 ·have hfn:(f != 0)=true:=by simp [hf]
  have HO2:Hid (own=[(f,(k:Int),pc)]):=by rw [Hid,HOwn.out,if_neg hf]
  have hfit:∀ x ∈ [(f,(k:Int),pc)],I3.fits x:=fun x hx=>by
   simp only [List.mem_singleton] at hx
   subst hx
   simp only [I3.fits]
   exact ⟨fits_small (by omega) (by omega),fits_small (by omega) (by omega),fits_small (by omega) (by omega)⟩
  have cS0:((w2.alloc (.cells #[.slice t0a t0n t0c,.slice t1a t1n t1c,.slice t2a t2n t2c,.slice t3a t3n t3c] 33)).alloc (.cells #[] 64)).cell? ⟨w.heap.size+1,0,none⟩=some (.slice (some ⟨b0,o0,none⟩) 3 c0):=by simpa using pS.cell 0
  clear HOwn hf9 hM hf pS
  go_wp2_with (at_builtin;refine wpList_append_own _ rfl _ _ 34 rfl w.heap.size 64 i0 (.agg #[.int .i64 0,.int .i64 0,.int .i64 0]) 3 24 Tryz.underlying34 hi hz0 hz1 hz2 rfl (by decide) _ _ _ rfl (oO.alloc _) ⟨w2.heap.size+1+1,0,none⟩ 1 1 [.int .i64 f,.int .i64 (k:Int),.int .i64 pc] rfl rfl ?c1 (three_one _ _ _) ?c3 ?c4 ?c5 ?_)
  case c1=>simpa using cell_three_new ((w2.alloc (.cells #[.slice t0a t0n t0c,.slice t1a t1n t1c,.slice t2a t2n t2c,.slice t3a t3n t3c] 33)).alloc (.cells #[] 64)) (.int .i64 f) (.int .i64 (k:Int)) (.int .i64 pc) 64
  case c3=>unfold maxLen;omega
  case c4=>omega
  case c5=>simp;omega
  intro v9 U q9 g9 _
  have ha:Below ((w2.alloc (.cells #[.slice t0a t0n t0c,.slice t1a t1n t1c,.slice t2a t2n t2c,.slice t3a t3n t3c] 33)).alloc (.cells #[] 64)).heap.size ((w2.alloc (.cells #[.slice t0a t0n t0c,.slice t1a t1n t1c,.slice t2a t2n t2c,.slice t3a t3n t3c] 33)).alloc (.cells #[] 64)) (((w2.alloc (.cells #[.slice t0a t0n t0c,.slice t1a t1n t1c,.slice t2a t2n t2c,.slice t3a t3n t3c] 33)).alloc (.cells #[] 64)).alloc (.cells #[.int .i64 f,.int .i64 (k:Int),.int .i64 pc] 64)):=by go_grown
  have pE:Blk (((w2.alloc (.cells #[.slice t0a t0n t0c,.slice t1a t1n t1c,.slice t2a t2n t2c,.slice t3a t3n t3c] 33)).alloc (.cells #[] 64)).alloc (.cells #[.int .i64 f,.int .i64 (k:Int),.int .i64 pc] 64)) (w2.heap.size+1) 64 []:=blkOld _ (blkAt _ _ _ (by simp))
  have n0:(some (w2.heap.size+1):Option Nat)≠some w.heap.size:=by simp;omega
  have n1:(some (w2.heap.size+1):Option Nat)≠some (w.heap.size+2):=by simp;omega
  have n2:(some (w2.heap.size+1):Option Nat)≠some w2.heap.size:=by simp
  replace g9:(((w2.alloc (.cells #[.slice t0a t0n t0c,.slice t1a t1n t1c,.slice t2a t2n t2c,.slice t3a t3n t3c] 33)).alloc (.cells #[] 64)).alloc (.cells #[.int .i64 f,.int .i64 (k:Int),.int .i64 pc] 64)).grownBy U (some (w2.heap.size+1)):=g9
  replace pP:=(pP.below ha).kept g9 n0
  replace pR:=(pR.below ha).kept g9 n1
  replace pX:=(pX.below ha).kept g9 n2
  replace hO:=(hO.below ha).kept9 g9 pE (by decide)
  replace bw:=(bel_trans bw ha).grown g9 (bel_trans bw ha).size (fun j hj=>by cases hj;omega)
  obtain ⟨og,oc,rfl⟩:=own_someB q9 (by omega)
  have oO2:U.ownsRow w.heap.size 64 3 (.slice (some ⟨og,0,none⟩) 1 oc) 1 (flat [(f,(k:Int),pc)]):=q9
  clear oO q9 g9 ha pE n0 n1 n2 r1 cS0
  have oO:=oO2
  clear oO2
  have kUx:=kU _ (hR.below bw) _ (hO.mem fz)
  rw [uX] at kUx
  clear hR kU uX
  cases hst:stuckM rows z
  ·rw [hst] at kUx
   have HF:Hid (fin=[(f,(k:Int),pc)]):=by rw [Hid,HFin.out,hst,HO2.out];rfl
   clear hst HFin HO2
   go_wp2_with (first | refine wpList_load_blk rfl 25 _ rfl w.heap.size rfl pP _ Tryz.underlying25 rfl (by kernel_rfl) ?_ | refine wpList_load_blk rfl 33 _ rfl w2.heap.size rfl pX _ Tryz.underlying33 rfl (by kernel_rfl) ?_)
   refine kUx.mono ?_
   rintro e u1 ⟨rfl,hb⟩
   replace bw:=bel_trans bw hb
   replace hO:=hO.below hb
   replace oO:=owns_low oO hb
   replace pP:=pP.below hb
   replace pR:=pR.below hb
   replace pX:=pX.below hb
   clear hb
   clear kUx
   have q3:u1.ownsRow w.heap.size 64 3 (.slice (some ⟨og,0,none⟩) 1 oc) fin.length (flat fin):=by rw [HF.out];exact oO
   clear oO HF
   go_wp2_with (first | refine wpList_load_blk rfl 33 _ rfl w2.heap.size rfl pX _ Tryz.underlying33 rfl (by kernel_rfl) ?_ | refine wpList_store_blk rfl 33 _ _ rfl (w.heap.size+2) [.slice t0a t0n t0c,.slice t1a t1n t1c,.slice t2a t2n t2c,.slice t3a t3n t3c] rfl rfl pR (by kernel_rfl) rfl rfl ?_)
   intro u2 pR2 g2
   have q2:=q3.kept g2 (own_apart_blk q3 pR (by decide))
   clear q3
   have hO2:=(hO.kept9 g2 pR (by decide)).lowerB (B':=w.heap.size) (by omega)
   have bw2:=bw.grown g2 bw.size (fun k e=>by cases e;omega)
   clear g2 hO bw
   go_wp2_with fail
   refine bodyPost_ret (results_blk2 Tryz.results88 _ _ _ _ _ _ rfl pR2.out Tryz.underlying33 rfl (by kernel_rfl)) rfl ?_
   exact ⟨⟨((t0a,t0n,t0c),(t1a,t1n,t1c),(t2a,t2n,t2c),(t3a,t3n,t3c)),_,rfl,hO2,q2⟩,bw2⟩
  ·rw [hst] at kUx
   have HF:Hid (fin=putB [(f,(k:Int),pc)] (14,0,0)):=by rw [Hid,HFin.out,hst,HO2.out];rfl
   clear hst HFin HO2
   go_wp2_with (first | refine wpList_load_blk rfl 25 _ rfl w.heap.size rfl pP _ Tryz.underlying25 rfl (by kernel_rfl) ?_ | refine wpList_load_blk rfl 33 _ rfl w2.heap.size rfl pX _ Tryz.underlying33 rfl (by kernel_rfl) ?_)
   refine kUx.mono ?_
   rintro e u1 ⟨rfl,hb⟩
   replace bw:=bel_trans bw hb
   replace hO:=hO.below hb
   replace oO:=owns_low oO hb
   replace pP:=pP.below hb
   replace pR:=pR.below hb
   replace pX:=pX.below hb
   clear hb
   clear kUx
   have kPut:=l04Put_is og 0 1 oc [(f,(k:Int),pc)] (14,0,0) u1 (instrs_own oO rfl hfit) (by decide)
   unfold I3.val at kPut
   simp only at kPut
   go_wp2_with fail
   refine kPut.mono ?_
   rintro e u3 ⟨⟨v3,rfl,q3⟩,hb⟩
   replace q3:=own_lowerB (B':=w.heap.size) q3 bw.size
   rw [← HF.out] at q3
   replace bw:=bel_trans bw hb
   replace hO:=hO.below hb
   replace pP:=pP.below hb
   replace pR:=pR.below hb
   replace pX:=pX.below hb
   clear hb
   clear kPut oO HF
   go_wp2_with (first | refine wpList_load_blk rfl 33 _ rfl w2.heap.size rfl pX _ Tryz.underlying33 rfl (by kernel_rfl) ?_ | refine wpList_store_blk rfl 33 _ _ rfl (w.heap.size+2) [.slice t0a t0n t0c,.slice t1a t1n t1c,.slice t2a t2n t2c,.slice t3a t3n t3c] rfl rfl pR (by kernel_rfl) rfl rfl ?_)
   intro u2 pR2 g2
   have q2:=q3.kept g2 (own_apart_blk q3 pR (by decide))
   clear q3
   have hO2:=(hO.kept9 g2 pR (by decide)).lowerB (B':=w.heap.size) (by omega)
   have bw2:=bw.grown g2 bw.size (fun k e=>by cases e;omega)
   clear g2 hO bw
   go_wp2_with fail
   refine bodyPost_ret (results_blk2 Tryz.results88 _ _ _ _ _ _ rfl pR2.out Tryz.underlying33 rfl (by kernel_rfl)) rfl ?_
   exact ⟨⟨((t0a,t0n,t0c),(t1a,t1n,t1c),(t2a,t2n,t2c),(t3a,t3n,t3c)),_,rfl,hO2,q2⟩,bw2⟩
end Go.Proofs.YtifoggpohlegmaaGreatDoor
