/-
  Joined: DedI, RpG, RpH, FndS.
-/
import Derived.Test.YtjgffnlmjmibgaaDoorK22
import Derived.Test.YtjgffnlmjmibgaaDoorK41
import Derived.Test.YtjgffnlmjmibgaaDoorK42
import Derived.Test.YtjgffnlmjmibgaaDoorK46

namespace Go.Proofs.YtjgffnlmjmibgaaDoor
set_option maxRecDepth 100000
set_option maxHeartbeats 16000000
open Go.RowKit
set_option linter.unusedVariables false
set_option linter.unusedSimpArgs false

def RowD (e:Ending) (w':World) (B:Nat) (xs:List I3):Prop:=∃ v,e=.returned v∧w'.ownsRow B 40 3 v xs.length (flat xs)
theorem deadlock_of {w:World} {p:Addr} {b:Bool} (k:Calls Tryd.prog 106 #[.pointer (some p)] w fun e w'=>e=.returned (.bool b)∧Below w.heap.size w w') :
  Calls Tryd.prog 64 #[.pointer (some p)] w fun e w'=>RowD e w' w.heap.size (if b then [(14,0,0)] else [])∧Below w.heap.size w w':=by
 cases b
 ·go_enter Tryd.func64,Tryd.ntmps64
  go_wp2_with fail
  refine k.mono ?_
  rintro e w1 ⟨rfl,hb⟩
  go_wp2
  go_ret
  exact ⟨⟨_,rfl,World.ownsRow_nil _ _ _ _⟩,hb⟩
 ·go_enter Tryd.func64,Tryd.ntmps64
  go_wp2_with fail
  refine k.mono ?_
  rintro e w1 ⟨rfl,hb⟩
  have q:=World.ownsRow_lit (e:=40) (base:=w.heap.size) (size:=3) w1 #[.int .i64 14,.int .i64 0,.int .i64 0] 1 hb.size (by unfold maxLen;omega) rfl
  have HD:Hid (RowD (.returned (.slice (some ⟨w1.heap.size,0,none⟩) 1 1)) (w1.alloc (.cells #[.int .i64 14,.int .i64 0,.int .i64 0] 40)) w.heap.size [(14,0,0)]):=⟨_,rfl,q⟩
  clear q
  go_wp2
  go_ret
  exact ⟨HD.out,bel8 hb (by go_grown)⟩


theorem newReplay_ok {a:Option Addr} {len cap:Nat} {rows:List (List I3)} {w:World} {cs:Sl × Sl × Sl} (hC:Codes w a len cap rows) (hV:VmShape w) (hp:progOk rows=true) (hR:RowsAt w a cs rows) :
  Calls Tryd.prog 27 #[.agg #[.slice a len cap]] w fun e w'=>e=.returned (.tuple #[.agg (Rp.machR (.slice none 0 0) cs.1.val cs.2.1.val cs.2.2.val zeroV).toArray,.int .i64 0])∧Below w.heap.size w w':=by
 refine newReplay_of a len cap w 0 cs.1.1 cs.1.2.1 cs.1.2.2 cs.2.1.1 cs.2.1.2.1 cs.2.1.2.2 cs.2.2.1 cs.2.2.2.1 cs.2.2.2.2 0 0 0 0 0 0 0 0 0 0 0 0 0 0 0 fun W s bW hs=>?_
 refine (machineOf_ok a len cap rows s zeroV W (hC.below bW) hs (hV.below bW) hp zero_shape).mono ?_
 rintro e w' ⟨⟨cs',rfl,hR'⟩,hb⟩
 obtain rfl:=hR'.uniq (hR.below bW)
 exact ⟨rfl,hb⟩
theorem newReplay_bad {a:Option Addr} {len cap:Nat} {rows:List (List I3)} {w:World} (hC:Codes w a len cap rows) (hV:VmShape w) (hp:progOk rows=false) :
  Calls Tryd.prog 27 #[.agg #[.slice a len cap]] w fun e w'=>e=.returned (.tuple #[.agg #[.slice none 0 0,.int .i64 0,.int .i64 0,.int .i64 0,.slice none 0 0,.int .i64 0,.int .i64 0,.int .i64 0,.slice none 0 0,.int .i64 0,.int .i64 0,.int .i64 0,.int .i64 0,.int .i64 0,.int .i64 0,.int .i64 0,.int .i64 0,.int .i64 0,.slice none 0 0],.int .i64 1])∧Below w.heap.size w w':=by
 refine newReplay_of a len cap w 1 none 0 0 none 0 0 none 0 0 0 0 0 0 0 0 0 0 0 0 0 0 0 0 0 fun W s bW hs=>?_
 exact machineOf_bad a len cap rows s zeroV W (hC.below bW) hs (hV.below bW) (by rw [hp];rfl)

theorem bugs_sliceR {w:World} {B:Nat} {v:Value} {xs:List I3} (h:w.ownsRow B 40 3 v xs.length (flat xs)) (hf:∀ x ∈ xs,I3.fits x):∃ a cap,v=.slice a xs.length cap∧Instrs w a xs.length cap xs∧GoodS a cap:=by
 rcases h.2 with ⟨rfl,h0⟩ | ⟨g,cap,cur,hv,_⟩
 ·exact ⟨none,0,by rw [h0],⟨rfl,by omega,by unfold maxLen;omega,hf,.inl h0⟩,fun _=>rfl,fun x hx=>by cases hx⟩
 ·subst hv
  exact ⟨_,_,rfl,Instrs.of_owns h rfl hf rfl,(fun h=>by cases h),fun x hx=>by cases hx;rfl⟩

theorem rbugs_is {fv:Value} {w:World} {g B:Nat} {cs:Sl × Sl × Sl} {rows:List (List I3)} {m:V4} {fs:List I3} (h:Rp.MachAt fv w g cs rows m) (hp:progOk rows=true) (hs:shapeOk m=true) (hF:w.ownsRow B 40 3 fv fs.length (flat fs)) (hfit:∀ x ∈ fs,I3.fits x) (hn:fs.length≤400000) :
  Calls Tryd.prog 30 #[.pointer (some ⟨g,0,none⟩)] w fun e w'=>BugsOne e w' w.heap.size (mergeB fs (deadM rows m))∧Below w.heap.size w w':=by
 have kU:=fun (W:World) (b:Below w.heap.size w W)=>deadlock_of (Rp.stuck_is g cs rows m W (h.below b) hp hs)
 rw [show (if stuckM rows m then [((14:Int),(0:Int),(0:Int))] else [])=deadM rows m from rfl] at kU
 have r1:=h.1.cell 18
 rw [Rp.machR_found] at r1
 obtain ⟨fa,fc,rfl,hI,hG⟩:=bugs_sliceR hF hfit
 have hdl:(deadM rows m).length≤1:=by unfold deadM;split<;>simp
 have hdf:∀ x ∈ deadM rows m,I3.fits x:=by
  intro x hx
  unfold deadM at hx
  split at hx
  ·simp only [List.mem_singleton] at hx
   subst hx
   exact okB_fitsQ rfl
  ·cases hx
 generalize deadM rows m=dd at *
 obtain ⟨fin,hfin⟩:∃ fin,fin=mergeB fs dd:=⟨_,rfl⟩
 rw [← hfin]
 have HF:Hid (fin=mergeB fs dd):=hfin
 clear hF hfin
 go_enter Tryd.func30,Tryd.ntmps30
 go_wp2_with fail
 refine wp_region_held_drew (S:=(fun w'=>w'.cell? ⟨g,18,none⟩=some (.slice fa fs.length fc))) (by kernel_rfl) r1 (fun hS0=>?_)
 refine tkm 0 3 (.pointer (some ⟨g,0,none⟩)) ?_
 refine tkm 1 4 (.pointer (some ⟨g,0,none⟩)) ?_
 refine tkm 2 5 (.pointer (some ⟨g,18,none⟩)) ?_
 refine tkm 3 6 (.slice fa fs.length fc) ?_
 refine tkm 4 7 (.pointer (some ⟨g,0,none⟩)) ?_
 refine tkm 5 8 (.pointer (some ⟨g,0,none⟩)) ?_
 refine tkm 6 9 (.pointer (some ⟨g,0,none⟩)) ?_
 have bd:Below w.heap.size w w.drew:=by go_grown
 have kU2:=kU _ bd
 replace hI:=hI.below bd
 generalize w.drew=V0 at *
 clear kU
 refine tkr 7 10 (fun K hK=>?_)
 go_simp
 refine kU2.mono ?_
 rintro e w1 ⟨⟨v,rfl,q⟩,hb1⟩
 obtain ⟨da,dc,rfl,hID,hGD⟩:=bugs_sliceR q hdf
 go_wp2_with fail
 refine hK.out _ _ (cells_kept hb1 _ _ hS0) (fun hS1=>?_)
 clear hK kU2
 try simp only [Act.put,tka,tkb,tkc]
 have kM:=mergedBugs_is fa fs.length fc fs da dd.length dc dd w1 (hI.below hb1) hID hn (by omega) hG hGD
 rw [← HF.out] at kM
 refine tkr 8 11 (fun K hK=>?_)
 go_simp
 refine kM.mono ?_
 rintro e w2 ⟨⟨v,rfl,q⟩,hb2⟩
 go_wp2_with fail
 refine hK.out _ _ (cells_kept hb2 _ _ hS1) (fun hS2=>?_)
 clear hK
 try simp only [Act.put,tka,tkb,tkc]
 refine tkm 9 2 v ?_
 refine wpAnyH_done (by kernel_rfl) ?_ _
 have q2:=own_lowerB q (Nat.le_trans bd.size hb1.size)
 have bz:=bel_trans bd (bel_trans hb1 hb2)
 clear kM q hb1 hb2 r1 hS0 hS1 hS2
 go_wp2
 go_ret
 exact ⟨⟨v,rfl,q2⟩,bz⟩


def RunGot (e:Ending) (w:World) (B:Nat) (z:V4) (fs:List I3) (c:Int):Prop:=∃ (t:S4) (v:Value),e=.returned (.tuple #[t.val,v,.int .i64 c])∧OwnV w B t z∧w.ownsRow B 40 3 v fs.length (flat fs)
theorem RunGot.mk9 {e:Ending} {w:World} {B:Nat} {z:V4} {fs:List I3} {c:Int} (t:S4) (v:Value) (he:e=.returned (.tuple #[t.val,v,.int .i64 c])) (h1:OwnV w B t z) (h2:w.ownsRow B 40 3 v fs.length (flat fs)):RunGot e w B z fs c:=⟨t,v,he,h1,h2⟩
def runF (rows:List (List I3)) (ks:List Int):List I3:=if 4096<ks.length then [] else if progOk rows then mergeB (runI rows zeroV [] ks).2.1 (deadM rows (runI rows zeroV [] ks).1) else []
def runC (rows:List (List I3)) (ks:List Int):Int:=if 4096<ks.length then 2 else if progOk rows then (runI rows zeroV [] ks).2.2 else 1


def FoundGot (e:Ending) (w:World) (B:Nat) (z:V4) (fs:List I3):Prop:=∃ (t:S4) (v:Value),e=.returned (.tuple #[t.val,v])∧OwnV w B t z∧w.ownsRow B 40 3 v fs.length (flat fs)
theorem own_apart_blk {w:World} {B e s n g t:Nat} {v:Value} {xs cs:List Value} (h:w.ownsRow B e s v n xs) (hB:Blk w g t cs) (he:e≠t):v.ownBlock=none∨v.ownBlock≠some g:=.inr (own_ne_blk h hB he)
theorem owns_low {B e s n:Nat} {v:Value} {xs:List Value} {w w':World} (h:w.ownsRow B e s v n xs) (hb:Below w.heap.size w w'):w'.ownsRow B e s v n xs:=by
 refine h.kept (w':=w') (row:=none) ⟨hb.os,hb.tape,hb.output,hb.size,fun k hk _=>hb.block k hk⟩ ?_
 cases v.ownBlock with
 | none=>exact .inl rfl
 | some x=>exact .inr (by simp)
theorem goM_nat (rows:List (List I3)) (m:V4) (k:Nat):goM rows m (k:Int)=stepM m (insM rows m k) k:=by unfold goM;rw [Int.toNat_natCast]
theorem step_code (m:V4) (x:I3) (k:Nat):(stepM m x k).2=0∨(stepM m x k).2=12∨(stepM m x k).2=13:=by
 unfold stepM
 repeat' split
 all_goals simp
theorem instrs_own {w:World} {B g n c:Nat} {xs:List I3} (h:w.ownsRow B 40 3 (.slice (some ⟨g,0,none⟩) n c) n (flat xs)) (hl:xs.length=n) (hf:∀ x ∈ xs,I3.fits x):Instrs w (some ⟨g,0,none⟩) n c xs:=Instrs.of_owns h hl hf rfl

theorem l04Found_is {w:World} {a9:Option Addr} {cap:Nat} {cs:Sl × Sl × Sl} {rows:List (List I3)} {s:S4} {m:V4} (hR:RowsAt w a9 cs rows) (h:Vmem w s m) (hp:progOk rows=true) (hs:shapeOk m=true) {k:Nat} (hk:k<3) (hd:doneM rows m k=false) :
  Calls Tryd.prog 71 #[.agg #[.slice a9 3 cap],s.val,.int .i64 k] w fun e w'=>FoundGot e w' w.heap.size (goM rows m k).1 (foundM rows m k)∧Below w.heap.size w w':=by
 obtain ⟨i0,hi,hz0,hz1,hz2⟩:=info_parts info_bug
 have kP:=fun (W:World) (hR:RowsAt W a9 cs rows) (h:Vmem W s m)=>l03Step_is (cap:=cap) rfl hR h hp hs hk hd
 have hsz:=shape_step hp hs hk hd
 obtain ⟨fin,hfin⟩:∃ fin,fin=foundM rows m k:=⟨_,rfl⟩
 rw [← hfin,goM_nat]
 unfold foundM ownM at hfin
 rw [goM_nat,Int.toNat_natCast] at hfin
 have hf9:=step_code m (insM rows m k) k
 generalize stepM m (insM rows m k) k=zf at *
 obtain ⟨z,f⟩:=zf
 simp only at kP hsz hfin hf9 ⊢
 have fz:=(shape_fits9 hsz).1
 have kU:=fun (W:World) (hR:RowsAt W a9 cs rows) (t:S4) (h:Vmem W t z)=>l03Stuck_is a9 3 cap rows t z cs W rfl hR h hp hsz
 obtain ⟨own,hown⟩:∃ own:List I3,own=if f=0 then [] else [(f,(k:Int),m.1.getD k 0)]:=⟨_,rfl⟩
 rw [← hown] at hfin
 have HFin:Hid (fin=if stuckM rows z then putB own (14,0,0) else own):=hfin
 have HOwn:Hid (own=if f=0 then [] else [(f,(k:Int),m.1.getD k 0)]):=hown
 clear hfin hown
 obtain ⟨b,off,rfl,hbl,hrow⟩:=id hR
 clear hbl hrow
 have hM:=h
 obtain ⟨⟨j0,_⟩,_⟩:=h
 obtain ⟨l0,_⟩:=shape_parts hs
 have hpc9:=getD_in (shape_bounds hs).1 (by decide) k
 obtain ⟨⟨a0,n0,c0⟩,⟨a1,n1,c1⟩,⟨a2,n2,c2⟩,⟨a3,n3,c3⟩⟩:=s
 simp only at j0
 obtain ⟨rfl,b0,o0,rfl⟩:=some_of_ints j0 l0 (by decide)
 have r1:=ints_at9 j0 (t:=k) hk
 have uA:S4.val ((some ⟨b0,o0,none⟩,3,c0),(a1,n1,c1),(a2,n2,c2),(a3,n3,c3))=.agg #[.slice (some ⟨b0,o0,none⟩) 3 c0,.slice a1 n1 c1,.slice a2 n2 c2,.slice a3 n3 c3]:=rfl
 rw [uA] at kP ⊢
 clear uA j0 l0 hp hs hd
 generalize m.1.getD k 0=pc at *
 have hk3:(k:Int)<3:=by omega
 have bw:Below w.heap.size w (((w.alloc (.cells #[.slice (some ⟨b,off,none⟩) 3 cap] 25)).alloc (.cells #[.slice (some ⟨b0,o0,none⟩) 3 c0,.slice a1 n1 c1,.slice a2 n2 c2,.slice a3 n3 c3] 30)).alloc (.cells #[.slice none 0 0,.slice none 0 0,.slice none 0 0,.slice none 0 0] 30)):=by go_grown
 have pP:Blk (((w.alloc (.cells #[.slice (some ⟨b,off,none⟩) 3 cap] 25)).alloc (.cells #[.slice (some ⟨b0,o0,none⟩) 3 c0,.slice a1 n1 c1,.slice a2 n2 c2,.slice a3 n3 c3] 30)).alloc (.cells #[.slice none 0 0,.slice none 0 0,.slice none 0 0,.slice none 0 0] 30)) w.heap.size 25 [.slice (some ⟨b,off,none⟩) 3 cap]:=blkOld _ (blkOld _ (blkAt _ _ _ rfl))
 have pS:Blk (((w.alloc (.cells #[.slice (some ⟨b,off,none⟩) 3 cap] 25)).alloc (.cells #[.slice (some ⟨b0,o0,none⟩) 3 c0,.slice a1 n1 c1,.slice a2 n2 c2,.slice a3 n3 c3] 30)).alloc (.cells #[.slice none 0 0,.slice none 0 0,.slice none 0 0,.slice none 0 0] 30)) (w.heap.size+1) 30 [.slice (some ⟨b0,o0,none⟩) 3 c0,.slice a1 n1 c1,.slice a2 n2 c2,.slice a3 n3 c3]:=blkOld _ (blkAt _ _ _ (by simp))
 have pR:Blk (((w.alloc (.cells #[.slice (some ⟨b,off,none⟩) 3 cap] 25)).alloc (.cells #[.slice (some ⟨b0,o0,none⟩) 3 c0,.slice a1 n1 c1,.slice a2 n2 c2,.slice a3 n3 c3] 30)).alloc (.cells #[.slice none 0 0,.slice none 0 0,.slice none 0 0,.slice none 0 0] 30)) (w.heap.size+2) 30 [.slice none 0 0,.slice none 0 0,.slice none 0 0,.slice none 0 0]:=blkAt _ _ _ (by simp)
 have hW1:w.heap.size+3≤(((w.alloc (.cells #[.slice (some ⟨b,off,none⟩) 3 cap] 25)).alloc (.cells #[.slice (some ⟨b0,o0,none⟩) 3 c0,.slice a1 n1 c1,.slice a2 n2 c2,.slice a3 n3 c3] 30)).alloc (.cells #[.slice none 0 0,.slice none 0 0,.slice none 0 0,.slice none 0 0] 30)).heap.size:=by simp
 go_enter Tryd.func71,Tryd.ntmps71
 go_wp2_with fail
 generalize (((w.alloc (.cells #[.slice (some ⟨b,off,none⟩) 3 cap] 25)).alloc (.cells #[.slice (some ⟨b0,o0,none⟩) 3 c0,.slice a1 n1 c1,.slice a2 n2 c2,.slice a3 n3 c3] 30)).alloc (.cells #[.slice none 0 0,.slice none 0 0,.slice none 0 0,.slice none 0 0] 30))=W1 at *
 have kPx:=kP W1 (hR.below bw) (hM.below bw)
 go_wp2_with (first | refine wpList_load_blk rfl 25 _ rfl w.heap.size rfl pP _ Tryd.underlying25 rfl (by kernel_rfl) ?_ | refine wpList_load_blk rfl 30 _ rfl (w.heap.size+1) rfl pS _ Tryd.underlying30 rfl (by kernel_rfl) ?_)
 refine kPx.mono ?_
 rintro e w2 ⟨⟨⟨⟨t0a,t0n,t0c⟩,⟨t1a,t1n,t1c⟩,⟨t2a,t2n,t2c⟩,⟨t3a,t3n,t3c⟩⟩,rfl,hO⟩,hb⟩
 replace hO:=hO.lowerB (B':=w.heap.size+3) hW1
 replace bw:=bel_trans bw hb
 replace pP:=pP.below hb
 replace pS:=pS.below hb
 replace pR:=pR.below hb
 have hsz2:w.heap.size+3≤w2.heap.size:=Nat.le_trans hW1 hb.size
 clear hb kPx kP hW1
 have ha:Below w2.heap.size w2 ((w2.alloc (.cells #[.slice t0a t0n t0c,.slice t1a t1n t1c,.slice t2a t2n t2c,.slice t3a t3n t3c] 30)).alloc (.cells #[] 40)):=by go_grown
 have pX:Blk ((w2.alloc (.cells #[.slice t0a t0n t0c,.slice t1a t1n t1c,.slice t2a t2n t2c,.slice t3a t3n t3c] 30)).alloc (.cells #[] 40)) w2.heap.size 30 [.slice t0a t0n t0c,.slice t1a t1n t1c,.slice t2a t2n t2c,.slice t3a t3n t3c]:=blkOld _ (blkAt _ _ _ rfl)
 have oO:((w2.alloc (.cells #[.slice t0a t0n t0c,.slice t1a t1n t1c,.slice t2a t2n t2c,.slice t3a t3n t3c] 30)).alloc (.cells #[] 40)).ownsRow w.heap.size 40 3 (.slice (some ⟨w2.heap.size+1,0,none⟩) 0 0) 0 []:=by
  have h9:=own_emptyB (w2.alloc (.cells #[.slice t0a t0n t0c,.slice t1a t1n t1c,.slice t2a t2n t2c,.slice t3a t3n t3c] 30)) 40 3 w.heap.size (by simp;omega)
  simpa using h9
 replace bw:=bel_trans bw ha
 replace hO:=hO.below ha
 replace pP:=pP.below ha
 replace pS:=pS.below ha
 replace pR:=pR.below ha
 replace r1:=cells_kept bw _ _ r1
 have uX:S4.val ((t0a,t0n,t0c),(t1a,t1n,t1c),(t2a,t2n,t2c),(t3a,t3n,t3c))=.agg #[.slice t0a t0n t0c,.slice t1a t1n t1c,.slice t2a t2n t2c,.slice t3a t3n t3c]:=rfl
 rw [uX]
 clear ha hsz
 by_cases hf:f=0
 ·subst hf
  have HO2:Hid (own=[]):=by rw [Hid,HOwn.out];rfl
  have hfit:∀ x ∈ ([]:List I3),I3.fits x:=by simp
  have kUx:=kU _ (hR.below bw) _ (hO.mem fz)
  rw [uX] at kUx
  clear HOwn hf9 pS r1 hM hR kU uX
  cases hst:stuckM rows z
  ·rw [hst] at kUx
   have HF:Hid (fin=[]):=by rw [Hid,HFin.out,hst,HO2.out];rfl
   clear hst HFin HO2
   go_wp2_with (first | refine wpList_load_blk rfl 25 _ rfl w.heap.size rfl pP _ Tryd.underlying25 rfl (by kernel_rfl) ?_ | refine wpList_load_blk rfl 30 _ rfl w2.heap.size rfl pX _ Tryd.underlying30 rfl (by kernel_rfl) ?_)
   refine kUx.mono ?_
   rintro e u1 ⟨rfl,hb⟩
   replace bw:=bel_trans bw hb
   replace hO:=hO.below hb
   replace oO:=owns_low oO hb
   replace pP:=pP.below hb
   replace pR:=pR.below hb
   replace pX:=pX.below hb
   clear hb
   clear kUx
   have q3:u1.ownsRow w.heap.size 40 3 (.slice (some ⟨(w2.heap.size+1),0,none⟩) 0 0) fin.length (flat fin):=by rw [HF.out];exact oO
   clear oO HF
   go_wp2_with (first | refine wpList_load_blk rfl 30 _ rfl w2.heap.size rfl pX _ Tryd.underlying30 rfl (by kernel_rfl) ?_ | refine wpList_store_blk rfl 30 _ _ rfl (w.heap.size+2) [.slice t0a t0n t0c,.slice t1a t1n t1c,.slice t2a t2n t2c,.slice t3a t3n t3c] rfl rfl pR (by kernel_rfl) rfl rfl ?_)
   intro u2 pR2 g2
   have q2:=q3.kept g2 (own_apart_blk q3 pR (by decide))
   clear q3
   have hO2:=(hO.kept9 g2 pR (by decide)).lowerB (B':=w.heap.size) (by omega)
   have bw2:=bw.grown g2 bw.size (fun k e=>by cases e;omega)
   clear g2 hO bw
   go_wp2_with fail
   refine bodyPost_ret (results_blk2 Tryd.results71 _ _ _ _ _ _ rfl pR2.out Tryd.underlying30 rfl (by kernel_rfl)) rfl ?_
   exact ⟨⟨((t0a,t0n,t0c),(t1a,t1n,t1c),(t2a,t2n,t2c),(t3a,t3n,t3c)),_,rfl,hO2,q2⟩,bw2⟩
  ·rw [hst] at kUx
   have HF:Hid (fin=putB [] (14,0,0)):=by rw [Hid,HFin.out,hst,HO2.out];rfl
   clear hst HFin HO2
   go_wp2_with (first | refine wpList_load_blk rfl 25 _ rfl w.heap.size rfl pP _ Tryd.underlying25 rfl (by kernel_rfl) ?_ | refine wpList_load_blk rfl 30 _ rfl w2.heap.size rfl pX _ Tryd.underlying30 rfl (by kernel_rfl) ?_)
   refine kUx.mono ?_
   rintro e u1 ⟨rfl,hb⟩
   replace bw:=bel_trans bw hb
   replace hO:=hO.below hb
   replace oO:=owns_low oO hb
   replace pP:=pP.below hb
   replace pR:=pR.below hb
   replace pX:=pX.below hb
   clear hb
   clear kUx
   have kPut:=l04Put_is (w2.heap.size+1) 0 0 0 [] (14,0,0) u1 (instrs_own oO rfl hfit) (by decide)
   unfold I3.val at kPut
   simp only at kPut
   go_wp2_with fail
   refine kPut.mono ?_
   rintro e u3 ⟨⟨v3,rfl,q3⟩,hb⟩
   replace q3:=own_lowerB (B':=w.heap.size) q3 bw.size
   rw [← HF.out] at q3
   replace bw:=bel_trans bw hb
   replace hO:=hO.below hb
   replace pP:=pP.below hb
   replace pR:=pR.below hb
   replace pX:=pX.below hb
   clear hb
   clear kPut oO HF
   go_wp2_with (first | refine wpList_load_blk rfl 30 _ rfl w2.heap.size rfl pX _ Tryd.underlying30 rfl (by kernel_rfl) ?_ | refine wpList_store_blk rfl 30 _ _ rfl (w.heap.size+2) [.slice t0a t0n t0c,.slice t1a t1n t1c,.slice t2a t2n t2c,.slice t3a t3n t3c] rfl rfl pR (by kernel_rfl) rfl rfl ?_)
   intro u2 pR2 g2
   have q2:=q3.kept g2 (own_apart_blk q3 pR (by decide))
   clear q3
   have hO2:=(hO.kept9 g2 pR (by decide)).lowerB (B':=w.heap.size) (by omega)
   have bw2:=bw.grown g2 bw.size (fun k e=>by cases e;omega)
   clear g2 hO bw
   go_wp2_with fail
   refine bodyPost_ret (results_blk2 Tryd.results71 _ _ _ _ _ _ rfl pR2.out Tryd.underlying30 rfl (by kernel_rfl)) rfl ?_
   exact ⟨⟨((t0a,t0n,t0c),(t1a,t1n,t1c),(t2a,t2n,t2c),(t3a,t3n,t3c)),_,rfl,hO2,q2⟩,bw2⟩
 ·have hfn:(f != 0)=true:=by simp [hf]
  have HO2:Hid (own=[(f,(k:Int),pc)]):=by rw [Hid,HOwn.out,if_neg hf]
  have hfit:∀ x ∈ [(f,(k:Int),pc)],I3.fits x:=fun x hx=>by
   simp only [List.mem_singleton] at hx
   subst hx
   simp only [I3.fits]
   exact ⟨fits_small (by omega) (by omega),fits_small (by omega) (by omega),fits_small (by omega) (by omega)⟩
  have cS0:((w2.alloc (.cells #[.slice t0a t0n t0c,.slice t1a t1n t1c,.slice t2a t2n t2c,.slice t3a t3n t3c] 30)).alloc (.cells #[] 40)).cell? ⟨w.heap.size+1,0,none⟩=some (.slice (some ⟨b0,o0,none⟩) 3 c0):=by simpa using pS.cell 0
  clear HOwn hf9 hM hf pS
  go_wp2_with (at_builtin;refine wpList_append_own _ rfl _ _ 31 rfl w.heap.size 40 i0 (.agg #[.int .i64 0,.int .i64 0,.int .i64 0]) 3 24 Tryd.underlying31 hi hz0 hz1 hz2 rfl (by decide) _ _ _ rfl (oO.alloc _) ⟨w2.heap.size+1+1,0,none⟩ 1 1 [.int .i64 f,.int .i64 (k:Int),.int .i64 pc] rfl rfl ?c1 (three_one _ _ _) ?c3 ?c4 ?c5 ?_)
  case c1=>simpa using cell_three_new ((w2.alloc (.cells #[.slice t0a t0n t0c,.slice t1a t1n t1c,.slice t2a t2n t2c,.slice t3a t3n t3c] 30)).alloc (.cells #[] 40)) (.int .i64 f) (.int .i64 (k:Int)) (.int .i64 pc) 40
  case c3=>unfold maxLen;omega
  case c4=>omega
  case c5=>simp;omega
  intro v9 U q9 g9 _
  have ha:Below ((w2.alloc (.cells #[.slice t0a t0n t0c,.slice t1a t1n t1c,.slice t2a t2n t2c,.slice t3a t3n t3c] 30)).alloc (.cells #[] 40)).heap.size ((w2.alloc (.cells #[.slice t0a t0n t0c,.slice t1a t1n t1c,.slice t2a t2n t2c,.slice t3a t3n t3c] 30)).alloc (.cells #[] 40)) (((w2.alloc (.cells #[.slice t0a t0n t0c,.slice t1a t1n t1c,.slice t2a t2n t2c,.slice t3a t3n t3c] 30)).alloc (.cells #[] 40)).alloc (.cells #[.int .i64 f,.int .i64 (k:Int),.int .i64 pc] 40)):=by go_grown
  have pE:Blk (((w2.alloc (.cells #[.slice t0a t0n t0c,.slice t1a t1n t1c,.slice t2a t2n t2c,.slice t3a t3n t3c] 30)).alloc (.cells #[] 40)).alloc (.cells #[.int .i64 f,.int .i64 (k:Int),.int .i64 pc] 40)) (w2.heap.size+1) 40 []:=blkOld _ (blkAt _ _ _ (by simp))
  have n0:(some (w2.heap.size+1):Option Nat)≠some w.heap.size:=by simp;omega
  have n1:(some (w2.heap.size+1):Option Nat)≠some (w.heap.size+2):=by simp;omega
  have n2:(some (w2.heap.size+1):Option Nat)≠some w2.heap.size:=by simp
  replace g9:(((w2.alloc (.cells #[.slice t0a t0n t0c,.slice t1a t1n t1c,.slice t2a t2n t2c,.slice t3a t3n t3c] 30)).alloc (.cells #[] 40)).alloc (.cells #[.int .i64 f,.int .i64 (k:Int),.int .i64 pc] 40)).grownBy U (some (w2.heap.size+1)):=g9
  replace pP:=(pP.below ha).kept g9 n0
  replace pR:=(pR.below ha).kept g9 n1
  replace pX:=(pX.below ha).kept g9 n2
  replace hO:=(hO.below ha).kept9 g9 pE (by decide)
  replace bw:=(bel_trans bw ha).grown g9 (bel_trans bw ha).size (fun j hj=>by cases hj;omega)
  obtain ⟨og,oc,rfl⟩:=own_someB q9 (by omega)
  have oO2:U.ownsRow w.heap.size 40 3 (.slice (some ⟨og,0,none⟩) 1 oc) 1 (flat [(f,(k:Int),pc)]):=q9
  clear oO q9 g9 ha pE n0 n1 n2 r1 cS0
  have oO:=oO2
  clear oO2
  have kUx:=kU _ (hR.below bw) _ (hO.mem fz)
  rw [uX] at kUx
  clear hR kU uX
  cases hst:stuckM rows z
  ·rw [hst] at kUx
   have HF:Hid (fin=[(f,(k:Int),pc)]):=by rw [Hid,HFin.out,hst,HO2.out];rfl
   clear hst HFin HO2
   go_wp2_with (first | refine wpList_load_blk rfl 25 _ rfl w.heap.size rfl pP _ Tryd.underlying25 rfl (by kernel_rfl) ?_ | refine wpList_load_blk rfl 30 _ rfl w2.heap.size rfl pX _ Tryd.underlying30 rfl (by kernel_rfl) ?_)
   refine kUx.mono ?_
   rintro e u1 ⟨rfl,hb⟩
   replace bw:=bel_trans bw hb
   replace hO:=hO.below hb
   replace oO:=owns_low oO hb
   replace pP:=pP.below hb
   replace pR:=pR.below hb
   replace pX:=pX.below hb
   clear hb
   clear kUx
   have q3:u1.ownsRow w.heap.size 40 3 (.slice (some ⟨og,0,none⟩) 1 oc) fin.length (flat fin):=by rw [HF.out];exact oO
   clear oO HF
   go_wp2_with (first | refine wpList_load_blk rfl 30 _ rfl w2.heap.size rfl pX _ Tryd.underlying30 rfl (by kernel_rfl) ?_ | refine wpList_store_blk rfl 30 _ _ rfl (w.heap.size+2) [.slice t0a t0n t0c,.slice t1a t1n t1c,.slice t2a t2n t2c,.slice t3a t3n t3c] rfl rfl pR (by kernel_rfl) rfl rfl ?_)
   intro u2 pR2 g2
   have q2:=q3.kept g2 (own_apart_blk q3 pR (by decide))
   clear q3
   have hO2:=(hO.kept9 g2 pR (by decide)).lowerB (B':=w.heap.size) (by omega)
   have bw2:=bw.grown g2 bw.size (fun k e=>by cases e;omega)
   clear g2 hO bw
   go_wp2_with fail
   refine bodyPost_ret (results_blk2 Tryd.results71 _ _ _ _ _ _ rfl pR2.out Tryd.underlying30 rfl (by kernel_rfl)) rfl ?_
   exact ⟨⟨((t0a,t0n,t0c),(t1a,t1n,t1c),(t2a,t2n,t2c),(t3a,t3n,t3c)),_,rfl,hO2,q2⟩,bw2⟩
  ·rw [hst] at kUx
   have HF:Hid (fin=putB [(f,(k:Int),pc)] (14,0,0)):=by rw [Hid,HFin.out,hst,HO2.out];rfl
   clear hst HFin HO2
   go_wp2_with (first | refine wpList_load_blk rfl 25 _ rfl w.heap.size rfl pP _ Tryd.underlying25 rfl (by kernel_rfl) ?_ | refine wpList_load_blk rfl 30 _ rfl w2.heap.size rfl pX _ Tryd.underlying30 rfl (by kernel_rfl) ?_)
   refine kUx.mono ?_
   rintro e u1 ⟨rfl,hb⟩
   replace bw:=bel_trans bw hb
   replace hO:=hO.below hb
   replace oO:=owns_low oO hb
   replace pP:=pP.below hb
   replace pR:=pR.below hb
   replace pX:=pX.below hb
   clear hb
   clear kUx
   have kPut:=l04Put_is og 0 1 oc [(f,(k:Int),pc)] (14,0,0) u1 (instrs_own oO rfl hfit) (by decide)
   unfold I3.val at kPut
   simp only at kPut
   go_wp2_with fail
   refine kPut.mono ?_
   rintro e u3 ⟨⟨v3,rfl,q3⟩,hb⟩
   replace q3:=own_lowerB (B':=w.heap.size) q3 bw.size
   rw [← HF.out] at q3
   replace bw:=bel_trans bw hb
   replace hO:=hO.below hb
   replace pP:=pP.below hb
   replace pR:=pR.below hb
   replace pX:=pX.below hb
   clear hb
   clear kPut oO HF
   go_wp2_with (first | refine wpList_load_blk rfl 30 _ rfl w2.heap.size rfl pX _ Tryd.underlying30 rfl (by kernel_rfl) ?_ | refine wpList_store_blk rfl 30 _ _ rfl (w.heap.size+2) [.slice t0a t0n t0c,.slice t1a t1n t1c,.slice t2a t2n t2c,.slice t3a t3n t3c] rfl rfl pR (by kernel_rfl) rfl rfl ?_)
   intro u2 pR2 g2
   have q2:=q3.kept g2 (own_apart_blk q3 pR (by decide))
   clear q3
   have hO2:=(hO.kept9 g2 pR (by decide)).lowerB (B':=w.heap.size) (by omega)
   have bw2:=bw.grown g2 bw.size (fun k e=>by cases e;omega)
   clear g2 hO bw
   go_wp2_with fail
   refine bodyPost_ret (results_blk2 Tryd.results71 _ _ _ _ _ _ rfl pR2.out Tryd.underlying30 rfl (by kernel_rfl)) rfl ?_
   exact ⟨⟨((t0a,t0n,t0c),(t1a,t1n,t1c),(t2a,t2n,t2c),(t3a,t3n,t3c)),_,rfl,hO2,q2⟩,bw2⟩
end Go.Proofs.YtjgffnlmjmibgaaDoor
