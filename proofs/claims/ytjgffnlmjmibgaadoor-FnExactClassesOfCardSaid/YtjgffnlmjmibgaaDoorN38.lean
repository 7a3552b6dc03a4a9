/-
  Joined: FndS, RunS, EvE, NorI.
-/
import Derived.Test.YtjgffnlmjmibgaaDoorN17
import Derived.Test.YtjgffnlmjmibgaaDoorN32
import Derived.Test.YtjgffnlmjmibgaaDoorN37

namespace Go.Proofs.YtjgffnlmjmibgaaDoor
set_option maxRecDepth 100000
set_option maxHeartbeats 16000000
open Go.RowKit
set_option linter.unusedVariables false
set_option linter.unusedSimpArgs false

def FoundGot (e:Ending) (w:World) (B:Nat) (z:V4) (fs:List I3):Prop:=∃ (t:S4) (v:Value),e=.returned (.tuple #[t.val,v])∧OwnV w B t z∧w.ownsRow B 40 3 v fs.length (flat fs)
theorem own_apart_blk {w:World} {B e s n g t:Nat} {v:Value} {xs cs:List Value} (h:w.ownsRow B e s v n xs) (hB:Blk w g t cs) (he:e≠t):v.ownBlock=none∨v.ownBlock≠some g:=.inr (own_ne_blk h hB he)
theorem owns_low {B e s n:Nat} {v:Value} {xs:List Value} {w w':World} (h:w.ownsRow B e s v n xs) (hb:Below w.heap.size w w'):w'.ownsRow B e s v n xs:=by
 refine h.kept (w':=w') (row:=none) ⟨hb.os,hb.tape,hb.output,hb.size,fun k hk _=>hb.block k hk⟩ ?_
 cases v.ownBlock with
 | none=>exact .inl rfl
 | some x=>exact .inr (by simp)
theorem goM_nat (rows:List (List I3)) (m:V4) (k:Nat):goM rows m (k:Int)=stepM m (insM rows m k) k:=by unfold goM;rw [Int.toNat_natCast]
theorem step_code (m:V4) (x:I3) (k:Nat):(stepM m x k).2=0∨(stepM m x k).2=12∨(stepM m x k).2=13:=by
 unfold stepM
 repeat' split
 all_goals simp
theorem instrs_own {w:World} {B g n c:Nat} {xs:List I3} (h:w.ownsRow B 40 3 (.slice (some ⟨g,0,none⟩) n c) n (flat xs)) (hl:xs.length=n) (hf:∀ x ∈ xs,I3.fits x):Instrs w (some ⟨g,0,none⟩) n c xs:=Instrs.of_owns h hl hf rfl

theorem l04Found_is {w:World} {a9:Option Addr} {cap:Nat} {cs:Sl × Sl × Sl} {rows:List (List I3)} {s:S4} {m:V4} (hR:RowsAt w a9 cs rows) (h:Vmem w s m) (hp:progOk rows=true) (hs:shapeOk m=true) {k:Nat} (hk:k<3) (hd:doneM rows m k=false) :
  Calls Tryd.prog 71 #[.agg #[.slice a9 3 cap],s.val,.int .i64 k] w fun e w'=>FoundGot e w' w.heap.size (goM rows m k).1 (foundM rows m k)∧Below w.heap.size w w':=by
 obtain ⟨i0,hi,hz0,hz1,hz2⟩:=info_parts info_bug
 have kP:=fun (W:World) (hR:RowsAt W a9 cs rows) (h:Vmem W s m)=>l03Step_is (cap:=cap) rfl hR h hp hs hk hd
 have hsz:=shape_step hp hs hk hd
 obtain ⟨fin,hfin⟩:∃ fin,fin=foundM rows m k:=⟨_,rfl⟩
 rw [← hfin,goM_nat]
 unfold foundM ownM at hfin
 rw [goM_nat,Int.toNat_natCast] at hfin
 have hf9:=step_code m (insM rows m k) k
 generalize stepM m (insM rows m k) k=zf at *
 obtain ⟨z,f⟩:=zf
 simp only at kP hsz hfin hf9 ⊢
 have fz:=(shape_fits9 hsz).1
 have kU:=fun (W:World) (hR:RowsAt W a9 cs rows) (t:S4) (h:Vmem W t z)=>l03Stuck_is a9 3 cap rows t z cs W rfl hR h hp hsz
 obtain ⟨own,hown⟩:∃ own:List I3,own=if f=0 then [] else [(f,(k:Int),m.1.getD k 0)]:=⟨_,rfl⟩
 rw [← hown] at hfin
 have HFin:Hid (fin=if stuckM rows z then putB own (14,0,0) else own):=hfin
 have HOwn:Hid (own=if f=0 then [] else [(f,(k:Int),m.1.getD k 0)]):=hown
 clear hfin hown
 obtain ⟨b,off,rfl,hbl,hrow⟩:=id hR
 clear hbl hrow
 have hM:=h
 obtain ⟨⟨j0,_⟩,_⟩:=h
 obtain ⟨l0,_⟩:=shape_parts hs
 have hpc9:=getD_in (shape_bounds hs).1 (by decide) k
 obtain ⟨⟨a0,n0,c0⟩,⟨a1,n1,c1⟩,⟨a2,n2,c2⟩,⟨a3,n3,c3⟩⟩:=s
 simp only at j0
 obtain ⟨rfl,b0,o0,rfl⟩:=some_of_ints j0 l0 (by decide)
 have r1:=ints_at9 j0 (t:=k) hk
 have uA:S4.val ((some ⟨b0,o0,none⟩,3,c0),(a1,n1,c1),(a2,n2,c2),(a3,n3,c3))=.agg #[.slice (some ⟨b0,o0,none⟩) 3 c0,.slice a1 n1 c1,.slice a2 n2 c2,.slice a3 n3 c3]:=rfl
 rw [uA] at kP ⊢
 clear uA j0 l0 hp hs hd
 generalize m.1.getD k 0=pc at *
 have hk3:(k:Int)<3:=by omega
 have bw:Below w.heap.size w (((w.alloc (.cells #[.slice (some ⟨b,off,none⟩) 3 cap] 25)).alloc (.cells #[.slice (some ⟨b0,o0,none⟩) 3 c0,.slice a1 n1 c1,.slice a2 n2 c2,.slice a3 n3 c3] 30)).alloc (.cells #[.slice none 0 0,.slice none 0 0,.slice none 0 0,.slice none 0 0] 30)):=by go_grown
 have pP:Blk (((w.alloc (.cells #[.slice (some ⟨b,off,none⟩) 3 cap] 25)).alloc (.cells #[.slice (some ⟨b0,o0,none⟩) 3 c0,.slice a1 n1 c1,.slice a2 n2 c2,.slice a3 n3 c3] 30)).alloc (.cells #[.slice none 0 0,.slice none 0 0,.slice none 0 0,.slice none 0 0] 30)) w.heap.size 25 [.slice (some ⟨b,off,none⟩) 3 cap]:=blkOld _ (blkOld _ (blkAt _ _ _ rfl))
 have pS:Blk (((w.alloc (.cells #[.slice (some ⟨b,off,none⟩) 3 cap] 25)).alloc (.cells #[.slice (some ⟨b0,o0,none⟩) 3 c0,.slice a1 n1 c1,.slice a2 n2 c2,.slice a3 n3 c3] 30)).alloc (.cells #[.slice none 0 0,.slice none 0 0,.slice none 0 0,.slice none 0 0] 30)) (w.heap.size+1) 30 [.slice (some ⟨b0,o0,none⟩) 3 c0,.slice a1 n1 c1,.slice a2 n2 c2,.slice a3 n3 c3]:=blkOld _ (blkAt _ _ _ (by simp))
 have pR:Blk (((w.alloc (.cells #[.slice (some ⟨b,off,none⟩) 3 cap] 25)).alloc (.cells #[.slice (some ⟨b0,o0,none⟩) 3 c0,.slice a1 n1 c1,.slice a2 n2 c2,.slice a3 n3 c3] 30)).alloc (.cells #[.slice none 0 0,.slice none 0 0,.slice none 0 0,.slice none 0 0] 30)) (w.heap.size+2) 30 [.slice none 0 0,.slice none 0 0,.slice none 0 0,.slice none 0 0]:=blkAt _ _ _ (by simp)
 have hW1:w.heap.size+3≤(((w.alloc (.cells #[.slice (some ⟨b,off,none⟩) 3 cap] 25)).alloc (.cells #[.slice (some ⟨b0,o0,none⟩) 3 c0,.slice a1 n1 c1,.slice a2 n2 c2,.slice a3 n3 c3] 30)).alloc (.cells #[.slice none 0 0,.slice none 0 0,.slice none 0 0,.slice none 0 0] 30)).heap.size:=by simp
 go_enter Tryd.func71,Tryd.ntmps71
 go_wp2_with fail
 generalize (((w.alloc (.cells #[.slice (some ⟨b,off,none⟩) 3 cap] 25)).alloc (.cells #[.slice (some ⟨b0,o0,none⟩) 3 c0,.slice a1 n1 c1,.slice a2 n2 c2,.slice a3 n3 c3] 30)).alloc (.cells #[.slice none 0 0,.slice none 0 0,.slice none 0 0,.slice none 0 0] 30))=W1 at *
 have kPx:=kP W1 (hR.below bw) (hM.below bw)
 go_wp2_with (first | refine wpList_load_blk rfl 25 _ rfl w.heap.size rfl pP _ Tryd.underlying25 rfl (by kernel_rfl) ?_ | refine wpList_load_blk rfl 30 _ rfl (w.heap.size+1) rfl pS _ Tryd.underlying30 rfl (by kernel_rfl) ?_)
 refine kPx.mono ?_
 rintro e w2 ⟨⟨⟨⟨t0a,t0n,t0c⟩,⟨t1a,t1n,t1c⟩,⟨t2a,t2n,t2c⟩,⟨t3a,t3n,t3c⟩⟩,rfl,hO⟩,hb⟩
 replace hO:=hO.lowerB (B':=w.heap.size+3) hW1
 replace bw:=bel_trans bw hb
 replace pP:=pP.below hb
 replace pS:=pS.below hb
 replace pR:=pR.below hb
 have hsz2:w.heap.size+3≤w2.heap.size:=Nat.le_trans hW1 hb.size
 clear hb kPx kP hW1
 have ha:Below w2.heap.size w2 ((w2.alloc (.cells #[.slice t0a t0n t0c,.slice t1a t1n t1c,.slice t2a t2n t2c,.slice t3a t3n t3c] 30)).alloc (.cells #[] 40)):=by go_grown
 have pX:Blk ((w2.alloc (.cells #[.slice t0a t0n t0c,.slice t1a t1n t1c,.slice t2a t2n t2c,.slice t3a t3n t3c] 30)).alloc (.cells #[] 40)) w2.heap.size 30 [.slice t0a t0n t0c,.slice t1a t1n t1c,.slice t2a t2n t2c,.slice t3a t3n t3c]:=blkOld _ (blkAt _ _ _ rfl)
 have oO:((w2.alloc (.cells #[.slice t0a t0n t0c,.slice t1a t1n t1c,.slice t2a t2n t2c,.slice t3a t3n t3c] 30)).alloc (.cells #[] 40)).ownsRow w.heap.size 40 3 (.slice (some ⟨w2.heap.size+1,0,none⟩) 0 0) 0 []:=by
  have h9:=own_emptyB (w2.alloc (.cells #[.slice t0a t0n t0c,.slice t1a t1n t1c,.slice t2a t2n t2c,.slice t3a t3n t3c] 30)) 40 3 w.heap.size (by simp;omega)
  simpa using h9
 replace bw:=bel_trans bw ha
 replace hO:=hO.below ha
 replace pP:=pP.below ha
 replace pS:=pS.below ha
 replace pR:=pR.below ha
 replace r1:=cells_kept bw _ _ r1
 have uX:S4.val ((t0a,t0n,t0c),(t1a,t1n,t1c),(t2a,t2n,t2c),(t3a,t3n,t3c))=.agg #[.slice t0a t0n t0c,.slice t1a t1n t1c,.slice t2a t2n t2c,.slice t3a t3n t3c]:=rfl
 rw [uX]
 clear ha hsz
 by_cases hf:f=0
 ·subst hf
  have HO2:Hid (own=[]):=by rw [Hid,HOwn.out];rfl
  have hfit:∀ x ∈ ([]:List I3),I3.fits x:=by simp
  have kUx:=kU _ (hR.below bw) _ (hO.mem fz)
  rw [uX] at kUx
  clear HOwn hf9 pS r1 hM hR kU uX
  cases hst:stuckM rows z
  ·rw [hst] at kUx
   have HF:Hid (fin=[]):=by rw [Hid,HFin.out,hst,HO2.out];rfl
   clear hst HFin HO2
   go_wp2_with (first | refine wpList_load_blk rfl 25 _ rfl w.heap.size rfl pP _ Tryd.underlying25 rfl (by kernel_rfl) ?_ | refine wpList_load_blk rfl 30 _ rfl w2.heap.size rfl pX _ Tryd.underlying30 rfl (by kernel_rfl) ?_)
   refine kUx.mono ?_
   rintro e u1 ⟨rfl,hb⟩
   replace bw:=bel_trans bw hb
   replace hO:=hO.below hb
   replace oO:=owns_low oO hb
   replace pP:=pP.below hb
   replace pR:=pR.below hb
   replace pX:=pX.below hb
   clear hb
   clear kUx
   have q3:u1.ownsRow w.heap.size 40 3 (.slice (some ⟨(w2.heap.size+1),0,none⟩) 0 0) fin.length (flat fin):=by rw [HF.out];exact oO
   clear oO HF
   go_wp2_with (first | refine wpList_load_blk rfl 30 _ rfl w2.heap.size rfl pX _ Tryd.underlying30 rfl (by kernel_rfl) ?_ | refine wpList_store_blk rfl 30 _ _ rfl (w.heap.size+2) [.slice t0a t0n t0c,.slice t1a t1n t1c,.slice t2a t2n t2c,.slice t3a t3n t3c] rfl rfl pR (by kernel_rfl) rfl rfl ?_)
   intro u2 pR2 g2
   have q2:=q3.kept g2 (own_apart_blk q3 pR (by decide))
   clear q3
   have hO2:=(hO.kept9 g2 pR (by decide)).lowerB (B':=w.heap.size) (by omega)
   have bw2:=bw.grown g2 bw.size (fun k e=>by cases e;omega)
   clear g2 hO bw
   go_wp2_with fail
   refine bodyPost_ret (results_blk2 Tryd.results71 _ _ _ _ _ _ rfl pR2.out Tryd.underlying30 rfl (by kernel_rfl)) rfl ?_
   exact ⟨⟨((t0a,t0n,t0c),(t1a,t1n,t1c),(t2a,t2n,t2c),(t3a,t3n,t3c)),_,rfl,hO2,q2⟩,bw2⟩
  ·rw [hst] at kUx
   have HF:Hid (fin=putB [] (14,0,0)):=by rw [Hid,HFin.out,hst,HO2.out];rfl
   clear hst HFin HO2
   go_wp2_with (first | refine wpList_load_blk rfl 25 _ rfl w.heap.size rfl pP _ Tryd.underlying25 rfl (by kernel_rfl) ?_ | refine wpList_load_blk rfl 30 _ rfl w2.heap.size rfl pX _ Tryd.underlying30 rfl (by kernel_rfl) ?_)
   refine kUx.mono ?_
   rintro e u1 ⟨rfl,hb⟩
   replace bw:=bel_trans bw hb
   replace hO:=hO.below hb
   replace oO:=owns_low oO hb
   replace pP:=pP.below hb
   replace pR:=pR.below hb
   replace pX:=pX.below hb
   clear hb
   clear kUx
   have kPut:=l04Put_is (w2.heap.size+1) 0 0 0 [] (14,0,0) u1 (instrs_own oO rfl hfit) (by decide)
   unfold I3.val at kPut
   simp only at kPut
   go_wp2_with fail
   refine kPut.mono ?_
   rintro e u3 ⟨⟨v3,rfl,q3⟩,hb⟩
   replace q3:=own_lowerB (B':=w.heap.size) q3 bw.size
   rw [← HF.out] at q3
   replace bw:=bel_trans bw hb
   replace hO:=hO.below hb
   replace pP:=pP.below hb
   replace pR:=pR.below hb
   replace pX:=pX.below hb
   clear hb
   clear kPut oO HF
   go_wp2_with (first | refine wpList_load_blk rfl 30 _ rfl w2.heap.size rfl pX _ Tryd.underlying30 rfl (by kernel_rfl) ?_ | refine wpList_store_blk rfl 30 _ _ rfl (w.heap.size+2) [.slice t0a t0n t0c,.slice t1a t1n t1c,.slice t2a t2n t2c,.slice t3a t3n t3c] rfl rfl pR (by kernel_rfl) rfl rfl ?_)
   intro u2 pR2 g2
   have q2:=q3.kept g2 (own_apart_blk q3 pR (by decide))
   clear q3
   have hO2:=(hO.kept9 g2 pR (by decide)).lowerB (B':=w.heap.size) (by omega)
   have bw2:=bw.grown g2 bw.size (fun k e=>by cases e;omega)
   clear g2 hO bw
   go_wp2_with fail
   refine bodyPost_ret (results_blk2 Tryd.results71 _ _ _ _ _ _ rfl pR2.out Tryd.underlying30 rfl (by kernel_rfl)) rfl ?_
   exact ⟨⟨((t0a,t0n,t0c),(t1a,t1n,t1c),(t2a,t2n,t2c),(t3a,t3n,t3c)),_,rfl,hO2,q2⟩,bw2⟩
 ·have hfn:(f != 0)=true:=by simp [hf]
  have HO2:Hid (own=[(f,(k:Int),pc)]):=by rw [Hid,HOwn.out,if_neg hf]
  have hfit:∀ x ∈ [(f,(k:Int),pc)],I3.fits x:=fun x hx=>by
   simp only [List.mem_singleton] at hx
   subst hx
   simp only [I3.fits]
   exact ⟨fits_small (by omega) (by omega),fits_small (by omega) (by omega),fits_small (by omega) (by omega)⟩
  have cS0:((w2.alloc (.cells #[.slice t0a t0n t0c,.slice t1a t1n t1c,.slice t2a t2n t2c,.slice t3a t3n t3c] 30)).alloc (.cells #[] 40)).cell? ⟨w.heap.size+1,0,none⟩=some (.slice (some ⟨b0,o0,none⟩) 3 c0):=by simpa using pS.cell 0
  clear HOwn hf9 hM hf pS
  go_wp2_with (at_builtin;refine wpList_append_own _ rfl _ _ 31 rfl w.heap.size 40 i0 (.agg #[.int .i64 0,.int .i64 0,.int .i64 0]) 3 24 Tryd.underlying31 hi hz0 hz1 hz2 rfl (by decide) _ _ _ rfl (oO.alloc _) ⟨w2.heap.size+1+1,0,none⟩ 1 1 [.int .i64 f,.int .i64 (k:Int),.int .i64 pc] rfl rfl ?c1 (three_one _ _ _) ?c3 ?c4 ?c5 ?_)
  case c1=>simpa using cell_three_new ((w2.alloc (.cells #[.slice t0a t0n t0c,.slice t1a t1n t1c,.slice t2a t2n t2c,.slice t3a t3n t3c] 30)).alloc (.cells #[] 40)) (.int .i64 f) (.int .i64 (k:Int)) (.int .i64 pc) 40
  case c3=>unfold maxLen;omega
  case c4=>omega
  case c5=>simp;omega
  intro v9 U q9 g9 _
  have ha:Below ((w2.alloc (.cells #[.slice t0a t0n t0c,.slice t1a t1n t1c,.slice t2a t2n t2c,.slice t3a t3n t3c] 30)).alloc (.cells #[] 40)).heap.size ((w2.alloc (.cells #[.slice t0a t0n t0c,.slice t1a t1n t1c,.slice t2a t2n t2c,.slice t3a t3n t3c] 30)).alloc (.cells #[] 40)) (((w2.alloc (.cells #[.slice t0a t0n t0c,.slice t1a t1n t1c,.slice t2a t2n t2c,.slice t3a t3n t3c] 30)).alloc (.cells #[] 40)).alloc (.cells #[.int .i64 f,.int .i64 (k:Int),.int .i64 pc] 40)):=by go_grown
  have pE:Blk (((w2.alloc (.cells #[.slice t0a t0n t0c,.slice t1a t1n t1c,.slice t2a t2n t2c,.slice t3a t3n t3c] 30)).alloc (.cells #[] 40)).alloc (.cells #[.int .i64 f,.int .i64 (k:Int),.int .i64 pc] 40)) (w2.heap.size+1) 40 []:=blkOld _ (blkAt _ _ _ (by simp))
  have n0:(some (w2.heap.size+1):Option Nat)≠some w.heap.size:=by simp;omega
  have n1:(some (w2.heap.size+1):Option Nat)≠some (w.heap.size+2):=by simp;omega
  have n2:(some (w2.heap.size+1):Option Nat)≠some w2.heap.size:=by simp
  replace g9:(((w2.alloc (.cells #[.slice t0a t0n t0c,.slice t1a t1n t1c,.slice t2a t2n t2c,.slice t3a t3n t3c] 30)).alloc (.cells #[] 40)).alloc (.cells #[.int .i64 f,.int .i64 (k:Int),.int .i64 pc] 40)).grownBy U (some (w2.heap.size+1)):=g9
  replace pP:=(pP.below ha).kept g9 n0
  replace pR:=(pR.below ha).kept g9 n1
  replace pX:=(pX.below ha).kept g9 n2
  replace hO:=(hO.below ha).kept9 g9 pE (by decide)
  replace bw:=(bel_trans bw ha).grown g9 (bel_trans bw ha).size (fun j hj=>by cases hj;omega)
  obtain ⟨og,oc,rfl⟩:=own_someB q9 (by omega)
  have oO2:U.ownsRow w.heap.size 40 3 (.slice (some ⟨og,0,none⟩) 1 oc) 1 (flat [(f,(k:Int),pc)]):=q9
  clear oO q9 g9 ha pE n0 n1 n2 r1 cS0
  have oO:=oO2
  clear oO2
  have kUx:=kU _ (hR.below bw) _ (hO.mem fz)
  rw [uX] at kUx
  clear hR kU uX
  cases hst:stuckM rows z
  ·rw [hst] at kUx
   have HF:Hid (fin=[(f,(k:Int),pc)]):=by rw [Hid,HFin.out,hst,HO2.out];rfl
   clear hst HFin HO2
   go_wp2_with (first | refine wpList_load_blk rfl 25 _ rfl w.heap.size rfl pP _ Tryd.underlying25 rfl (by kernel_rfl) ?_ | refine wpList_load_blk rfl 30 _ rfl w2.heap.size rfl pX _ Tryd.underlying30 rfl (by kernel_rfl) ?_)
   refine kUx.mono ?_
   rintro e u1 ⟨rfl,hb⟩
   replace bw:=bel_trans bw hb
   replace hO:=hO.below hb
   replace oO:=owns_low oO hb
   replace pP:=pP.below hb
   replace pR:=pR.below hb
   replace pX:=pX.below hb
   clear hb
   clear kUx
   have q3:u1.ownsRow w.heap.size 40 3 (.slice (some ⟨og,0,none⟩) 1 oc) fin.length (flat fin):=by rw [HF.out];exact oO
   clear oO HF
   go_wp2_with (first | refine wpList_load_blk rfl 30 _ rfl w2.heap.size rfl pX _ Tryd.underlying30 rfl (by kernel_rfl) ?_ | refine wpList_store_blk rfl 30 _ _ rfl (w.heap.size+2) [.slice t0a t0n t0c,.slice t1a t1n t1c,.slice t2a t2n t2c,.slice t3a t3n t3c] rfl rfl pR (by kernel_rfl) rfl rfl ?_)
   intro u2 pR2 g2
   have q2:=q3.kept g2 (own_apart_blk q3 pR (by decide))
   clear q3
   have hO2:=(hO.kept9 g2 pR (by decide)).lowerB (B':=w.heap.size) (by omega)
   have bw2:=bw.grown g2 bw.size (fun k e=>by cases e;omega)
   clear g2 hO bw
   go_wp2_with fail
   refine bodyPost_ret (results_blk2 Tryd.results71 _ _ _ _ _ _ rfl pR2.out Tryd.underlying30 rfl (by kernel_rfl)) rfl ?_
   exact ⟨⟨((t0a,t0n,t0c),(t1a,t1n,t1c),(t2a,t2n,t2c),(t3a,t3n,t3c)),_,rfl,hO2,q2⟩,bw2⟩
  ·rw [hst] at kUx
   have HF:Hid (fin=putB [(f,(k:Int),pc)] (14,0,0)):=by rw [Hid,HFin.out,hst,HO2.out];rfl
   clear hst HFin HO2
   go_wp2_with (first | refine wpList_load_blk rfl 25 _ rfl w.heap.size rfl pP _ Tryd.underlying25 rfl (by kernel_rfl) ?_ | refine wpList_load_blk rfl 30 _ rfl w2.heap.size rfl pX _ Tryd.underlying30 rfl (by kernel_rfl) ?_)
   refine kUx.mono ?_
   rintro e u1 ⟨rfl,hb⟩
   replace bw:=bel_trans bw hb
   replace hO:=hO.below hb
   replace oO:=owns_low oO hb
   replace pP:=pP.below hb
   replace pR:=pR.below hb
   replace pX:=pX.below hb
   clear hb
   clear kUx
   have kPut:=l04Put_is og 0 1 oc [(f,(k:Int),pc)] (14,0,0) u1 (instrs_own oO rfl hfit) (by decide)
   unfold I3.val at kPut
   simp only at kPut
   go_wp2_with fail
   refine kPut.mono ?_
   rintro e u3 ⟨⟨v3,rfl,q3⟩,hb⟩
   replace q3:=own_lowerB (B':=w.heap.size) q3 bw.size
   rw [← HF.out] at q3
   replace bw:=bel_trans bw hb
   replace hO:=hO.below hb
   replace pP:=pP.below hb
   replace pR:=pR.below hb
   replace pX:=pX.below hb
   clear hb
   clear kPut oO HF
   go_wp2_with (first | refine wpList_load_blk rfl 30 _ rfl w2.heap.size rfl pX _ Tryd.underlying30 rfl (by kernel_rfl) ?_ | refine wpList_store_blk rfl 30 _ _ rfl (w.heap.size+2) [.slice t0a t0n t0c,.slice t1a t1n t1c,.slice t2a t2n t2c,.slice t3a t3n t3c] rfl rfl pR (by kernel_rfl) rfl rfl ?_)
   intro u2 pR2 g2
   have q2:=q3.kept g2 (own_apart_blk q3 pR (by decide))
   clear q3
   have hO2:=(hO.kept9 g2 pR (by decide)).lowerB (B':=w.heap.size) (by omega)
   have bw2:=bw.grown g2 bw.size (fun k e=>by cases e;omega)
   clear g2 hO bw
   go_wp2_with fail
   refine bodyPost_ret (results_blk2 Tryd.results71 _ _ _ _ _ _ rfl pR2.out Tryd.underlying30 rfl (by kernel_rfl)) rfl ?_
   exact ⟨⟨((t0a,t0n,t0c),(t1a,t1n,t1c),(t2a,t2n,t2c),(t3a,t3n,t3c)),_,rfl,hO2,q2⟩,bw2⟩


theorem runS_halt {rows:List (List I3)} {m:V4} {out:List I3} {ks:List Int} {i:Nat} (hi:i<ks.length) (h:haltM rows m (ks.getD i 0)≠0):runS rows m out (ks.drop i)=(m,out,haltM rows m (ks.getD i 0)):=by
 have e:ks.drop i=ks.getD i 0::ks.drop (i+1):=by rw [List.drop_eq_getElem_cons hi];simp [List.getD,hi]
 rw [e]
 show (if haltM rows m (ks.getD i 0)=0 then _ else _)=_
 rw [if_neg h]
theorem runS_go {rows:List (List I3)} {m:V4} {out:List I3} {ks:List Int} {i:Nat} (hi:i<ks.length) (h:haltM rows m (ks.getD i 0)=0):runS rows m out (ks.drop i)=runS rows (goM rows m (ks.getD i 0)).1 (mergeB out (foundM rows m (ks.getD i 0))) (ks.drop (i+1)):=by
 have e:ks.drop i=ks.getD i 0::ks.drop (i+1):=by rw [List.drop_eq_getElem_cons hi];simp [List.getD,hi]
 rw [e]
 show (if haltM rows m (ks.getD i 0)=0 then _ else _)=_
 rw [if_pos h]
theorem foundM_ok {rows:List (List I3)} {m:V4} {k:Int} (hp:progOk rows=true) (hs:shapeOk m=true) (hz:haltM rows m k=0):(∀ x ∈ foundM rows m k,okB x=true)∧(foundM rows m k).length≤2:=by
 have h1:=ownM_ok hp hs hz
 have h2:=ownM_len rows m k
 unfold foundM
 split
 ·refine ⟨fun x hx=>?_,?_⟩
  ·rw [mem_putB] at hx
   rcases hx with hx | hx
   ·exact h1 x hx
   ·subst hx;rfl
  ·have:=putB_len (ownM rows m k) (14,0,0)
   omega
 ·exact ⟨h1,by omega⟩
theorem mergeB_ok {xs ys:List I3} (h:∀ x ∈ xs,okB x=true) (k:∀ x ∈ ys,okB x=true):∀ x ∈ mergeB xs ys,okB x=true:=fun x hx=>by
 rw [mem_mergeB] at hx
 exact hx.elim (h x) (k x)

theorem held_zero (j:Nat):([0,0]:List Int).getD j 0=0:=by
 match j with
 | 0=>rfl
 | 1=>rfl
 | _+2=>rfl
theorem stuck_zero (rows:List (List I3)):stuckM rows zeroV=false:=by
 cases h:stuckM rows zeroV
 ·rfl
 ·have hc:∀ i,i<3→doneM rows zeroV i=true:=fun i hi=>by
   cases hd:doneM rows zeroV i
   ·have h1:canM rows zeroV i=true:=by
     unfold canM atLock
     rw [hd,show zeroV.2.2.1=[0,0] from rfl,held_zero]
     simp
    rw [can_not_stuck hi h1] at h
    cases h
   ·rfl
  unfold stuckM leftM at h
  simp [List.range',hc 0 (by decide),hc 1 (by decide),hc 2 (by decide)] at h

theorem instrs_rowS {w:World} {B cap:Nat} {a:Option Addr} {xs:List I3} (h:w.ownsRow B 40 3 (.slice a xs.length cap) xs.length (flat xs)) (hf:∀ x ∈ xs,I3.fits x):Instrs w a xs.length cap xs:=by
 obtain ⟨a',c',e,hI,_⟩:=bugs_sliceR h hf
 cases e
 exact hI
theorem ints_cellS {w:World} {a:Option Addr} {n c:Nat} {ks:List Int} (h:Ints .i64 w a n c ks) {i:Nat} (hi:i<n):∃ b off,a=some ⟨b,off,none⟩∧w.cell? ⟨b,off+i,none⟩=some (.int .i64 (ks.getD i 0))∧b<w.heap.size:=by
 obtain ⟨h1,h2,h3,h4⟩:=h
 rcases h4 with h4 | ⟨b,off,ha,hl,hc⟩
 ·omega
 ·exact ⟨b,off,ha,hc i hi,hl⟩

def OnS (w wr:World) (X:Nat) (a9:Option Addr) (cap:Nat) (rows:List (List I3)) (ks:List Int) (n i:Nat) (fin:V4 × List I3 × Int) (m:V4) (out:List I3) (v:Value):Prop:=
 i≤n∧runS rows m out (ks.drop i)=fin∧shapeOk m=true∧(∃ t:S4,Blk wr X 30 (vmC t)∧OwnV wr w.heap.size t m)∧wr.ownsRow w.heap.size 40 3 v out.length (flat out)∧(∀ x ∈ out,okB x=true)∧out.length≤1+2*i∧Below w.heap.size w wr∧Blk wr w.heap.size 25 [.slice a9 3 cap]∧Blk wr (w.heap.size+1) 30 [.slice none 0 0,.slice none 0 0,.slice none 0 0,.slice none 0 0]

theorem l04Run_is {w:World} {a9:Option Addr} {cap:Nat} {cs:Sl × Sl × Sl} {rows:List (List I3)} {la:Option Addr} {n c:Nat} {ks:List Int} (hR:RowsAt w a9 cs rows) (hp:progOk rows=true) (hL:Ints .i64 w la n c ks) (hn:n≤100000) :
  Calls Tryd.prog 32 #[.agg #[.slice a9 3 cap],.slice la n c] w fun e w'=>RunGot e w' w.heap.size (runS rows zeroV [] ks).1 (runS rows zeroV [] ks).2.1 (runS rows zeroV [] ks).2.2∧Below w.heap.size w w':=by
 have fz:=(shape_fits9 zero_shape).1
 have hll:=hL.1
 obtain ⟨fin,hfin⟩:∃ fin,fin=runS rows zeroV [] ks:=⟨_,rfl⟩
 rw [← hfin]
 have HFin:Hid (runS rows zeroV [] (ks.drop 0)=fin):=by rw [hfin];rfl
 clear hfin
 have kN:=specNewVm_is
 have kU:=fun (W:World) (hR:RowsAt W a9 cs rows) (t:S4) (h:Vmem W t zeroV)=>l03Stuck_is a9 3 cap rows t zeroV cs W rfl hR h hp zero_shape
 rw [stuck_zero] at kU
 have bw:Below w.heap.size w ((w.alloc (.cells #[.slice a9 3 cap] 25)).alloc (.cells #[.slice none 0 0,.slice none 0 0,.slice none 0 0,.slice none 0 0] 30)):=by go_grown
 have pP:Blk ((w.alloc (.cells #[.slice a9 3 cap] 25)).alloc (.cells #[.slice none 0 0,.slice none 0 0,.slice none 0 0,.slice none 0 0] 30)) w.heap.size 25 [.slice a9 3 cap]:=blkOld _ (blkAt _ _ _ rfl)
 have pZ:Blk ((w.alloc (.cells #[.slice a9 3 cap] 25)).alloc (.cells #[.slice none 0 0,.slice none 0 0,.slice none 0 0,.slice none 0 0] 30)) (w.heap.size+1) 30 [.slice none 0 0,.slice none 0 0,.slice none 0 0,.slice none 0 0]:=blkAt _ _ _ (by simp)
 go_enter Tryd.func32,Tryd.ntmps32
 go_wp2_with fail
 have hUw:w.heap.size≤((w.alloc (.cells #[.slice a9 3 cap] 25)).alloc (.cells #[.slice none 0 0,.slice none 0 0,.slice none 0 0,.slice none 0 0] 30)).heap.size:=bw.size
 generalize ((w.alloc (.cells #[.slice a9 3 cap] 25)).alloc (.cells #[.slice none 0 0,.slice none 0 0,.slice none 0 0,.slice none 0 0] 30))=U at *
 refine (kN _).mono ?_
 rintro e w1 ⟨⟨⟨⟨t0a,t0n,t0c⟩,⟨t1a,t1n,t1c⟩,⟨t2a,t2n,t2c⟩,⟨t3a,t3n,t3c⟩⟩,rfl,hO⟩,hb⟩
 have ut:S4.val ((t0a,t0n,t0c),(t1a,t1n,t1c),(t2a,t2n,t2c),(t3a,t3n,t3c))=.agg #[.slice t0a t0n t0c,.slice t1a t1n t1c,.slice t2a t2n t2c,.slice t3a t3n t3c]:=rfl
 rw [ut]
 replace bw:=bel_trans bw hb
 replace pP:=pP.below hb
 replace pZ:=pZ.below hb
 replace hO:=hO.lowerB (B':=w.heap.size) hUw
 have hX1:w.heap.size+1<w1.heap.size:=pZ.lt
 clear hb kN hUw
 have ha:Below w1.heap.size w1 ((w1.alloc (.cells #[.slice t0a t0n t0c,.slice t1a t1n t1c,.slice t2a t2n t2c,.slice t3a t3n t3c] 30)).alloc (.cells #[] 40)):=by go_grown
 have pS:Blk ((w1.alloc (.cells #[.slice t0a t0n t0c,.slice t1a t1n t1c,.slice t2a t2n t2c,.slice t3a t3n t3c] 30)).alloc (.cells #[] 40)) w1.heap.size 30 [.slice t0a t0n t0c,.slice t1a t1n t1c,.slice t2a t2n t2c,.slice t3a t3n t3c]:=blkOld _ (blkAt _ _ _ rfl)
 have q:((w1.alloc (.cells #[.slice t0a t0n t0c,.slice t1a t1n t1c,.slice t2a t2n t2c,.slice t3a t3n t3c] 30)).alloc (.cells #[] 40)).ownsRow w.heap.size 40 3 (.slice (some ⟨w1.heap.size+1,0,none⟩) 0 0) 0 []:=by
  have h9:=own_emptyB (w1.alloc (.cells #[.slice t0a t0n t0c,.slice t1a t1n t1c,.slice t2a t2n t2c,.slice t3a t3n t3c] 30)) 40 3 w.heap.size (by simp;omega)
  simpa using h9
 replace bw:=bel_trans bw ha
 replace hO:=hO.below ha
 replace pP:=pP.below ha
 replace pZ:=pZ.below ha
 have kUx:=kU _ (hR.below bw) _ (hO.mem fz)
 rw [ut] at kUx
 clear ha kU ut
 go_wp2_with (first | refine wpList_load_blk rfl 25 _ rfl w.heap.size rfl pP _ Tryd.underlying25 rfl (by kernel_rfl) ?_ | refine wpList_load_blk rfl 30 _ rfl w1.heap.size rfl pS _ Tryd.underlying30 rfl (by kernel_rfl) ?_)
 refine kUx.mono ?_
 rintro e W0 ⟨rfl,hb⟩
 replace bw:=bel_trans bw hb
 replace pP:=pP.below hb
 replace pZ:=pZ.below hb
 replace pS:=pS.below hb
 replace hO:=hO.below hb
 replace q:=owns_below q hb
 clear hb kUx fz
 go_wp2_with fail
 have st:OnS w W0 w1.heap.size a9 cap rows ks n 0 fin zeroV [] (.slice (some ⟨w1.heap.size+1,0,none⟩) 0 0):=⟨by omega,HFin.out,zero_shape,⟨((t0a,t0n,t0c),(t1a,t1n,t1c),(t2a,t2n,t2c),(t3a,t3n,t3c)),pS,hO⟩,q,by simp,by decide,bw,pP,pZ⟩
 clear HFin pS hO q bw pP pZ
 generalize w1.heap.size+1=g0 at *
 generalize w1.heap.size=X at *
 go_loopw [8,9] (fun so si wr=>∃ (i:Nat) (m':V4) (out:List I3),si=.int .i64 i∧OnS w wr X a9 cap rows ks n i fin m' out so) (fun _ si _=>n - (intOf si).toNat)
 case atStart=>exact ⟨0,_,_,rfl,st⟩
 case round =>
  clear st
  obtain ⟨i,m',out,rfl,hi,hr,hs,⟨⟨⟨t0a,t0n,t0c⟩,⟨t1a,t1n,t1c⟩,⟨t2a,t2n,t2c⟩,⟨t3a,t3n,t3c⟩⟩,pS,hO⟩,q,hok,hlo,bw,pP,pZ⟩:=hrel
  replace pS:Blk wr X 30 [.slice t0a t0n t0c,.slice t1a t1n t1c,.slice t2a t2n t2c,.slice t3a t3n t3c]:=pS
  by_cases hlt:i<n
  ·obtain ⟨lb,lo,rfl,hc,hlb⟩:=ints_cellS hL hlt
   replace hc:=cells_kept bw _ _ hc
   have HH:Hid (haltM rows m' (ks.getD i 0)≠0→fin=(m',out,haltM rows m' (ks.getD i 0))):=fun h0=>hr.symm.trans (runS_halt (by omega) h0)
   have HG:Hid (haltM rows m' (ks.getD i 0)=0→runS rows (goM rows m' (ks.getD i 0)).1 (mergeB out (foundM rows m' (ks.getD i 0))) (ks.drop (i+1))=fin):=fun h0=>(runS_go (by omega) h0).symm.trans hr
   have hlt':(i:Int)<(n:Int):=by omega
   have hi0:(0:Int)≤(i:Int):=by omega
   have fm:=(shape_fits9 hs).1
   generalize ks.getD i 0=kk at *
   clear hr
   have kI:=l01In_isB kk 0 2 wr
   have hXw2:=pS.lt
   have hl1:i≤100000:=by omega
   obtain ⟨va,vc,rfl,hI,hGd⟩:=bugs_sliceR q (fun x hx=>okB_fitsQ (hok x hx))
   clear hI hGd
   cases hin:inB kk 0 2
   ·rw [hin] at kI
    have hz:haltM rows m' kk=4:=by
     have:=inB_false.1 hin
     unfold haltM
     rw [if_neg (by omega)]
    have hfe:=HH.out (by rw [hz];decide)
    rw [hz] at hfe
    clear HH HG hz hin
    go_wp2_with fail
    refine kI.mono ?_
    rintro e w9 ⟨rfl,rfl⟩
    clear kI hc
    go_wp2_with (first | refine wpList_load_blk rfl 30 _ rfl X rfl pS _ Tryd.underlying30 rfl (by kernel_rfl) ?_ | refine wpList_store_blk rfl 30 _ _ rfl (w.heap.size+1) [.slice t0a t0n t0c,.slice t1a t1n t1c,.slice t2a t2n t2c,.slice t3a t3n t3c] rfl rfl pZ (by kernel_rfl) rfl rfl ?_)
    intro U2 pZ2 g2
    have bz:=bw.grown g2 bw.size (fun k e=>by cases e;omega)
    have q2:=q.kept g2 (own_apart_blk q pZ (by decide))
    have hO2:=hO.kept9 g2 pZ (by decide)
    clear bw g2 pZ q hO pS pP
    go_wp2_with fail
    refine bodyPost_ret (results_blk3 Tryd.results32 _ _ _ _ _ _ rfl pZ2.out Tryd.underlying30 rfl (by kernel_rfl)) rfl ?_
    rw [hfe]
    exact ⟨RunGot.mk9 ((t0a,t0n,t0c),(t1a,t1n,t1c),(t2a,t2n,t2c),(t3a,t3n,t3c)) _ rfl hO2 q2,bz⟩
   ·rw [hin] at kI
    obtain ⟨k,rfl⟩:∃ k:Nat,kk=k:=⟨kk.toNat,by have:=inB_true.1 hin;omega⟩
    have hk:k<3:=by have:=inB_true.1 hin;omega
    clear hin
    have kD:=fun (W:World) (b:Below w.heap.size w W) (h:Vmem W ((t0a,t0n,t0c),(t1a,t1n,t1c),(t2a,t2n,t2c),(t3a,t3n,t3c)) m')=>l03Done_is (cap:=cap) rfl (hR.below b) h hs hk
    have kC:=fun (W:World) (b:Below w.heap.size w W) (h:Vmem W ((t0a,t0n,t0c),(t1a,t1n,t1c),(t2a,t2n,t2c),(t3a,t3n,t3c)) m')=>l03Can_is (cap:=cap) rfl (hR.below b) h hp hs hk
    have ut:S4.val ((t0a,t0n,t0c),(t1a,t1n,t1c),(t2a,t2n,t2c),(t3a,t3n,t3c))=.agg #[.slice t0a t0n t0c,.slice t1a t1n t1c,.slice t2a t2n t2c,.slice t3a t3n t3c]:=rfl
    rw [ut] at kD kC
    go_wp2_with fail
    refine kI.mono ?_
    rintro e w9 ⟨rfl,rfl⟩
    clear kI
    go_wp2_with fail
    cases hd:doneM rows m' k
    ·simp only [hd] at kD
     have hdr:Below wr.heap.size wr wr.drew:=by go_grown
     have kx:=kD wr.drew (bel_trans bw hdr) ((hO.below hdr).mem fm)
     clear hdr
     refine wp_region_held_drew (S:=(fun w'=>w'.cell? ⟨w.heap.size,0,none⟩=some (.slice a9 3 cap)∧w'.cell? ⟨X,0,none⟩=some (.slice t0a t0n t0c)∧w'.cell? ⟨X,1,none⟩=some (.slice t1a t1n t1c)∧w'.cell? ⟨X,2,none⟩=some (.slice t2a t2n t2c)∧w'.cell? ⟨X,3,none⟩=some (.slice t3a t3n t3c)∧w'.cell? ⟨lb,lo+i,none⟩=some (.int .i64 (k:Int)))) (by kernel_rfl) ⟨by simpa using pP.cell 0,by simpa using pS.cell 0,by simpa using pS.cell 1,by simpa using pS.cell 2,by simpa using pS.cell 3,hc⟩ (fun hS0=>?_)
     refine tkm 0 34 (.agg #[.slice a9 3 cap]) ?_
     refine tkm 1 35 (.agg #[.slice t0a t0n t0c,.slice t1a t1n t1c,.slice t2a t2n t2c,.slice t3a t3n t3c]) ?_
     refine tkm 2 36 (.slice (some ⟨lb,lo,none⟩) n c) ?_
     refine tkm 3 37 (.int .i64 (i:Int)) ?_
     refine tkm 4 38 (.pointer (some ⟨lb,lo+i,none⟩)) ?_
     refine tkm 5 39 (.int .i64 (k:Int)) ?_
     refine tkr 6 40 (fun K hK=>?_)
     go_simp
     refine (kx).mono ?_
     rintro e u1 ⟨rfl,hb⟩
     go_wp2_with fail
     refine hK.out _ _ ?_ (fun hS1=>?_)
     ·exact ⟨cells_kept hb _ _ hS0.1,cells_kept hb _ _ hS0.2.1,cells_kept hb _ _ hS0.2.2.1,cells_kept hb _ _ hS0.2.2.2.1,cells_kept hb _ _ hS0.2.2.2.2.1,cells_kept hb _ _ hS0.2.2.2.2.2⟩
     clear hK
     refine wpAnyH_done (by kernel_rfl) ?_ _
     clear hS0 hS1 kx
     have hb9:=bel_trans (by go_grown:Below wr.heap.size wr wr.drew) hb
     replace bw:=bel_trans bw hb9
     replace pP:=pP.below hb9
     replace pZ:=pZ.below hb9
     replace pS:=pS.below hb9
     replace hO:=hO.below hb9
     replace q:=owns_below q hb9
     replace hc:=cells_kept hb9 _ _ hc
     clear hb hb9
     clear kD
     go_wp2_with fail
     cases hcn:canM rows m' k
     ·simp only [hcn] at kC
      have hdr:Below u1.heap.size u1 u1.drew:=by go_grown
      have kx:=kC u1.drew (bel_trans bw hdr) ((hO.below hdr).mem fm)
      clear hdr
      refine wp_region_held_drew (S:=(fun w'=>w'.cell? ⟨w.heap.size,0,none⟩=some (.slice a9 3 cap)∧w'.cell? ⟨X,0,none⟩=some (.slice t0a t0n t0c)∧w'.cell? ⟨X,1,none⟩=some (.slice t1a t1n t1c)∧w'.cell? ⟨X,2,none⟩=some (.slice t2a t2n t2c)∧w'.cell? ⟨X,3,none⟩=some (.slice t3a t3n t3c)∧w'.cell? ⟨lb,lo+i,none⟩=some (.int .i64 (k:Int)))) (by kernel_rfl) ⟨by simpa using pP.cell 0,by simpa using pS.cell 0,by simpa using pS.cell 1,by simpa using pS.cell 2,by simpa using pS.cell 3,hc⟩ (fun hS0=>?_)
      refine tkm 0 43 (.agg #[.slice a9 3 cap]) ?_
      refine tkm 1 44 (.agg #[.slice t0a t0n t0c,.slice t1a t1n t1c,.slice t2a t2n t2c,.slice t3a t3n t3c]) ?_
      refine tkm 2 45 (.slice (some ⟨lb,lo,none⟩) n c) ?_
      refine tkm 3 46 (.int .i64 (i:Int)) ?_
      refine tkm 4 47 (.pointer (some ⟨lb,lo+i,none⟩)) ?_
      refine tkm 5 48 (.int .i64 (k:Int)) ?_
      refine tkr 6 49 (fun K hK=>?_)
      go_simp
      refine (kx).mono ?_
      rintro e u2 ⟨rfl,hb⟩
      go_wp2_with fail
      refine hK.out _ _ ?_ (fun hS1=>?_)
      ·exact ⟨cells_kept hb _ _ hS0.1,cells_kept hb _ _ hS0.2.1,cells_kept hb _ _ hS0.2.2.1,cells_kept hb _ _ hS0.2.2.2.1,cells_kept hb _ _ hS0.2.2.2.2.1,cells_kept hb _ _ hS0.2.2.2.2.2⟩
      clear hK
      refine tkm 7 50 (.bool true) ?_
      refine wpAnyH_done (by kernel_rfl) ?_ _
      clear hS0 hS1 kx
      have hb9:=bel_trans (by go_grown:Below u1.heap.size u1 u1.drew) hb
      replace bw:=bel_trans bw hb9
      replace pP:=pP.below hb9
      replace pZ:=pZ.below hb9
      replace pS:=pS.below hb9
      replace hO:=hO.below hb9
      replace q:=owns_below q hb9
      replace hc:=cells_kept hb9 _ _ hc
      clear hb hb9
      clear kC
      have hz:haltM rows m' (k:Int)=11:=by
       unfold haltM
       rw [if_pos (by omega),Int.toNat_natCast]
       simp [hd,hcn]
      have hfe:=HH.out (by rw [hz];decide)
      rw [hz] at hfe
      clear HH HG hz hd hcn hc
      go_wp2_with (first | refine wpList_load_blk rfl 30 _ rfl X rfl pS _ Tryd.underlying30 rfl (by kernel_rfl) ?_ | refine wpList_store_blk rfl 30 _ _ rfl (w.heap.size+1) [.slice t0a t0n t0c,.slice t1a t1n t1c,.slice t2a t2n t2c,.slice t3a t3n t3c] rfl rfl pZ (by kernel_rfl) rfl rfl ?_)
      intro U2 pZ2 g2
      have bz:=bw.grown g2 bw.size (fun k e=>by cases e;omega)
      have q2:=q.kept g2 (own_apart_blk q pZ (by decide))
      have hO2:=hO.kept9 g2 pZ (by decide)
      clear bw g2 pZ q hO pS pP
      go_wp2_with fail
      refine bodyPost_ret (results_blk3 Tryd.results32 _ _ _ _ _ _ rfl pZ2.out Tryd.underlying30 rfl (by kernel_rfl)) rfl ?_
      rw [hfe]
      exact ⟨RunGot.mk9 ((t0a,t0n,t0c),(t1a,t1n,t1c),(t2a,t2n,t2c),(t3a,t3n,t3c)) _ rfl hO2 q2,bz⟩
     ·simp only [hcn] at kC
      have hdr:Below u1.heap.size u1 u1.drew:=by go_grown
      have kx:=kC u1.drew (bel_trans bw hdr) ((hO.below hdr).mem fm)
      clear hdr
      refine wp_region_held_drew (S:=(fun w'=>w'.cell? ⟨w.heap.size,0,none⟩=some (.slice a9 3 cap)∧w'.cell? ⟨X,0,none⟩=some (.slice t0a t0n t0c)∧w'.cell? ⟨X,1,none⟩=some (.slice t1a t1n t1c)∧w'.cell? ⟨X,2,none⟩=some (.slice t2a t2n t2c)∧w'.cell? ⟨X,3,none⟩=some (.slice t3a t3n t3c)∧w'.cell? ⟨lb,lo+i,none⟩=some (.int .i64 (k:Int)))) (by kernel_rfl) ⟨by simpa using pP.cell 0,by simpa using pS.cell 0,by simpa using pS.cell 1,by simpa using pS.cell 2,by simpa using pS.cell 3,hc⟩ (fun hS0=>?_)
      refine tkm 0 43 (.agg #[.slice a9 3 cap]) ?_
      refine tkm 1 44 (.agg #[.slice t0a t0n t0c,.slice t1a t1n t1c,.slice t2a t2n t2c,.slice t3a t3n t3c]) ?_
      refine tkm 2 45 (.slice (some ⟨lb,lo,none⟩) n c) ?_
      refine tkm 3 46 (.int .i64 (i:Int)) ?_
      refine tkm 4 47 (.pointer (some ⟨lb,lo+i,none⟩)) ?_
      refine tkm 5 48 (.int .i64 (k:Int)) ?_
      refine tkr 6 49 (fun K hK=>?_)
      go_simp
      refine (kx).mono ?_
      rintro e u2 ⟨rfl,hb⟩
      go_wp2_with fail
      refine hK.out _ _ ?_ (fun hS1=>?_)
      ·exact ⟨cells_kept hb _ _ hS0.1,cells_kept hb _ _ hS0.2.1,cells_kept hb _ _ hS0.2.2.1,cells_kept hb _ _ hS0.2.2.2.1,cells_kept hb _ _ hS0.2.2.2.2.1,cells_kept hb _ _ hS0.2.2.2.2.2⟩
      clear hK
      refine tkm 7 50 (.bool false) ?_
      refine wpAnyH_done (by kernel_rfl) ?_ _
      clear hS0 hS1 kx
      have hb9:=bel_trans (by go_grown:Below u1.heap.size u1 u1.drew) hb
      replace bw:=bel_trans bw hb9
      replace pP:=pP.below hb9
      replace pZ:=pZ.below hb9
      replace pS:=pS.below hb9
      replace hO:=hO.below hb9
      replace q:=owns_below q hb9
      replace hc:=cells_kept hb9 _ _ hc
      clear hb hb9
      clear kC
      have hz:haltM rows m' (k:Int)=0:=by
       unfold haltM
       rw [if_pos (by omega),Int.toNat_natCast]
       simp [hd,hcn]
      have hfe:=HG.out hz
      have hfo:=foundM_ok hp hs hz
      have hs2:=goM_shape hp hs hz
      have kF:=fun (W:World) (b:Below w.heap.size w W) (h:Vmem W ((t0a,t0n,t0c),(t1a,t1n,t1c),(t2a,t2n,t2c),(t3a,t3n,t3c)) m')=>l04Found_is (cap:=cap) (hR.below b) h hp hs hk hd
      rw [ut] at kF
      generalize (goM rows m' (k:Int)).1=z at *
      generalize foundM rows m' (k:Int)=fs at *
      clear HH HG hz hd hcn ut
      go_wp2_with fail
      have hb9:Below u2.heap.size u2 u2.drew:=by go_grown
      refine wp_region_held_drew (S:=(fun w'=>w'.cell? ⟨w.heap.size,0,none⟩=some (.slice a9 3 cap)∧w'.cell? ⟨X,0,none⟩=some (.slice t0a t0n t0c)∧w'.cell? ⟨X,1,none⟩=some (.slice t1a t1n t1c)∧w'.cell? ⟨X,2,none⟩=some (.slice t2a t2n t2c)∧w'.cell? ⟨X,3,none⟩=some (.slice t3a t3n t3c)∧w'.cell? ⟨lb,lo+i,none⟩=some (.int .i64 (k:Int)))) (by kernel_rfl) ⟨by simpa using pP.cell 0,by simpa using pS.cell 0,by simpa using pS.cell 1,by simpa using pS.cell 2,by simpa using pS.cell 3,hc⟩ (fun hS0=>?_)
      refine tkm 0 54 (.agg #[.slice a9 3 cap]) ?_
      refine tkm 1 55 (.agg #[.slice t0a t0n t0c,.slice t1a t1n t1c,.slice t2a t2n t2c,.slice t3a t3n t3c]) ?_
      refine tkm 2 56 (.slice (some ⟨lb,lo,none⟩) n c) ?_
      refine tkm 3 57 (.int .i64 (i:Int)) ?_
      refine tkm 4 58 (.pointer (some ⟨lb,lo+i,none⟩)) ?_
      refine tkm 5 59 (.int .i64 (k:Int)) ?_
      replace bw:=bel_trans bw hb9
      replace pP:=pP.below hb9
      replace pZ:=pZ.below hb9
      replace pS:=pS.below hb9
      replace hO:=hO.below hb9
      replace q:=owns_below q hb9
      replace hc:=cells_kept hb9 _ _ hc
      clear hb9
      have kFg:=kF
      have kFx:=kF _ bw (hO.mem fm)
      clear kF
      generalize u2.drew=V at *
      refine wpAnyH_ready (rs:=[6,10]) (by kernel_rfl) (by simp) ?_
      refine AllReadyH.cons (o:=⟨some 60,_,_,_,_,_⟩) rfl (fun K hK=>?_) (AllReadyH.cons (o:=⟨some 10,_,_,_,_,_⟩) rfl (fun K hK=>?_) AllReadyH.nil)
      ·go_simp
       refine kFx.mono ?_
       rintro e V1 ⟨⟨⟨⟨z0a,z0n,z0c⟩,⟨z1a,z1n,z1c⟩,⟨z2a,z2n,z2c⟩,⟨z3a,z3n,z3c⟩⟩,v9,rfl,hO2,q2⟩,hb⟩
       have uz:S4.val ((z0a,z0n,z0c),(z1a,z1n,z1c),(z2a,z2n,z2c),(z3a,z3n,z3c))=.agg #[.slice z0a z0n z0c,.slice z1a z1n z1c,.slice z2a z2n z2c,.slice z3a z3n z3c]:=rfl
       rw [uz]
       replace hO2:=hO2.lowerB (B':=w.heap.size) bw.size
       replace q2:=own_lowerB (B':=w.heap.size) q2 bw.size
       obtain ⟨fa,fc,rfl,hI9,hGd9⟩:=bugs_sliceR q2 (fun x hx=>okB_fitsQ (hfo.1 x hx))
       clear hI9 hGd9
       replace bw:=bel_trans bw hb
       replace pP:=pP.below hb
       replace pZ:=pZ.below hb
       replace pS:=pS.below hb
       replace hO:=hO.below hb
       replace q:=owns_below q hb
       replace hc:=cells_kept hb _ _ hc
       clear hb kFx uz
       go_wp2_with fail
       refine hK.out _ _ ⟨by simpa using pP.cell 0,by simpa using pS.cell 0,by simpa using pS.cell 1,by simpa using pS.cell 2,by simpa using pS.cell 3,hc⟩ (fun hS5=>?_)
       clear hK
       try simp only [Act.put,tka,tkb,tkc]
       refine tkm 7 53 (.tuple #[.agg #[.slice z0a z0n z0c,.slice z1a z1n z1c,.slice z2a z2n z2c,.slice z3a z3n z3c],.slice fa fs.length fc]) ?_
       refine tkm 8 61 (.agg #[.slice z0a z0n z0c,.slice z1a z1n z1c,.slice z2a z2n z2c,.slice z3a z3n z3c]) ?_
       refine tkm 9 62 (.slice fa fs.length fc) ?_
       refine tkr 10 10 (fun K hK=>?_)
       have hb:Below V1.heap.size V1 (V1.alloc (.cells #[.slice none 0 0,.slice none 0 0,.slice none 0 0,.slice none 0 0] 30)):=by go_grown
       have pX:Blk (V1.alloc (.cells #[.slice none 0 0,.slice none 0 0,.slice none 0 0,.slice none 0 0] 30)) V1.heap.size 30 [.slice none 0 0,.slice none 0 0,.slice none 0 0,.slice none 0 0]:=blkAt _ _ _ rfl
       have hX9:w.heap.size+1<V1.heap.size∧X<V1.heap.size:=⟨pZ.lt,pS.lt⟩
       replace bw:=bel_trans bw hb
       replace pP:=pP.below hb
       replace pZ:=pZ.below hb
       replace pS:=pS.below hb
       replace hO:=hO.below hb
       replace q:=owns_below q hb
       replace hc:=cells_kept hb _ _ hc
       replace hO2:=hO2.below hb
       replace q2:=owns_below q2 hb
       go_simp
       refine hK.out _ _ ⟨by simpa using pP.cell 0,by simpa using pS.cell 0,by simpa using pS.cell 1,by simpa using pS.cell 2,by simpa using pS.cell 3,hc⟩ (fun hS6=>?_)
       clear hK hb
       generalize (V1.alloc (.cells #[.slice none 0 0,.slice none 0 0,.slice none 0 0,.slice none 0 0] 30))=V2 at *
       generalize V1.heap.size=Y at *
       try simp only [Act.put,tka,tkb,tkc]
       refine tkz 11 (fun K hK=>?_)
       refine step_store_blkD rfl 30 _ _ rfl Y [.slice z0a z0n z0c,.slice z1a z1n z1c,.slice z2a z2n z2c,.slice z3a z3n z3c] rfl rfl pX (by kernel_rfl) rfl rfl ?_
       intro V8 pX8 g8
       have m0:(some Y:Option Nat)≠some w.heap.size:=by simp;omega
       have m1:(some Y:Option Nat)≠some (w.heap.size+1):=by simp;omega
       have m2:(some Y:Option Nat)≠some X:=by simp;omega
       replace hO2:=hO2.kept9 g8 pX (by decide)
       replace q2:=q2.kept g8 (own_apart_blk q2 pX (by decide))
       replace q:=q.kept g8 (own_apart_blk q pX (by decide))
       replace pP:=pP.kept g8 m0
       replace pZ:=pZ.kept g8 m1
       replace pS:=pS.kept g8 m2
       replace bw:=bw.grown g8 bw.size (fun j hj=>by cases hj;omega)
       replace hc:=cell_grownB g8 hc (by simp;omega)
       refine hK.out _ _ ⟨by simpa using pP.cell 0,by simpa using pS.cell 0,by simpa using pS.cell 1,by simpa using pS.cell 2,by simpa using pS.cell 3,hc⟩ (fun hS7=>?_)
       clear hK m0 m1 m2 pX g8 hO
       have pX:=pX8.out
       clear pX8
       try simp only [Act.put,tka,tkb,tkc]
       refine tkm 12 11 (.slice fa fs.length fc) ?_
       refine wpAnyH_done (by kernel_rfl) ?_ _
       clear hS0 hS5 hS6 hS7 hc
       go_wp2_with (first | refine wpList_load_blk rfl 30 _ rfl Y rfl pX _ Tryd.underlying30 rfl (by kernel_rfl) ?_ | refine wpList_store_blk rfl 30 _ _ rfl X [.slice z0a z0n z0c,.slice z1a z1n z1c,.slice z2a z2n z2c,.slice z3a z3n z3c] rfl rfl pS (by kernel_rfl) rfl rfl ?_)
       intro V9 pS9 g9
       have m0:(some X:Option Nat)≠some w.heap.size:=by simp;omega
       have m1:(some X:Option Nat)≠some (w.heap.size+1):=by simp;omega
       replace hO2:=hO2.kept9 g9 pS (by decide)
       replace q2:=q2.kept g9 (own_apart_blk q2 pS (by decide))
       replace q:=q.kept g9 (own_apart_blk q pS (by decide))
       replace pP:=pP.kept g9 m0
       replace pZ:=pZ.kept g9 m1
       replace bw:=bw.grown g9 bw.size (fun j hj=>by cases hj;omega)
       have pS:=pS9.out
       clear pS9 g9 m0 m1 pX
       have hI:=instrs_rowS q (fun x hx=>okB_fitsQ (hok x hx))
       have hI2:=instrs_rowS q2 (fun x hx=>okB_fitsQ (hfo.1 x hx))
       have kM:=l04Merge_is va out.length vc out fa fs.length fc fs V9 hI hI2 (by omega) (by omega)
       clear hI hI2 q2 q
       go_wp2_with fail
       refine kM.mono ?_
       rintro e V10 ⟨⟨v6,rfl,q6⟩,hb⟩
       replace q6:=own_lowerB (B':=w.heap.size) q6 bw.size
       have st6:OnS w V10 X a9 cap rows ks n (i+1) fin z (mergeB out fs) v6:=⟨by omega,hfe,hs2,⟨((z0a,z0n,z0c),(z1a,z1n,z1c),(z2a,z2n,z2c),(z3a,z3n,z3c)),pS.below hb,hO2.below hb⟩,q6,mergeB_ok hok hfo.1,by have:=mergeB_len out fs;have:=hfo.2;omega,bel_trans bw hb,pP.below hb,pZ.below hb⟩
       clear hb q6 kM pS hO2 bw pP pZ hok hfo hs2 hs fm hfe hXw2 hX9 hlo
       go_wp2
       go_roundw
       case rel=>exact ⟨i+1,_,_,by go_num,st6⟩
       case measure=>simp [intOf];omega
      ·have hb:Below V.heap.size V (V.alloc (.cells #[.slice none 0 0,.slice none 0 0,.slice none 0 0,.slice none 0 0] 30)):=by go_grown
       have pX:Blk (V.alloc (.cells #[.slice none 0 0,.slice none 0 0,.slice none 0 0,.slice none 0 0] 30)) V.heap.size 30 [.slice none 0 0,.slice none 0 0,.slice none 0 0,.slice none 0 0]:=blkAt _ _ _ rfl
       have hX9:w.heap.size+1<V.heap.size∧X<V.heap.size:=⟨pZ.lt,pS.lt⟩
       replace bw:=bel_trans bw hb
       replace pP:=pP.below hb
       replace pZ:=pZ.below hb
       replace pS:=pS.below hb
       replace hO:=hO.below hb
       replace q:=owns_below q hb
       replace hc:=cells_kept hb _ _ hc
       go_simp
       refine hK.out _ _ ⟨by simpa using pP.cell 0,by simpa using pS.cell 0,by simpa using pS.cell 1,by simpa using pS.cell 2,by simpa using pS.cell 3,hc⟩ (fun hS6=>?_)
       clear hK hb
       generalize (V.alloc (.cells #[.slice none 0 0,.slice none 0 0,.slice none 0 0,.slice none 0 0] 30))=V2 at *
       generalize V.heap.size=Y at *
       try simp only [Act.put,tka,tkb,tkc]
       have kFx:=kFg _ bw (hO.mem fm)
       clear kFg
       refine tkr 6 60 (fun K hK=>?_)
       go_simp
       refine kFx.mono ?_
       rintro e V3 ⟨⟨⟨⟨z0a,z0n,z0c⟩,⟨z1a,z1n,z1c⟩,⟨z2a,z2n,z2c⟩,⟨z3a,z3n,z3c⟩⟩,v9,rfl,hO2,q2⟩,hb⟩
       have uz:S4.val ((z0a,z0n,z0c),(z1a,z1n,z1c),(z2a,z2n,z2c),(z3a,z3n,z3c))=.agg #[.slice z0a z0n z0c,.slice z1a z1n z1c,.slice z2a z2n z2c,.slice z3a z3n z3c]:=rfl
       rw [uz]
       replace hO2:=hO2.lowerB (B':=w.heap.size) bw.size
       replace q2:=own_lowerB (B':=w.heap.size) q2 bw.size
       obtain ⟨fa,fc,rfl,hI9,hGd9⟩:=bugs_sliceR q2 (fun x hx=>okB_fitsQ (hfo.1 x hx))
       clear hI9 hGd9
       replace bw:=bel_trans bw hb
       replace pP:=pP.below hb
       replace pZ:=pZ.below hb
       replace pS:=pS.below hb
       replace hO:=hO.below hb
       replace q:=owns_below q hb
       replace pX:=pX.below hb
       replace hc:=cells_kept hb _ _ hc
       clear hb kFx uz
       go_wp2_with fail
       refine hK.out _ _ ⟨by simpa using pP.cell 0,by simpa using pS.cell 0,by simpa using pS.cell 1,by simpa using pS.cell 2,by simpa using pS.cell 3,hc⟩ (fun hS5=>?_)
       clear hK
       try simp only [Act.put,tka,tkb,tkc]
       refine tkm 7 53 (.tuple #[.agg #[.slice z0a z0n z0c,.slice z1a z1n z1c,.slice z2a z2n z2c,.slice z3a z3n z3c],.slice fa fs.length fc]) ?_
       refine tkm 8 61 (.agg #[.slice z0a z0n z0c,.slice z1a z1n z1c,.slice z2a z2n z2c,.slice z3a z3n z3c]) ?_
       refine tkm 9 62 (.slice fa fs.length fc) ?_
       refine tkz 11 (fun K hK=>?_)
       refine step_store_blkD rfl 30 _ _ rfl Y [.slice z0a z0n z0c,.slice z1a z1n z1c,.slice z2a z2n z2c,.slice z3a z3n z3c] rfl rfl pX (by kernel_rfl) rfl rfl ?_
       intro V8 pX8 g8
       have m0:(some Y:Option Nat)≠some w.heap.size:=by simp;omega
       have m1:(some Y:Option Nat)≠some (w.heap.size+1):=by simp;omega
       have m2:(some Y:Option Nat)≠some X:=by simp;omega
       replace hO2:=hO2.kept9 g8 pX (by decide)
       replace q2:=q2.kept g8 (own_apart_blk q2 pX (by decide))
       replace q:=q.kept g8 (own_apart_blk q pX (by decide))
       replace pP:=pP.kept g8 m0
       replace pZ:=pZ.kept g8 m1
       replace pS:=pS.kept g8 m2
       replace bw:=bw.grown g8 bw.size (fun j hj=>by cases hj;omega)
       replace hc:=cell_grownB g8 hc (by simp;omega)
       refine hK.out _ _ ⟨by simpa using pP.cell 0,by simpa using pS.cell 0,by simpa using pS.cell 1,by simpa using pS.cell 2,by simpa using pS.cell 3,hc⟩ (fun hS7=>?_)
       clear hK m0 m1 m2 pX g8 hO
       have pX:=pX8.out
       clear pX8
       try simp only [Act.put,tka,tkb,tkc]
       refine tkm 12 11 (.slice fa fs.length fc) ?_
       refine wpAnyH_done (by kernel_rfl) ?_ _
       clear hS0 hS5 hS6 hS7 hc
       go_wp2_with (first | refine wpList_load_blk rfl 30 _ rfl Y rfl pX _ Tryd.underlying30 rfl (by kernel_rfl) ?_ | refine wpList_store_blk rfl 30 _ _ rfl X [.slice z0a z0n z0c,.slice z1a z1n z1c,.slice z2a z2n z2c,.slice z3a z3n z3c] rfl rfl pS (by kernel_rfl) rfl rfl ?_)
       intro V9 pS9 g9
       have m0:(some X:Option Nat)≠some w.heap.size:=by simp;omega
       have m1:(some X:Option Nat)≠some (w.heap.size+1):=by simp;omega
       replace hO2:=hO2.kept9 g9 pS (by decide)
       replace q2:=q2.kept g9 (own_apart_blk q2 pS (by decide))
       replace q:=q.kept g9 (own_apart_blk q pS (by decide))
       replace pP:=pP.kept g9 m0
       replace pZ:=pZ.kept g9 m1
       replace bw:=bw.grown g9 bw.size (fun j hj=>by cases hj;omega)
       have pS:=pS9.out
       clear pS9 g9 m0 m1 pX
       have hI:=instrs_rowS q (fun x hx=>okB_fitsQ (hok x hx))
       have hI2:=instrs_rowS q2 (fun x hx=>okB_fitsQ (hfo.1 x hx))
       have kM:=l04Merge_is va out.length vc out fa fs.length fc fs V9 hI hI2 (by omega) (by omega)
       clear hI hI2 q2 q
       go_wp2_with fail
       refine kM.mono ?_
       rintro e V10 ⟨⟨v6,rfl,q6⟩,hb⟩
       replace q6:=own_lowerB (B':=w.heap.size) q6 bw.size
       have st6:OnS w V10 X a9 cap rows ks n (i+1) fin z (mergeB out fs) v6:=⟨by omega,hfe,hs2,⟨((z0a,z0n,z0c),(z1a,z1n,z1c),(z2a,z2n,z2c),(z3a,z3n,z3c)),pS.below hb,hO2.below hb⟩,q6,mergeB_ok hok hfo.1,by have:=mergeB_len out fs;have:=hfo.2;omega,bel_trans bw hb,pP.below hb,pZ.below hb⟩
       clear hb q6 kM pS hO2 bw pP pZ hok hfo hs2 hs fm hfe hXw2 hX9 hlo
       go_wp2
       go_roundw
       case rel=>exact ⟨i+1,_,_,by go_num,st6⟩
       case measure=>simp [intOf];omega
    ·simp only [hd] at kD
     have hdr:Below wr.heap.size wr wr.drew:=by go_grown
     have kx:=kD wr.drew (bel_trans bw hdr) ((hO.below hdr).mem fm)
     clear hdr
     refine wp_region_held_drew (S:=(fun w'=>w'.cell? ⟨w.heap.size,0,none⟩=some (.slice a9 3 cap)∧w'.cell? ⟨X,0,none⟩=some (.slice t0a t0n t0c)∧w'.cell? ⟨X,1,none⟩=some (.slice t1a t1n t1c)∧w'.cell? ⟨X,2,none⟩=some (.slice t2a t2n t2c)∧w'.cell? ⟨X,3,none⟩=some (.slice t3a t3n t3c)∧w'.cell? ⟨lb,lo+i,none⟩=some (.int .i64 (k:Int)))) (by kernel_rfl) ⟨by simpa using pP.cell 0,by simpa using pS.cell 0,by simpa using pS.cell 1,by simpa using pS.cell 2,by simpa using pS.cell 3,hc⟩ (fun hS0=>?_)
     refine tkm 0 34 (.agg #[.slice a9 3 cap]) ?_
     refine tkm 1 35 (.agg #[.slice t0a t0n t0c,.slice t1a t1n t1c,.slice t2a t2n t2c,.slice t3a t3n t3c]) ?_
     refine tkm 2 36 (.slice (some ⟨lb,lo,none⟩) n c) ?_
     refine tkm 3 37 (.int .i64 (i:Int)) ?_
     refine tkm 4 38 (.pointer (some ⟨lb,lo+i,none⟩)) ?_
     refine tkm 5 39 (.int .i64 (k:Int)) ?_
     refine tkr 6 40 (fun K hK=>?_)
     go_simp
     refine (kx).mono ?_
     rintro e u1 ⟨rfl,hb⟩
     go_wp2_with fail
     refine hK.out _ _ ?_ (fun hS1=>?_)
     ·exact ⟨cells_kept hb _ _ hS0.1,cells_kept hb _ _ hS0.2.1,cells_kept hb _ _ hS0.2.2.1,cells_kept hb _ _ hS0.2.2.2.1,cells_kept hb _ _ hS0.2.2.2.2.1,cells_kept hb _ _ hS0.2.2.2.2.2⟩
     clear hK
     refine wpAnyH_done (by kernel_rfl) ?_ _
     clear hS0 hS1 kx
     have hb9:=bel_trans (by go_grown:Below wr.heap.size wr wr.drew) hb
     replace bw:=bel_trans bw hb9
     replace pP:=pP.below hb9
     replace pZ:=pZ.below hb9
     replace pS:=pS.below hb9
     replace hO:=hO.below hb9
     replace q:=owns_below q hb9
     replace hc:=cells_kept hb9 _ _ hc
     clear hb hb9
     clear kD kC
     have hz:haltM rows m' (k:Int)=10:=by
      unfold haltM
      rw [if_pos (by omega),Int.toNat_natCast]
      simp [hd]
     have hfe:=HH.out (by rw [hz];decide)
     rw [hz] at hfe
     clear HH HG hz hd hc
     go_wp2_with (first | refine wpList_load_blk rfl 30 _ rfl X rfl pS _ Tryd.underlying30 rfl (by kernel_rfl) ?_ | refine wpList_store_blk rfl 30 _ _ rfl (w.heap.size+1) [.slice t0a t0n t0c,.slice t1a t1n t1c,.slice t2a t2n t2c,.slice t3a t3n t3c] rfl rfl pZ (by kernel_rfl) rfl rfl ?_)
     intro U2 pZ2 g2
     have bz:=bw.grown g2 bw.size (fun k e=>by cases e;omega)
     have q2:=q.kept g2 (own_apart_blk q pZ (by decide))
     have hO2:=hO.kept9 g2 pZ (by decide)
     clear bw g2 pZ q hO pS pP
     go_wp2_with fail
     refine bodyPost_ret (results_blk3 Tryd.results32 _ _ _ _ _ _ rfl pZ2.out Tryd.underlying30 rfl (by kernel_rfl)) rfl ?_
     rw [hfe]
     exact ⟨RunGot.mk9 ((t0a,t0n,t0c),(t1a,t1n,t1c),(t2a,t2n,t2c),(t3a,t3n,t3c)) _ rfl hO2 q2,bz⟩
  ·obtain rfl:i=n:=by omega
   have hfe:fin=(m',out,0):=by rw [← hr,List.drop_of_length_le (by omega)];rfl
   clear hr
   have hXw2:=pS.lt
   obtain ⟨va,vc,rfl,hI,hGd⟩:=bugs_sliceR q (fun x hx=>okB_fitsQ (hok x hx))
   clear hI hGd
   go_wp2_with (first | refine wpList_load_blk rfl 30 _ rfl X rfl pS _ Tryd.underlying30 rfl (by kernel_rfl) ?_ | refine wpList_store_blk rfl 30 _ _ rfl (w.heap.size+1) [.slice t0a t0n t0c,.slice t1a t1n t1c,.slice t2a t2n t2c,.slice t3a t3n t3c] rfl rfl pZ (by kernel_rfl) rfl rfl ?_)
   intro U2 pZ2 g2
   have bz:=bw.grown g2 bw.size (fun k e=>by cases e;omega)
   have q2:=q.kept g2 (own_apart_blk q pZ (by decide))
   have hO2:=hO.kept9 g2 pZ (by decide)
   clear bw g2 pZ q hO pS pP
   go_wp2_with fail
   refine bodyPost_ret (results_blk3 Tryd.results32 _ _ _ _ _ _ rfl pZ2.out Tryd.underlying30 rfl (by kernel_rfl)) rfl ?_
   rw [hfe]
   exact ⟨RunGot.mk9 ((t0a,t0n,t0c),(t1a,t1n,t1c),(t2a,t2n,t2c),(t3a,t3n,t3c)) _ rfl hO2 q2,bz⟩


theorem runS_runK (rows:List (List I3)) (ks:List Int):runS rows zeroV [] ks=((runI rows zeroV [] ks).1,mergeB (runI rows zeroV [] ks).2.1 (deadM rows (runI rows zeroV [] ks).1),(runI rows zeroV [] ks).2.2):=by
 have h0:([]:List I3)=mergeB [] (deadM rows zeroV):=by unfold deadM;rw [stuck_zero];rfl
 obtain ⟨h1,h2,h3⟩:=run_same (rows:=rows) ks zeroV [] [] h0
 rw [← h1,← h2] at *
 exact Prod.ext h1 (Prod.ext h3 rfl)
theorem OwnV.neE {w w':World} {b B e s n:Nat} {t:S4} {m:V4} {v:Value} {xs:List Value} (h:OwnV w b t m) (hv:w.ownsRow B e s v n xs) (hg:w.grownBy w' v.ownBlock) (he:3≠e):OwnV w' b t m:=
 ⟨⟨World.ownsRow.kept h.1.1 hg (owns_ne h.1.1 hv he),World.ownsRow.kept h.1.2.1 hg (owns_ne h.1.2.1 hv he),World.ownsRow.kept h.1.2.2.1 hg (owns_ne h.1.2.2.1 hv he),World.ownsRow.kept h.1.2.2.2 hg (owns_ne h.1.2.2.2 hv he)⟩,h.2⟩
def OnEs (w wr:World) (X:Nat) (a9:Option Addr) (cap:Nat) (rows:List (List I3)) (ks:List Int) (n i:Nat) (tot:List I4) (m:V4) (fs:List I3) (es:List I4) (v:Value):Prop:=
 i≤n∧(runI rows m fs (ks.drop i)).2.2=0∧shapeOk m=true∧(∃ t:S4,Blk wr X 30 (vmC t)∧OwnV wr w.heap.size t m)∧wr.ownsRow w.heap.size 154 4 v es.length (flat4 es)∧es++evsM rows m (ks.drop i)=tot∧es.length=i∧Below w.heap.size w wr∧Blk wr w.heap.size 25 [.slice a9 3 cap]∧w.heap.size<X

theorem l05Events_is {w:World} {a9:Option Addr} {cap:Nat} {cs:Sl × Sl × Sl} {rows:List (List I3)} {la:Option Addr} {n c:Nat} {ks:List Int} (hR:RowsAt w a9 cs rows) (hp:progOk rows=true) (hL:Ints .i64 w la n c ks) (hn:n≤100000) :
  Calls Tryd.prog 85 #[.agg #[.slice a9 3 cap],.slice la n c] w fun e w'=>EvGot e w' w.heap.size (if (runI rows zeroV [] ks).2.2=0 then evsM rows zeroV ks else []) (runI rows zeroV [] ks).2.2∧Below w.heap.size w w':=by
 obtain ⟨i0,hi9,hz0,hz1,hz2⟩:=info_parts info_event
 have hll:=hL.1
 have kN:=specNewVm_is
 have kR:=fun (W:World) (b:Below w.heap.size w W)=>l04Run_is (cap:=cap) (hR.below b) hp (hL.below b) hn
 rw [runS_runK] at kR
 simp only at kR
 have HF0:Hid ((runI rows zeroV [] (ks.drop 0)).2.2=(runI rows zeroV [] ks).2.2):=rfl
 have HT0:Hid ([]++evsM rows zeroV (ks.drop 0)=evsM rows zeroV ks):=rfl
 obtain ⟨cd,hcd⟩:∃ cd,cd=(runI rows zeroV [] ks).2.2:=⟨_,rfl⟩
 obtain ⟨tot,htot⟩:∃ tot,tot=evsM rows zeroV ks:=⟨_,rfl⟩
 rw [← hcd] at HF0 kR ⊢
 rw [← htot] at HT0 ⊢
 clear hcd htot
 generalize mergeB (runI rows zeroV [] ks).2.1 (deadM rows (runI rows zeroV [] ks).1)=bugs9 at *
 generalize (runI rows zeroV [] ks).1=zz at *
 obtain ⟨es9,hes⟩:∃ es9,es9=(if cd=0 then tot else []):=⟨_,rfl⟩
 rw [← hes]
 have HE:Hid (es9=(if cd=0 then tot else [])):=hes
 clear hes
 have bw:Below w.heap.size w (w.alloc (.cells #[.slice a9 3 cap] 25)):=by go_grown
 have pP:Blk (w.alloc (.cells #[.slice a9 3 cap] 25)) w.heap.size 25 [.slice a9 3 cap]:=blkAt _ _ _ rfl
 have hUw:w.heap.size+1≤(w.alloc (.cells #[.slice a9 3 cap] 25)).heap.size:=pP.lt
 go_enter Tryd.func85,Tryd.ntmps85
 go_wp2_with fail
 generalize (w.alloc (.cells #[.slice a9 3 cap] 25))=U at *
 refine (kN _).mono ?_
 rintro e w1 ⟨⟨⟨⟨t0a,t0n,t0c⟩,⟨t1a,t1n,t1c⟩,⟨t2a,t2n,t2c⟩,⟨t3a,t3n,t3c⟩⟩,rfl,hO⟩,hb⟩
 have ut:S4.val ((t0a,t0n,t0c),(t1a,t1n,t1c),(t2a,t2n,t2c),(t3a,t3n,t3c))=.agg #[.slice t0a t0n t0c,.slice t1a t1n t1c,.slice t2a t2n t2c,.slice t3a t3n t3c]:=rfl
 rw [ut]
 replace bw:=bel_trans bw hb
 replace pP:=pP.below hb
 replace hO:=hO.lowerB (B':=w.heap.size) (by omega)
 have hX1:w.heap.size<w1.heap.size:=pP.lt
 clear hb kN ut hUw
 have ha:Below w1.heap.size w1 ((w1.alloc (.cells #[.slice t0a t0n t0c,.slice t1a t1n t1c,.slice t2a t2n t2c,.slice t3a t3n t3c] 30)).alloc (.cells #[] 154)):=by go_grown
 have pS:Blk ((w1.alloc (.cells #[.slice t0a t0n t0c,.slice t1a t1n t1c,.slice t2a t2n t2c,.slice t3a t3n t3c] 30)).alloc (.cells #[] 154)) w1.heap.size 30 [.slice t0a t0n t0c,.slice t1a t1n t1c,.slice t2a t2n t2c,.slice t3a t3n t3c]:=blkOld _ (blkAt _ _ _ rfl)
 have q:((w1.alloc (.cells #[.slice t0a t0n t0c,.slice t1a t1n t1c,.slice t2a t2n t2c,.slice t3a t3n t3c] 30)).alloc (.cells #[] 154)).ownsRow w.heap.size 154 4 (.slice (some ⟨w1.heap.size+1,0,none⟩) 0 0) 0 []:=by
  have h9:=own_emptyB (w1.alloc (.cells #[.slice t0a t0n t0c,.slice t1a t1n t1c,.slice t2a t2n t2c,.slice t3a t3n t3c] 30)) 154 4 w.heap.size (by simp;omega)
  simpa using h9
 replace bw:=bel_trans bw ha
 replace hO:=hO.below ha
 replace pP:=pP.below ha
 clear ha
 go_wp2_with (first | refine wpList_load_blk rfl 25 _ rfl w.heap.size rfl pP _ Tryd.underlying25 rfl (by kernel_rfl) ?_)
 generalize (w1.alloc (.cells #[.slice t0a t0n t0c,.slice t1a t1n t1c,.slice t2a t2n t2c,.slice t3a t3n t3c] 30)).alloc (.cells #[] 154)=W2 at *
 generalize w1.heap.size+1=g0 at *
 generalize w1.heap.size=X at *
 refine (kR _ bw).mono ?_
 rintro e w3 ⟨⟨⟨⟨r0a,r0n,r0c⟩,⟨r1a,r1n,r1c⟩,⟨r2a,r2n,r2c⟩,⟨r3a,r3n,r3c⟩⟩,vr,rfl,_,_⟩,hb⟩
 have ur:S4.val ((r0a,r0n,r0c),(r1a,r1n,r1c),(r2a,r2n,r2c),(r3a,r3n,r3c))=.agg #[.slice r0a r0n r0c,.slice r1a r1n r1c,.slice r2a r2n r2c,.slice r3a r3n r3c]:=rfl
 rw [ur]
 clear ur kR
 have ha:Below w3.heap.size w3 (w3.alloc (.cells #[.slice r0a r0n r0c,.slice r1a r1n r1c,.slice r2a r2n r2c,.slice r3a r3n r3c] 30)):=by go_grown
 have hb9:=bel_trans hb ha
 replace bw:=bel_trans bw hb9
 replace hO:=hO.below hb9
 replace pP:=pP.below hb9
 replace pS:=pS.below hb9
 replace q:=owns_below q hb9
 clear hb ha hb9
 by_cases hcz:cd=0
 ·have HE0:Hid (es9=tot):=by rw [Hid,HE.out,if_pos hcz]
  have HF1:Hid ((runI rows zeroV [] (ks.drop 0)).2.2=0):=by rw [Hid,HF0.out];exact hcz
  subst hcz
  clear HE HF0
  go_wp2_with fail
  generalize w3.alloc (.cells #[.slice r0a r0n r0c,.slice r1a r1n r1c,.slice r2a r2n r2c,.slice r3a r3n r3c] 30)=W3 at *
  have st:OnEs w W3 X a9 cap rows ks n 0 tot zeroV [] [] (.slice (some ⟨g0,0,none⟩) 0 0):=⟨by omega,HF1.out,zero_shape,⟨((t0a,t0n,t0c),(t1a,t1n,t1c),(t2a,t2n,t2c),(t3a,t3n,t3c)),pS,hO⟩,q,HT0.out,rfl,bw,pP,hX1⟩
  clear HF1 HT0 pS hO q bw pP
  go_loopw [7,11] (fun so si wr=>∃ (i:Nat) (m:V4) (fs:List I3) (es:List I4) (vo:Value),vo=so∧si=.int .i64 i∧OnEs w wr X a9 cap rows ks n i tot m fs es vo) (fun _ si _=>n - (intOf si).toNat)
  case atStart=>exact ⟨0,_,_,_,_,rfl,rfl,st⟩
  case round =>
   clear st
   obtain ⟨i,m,fs,es,so,rfl,rfl,hi,hr,hs,⟨⟨⟨t0a,t0n,t0c⟩,⟨t1a,t1n,t1c⟩,⟨t2a,t2n,t2c⟩,⟨t3a,t3n,t3c⟩⟩,pS,hO⟩,q,ht,hel,bw,pP,hX1⟩:=hrel
   replace pS:Blk wr X 30 [.slice t0a t0n t0c,.slice t1a t1n t1c,.slice t2a t2n t2c,.slice t3a t3n t3c]:=pS
   by_cases hlt:i<n
   ·obtain ⟨lb,lo,rfl,hc,hlb⟩:=ints_cellE hL hlt
    replace hc:=cells_kept bw _ _ hc
    have e9:ks.drop i=ks.getD i 0::ks.drop (i+1):=by rw [List.drop_eq_getElem_cons (by omega)];simp [List.getD,show i<ks.length by omega]
    rw [e9] at hr ht
    have hlt':(i:Int)<(n:Int):=by omega
    have hi0:(0:Int)≤(i:Int):=by omega
    have fm:=(shape_fits9 hs).1
    generalize ks.getD i 0=kk at *
    clear e9
    have hz:haltM rows m kk=0:=by
     by_cases h9:haltM rows m kk=0
     ·exact h9
     ·rw [show runI rows m fs (kk::ks.drop (i+1))=(m,fs,haltM rows m kk) by show (if haltM rows m kk=0 then _ else _)=_;rw [if_neg h9]] at hr
      exact hr
    have hr2:(runI rows (goM rows m kk).1 (fs++ownM rows m kk) (ks.drop (i+1))).2.2=0:=by
     rw [show runI rows m fs (kk::ks.drop (i+1))=runI rows (goM rows m kk).1 (fs++ownM rows m kk) (ks.drop (i+1)) by show (if haltM rows m kk=0 then _ else _)=_;rw [if_pos hz]] at hr
     exact hr
    obtain ⟨h0,h2,hd,hcn⟩:=halt_can hz
    have hs2:=goM_shape hp hs hz
    obtain ⟨k,rfl⟩:∃ k:Nat,kk=k:=⟨kk.toNat,by omega⟩
    rw [Int.toNat_natCast] at hd
    have hk:k<3:=by omega
    have ht2:es++(eventM rows m k::evsM rows (goM rows m (k:Int)).1 (ks.drop (i+1)))=tot:=ht
    clear hr ht hz h0 h2 hcn
    have kV:=fun (W:World) (b:Below w.heap.size w W) (h:Vmem W ((t0a,t0n,t0c),(t1a,t1n,t1c),(t2a,t2n,t2c),(t3a,t3n,t3c)) m)=>l05Event_is (cap:=cap) (hR.below b) h hp hs hk hd
    have kT:=fun (W:World) (b:Below w.heap.size w W) (h:Vmem W ((t0a,t0n,t0c),(t1a,t1n,t1c),(t2a,t2n,t2c),(t3a,t3n,t3c)) m)=>l03Step_is (cap:=cap) rfl (hR.below b) h hp hs hk hd
    rw [← goM_nat] at kT
    have ut:S4.val ((t0a,t0n,t0c),(t1a,t1n,t1c),(t2a,t2n,t2c),(t3a,t3n,t3c))=.agg #[.slice t0a t0n t0c,.slice t1a t1n t1c,.slice t2a t2n t2c,.slice t3a t3n t3c]:=rfl
    rw [ut] at kV kT
    clear ut hd
    obtain ⟨ev,hev⟩:∃ ev,ev=eventM rows m k:=⟨_,rfl⟩
    rw [← hev] at kV ht2
    obtain ⟨v0,v1,v2,v3⟩:=ev
    simp only at kV
    clear hev
    have HT2:Hid (es++((v0,v1,v2,v3)::evsM rows (goM rows m (k:Int)).1 (ks.drop (i+1)))=tot):=ht2
    have HR2:Hid ((runI rows (goM rows m (k:Int)).1 (fs++ownM rows m (k:Int)) (ks.drop (i+1))).2.2=0):=hr2
    clear ht2 hr2
    generalize fs++ownM rows m (k:Int)=fs2 at *
    generalize (goM rows m (k:Int)).1=z at *
    generalize (goM rows m (k:Int)).2=fd at *
    go_wp2_with fail
    refine wp_region_held_drew (S:=(fun w'=>w'.cell? ⟨w.heap.size,0,none⟩=some (.slice a9 3 cap)∧w'.cell? ⟨X,0,none⟩=some (.slice t0a t0n t0c)∧w'.cell? ⟨X,1,none⟩=some (.slice t1a t1n t1c)∧w'.cell? ⟨X,2,none⟩=some (.slice t2a t2n t2c)∧w'.cell? ⟨X,3,none⟩=some (.slice t3a t3n t3c)∧w'.cell? ⟨lb,lo+i,none⟩=some (.int .i64 (k:Int)))) (by kernel_rfl) ⟨by simpa using pP.cell 0,by simpa using pS.cell 0,by simpa using pS.cell 1,by simpa using pS.cell 2,by simpa using pS.cell 3,hc⟩ (fun hS0=>?_)
    refine tkm 0 33 so ?_
    refine tkm 1 34 (.agg #[.slice a9 3 cap]) ?_
    refine tkm 2 35 (.agg #[.slice t0a t0n t0c,.slice t1a t1n t1c,.slice t2a t2n t2c,.slice t3a t3n t3c]) ?_
    refine tkm 3 36 (.slice (some ⟨lb,lo,none⟩) n c) ?_
    refine tkm 4 37 (.int .i64 (i:Int)) ?_
    refine tkm 5 38 (.pointer (some ⟨lb,lo+i,none⟩)) ?_
    refine tkm 6 39 (.int .i64 (k:Int)) ?_
    have hb9:Below wr.heap.size wr wr.drew:=by go_grown
    replace bw:=bel_trans bw hb9
    replace pP:=pP.below hb9
    replace pS:=pS.below hb9
    replace hO:=hO.below hb9
    replace q:=owns_below q hb9
    replace hc:=cells_kept hb9 _ _ hc
    clear hb9
    have kVx:=kV _ bw (hO.mem fm)
    clear kV
    generalize wr.drew=V at *
    refine tkr 7 40 (fun K hK=>?_)
    go_simp
    refine kVx.mono ?_
    rintro e V1 ⟨rfl,hb⟩
    replace bw:=bel_trans bw hb
    replace pP:=pP.below hb
    replace pS:=pS.below hb
    replace hO:=hO.below hb
    replace q:=owns_below q hb
    replace hc:=cells_kept hb _ _ hc
    clear hb kVx
    go_wp2_with fail
    refine hK.out _ _ ⟨by simpa using pP.cell 0,by simpa using pS.cell 0,by simpa using pS.cell 1,by simpa using pS.cell 2,by simpa using pS.cell 3,hc⟩ (fun hS1=>?_)
    clear hK
    try simp only [Act.put,tka,tkb,tkc]
    refine tkr 8 41 (fun K hK=>?_)
    have hb:Below V1.heap.size V1 (V1.alloc (.cells #[.int .i64 v0,.int .i64 v1,.int .i64 v2,.int .i64 v3] 154)):=by go_grown
    have pV:Blk (V1.alloc (.cells #[.int .i64 v0,.int .i64 v1,.int .i64 v2,.int .i64 v3] 154)) V1.heap.size 154 [.int .i64 v0,.int .i64 v1,.int .i64 v2,.int .i64 v3]:=blkAt _ _ _ rfl
    replace bw:=bel_trans bw hb
    replace pP:=pP.below hb
    replace pS:=pS.below hb
    replace hO:=hO.below hb
    replace q:=owns_below q hb
    replace hc:=cells_kept hb _ _ hc
    go_simp
    refine hK.out _ _ ⟨by simpa using pP.cell 0,by simpa using pS.cell 0,by simpa using pS.cell 1,by simpa using pS.cell 2,by simpa using pS.cell 3,hc⟩ (fun hS2=>?_)
    clear hK hb
    generalize (V1.alloc (.cells #[.int .i64 v0,.int .i64 v1,.int .i64 v2,.int .i64 v3] 154))=V2 at *
    generalize V1.heap.size=G9 at *
    try simp only [Act.put,tka,tkb,tkc]
    refine tkr 9 42 (fun K hK=>?_)
    refine step_append_mine rfl _ _ 95 rfl w.heap.size 154 i0 (.agg #[.int .i64 0,.int .i64 0,.int .i64 0,.int .i64 0]) 4 32 Tryd.underlying95 hi9 hz0 hz1 hz2 rfl (by decide) so es.length (flat4 es) rfl q ⟨G9,0,none⟩ 1 1 [.int .i64 v0,.int .i64 v1,.int .i64 v2,.int .i64 v3] rfl rfl (four_at pV) (four_one _ _ _ _) (by unfold maxLen;omega) (by omega) bw.size ?_
    intro v9 V3 q9 gr
    have hqb:∀ j,so.ownBlock=some j→w.heap.size≤j:=fun j hj=>(q.lt j hj).1
    replace pP:=pP.kept gr (own_ne_blk q pP (by decide))
    replace pS:=pS.kept gr (own_ne_blk q pS (by decide))
    replace hO:=OwnV.neE hO q gr (by decide)
    replace hc:=cell_grownB gr hc (fun e9=>by have:=hqb _ e9.symm;simp only at this;omega)
    replace bw:=bw.grown gr bw.size hqb
    refine hK.out _ _ ⟨by simpa using pP.cell 0,by simpa using pS.cell 0,by simpa using pS.cell 1,by simpa using pS.cell 2,by simpa using pS.cell 3,hc⟩ (fun hS3=>?_)
    clear hK
    try simp only [Act.put,tka,tkb,tkc]
    refine tkm 10 7 v9 ?_
    refine wpAnyH_done (by kernel_rfl) ?_ _
    have R:V3.ownsRow w.heap.size 154 4 v9 (es++[(v0,v1,v2,v3)]).length (flat4 (es++[(v0,v1,v2,v3)])):=by
     rw [List.length_append,flat4_snoc]
     exact q9
    clear q q9 gr pV hS0 hS1 hS2 hS3 hqb
    have q:=R
    clear R
    have hln2:(es++[(v0,v1,v2,v3)]).length=i+1:=by rw [List.length_append,hel];rfl
    have HT3:Hid ((es++[(v0,v1,v2,v3)])++evsM rows z (ks.drop (i+1))=tot):=by rw [Hid,List.append_assoc];exact HT2.out
    have HL2:Hid ((es++[(v0,v1,v2,v3)]).length=i+1):=hln2
    clear HT2 hln2
    generalize es++[(v0,v1,v2,v3)]=es2 at *
    go_wp2_with fail
    refine wp_region_held_drew (S:=(fun w'=>w'.cell? ⟨w.heap.size,0,none⟩=some (.slice a9 3 cap)∧w'.cell? ⟨X,0,none⟩=some (.slice t0a t0n t0c)∧w'.cell? ⟨X,1,none⟩=some (.slice t1a t1n t1c)∧w'.cell? ⟨X,2,none⟩=some (.slice t2a t2n t2c)∧w'.cell? ⟨X,3,none⟩=some (.slice t3a t3n t3c)∧w'.cell? ⟨lb,lo+i,none⟩=some (.int .i64 (k:Int)))) (by kernel_rfl) ⟨by simpa using pP.cell 0,by simpa using pS.cell 0,by simpa using pS.cell 1,by simpa using pS.cell 2,by simpa using pS.cell 3,hc⟩ (fun hS0=>?_)
    refine tkm 0 44 (.agg #[.slice a9 3 cap]) ?_
    refine tkm 1 45 (.agg #[.slice t0a t0n t0c,.slice t1a t1n t1c,.slice t2a t2n t2c,.slice t3a t3n t3c]) ?_
    refine tkm 2 46 (.slice (some ⟨lb,lo,none⟩) n c) ?_
    refine tkm 3 47 (.int .i64 (i:Int)) ?_
    refine tkm 4 48 (.pointer (some ⟨lb,lo+i,none⟩)) ?_
    refine tkm 5 49 (.int .i64 (k:Int)) ?_
    have hb9:Below V3.heap.size V3 V3.drew:=by go_grown
    replace bw:=bel_trans bw hb9
    replace pP:=pP.below hb9
    replace pS:=pS.below hb9
    replace hO:=hO.below hb9
    replace q:=owns_below q hb9
    replace hc:=cells_kept hb9 _ _ hc
    clear hb9
    generalize V3.drew=Y0 at *
    refine wpAnyH_ready (rs:=[6,10]) (by kernel_rfl) (by simp) ?_
    refine AllReadyH.cons (o:=⟨some 50,_,_,_,_,_⟩) rfl (fun K hK=>?_) (AllReadyH.cons (o:=⟨some 12,_,_,_,_,_⟩) rfl (fun K hK=>?_) AllReadyH.nil)
    ·have kFx:=kT _ bw (hO.mem fm)
     go_simp
     refine kFx.mono ?_
     rintro e Y1 ⟨⟨⟨⟨z0a,z0n,z0c⟩,⟨z1a,z1n,z1c⟩,⟨z2a,z2n,z2c⟩,⟨z3a,z3n,z3c⟩⟩,rfl,hO2⟩,hb⟩
     have uz:S4.val ((z0a,z0n,z0c),(z1a,z1n,z1c),(z2a,z2n,z2c),(z3a,z3n,z3c))=.agg #[.slice z0a z0n z0c,.slice z1a z1n z1c,.slice z2a z2n z2c,.slice z3a z3n z3c]:=rfl
     rw [uz]
     replace hO2:=hO2.lowerB (B':=w.heap.size) bw.size
     replace bw:=bel_trans bw hb
     replace pP:=pP.below hb
     replace pS:=pS.below hb
     replace hO:=hO.below hb
     replace q:=owns_below q hb
     replace hc:=cells_kept hb _ _ hc
     clear hb kFx uz kT
     go_wp2_with fail
     refine hK.out _ _ ⟨by simpa using pP.cell 0,by simpa using pS.cell 0,by simpa using pS.cell 1,by simpa using pS.cell 2,by simpa using pS.cell 3,hc⟩ (fun hS5=>?_)
     clear hK
     try simp only [Act.put,tka,tkb,tkc]
     refine tkm 7 43 (.tuple #[.agg #[.slice z0a z0n z0c,.slice z1a z1n z1c,.slice z2a z2n z2c,.slice z3a z3n z3c],.int .i64 fd]) ?_
     refine tkm 8 51 (.agg #[.slice z0a z0n z0c,.slice z1a z1n z1c,.slice z2a z2n z2c,.slice z3a z3n z3c]) ?_
     refine tkm 9 52 (.int .i64 fd) ?_
     refine tkr 10 12 (fun K hK=>?_)
     have hb:Below Y1.heap.size Y1 (Y1.alloc (.cells #[.slice none 0 0,.slice none 0 0,.slice none 0 0,.slice none 0 0] 30)):=by go_grown
     have pX:Blk (Y1.alloc (.cells #[.slice none 0 0,.slice none 0 0,.slice none 0 0,.slice none 0 0] 30)) Y1.heap.size 30 [.slice none 0 0,.slice none 0 0,.slice none 0 0,.slice none 0 0]:=blkAt _ _ _ rfl
     have hX9:w.heap.size<Y1.heap.size∧X<Y1.heap.size:=⟨pP.lt,pS.lt⟩
     replace bw:=bel_trans bw hb
     replace pP:=pP.below hb
     replace pS:=pS.below hb
     replace hO:=hO.below hb
     replace q:=owns_below q hb
     replace hc:=cells_kept hb _ _ hc
     replace hO2:=hO2.below hb
     go_simp
     refine hK.out _ _ ⟨by simpa using pP.cell 0,by simpa using pS.cell 0,by simpa using pS.cell 1,by simpa using pS.cell 2,by simpa using pS.cell 3,hc⟩ (fun hS6=>?_)
     clear hK hb
     generalize (Y1.alloc (.cells #[.slice none 0 0,.slice none 0 0,.slice none 0 0,.slice none 0 0] 30))=Y2 at *
     generalize Y1.heap.size=Y at *
     try simp only [Act.put,tka,tkb,tkc]
     refine tkz 11 (fun K hK=>?_)
     refine step_store_blkD rfl 30 _ _ rfl Y [.slice z0a z0n z0c,.slice z1a z1n z1c,.slice z2a z2n z2c,.slice z3a z3n z3c] rfl rfl pX (by kernel_rfl) rfl rfl ?_
     intro V8 pX8 g8
     have m0:(some Y:Option Nat)≠some w.heap.size:=by simp;omega
     have m2:(some Y:Option Nat)≠some X:=by simp;omega
     replace hO2:=hO2.kept9 g8 pX (by decide)
     replace q:=q.kept g8 (own_apart_blk q pX (by decide))
     replace pP:=pP.kept g8 m0
     replace pS:=pS.kept g8 m2
     replace bw:=bw.grown g8 bw.size (fun j hj=>by cases hj;omega)
     replace hc:=cell_grownB g8 hc (by simp;omega)
     refine hK.out _ _ ⟨by simpa using pP.cell 0,by simpa using pS.cell 0,by simpa using pS.cell 1,by simpa using pS.cell 2,by simpa using pS.cell 3,hc⟩ (fun hS7=>?_)
     clear hK m0 m2 pX g8 hO
     have pX:=pX8.out
     clear pX8
     try simp only [Act.put,tka,tkb,tkc]
     refine tkm 12 13 (.int .i64 fd) ?_
     refine wpAnyH_done (by kernel_rfl) ?_ _
     clear hS0 hS5 hS6 hS7 hc
     go_wp2_with (first | refine wpList_load_blk rfl 30 _ rfl Y rfl pX _ Tryd.underlying30 rfl (by kernel_rfl) ?_ | refine wpList_store_blk rfl 30 _ _ rfl X [.slice z0a z0n z0c,.slice z1a z1n z1c,.slice z2a z2n z2c,.slice z3a z3n z3c] rfl rfl pS (by kernel_rfl) rfl rfl ?_)
     intro V9 pS9 g9
     have m0:(some X:Option Nat)≠some w.heap.size:=by simp;omega
     replace hO2:=hO2.kept9 g9 pS (by decide)
     replace q:=q.kept g9 (own_apart_blk q pS (by decide))
     replace pP:=pP.kept g9 m0
     replace bw:=bw.grown g9 bw.size (fun j hj=>by cases hj;omega)
     have st6:OnEs w V9 X a9 cap rows ks n (i+1) tot z fs2 es2 v9:=⟨by omega,HR2.out,hs2,⟨((z0a,z0n,z0c),(z1a,z1n,z1c),(z2a,z2n,z2c),(z3a,z3n,z3c)),pS9.out,hO2⟩,q,HT3.out,HL2.out,bw,pP,hX1⟩
     clear q pS pS9 g9 m0 pX hO2 bw pP hs2 hs fm HR2 HT3 HL2 hX9
     go_wp2
     go_roundw
     case rel=>exact ⟨i+1,_,_,_,_,rfl,by go_num,st6⟩
     case measure=>simp [intOf];omega
    ·have hb:Below Y0.heap.size Y0 (Y0.alloc (.cells #[.slice none 0 0,.slice none 0 0,.slice none 0 0,.slice none 0 0] 30)):=by go_grown
     have pX:Blk (Y0.alloc (.cells #[.slice none 0 0,.slice none 0 0,.slice none 0 0,.slice none 0 0] 30)) Y0.heap.size 30 [.slice none 0 0,.slice none 0 0,.slice none 0 0,.slice none 0 0]:=blkAt _ _ _ rfl
     have hX9:w.heap.size<Y0.heap.size∧X<Y0.heap.size:=⟨pP.lt,pS.lt⟩
     replace bw:=bel_trans bw hb
     replace pP:=pP.below hb
     replace pS:=pS.below hb
     replace hO:=hO.below hb
     replace q:=owns_below q hb
     replace hc:=cells_kept hb _ _ hc
     go_simp
     refine hK.out _ _ ⟨by simpa using pP.cell 0,by simpa using pS.cell 0,by simpa using pS.cell 1,by simpa using pS.cell 2,by simpa using pS.cell 3,hc⟩ (fun hS6=>?_)
     clear hK hb
     generalize (Y0.alloc (.cells #[.slice none 0 0,.slice none 0 0,.slice none 0 0,.slice none 0 0] 30))=Y2 at *
     generalize Y0.heap.size=Y at *
     try simp only [Act.put,tka,tkb,tkc]
     refine tkr 6 50 (fun K hK=>?_)
     have kFx:=kT _ bw (hO.mem fm)
     go_simp
     refine kFx.mono ?_
     rintro e Y3 ⟨⟨⟨⟨z0a,z0n,z0c⟩,⟨z1a,z1n,z1c⟩,⟨z2a,z2n,z2c⟩,⟨z3a,z3n,z3c⟩⟩,rfl,hO2⟩,hb⟩
     have uz:S4.val ((z0a,z0n,z0c),(z1a,z1n,z1c),(z2a,z2n,z2c),(z3a,z3n,z3c))=.agg #[.slice z0a z0n z0c,.slice z1a z1n z1c,.slice z2a z2n z2c,.slice z3a z3n z3c]:=rfl
     rw [uz]
     replace hO2:=hO2.lowerB (B':=w.heap.size) bw.size
     replace bw:=bel_trans bw hb
     replace pP:=pP.below hb
     replace pS:=pS.below hb
     replace hO:=hO.below hb
     replace q:=owns_below q hb
     replace hc:=cells_kept hb _ _ hc
     replace pX:=pX.below hb
     clear hb kFx uz kT
     go_wp2_with fail
     refine hK.out _ _ ⟨by simpa using pP.cell 0,by simpa using pS.cell 0,by simpa using pS.cell 1,by simpa using pS.cell 2,by simpa using pS.cell 3,hc⟩ (fun hS5=>?_)
     clear hK
     try simp only [Act.put,tka,tkb,tkc]
     refine tkm 7 43 (.tuple #[.agg #[.slice z0a z0n z0c,.slice z1a z1n z1c,.slice z2a z2n z2c,.slice z3a z3n z3c],.int .i64 fd]) ?_
     refine tkm 8 51 (.agg #[.slice z0a z0n z0c,.slice z1a z1n z1c,.slice z2a z2n z2c,.slice z3a z3n z3c]) ?_
     refine tkm 9 52 (.int .i64 fd) ?_
     refine tkz 11 (fun K hK=>?_)
     refine step_store_blkD rfl 30 _ _ rfl Y [.slice z0a z0n z0c,.slice z1a z1n z1c,.slice z2a z2n z2c,.slice z3a z3n z3c] rfl rfl pX (by kernel_rfl) rfl rfl ?_
     intro V8 pX8 g8
     have m0:(some Y:Option Nat)≠some w.heap.size:=by simp;omega
     have m2:(some Y:Option Nat)≠some X:=by simp;omega
     replace hO2:=hO2.kept9 g8 pX (by decide)
     replace q:=q.kept g8 (own_apart_blk q pX (by decide))
     replace pP:=pP.kept g8 m0
     replace pS:=pS.kept g8 m2
     replace bw:=bw.grown g8 bw.size (fun j hj=>by cases hj;omega)
     replace hc:=cell_grownB g8 hc (by simp;omega)
     refine hK.out _ _ ⟨by simpa using pP.cell 0,by simpa using pS.cell 0,by simpa using pS.cell 1,by simpa using pS.cell 2,by simpa using pS.cell 3,hc⟩ (fun hS7=>?_)
     clear hK m0 m2 pX g8 hO
     have pX:=pX8.out
     clear pX8
     try simp only [Act.put,tka,tkb,tkc]
     refine tkm 12 13 (.int .i64 fd) ?_
     refine wpAnyH_done (by kernel_rfl) ?_ _
     clear hS0 hS5 hS6 hS7 hc
     go_wp2_with (first | refine wpList_load_blk rfl 30 _ rfl Y rfl pX _ Tryd.underlying30 rfl (by kernel_rfl) ?_ | refine wpList_store_blk rfl 30 _ _ rfl X [.slice z0a z0n z0c,.slice z1a z1n z1c,.slice z2a z2n z2c,.slice z3a z3n z3c] rfl rfl pS (by kernel_rfl) rfl rfl ?_)
     intro V9 pS9 g9
     have m0:(some X:Option Nat)≠some w.heap.size:=by simp;omega
     replace hO2:=hO2.kept9 g9 pS (by decide)
     replace q:=q.kept g9 (own_apart_blk q pS (by decide))
     replace pP:=pP.kept g9 m0
     replace bw:=bw.grown g9 bw.size (fun j hj=>by cases hj;omega)
     have st6:OnEs w V9 X a9 cap rows ks n (i+1) tot z fs2 es2 v9:=⟨by omega,HR2.out,hs2,⟨((z0a,z0n,z0c),(z1a,z1n,z1c),(z2a,z2n,z2c),(z3a,z3n,z3c)),pS9.out,hO2⟩,q,HT3.out,HL2.out,bw,pP,hX1⟩
     clear q pS pS9 g9 m0 pX hO2 bw pP hs2 hs fm HR2 HT3 HL2 hX9
     go_wp2
     go_roundw
     case rel=>exact ⟨i+1,_,_,_,_,rfl,by go_num,st6⟩
     case measure=>simp [intOf];omega
   ·obtain rfl:i=n:=by omega
    have hte:es=tot:=by rw [← ht,List.drop_of_length_le (by omega)];simp [evsM]
    have HZ:Hid (es9=es):=HE0.out.trans hte.symm
    clear hr ht hte HE0 pS hO pP
    go_wp2
    go_ret2
    rw [HZ.out]
    exact ⟨⟨_,rfl,q⟩,bw⟩
 ·have hne:(cd != 0)=true:=by simp [hcz]
  have HZ:Hid (es9=[]):=by rw [Hid,HE.out,if_neg hcz]
  clear HE HF0 HT0 hcz pS hO pP
  go_wp2
  go_ret2
  rw [HZ.out]
  exact ⟨⟨_,rfl,q⟩,bw⟩


noncomputable def stJ (es:List I4) (s:Nat):(Nat→Nat) × List Nat:=stI (depE es) (thE es) es.length s
theorem stJ_next (es:List I4) (s:Nat):stJ es (s+1)=(fun t=>(stJ es s).1 t+(if t=leastT (okN (depE es) (thE es) (stJ es s).1) (thE es) es.length then 1 else 0),(stJ es s).2++[leastT (okN (depE es) (thE es) (stJ es s).1) (thE es) es.length]):=rfl
theorem stJ_bound (es:List I4) (t:Nat):∀ s,(stJ es s).1 t≤s
 | 0=>Nat.le_refl _
 | s+1=>by
  rw [stJ_next]
  have:=stJ_bound es t s
  show (stJ es s).1 t+_≤_
  split<;>omega
theorem stJ_least {es:List I4} (h:inThree es) {s:Nat} (hs:s<es.length):leastT (okN (depE es) (thE es) (stJ es s).1) (thE es) es.length<3:=by
 obtain ⟨_,_,_,h4⟩:=norm_same (D:=depE es) (B:=befB (depE es)) (depE_thread h) (thE_three h) (n:=es.length) (fun i k _ _=>befB_iff) s (by omega)
 obtain ⟨b,_,_,hl⟩:=h4 hs
 unfold stJ
 rw [hl]
 exact thE_three h b
theorem stJ_end {es:List I4} (h:inThree es):(stJ es es.length).2.map (fun t:Nat=>(t:Int))=nrmE es:=by
 unfold nrmE stJ
 rw [(norm_is h).2]
theorem stJ_len (es:List I4):∀ s,(stJ es s).2.length=s
 | 0=>rfl
 | s+1=>by rw [stJ_next,List.length_append,stJ_len es s];rfl
theorem nrmE_len {es:List I4} (h:inThree es):(nrmE es).length=es.length:=by
 rw [← stJ_end h,List.length_map,stJ_len]
theorem evsM_three {rows:List (List I3)}:∀ (ks:List Int) (m:V4) (fs:List I3),(runI rows m fs ks).2.2=0→inThree (evsM rows m ks)
 | [],_,_,_=>fun x hx=>by simp [evsM] at hx
 | k::ks,m,fs,h=>by
  obtain ⟨hz,he⟩:=runI_cons h
  rw [he] at h
  have ih:=evsM_three ks _ _ h
  obtain ⟨h0,h2,_⟩:=halt_can hz
  intro x hx
  simp only [evsM,List.mem_cons] at hx
  rcases hx with rfl | hx
  ·show 0≤(eventM rows m k.toNat).1∧(eventM rows m k.toNat).1<3
   unfold eventM
   simp only
   omega
  ·exact ih x hx
def OnNrm (w wr:World) (gT:Nat) (es:List I4) (s:Nat) (v:Value):Prop:=
 Blk wr gT 160 (tab 3 fun u=>.int .i64 ((stJ es s).1 u:Nat))∧wr.ownsRow w.heap.size 3 1 v s (((stJ es s).2.map (fun t:Nat=>(t:Int))).map (Value.int .i64))∧Below w.heap.size w wr

def L1Got (e:Ending) (w:World) (B:Nat) (ks:List Int):Prop:=∃ v,e=.returned v∧w.ownsRow B 3 1 v ks.length (ks.map (Value.int .i64))

theorem normalOf_is (ea:Option Addr) (n9 ec:Nat) (es:List I4) (w1:World) (hEv:Evs w1 ea n9 es) (hE:n9≤4096) (hec:n9≤ec) (hI:inThree es) (hn9:n9=es.length) :
  Calls Tryd.prog 54 #[.slice ea n9 ec] w1 fun e w'=>L1Got e w' w1.heap.size (nrmE es)∧Below w1.heap.size w1 w':=by
 obtain ⟨i1,hi,hz3,hz4,hz5⟩:=info_parts info_int
 have HL:Hid (n9=es.length):=hn9
 clear hn9
 have kC:=clocksOf_is ea n9 ec es w1 hEv hE hec hI
 go_enter Tryd.func54,Tryd.ntmps54
 go_wp2_with fail
 refine kC.mono ?_
 rintro e w2 ⟨gC,rfl,pC,hgC,hb⟩
 have hEv2:=hEv.below hb
 have bw2:=hb
 clear kC hb hEv hgC
 have ha:Below w2.heap.size w2 (w2.alloc (.cells #[.int .i64 0,.int .i64 0,.int .i64 0] 160)):=by go_grown
 have pT:=Blk.new w2 160 [.int .i64 0,.int .i64 0,.int .i64 0]
 have st:OnNrm w2 (w2.alloc (.cells #[.int .i64 0,.int .i64 0,.int .i64 0] 160)) w2.heap.size es 0 (.slice none 0 0):=⟨pT,World.ownsRow_nil _ _ _ _,ha⟩
 have HLs:Hid (∀ s,s<n9→leastT (okN (depE es) (thE es) (stJ es s).1) (thE es) n9<3):=fun s hs=>by
  have:=stJ_least hI (s:=s) (by rw [← HL.out];exact hs)
  rw [← HL.out] at this
  exact this
 have HNx:Hid (∀ s,stJ es (s+1)=(fun t=>(stJ es s).1 t+(if t=leastT (okN (depE es) (thE es) (stJ es s).1) (thE es) n9 then 1 else 0),(stJ es s).2++[leastT (okN (depE es) (thE es) (stJ es s).1) (thE es) n9])):=fun s=>by rw [HL.out];exact stJ_next es s
 have kL:=fun W (b:Below w2.heap.size w2 W) (f:Nat→Nat) (hf:∀ t,f t≤5000)=>leastThread_is ea n9 ec gC es W (hEv2.below b) hE hI (pC.below b) f hf
 unfold ck at kL
 obtain ⟨gT,hgT⟩:∃ gT,gT=w2.heap.size:=⟨_,rfl⟩
 have hgTw:w2.heap.size≤gT:=by omega
 rw [← hgT] at st
 have HG:Hid (gT=w2.heap.size):=hgT
 clear pC hEv2 pT ha hgT
 go_wp2_with fail
 rw [← HG.out]
 go_loopw [4,11] (fun sv si wr=>∃ (s:Nat) (vv:Value),s≤n9∧vv=sv∧si=.int .i64 s∧OnNrm w2 wr gT es s vv) (fun _ si _=>n9 - (intOf si).toNat)
 case atStart=>exact ⟨0,_,by omega,rfl,rfl,st⟩
 case round =>
  clear st
  obtain ⟨s,vv,hs,rfl,rfl,pT,q,b2⟩:=hrel
  by_cases hsn:s<n9
  ·have hsn':(s:Int)<(n9:Int):=by omega
   have kLx:=kL wr b2 (stJ es s).1 (fun t=>by have:=stJ_bound es t s;omega)
   have hl3:=HLs.out s hsn
   have HX:Hid (stJ es (s+1)=_):=HNx.out s
   have hll:=stJ_len es s
   have hbd:=fun t=>stJ_bound es t s
   generalize leastT (okN (depE es) (thE es) (stJ es s).1) (thE es) n9=l at *
   have pT9:=pT
   rw [tab_three] at pT9
   go_wp2_with (first | refine wpList_load_blk rfl 160 _ rfl gT rfl pT9 _ Tryd.underlying160 rfl (by kernel_rfl) ?_)
   refine kLx.mono ?_
   rintro e w3 ⟨rfl,hb⟩
   have pT3:=pT.below hb
   have q3:=owns_below q hb
   have b3:=bel_trans b2 hb
   clear kLx hb pT pT9 q b2
   have ht9:(l:Int)<3:=by omega
   have ht8:(0:Int)≤(l:Int):=by omega
   have c0:=(pT3.cell l).trans (tab_get _ hl3)
   have f0:=pT3.frozen l
   have hft:=hbd l
   have pT4:Hid (Blk (w3.setCell ⟨gT,l,none⟩ (.int .i64 (((stJ es s).1 l:Nat)+1:Int))) gT 160 (tab 3 fun u=>.int .i64 ((stJ es (s+1)).1 u:Nat))):=by
    have:=pT3.set l (.int .i64 (((stJ es s).1 l:Nat)+1:Int))
    rw [tab_set] at this
    unfold Hid
    rw [HX.out]
    refine this.trans ?_
    congr 3
    refine tab_congr (fun u _=>?_)
    by_cases e:u=l
    ·subst e;simp
    ·simp [e]
   have gs:w3.grownBy (w3.setCell ⟨gT,l,none⟩ (.int .i64 (((stJ es s).1 l:Nat)+1:Int))) (some gT):=⟨rfl,rfl,rfl,by simp,fun i _ hr=>Below.heap_setCell w3 ⟨gT,l,none⟩ _ i (fun e=>hr (by rw [e]))⟩
   have q4:=q3.kept gs (.inr (own_ne_blk q3 pT3 (by decide)))
   have b4:=b3.grown gs b3.size (fun x hx=>by cases hx;exact hgTw)
   have hsz:=b4.size
   clear pT3 q3 b3 gs
   obtain ⟨wx,hwx⟩:∃ wx,wx=w3.setCell ⟨gT,l,none⟩ (.int .i64 (((stJ es s).1 l:Nat)+1:Int)):=⟨_,rfl⟩
   rw [← hwx] at pT4 q4 b4 hsz
   have HW:Hid (wx=w3.setCell ⟨gT,l,none⟩ (.int .i64 (((stJ es s).1 l:Nat)+1:Int))):=hwx
   have HZ:Hid (w3.heap.size=wx.heap.size):=by rw [Hid,hwx];simp
   clear hwx
   go_wp2_with (at_builtin;rw [← HW.out];(try rw [HZ.out]);refine wpList_append_own _ rfl _ _ 27 rfl w2.heap.size 3 i1 (.int .i64 0) 1 8 Tryd.underlying27 hi hz3 hz4 hz5 rfl (by decide) _ _ _ rfl (q4.alloc _) ⟨wx.heap.size,0,none⟩ 1 1 [.int .i64 (l:Int)] rfl rfl (cell_one_new _ _ _) (by simp [Value.oneCell']) ?c3 ?c4 ?c5 ?_)
   case c3=>unfold maxLen;omega
   case c4=>omega
   case c5=>simp;omega
   intro v' wn hown' hgrow hx9
   clear hx9
   have ha:Below wx.heap.size wx (wx.alloc (.cells #[.int .i64 (l:Int)] 3)):=by go_grown
   have R:wn.ownsRow w2.heap.size 3 1 v' (s+1) (((stJ es (s+1)).2.map (fun t:Nat=>(t:Int))).map (Value.int .i64)):=by
    rw [HX.out]
    simp only [List.map_append,List.map_map,List.map_cons,List.map_nil,Function.comp_apply]
    exact hown'
   have qa:=owns_below q4 ha
   have st2:OnNrm w2 wn gT es (s+1) v':=by
    have pTa:=pT4.out.below ha
    exact ⟨pTa.kept hgrow (own_ne_blk qa pTa (by decide)),R,(bel_trans b4 ha).grown hgrow (Nat.le_trans hsz ha.size) (fun x hx=>(q4.lt x hx).1)⟩
   clear hown' hgrow R qa ha q4 pT4 b4
   go_wp2
   go_roundw
   case rel=>exact ⟨s+1,_,by omega,rfl,by go_num,st2⟩
   case measure=>simp [intOf];omega
  ·obtain rfl:s=n9:=by omega
   have HE:Hid ((stJ es s).2.map (fun t:Nat=>(t:Int))=nrmE es):=by
    have:=stJ_end hI
    rw [← HL.out] at this
    exact this
   have hl9:(nrmE es).length=s:=by rw [← HE.out,List.length_map,stJ_len]
   rw [HE.out] at q
   have q9:=own_lowerB (B':=w1.heap.size) q bw2.size
   have b9:=bel_trans bw2 b2
   clear pT q
   go_wp2
   go_ret
   exact ⟨⟨_,rfl,by rw [hl9];exact q9⟩,b9⟩

end Go.Proofs.YtjgffnlmjmibgaaDoor
