/-
  Joined: FndS, RunS.
-/
import Derived.Test.YtifoggpohlegmaaGreatDoorC37

namespace Go.Proofs.YtifoggpohlegmaaGreatDoor
set_option maxRecDepth 100000
set_option maxHeartbeats 16000000
open Go.RowKit
set_option linter.unusedVariables false
set_option linter.unusedSimpArgs false

def FoundGot (e:Ending) (w:World) (B:Nat) (z:V4) (fs:List I3):Prop:=∃ (t:S4) (v:Value),e=.returned (.tuple #[t.val,v])∧OwnV w B t z∧w.ownsRow B 64 3 v fs.length (flat fs)
theorem own_apart_blk {w:World} {B e s n g t:Nat} {v:Value} {xs cs:List Value} (h:w.ownsRow B e s v n xs) (hB:Blk w g t cs) (he:e≠t):v.ownBlock=none∨v.ownBlock≠some g:=.inr (own_ne_blk h hB he)
theorem owns_low {B e s n:Nat} {v:Value} {xs:List Value} {w w':World} (h:w.ownsRow B e s v n xs) (hb:Below w.heap.size w w'):w'.ownsRow B e s v n xs:=by
 refine h.kept (w':=w') (row:=none) ⟨hb.os,hb.tape,hb.output,hb.size,fun k hk _=>hb.block k hk⟩ ?_
 cases v.ownBlock with
 | none=>exact .inl rfl
 | some x=>exact .inr (by simp)
theorem goM_nat (rows:List (List I3)) (m:V4) (k:Nat):goM rows m (k:Int)=stepM m (insM rows m k) k:=by unfold goM;rw [Int.toNat_natCast]
theorem step_code (m:V4) (x:I3) (k:Nat):(stepM m x k).2=0∨(stepM m x k).2=12∨(stepM m x k).2=13:=by
 unfold stepM
 repeat' split
 all_goals simp
theorem instrs_own {w:World} {B g n c:Nat} {xs:List I3} (h:w.ownsRow B 64 3 (.slice (some ⟨g,0,none⟩) n c) n (flat xs)) (hl:xs.length=n) (hf:∀ x ∈ xs,I3.fits x):Instrs w (some ⟨g,0,none⟩) n c xs:=Instrs.of_owns h hl hf rfl

theorem l04Found_is {w:World} {a9:Option Addr} {cap:Nat} {cs:Sl × Sl × Sl} {rows:List (List I3)} {s:S4} {m:V4} (hR:RowsAt w a9 cs rows) (h:Vmem w s m) (hp:progOk rows=true) (hs:shapeOk m=true) {k:Nat} (hk:k<3) (hd:doneM rows m k=false) :
  Calls Tryz.prog 88 #[.agg #[.slice a9 3 cap],s.val,.int .i64 k] w fun e w'=>FoundGot e w' w.heap.size (goM rows m k).1 (foundM rows m k)∧Below w.heap.size w w':=by
 obtain ⟨i0,hi,hz0,hz1,hz2⟩:=info_parts info_bug
 have kP:=fun (W:World) (hR:RowsAt W a9 cs rows) (h:Vmem W s m)=>l03Step_is (cap:=cap) rfl hR h hp hs hk hd
 have hsz:=shape_step hp hs hk hd
 obtain ⟨fin,hfin⟩:∃ fin,fin=foundM rows m k:=⟨_,rfl⟩
 rw [← hfin,goM_nat]
 unfold foundM ownM at hfin
 rw [goM_nat,Int.toNat_natCast] at hfin
 have hf9:=step_code m (insM rows m k) k
 generalize stepM m (insM rows m k) k=zf at *
 obtain ⟨z,f⟩:=zf
 simp only at kP hsz hfin hf9 ⊢
 have fz:=(shape_fits9 hsz).1
 have kU:=fun (W:World) (hR:RowsAt W a9 cs rows) (t:S4) (h:Vmem W t z)=>l03Stuck_is a9 3 cap rows t z cs W rfl hR h hp hsz
 obtain ⟨own,hown⟩:∃ own:List I3,own=if f=0 then [] else [(f,(k:Int),m.1.getD k 0)]:=⟨_,rfl⟩
 rw [← hown] at hfin
 have HFin:Hid (fin=if stuckM rows z then putB own (14,0,0) else own):=hfin
 have HOwn:Hid (own=if f=0 then [] else [(f,(k:Int),m.1.getD k 0)]):=hown
 clear hfin hown
 obtain ⟨b,off,rfl,hbl,hrow⟩:=id hR
 clear hbl hrow
 have hM:=h
 obtain ⟨⟨j0,_⟩,_⟩:=h
 obtain ⟨l0,_⟩:=shape_parts hs
 have hpc9:=getD_in (shape_bounds hs).1 (by decide) k
 obtain ⟨⟨a0,n0,c0⟩,⟨a1,n1,c1⟩,⟨a2,n2,c2⟩,⟨a3,n3,c3⟩⟩:=s
 simp only at j0
 obtain ⟨rfl,b0,o0,rfl⟩:=some_of_ints j0 l0 (by decide)
 have r1:=ints_at9 j0 (t:=k) hk
 have uA:S4.val ((some ⟨b0,o0,none⟩,3,c0),(a1,n1,c1),(a2,n2,c2),(a3,n3,c3))=.agg #[.slice (some ⟨b0,o0,none⟩) 3 c0,.slice a1 n1 c1,.slice a2 n2 c2,.slice a3 n3 c3]:=rfl
 rw [uA] at kP ⊢
 clear uA j0 l0 hp hs hd
 generalize m.1.getD k 0=pc at *
 have hk3:(k:Int)<3:=by omega
 have bw:Below w.heap.size w (((w.alloc (.cells #[.slice (some ⟨b,off,none⟩) 3 cap] 25)).alloc (.cells #[.slice (some ⟨b0,o0,none⟩) 3 c0,.slice a1 n1 c1,.slice a2 n2 c2,.slice a3 n3 c3] 33)).alloc (.cells #[.slice none 0 0,.slice none 0 0,.slice none 0 0,.slice none 0 0] 33)):=by go_grown
 have pP:Blk (((w.alloc (.cells #[.slice (some ⟨b,off,none⟩) 3 cap] 25)).alloc (.cells #[.slice (some ⟨b0,o0,none⟩) 3 c0,.slice a1 n1 c1,.slice a2 n2 c2,.slice a3 n3 c3] 33)).alloc (.cells #[.slice none 0 0,.slice none 0 0,.slice none 0 0,.slice none 0 0] 33)) w.heap.size 25 [.slice (some ⟨b,off,none⟩) 3 cap]:=blkOld _ (blkOld _ (blkAt _ _ _ rfl))
 have pS:Blk (((w.alloc (.cells #[.slice (some ⟨b,off,none⟩) 3 cap] 25)).alloc (.cells #[.slice (some ⟨b0,o0,none⟩) 3 c0,.slice a1 n1 c1,.slice a2 n2 c2,.slice a3 n3 c3] 33)).alloc (.cells #[.slice none 0 0,.slice none 0 0,.slice none 0 0,.slice none 0 0] 33)) (w.heap.size+1) 33 [.slice (some ⟨b0,o0,none⟩) 3 c0,.slice a1 n1 c1,.slice a2 n2 c2,.slice a3 n3 c3]:=blkOld _ (blkAt _ _ _ (by simp))
 have pR:Blk (((w.alloc (.cells #[.slice (some ⟨b,off,none⟩) 3 cap] 25)).alloc (.cells #[.slice (some ⟨b0,o0,none⟩) 3 c0,.slice a1 n1 c1,.slice a2 n2 c2,.slice a3 n3 c3] 33)).alloc (.cells #[.slice none 0 0,.slice none 0 0,.slice none 0 0,.slice none 0 0] 33)) (w.heap.size+2) 33 [.slice none 0 0,.slice none 0 0,.slice none 0 0,.slice none 0 0]:=blkAt _ _ _ (by simp)
 have hW1:w.heap.size+3≤(((w.alloc (.cells #[.slice (some ⟨b,off,none⟩) 3 cap] 25)).alloc (.cells #[.slice (some ⟨b0,o0,none⟩) 3 c0,.slice a1 n1 c1,.slice a2 n2 c2,.slice a3 n3 c3] 33)).alloc (.cells #[.slice none 0 0,.slice none 0 0,.slice none 0 0,.slice none 0 0] 33)).heap.size:=by simp
 go_enter Tryz.func88,Tryz.ntmps88
 go_wp2_with fail
 generalize (((w.alloc (.cells #[.slice (some ⟨b,off,none⟩) 3 cap] 25)).alloc (.cells #[.slice (some ⟨b0,o0,none⟩) 3 c0,.slice a1 n1 c1,.slice a2 n2 c2,.slice a3 n3 c3] 33)).alloc (.cells #[.slice none 0 0,.slice none 0 0,.slice none 0 0,.slice none 0 0] 33))=W1 at *
 have kPx:=kP W1 (hR.below bw) (hM.below bw)
 go_wp2_with (first | refine wpList_load_blk rfl 25 _ rfl w.heap.size rfl pP _ Tryz.underlying25 rfl (by kernel_rfl) ?_ | refine wpList_load_blk rfl 33 _ rfl (w.heap.size+1) rfl pS _ Tryz.underlying33 rfl (by kernel_rfl) ?_)
 refine kPx.mono ?_
 rintro e w2 ⟨⟨⟨⟨t0a,t0n,t0c⟩,⟨t1a,t1n,t1c⟩,⟨t2a,t2n,t2c⟩,⟨t3a,t3n,t3c⟩⟩,rfl,hO⟩,hb⟩
 replace hO:=hO.lowerB (B':=w.heap.size+3) hW1
 replace bw:=bel_trans bw hb
 replace pP:=pP.below hb
 replace pS:=pS.below hb
 replace pR:=pR.below hb
 have hsz2:w.heap.size+3≤w2.heap.size:=Nat.le_trans hW1 hb.size
 clear hb kPx kP hW1
 have ha:Below w2.heap.size w2 ((w2.alloc (.cells #[.slice t0a t0n t0c,.slice t1a t1n t1c,.slice t2a t2n t2c,.slice t3a t3n t3c] 33)).alloc (.cells #[] 64)):=by go_grown
 have pX:Blk ((w2.alloc (.cells #[.slice t0a t0n t0c,.slice t1a t1n t1c,.slice t2a t2n t2c,.slice t3a t3n t3c] 33)).alloc (.cells #[] 64)) w2.heap.size 33 [.slice t0a t0n t0c,.slice t1a t1n t1c,.slice t2a t2n t2c,.slice t3a t3n t3c]:=blkOld _ (blkAt _ _ _ rfl)
 have oO:((w2.alloc (.cells #[.slice t0a t0n t0c,.slice t1a t1n t1c,.slice t2a t2n t2c,.slice t3a t3n t3c] 33)).alloc (.cells #[] 64)).ownsRow w.heap.size 64 3 (.slice (some ⟨w2.heap.size+1,0,none⟩) 0 0) 0 []:=by
  have h9:=own_emptyB (w2.alloc (.cells #[.slice t0a t0n t0c,.slice t1a t1n t1c,.slice t2a t2n t2c,.slice t3a t3n t3c] 33)) 64 3 w.heap.size (by simp;omega)
  simpa using h9
 replace bw:=bel_trans bw ha
 replace hO:=hO.below ha
 replace pP:=pP.below ha
 replace pS:=pS.below ha
 replace pR:=pR.below ha
 replace r1:=cells_kept bw _ _ r1
 have uX:S4.val ((t0a,t0n,t0c),(t1a,t1n,t1c),(t2a,t2n,t2c),(t3a,t3n,t3c))=.agg #[.slice t0a t0n t0c,.slice t1a t1n t1c,.slice t2a t2n t2c,.slice t3a t3n t3c]:=rfl
 rw [uX]
 clear ha hsz
 by_cases hf:f=0
 ·subst hf
  have HO2:Hid (own=[]):=by rw [Hid,HOwn.out];rfl
  have hfit:∀ x ∈ ([]:List I3),I3.fits x:=by simp
  have kUx:=kU _ (hR.below bw) _ (hO.mem fz)
  rw [uX] at kUx
  clear HOwn hf9 pS r1 hM hR kU uX
  cases hst:stuckM rows z
  ·rw [hst] at kUx
   have HF:Hid (fin=[]):=by rw [Hid,HFin.out,hst,HO2.out];rfl
   clear hst HFin HO2
   go_wp2_with (first | refine wpList_load_blk rfl 25 _ rfl w.heap.size rfl pP _ Tryz.underlying25 rfl (by kernel_rfl) ?_ | refine wpList_load_blk rfl 33 _ rfl w2.heap.size rfl pX _ Tryz.underlying33 rfl (by kernel_rfl) ?_)
   refine kUx.mono ?_
   rintro e u1 ⟨rfl,hb⟩
   replace bw:=bel_trans bw hb
   replace hO:=hO.below hb
   replace oO:=owns_low oO hb
   replace pP:=pP.below hb
   replace pR:=pR.below hb
   replace pX:=pX.below hb
   clear hb
   clear kUx
   have q3:u1.ownsRow w.heap.size 64 3 (.slice (some ⟨(w2.heap.size+1),0,none⟩) 0 0) fin.length (flat fin):=by rw [HF.out];exact oO
   clear oO HF
   go_wp2_with (first | refine wpList_load_blk rfl 33 _ rfl w2.heap.size rfl pX _ Tryz.underlying33 rfl (by kernel_rfl) ?_ | refine wpList_store_blk rfl 33 _ _ rfl (w.heap.size+2) [.slice t0a t0n t0c,.slice t1a t1n t1c,.slice t2a t2n t2c,.slice t3a t3n t3c] rfl rfl pR (by kernel_rfl) rfl rfl ?_)
   intro u2 pR2 g2
   have q2:=q3.kept g2 (own_apart_blk q3 pR (by decide))
   clear q3
   have hO2:=(hO.kept9 g2 pR (by decide)).lowerB (B':=w.heap.size) (by omega)
   have bw2:=bw.grown g2 bw.size (fun k e=>by cases e;omega)
   clear g2 hO bw
   go_wp2_with fail
   refine bodyPost_ret (results_blk2 Tryz.results88 _ _ _ _ _ _ rfl pR2.out Tryz.underlying33 rfl (by kernel_rfl)) rfl ?_
   exact ⟨⟨((t0a,t0n,t0c),(t1a,t1n,t1c),(t2a,t2n,t2c),(t3a,t3n,t3c)),_,rfl,hO2,q2⟩,bw2⟩
  ·rw [hst] at kUx
   have HF:Hid (fin=putB [] (14,0,0)):=by rw [Hid,HFin.out,hst,HO2.out];rfl
   clear hst HFin HO2
   go_wp2_with (first | refine wpList_load_blk rfl 25 _ rfl w.heap.size rfl pP _ Tryz.underlying25 rfl (by kernel_rfl) ?_ | refine wpList_load_blk rfl 33 _ rfl w2.heap.size rfl pX _ Tryz.underlying33 rfl (by kernel_rfl) ?_)
   refine kUx.mono ?_
   rintro e u1 ⟨rfl,hb⟩
   replace bw:=bel_trans bw hb
   replace hO:=hO.below hb
   replace oO:=owns_low oO hb
   replace pP:=pP.below hb
   replace pR:=pR.below hb
   replace pX:=pX.below hb
   clear hb
   clear kUx
   have kPut:=l04Put_is (w2.heap.size+1) 0 0 0 [] (14,0,0) u1 (instrs_own oO rfl hfit) (by decide)
   unfold I3.val at kPut
   simp only at kPut
   go_wp2_with fail
   refine kPut.mono ?_
   rintro e u3 ⟨⟨v3,rfl,q3⟩,hb⟩
   replace q3:=own_lowerB (B':=w.heap.size) q3 bw.size
   rw [← HF.out] at q3
   replace bw:=bel_trans bw hb
   replace hO:=hO.below hb
   replace pP:=pP.below hb
   replace pR:=pR.below hb
   replace pX:=pX.below hb
   clear hb
   clear kPut oO HF
   go_wp2_with (first | refine wpList_load_blk rfl 33 _ rfl w2.heap.size rfl pX _ Tryz.underlying33 rfl (by kernel_rfl) ?_ | refine wpList_store_blk rfl 33 _ _ rfl (w.heap.size+2) [.slice t0a t0n t0c,.slice t1a t1n t1c,.slice t2a t2n t2c,.slice t3a t3n t3c] rfl rfl pR (by kernel_rfl) rfl rfl ?_)
   intro u2 pR2 g2
   have q2:=q3.kept g2 (own_apart_blk q3 pR (by decide))
   clear q3
   have hO2:=(hO.kept9 g2 pR (by decide)).lowerB (B':=w.heap.size) (by omega)
   have bw2:=bw.grown g2 bw.size (fun k e=>by cases e;omega)
   clear g2 hO bw
   go_wp2_with fail
   refine bodyPost_ret (results_blk2 Tryz.results88 _ _ _ _ _ _ rfl pR2.out Tryz.underlying33 rfl (by kernel_rfl)) rfl ?_
   exact ⟨⟨((t0a,t0n,t0c),(t1a,t1n,t1c),(t2a,t2n,t2c),(t3a,t3n,t3c)),_,rfl,hO2,q2⟩,bw2⟩
 ·have hfn:(f != 0)=true:=by simp [hf]
  have HO2:Hid (own=[(f,(k:Int),pc)]):=by rw [Hid,HOwn.out,if_neg hf]
  have hfit:∀ x ∈ [(f,(k:Int),pc)],I3.fits x:=fun x hx=>by
   simp only [List.mem_singleton] at hx
   subst hx
   simp only [I3.fits]
   exact ⟨fits_small (by omega) (by omega),fits_small (by omega) (by omega),fits_small (by omega) (by omega)⟩
  have cS0:((w2.alloc (.cells #[.slice t0a t0n t0c,.slice t1a t1n t1c,.slice t2a t2n t2c,.slice t3a t3n t3c] 33)).alloc (.cells #[] 64)).cell? ⟨w.heap.size+1,0,none⟩=some (.slice (some ⟨b0,o0,none⟩) 3 c0):=by simpa using pS.cell 0
  clear HOwn hf9 hM hf pS
  go_wp2_with (at_builtin;refine wpList_append_own _ rfl _ _ 34 rfl w.heap.size 64 i0 (.agg #[.int .i64 0,.int .i64 0,.int .i64 0]) 3 24 Tryz.underlying34 hi hz0 hz1 hz2 rfl (by decide) _ _ _ rfl (oO.alloc _) ⟨w2.heap.size+1+1,0,none⟩ 1 1 [.int .i64 f,.int .i64 (k:Int),.int .i64 pc] rfl rfl ?c1 (three_one _ _ _) ?c3 ?c4 ?c5 ?_)
  case c1=>simpa using cell_three_new ((w2.alloc (.cells #[.slice t0a t0n t0c,.slice t1a t1n t1c,.slice t2a t2n t2c,.slice t3a t3n t3c] 33)).alloc (.cells #[] 64)) (.int .i64 f) (.int .i64 (k:Int)) (.int .i64 pc) 64
  case c3=>unfold maxLen;omega
  case c4=>omega
  case c5=>simp;omega
  intro v9 U q9 g9 _
  have ha:Below ((w2.alloc (.cells #[.slice t0a t0n t0c,.slice t1a t1n t1c,.slice t2a t2n t2c,.slice t3a t3n t3c] 33)).alloc (.cells #[] 64)).heap.size ((w2.alloc (.cells #[.slice t0a t0n t0c,.slice t1a t1n t1c,.slice t2a t2n t2c,.slice t3a t3n t3c] 33)).alloc (.cells #[] 64)) (((w2.alloc (.cells #[.slice t0a t0n t0c,.slice t1a t1n t1c,.slice t2a t2n t2c,.slice t3a t3n t3c] 33)).alloc (.cells #[] 64)).alloc (.cells #[.int .i64 f,.int .i64 (k:Int),.int .i64 pc] 64)):=by go_grown
  have pE:Blk (((w2.alloc (.cells #[.slice t0a t0n t0c,.slice t1a t1n t1c,.slice t2a t2n t2c,.slice t3a t3n t3c] 33)).alloc (.cells #[] 64)).alloc (.cells #[.int .i64 f,.int .i64 (k:Int),.int .i64 pc] 64)) (w2.heap.size+1) 64 []:=blkOld _ (blkAt _ _ _ (by simp))
  have n0:(some (w2.heap.size+1):Option Nat)≠some w.heap.size:=by simp;omega
  have n1:(some (w2.heap.size+1):Option Nat)≠some (w.heap.size+2):=by simp;omega
  have n2:(some (w2.heap.size+1):Option Nat)≠some w2.heap.size:=by simp
  replace g9:(((w2.alloc (.cells #[.slice t0a t0n t0c,.slice t1a t1n t1c,.slice t2a t2n t2c,.slice t3a t3n t3c] 33)).alloc (.cells #[] 64)).alloc (.cells #[.int .i64 f,.int .i64 (k:Int),.int .i64 pc] 64)).grownBy U (some (w2.heap.size+1)):=g9
  replace pP:=(pP.below ha).kept g9 n0
  replace pR:=(pR.below ha).kept g9 n1
  replace pX:=(pX.below ha).kept g9 n2
  replace hO:=(hO.below ha).kept9 g9 pE (by decide)
  replace bw:=(bel_trans bw ha).grown g9 (bel_trans bw ha).size (fun j hj=>by cases hj;omega)
  obtain ⟨og,oc,rfl⟩:=own_someB q9 (by omega)
  have oO2:U.ownsRow w.heap.size 64 3 (.slice (some ⟨og,0,none⟩) 1 oc) 1 (flat [(f,(k:Int),pc)]):=q9
  clear oO q9 g9 ha pE n0 n1 n2 r1 cS0
  have oO:=oO2
  clear oO2
  have kUx:=kU _ (hR.below bw) _ (hO.mem fz)
  rw [uX] at kUx
  clear hR kU uX
  cases hst:stuckM rows z
  ·rw [hst] at kUx
   have HF:Hid (fin=[(f,(k:Int),pc)]):=by rw [Hid,HFin.out,hst,HO2.out];rfl
   clear hst HFin HO2
   go_wp2_with (first | refine wpList_load_blk rfl 25 _ rfl w.heap.size rfl pP _ Tryz.underlying25 rfl (by kernel_rfl) ?_ | refine wpList_load_blk rfl 33 _ rfl w2.heap.size rfl pX _ Tryz.underlying33 rfl (by kernel_rfl) ?_)
   refine kUx.mono ?_
   rintro e u1 ⟨rfl,hb⟩
   replace bw:=bel_trans bw hb
   replace hO:=hO.below hb
   replace oO:=owns_low oO hb
   replace pP:=pP.below hb
   replace pR:=pR.below hb
   replace pX:=pX.below hb
   clear hb
   clear kUx
   have q3:u1.ownsRow w.heap.size 64 3 (.slice (some ⟨og,0,none⟩) 1 oc) fin.length (flat fin):=by rw [HF.out];exact oO
   clear oO HF
   go_wp2_with (first | refine wpList_load_blk rfl 33 _ rfl w2.heap.size rfl pX _ Tryz.underlying33 rfl (by kernel_rfl) ?_ | refine wpList_store_blk rfl 33 _ _ rfl (w.heap.size+2) [.slice t0a t0n t0c,.slice t1a t1n t1c,.slice t2a t2n t2c,.slice t3a t3n t3c] rfl rfl pR (by kernel_rfl) rfl rfl ?_)
   intro u2 pR2 g2
   have q2:=q3.kept g2 (own_apart_blk q3 pR (by decide))
   clear q3
   have hO2:=(hO.kept9 g2 pR (by decide)).lowerB (B':=w.heap.size) (by omega)
   have bw2:=bw.grown g2 bw.size (fun k e=>by cases e;omega)
   clear g2 hO bw
   go_wp2_with fail
   refine bodyPost_ret (results_blk2 Tryz.results88 _ _ _ _ _ _ rfl pR2.out Tryz.underlying33 rfl (by kernel_rfl)) rfl ?_
   exact ⟨⟨((t0a,t0n,t0c),(t1a,t1n,t1c),(t2a,t2n,t2c),(t3a,t3n,t3c)),_,rfl,hO2,q2⟩,bw2⟩
  ·rw [hst] at kUx
   have HF:Hid (fin=putB [(f,(k:Int),pc)] (14,0,0)):=by rw [Hid,HFin.out,hst,HO2.out];rfl
   clear hst HFin HO2
   go_wp2_with (first | refine wpList_load_blk rfl 25 _ rfl w.heap.size rfl pP _ Tryz.underlying25 rfl (by kernel_rfl) ?_ | refine wpList_load_blk rfl 33 _ rfl w2.heap.size rfl pX _ Tryz.underlying33 rfl (by kernel_rfl) ?_)
   refine kUx.mono ?_
   rintro e u1 ⟨rfl,hb⟩
   replace bw:=bel_trans bw hb
   replace hO:=hO.below hb
   replace oO:=owns_low oO hb
   replace pP:=pP.below hb
   replace pR:=pR.below hb
   replace pX:=pX.below hb
   clear hb
   clear kUx
   have kPut:=l04Put_is og 0 1 oc [(f,(k:Int),pc)] (14,0,0) u1 (instrs_own oO rfl hfit) (by decide)
   unfold I3.val at kPut
   simp only at kPut
   go_wp2_with fail
   refine kPut.mono ?_
   rintro e u3 ⟨⟨v3,rfl,q3⟩,hb⟩
   replace q3:=own_lowerB (B':=w.heap.size) q3 bw.size
   rw [← HF.out] at q3
   replace bw:=bel_trans bw hb
   replace hO:=hO.below hb
   replace pP:=pP.below hb
   replace pR:=pR.below hb
   replace pX:=pX.below hb
   clear hb
   clear kPut oO HF
   go_wp2_with (first | refine wpList_load_blk rfl 33 _ rfl w2.heap.size rfl pX _ Tryz.underlying33 rfl (by kernel_rfl) ?_ | refine wpList_store_blk rfl 33 _ _ rfl (w.heap.size+2) [.slice t0a t0n t0c,.slice t1a t1n t1c,.slice t2a t2n t2c,.slice t3a t3n t3c] rfl rfl pR (by kernel_rfl) rfl rfl ?_)
   intro u2 pR2 g2
   have q2:=q3.kept g2 (own_apart_blk q3 pR (by decide))
   clear q3
   have hO2:=(hO.kept9 g2 pR (by decide)).lowerB (B':=w.heap.size) (by omega)
   have bw2:=bw.grown g2 bw.size (fun k e=>by cases e;omega)
   clear g2 hO bw
   go_wp2_with fail
   refine bodyPost_ret (results_blk2 Tryz.results88 _ _ _ _ _ _ rfl pR2.out Tryz.underlying33 rfl (by kernel_rfl)) rfl ?_
   exact ⟨⟨((t0a,t0n,t0c),(t1a,t1n,t1c),(t2a,t2n,t2c),(t3a,t3n,t3c)),_,rfl,hO2,q2⟩,bw2⟩


theorem runS_halt {rows:List (List I3)} {m:V4} {out:List I3} {ks:List Int} {i:Nat} (hi:i<ks.length) (h:haltM rows m (ks.getD i 0)≠0):runS rows m out (ks.drop i)=(m,out,haltM rows m (ks.getD i 0)):=by
 have e:ks.drop i=ks.getD i 0::ks.drop (i+1):=by rw [List.drop_eq_getElem_cons hi];simp [List.getD,hi]
 rw [e]
 show (if haltM rows m (ks.getD i 0)=0 then _ else _)=_
 rw [if_neg h]
theorem runS_go {rows:List (List I3)} {m:V4} {out:List I3} {ks:List Int} {i:Nat} (hi:i<ks.length) (h:haltM rows m (ks.getD i 0)=0):runS rows m out (ks.drop i)=runS rows (goM rows m (ks.getD i 0)).1 (mergeB out (foundM rows m (ks.getD i 0))) (ks.drop (i+1)):=by
 have e:ks.drop i=ks.getD i 0::ks.drop (i+1):=by rw [List.drop_eq_getElem_cons hi];simp [List.getD,hi]
 rw [e]
 show (if haltM rows m (ks.getD i 0)=0 then _ else _)=_
 rw [if_pos h]
theorem foundM_ok {rows:List (List I3)} {m:V4} {k:Int} (hp:progOk rows=true) (hs:shapeOk m=true) (hz:haltM rows m k=0):(∀ x ∈ foundM rows m k,okB x=true)∧(foundM rows m k).length≤2:=by
 have h1:=ownM_ok hp hs hz
 have h2:=ownM_len rows m k
 unfold foundM
 split
 ·refine ⟨fun x hx=>?_,?_⟩
  ·rw [mem_putB] at hx
   rcases hx with hx | hx
   ·exact h1 x hx
   ·subst hx;rfl
  ·have:=putB_len (ownM rows m k) (14,0,0)
   omega
 ·exact ⟨h1,by omega⟩
theorem mergeB_ok {xs ys:List I3} (h:∀ x ∈ xs,okB x=true) (k:∀ x ∈ ys,okB x=true):∀ x ∈ mergeB xs ys,okB x=true:=fun x hx=>by
 rw [mem_mergeB] at hx
 exact hx.elim (h x) (k x)

theorem held_zero (j:Nat):([0,0]:List Int).getD j 0=0:=by
 match j with
 | 0=>rfl
 | 1=>rfl
 | _+2=>rfl
theorem stuck_zero (rows:List (List I3)):stuckM rows zeroV=false:=by
 cases h:stuckM rows zeroV
 ·rfl
 ·have hc:∀ i,i<3→doneM rows zeroV i=true:=fun i hi=>by
   cases hd:doneM rows zeroV i
   ·have h1:canM rows zeroV i=true:=by
     unfold canM atLock
     rw [hd,show zeroV.2.2.1=[0,0] from rfl,held_zero]
     simp
    rw [can_not_stuck hi h1] at h
    cases h
   ·rfl
  unfold stuckM leftM at h
  simp [List.range',hc 0 (by decide),hc 1 (by decide),hc 2 (by decide)] at h

theorem instrs_rowS {w:World} {B cap:Nat} {a:Option Addr} {xs:List I3} (h:w.ownsRow B 64 3 (.slice a xs.length cap) xs.length (flat xs)) (hf:∀ x ∈ xs,I3.fits x):Instrs w a xs.length cap xs:=by
 obtain ⟨a',c',e,hI,_⟩:=bugs_sliceR h hf
 cases e
 exact hI
theorem ints_cellS {w:World} {a:Option Addr} {n c:Nat} {ks:List Int} (h:Ints .i64 w a n c ks) {i:Nat} (hi:i<n):∃ b off,a=some ⟨b,off,none⟩∧w.cell? ⟨b,off+i,none⟩=some (.int .i64 (ks.getD i 0))∧b<w.heap.size:=by
 obtain ⟨h1,h2,h3,h4⟩:=h
 rcases h4 with h4 | ⟨b,off,ha,hl,hc⟩
 ·omega
 ·exact ⟨b,off,ha,hc i hi,hl⟩

def OnS (w wr:World) (X:Nat) (a9:Option Addr) (cap:Nat) (rows:List (List I3)) (ks:List Int) (n i:Nat) (fin:V4 × List I3 × Int) (m:V4) (out:List I3) (v:Value):Prop:=
 i≤n∧runS rows m out (ks.drop i)=fin∧shapeOk m=true∧(∃ t:S4,Blk wr X 33 (vmC t)∧OwnV wr w.heap.size t m)∧wr.ownsRow w.heap.size 64 3 v out.length (flat out)∧(∀ x ∈ out,okB x=true)∧out.length≤1+2*i∧Below w.heap.size w wr∧Blk wr w.heap.size 25 [.slice a9 3 cap]∧Blk wr (w.heap.size+1) 33 [.slice none 0 0,.slice none 0 0,.slice none 0 0,.slice none 0 0]

theorem l04Run_is {w:World} {a9:Option Addr} {cap:Nat} {cs:Sl × Sl × Sl} {rows:List (List I3)} {la:Option Addr} {n c:Nat} {ks:List Int} (hR:RowsAt w a9 cs rows) (hp:progOk rows=true) (hL:Ints .i64 w la n c ks) (hn:n≤100000) :
  Calls Tryz.prog 121 #[.agg #[.slice a9 3 cap],.slice la n c] w fun e w'=>RunGot e w' w.heap.size (runS rows zeroV [] ks).1 (runS rows zeroV [] ks).2.1 (runS rows zeroV [] ks).2.2∧Below w.heap.size w w':=by
 have fz:=(shape_fits9 zero_shape).1
 have hll:=hL.1
 obtain ⟨fin,hfin⟩:∃ fin,fin=runS rows zeroV [] ks:=⟨_,rfl⟩
 rw [← hfin]
 have HFin:Hid (runS rows zeroV [] (ks.drop 0)=fin):=by rw [hfin];rfl
 clear hfin
 have kN:=specNewVm_is
 have kU:=fun (W:World) (hR:RowsAt W a9 cs rows) (t:S4) (h:Vmem W t zeroV)=>l03Stuck_is a9 3 cap rows t zeroV cs W rfl hR h hp zero_shape
 rw [stuck_zero] at kU
 have bw:Below w.heap.size w ((w.alloc (.cells #[.slice a9 3 cap] 25)).alloc (.cells #[.slice none 0 0,.slice none 0 0,.slice none 0 0,.slice none 0 0] 33)):=by go_grown
 have pP:Blk ((w.alloc (.cells #[.slice a9 3 cap] 25)).alloc (.cells #[.slice none 0 0,.slice none 0 0,.slice none 0 0,.slice none 0 0] 33)) w.heap.size 25 [.slice a9 3 cap]:=blkOld _ (blkAt _ _ _ rfl)
 have pZ:Blk ((w.alloc (.cells #[.slice a9 3 cap] 25)).alloc (.cells #[.slice none 0 0,.slice none 0 0,.slice none 0 0,.slice none 0 0] 33)) (w.heap.size+1) 33 [.slice none 0 0,.slice none 0 0,.slice none 0 0,.slice none 0 0]:=blkAt _ _ _ (by simp)
 go_enter Tryz.func121,Tryz.ntmps121
 go_wp2_with fail
 have hUw:w.heap.size≤((w.alloc (.cells #[.slice a9 3 cap] 25)).alloc (.cells #[.slice none 0 0,.slice none 0 0,.slice none 0 0,.slice none 0 0] 33)).heap.size:=bw.size
 generalize ((w.alloc (.cells #[.slice a9 3 cap] 25)).alloc (.cells #[.slice none 0 0,.slice none 0 0,.slice none 0 0,.slice none 0 0] 33))=U at *
 refine (kN _).mono ?_
 rintro e w1 ⟨⟨⟨⟨t0a,t0n,t0c⟩,⟨t1a,t1n,t1c⟩,⟨t2a,t2n,t2c⟩,⟨t3a,t3n,t3c⟩⟩,rfl,hO⟩,hb⟩
 have ut:S4.val ((t0a,t0n,t0c),(t1a,t1n,t1c),(t2a,t2n,t2c),(t3a,t3n,t3c))=.agg #[.slice t0a t0n t0c,.slice t1a t1n t1c,.slice t2a t2n t2c,.slice t3a t3n t3c]:=rfl
 rw [ut]
 replace bw:=bel_trans bw hb
 replace pP:=pP.below hb
 replace pZ:=pZ.below hb
 replace hO:=hO.lowerB (B':=w.heap.size) hUw
 have hX1:w.heap.size+1<w1.heap.size:=pZ.lt
 clear hb kN hUw
 have ha:Below w1.heap.size w1 ((w1.alloc (.cells #[.slice t0a t0n t0c,.slice t1a t1n t1c,.slice t2a t2n t2c,.slice t3a t3n t3c] 33)).alloc (.cells #[] 64)):=by go_grown
 have pS:Blk ((w1.alloc (.cells #[.slice t0a t0n t0c,.slice t1a t1n t1c,.slice t2a t2n t2c,.slice t3a t3n t3c] 33)).alloc (.cells #[] 64)) w1.heap.size 33 [.slice t0a t0n t0c,.slice t1a t1n t1c,.slice t2a t2n t2c,.slice t3a t3n t3c]:=blkOld _ (blkAt _ _ _ rfl)
 have q:((w1.alloc (.cells #[.slice t0a t0n t0c,.slice t1a t1n t1c,.slice t2a t2n t2c,.slice t3a t3n t3c] 33)).alloc (.cells #[] 64)).ownsRow w.heap.size 64 3 (.slice (some ⟨w1.heap.size+1,0,none⟩) 0 0) 0 []:=by
  have h9:=own_emptyB (w1.alloc (.cells #[.slice t0a t0n t0c,.slice t1a t1n t1c,.slice t2a t2n t2c,.slice t3a t3n t3c] 33)) 64 3 w.heap.size (by simp;omega)
  simpa using h9
 replace bw:=bel_trans bw ha
 replace hO:=hO.below ha
 replace pP:=pP.below ha
 replace pZ:=pZ.below ha
 have kUx:=kU _ (hR.below bw) _ (hO.mem fz)
 rw [ut] at kUx
 clear ha kU ut
 go_wp2_with (first | refine wpList_load_blk rfl 25 _ rfl w.heap.size rfl pP _ Tryz.underlying25 rfl (by kernel_rfl) ?_ | refine wpList_load_blk rfl 33 _ rfl w1.heap.size rfl pS _ Tryz.underlying33 rfl (by kernel_rfl) ?_)
 refine kUx.mono ?_
 rintro e W0 ⟨rfl,hb⟩
 replace bw:=bel_trans bw hb
 replace pP:=pP.below hb
 replace pZ:=pZ.below hb
 replace pS:=pS.below hb
 replace hO:=hO.below hb
 replace q:=owns_below q hb
 clear hb kUx fz
 go_wp2_with fail
 have st:OnS w W0 w1.heap.size a9 cap rows ks n 0 fin zeroV [] (.slice (some ⟨w1.heap.size+1,0,none⟩) 0 0):=⟨by omega,HFin.out,zero_shape,⟨((t0a,t0n,t0c),(t1a,t1n,t1c),(t2a,t2n,t2c),(t3a,t3n,t3c)),pS,hO⟩,q,by simp,by decide,bw,pP,pZ⟩
 clear HFin pS hO q bw pP pZ
 generalize w1.heap.size+1=g0 at *
 generalize w1.heap.size=X at *
 go_loopw [8,9] (fun so si wr=>∃ (i:Nat) (m':V4) (out:List I3),si=.int .i64 i∧OnS w wr X a9 cap rows ks n i fin m' out so) (fun _ si _=>n - (intOf si).toNat)
 case atStart=>exact ⟨0,_,_,rfl,st⟩
 case round =>
  clear st
  obtain ⟨i,m',out,rfl,hi,hr,hs,⟨⟨⟨t0a,t0n,t0c⟩,⟨t1a,t1n,t1c⟩,⟨t2a,t2n,t2c⟩,⟨t3a,t3n,t3c⟩⟩,pS,hO⟩,q,hok,hlo,bw,pP,pZ⟩:=hrel
  replace pS:Blk wr X 33 [.slice t0a t0n t0c,.slice t1a t1n t1c,.slice t2a t2n t2c,.slice t3a t3n t3c]:=pS
  by_cases hlt:i<n
  ·obtain ⟨lb,lo,rfl,hc,hlb⟩:=ints_cellS hL hlt
   replace hc:=cells_kept bw _ _ hc
   have HH:Hid (haltM rows m' (ks.getD i 0)≠0→fin=(m',out,haltM rows m' (ks.getD i 0))):=fun h0=>hr.symm.trans (runS_halt (by omega) h0)
   have HG:Hid (haltM rows m' (ks.getD i 0)=0→runS rows (goM rows m' (ks.getD i 0)).1 (mergeB out (foundM rows m' (ks.getD i 0))) (ks.drop (i+1))=fin):=fun h0=>(runS_go (by omega) h0).symm.trans hr
   have hlt':(i:Int)<(n:Int):=by omega
   have hi0:(0:Int)≤(i:Int):=by omega
   have fm:=(shape_fits9 hs).1
   generalize ks.getD i 0=kk at *
   clear hr
   have kI:=l01In_isB kk 0 2 wr
   have hXw2:=pS.lt
   have hl1:i≤100000:=by omega
   obtain ⟨va,vc,rfl,hI,hGd⟩:=bugs_sliceR q (fun x hx=>okB_fitsQ (hok x hx))
   clear hI hGd
   cases hin:inB kk 0 2
   ·rw [hin] at kI
    have hz:haltM rows m' kk=4:=by
     have:=inB_false.1 hin
     unfold haltM
     rw [if_neg (by omega)]
    have hfe:=HH.out (by rw [hz];decide)
    rw [hz] at hfe
    clear HH HG hz hin
    go_wp2_with fail
    refine kI.mono ?_
    rintro e w9 ⟨rfl,rfl⟩
    clear kI hc
    go_wp2_with (first | refine wpList_load_blk rfl 33 _ rfl X rfl pS _ Tryz.underlying33 rfl (by kernel_rfl) ?_ | refine wpList_store_blk rfl 33 _ _ rfl (w.heap.size+1) [.slice t0a t0n t0c,.slice t1a t1n t1c,.slice t2a t2n t2c,.slice t3a t3n t3c] rfl rfl pZ (by kernel_rfl) rfl rfl ?_)
    intro U2 pZ2 g2
    have bz:=bw.grown g2 bw.size (fun k e=>by cases e;omega)
    have q2:=q.kept g2 (own_apart_blk q pZ (by decide))
    have hO2:=hO.kept9 g2 pZ (by decide)
    clear bw g2 pZ q hO pS pP
    go_wp2_with fail
    refine bodyPost_ret (results_blk3 Tryz.results121 _ _ _ _ _ _ rfl pZ2.out Tryz.underlying33 rfl (by kernel_rfl)) rfl ?_
    rw [hfe]
    exact ⟨RunGot.mk9 ((t0a,t0n,t0c),(t1a,t1n,t1c),(t2a,t2n,t2c),(t3a,t3n,t3c)) _ rfl hO2 q2,bz⟩
   ·rw [hin] at kI
    obtain ⟨k,rfl⟩:∃ k:Nat,kk=k:=⟨kk.toNat,by have:=inB_true.1 hin;omega⟩
    have hk:k<3:=by have:=inB_true.1 hin;omega
    clear hin
    have kD:=fun (W:World) (b:Below w.heap.size w W) (h:Vmem W ((t0a,t0n,t0c),(t1a,t1n,t1c),(t2a,t2n,t2c),(t3a,t3n,t3c)) m')=>l03Done_is (cap:=cap) rfl (hR.below b) h hs hk
    have kC:=fun (W:World) (b:Below w.heap.size w W) (h:Vmem W ((t0a,t0n,t0c),(t1a,t1n,t1c),(t2a,t2n,t2c),(t3a,t3n,t3c)) m')=>l03Can_is (cap:=cap) rfl (hR.below b) h hp hs hk
    have ut:S4.val ((t0a,t0n,t0c),(t1a,t1n,t1c),(t2a,t2n,t2c),(t3a,t3n,t3c))=.agg #[.slice t0a t0n t0c,.slice t1a t1n t1c,.slice t2a t2n t2c,.slice t3a t3n t3c]:=rfl
    rw [ut] at kD kC
    go_wp2_with fail
    refine kI.mono ?_
    rintro e w9 ⟨rfl,rfl⟩
    clear kI
    go_wp2_with fail
    cases hd:doneM rows m' k
    ·simp only [hd] at kD
     have hdr:Below wr.heap.size wr wr.drew:=by go_grown
     have kx:=kD wr.drew (bel_trans bw hdr) ((hO.below hdr).mem fm)
     clear hdr
     refine wp_region_held_drew (S:=(fun w'=>w'.cell? ⟨w.heap.size,0,none⟩=some (.slice a9 3 cap)∧w'.cell? ⟨X,0,none⟩=some (.slice t0a t0n t0c)∧w'.cell? ⟨X,1,none⟩=some (.slice t1a t1n t1c)∧w'.cell? ⟨X,2,none⟩=some (.slice t2a t2n t2c)∧w'.cell? ⟨X,3,none⟩=some (.slice t3a t3n t3c)∧w'.cell? ⟨lb,lo+i,none⟩=some (.int .i64 (k:Int)))) (by kernel_rfl) ⟨by simpa using pP.cell 0,by simpa using pS.cell 0,by simpa using pS.cell 1,by simpa using pS.cell 2,by simpa using pS.cell 3,hc⟩ (fun hS0=>?_)
     refine tkm 0 34 (.agg #[.slice a9 3 cap]) ?_
     refine tkm 1 35 (.agg #[.slice t0a t0n t0c,.slice t1a t1n t1c,.slice t2a t2n t2c,.slice t3a t3n t3c]) ?_
     refine tkm 2 36 (.slice (some ⟨lb,lo,none⟩) n c) ?_
     refine tkm 3 37 (.int .i64 (i:Int)) ?_
     refine tkm 4 38 (.pointer (some ⟨lb,lo+i,none⟩)) ?_
     refine tkm 5 39 (.int .i64 (k:Int)) ?_
     refine tkr 6 40 (fun K hK=>?_)
     go_simp
     refine (kx).mono ?_
     rintro e u1 ⟨rfl,hb⟩
     go_wp2_with fail
     refine hK.out _ _ ?_ (fun hS1=>?_)
     ·exact ⟨cells_kept hb _ _ hS0.1,cells_kept hb _ _ hS0.2.1,cells_kept hb _ _ hS0.2.2.1,cells_kept hb _ _ hS0.2.2.2.1,cells_kept hb _ _ hS0.2.2.2.2.1,cells_kept hb _ _ hS0.2.2.2.2.2⟩
     clear hK
     refine wpAnyH_done (by kernel_rfl) ?_ _
     clear hS0 hS1 kx
     have hb9:=bel_trans (by go_grown:Below wr.heap.size wr wr.drew) hb
     replace bw:=bel_trans bw hb9
     replace pP:=pP.below hb9
     replace pZ:=pZ.below hb9
     replace pS:=pS.below hb9
     replace hO:=hO.below hb9
     replace q:=owns_below q hb9
     replace hc:=cells_kept hb9 _ _ hc
     clear hb hb9
     clear kD
     go_wp2_with fail
     cases hcn:canM rows m' k
     ·simp only [hcn] at kC
      have hdr:Below u1.heap.size u1 u1.drew:=by go_grown
      have kx:=kC u1.drew (bel_trans bw hdr) ((hO.below hdr).mem fm)
      clear hdr
      refine wp_region_held_drew (S:=(fun w'=>w'.cell? ⟨w.heap.size,0,none⟩=some (.slice a9 3 cap)∧w'.cell? ⟨X,0,none⟩=some (.slice t0a t0n t0c)∧w'.cell? ⟨X,1,none⟩=some (.slice t1a t1n t1c)∧w'.cell? ⟨X,2,none⟩=some (.slice t2a t2n t2c)∧w'.cell? ⟨X,3,none⟩=some (.slice t3a t3n t3c)∧w'.cell? ⟨lb,lo+i,none⟩=some (.int .i64 (k:Int)))) (by kernel_rfl) ⟨by simpa using pP.cell 0,by simpa using pS.cell 0,by simpa using pS.cell 1,by simpa using pS.cell 2,by simpa using pS.cell 3,hc⟩ (fun hS0=>?_)
      refine tkm 0 43 (.agg #[.slice a9 3 cap]) ?_
      refine tkm 1 44 (.agg #[.slice t0a t0n t0c,.slice t1a t1n t1c,.slice t2a t2n t2c,.slice t3a t3n t3c]) ?_
      refine tkm 2 45 (.slice (some ⟨lb,lo,none⟩) n c) ?_
      refine tkm 3 46 (.int .i64 (i:Int)) ?_
      refine tkm 4 47 (.pointer (some ⟨lb,lo+i,none⟩)) ?_
      refine tkm 5 48 (.int .i64 (k:Int)) ?_
      refine tkr 6 49 (fun K hK=>?_)
      go_simp
      refine (kx).mono ?_
      rintro e u2 ⟨rfl,hb⟩
      go_wp2_with fail
      refine hK.out _ _ ?_ (fun hS1=>?_)
      ·exact ⟨cells_kept hb _ _ hS0.1,cells_kept hb _ _ hS0.2.1,cells_kept hb _ _ hS0.2.2.1,cells_kept hb _ _ hS0.2.2.2.1,cells_kept hb _ _ hS0.2.2.2.2.1,cells_kept hb _ _ hS0.2.2.2.2.2⟩
      clear hK
      refine tkm 7 50 (.bool true) ?_
      refine wpAnyH_done (by kernel_rfl) ?_ _
      clear hS0 hS1 kx
      have hb9:=bel_trans (by go_grown:Below u1.heap.size u1 u1.drew) hb
      replace bw:=bel_trans bw hb9
      replace pP:=pP.below hb9
      replace pZ:=pZ.below hb9
      replace pS:=pS.below hb9
      replace hO:=hO.below hb9
      replace q:=owns_below q hb9
      replace hc:=cells_kept hb9 _ _ hc
      clear hb hb9
      clear kC
      have hz:haltM rows m' (k:Int)=11:=by
       unfold haltM
       rw [if_pos (by omega),Int.toNat_natCast]
       simp [hd,hcn]
      have hfe:=HH.out (by rw [hz];decide)
      rw [hz] at hfe
      clear HH HG hz hd hcn hc
      go_wp2_with (first | refine wpList_load_blk rfl 33 _ rfl X rfl pS _ Tryz.underlying33 rfl (by kernel_rfl) ?_ | refine wpList_store_blk rfl 33 _ _ rfl (w.heap.size+1) [.slice t0a t0n t0c,.slice t1a t1n t1c,.slice t2a t2n t2c,.slice t3a t3n t3c] rfl rfl pZ (by kernel_rfl) rfl rfl ?_)
      intro U2 pZ2 g2
      have bz:=bw.grown g2 bw.size (fun k e=>by cases e;omega)
      have q2:=q.kept g2 (own_apart_blk q pZ (by decide))
      have hO2:=hO.kept9 g2 pZ (by decide)
      clear bw g2 pZ q hO pS pP
      go_wp2_with fail
      refine bodyPost_ret (results_blk3 Tryz.results121 _ _ _ _ _ _ rfl pZ2.out Tryz.underlying33 rfl (by kernel_rfl)) rfl ?_
      rw [hfe]
      exact ⟨RunGot.mk9 ((t0a,t0n,t0c),(t1a,t1n,t1c),(t2a,t2n,t2c),(t3a,t3n,t3c)) _ rfl hO2 q2,bz⟩
     ·simp only [hcn] at kC
      have hdr:Below u1.heap.size u1 u1.drew:=by go_grown
      have kx:=kC u1.drew (bel_trans bw hdr) ((hO.below hdr).mem fm)
      clear hdr
      refine wp_region_held_drew (S:=(fun w'=>w'.cell? ⟨w.heap.size,0,none⟩=some (.slice a9 3 cap)∧w'.cell? ⟨X,0,none⟩=some (.slice t0a t0n t0c)∧w'.cell? ⟨X,1,none⟩=some (.slice t1a t1n t1c)∧w'.cell? ⟨X,2,none⟩=some (.slice t2a t2n t2c)∧w'.cell? ⟨X,3,none⟩=some (.slice t3a t3n t3c)∧w'.cell? ⟨lb,lo+i,none⟩=some (.int .i64 (k:Int)))) (by kernel_rfl) ⟨by simpa using pP.cell 0,by simpa using pS.cell 0,by simpa using pS.cell 1,by simpa using pS.cell 2,by simpa using pS.cell 3,hc⟩ (fun hS0=>?_)
      refine tkm 0 43 (.agg #[.slice a9 3 cap]) ?_
      refine tkm 1 44 (.agg #[.slice t0a t0n t0c,.slice t1a t1n t1c,.slice t2a t2n t2c,.slice t3a t3n t3c]) ?_
      refine tkm 2 45 (.slice (some ⟨lb,lo,none⟩) n c) ?_
      refine tkm 3 46 (.int .i64 (i:Int)) ?_
      refine tkm 4 47 (.pointer (some ⟨lb,lo+i,none⟩)) ?_
      refine tkm 5 48 (.int .i64 (k:Int)) ?_
      refine tkr 6 49 (fun K hK=>?_)
      go_simp
      refine (kx).mono ?_
      rintro e u2 ⟨rfl,hb⟩
      go_wp2_with fail
      refine hK.out _ _ ?_ (fun hS1=>?_)
      ·exact ⟨cells_kept hb _ _ hS0.1,cells_kept hb _ _ hS0.2.1,cells_kept hb _ _ hS0.2.2.1,cells_kept hb _ _ hS0.2.2.2.1,cells_kept hb _ _ hS0.2.2.2.2.1,cells_kept hb _ _ hS0.2.2.2.2.2⟩
      clear hK
      refine tkm 7 50 (.bool false) ?_
      refine wpAnyH_done (by kernel_rfl) ?_ _
      clear hS0 hS1 kx
      have hb9:=bel_trans (by go_grown:Below u1.heap.size u1 u1.drew) hb
      replace bw:=bel_trans bw hb9
      replace pP:=pP.below hb9
      replace pZ:=pZ.below hb9
      replace pS:=pS.below hb9
      replace hO:=hO.below hb9
      replace q:=owns_below q hb9
      replace hc:=cells_kept hb9 _ _ hc
      clear hb hb9
      clear kC
      have hz:haltM rows m' (k:Int)=0:=by
       unfold haltM
       rw [if_pos (by omega),Int.toNat_natCast]
       simp [hd,hcn]
      have hfe:=HG.out hz
      have hfo:=foundM_ok hp hs hz
      have hs2:=goM_shape hp hs hz
      have kF:=fun (W:World) (b:Below w.heap.size w W) (h:Vmem W ((t0a,t0n,t0c),(t1a,t1n,t1c),(t2a,t2n,t2c),(t3a,t3n,t3c)) m')=>l04Found_is (cap:=cap) (hR.below b) h hp hs hk hd
      rw [ut] at kF
      generalize (goM rows m' (k:Int)).1=z at *
      generalize foundM rows m' (k:Int)=fs at *
      clear HH HG hz hd hcn ut
      go_wp2_with fail
      have hb9:Below u2.heap.size u2 u2.drew:=by go_grown
      refine wp_region_held_drew (S:=(fun w'=>w'.cell? ⟨w.heap.size,0,none⟩=some (.slice a9 3 cap)∧w'.cell? ⟨X,0,none⟩=some (.slice t0a t0n t0c)∧w'.cell? ⟨X,1,none⟩=some (.slice t1a t1n t1c)∧w'.cell? ⟨X,2,none⟩=some (.slice t2a t2n t2c)∧w'.cell? ⟨X,3,none⟩=some (.slice t3a t3n t3c)∧w'.cell? ⟨lb,lo+i,none⟩=some (.int .i64 (k:Int)))) (by kernel_rfl) ⟨by simpa using pP.cell 0,by simpa using pS.cell 0,by simpa using pS.cell 1,by simpa using pS.cell 2,by simpa using pS.cell 3,hc⟩ (fun hS0=>?_)
      refine tkm 0 54 (.agg #[.slice a9 3 cap]) ?_
      refine tkm 1 55 (.agg #[.slice t0a t0n t0c,.slice t1a t1n t1c,.slice t2a t2n t2c,.slice t3a t3n t3c]) ?_
      refine tkm 2 56 (.slice (some ⟨lb,lo,none⟩) n c) ?_
      refine tkm 3 57 (.int .i64 (i:Int)) ?_
      refine tkm 4 58 (.pointer (some ⟨lb,lo+i,none⟩)) ?_
      refine tkm 5 59 (.int .i64 (k:Int)) ?_
      replace bw:=bel_trans bw hb9
      replace pP:=pP.below hb9
      replace pZ:=pZ.below hb9
      replace pS:=pS.below hb9
      replace hO:=hO.below hb9
      replace q:=owns_below q hb9
      replace hc:=cells_kept hb9 _ _ hc
      clear hb9
      have kFg:=kF
      have kFx:=kF _ bw (hO.mem fm)
      clear kF
      generalize u2.drew=V at *
      refine wpAnyH_ready (rs:=[6,10]) (by kernel_rfl) (by simp) ?_
      refine AllReadyH.cons (o:=⟨some 60,_,_,_,_,_⟩) rfl (fun K hK=>?_) (AllReadyH.cons (o:=⟨some 10,_,_,_,_,_⟩) rfl (fun K hK=>?_) AllReadyH.nil)
      ·go_simp
       refine kFx.mono ?_
       rintro e V1 ⟨⟨⟨⟨z0a,z0n,z0c⟩,⟨z1a,z1n,z1c⟩,⟨z2a,z2n,z2c⟩,⟨z3a,z3n,z3c⟩⟩,v9,rfl,hO2,q2⟩,hb⟩
       have uz:S4.val ((z0a,z0n,z0c),(z1a,z1n,z1c),(z2a,z2n,z2c),(z3a,z3n,z3c))=.agg #[.slice z0a z0n z0c,.slice z1a z1n z1c,.slice z2a z2n z2c,.slice z3a z3n z3c]:=rfl
       rw [uz]
       replace hO2:=hO2.lowerB (B':=w.heap.size) bw.size
       replace q2:=own_lowerB (B':=w.heap.size) q2 bw.size
       obtain ⟨fa,fc,rfl,hI9,hGd9⟩:=bugs_sliceR q2 (fun x hx=>okB_fitsQ (hfo.1 x hx))
       clear hI9 hGd9
       replace bw:=bel_trans bw hb
       replace pP:=pP.below hb
       replace pZ:=pZ.below hb
       replace pS:=pS.below hb
       replace hO:=hO.below hb
       replace q:=owns_below q hb
       replace hc:=cells_kept hb _ _ hc
       clear hb kFx uz
       go_wp2_with fail
       refine hK.out _ _ ⟨by simpa using pP.cell 0,by simpa using pS.cell 0,by simpa using pS.cell 1,by simpa using pS.cell 2,by simpa using pS.cell 3,hc⟩ (fun hS5=>?_)
       clear hK
       try simp only [Act.put,tka,tkb,tkc]
       refine tkm 7 53 (.tuple #[.agg #[.slice z0a z0n z0c,.slice z1a z1n z1c,.slice z2a z2n z2c,.slice z3a z3n z3c],.slice fa fs.length fc]) ?_
       refine tkm 8 61 (.agg #[.slice z0a z0n z0c,.slice z1a z1n z1c,.slice z2a z2n z2c,.slice z3a z3n z3c]) ?_
       refine tkm 9 62 (.slice fa fs.length fc) ?_
       refine tkr 10 10 (fun K hK=>?_)
       have hb:Below V1.heap.size V1 (V1.alloc (.cells #[.slice none 0 0,.slice none 0 0,.slice none 0 0,.slice none 0 0] 33)):=by go_grown
       have pX:Blk (V1.alloc (.cells #[.slice none 0 0,.slice none 0 0,.slice none 0 0,.slice none 0 0] 33)) V1.heap.size 33 [.slice none 0 0,.slice none 0 0,.slice none 0 0,.slice none 0 0]:=blkAt _ _ _ rfl
       have hX9:w.heap.size+1<V1.heap.size∧X<V1.heap.size:=⟨pZ.lt,pS.lt⟩
       replace bw:=bel_trans bw hb
       replace pP:=pP.below hb
       replace pZ:=pZ.below hb
       replace pS:=pS.below hb
       replace hO:=hO.below hb
       replace q:=owns_below q hb
       replace hc:=cells_kept hb _ _ hc
       replace hO2:=hO2.below hb
       replace q2:=owns_below q2 hb
       go_simp
       refine hK.out _ _ ⟨by simpa using pP.cell 0,by simpa using pS.cell 0,by simpa using pS.cell 1,by simpa using pS.cell 2,by simpa using pS.cell 3,hc⟩ (fun hS6=>?_)
       clear hK hb
       generalize (V1.alloc (.cells #[.slice none 0 0,.slice none 0 0,.slice none 0 0,.slice none 0 0] 33))=V2 at *
       generalize V1.heap.size=Y at *
       try simp only [Act.put,tka,tkb,tkc]
       refine tkz 11 (fun K hK=>?_)
       refine step_store_blkD rfl 33 _ _ rfl Y [.slice z0a z0n z0c,.slice z1a z1n z1c,.slice z2a z2n z2c,.slice z3a z3n z3c] rfl rfl pX (by kernel_rfl) rfl rfl ?_
       intro V8 pX8 g8
       have m0:(some Y:Option Nat)≠some w.heap.size:=by simp;omega
       have m1:(some Y:Option Nat)≠some (w.heap.size+1):=by simp;omega
       have m2:(some Y:Option Nat)≠some X:=by simp;omega
       replace hO2:=hO2.kept9 g8 pX (by decide)
       replace q2:=q2.kept g8 (own_apart_blk q2 pX (by decide))
       replace q:=q.kept g8 (own_apart_blk q pX (by decide))
       replace pP:=pP.kept g8 m0
       replace pZ:=pZ.kept g8 m1
       replace pS:=pS.kept g8 m2
       replace bw:=bw.grown g8 bw.size (fun j hj=>by cases hj;omega)
       replace hc:=cell_grownB g8 hc (by simp;omega)
       refine hK.out _ _ ⟨by simpa using pP.cell 0,by simpa using pS.cell 0,by simpa using pS.cell 1,by simpa using pS.cell 2,by simpa using pS.cell 3,hc⟩ (fun hS7=>?_)
       clear hK m0 m1 m2 pX g8 hO
       have pX:=pX8.out
       clear pX8
       try simp only [Act.put,tka,tkb,tkc]
       refine tkm 12 11 (.slice fa fs.length fc) ?_
       refine wpAnyH_done (by kernel_rfl) ?_ _
       clear hS0 hS5 hS6 hS7 hc
       go_wp2_with (first | refine wpList_load_blk rfl 33 _ rfl Y rfl pX _ Tryz.underlying33 rfl (by kernel_rfl) ?_ | refine wpList_store_blk rfl 33 _ _ rfl X [.slice z0a z0n z0c,.slice z1a z1n z1c,.slice z2a z2n z2c,.slice z3a z3n z3c] rfl rfl pS (by kernel_rfl) rfl rfl ?_)
       intro V9 pS9 g9
       have m0:(some X:Option Nat)≠some w.heap.size:=by simp;omega
       have m1:(some X:Option Nat)≠some (w.heap.size+1):=by simp;omega
       replace hO2:=hO2.kept9 g9 pS (by decide)
       replace q2:=q2.kept g9 (own_apart_blk q2 pS (by decide))
       replace q:=q.kept g9 (own_apart_blk q pS (by decide))
       replace pP:=pP.kept g9 m0
       replace pZ:=pZ.kept g9 m1
       replace bw:=bw.grown g9 bw.size (fun j hj=>by cases hj;omega)
       have pS:=pS9.out
       clear pS9 g9 m0 m1 pX
       have hI:=instrs_rowS q (fun x hx=>okB_fitsQ (hok x hx))
       have hI2:=instrs_rowS q2 (fun x hx=>okB_fitsQ (hfo.1 x hx))
       have kM:=l04Merge_is va out.length vc out fa fs.length fc fs V9 hI hI2 (by omega) (by omega)
       clear hI hI2 q2 q
       go_wp2_with fail
       refine kM.mono ?_
       rintro e V10 ⟨⟨v6,rfl,q6⟩,hb⟩
       replace q6:=own_lowerB (B':=w.heap.size) q6 bw.size
       have st6:OnS w V10 X a9 cap rows ks n (i+1) fin z (mergeB out fs) v6:=⟨by omega,hfe,hs2,⟨((z0a,z0n,z0c),(z1a,z1n,z1c),(z2a,z2n,z2c),(z3a,z3n,z3c)),pS.below hb,hO2.below hb⟩,q6,mergeB_ok hok hfo.1,by have:=mergeB_len out fs;have:=hfo.2;omega,bel_trans bw hb,pP.below hb,pZ.below hb⟩
       clear hb q6 kM pS hO2 bw pP pZ hok hfo hs2 hs fm hfe hXw2 hX9 hlo
       go_wp2
       go_roundw
       case rel=>exact ⟨i+1,_,_,by go_num,st6⟩
       case measure=>simp [intOf];omega
      ·have hb:Below V.heap.size V (V.alloc (.cells #[.slice none 0 0,.slice none 0 0,.slice none 0 0,.slice none 0 0] 33)):=by go_grown
       have pX:Blk (V.alloc (.cells #[.slice none 0 0,.slice none 0 0,.slice none 0 0,.slice none 0 0] 33)) V.heap.size 33 [.slice none 0 0,.slice none 0 0,.slice none 0 0,.slice none 0 0]:=blkAt _ _ _ rfl
       have hX9:w.heap.size+1<V.heap.size∧X<V.heap.size:=⟨pZ.lt,pS.lt⟩
       replace bw:=bel_trans bw hb
       replace pP:=pP.below hb
       replace pZ:=pZ.below hb
       replace pS:=pS.below hb
       replace hO:=hO.below hb
       replace q:=owns_below q hb
       replace hc:=cells_kept hb _ _ hc
       go_simp
       refine hK.out _ _ ⟨by simpa using pP.cell 0,by simpa using pS.cell 0,by simpa using pS.cell 1,by simpa using pS.cell 2,by simpa using pS.cell 3,hc⟩ (fun hS6=>?_)
       clear hK hb
       generalize (V.alloc (.cells #[.slice none 0 0,.slice none 0 0,.slice none 0 0,.slice none 0 0] 33))=V2 at *
       generalize V.heap.size=Y at *
       try simp only [Act.put,tka,tkb,tkc]
       have kFx:=kFg _ bw (hO.mem fm)
       clear kFg
       refine tkr 6 60 (fun K hK=>?_)
       go_simp
       refine kFx.mono ?_
       rintro e V3 ⟨⟨⟨⟨z0a,z0n,z0c⟩,⟨z1a,z1n,z1c⟩,⟨z2a,z2n,z2c⟩,⟨z3a,z3n,z3c⟩⟩,v9,rfl,hO2,q2⟩,hb⟩
       have uz:S4.val ((z0a,z0n,z0c),(z1a,z1n,z1c),(z2a,z2n,z2c),(z3a,z3n,z3c))=.agg #[.slice z0a z0n z0c,.slice z1a z1n z1c,.slice z2a z2n z2c,.slice z3a z3n z3c]:=rfl
       rw [uz]
       replace hO2:=hO2.lowerB (B':=w.heap.size) bw.size
       replace q2:=own_lowerB (B':=w.heap.size) q2 bw.size
       obtain ⟨fa,fc,rfl,hI9,hGd9⟩:=bugs_sliceR q2 (fun x hx=>okB_fitsQ (hfo.1 x hx))
       clear hI9 hGd9
       replace bw:=bel_trans bw hb
       replace pP:=pP.below hb
       replace pZ:=pZ.below hb
       replace pS:=pS.below hb
       replace hO:=hO.below hb
       replace q:=owns_below q hb
       replace pX:=pX.below hb
       replace hc:=cells_kept hb _ _ hc
       clear hb kFx uz
       go_wp2_with fail
       refine hK.out _ _ ⟨by simpa using pP.cell 0,by simpa using pS.cell 0,by simpa using pS.cell 1,by simpa using pS.cell 2,by simpa using pS.cell 3,hc⟩ (fun hS5=>?_)
       clear hK
       try simp only [Act.put,tka,tkb,tkc]
       refine tkm 7 53 (.tuple #[.agg #[.slice z0a z0n z0c,.slice z1a z1n z1c,.slice z2a z2n z2c,.slice z3a z3n z3c],.slice fa fs.length fc]) ?_
       refine tkm 8 61 (.agg #[.slice z0a z0n z0c,.slice z1a z1n z1c,.slice z2a z2n z2c,.slice z3a z3n z3c]) ?_
       refine tkm 9 62 (.slice fa fs.length fc) ?_
       refine tkz 11 (fun K hK=>?_)
       refine step_store_blkD rfl 33 _ _ rfl Y [.slice z0a z0n z0c,.slice z1a z1n z1c,.slice z2a z2n z2c,.slice z3a z3n z3c] rfl rfl pX (by kernel_rfl) rfl rfl ?_
       intro V8 pX8 g8
       have m0:(some Y:Option Nat)≠some w.heap.size:=by simp;omega
       have m1:(some Y:Option Nat)≠some (w.heap.size+1):=by simp;omega
       have m2:(some Y:Option Nat)≠some X:=by simp;omega
       replace hO2:=hO2.kept9 g8 pX (by decide)
       replace q2:=q2.kept g8 (own_apart_blk q2 pX (by decide))
       replace q:=q.kept g8 (own_apart_blk q pX (by decide))
       replace pP:=pP.kept g8 m0
       replace pZ:=pZ.kept g8 m1
       replace pS:=pS.kept g8 m2
       replace bw:=bw.grown g8 bw.size (fun j hj=>by cases hj;omega)
       replace hc:=cell_grownB g8 hc (by simp;omega)
       refine hK.out _ _ ⟨by simpa using pP.cell 0,by simpa using pS.cell 0,by simpa using pS.cell 1,by simpa using pS.cell 2,by simpa using pS.cell 3,hc⟩ (fun hS7=>?_)
       clear hK m0 m1 m2 pX g8 hO
       have pX:=pX8.out
       clear pX8
       try simp only [Act.put,tka,tkb,tkc]
       refine tkm 12 11 (.slice fa fs.length fc) ?_
       refine wpAnyH_done (by kernel_rfl) ?_ _
       clear hS0 hS5 hS6 hS7 hc
       go_wp2_with (first | refine wpList_load_blk rfl 33 _ rfl Y rfl pX _ Tryz.underlying33 rfl (by kernel_rfl) ?_ | refine wpList_store_blk rfl 33 _ _ rfl X [.slice z0a z0n z0c,.slice z1a z1n z1c,.slice z2a z2n z2c,.slice z3a z3n z3c] rfl rfl pS (by kernel_rfl) rfl rfl ?_)
       intro V9 pS9 g9
       have m0:(some X:Option Nat)≠some w.heap.size:=by simp;omega
       have m1:(some X:Option Nat)≠some (w.heap.size+1):=by simp;omega
       replace hO2:=hO2.kept9 g9 pS (by decide)
       replace q2:=q2.kept g9 (own_apart_blk q2 pS (by decide))
       replace q:=q.kept g9 (own_apart_blk q pS (by decide))
       replace pP:=pP.kept g9 m0
       replace pZ:=pZ.kept g9 m1
       replace bw:=bw.grown g9 bw.size (fun j hj=>by cases hj;omega)
       have pS:=pS9.out
       clear pS9 g9 m0 m1 pX
       have hI:=instrs_rowS q (fun x hx=>okB_fitsQ (hok x hx))
       have hI2:=instrs_rowS q2 (fun x hx=>okB_fitsQ (hfo.1 x hx))
       have kM:=l04Merge_is va out.length vc out fa fs.length fc fs V9 hI hI2 (by omega) (by omega)
       clear hI hI2 q2 q
       go_wp2_with fail
       refine kM.mono ?_
       rintro e V10 ⟨⟨v6,rfl,q6⟩,hb⟩
       replace q6:=own_lowerB (B':=w.heap.size) q6 bw.size
       have st6:OnS w V10 X a9 cap rows ks n (i+1) fin z (mergeB out fs) v6:=⟨by omega,hfe,hs2,⟨((z0a,z0n,z0c),(z1a,z1n,z1c),(z2a,z2n,z2c),(z3a,z3n,z3c)),pS.below hb,hO2.below hb⟩,q6,mergeB_ok hok hfo.1,by have:=mergeB_len out fs;have:=hfo.2;omega,bel_trans bw hb,pP.below hb,pZ.below hb⟩
       clear hb q6 kM pS hO2 bw pP pZ hok hfo hs2 hs fm hfe hXw2 hX9 hlo
       go_wp2
       go_roundw
       case rel=>exact ⟨i+1,_,_,by go_num,st6⟩
       case measure=>simp [intOf];omega
    ·simp only [hd] at kD
     have hdr:Below wr.heap.size wr wr.drew:=by go_grown
     have kx:=kD wr.drew (bel_trans bw hdr) ((hO.below hdr).mem fm)
     clear hdr
     refine wp_region_held_drew (S:=(fun w'=>w'.cell? ⟨w.heap.size,0,none⟩=some (.slice a9 3 cap)∧w'.cell? ⟨X,0,none⟩=some (.slice t0a t0n t0c)∧w'.cell? ⟨X,1,none⟩=some (.slice t1a t1n t1c)∧w'.cell? ⟨X,2,none⟩=some (.slice t2a t2n t2c)∧w'.cell? ⟨X,3,none⟩=some (.slice t3a t3n t3c)∧w'.cell? ⟨lb,lo+i,none⟩=some (.int .i64 (k:Int)))) (by kernel_rfl) ⟨by simpa using pP.cell 0,by simpa using pS.cell 0,by simpa using pS.cell 1,by simpa using pS.cell 2,by simpa using pS.cell 3,hc⟩ (fun hS0=>?_)
     refine tkm 0 34 (.agg #[.slice a9 3 cap]) ?_
     refine tkm 1 35 (.agg #[.slice t0a t0n t0c,.slice t1a t1n t1c,.slice t2a t2n t2c,.slice t3a t3n t3c]) ?_
     refine tkm 2 36 (.slice (some ⟨lb,lo,none⟩) n c) ?_
     refine tkm 3 37 (.int .i64 (i:Int)) ?_
     refine tkm 4 38 (.pointer (some ⟨lb,lo+i,none⟩)) ?_
     refine tkm 5 39 (.int .i64 (k:Int)) ?_
     refine tkr 6 40 (fun K hK=>?_)
     go_simp
     refine (kx).mono ?_
     rintro e u1 ⟨rfl,hb⟩
     go_wp2_with fail
     refine hK.out _ _ ?_ (fun hS1=>?_)
     ·exact ⟨cells_kept hb _ _ hS0.1,cells_kept hb _ _ hS0.2.1,cells_kept hb _ _ hS0.2.2.1,cells_kept hb _ _ hS0.2.2.2.1,cells_kept hb _ _ hS0.2.2.2.2.1,cells_kept hb _ _ hS0.2.2.2.2.2⟩
     clear hK
     refine wpAnyH_done (by kernel_rfl) ?_ _
     clear hS0 hS1 kx
     have hb9:=bel_trans (by go_grown:Below wr.heap.size wr wr.drew) hb
     replace bw:=bel_trans bw hb9
     replace pP:=pP.below hb9
     replace pZ:=pZ.below hb9
     replace pS:=pS.below hb9
     replace hO:=hO.below hb9
     replace q:=owns_below q hb9
     replace hc:=cells_kept hb9 _ _ hc
     clear hb hb9
     clear kD kC
     have hz:haltM rows m' (k:Int)=10:=by
      unfold haltM
      rw [if_pos (by omega),Int.toNat_natCast]
      simp [hd]
     have hfe:=HH.out (by rw [hz];decide)
     rw [hz] at hfe
     clear HH HG hz hd hc
     go_wp2_with (first | refine wpList_load_blk rfl 33 _ rfl X rfl pS _ Tryz.underlying33 rfl (by kernel_rfl) ?_ | refine wpList_store_blk rfl 33 _ _ rfl (w.heap.size+1) [.slice t0a t0n t0c,.slice t1a t1n t1c,.slice t2a t2n t2c,.slice t3a t3n t3c] rfl rfl pZ (by kernel_rfl) rfl rfl ?_)
     intro U2 pZ2 g2
     have bz:=bw.grown g2 bw.size (fun k e=>by cases e;omega)
     have q2:=q.kept g2 (own_apart_blk q pZ (by decide))
     have hO2:=hO.kept9 g2 pZ (by decide)
     clear bw g2 pZ q hO pS pP
     go_wp2_with fail
     refine bodyPost_ret (results_blk3 Tryz.results121 _ _ _ _ _ _ rfl pZ2.out Tryz.underlying33 rfl (by kernel_rfl)) rfl ?_
     rw [hfe]
     exact ⟨RunGot.mk9 ((t0a,t0n,t0c),(t1a,t1n,t1c),(t2a,t2n,t2c),(t3a,t3n,t3c)) _ rfl hO2 q2,bz⟩
  ·obtain rfl:i=n:=by omega
   have hfe:fin=(m',out,0):=by rw [← hr,List.drop_of_length_le (by omega)];rfl
   clear hr
   have hXw2:=pS.lt
   obtain ⟨va,vc,rfl,hI,hGd⟩:=bugs_sliceR q (fun x hx=>okB_fitsQ (hok x hx))
   clear hI hGd
   go_wp2_with (first | refine wpList_load_blk rfl 33 _ rfl X rfl pS _ Tryz.underlying33 rfl (by kernel_rfl) ?_ | refine wpList_store_blk rfl 33 _ _ rfl (w.heap.size+1) [.slice t0a t0n t0c,.slice t1a t1n t1c,.slice t2a t2n t2c,.slice t3a t3n t3c] rfl rfl pZ (by kernel_rfl) rfl rfl ?_)
   intro U2 pZ2 g2
   have bz:=bw.grown g2 bw.size (fun k e=>by cases e;omega)
   have q2:=q.kept g2 (own_apart_blk q pZ (by decide))
   have hO2:=hO.kept9 g2 pZ (by decide)
   clear bw g2 pZ q hO pS pP
   go_wp2_with fail
   refine bodyPost_ret (results_blk3 Tryz.results121 _ _ _ _ _ _ rfl pZ2.out Tryz.underlying33 rfl (by kernel_rfl)) rfl ?_
   rw [hfe]
   exact ⟨RunGot.mk9 ((t0a,t0n,t0c),(t1a,t1n,t1c),(t2a,t2n,t2c),(t3a,t3n,t3c)) _ rfl hO2 q2,bz⟩
end Go.Proofs.YtifoggpohlegmaaGreatDoor
