/-
  Joined: FrW#1, FrW#2.
-/
import Derived.Test.YtjgffnlmjmibgaaDoorL45
import Derived.Test.YtjgffnlmjmibgaaDoorL47

namespace Go.Proofs.YtjgffnlmjmibgaaDoor
set_option maxRecDepth 100000
set_option maxHeartbeats 16000000
open Go.RowKit
set_option linter.unusedVariables false
set_option linter.unusedSimpArgs false

theorem same_selfF {m:V4} (h:shapeOk m=true):sameV m m=true:=by unfold sameV;simp [h]
theorem schedule_ints (a:Option Addr) (n cap:Nat) (zs:List Int) (aP:Option Addr) (capP:Nat) (rows:List (List I3)) (w:World) (hI:IsRow .u8 w a n cap zs) (hn:n≤1048576) (hP:Codes w aP 3 capP rows) (hok:progOk rows=true) :
  Calls Tryd.prog 7 #[.slice a n cap,.agg #[.slice aP 3 capP]] w fun e w'=>(∃ (lb lo lc k:Nat) (ks:List Int) (m:V4),e=.returned (.slice (some ⟨lb,lo,none⟩) k lc)∧Ints .i64 w' (some ⟨lb,lo,none⟩) k lc ks∧k≤14∧goesTo rows ks m)∧Below w.heap.size w w':=by
 refine (scheduleDrawn_any a n cap zs aP capP rows w hI hn hP hok).mono ?_
 rintro e w' ⟨⟨v,ks,m,⟨g,c,rfl⟩,rfl,q,hl,hg⟩,hb⟩
 exact ⟨⟨g,0,c,ks.length,ks,m,rfl,OwnI.ints (s:=(some ⟨g,0,none⟩,ks.length,c)) q,hl,hg⟩,hb⟩
def OnFr (Wb wr:World) (rows:List (List I3)) (ks:List Int) (n i:Nat) (m mi:V4) (fi:List I3):Prop:=
 i≤n∧(runI rows mi fi (ks.drop i)).2.2=0∧(runI rows mi fi (ks.drop i)).1=m∧shapeOk mi=true∧(∃ t:S4,Blk wr Wb.heap.size 30 (vmC t)∧OwnV wr 0 t mi)∧Below Wb.heap.size Wb wr
theorem run_step {rows:List (List I3)} {m mi:V4} {fi:List I3} {k:Int} {ks:List Int} (h1:(runI rows mi fi (k::ks)).2.2=0) (h2:(runI rows mi fi (k::ks)).1=m):haltM rows mi k=0∧(runI rows (goM rows mi k).1 (fi++ownM rows mi k) ks).2.2=0∧(runI rows (goM rows mi k).1 (fi++ownM rows mi k) ks).1=m:=by
 by_cases hz:haltM rows mi k=0
 ·have e:runI rows mi fi (k::ks)=runI rows (goM rows mi k).1 (fi++ownM rows mi k) ks:=by
   show (if haltM rows mi k=0 then _ else _)=_
   rw [if_pos hz]
  rw [e] at h1 h2
  exact ⟨hz,h1,h2⟩
 ·have e:runI rows mi fi (k::ks)=(mi,fi,haltM rows mi k):=by
   show (if haltM rows mi k=0 then _ else _)=_
   rw [if_neg hz]
  rw [e] at h1
  exact absurd h1 hz
theorem int_one (xs:List Int):∀ u ∈ xs.map (Value.int .i64),u.oneCell'=true:=by
 intro u hu
 obtain ⟨x,_,rfl⟩:=List.mem_map.1 hu
 rfl
theorem int_at {w:World} {G:Nat} {v:Value} (h:w.cell? ⟨G,0,none⟩=some v):∀ j u,[v][j]?=some u→w.cell? ((⟨G,0,none⟩:Addr).add j)=some u:=by
 intro j u hj
 match j,hj with
 | 0,hj=>simp at hj;subst hj;simpa [Addr.add] using h
 | (j+1),hj=>simp at hj
theorem bugs_cells {w:World} {a:Option Addr} {n c:Nat} {xs:List I3} (h:Instrs w a n c xs) {i:Nat} (hi:i<n):∃ b off,a=some ⟨b,off,none⟩∧w.cell? ⟨b,off+i*3,none⟩=some (.int .i64 (xs.getD i (0,0,0)).1)∧w.cell? ⟨b,off+i*3+1,none⟩=some (.int .i64 (xs.getD i (0,0,0)).2.1)∧w.cell? ⟨b,off+i*3+2,none⟩=some (.int .i64 (xs.getD i (0,0,0)).2.2):=by
 obtain ⟨h1,h2,h3,_,h4⟩:=h
 rcases h4 with h4 | ⟨b,off,ha,hl,hc⟩
 ·omega
 ·exact ⟨b,off,ha,hc i hi⟩
theorem own_snoc {w:World} {B g n c:Nat} {ks:List Int} {z:Int} (q:w.ownsRow B 3 1 (.slice (some ⟨g,0,none⟩) (0+n+1) c) (0+n+1) (([]++ks.map (Value.int .i64))++[Value.int .i64 z])):Ints .i64 w (some ⟨g,0,none⟩) (0+n+1) c (ks++[z]):=by
 refine OwnI.ints (B:=B) (s:=(some ⟨g,0,none⟩,0+n+1,c)) ?_
 unfold OwnI
 simpa using q


theorem fnRun_walk (a0:Option Addr) (len0 cap0:Nat) (z0:List Int) (a1:Option Addr) (len1 cap1:Nat) (z1:List Int) (w:World) (h0:IsRow .u8 w a0 len0 cap0 z0) (h1:IsRow .u8 w a1 len1 cap1 z1) (hV:VmShape w) :
  Calls Tryd.prog 3 #[.slice a0 len0 cap0,.slice a1 len1 cap1] w fun e w'=>e=.returned (.bool true)∧Below w.heap.size w w':=by
 have m0:=h0.len_le
 have m1:=h1.len_le
 unfold maxLen at m0 m1
 by_cases hb0:1048576<len0
 ·go_enter Tryd.func3,Tryd.ntmps3
  go_wp2
  go_ret
  exact ⟨rfl,Below.refl _ _⟩
 by_cases hb1:1048576<len1
 ·go_enter Tryd.func3,Tryd.ntmps3
  go_wp2
  go_ret
  exact ⟨rfl,Below.refl _ _⟩
 have l0:len0≤1048576:=by omega
 have l1:len1≤1048576:=by omega
 clear hb0 hb1 m0 m1
 have bW:Below w.heap.size w w:=Below.refl _ _
 obtain ⟨i0,hi9,hz0,hz1,hz2⟩:=info_parts info_int
 go_enter Tryd.func3,Tryd.ntmps3
 go_wp2_with fail
 refine (programDrawn_any _ _ _ z0 _ h0 l0).mono ?_
 rintro e w1 ⟨⟨v,rows,hok,rfl,ho⟩,hb⟩
 have h3:=(progOk_parts hok).1
 obtain ⟨a,cap,hv⟩:=ho.slice
 rw [h3] at hv
 subst hv
 have hC:=ho.codes (fun r hr x hx=>okI_fits ((progOk_parts hok).2 r hr |>.2 x hx))
 clear ho h0
 replace h1:=h1.below hb
 replace hV:=hV.below hb
 replace bW:=bel_trans bW hb
 clear hb h3
 have HOK:Hid (progOk rows=true):=hok
 clear hok
 have ha:Below w1.heap.size w1 (w1.alloc (.cells #[.slice a 3 cap] 25)):=by go_grown
 have cP:(w1.alloc (.cells #[.slice a 3 cap] 25)).cell? ⟨w1.heap.size,0,none⟩=some (.slice a 3 cap):=by simp [go_sem]
 replace h1:=h1.below ha
 replace hV:=hV.below ha
 replace hC:=hC.below ha
 replace bW:=bel_trans bW ha
 clear ha
 go_wp2_with fail
 generalize (w1.alloc (.cells #[.slice a 3 cap] 25))=wp at *
 generalize w1.heap.size=P at *
 refine (schedule_ints _ _ _ z1 a cap rows _ h1 l1 hC HOK.out).mono ?_
 rintro e w2 ⟨⟨lb,lo,lc,n,ks,m,rfl,hL,hn14,hg⟩,hb⟩
 replace hV:=hV.below hb
 replace hC:=hC.below hb
 replace cP:=cells_kept hb _ _ cP
 replace bW:=bel_trans bW hb
 have hln:=hL.1
 obtain ⟨gZ,gC,gS⟩:=goes_run HOK.out hg (by omega)
 have gB:=goes_beyond HOK.out hg (by omega)
 have fW:=fun y (hy:y ∈ runF rows ks)=>goes_witness HOK.out hg (by omega) hy
 have fK:=runF_ok rows ks
 have kR:=fun (W:World) hC hV hL=>implRunSchedule_is a 3 cap rows (some ⟨lb,lo,none⟩) n lc ks W hC hV hL
 have kQ:=fun (W:World) hC hL=>specRunSchedule_is a 3 cap rows (some ⟨lb,lo,none⟩) n lc ks W hC hL
 rw [gZ,gC] at kR kQ
 generalize runF rows ks=fs at *
 have hff:∀ x ∈ fs,I3.fits x:=fun x hx=>okB_fitsQ (fK.1 x hx)
 have fm:=(shape_fits9 gS).1
 have kM:=fun (t t':S4) W hA hB hV=>implSameVm_is t m t' m W hA hB hV
 rw [same_selfF gS] at kM
 clear hb h1 l0 l1 gZ gC
 go_wp2_with fail
 refine (kR _ hC hV hL).mono ?_
 rintro e w3 ⟨⟨⟨⟨s0a,s0n,s0c⟩,⟨s1a,s1n,s1c⟩,⟨s2a,s2n,s2c⟩,⟨s3a,s3n,s3c⟩⟩,vs,rfl,hO,q⟩,hb⟩
 have us:S4.val ((s0a,s0n,s0c),(s1a,s1n,s1c),(s2a,s2n,s2c),(s3a,s3n,s3c))=.agg #[.slice s0a s0n s0c,.slice s1a s1n s1c,.slice s2a s2n s2c,.slice s3a s3n s3c]:=rfl
 rw [us]
 obtain ⟨fa,fc,rfl,hF,hGd⟩:=bugs_sliceR q hff
 have hMs:=hO.mem fm
 replace hV:=hV.below hb
 replace hC:=hC.below hb
 replace hL:=hL.below hb
 replace cP:=cells_kept hb _ _ cP
 replace bW:=bel_trans bW hb
 clear hb hO q hGd kR
 have ha:Below w3.heap.size w3 (w3.alloc (.cells #[.slice s0a s0n s0c,.slice s1a s1n s1c,.slice s2a s2n s2c,.slice s3a s3n s3c] 30)):=by go_grown
 have cS0:(w3.alloc (.cells #[.slice s0a s0n s0c,.slice s1a s1n s1c,.slice s2a s2n s2c,.slice s3a s3n s3c] 30)).cell? ⟨w3.heap.size,0,none⟩=some (.slice s0a s0n s0c):=by simp [go_sem]
 have cS1:(w3.alloc (.cells #[.slice s0a s0n s0c,.slice s1a s1n s1c,.slice s2a s2n s2c,.slice s3a s3n s3c] 30)).cell? ⟨w3.heap.size,1,none⟩=some (.slice s1a s1n s1c):=by simp [go_sem]
 have cS2:(w3.alloc (.cells #[.slice s0a s0n s0c,.slice s1a s1n s1c,.slice s2a s2n s2c,.slice s3a s3n s3c] 30)).cell? ⟨w3.heap.size,2,none⟩=some (.slice s2a s2n s2c):=by simp [go_sem]
 have cS3:(w3.alloc (.cells #[.slice s0a s0n s0c,.slice s1a s1n s1c,.slice s2a s2n s2c,.slice s3a s3n s3c] 30)).cell? ⟨w3.heap.size,3,none⟩=some (.slice s3a s3n s3c):=by simp [go_sem]
 replace hV:=hV.below ha
 replace hC:=hC.below ha
 replace hL:=hL.below ha
 replace hF:=hF.below ha
 replace hMs:=hMs.below ha
 replace cP:=cells_kept ha _ _ cP
 replace bW:=bel_trans bW ha
 clear ha
 go_wp2_with fail
 generalize (w3.alloc (.cells #[.slice s0a s0n s0c,.slice s1a s1n s1c,.slice s2a s2n s2c,.slice s3a s3n s3c] 30))=W3 at *
 generalize w3.heap.size=GS at *
 refine (kQ _ hC hL).mono ?_
 rintro e w4 ⟨⟨⟨⟨r0a,r0n,r0c⟩,⟨r1a,r1n,r1c⟩,⟨r2a,r2n,r2c⟩,⟨r3a,r3n,r3c⟩⟩,vr,rfl,hO,q⟩,hb⟩
 have ur:S4.val ((r0a,r0n,r0c),(r1a,r1n,r1c),(r2a,r2n,r2c),(r3a,r3n,r3c))=.agg #[.slice r0a r0n r0c,.slice r1a r1n r1c,.slice r2a r2n r2c,.slice r3a r3n r3c]:=rfl
 rw [ur]
 obtain ⟨da,dc,rfl,hD,hGd⟩:=bugs_sliceR q hff
 have hMr:=hO.mem fm
 have kSR:=kM ((s0a,s0n,s0c),(s1a,s1n,s1c),(s2a,s2n,s2c),(s3a,s3n,s3c)) ((r0a,r0n,r0c),(r1a,r1n,r1c),(r2a,r2n,r2c),(r3a,r3n,r3c))
 rw [us,ur] at kSR
 replace hV:=hV.below hb
 replace hC:=hC.below hb
 replace hL:=hL.below hb
 replace hF:=hF.below hb
 replace hMs:=hMs.below hb
 replace cP:=cells_kept hb _ _ cP
 replace cS0:=cells_kept hb _ _ cS0
 replace cS1:=cells_kept hb _ _ cS1
 replace cS2:=cells_kept hb _ _ cS2
 replace cS3:=cells_kept hb _ _ cS3
 replace bW:=bel_trans bW hb
 clear hb hO q hGd kQ ur
 have ha:Below w4.heap.size w4 (w4.alloc (.cells #[.slice r0a r0n r0c,.slice r1a r1n r1c,.slice r2a r2n r2c,.slice r3a r3n r3c] 30)):=by go_grown
 have cR0:(w4.alloc (.cells #[.slice r0a r0n r0c,.slice r1a r1n r1c,.slice r2a r2n r2c,.slice r3a r3n r3c] 30)).cell? ⟨w4.heap.size,0,none⟩=some (.slice r0a r0n r0c):=by simp [go_sem]
 have cR1:(w4.alloc (.cells #[.slice r0a r0n r0c,.slice r1a r1n r1c,.slice r2a r2n r2c,.slice r3a r3n r3c] 30)).cell? ⟨w4.heap.size,1,none⟩=some (.slice r1a r1n r1c):=by simp [go_sem]
 have cR2:(w4.alloc (.cells #[.slice r0a r0n r0c,.slice r1a r1n r1c,.slice r2a r2n r2c,.slice r3a r3n r3c] 30)).cell? ⟨w4.heap.size,2,none⟩=some (.slice r2a r2n r2c):=by simp [go_sem]
 have cR3:(w4.alloc (.cells #[.slice r0a r0n r0c,.slice r1a r1n r1c,.slice r2a r2n r2c,.slice r3a r3n r3c] 30)).cell? ⟨w4.heap.size,3,none⟩=some (.slice r3a r3n r3c):=by simp [go_sem]
 replace hV:=hV.below ha
 replace hC:=hC.below ha
 replace hL:=hL.below ha
 replace hF:=hF.below ha
 replace hD:=hD.below ha
 replace hMs:=hMs.below ha
 replace hMr:=hMr.below ha
 replace cP:=cells_kept ha _ _ cP
 replace cS0:=cells_kept ha _ _ cS0
 replace cS1:=cells_kept ha _ _ cS1
 replace cS2:=cells_kept ha _ _ cS2
 replace cS3:=cells_kept ha _ _ cS3
 replace bW:=bel_trans bW ha
 clear ha
 go_wp2_with fail
 generalize (w4.alloc (.cells #[.slice r0a r0n r0c,.slice r1a r1n r1c,.slice r2a r2n r2c,.slice r3a r3n r3c] 30))=W4 at *
 generalize w4.heap.size=GR at *
 refine (implNewVm_is _).mono ?_
 rintro e Wb ⟨⟨⟨⟨t0a,t0n,t0c⟩,⟨t1a,t1n,t1c⟩,⟨t2a,t2n,t2c⟩,⟨t3a,t3n,t3c⟩⟩,rfl,hO⟩,hb⟩
 have ut:S4.val ((t0a,t0n,t0c),(t1a,t1n,t1c),(t2a,t2n,t2c),(t3a,t3n,t3c))=.agg #[.slice t0a t0n t0c,.slice t1a t1n t1c,.slice t2a t2n t2c,.slice t3a t3n t3c]:=rfl
 rw [ut]
 replace hO:=hO.lowerB (B':=0) (Nat.zero_le _)
 replace hV:=hV.below hb
 replace hC:=hC.below hb
 replace hL:=hL.below hb
 replace hF:=hF.below hb
 replace hD:=hD.below hb
 replace hMs:=hMs.below hb
 replace hMr:=hMr.below hb
 replace cP:=cells_kept hb _ _ cP
 replace cS0:=cells_kept hb _ _ cS0
 replace cS1:=cells_kept hb _ _ cS1
 replace cS2:=cells_kept hb _ _ cS2
 replace cS3:=cells_kept hb _ _ cS3
 replace cR0:=cells_kept hb _ _ cR0
 replace cR1:=cells_kept hb _ _ cR1
 replace cR2:=cells_kept hb _ _ cR2
 replace cR3:=cells_kept hb _ _ cR3
 replace bW:=bel_trans bW hb
 clear hb ut
 have st:OnFr Wb (Wb.alloc (.cells #[.slice t0a t0n t0c,.slice t1a t1n t1c,.slice t2a t2n t2c,.slice t3a t3n t3c] 30)) rows ks n 0 m zeroV []:=⟨by omega,hg.1,hg.2,zero_shape,⟨((t0a,t0n,t0c),(t1a,t1n,t1c),(t2a,t2n,t2c),(t3a,t3n,t3c)),blkAt _ _ _ rfl,hO.below (by go_grown)⟩,by go_grown⟩
 clear hO hg
 go_wp2_with fail
 go_loopw [14] (fun si wr=>∃ (i:Nat) (mi:V4) (fi:List I3),si=.int .i64 i∧OnFr Wb wr rows ks n i m mi fi) (fun si _=>n - (intOf si).toNat)
 case atStart=>exact ⟨0,_,_,rfl,st⟩
 case round =>
  clear st
  obtain ⟨i,mi,fi,rfl,hi,hr,hrm,hs,⟨⟨⟨t0a,t0n,t0c⟩,⟨t1a,t1n,t1c⟩,⟨t2a,t2n,t2c⟩,⟨t3a,t3n,t3c⟩⟩,pX,hO⟩,bw⟩:=hrel
  replace pX:Blk wr Wb.heap.size 30 [.slice t0a t0n t0c,.slice t1a t1n t1c,.slice t2a t2n t2c,.slice t3a t3n t3c]:=pX
  by_cases hlt:i<n
  ·obtain ⟨lb',lo',e9,hc,hlb⟩:=ints_cellE hL hlt
   cases e9
   have e9:ks.drop i=ks.getD i 0::ks.drop (i+1):=by rw [List.drop_eq_getElem_cons (by omega)];simp [List.getD,show i<ks.length by omega]
   rw [e9] at hr hrm
   have hlt':(i:Int)<(n:Int):=by omega
   have hi0:(0:Int)≤(i:Int):=by omega
   have fmi:=(shape_fits9 hs).1
   generalize ks.getD i 0=kk at *
   clear e9
   obtain ⟨hz,hr2,hr3⟩:=run_step hr hrm
   have hs2:=goM_shape HOK.out hs hz
   obtain ⟨sZ,sC⟩:=halt_step HOK.out hs hz
   have kT:=fun (W:World) (b:Below Wb.heap.size Wb W) (h:Vmem W ((t0a,t0n,t0c),(t1a,t1n,t1c),(t2a,t2n,t2c),(t3a,t3n,t3c)) mi)=>implStepVm_is a 3 cap rows ((t0a,t0n,t0c),(t1a,t1n,t1c),(t2a,t2n,t2c),(t3a,t3n,t3c)) mi kk W (hC.below b) h (hV.below b)
   have ut:S4.val ((t0a,t0n,t0c),(t1a,t1n,t1c),(t2a,t2n,t2c),(t3a,t3n,t3c))=.agg #[.slice t0a t0n t0c,.slice t1a t1n t1c,.slice t2a t2n t2c,.slice t3a t3n t3c]:=rfl
   rw [ut,sZ,sC] at kT
   clear ut sZ sC hz hr hrm
   have HR2:Hid ((runI rows (goM rows mi kk).1 (fi++ownM rows mi kk) (ks.drop (i+1))).2.2=0):=hr2
   have HR3:Hid ((runI rows (goM rows mi kk).1 (fi++ownM rows mi kk) (ks.drop (i+1))).1=m):=hr3
   clear hr2 hr3
   generalize fi++ownM rows mi kk=fi2 at *
   generalize (goM rows mi kk).1=z at *
   generalize stepF rows mi kk=fd at *
   go_wp2_with fail
   refine wp_region_held_drew (S:=(fun w'=>w'.cell? ⟨P,0,none⟩=some (.slice a 3 cap)∧w'.cell? ⟨Wb.heap.size,0,none⟩=some (.slice t0a t0n t0c)∧w'.cell? ⟨Wb.heap.size,1,none⟩=some (.slice t1a t1n t1c)∧w'.cell? ⟨Wb.heap.size,2,none⟩=some (.slice t2a t2n t2c)∧w'.cell? ⟨Wb.heap.size,3,none⟩=some (.slice t3a t3n t3c)∧w'.cell? ⟨lb,lo+i,none⟩=some (.int .i64 kk))) (by kernel_rfl) ⟨cells_kept bw _ _ cP,by simpa using pX.cell 0,by simpa using pX.cell 1,by simpa using pX.cell 2,by simpa using pX.cell 3,cells_kept bw _ _ hc⟩ (fun hS0=>?_)
   refine tkm 0 59 (.agg #[.slice a 3 cap]) ?_
   refine tkm 1 60 (.agg #[.slice t0a t0n t0c,.slice t1a t1n t1c,.slice t2a t2n t2c,.slice t3a t3n t3c]) ?_
   refine tkm 2 61 (.slice (some ⟨lb,lo,none⟩) n lc) ?_
   refine tkm 3 62 (.int .i64 (i:Int)) ?_
   refine tkm 4 63 (.pointer (some ⟨lb,lo+i,none⟩)) ?_
   refine tkm 5 64 (.int .i64 kk) ?_
   have hb9:Below wr.heap.size wr wr.drew:=by go_grown
   replace bw:=bel_trans bw hb9
   replace pX:=pX.below hb9
   replace hO:=hO.below hb9
   clear hb9
   generalize wr.drew=Y0 at *
   refine wpAnyH_ready (rs:=[6,11]) (by kernel_rfl) (by simp) ?_
   refine AllReadyH.cons (o:=⟨some 65,_,_,_,_,_⟩) rfl (fun K hK=>?_) (AllReadyH.cons (o:=⟨some 15,_,_,_,_,_⟩) rfl (fun K hK=>?_) AllReadyH.nil)
   ·have kFx:=kT _ bw (hO.mem fmi)
    go_simp
    refine kFx.mono ?_
    rintro e Y1 ⟨⟨⟨⟨z0a,z0n,z0c⟩,⟨z1a,z1n,z1c⟩,⟨z2a,z2n,z2c⟩,⟨z3a,z3n,z3c⟩⟩,rfl,hO2⟩,hb⟩
    have uz:S4.val ((z0a,z0n,z0c),(z1a,z1n,z1c),(z2a,z2n,z2c),(z3a,z3n,z3c))=.agg #[.slice z0a z0n z0c,.slice z1a z1n z1c,.slice z2a z2n z2c,.slice z3a z3n z3c]:=rfl
    rw [uz]
    replace hO2:=hO2.lowerB (B':=0) (Nat.zero_le _)
    replace bw:=bel_trans bw hb
    replace pX:=pX.below hb
    replace hO:=hO.below hb
    clear hb kFx uz kT
    go_wp2_with fail
    refine hK.out _ _ ⟨cells_kept bw _ _ cP,by simpa using pX.cell 0,by simpa using pX.cell 1,by simpa using pX.cell 2,by simpa using pX.cell 3,cells_kept bw _ _ hc⟩ (fun hS5=>?_)
    clear hK
    try simp only [Act.put,tka,tkb,tkc]
    refine tkm 7 58 (.tuple #[.agg #[.slice z0a z0n z0c,.slice z1a z1n z1c,.slice z2a z2n z2c,.slice z3a z3n z3c],.int .i64 fd,.int .i64 0]) ?_
    refine tkm 8 66 (.agg #[.slice z0a z0n z0c,.slice z1a z1n z1c,.slice z2a z2n z2c,.slice z3a z3n z3c]) ?_
    refine tkm 9 67 (.int .i64 fd) ?_
    refine tkm 10 68 (.int .i64 0) ?_
    refine tkr 11 15 (fun K hK=>?_)
    have hb:Below Y1.heap.size Y1 (Y1.alloc (.cells #[.slice none 0 0,.slice none 0 0,.slice none 0 0,.slice none 0 0] 30)):=by go_grown
    have pY:Blk (Y1.alloc (.cells #[.slice none 0 0,.slice none 0 0,.slice none 0 0,.slice none 0 0] 30)) Y1.heap.size 30 [.slice none 0 0,.slice none 0 0,.slice none 0 0,.slice none 0 0]:=blkAt _ _ _ rfl
    have hX9:Wb.heap.size<Y1.heap.size:=pX.lt
    replace bw:=bel_trans bw hb
    replace pX:=pX.below hb
    replace hO:=hO.below hb
    replace hO2:=hO2.below hb
    go_simp
    refine hK.out _ _ ⟨cells_kept bw _ _ cP,by simpa using pX.cell 0,by simpa using pX.cell 1,by simpa using pX.cell 2,by simpa using pX.cell 3,cells_kept bw _ _ hc⟩ (fun hS6=>?_)
    clear hK hb
    generalize (Y1.alloc (.cells #[.slice none 0 0,.slice none 0 0,.slice none 0 0,.slice none 0 0] 30))=Y2 at *
    generalize Y1.heap.size=Y at *
    try simp only [Act.put,tka,tkb,tkc]
    refine tkz 12 (fun K hK=>?_)
    refine step_store_blkD rfl 30 _ _ rfl Y [.slice z0a z0n z0c,.slice z1a z1n z1c,.slice z2a z2n z2c,.slice z3a z3n z3c] rfl rfl pY (by kernel_rfl) rfl rfl ?_
    intro V8 pY8 g8
    have m2:(some Y:Option Nat)≠some Wb.heap.size:=by simp;omega
    replace hO2:=hO2.kept9 g8 pY (by decide)
    replace pX:=pX.kept g8 m2
    replace bw:=bw.grown g8 bw.size (fun j hj=>by cases hj;omega)
    refine hK.out _ _ ⟨cells_kept bw _ _ cP,by simpa using pX.cell 0,by simpa using pX.cell 1,by simpa using pX.cell 2,by simpa using pX.cell 3,cells_kept bw _ _ hc⟩ (fun hS7=>?_)
    clear hK m2 pY g8 hO
    have pY:=pY8.out
    clear pY8
    try simp only [Act.put,tka,tkb,tkc]
    refine tkm 13 16 (.int .i64 fd) ?_
    refine tkm 14 17 (.int .i64 0) ?_
    refine wpAnyH_done (by kernel_rfl) ?_ _
    clear hS0 hS5 hS6 hS7
    go_wp2_with (first | refine wpList_load_blk rfl 30 _ rfl Y rfl pY _ Tryd.underlying30 rfl (by kernel_rfl) ?_ | refine wpList_store_blk rfl 30 _ _ rfl Wb.heap.size [.slice z0a z0n z0c,.slice z1a z1n z1c,.slice z2a z2n z2c,.slice z3a z3n z3c] rfl rfl pX (by kernel_rfl) rfl rfl ?_)
    intro V9 pX9 g9
    replace hO2:=hO2.kept9 g9 pX (by decide)
    replace bw:=bw.grown g9 bw.size (fun j hj=>by cases hj;omega)
    have st6:OnFr Wb V9 rows ks n (i+1) m z fi2:=⟨by omega,HR2.out,HR3.out,hs2,⟨((z0a,z0n,z0c),(z1a,z1n,z1c),(z2a,z2n,z2c),(z3a,z3n,z3c)),pX9.out,hO2⟩,bw⟩
    clear pX pX9 g9 pY hO2 bw hs2 hs fmi HR2 HR3 hX9
    go_wp2
    go_roundw
    case rel=>exact ⟨i+1,_,_,by go_num,st6⟩
    case measure=>simp [intOf];omega
   ·have hb:Below Y0.heap.size Y0 (Y0.alloc (.cells #[.slice none 0 0,.slice none 0 0,.slice none 0 0,.slice none 0 0] 30)):=by go_grown
    have pY:Blk (Y0.alloc (.cells #[.slice none 0 0,.slice none 0 0,.slice none 0 0,.slice none 0 0] 30)) Y0.heap.size 30 [.slice none 0 0,.slice none 0 0,.slice none 0 0,.slice none 0 0]:=blkAt _ _ _ rfl
    have hX9:Wb.heap.size<Y0.heap.size:=pX.lt
    replace bw:=bel_trans bw hb
    replace pX:=pX.below hb
    replace hO:=hO.below hb
    go_simp
    refine hK.out _ _ ⟨cells_kept bw _ _ cP,by simpa using pX.cell 0,by simpa using pX.cell 1,by simpa using pX.cell 2,by simpa using pX.cell 3,cells_kept bw _ _ hc⟩ (fun hS6=>?_)
    clear hK hb
    generalize (Y0.alloc (.cells #[.slice none 0 0,.slice none 0 0,.slice none 0 0,.slice none 0 0] 30))=Y2 at *
    generalize Y0.heap.size=Y at *
    try simp only [Act.put,tka,tkb,tkc]
    refine tkr 6 65 (fun K hK=>?_)
    have kFx:=kT _ bw (hO.mem fmi)
    go_simp
    refine kFx.mono ?_
    rintro e Y3 ⟨⟨⟨⟨z0a,z0n,z0c⟩,⟨z1a,z1n,z1c⟩,⟨z2a,z2n,z2c⟩,⟨z3a,z3n,z3c⟩⟩,rfl,hO2⟩,hb⟩
    have uz:S4.val ((z0a,z0n,z0c),(z1a,z1n,z1c),(z2a,z2n,z2c),(z3a,z3n,z3c))=.agg #[.slice z0a z0n z0c,.slice z1a z1n z1c,.slice z2a z2n z2c,.slice z3a z3n z3c]:=rfl
    rw [uz]
    replace hO2:=hO2.lowerB (B':=0) (Nat.zero_le _)
    replace bw:=bel_trans bw hb
    replace pX:=pX.below hb
    replace hO:=hO.below hb
    replace pY:=pY.below hb
    clear hb kFx uz kT
    go_wp2_with fail
    refine hK.out _ _ ⟨cells_kept bw _ _ cP,by simpa using pX.cell 0,by simpa using pX.cell 1,by simpa using pX.cell 2,by simpa using pX.cell 3,cells_kept bw _ _ hc⟩ (fun hS5=>?_)
    clear hK
    try simp only [Act.put,tka,tkb,tkc]
    refine tkm 7 58 (.tuple #[.agg #[.slice z0a z0n z0c,.slice z1a z1n z1c,.slice z2a z2n z2c,.slice z3a z3n z3c],.int .i64 fd,.int .i64 0]) ?_
    refine tkm 8 66 (.agg #[.slice z0a z0n z0c,.slice z1a z1n z1c,.slice z2a z2n z2c,.slice z3a z3n z3c]) ?_
    refine tkm 9 67 (.int .i64 fd) ?_
    refine tkm 10 68 (.int .i64 0) ?_
    refine tkz 12 (fun K hK=>?_)
    refine step_store_blkD rfl 30 _ _ rfl Y [.slice z0a z0n z0c,.slice z1a z1n z1c,.slice z2a z2n z2c,.slice z3a z3n z3c] rfl rfl pY (by kernel_rfl) rfl rfl ?_
    intro V8 pY8 g8
    have m2:(some Y:Option Nat)≠some Wb.heap.size:=by simp;omega
    replace hO2:=hO2.kept9 g8 pY (by decide)
    replace pX:=pX.kept g8 m2
    replace bw:=bw.grown g8 bw.size (fun j hj=>by cases hj;omega)
    refine hK.out _ _ ⟨cells_kept bw _ _ cP,by simpa using pX.cell 0,by simpa using pX.cell 1,by simpa using pX.cell 2,by simpa using pX.cell 3,cells_kept bw _ _ hc⟩ (fun hS7=>?_)
    clear hK m2 pY g8 hO
    have pY:=pY8.out
    clear pY8
    try simp only [Act.put,tka,tkb,tkc]
    refine tkm 13 16 (.int .i64 fd) ?_
    refine tkm 14 17 (.int .i64 0) ?_
    refine wpAnyH_done (by kernel_rfl) ?_ _
    clear hS0 hS5 hS6 hS7
    go_wp2_with (first | refine wpList_load_blk rfl 30 _ rfl Y rfl pY _ Tryd.underlying30 rfl (by kernel_rfl) ?_ | refine wpList_store_blk rfl 30 _ _ rfl Wb.heap.size [.slice z0a z0n z0c,.slice z1a z1n z1c,.slice z2a z2n z2c,.slice z3a z3n z3c] rfl rfl pX (by kernel_rfl) rfl rfl ?_)
    intro V9 pX9 g9
    replace hO2:=hO2.kept9 g9 pX (by decide)
    replace bw:=bw.grown g9 bw.size (fun j hj=>by cases hj;omega)
    have st6:OnFr Wb V9 rows ks n (i+1) m z fi2:=⟨by omega,HR2.out,HR3.out,hs2,⟨((z0a,z0n,z0c),(z1a,z1n,z1c),(z2a,z2n,z2c),(z3a,z3n,z3c)),pX9.out,hO2⟩,bw⟩
    clear pX pX9 g9 pY hO2 bw hs2 hs fmi HR2 HR3 hX9
    go_wp2
    go_roundw
    case rel=>exact ⟨i+1,_,_,by go_num,st6⟩
    case measure=>simp [intOf];omega
  ·obtain rfl:i=n:=by omega
   have hmi:mi=m:=by rw [← hrm,List.drop_of_length_le (by omega)];rfl
   subst hmi
   clear hr hrm
   have hMx:=hO.mem fm
   have kXS:=kM ((t0a,t0n,t0c),(t1a,t1n,t1c),(t2a,t2n,t2c),(t3a,t3n,t3c)) ((s0a,s0n,s0c),(s1a,s1n,s1c),(s2a,s2n,s2c),(s3a,s3n,s3c))
   have ut:S4.val ((t0a,t0n,t0c),(t1a,t1n,t1c),(t2a,t2n,t2c),(t3a,t3n,t3c))=.agg #[.slice t0a t0n t0c,.slice t1a t1n t1c,.slice t2a t2n t2c,.slice t3a t3n t3c]:=rfl
   rw [us,ut] at kXS
   clear us ut kM hO hs
   replace hV:=hV.below bw
   replace hC:=hC.below bw
   replace hL:=hL.below bw
   replace hF:=hF.below bw
   replace hD:=hD.below bw
   replace hMs:=hMs.below bw
   replace hMr:=hMr.below bw
   replace cP:=cells_kept bw _ _ cP
   replace cS0:=cells_kept bw _ _ cS0
   replace cS1:=cells_kept bw _ _ cS1
   replace cS2:=cells_kept bw _ _ cS2
   replace cS3:=cells_kept bw _ _ cS3
   replace cR0:=cells_kept bw _ _ cR0
   replace cR1:=cells_kept bw _ _ cR1
   replace cR2:=cells_kept bw _ _ cR2
   replace cR3:=cells_kept bw _ _ cR3
   have cX0:wr.cell? ⟨Wb.heap.size,0,none⟩=some (.slice t0a t0n t0c):=by simpa using pX.cell 0
   have cX1:wr.cell? ⟨Wb.heap.size,1,none⟩=some (.slice t1a t1n t1c):=by simpa using pX.cell 1
   have cX2:wr.cell? ⟨Wb.heap.size,2,none⟩=some (.slice t2a t2n t2c):=by simpa using pX.cell 2
   have cX3:wr.cell? ⟨Wb.heap.size,3,none⟩=some (.slice t3a t3n t3c):=by simpa using pX.cell 3
   replace bW:=bel_trans bW bw
   clear bw pX
   generalize Wb.heap.size=X at *
   generalize wr=W2 at *
   go_wp2_with fail
   go_loopw [18] (fun si wz=>∃ k:Nat,k≤fs.length∧si=.int .i64 k∧Below W2.heap.size W2 wz) (fun si _=>fs.length - (intOf si).toNat)
   case atStart=>exact ⟨0,by omega,rfl,Below.refl _ _⟩
   case round =>
    obtain ⟨k,hk,rfl,bw⟩:=hrel
    by_cases hlt2:k<fs.length
    ·obtain ⟨fb,fo,rfl,c0,c1,c2⟩:=bugs_cells hF hlt2
     have hlt':(k:Int)<(fs.length:Int):=by omega
     have hk0:(0:Int)≤(k:Int):=by omega
     have hy:=fW _ (getD_memF hlt2)
     have kW:=fun (W:World) (b:Below W2.heap.size W2 W)=>implIsWitness_is a 3 cap rows (some ⟨lb,lo,none⟩) i lc ks (fs.getD k (0,0,0)) W (hC.below b) (hV.below b) (hL.below b)
     rw [hy.1,hy.2] at kW
     clear hy
     generalize fs.getD k (0,0,0)=y at *
     obtain ⟨y0,y1,y2⟩:=y
     have uy:I3.val (y0,y1,y2)=.agg #[.int .i64 y0,.int .i64 y1,.int .i64 y2]:=rfl
     rw [uy] at kW
     simp only at c0 c1 c2
     clear uy
     go_wp2_with fail
     refine wp_region_held_drew (S:=(fun w'=>w'.cell? ⟨P,0,none⟩=some (.slice a 3 cap)∧w'.cell? ⟨fb,fo+k*3,none⟩=some (.int .i64 y0)∧w'.cell? ⟨fb,fo+k*3+1,none⟩=some (.int .i64 y1)∧w'.cell? ⟨fb,fo+k*3+2,none⟩=some (.int .i64 y2))) (by kernel_rfl) ⟨cells_kept bw _ _ cP,cells_kept bw _ _ c0,cells_kept bw _ _ c1,cells_kept bw _ _ c2⟩ (fun hS0=>?_)
     refine tkm 0 79 (.agg #[.slice a 3 cap]) ?_
     refine tkm 1 80 (.slice (some ⟨lb,lo,none⟩) i lc) ?_
     refine tkm 2 81 (.slice (some ⟨fb,fo,none⟩) fs.length fc) ?_
     refine tkm 3 82 (.int .i64 (k:Int)) ?_
     refine tkm 4 83 (.pointer (some ⟨fb,fo+k*3,none⟩)) ?_
     refine tkm 5 84 (.agg #[.int .i64 y0,.int .i64 y1,.int .i64 y2]) ?_
     replace bw:=bel_trans bw (show Below wr.heap.size wr wr.drew by go_grown)
     generalize wr.drew=Z0 at *
     refine tkr 6 85 (fun K hK=>?_)
     go_simp
     refine (kW _ bw).mono ?_
     rintro e Z1 ⟨rfl,hb⟩
     replace bw:=bel_trans bw hb
     clear hb kW
     go_wp2_with fail
     refine hK.out _ _ ⟨cells_kept bw _ _ cP,cells_kept bw _ _ c0,cells_kept bw _ _ c1,cells_kept bw _ _ c2⟩ (fun hS1=>?_)
     clear hK
     try simp only [Act.put,tka,tkb,tkc]
     refine tkm 7 78 (.tuple #[.bool true,.int .i64 0]) ?_
     refine tkm 8 86 (.bool true) ?_
     refine tkm 9 87 (.int .i64 0) ?_
     refine tkm 10 19 (.bool true) ?_
     refine tkm 11 20 (.int .i64 0) ?_
     refine wpAnyH_done (by kernel_rfl) ?_ _
     clear hS0 hS1
     go_wp2
     go_roundw
     case rel=>exact ⟨k+1,by omega,by go_num,bw⟩
     case measure=>simp [intOf];omega
    ·obtain rfl:k=fs.length:=by omega
     go_wp2_with fail
     refine wp_region_held_drew (S:=(fun w'=>w'.cell? ⟨P,0,none⟩=some (.slice a 3 cap))) (by kernel_rfl) (cells_kept bw _ _ cP) (fun hS0=>?_)
     refine tkm 0 95 (.agg #[.slice a 3 cap]) ?_
     refine tkm 2 97 (.slice (some ⟨lb,lo,none⟩) i lc) ?_
     replace bw:=bel_trans bw (show Below wr.heap.size wr wr.drew by go_grown)
     generalize wr.drew=U0 at *
     refine wpAnyH_ready (rs:=[1,4,11]) (by kernel_rfl) (by simp) ?_
     refine AllReadyH.cons (o:=⟨some 96,_,_,_,_,_⟩) rfl (fun K hK=>?_) (AllReadyH.cons (o:=⟨some 99,_,_,_,_,_⟩) rfl (fun K hK=>?_) (AllReadyH.cons (o:=⟨some 21,_,_,_,_,_⟩) rfl (fun K hK=>?_) AllReadyH.nil))
     ·have hal:Below U0.heap.size U0 (U0.alloc (.cells #[] 3)):=by go_grown
      have q:=own_emptyB U0 3 1 W2.heap.size bw.size
      replace bw:=bel_trans bw hal
      go_simp
      refine hK.out _ _ (cells_kept bw _ _ cP) (fun hS1=>?_)
      clear hK hal
      generalize U0.heap.size=V1 at *
      generalize (U0.alloc (.cells #[] 3))=U1 at *
      try simp only [Act.put,tka,tkb,tkc]
      refine wpAnyH_ready (rs:=[3,4,11]) (by kernel_rfl) (by simp) ?_
      refine AllReadyH.cons (o:=⟨some 98,_,_,_,_,_⟩) rfl (fun K hK=>?_) (AllReadyH.cons (o:=⟨some 99,_,_,_,_,_⟩) rfl (fun K hK=>?_) (AllReadyH.cons (o:=⟨some 21,_,_,_,_,_⟩) rfl (fun K hK=>?_) AllReadyH.nil))
      ·refine step_append_atB rfl _ _ 27 rfl W2.heap.size 3 i0 (.int .i64 0) 1 8 Tryd.underlying27 hi9 hz0 hz1 hz2 rfl (by decide) (.slice (some ⟨V1,0,none⟩) 0 0) 0 [] rfl q ⟨lb,lo,none⟩ i lc (ks.map (Value.int .i64)) rfl (by rw [List.length_map];omega) (ints_news (hL.below bw)) (int_one _) (by unfold maxLen;omega) (by omega) bw.size ?_
       intro v2 U2 q2 gr hob
       replace bw:=bw.grown gr bw.size (fun g hg=>(q.lt g hg).1)
       refine hK.out _ _ (cells_kept bw _ _ cP) (fun hS2=>?_)
       clear hK q gr hob
       have q:=q2
       clear q2
       try simp only [Act.put,tka,tkb,tkc]
       refine wpAnyH_ready (rs:=[4,11]) (by kernel_rfl) (by simp) ?_
       refine AllReadyH.cons (o:=⟨some 99,_,_,_,_,_⟩) rfl (fun K hK=>?_) (AllReadyH.cons (o:=⟨some 21,_,_,_,_,_⟩) rfl (fun K hK=>?_) AllReadyH.nil)
       ·have hal:Below U2.heap.size U2 (U2.alloc (.cells #[.int .i64 3] 3)):=by go_grown
        obtain ⟨G,hG⟩:∃ G,G=U2.heap.size:=⟨_,rfl⟩
        have e0:(U2.alloc (.cells #[.int .i64 3] 3)).cell? ⟨G,0,none⟩=some (.int .i64 3):=by subst hG;simp [go_sem]
        have hap:∀ g,Value.ownBlock v2=some g→g≠G:=fun g hg e=>by have:=(q.lt g hg).2;omega
        replace q:=owns_below q hal
        replace bw:=bel_trans bw hal
        go_simp
        rw [← hG]
        refine hK.out _ _ (cells_kept bw _ _ cP) (fun hS3=>?_)
        clear hK hal
        clear hG
        generalize (U2.alloc (.cells #[.int .i64 3] 3))=U3 at *
        try simp only [Act.put,tka,tkb,tkc]
        refine wpAnyH_ready (rs:=[5,11]) (by kernel_rfl) (by simp) ?_
        refine AllReadyH.cons (o:=⟨some 100,_,_,_,_,_⟩) rfl (fun K hK=>?_) (AllReadyH.cons (o:=⟨some 21,_,_,_,_,_⟩) rfl (fun K hK=>?_) AllReadyH.nil)
        ·refine step_append_atB rfl _ _ 27 rfl W2.heap.size 3 i0 (.int .i64 0) 1 8 Tryd.underlying27 hi9 hz0 hz1 hz2 rfl (by decide) v2 (0+i) ([]++ks.map (Value.int .i64)) rfl q ⟨G,0,none⟩ 1 1 [.int .i64 3] rfl rfl (int_at e0) (int_one [3]) (by unfold maxLen;omega) (by omega) bw.size ?_
         intro v4 U4 q2 gr hob
         replace bw:=bw.grown gr bw.size (fun g hg=>(q.lt g hg).1)
         refine hK.out _ _ (cells_kept bw _ _ cP) (fun hS4=>?_)
         clear hK q gr hob
         have q:=q2
         clear q2
         clear e0 hap
         try simp only [Act.put,tka,tkb,tkc]
         refine wpAnyH_ready (rs:=[6,11]) (by kernel_rfl) (by simp) ?_
         refine AllReadyH.cons (o:=⟨some 101,_,_,_,_,_⟩) rfl (fun K hK=>?_) (AllReadyH.cons (o:=⟨some 21,_,_,_,_,_⟩) rfl (fun K hK=>?_) AllReadyH.nil)
         ·obtain ⟨g9,c9,rfl⟩:=own_someB q (by omega)
          have hL9:=own_snoc q
          clear q
          generalize 0+i+1=n9 at *
          have kG:=implRunSchedule_is a 3 cap rows (some ⟨g9,0,none⟩) n9 c9 (ks++[3]) _ (hC.below bw) (hV.below bw) hL9
          rw [gB] at kG
          clear hL9
          go_simp
          refine kG.mono ?_
          rintro e U5 ⟨⟨⟨⟨z0a,z0n,z0c⟩,⟨z1a,z1n,z1c⟩,⟨z2a,z2n,z2c⟩,⟨z3a,z3n,z3c⟩⟩,vz,rfl,hOz,qz⟩,hb⟩
          have uz:S4.val ((z0a,z0n,z0c),(z1a,z1n,z1c),(z2a,z2n,z2c),(z3a,z3n,z3c))=.agg #[.slice z0a z0n z0c,.slice z1a z1n z1c,.slice z2a z2n z2c,.slice z3a z3n z3c]:=rfl
          rw [uz]
          clear uz hOz qz kG
          replace bw:=bel_trans bw hb
          clear hb
          go_wp2_with fail
          refine hK.out _ _ (cells_kept bw _ _ cP) (fun hS5=>?_)
          clear hK
          try simp only [Act.put,tka,tkb,tkc]
          refine tkm 7 94 (.tuple #[.agg #[.slice z0a z0n z0c,.slice z1a z1n z1c,.slice z2a z2n z2c,.slice z3a z3n z3c],vz,.int .i64 4]) ?_
          refine tkm 8 102 (.agg #[.slice z0a z0n z0c,.slice z1a z1n z1c,.slice z2a z2n z2c,.slice z3a z3n z3c]) ?_
          refine tkm 9 103 vz ?_
          refine tkm 10 104 (.int .i64 4) ?_
          refine tkr 11 21 (fun K hK=>?_)
          have hal:Below U5.heap.size U5 (U5.alloc (.cells #[.slice none 0 0,.slice none 0 0,.slice none 0 0,.slice none 0 0] 30)):=by go_grown
          obtain ⟨Y,hY⟩:∃ Y,Y=U5.heap.size:=⟨_,rfl⟩
          have pY:Blk (U5.alloc (.cells #[.slice none 0 0,.slice none 0 0,.slice none 0 0,.slice none 0 0] 30)) Y 30 [.slice none 0 0,.slice none 0 0,.slice none 0 0,.slice none 0 0]:=blkAt _ _ _ hY
          have hYw:W2.heap.size≤Y:=by rw [hY];exact bw.size
          replace bw:=bel_trans bw hal
          go_simp
          rw [← hY]
          refine hK.out _ _ (cells_kept bw _ _ cP) (fun hS6=>?_)
          clear hK hal
          clear hY
          generalize (U5.alloc (.cells #[.slice none 0 0,.slice none 0 0,.slice none 0 0,.slice none 0 0] 30))=U6 at *
          try simp only [Act.put,tka,tkb,tkc]
          refine tkz 12 (fun K hK=>?_)
          refine step_store_blkD rfl 30 _ _ rfl Y [.slice z0a z0n z0c,.slice z1a z1n z1c,.slice z2a z2n z2c,.slice z3a z3n z3c] rfl rfl pY (by kernel_rfl) rfl rfl ?_
          intro V8 pY8 g8
          replace bw:=bw.grown g8 bw.size (fun j hj=>by cases hj;omega)
          refine hK.out _ _ (cells_kept bw _ _ cP) (fun hS7=>?_)
          clear hK pY g8 pY8
          try simp only [Act.put,tka,tkb,tkc]
          refine tkm 13 22 vz ?_
          refine tkm 14 23 (.int .i64 4) ?_
          refine wpAnyH_done (by kernel_rfl) ?_ _
          replace cS0:=cells_kept bw _ _ cS0
          replace cS1:=cells_kept bw _ _ cS1
          replace cS2:=cells_kept bw _ _ cS2
          replace cS3:=cells_kept bw _ _ cS3
          replace cR0:=cells_kept bw _ _ cR0
          replace cR1:=cells_kept bw _ _ cR1
          replace cR2:=cells_kept bw _ _ cR2
          replace cR3:=cells_kept bw _ _ cR3
          replace cX0:=cells_kept bw _ _ cX0
          replace cX1:=cells_kept bw _ _ cX1
          replace cX2:=cells_kept bw _ _ cX2
          replace cX3:=cells_kept bw _ _ cX3
          clear hS0
          have k1:=kSR _ (hMs.below bw) (hMr.below bw) (hV.below bw)
          go_wp2_with fail
          refine k1.mono ?_
          rintro e u1 ⟨rfl,hb⟩
          replace bw:=bel_trans bw hb
          replace cS0:=cells_kept hb _ _ cS0
          replace cS1:=cells_kept hb _ _ cS1
          replace cS2:=cells_kept hb _ _ cS2
          replace cS3:=cells_kept hb _ _ cS3
          replace cR0:=cells_kept hb _ _ cR0
          replace cR1:=cells_kept hb _ _ cR1
          replace cR2:=cells_kept hb _ _ cR2
          replace cR3:=cells_kept hb _ _ cR3
          replace cX0:=cells_kept hb _ _ cX0
          replace cX1:=cells_kept hb _ _ cX1
          replace cX2:=cells_kept hb _ _ cX2
          replace cX3:=cells_kept hb _ _ cX3
          clear hb k1
          have k2:=sameBugs_same fa da fs.length fc dc fs _ (hF.below bw) (hD.below bw) (by omega)
          go_wp2_with fail
          refine k2.mono ?_
          rintro e u2 ⟨rfl,hb⟩
          replace bw:=bel_trans bw hb
          replace cS0:=cells_kept hb _ _ cS0
          replace cS1:=cells_kept hb _ _ cS1
          replace cS2:=cells_kept hb _ _ cS2
          replace cS3:=cells_kept hb _ _ cS3
          replace cX0:=cells_kept hb _ _ cX0
          replace cX1:=cells_kept hb _ _ cX1
          replace cX2:=cells_kept hb _ _ cX2
          replace cX3:=cells_kept hb _ _ cX3
          clear hb k2
          have k3:=kXS _ (hMx.below bw) (hMs.below bw) (hV.below bw)
          go_wp2_with fail
          refine k3.mono ?_
          rintro e u3 ⟨rfl,hb⟩
          replace bw:=bel_trans bw hb
          clear hb k3
          go_wp2
          go_ret
          exact ⟨rfl,bel_trans bW bw⟩
         ·have hal:Below U4.heap.size U4 (U4.alloc (.cells #[.slice none 0 0,.slice none 0 0,.slice none 0 0,.slice none 0 0] 30)):=by go_grown
          obtain ⟨Y,hY⟩:∃ Y,Y=U4.heap.size:=⟨_,rfl⟩
          have pY:Blk (U4.alloc (.cells #[.slice none 0 0,.slice none 0 0,.slice none 0 0,.slice none 0 0] 30)) Y 30 [.slice none 0 0,.slice none 0 0,.slice none 0 0,.slice none 0 0]:=blkAt _ _ _ hY
          have hYw:W2.heap.size≤Y:=by rw [hY];exact bw.size
          replace q:=owns_below q hal
          replace bw:=bel_trans bw hal
          go_simp
          rw [← hY]
          refine hK.out _ _ (cells_kept bw _ _ cP) (fun hS7=>?_)
          clear hK hal
          clear hY
          generalize (U4.alloc (.cells #[.slice none 0 0,.slice none 0 0,.slice none 0 0,.slice none 0 0] 30))=U7 at *
          try simp only [Act.put,tka,tkb,tkc]
          refine tkr 6 101 (fun K hK=>?_)
          obtain ⟨g9,c9,rfl⟩:=own_someB q (by omega)
          have hL9:=own_snoc q
          clear q
          generalize 0+i+1=n9 at *
          have kG:=implRunSchedule_is a 3 cap rows (some ⟨g9,0,none⟩) n9 c9 (ks++[3]) _ (hC.below bw) (hV.below bw) hL9
          rw [gB] at kG
          clear hL9
          go_simp
          refine kG.mono ?_
          rintro e U8 ⟨⟨⟨⟨z0a,z0n,z0c⟩,⟨z1a,z1n,z1c⟩,⟨z2a,z2n,z2c⟩,⟨z3a,z3n,z3c⟩⟩,vz,rfl,hOz,qz⟩,hb⟩
          have uz:S4.val ((z0a,z0n,z0c),(z1a,z1n,z1c),(z2a,z2n,z2c),(z3a,z3n,z3c))=.agg #[.slice z0a z0n z0c,.slice z1a z1n z1c,.slice z2a z2n z2c,.slice z3a z3n z3c]:=rfl
          rw [uz]
          clear uz hOz qz kG
          replace pY:=pY.below hb
          replace bw:=bel_trans bw hb
          clear hb
          go_wp2_with fail
          refine hK.out _ _ (cells_kept bw _ _ cP) (fun hS8=>?_)
          clear hK
          try simp only [Act.put,tka,tkb,tkc]
          refine tkm 7 94 (.tuple #[.agg #[.slice z0a z0n z0c,.slice z1a z1n z1c,.slice z2a z2n z2c,.slice z3a z3n z3c],vz,.int .i64 4]) ?_
          refine tkm 8 102 (.agg #[.slice z0a z0n z0c,.slice z1a z1n z1c,.slice z2a z2n z2c,.slice z3a z3n z3c]) ?_
          refine tkm 9 103 vz ?_
          refine tkm 10 104 (.int .i64 4) ?_
          refine tkz 12 (fun K hK=>?_)
          refine step_store_blkD rfl 30 _ _ rfl Y [.slice z0a z0n z0c,.slice z1a z1n z1c,.slice z2a z2n z2c,.slice z3a z3n z3c] rfl rfl pY (by kernel_rfl) rfl rfl ?_
          intro V8 pY8 g8
          replace bw:=bw.grown g8 bw.size (fun j hj=>by cases hj;omega)
          refine hK.out _ _ (cells_kept bw _ _ cP) (fun hS7=>?_)
          clear hK pY g8 pY8
          try simp only [Act.put,tka,tkb,tkc]
          refine tkm 13 22 vz ?_
          refine tkm 14 23 (.int .i64 4) ?_
          refine wpAnyH_done (by kernel_rfl) ?_ _
          replace cS0:=cells_kept bw _ _ cS0
          replace cS1:=cells_kept bw _ _ cS1
          replace cS2:=cells_kept bw _ _ cS2
          replace cS3:=cells_kept bw _ _ cS3
          replace cR0:=cells_kept bw _ _ cR0
          replace cR1:=cells_kept bw _ _ cR1
          replace cR2:=cells_kept bw _ _ cR2
          replace cR3:=cells_kept bw _ _ cR3
          replace cX0:=cells_kept bw _ _ cX0
          replace cX1:=cells_kept bw _ _ cX1
          replace cX2:=cells_kept bw _ _ cX2
          replace cX3:=cells_kept bw _ _ cX3
          clear hS0
          have k1:=kSR _ (hMs.below bw) (hMr.below bw) (hV.below bw)
          go_wp2_with fail
          refine k1.mono ?_
          rintro e u1 ⟨rfl,hb⟩
          replace bw:=bel_trans bw hb
          replace cS0:=cells_kept hb _ _ cS0
          replace cS1:=cells_kept hb _ _ cS1
          replace cS2:=cells_kept hb _ _ cS2
          replace cS3:=cells_kept hb _ _ cS3
          replace cR0:=cells_kept hb _ _ cR0
          replace cR1:=cells_kept hb _ _ cR1
          replace cR2:=cells_kept hb _ _ cR2
          replace cR3:=cells_kept hb _ _ cR3
          replace cX0:=cells_kept hb _ _ cX0
          replace cX1:=cells_kept hb _ _ cX1
          replace cX2:=cells_kept hb _ _ cX2
          replace cX3:=cells_kept hb _ _ cX3
          clear hb k1
          have k2:=sameBugs_same fa da fs.length fc dc fs _ (hF.below bw) (hD.below bw) (by omega)
          go_wp2_with fail
          refine k2.mono ?_
          rintro e u2 ⟨rfl,hb⟩
          replace bw:=bel_trans bw hb
          replace cS0:=cells_kept hb _ _ cS0
          replace cS1:=cells_kept hb _ _ cS1
          replace cS2:=cells_kept hb _ _ cS2
          replace cS3:=cells_kept hb _ _ cS3
          replace cX0:=cells_kept hb _ _ cX0
          replace cX1:=cells_kept hb _ _ cX1
          replace cX2:=cells_kept hb _ _ cX2
          replace cX3:=cells_kept hb _ _ cX3
          clear hb k2
          have k3:=kXS _ (hMx.below bw) (hMs.below bw) (hV.below bw)
          go_wp2_with fail
          refine k3.mono ?_
          rintro e u3 ⟨rfl,hb⟩
          replace bw:=bel_trans bw hb
          clear hb k3
          go_wp2
          go_ret
          exact ⟨rfl,bel_trans bW bw⟩
        ·have hal:Below U3.heap.size U3 (U3.alloc (.cells #[.slice none 0 0,.slice none 0 0,.slice none 0 0,.slice none 0 0] 30)):=by go_grown
         obtain ⟨Y,hY⟩:∃ Y,Y=U3.heap.size:=⟨_,rfl⟩
         have pY:Blk (U3.alloc (.cells #[.slice none 0 0,.slice none 0 0,.slice none 0 0,.slice none 0 0] 30)) Y 30 [.slice none 0 0,.slice none 0 0,.slice none 0 0,.slice none 0 0]:=blkAt _ _ _ hY
         have hYw:W2.heap.size≤Y:=by rw [hY];exact bw.size
         replace e0:=cells_kept hal _ _ e0
         replace q:=owns_below q hal
         replace bw:=bel_trans bw hal
         go_simp
         rw [← hY]
         refine hK.out _ _ (cells_kept bw _ _ cP) (fun hS9=>?_)
         clear hK hal
         clear hY
         generalize (U3.alloc (.cells #[.slice none 0 0,.slice none 0 0,.slice none 0 0,.slice none 0 0] 30))=U9 at *
         try simp only [Act.put,tka,tkb,tkc]
         refine tkr 5 100 (fun K hK=>?_)
         refine step_append_atB rfl _ _ 27 rfl W2.heap.size 3 i0 (.int .i64 0) 1 8 Tryd.underlying27 hi9 hz0 hz1 hz2 rfl (by decide) v2 (0+i) ([]++ks.map (Value.int .i64)) rfl q ⟨G,0,none⟩ 1 1 [.int .i64 3] rfl rfl (int_at e0) (int_one [3]) (by unfold maxLen;omega) (by omega) bw.size ?_
         intro v10 U10 q2 gr hob
         replace pY:=pY.kept gr (own_ne_blk q pY (by decide))
         replace bw:=bw.grown gr bw.size (fun g hg=>(q.lt g hg).1)
         refine hK.out _ _ (cells_kept bw _ _ cP) (fun hS10=>?_)
         clear hK q gr hob
         have q:=q2
         clear q2
         clear e0 hap
         try simp only [Act.put,tka,tkb,tkc]
         refine tkr 6 101 (fun K hK=>?_)
         obtain ⟨g9,c9,rfl⟩:=own_someB q (by omega)
         have hL9:=own_snoc q
         clear q
         generalize 0+i+1=n9 at *
         have kG:=implRunSchedule_is a 3 cap rows (some ⟨g9,0,none⟩) n9 c9 (ks++[3]) _ (hC.below bw) (hV.below bw) hL9
         rw [gB] at kG
         clear hL9
         go_simp
         refine kG.mono ?_
         rintro e U11 ⟨⟨⟨⟨z0a,z0n,z0c⟩,⟨z1a,z1n,z1c⟩,⟨z2a,z2n,z2c⟩,⟨z3a,z3n,z3c⟩⟩,vz,rfl,hOz,qz⟩,hb⟩
         have uz:S4.val ((z0a,z0n,z0c),(z1a,z1n,z1c),(z2a,z2n,z2c),(z3a,z3n,z3c))=.agg #[.slice z0a z0n z0c,.slice z1a z1n z1c,.slice z2a z2n z2c,.slice z3a z3n z3c]:=rfl
         rw [uz]
         clear uz hOz qz kG
         replace pY:=pY.below hb
         replace bw:=bel_trans bw hb
         clear hb
         go_wp2_with fail
         refine hK.out _ _ (cells_kept bw _ _ cP) (fun hS11=>?_)
         clear hK
         try simp only [Act.put,tka,tkb,tkc]
         refine tkm 7 94 (.tuple #[.agg #[.slice z0a z0n z0c,.slice z1a z1n z1c,.slice z2a z2n z2c,.slice z3a z3n z3c],vz,.int .i64 4]) ?_
         refine tkm 8 102 (.agg #[.slice z0a z0n z0c,.slice z1a z1n z1c,.slice z2a z2n z2c,.slice z3a z3n z3c]) ?_
         refine tkm 9 103 vz ?_
         refine tkm 10 104 (.int .i64 4) ?_
         refine tkz 12 (fun K hK=>?_)
         refine step_store_blkD rfl 30 _ _ rfl Y [.slice z0a z0n z0c,.slice z1a z1n z1c,.slice z2a z2n z2c,.slice z3a z3n z3c] rfl rfl pY (by kernel_rfl) rfl rfl ?_
         intro V8 pY8 g8
         replace bw:=bw.grown g8 bw.size (fun j hj=>by cases hj;omega)
         refine hK.out _ _ (cells_kept bw _ _ cP) (fun hS7=>?_)
         clear hK pY g8 pY8
         try simp only [Act.put,tka,tkb,tkc]
         refine tkm 13 22 vz ?_
         refine tkm 14 23 (.int .i64 4) ?_
         refine wpAnyH_done (by kernel_rfl) ?_ _
         replace cS0:=cells_kept bw _ _ cS0
         replace cS1:=cells_kept bw _ _ cS1
         replace cS2:=cells_kept bw _ _ cS2
         replace cS3:=cells_kept bw _ _ cS3
         replace cR0:=cells_kept bw _ _ cR0
         replace cR1:=cells_kept bw _ _ cR1
         replace cR2:=cells_kept bw _ _ cR2
         replace cR3:=cells_kept bw _ _ cR3
         replace cX0:=cells_kept bw _ _ cX0
         replace cX1:=cells_kept bw _ _ cX1
         replace cX2:=cells_kept bw _ _ cX2
         replace cX3:=cells_kept bw _ _ cX3
         clear hS0
         have k1:=kSR _ (hMs.below bw) (hMr.below bw) (hV.below bw)
         go_wp2_with fail
         refine k1.mono ?_
         rintro e u1 ⟨rfl,hb⟩
         replace bw:=bel_trans bw hb
         replace cS0:=cells_kept hb _ _ cS0
         replace cS1:=cells_kept hb _ _ cS1
         replace cS2:=cells_kept hb _ _ cS2
         replace cS3:=cells_kept hb _ _ cS3
         replace cR0:=cells_kept hb _ _ cR0
         replace cR1:=cells_kept hb _ _ cR1
         replace cR2:=cells_kept hb _ _ cR2
         replace cR3:=cells_kept hb _ _ cR3
         replace cX0:=cells_kept hb _ _ cX0
         replace cX1:=cells_kept hb _ _ cX1
         replace cX2:=cells_kept hb _ _ cX2
         replace cX3:=cells_kept hb _ _ cX3
         clear hb k1
         have k2:=sameBugs_same fa da fs.length fc dc fs _ (hF.below bw) (hD.below bw) (by omega)
         go_wp2_with fail
         refine k2.mono ?_
         rintro e u2 ⟨rfl,hb⟩
         replace bw:=bel_trans bw hb
         replace cS0:=cells_kept hb _ _ cS0
         replace cS1:=cells_kept hb _ _ cS1
         replace cS2:=cells_kept hb _ _ cS2
         replace cS3:=cells_kept hb _ _ cS3
         replace cX0:=cells_kept hb _ _ cX0
         replace cX1:=cells_kept hb _ _ cX1
         replace cX2:=cells_kept hb _ _ cX2
         replace cX3:=cells_kept hb _ _ cX3
         clear hb k2
         have k3:=kXS _ (hMx.below bw) (hMs.below bw) (hV.below bw)
         go_wp2_with fail
         refine k3.mono ?_
         rintro e u3 ⟨rfl,hb⟩
         replace bw:=bel_trans bw hb
         clear hb k3
         go_wp2
         go_ret
         exact ⟨rfl,bel_trans bW bw⟩
       ·have hal:Below U2.heap.size U2 (U2.alloc (.cells #[.slice none 0 0,.slice none 0 0,.slice none 0 0,.slice none 0 0] 30)):=by go_grown
        obtain ⟨Y,hY⟩:∃ Y,Y=U2.heap.size:=⟨_,rfl⟩
        have pY:Blk (U2.alloc (.cells #[.slice none 0 0,.slice none 0 0,.slice none 0 0,.slice none 0 0] 30)) Y 30 [.slice none 0 0,.slice none 0 0,.slice none 0 0,.slice none 0 0]:=blkAt _ _ _ hY
        have hYw:W2.heap.size≤Y:=by rw [hY];exact bw.size
        replace q:=owns_below q hal
        replace bw:=bel_trans bw hal
        go_simp
        rw [← hY]
        refine hK.out _ _ (cells_kept bw _ _ cP) (fun hS12=>?_)
        clear hK hal
        clear hY
        generalize (U2.alloc (.cells #[.slice none 0 0,.slice none 0 0,.slice none 0 0,.slice none 0 0] 30))=U12 at *
        try simp only [Act.put,tka,tkb,tkc]
        refine tkr 4 99 (fun K hK=>?_)
        have hal:Below U12.heap.size U12 (U12.alloc (.cells #[.int .i64 3] 3)):=by go_grown
        obtain ⟨G,hG⟩:∃ G,G=U12.heap.size:=⟨_,rfl⟩
        have e0:(U12.alloc (.cells #[.int .i64 3] 3)).cell? ⟨G,0,none⟩=some (.int .i64 3):=by subst hG;simp [go_sem]
        have hap:∀ g,Value.ownBlock v2=some g→g≠G:=fun g hg e=>by have:=(q.lt g hg).2;omega
        replace q:=owns_below q hal
        replace pY:=pY.below hal
        replace bw:=bel_trans bw hal
        go_simp
        rw [← hG]
        refine hK.out _ _ (cells_kept bw _ _ cP) (fun hS13=>?_)
        clear hK hal
        clear hG
        generalize (U12.alloc (.cells #[.int .i64 3] 3))=U13 at *
        try simp only [Act.put,tka,tkb,tkc]
        refine tkr 5 100 (fun K hK=>?_)
        refine step_append_atB rfl _ _ 27 rfl W2.heap.size 3 i0 (.int .i64 0) 1 8 Tryd.underlying27 hi9 hz0 hz1 hz2 rfl (by decide) v2 (0+i) ([]++ks.map (Value.int .i64)) rfl q ⟨G,0,none⟩ 1 1 [.int .i64 3] rfl rfl (int_at e0) (int_one [3]) (by unfold maxLen;omega) (by omega) bw.size ?_
        intro v14 U14 q2 gr hob
        replace pY:=pY.kept gr (own_ne_blk q pY (by decide))
        replace bw:=bw.grown gr bw.size (fun g hg=>(q.lt g hg).1)
        refine hK.out _ _ (cells_kept bw _ _ cP) (fun hS14=>?_)
        clear hK q gr hob
        have q:=q2
        clear q2
        clear e0 hap
        try simp only [Act.put,tka,tkb,tkc]
        refine tkr 6 101 (fun K hK=>?_)
        obtain ⟨g9,c9,rfl⟩:=own_someB q (by omega)
        have hL9:=own_snoc q
        clear q
        generalize 0+i+1=n9 at *
        have kG:=implRunSchedule_is a 3 cap rows (some ⟨g9,0,none⟩) n9 c9 (ks++[3]) _ (hC.below bw) (hV.below bw) hL9
        rw [gB] at kG
        clear hL9
        go_simp
        refine kG.mono ?_
        rintro e U15 ⟨⟨⟨⟨z0a,z0n,z0c⟩,⟨z1a,z1n,z1c⟩,⟨z2a,z2n,z2c⟩,⟨z3a,z3n,z3c⟩⟩,vz,rfl,hOz,qz⟩,hb⟩
        have uz:S4.val ((z0a,z0n,z0c),(z1a,z1n,z1c),(z2a,z2n,z2c),(z3a,z3n,z3c))=.agg #[.slice z0a z0n z0c,.slice z1a z1n z1c,.slice z2a z2n z2c,.slice z3a z3n z3c]:=rfl
        rw [uz]
        clear uz hOz qz kG
        replace pY:=pY.below hb
        replace bw:=bel_trans bw hb
        clear hb
        go_wp2_with fail
        refine hK.out _ _ (cells_kept bw _ _ cP) (fun hS15=>?_)
        clear hK
        try simp only [Act.put,tka,tkb,tkc]
        refine tkm 7 94 (.tuple #[.agg #[.slice z0a z0n z0c,.slice z1a z1n z1c,.slice z2a z2n z2c,.slice z3a z3n z3c],vz,.int .i64 4]) ?_
        refine tkm 8 102 (.agg #[.slice z0a z0n z0c,.slice z1a z1n z1c,.slice z2a z2n z2c,.slice z3a z3n z3c]) ?_
        refine tkm 9 103 vz ?_
        refine tkm 10 104 (.int .i64 4) ?_
        refine tkz 12 (fun K hK=>?_)
        refine step_store_blkD rfl 30 _ _ rfl Y [.slice z0a z0n z0c,.slice z1a z1n z1c,.slice z2a z2n z2c,.slice z3a z3n z3c] rfl rfl pY (by kernel_rfl) rfl rfl ?_
        intro V8 pY8 g8
        replace bw:=bw.grown g8 bw.size (fun j hj=>by cases hj;omega)
        refine hK.out _ _ (cells_kept bw _ _ cP) (fun hS7=>?_)
        clear hK pY g8 pY8
        try simp only [Act.put,tka,tkb,tkc]
        refine tkm 13 22 vz ?_
        refine tkm 14 23 (.int .i64 4) ?_
        refine wpAnyH_done (by kernel_rfl) ?_ _
        replace cS0:=cells_kept bw _ _ cS0
        replace cS1:=cells_kept bw _ _ cS1
        replace cS2:=cells_kept bw _ _ cS2
        replace cS3:=cells_kept bw _ _ cS3
        replace cR0:=cells_kept bw _ _ cR0
        replace cR1:=cells_kept bw _ _ cR1
        replace cR2:=cells_kept bw _ _ cR2
        replace cR3:=cells_kept bw _ _ cR3
        replace cX0:=cells_kept bw _ _ cX0
        replace cX1:=cells_kept bw _ _ cX1
        replace cX2:=cells_kept bw _ _ cX2
        replace cX3:=cells_kept bw _ _ cX3
        clear hS0
        have k1:=kSR _ (hMs.below bw) (hMr.below bw) (hV.below bw)
        go_wp2_with fail
        refine k1.mono ?_
        rintro e u1 ⟨rfl,hb⟩
        replace bw:=bel_trans bw hb
        replace cS0:=cells_kept hb _ _ cS0
        replace cS1:=cells_kept hb _ _ cS1
        replace cS2:=cells_kept hb _ _ cS2
        replace cS3:=cells_kept hb _ _ cS3
        replace cR0:=cells_kept hb _ _ cR0
        replace cR1:=cells_kept hb _ _ cR1
        replace cR2:=cells_kept hb _ _ cR2
        replace cR3:=cells_kept hb _ _ cR3
        replace cX0:=cells_kept hb _ _ cX0
        replace cX1:=cells_kept hb _ _ cX1
        replace cX2:=cells_kept hb _ _ cX2
        replace cX3:=cells_kept hb _ _ cX3
        clear hb k1
        have k2:=sameBugs_same fa da fs.length fc dc fs _ (hF.below bw) (hD.below bw) (by omega)
        go_wp2_with fail
        refine k2.mono ?_
        rintro e u2 ⟨rfl,hb⟩
        replace bw:=bel_trans bw hb
        replace cS0:=cells_kept hb _ _ cS0
        replace cS1:=cells_kept hb _ _ cS1
        replace cS2:=cells_kept hb _ _ cS2
        replace cS3:=cells_kept hb _ _ cS3
        replace cX0:=cells_kept hb _ _ cX0
        replace cX1:=cells_kept hb _ _ cX1
        replace cX2:=cells_kept hb _ _ cX2
        replace cX3:=cells_kept hb _ _ cX3
        clear hb k2
        have k3:=kXS _ (hMx.below bw) (hMs.below bw) (hV.below bw)
        go_wp2_with fail
        refine k3.mono ?_
        rintro e u3 ⟨rfl,hb⟩
        replace bw:=bel_trans bw hb
        clear hb k3
        go_wp2
        go_ret
        exact ⟨rfl,bel_trans bW bw⟩
      ·have hal:Below U1.heap.size U1 (U1.alloc (.cells #[.int .i64 3] 3)):=by go_grown
       obtain ⟨G,hG⟩:∃ G,G=U1.heap.size:=⟨_,rfl⟩
       have e0:(U1.alloc (.cells #[.int .i64 3] 3)).cell? ⟨G,0,none⟩=some (.int .i64 3):=by subst hG;simp [go_sem]
       have hap:∀ g,Value.ownBlock (.slice (some ⟨V1,0,none⟩) 0 0)=some g→g≠G:=fun g hg e=>by have:=(q.lt g hg).2;omega
       replace q:=owns_below q hal
       replace bw:=bel_trans bw hal
       go_simp
       rw [← hG]
       refine hK.out _ _ (cells_kept bw _ _ cP) (fun hS16=>?_)
       clear hK hal
       clear hG
       generalize (U1.alloc (.cells #[.int .i64 3] 3))=U16 at *
       try simp only [Act.put,tka,tkb,tkc]
       refine wpAnyH_ready (rs:=[3,11]) (by kernel_rfl) (by simp) ?_
       refine AllReadyH.cons (o:=⟨some 98,_,_,_,_,_⟩) rfl (fun K hK=>?_) (AllReadyH.cons (o:=⟨some 21,_,_,_,_,_⟩) rfl (fun K hK=>?_) AllReadyH.nil)
       ·have hGl:=World.block_lt_of_cell? _ _ e0
        refine step_append_atB rfl _ _ 27 rfl W2.heap.size 3 i0 (.int .i64 0) 1 8 Tryd.underlying27 hi9 hz0 hz1 hz2 rfl (by decide) (.slice (some ⟨V1,0,none⟩) 0 0) 0 [] rfl q ⟨lb,lo,none⟩ i lc (ks.map (Value.int .i64)) rfl (by rw [List.length_map];omega) (ints_news (hL.below bw)) (int_one _) (by unfold maxLen;omega) (by omega) bw.size ?_
        intro v17 U17 q2 gr hob
        replace e0:=cell_grownB gr e0 (fun e=>hap _ e.symm rfl)
        have hap2:∀ g,Value.ownBlock v17=some g→g≠G:=fun g hg e=>by
         rcases hob with hu | hu
         ·exact hap g (hu▸hg) e
         ·rw [hu] at hg
          simp at hg hGl
          omega
        clear hap hGl
        have hap:=hap2
        clear hap2
        replace bw:=bw.grown gr bw.size (fun g hg=>(q.lt g hg).1)
        refine hK.out _ _ (cells_kept bw _ _ cP) (fun hS17=>?_)
        clear hK q gr hob
        have q:=q2
        clear q2
        try simp only [Act.put,tka,tkb,tkc]
        refine wpAnyH_ready (rs:=[5,11]) (by kernel_rfl) (by simp) ?_
        refine AllReadyH.cons (o:=⟨some 100,_,_,_,_,_⟩) rfl (fun K hK=>?_) (AllReadyH.cons (o:=⟨some 21,_,_,_,_,_⟩) rfl (fun K hK=>?_) AllReadyH.nil)
        ·refine step_append_atB rfl _ _ 27 rfl W2.heap.size 3 i0 (.int .i64 0) 1 8 Tryd.underlying27 hi9 hz0 hz1 hz2 rfl (by decide) v17 (0+i) ([]++ks.map (Value.int .i64)) rfl q ⟨G,0,none⟩ 1 1 [.int .i64 3] rfl rfl (int_at e0) (int_one [3]) (by unfold maxLen;omega) (by omega) bw.size ?_
         intro v18 U18 q2 gr hob
         replace bw:=bw.grown gr bw.size (fun g hg=>(q.lt g hg).1)
         refine hK.out _ _ (cells_kept bw _ _ cP) (fun hS18=>?_)
         clear hK q gr hob
         have q:=q2
         clear q2
         clear e0 hap
         try simp only [Act.put,tka,tkb,tkc]
         refine wpAnyH_ready (rs:=[6,11]) (by kernel_rfl) (by simp) ?_
         refine AllReadyH.cons (o:=⟨some 101,_,_,_,_,_⟩) rfl (fun K hK=>?_) (AllReadyH.cons (o:=⟨some 21,_,_,_,_,_⟩) rfl (fun K hK=>?_) AllReadyH.nil)
         ·obtain ⟨g9,c9,rfl⟩:=own_someB q (by omega)
          have hL9:=own_snoc q
          clear q
          generalize 0+i+1=n9 at *
          have kG:=implRunSchedule_is a 3 cap rows (some ⟨g9,0,none⟩) n9 c9 (ks++[3]) _ (hC.below bw) (hV.below bw) hL9
          rw [gB] at kG
          clear hL9
          go_simp
          refine kG.mono ?_
          rintro e U19 ⟨⟨⟨⟨z0a,z0n,z0c⟩,⟨z1a,z1n,z1c⟩,⟨z2a,z2n,z2c⟩,⟨z3a,z3n,z3c⟩⟩,vz,rfl,hOz,qz⟩,hb⟩
          have uz:S4.val ((z0a,z0n,z0c),(z1a,z1n,z1c),(z2a,z2n,z2c),(z3a,z3n,z3c))=.agg #[.slice z0a z0n z0c,.slice z1a z1n z1c,.slice z2a z2n z2c,.slice z3a z3n z3c]:=rfl
          rw [uz]
          clear uz hOz qz kG
          replace bw:=bel_trans bw hb
          clear hb
          go_wp2_with fail
          refine hK.out _ _ (cells_kept bw _ _ cP) (fun hS19=>?_)
          clear hK
          try simp only [Act.put,tka,tkb,tkc]
          refine tkm 7 94 (.tuple #[.agg #[.slice z0a z0n z0c,.slice z1a z1n z1c,.slice z2a z2n z2c,.slice z3a z3n z3c],vz,.int .i64 4]) ?_
          refine tkm 8 102 (.agg #[.slice z0a z0n z0c,.slice z1a z1n z1c,.slice z2a z2n z2c,.slice z3a z3n z3c]) ?_
          refine tkm 9 103 vz ?_
          refine tkm 10 104 (.int .i64 4) ?_
          refine tkr 11 21 (fun K hK=>?_)
          have hal:Below U19.heap.size U19 (U19.alloc (.cells #[.slice none 0 0,.slice none 0 0,.slice none 0 0,.slice none 0 0] 30)):=by go_grown
          obtain ⟨Y,hY⟩:∃ Y,Y=U19.heap.size:=⟨_,rfl⟩
          have pY:Blk (U19.alloc (.cells #[.slice none 0 0,.slice none 0 0,.slice none 0 0,.slice none 0 0] 30)) Y 30 [.slice none 0 0,.slice none 0 0,.slice none 0 0,.slice none 0 0]:=blkAt _ _ _ hY
          have hYw:W2.heap.size≤Y:=by rw [hY];exact bw.size
          replace bw:=bel_trans bw hal
          go_simp
          rw [← hY]
          refine hK.out _ _ (cells_kept bw _ _ cP) (fun hS20=>?_)
          clear hK hal
          clear hY
          generalize (U19.alloc (.cells #[.slice none 0 0,.slice none 0 0,.slice none 0 0,.slice none 0 0] 30))=U20 at *
          try simp only [Act.put,tka,tkb,tkc]
          refine tkz 12 (fun K hK=>?_)
          refine step_store_blkD rfl 30 _ _ rfl Y [.slice z0a z0n z0c,.slice z1a z1n z1c,.slice z2a z2n z2c,.slice z3a z3n z3c] rfl rfl pY (by kernel_rfl) rfl rfl ?_
          intro V8 pY8 g8
          replace bw:=bw.grown g8 bw.size (fun j hj=>by cases hj;omega)
          refine hK.out _ _ (cells_kept bw _ _ cP) (fun hS7=>?_)
          clear hK pY g8 pY8
          try simp only [Act.put,tka,tkb,tkc]
          refine tkm 13 22 vz ?_
          refine tkm 14 23 (.int .i64 4) ?_
          refine wpAnyH_done (by kernel_rfl) ?_ _
          replace cS0:=cells_kept bw _ _ cS0
          replace cS1:=cells_kept bw _ _ cS1
          replace cS2:=cells_kept bw _ _ cS2
          replace cS3:=cells_kept bw _ _ cS3
          replace cR0:=cells_kept bw _ _ cR0
          replace cR1:=cells_kept bw _ _ cR1
          replace cR2:=cells_kept bw _ _ cR2
          replace cR3:=cells_kept bw _ _ cR3
          replace cX0:=cells_kept bw _ _ cX0
          replace cX1:=cells_kept bw _ _ cX1
          replace cX2:=cells_kept bw _ _ cX2
          replace cX3:=cells_kept bw _ _ cX3
          clear hS0
          have k1:=kSR _ (hMs.below bw) (hMr.below bw) (hV.below bw)
          go_wp2_with fail
          refine k1.mono ?_
          rintro e u1 ⟨rfl,hb⟩
          replace bw:=bel_trans bw hb
          replace cS0:=cells_kept hb _ _ cS0
          replace cS1:=cells_kept hb _ _ cS1
          replace cS2:=cells_kept hb _ _ cS2
          replace cS3:=cells_kept hb _ _ cS3
          replace cR0:=cells_kept hb _ _ cR0
          replace cR1:=cells_kept hb _ _ cR1
          replace cR2:=cells_kept hb _ _ cR2
          replace cR3:=cells_kept hb _ _ cR3
          replace cX0:=cells_kept hb _ _ cX0
          replace cX1:=cells_kept hb _ _ cX1
          replace cX2:=cells_kept hb _ _ cX2
          replace cX3:=cells_kept hb _ _ cX3
          clear hb k1
          have k2:=sameBugs_same fa da fs.length fc dc fs _ (hF.below bw) (hD.below bw) (by omega)
          go_wp2_with fail
          refine k2.mono ?_
          rintro e u2 ⟨rfl,hb⟩
          replace bw:=bel_trans bw hb
          replace cS0:=cells_kept hb _ _ cS0
          replace cS1:=cells_kept hb _ _ cS1
          replace cS2:=cells_kept hb _ _ cS2
          replace cS3:=cells_kept hb _ _ cS3
          replace cX0:=cells_kept hb _ _ cX0
          replace cX1:=cells_kept hb _ _ cX1
          replace cX2:=cells_kept hb _ _ cX2
          replace cX3:=cells_kept hb _ _ cX3
          clear hb k2
          have k3:=kXS _ (hMx.below bw) (hMs.below bw) (hV.below bw)
          go_wp2_with fail
          refine k3.mono ?_
          rintro e u3 ⟨rfl,hb⟩
          replace bw:=bel_trans bw hb
          clear hb k3
          go_wp2
          go_ret
          exact ⟨rfl,bel_trans bW bw⟩
         ·have hal:Below U18.heap.size U18 (U18.alloc (.cells #[.slice none 0 0,.slice none 0 0,.slice none 0 0,.slice none 0 0] 30)):=by go_grown
          obtain ⟨Y,hY⟩:∃ Y,Y=U18.heap.size:=⟨_,rfl⟩
          have pY:Blk (U18.alloc (.cells #[.slice none 0 0,.slice none 0 0,.slice none 0 0,.slice none 0 0] 30)) Y 30 [.slice none 0 0,.slice none 0 0,.slice none 0 0,.slice none 0 0]:=blkAt _ _ _ hY
          have hYw:W2.heap.size≤Y:=by rw [hY];exact bw.size
          replace q:=owns_below q hal
          replace bw:=bel_trans bw hal
          go_simp
          rw [← hY]
          refine hK.out _ _ (cells_kept bw _ _ cP) (fun hS21=>?_)
          clear hK hal
          clear hY
          generalize (U18.alloc (.cells #[.slice none 0 0,.slice none 0 0,.slice none 0 0,.slice none 0 0] 30))=U21 at *
          try simp only [Act.put,tka,tkb,tkc]
          refine tkr 6 101 (fun K hK=>?_)
          obtain ⟨g9,c9,rfl⟩:=own_someB q (by omega)
          have hL9:=own_snoc q
          clear q
          generalize 0+i+1=n9 at *
          have kG:=implRunSchedule_is a 3 cap rows (some ⟨g9,0,none⟩) n9 c9 (ks++[3]) _ (hC.below bw) (hV.below bw) hL9
          rw [gB] at kG
          clear hL9
          go_simp
          refine kG.mono ?_
          rintro e U22 ⟨⟨⟨⟨z0a,z0n,z0c⟩,⟨z1a,z1n,z1c⟩,⟨z2a,z2n,z2c⟩,⟨z3a,z3n,z3c⟩⟩,vz,rfl,hOz,qz⟩,hb⟩
          have uz:S4.val ((z0a,z0n,z0c),(z1a,z1n,z1c),(z2a,z2n,z2c),(z3a,z3n,z3c))=.agg #[.slice z0a z0n z0c,.slice z1a z1n z1c,.slice z2a z2n z2c,.slice z3a z3n z3c]:=rfl
          rw [uz]
          clear uz hOz qz kG
          replace pY:=pY.below hb
          replace bw:=bel_trans bw hb
          clear hb
          go_wp2_with fail
          refine hK.out _ _ (cells_kept bw _ _ cP) (fun hS22=>?_)
          clear hK
          try simp only [Act.put,tka,tkb,tkc]
          refine tkm 7 94 (.tuple #[.agg #[.slice z0a z0n z0c,.slice z1a z1n z1c,.slice z2a z2n z2c,.slice z3a z3n z3c],vz,.int .i64 4]) ?_
          refine tkm 8 102 (.agg #[.slice z0a z0n z0c,.slice z1a z1n z1c,.slice z2a z2n z2c,.slice z3a z3n z3c]) ?_
          refine tkm 9 103 vz ?_
          refine tkm 10 104 (.int .i64 4) ?_
          refine tkz 12 (fun K hK=>?_)
          refine step_store_blkD rfl 30 _ _ rfl Y [.slice z0a z0n z0c,.slice z1a z1n z1c,.slice z2a z2n z2c,.slice z3a z3n z3c] rfl rfl pY (by kernel_rfl) rfl rfl ?_
          intro V8 pY8 g8
          replace bw:=bw.grown g8 bw.size (fun j hj=>by cases hj;omega)
          refine hK.out _ _ (cells_kept bw _ _ cP) (fun hS7=>?_)
          clear hK pY g8 pY8
          try simp only [Act.put,tka,tkb,tkc]
          refine tkm 13 22 vz ?_
          refine tkm 14 23 (.int .i64 4) ?_
          refine wpAnyH_done (by kernel_rfl) ?_ _
          replace cS0:=cells_kept bw _ _ cS0
          replace cS1:=cells_kept bw _ _ cS1
          replace cS2:=cells_kept bw _ _ cS2
          replace cS3:=cells_kept bw _ _ cS3
          replace cR0:=cells_kept bw _ _ cR0
          replace cR1:=cells_kept bw _ _ cR1
          replace cR2:=cells_kept bw _ _ cR2
          replace cR3:=cells_kept bw _ _ cR3
          replace cX0:=cells_kept bw _ _ cX0
          replace cX1:=cells_kept bw _ _ cX1
          replace cX2:=cells_kept bw _ _ cX2
          replace cX3:=cells_kept bw _ _ cX3
          clear hS0
          have k1:=kSR _ (hMs.below bw) (hMr.below bw) (hV.below bw)
          go_wp2_with fail
          refine k1.mono ?_
          rintro e u1 ⟨rfl,hb⟩
          replace bw:=bel_trans bw hb
          replace cS0:=cells_kept hb _ _ cS0
          replace cS1:=cells_kept hb _ _ cS1
          replace cS2:=cells_kept hb _ _ cS2
          replace cS3:=cells_kept hb _ _ cS3
          replace cR0:=cells_kept hb _ _ cR0
          replace cR1:=cells_kept hb _ _ cR1
          replace cR2:=cells_kept hb _ _ cR2
          replace cR3:=cells_kept hb _ _ cR3
          replace cX0:=cells_kept hb _ _ cX0
          replace cX1:=cells_kept hb _ _ cX1
          replace cX2:=cells_kept hb _ _ cX2
          replace cX3:=cells_kept hb _ _ cX3
          clear hb k1
          have k2:=sameBugs_same fa da fs.length fc dc fs _ (hF.below bw) (hD.below bw) (by omega)
          go_wp2_with fail
          refine k2.mono ?_
          rintro e u2 ⟨rfl,hb⟩
          replace bw:=bel_trans bw hb
          replace cS0:=cells_kept hb _ _ cS0
          replace cS1:=cells_kept hb _ _ cS1
          replace cS2:=cells_kept hb _ _ cS2
          replace cS3:=cells_kept hb _ _ cS3
          replace cX0:=cells_kept hb _ _ cX0
          replace cX1:=cells_kept hb _ _ cX1
          replace cX2:=cells_kept hb _ _ cX2
          replace cX3:=cells_kept hb _ _ cX3
          clear hb k2
          have k3:=kXS _ (hMx.below bw) (hMs.below bw) (hV.below bw)
          go_wp2_with fail
          refine k3.mono ?_
          rintro e u3 ⟨rfl,hb⟩
          replace bw:=bel_trans bw hb
          clear hb k3
          go_wp2
          go_ret
          exact ⟨rfl,bel_trans bW bw⟩
        ·have hal:Below U17.heap.size U17 (U17.alloc (.cells #[.slice none 0 0,.slice none 0 0,.slice none 0 0,.slice none 0 0] 30)):=by go_grown
         obtain ⟨Y,hY⟩:∃ Y,Y=U17.heap.size:=⟨_,rfl⟩
         have pY:Blk (U17.alloc (.cells #[.slice none 0 0,.slice none 0 0,.slice none 0 0,.slice none 0 0] 30)) Y 30 [.slice none 0 0,.slice none 0 0,.slice none 0 0,.slice none 0 0]:=blkAt _ _ _ hY
         have hYw:W2.heap.size≤Y:=by rw [hY];exact bw.size
         replace e0:=cells_kept hal _ _ e0
         replace q:=owns_below q hal
         replace bw:=bel_trans bw hal
         go_simp
         rw [← hY]
         refine hK.out _ _ (cells_kept bw _ _ cP) (fun hS23=>?_)
         clear hK hal
         clear hY
         generalize (U17.alloc (.cells #[.slice none 0 0,.slice none 0 0,.slice none 0 0,.slice none 0 0] 30))=U23 at *
         try simp only [Act.put,tka,tkb,tkc]
         refine tkr 5 100 (fun K hK=>?_)
         refine step_append_atB rfl _ _ 27 rfl W2.heap.size 3 i0 (.int .i64 0) 1 8 Tryd.underlying27 hi9 hz0 hz1 hz2 rfl (by decide) v17 (0+i) ([]++ks.map (Value.int .i64)) rfl q ⟨G,0,none⟩ 1 1 [.int .i64 3] rfl rfl (int_at e0) (int_one [3]) (by unfold maxLen;omega) (by omega) bw.size ?_
         intro v24 U24 q2 gr hob
         replace pY:=pY.kept gr (own_ne_blk q pY (by decide))
         replace bw:=bw.grown gr bw.size (fun g hg=>(q.lt g hg).1)
         refine hK.out _ _ (cells_kept bw _ _ cP) (fun hS24=>?_)
         clear hK q gr hob
         have q:=q2
         clear q2
         clear e0 hap
         try simp only [Act.put,tka,tkb,tkc]
         refine tkr 6 101 (fun K hK=>?_)
         obtain ⟨g9,c9,rfl⟩:=own_someB q (by omega)
         have hL9:=own_snoc q
         clear q
         generalize 0+i+1=n9 at *
         have kG:=implRunSchedule_is a 3 cap rows (some ⟨g9,0,none⟩) n9 c9 (ks++[3]) _ (hC.below bw) (hV.below bw) hL9
         rw [gB] at kG
         clear hL9
         go_simp
         refine kG.mono ?_
         rintro e U25 ⟨⟨⟨⟨z0a,z0n,z0c⟩,⟨z1a,z1n,z1c⟩,⟨z2a,z2n,z2c⟩,⟨z3a,z3n,z3c⟩⟩,vz,rfl,hOz,qz⟩,hb⟩
         have uz:S4.val ((z0a,z0n,z0c),(z1a,z1n,z1c),(z2a,z2n,z2c),(z3a,z3n,z3c))=.agg #[.slice z0a z0n z0c,.slice z1a z1n z1c,.slice z2a z2n z2c,.slice z3a z3n z3c]:=rfl
         rw [uz]
         clear uz hOz qz kG
         replace pY:=pY.below hb
         replace bw:=bel_trans bw hb
         clear hb
         go_wp2_with fail
         refine hK.out _ _ (cells_kept bw _ _ cP) (fun hS25=>?_)
         clear hK
         try simp only [Act.put,tka,tkb,tkc]
         refine tkm 7 94 (.tuple #[.agg #[.slice z0a z0n z0c,.slice z1a z1n z1c,.slice z2a z2n z2c,.slice z3a z3n z3c],vz,.int .i64 4]) ?_
         refine tkm 8 102 (.agg #[.slice z0a z0n z0c,.slice z1a z1n z1c,.slice z2a z2n z2c,.slice z3a z3n z3c]) ?_
         refine tkm 9 103 vz ?_
         refine tkm 10 104 (.int .i64 4) ?_
         refine tkz 12 (fun K hK=>?_)
         refine step_store_blkD rfl 30 _ _ rfl Y [.slice z0a z0n z0c,.slice z1a z1n z1c,.slice z2a z2n z2c,.slice z3a z3n z3c] rfl rfl pY (by kernel_rfl) rfl rfl ?_
         intro V8 pY8 g8
         replace bw:=bw.grown g8 bw.size (fun j hj=>by cases hj;omega)
         refine hK.out _ _ (cells_kept bw _ _ cP) (fun hS7=>?_)
         clear hK pY g8 pY8
         try simp only [Act.put,tka,tkb,tkc]
         refine tkm 13 22 vz ?_
         refine tkm 14 23 (.int .i64 4) ?_
         refine wpAnyH_done (by kernel_rfl) ?_ _
         replace cS0:=cells_kept bw _ _ cS0
         replace cS1:=cells_kept bw _ _ cS1
         replace cS2:=cells_kept bw _ _ cS2
         replace cS3:=cells_kept bw _ _ cS3
         replace cR0:=cells_kept bw _ _ cR0
         replace cR1:=cells_kept bw _ _ cR1
         replace cR2:=cells_kept bw _ _ cR2
         replace cR3:=cells_kept bw _ _ cR3
         replace cX0:=cells_kept bw _ _ cX0
         replace cX1:=cells_kept bw _ _ cX1
         replace cX2:=cells_kept bw _ _ cX2
         replace cX3:=cells_kept bw _ _ cX3
         clear hS0
         have k1:=kSR _ (hMs.below bw) (hMr.below bw) (hV.below bw)
         go_wp2_with fail
         refine k1.mono ?_
         rintro e u1 ⟨rfl,hb⟩
         replace bw:=bel_trans bw hb
         replace cS0:=cells_kept hb _ _ cS0
         replace cS1:=cells_kept hb _ _ cS1
         replace cS2:=cells_kept hb _ _ cS2
         replace cS3:=cells_kept hb _ _ cS3
         replace cR0:=cells_kept hb _ _ cR0
         replace cR1:=cells_kept hb _ _ cR1
         replace cR2:=cells_kept hb _ _ cR2
         replace cR3:=cells_kept hb _ _ cR3
         replace cX0:=cells_kept hb _ _ cX0
         replace cX1:=cells_kept hb _ _ cX1
         replace cX2:=cells_kept hb _ _ cX2
         replace cX3:=cells_kept hb _ _ cX3
         clear hb k1
         have k2:=sameBugs_same fa da fs.length fc dc fs _ (hF.below bw) (hD.below bw) (by omega)
         go_wp2_with fail
         refine k2.mono ?_
         rintro e u2 ⟨rfl,hb⟩
         replace bw:=bel_trans bw hb
         replace cS0:=cells_kept hb _ _ cS0
         replace cS1:=cells_kept hb _ _ cS1
         replace cS2:=cells_kept hb _ _ cS2
         replace cS3:=cells_kept hb _ _ cS3
         replace cX0:=cells_kept hb _ _ cX0
         replace cX1:=cells_kept hb _ _ cX1
         replace cX2:=cells_kept hb _ _ cX2
         replace cX3:=cells_kept hb _ _ cX3
         clear hb k2
         have k3:=kXS _ (hMx.below bw) (hMs.below bw) (hV.below bw)
         go_wp2_with fail
         refine k3.mono ?_
         rintro e u3 ⟨rfl,hb⟩
         replace bw:=bel_trans bw hb
         clear hb k3
         go_wp2
         go_ret
         exact ⟨rfl,bel_trans bW bw⟩
       ·have hal:Below U16.heap.size U16 (U16.alloc (.cells #[.slice none 0 0,.slice none 0 0,.slice none 0 0,.slice none 0 0] 30)):=by go_grown
        obtain ⟨Y,hY⟩:∃ Y,Y=U16.heap.size:=⟨_,rfl⟩
        have pY:Blk (U16.alloc (.cells #[.slice none 0 0,.slice none 0 0,.slice none 0 0,.slice none 0 0] 30)) Y 30 [.slice none 0 0,.slice none 0 0,.slice none 0 0,.slice none 0 0]:=blkAt _ _ _ hY
        have hYw:W2.heap.size≤Y:=by rw [hY];exact bw.size
        replace e0:=cells_kept hal _ _ e0
        replace q:=owns_below q hal
        replace bw:=bel_trans bw hal
        go_simp
        rw [← hY]
        refine hK.out _ _ (cells_kept bw _ _ cP) (fun hS26=>?_)
        clear hK hal
        clear hY
        generalize (U16.alloc (.cells #[.slice none 0 0,.slice none 0 0,.slice none 0 0,.slice none 0 0] 30))=U26 at *
        try simp only [Act.put,tka,tkb,tkc]
        refine tkr 3 98 (fun K hK=>?_)
        have hGl:=World.block_lt_of_cell? _ _ e0
        refine step_append_atB rfl _ _ 27 rfl W2.heap.size 3 i0 (.int .i64 0) 1 8 Tryd.underlying27 hi9 hz0 hz1 hz2 rfl (by decide) (.slice (some ⟨V1,0,none⟩) 0 0) 0 [] rfl q ⟨lb,lo,none⟩ i lc (ks.map (Value.int .i64)) rfl (by rw [List.length_map];omega) (ints_news (hL.below bw)) (int_one _) (by unfold maxLen;omega) (by omega) bw.size ?_
        intro v27 U27 q2 gr hob
        replace e0:=cell_grownB gr e0 (fun e=>hap _ e.symm rfl)
        have hap2:∀ g,Value.ownBlock v27=some g→g≠G:=fun g hg e=>by
         rcases hob with hu | hu
         ·exact hap g (hu▸hg) e
         ·rw [hu] at hg
          simp at hg hGl
          omega
        clear hap hGl
        have hap:=hap2
        clear hap2
        replace pY:=pY.kept gr (own_ne_blk q pY (by decide))
        replace bw:=bw.grown gr bw.size (fun g hg=>(q.lt g hg).1)
        refine hK.out _ _ (cells_kept bw _ _ cP) (fun hS27=>?_)
        clear hK q gr hob
        have q:=q2
        clear q2
        try simp only [Act.put,tka,tkb,tkc]
        refine tkr 5 100 (fun K hK=>?_)
        refine step_append_atB rfl _ _ 27 rfl W2.heap.size 3 i0 (.int .i64 0) 1 8 Tryd.underlying27 hi9 hz0 hz1 hz2 rfl (by decide) v27 (0+i) ([]++ks.map (Value.int .i64)) rfl q ⟨G,0,none⟩ 1 1 [.int .i64 3] rfl rfl (int_at e0) (int_one [3]) (by unfold maxLen;omega) (by omega) bw.size ?_
        intro v28 U28 q2 gr hob
        replace pY:=pY.kept gr (own_ne_blk q pY (by decide))
        replace bw:=bw.grown gr bw.size (fun g hg=>(q.lt g hg).1)
        refine hK.out _ _ (cells_kept bw _ _ cP) (fun hS28=>?_)
        clear hK q gr hob
        have q:=q2
        clear q2
        clear e0 hap
        try simp only [Act.put,tka,tkb,tkc]
        refine tkr 6 101 (fun K hK=>?_)
        obtain ⟨g9,c9,rfl⟩:=own_someB q (by omega)
        have hL9:=own_snoc q
        clear q
        generalize 0+i+1=n9 at *
        have kG:=implRunSchedule_is a 3 cap rows (some ⟨g9,0,none⟩) n9 c9 (ks++[3]) _ (hC.below bw) (hV.below bw) hL9
        rw [gB] at kG
        clear hL9
        go_simp
        refine kG.mono ?_
        rintro e U29 ⟨⟨⟨⟨z0a,z0n,z0c⟩,⟨z1a,z1n,z1c⟩,⟨z2a,z2n,z2c⟩,⟨z3a,z3n,z3c⟩⟩,vz,rfl,hOz,qz⟩,hb⟩
        have uz:S4.val ((z0a,z0n,z0c),(z1a,z1n,z1c),(z2a,z2n,z2c),(z3a,z3n,z3c))=.agg #[.slice z0a z0n z0c,.slice z1a z1n z1c,.slice z2a z2n z2c,.slice z3a z3n z3c]:=rfl
        rw [uz]
        clear uz hOz qz kG
        replace pY:=pY.below hb
        replace bw:=bel_trans bw hb
        clear hb
        go_wp2_with fail
        refine hK.out _ _ (cells_kept bw _ _ cP) (fun hS29=>?_)
        clear hK
        try simp only [Act.put,tka,tkb,tkc]
        refine tkm 7 94 (.tuple #[.agg #[.slice z0a z0n z0c,.slice z1a z1n z1c,.slice z2a z2n z2c,.slice z3a z3n z3c],vz,.int .i64 4]) ?_
        refine tkm 8 102 (.agg #[.slice z0a z0n z0c,.slice z1a z1n z1c,.slice z2a z2n z2c,.slice z3a z3n z3c]) ?_
        refine tkm 9 103 vz ?_
        refine tkm 10 104 (.int .i64 4) ?_
        refine tkz 12 (fun K hK=>?_)
        refine step_store_blkD rfl 30 _ _ rfl Y [.slice z0a z0n z0c,.slice z1a z1n z1c,.slice z2a z2n z2c,.slice z3a z3n z3c] rfl rfl pY (by kernel_rfl) rfl rfl ?_
        intro V8 pY8 g8
        replace bw:=bw.grown g8 bw.size (fun j hj=>by cases hj;omega)
        refine hK.out _ _ (cells_kept bw _ _ cP) (fun hS7=>?_)
        clear hK pY g8 pY8
        try simp only [Act.put,tka,tkb,tkc]
        refine tkm 13 22 vz ?_
        refine tkm 14 23 (.int .i64 4) ?_
        refine wpAnyH_done (by kernel_rfl) ?_ _
        replace cS0:=cells_kept bw _ _ cS0
        replace cS1:=cells_kept bw _ _ cS1
        replace cS2:=cells_kept bw _ _ cS2
        replace cS3:=cells_kept bw _ _ cS3
        replace cR0:=cells_kept bw _ _ cR0
        replace cR1:=cells_kept bw _ _ cR1
        replace cR2:=cells_kept bw _ _ cR2
        replace cR3:=cells_kept bw _ _ cR3
        replace cX0:=cells_kept bw _ _ cX0
        replace cX1:=cells_kept bw _ _ cX1
        replace cX2:=cells_kept bw _ _ cX2
        replace cX3:=cells_kept bw _ _ cX3
        clear hS0
        have k1:=kSR _ (hMs.below bw) (hMr.below bw) (hV.below bw)
        go_wp2_with fail
        refine k1.mono ?_
        rintro e u1 ⟨rfl,hb⟩
        replace bw:=bel_trans bw hb
        replace cS0:=cells_kept hb _ _ cS0
        replace cS1:=cells_kept hb _ _ cS1
        replace cS2:=cells_kept hb _ _ cS2
        replace cS3:=cells_kept hb _ _ cS3
        replace cR0:=cells_kept hb _ _ cR0
        replace cR1:=cells_kept hb _ _ cR1
        replace cR2:=cells_kept hb _ _ cR2
        replace cR3:=cells_kept hb _ _ cR3
        replace cX0:=cells_kept hb _ _ cX0
        replace cX1:=cells_kept hb _ _ cX1
        replace cX2:=cells_kept hb _ _ cX2
        replace cX3:=cells_kept hb _ _ cX3
        clear hb k1
        have k2:=sameBugs_same fa da fs.length fc dc fs _ (hF.below bw) (hD.below bw) (by omega)
        go_wp2_with fail
        refine k2.mono ?_
        rintro e u2 ⟨rfl,hb⟩
        replace bw:=bel_trans bw hb
        replace cS0:=cells_kept hb _ _ cS0
        replace cS1:=cells_kept hb _ _ cS1
        replace cS2:=cells_kept hb _ _ cS2
        replace cS3:=cells_kept hb _ _ cS3
        replace cX0:=cells_kept hb _ _ cX0
        replace cX1:=cells_kept hb _ _ cX1
        replace cX2:=cells_kept hb _ _ cX2
        replace cX3:=cells_kept hb _ _ cX3
        clear hb k2
        have k3:=kXS _ (hMx.below bw) (hMs.below bw) (hV.below bw)
        go_wp2_with fail
        refine k3.mono ?_
        rintro e u3 ⟨rfl,hb⟩
        replace bw:=bel_trans bw hb
        clear hb k3
        go_wp2
        go_ret
        exact ⟨rfl,bel_trans bW bw⟩
      ·have hal:Below U1.heap.size U1 (U1.alloc (.cells #[.slice none 0 0,.slice none 0 0,.slice none 0 0,.slice none 0 0] 30)):=by go_grown
       obtain ⟨Y,hY⟩:∃ Y,Y=U1.heap.size:=⟨_,rfl⟩
       have pY:Blk (U1.alloc (.cells #[.slice none 0 0,.slice none 0 0,.slice none 0 0,.slice none 0 0] 30)) Y 30 [.slice none 0 0,.slice none 0 0,.slice none 0 0,.slice none 0 0]:=blkAt _ _ _ hY
       have hYw:W2.heap.size≤Y:=by rw [hY];exact bw.size
       replace q:=owns_below q hal
       replace bw:=bel_trans bw hal
       go_simp
       rw [← hY]
       refine hK.out _ _ (cells_kept bw _ _ cP) (fun hS30=>?_)
       clear hK hal
       clear hY
       generalize (U1.alloc (.cells #[.slice none 0 0,.slice none 0 0,.slice none 0 0,.slice none 0 0] 30))=U30 at *
       try simp only [Act.put,tka,tkb,tkc]
       refine wpAnyH_ready (rs:=[3,4]) (by kernel_rfl) (by simp) ?_
       refine AllReadyH.cons (o:=⟨some 98,_,_,_,_,_⟩) rfl (fun K hK=>?_) (AllReadyH.cons (o:=⟨some 99,_,_,_,_,_⟩) rfl (fun K hK=>?_) AllReadyH.nil)
       ·refine step_append_atB rfl _ _ 27 rfl W2.heap.size 3 i0 (.int .i64 0) 1 8 Tryd.underlying27 hi9 hz0 hz1 hz2 rfl (by decide) (.slice (some ⟨V1,0,none⟩) 0 0) 0 [] rfl q ⟨lb,lo,none⟩ i lc (ks.map (Value.int .i64)) rfl (by rw [List.length_map];omega) (ints_news (hL.below bw)) (int_one _) (by unfold maxLen;omega) (by omega) bw.size ?_
        intro v31 U31 q2 gr hob
        replace pY:=pY.kept gr (own_ne_blk q pY (by decide))
        replace bw:=bw.grown gr bw.size (fun g hg=>(q.lt g hg).1)
        refine hK.out _ _ (cells_kept bw _ _ cP) (fun hS31=>?_)
        clear hK q gr hob
        have q:=q2
        clear q2
        try simp only [Act.put,tka,tkb,tkc]
        refine tkr 4 99 (fun K hK=>?_)
        have hal:Below U31.heap.size U31 (U31.alloc (.cells #[.int .i64 3] 3)):=by go_grown
        obtain ⟨G,hG⟩:∃ G,G=U31.heap.size:=⟨_,rfl⟩
        have e0:(U31.alloc (.cells #[.int .i64 3] 3)).cell? ⟨G,0,none⟩=some (.int .i64 3):=by subst hG;simp [go_sem]
        have hap:∀ g,Value.ownBlock v31=some g→g≠G:=fun g hg e=>by have:=(q.lt g hg).2;omega
        replace q:=owns_below q hal
        replace pY:=pY.below hal
        replace bw:=bel_trans bw hal
        go_simp
        rw [← hG]
        refine hK.out _ _ (cells_kept bw _ _ cP) (fun hS32=>?_)
        clear hK hal
        clear hG
        generalize (U31.alloc (.cells #[.int .i64 3] 3))=U32 at *
        try simp only [Act.put,tka,tkb,tkc]
        refine tkr 5 100 (fun K hK=>?_)
        refine step_append_atB rfl _ _ 27 rfl W2.heap.size 3 i0 (.int .i64 0) 1 8 Tryd.underlying27 hi9 hz0 hz1 hz2 rfl (by decide) v31 (0+i) ([]++ks.map (Value.int .i64)) rfl q ⟨G,0,none⟩ 1 1 [.int .i64 3] rfl rfl (int_at e0) (int_one [3]) (by unfold maxLen;omega) (by omega) bw.size ?_
        intro v33 U33 q2 gr hob
        replace pY:=pY.kept gr (own_ne_blk q pY (by decide))
        replace bw:=bw.grown gr bw.size (fun g hg=>(q.lt g hg).1)
        refine hK.out _ _ (cells_kept bw _ _ cP) (fun hS33=>?_)
        clear hK q gr hob
        have q:=q2
        clear q2
        clear e0 hap
        try simp only [Act.put,tka,tkb,tkc]
        refine tkr 6 101 (fun K hK=>?_)
        obtain ⟨g9,c9,rfl⟩:=own_someB q (by omega)
        have hL9:=own_snoc q
        clear q
        generalize 0+i+1=n9 at *
        have kG:=implRunSchedule_is a 3 cap rows (some ⟨g9,0,none⟩) n9 c9 (ks++[3]) _ (hC.below bw) (hV.below bw) hL9
        rw [gB] at kG
        clear hL9
        go_simp
        refine kG.mono ?_
        rintro e U34 ⟨⟨⟨⟨z0a,z0n,z0c⟩,⟨z1a,z1n,z1c⟩,⟨z2a,z2n,z2c⟩,⟨z3a,z3n,z3c⟩⟩,vz,rfl,hOz,qz⟩,hb⟩
        have uz:S4.val ((z0a,z0n,z0c),(z1a,z1n,z1c),(z2a,z2n,z2c),(z3a,z3n,z3c))=.agg #[.slice z0a z0n z0c,.slice z1a z1n z1c,.slice z2a z2n z2c,.slice z3a z3n z3c]:=rfl
        rw [uz]
        clear uz hOz qz kG
        replace pY:=pY.below hb
        replace bw:=bel_trans bw hb
        clear hb
        go_wp2_with fail
        refine hK.out _ _ (cells_kept bw _ _ cP) (fun hS34=>?_)
        clear hK
        try simp only [Act.put,tka,tkb,tkc]
        refine tkm 7 94 (.tuple #[.agg #[.slice z0a z0n z0c,.slice z1a z1n z1c,.slice z2a z2n z2c,.slice z3a z3n z3c],vz,.int .i64 4]) ?_
        refine tkm 8 102 (.agg #[.slice z0a z0n z0c,.slice z1a z1n z1c,.slice z2a z2n z2c,.slice z3a z3n z3c]) ?_
        refine tkm 9 103 vz ?_
        refine tkm 10 104 (.int .i64 4) ?_
        refine tkz 12 (fun K hK=>?_)
        refine step_store_blkD rfl 30 _ _ rfl Y [.slice z0a z0n z0c,.slice z1a z1n z1c,.slice z2a z2n z2c,.slice z3a z3n z3c] rfl rfl pY (by kernel_rfl) rfl rfl ?_
        intro V8 pY8 g8
        replace bw:=bw.grown g8 bw.size (fun j hj=>by cases hj;omega)
        refine hK.out _ _ (cells_kept bw _ _ cP) (fun hS7=>?_)
        clear hK pY g8 pY8
        try simp only [Act.put,tka,tkb,tkc]
        refine tkm 13 22 vz ?_
        refine tkm 14 23 (.int .i64 4) ?_
        refine wpAnyH_done (by kernel_rfl) ?_ _
        replace cS0:=cells_kept bw _ _ cS0
        replace cS1:=cells_kept bw _ _ cS1
        replace cS2:=cells_kept bw _ _ cS2
        replace cS3:=cells_kept bw _ _ cS3
        replace cR0:=cells_kept bw _ _ cR0
        replace cR1:=cells_kept bw _ _ cR1
        replace cR2:=cells_kept bw _ _ cR2
        replace cR3:=cells_kept bw _ _ cR3
        replace cX0:=cells_kept bw _ _ cX0
        replace cX1:=cells_kept bw _ _ cX1
        replace cX2:=cells_kept bw _ _ cX2
        replace cX3:=cells_kept bw _ _ cX3
        clear hS0
        have k1:=kSR _ (hMs.below bw) (hMr.below bw) (hV.below bw)
        go_wp2_with fail
        refine k1.mono ?_
        rintro e u1 ⟨rfl,hb⟩
        replace bw:=bel_trans bw hb
        replace cS0:=cells_kept hb _ _ cS0
        replace cS1:=cells_kept hb _ _ cS1
        replace cS2:=cells_kept hb _ _ cS2
        replace cS3:=cells_kept hb _ _ cS3
        replace cR0:=cells_kept hb _ _ cR0
        replace cR1:=cells_kept hb _ _ cR1
        replace cR2:=cells_kept hb _ _ cR2
        replace cR3:=cells_kept hb _ _ cR3
        replace cX0:=cells_kept hb _ _ cX0
        replace cX1:=cells_kept hb _ _ cX1
        replace cX2:=cells_kept hb _ _ cX2
        replace cX3:=cells_kept hb _ _ cX3
        clear hb k1
        have k2:=sameBugs_same fa da fs.length fc dc fs _ (hF.below bw) (hD.below bw) (by omega)
        go_wp2_with fail
        refine k2.mono ?_
        rintro e u2 ⟨rfl,hb⟩
        replace bw:=bel_trans bw hb
        replace cS0:=cells_kept hb _ _ cS0
        replace cS1:=cells_kept hb _ _ cS1
        replace cS2:=cells_kept hb _ _ cS2
        replace cS3:=cells_kept hb _ _ cS3
        replace cX0:=cells_kept hb _ _ cX0
        replace cX1:=cells_kept hb _ _ cX1
        replace cX2:=cells_kept hb _ _ cX2
        replace cX3:=cells_kept hb _ _ cX3
        clear hb k2
        have k3:=kXS _ (hMx.below bw) (hMs.below bw) (hV.below bw)
        go_wp2_with fail
        refine k3.mono ?_
        rintro e u3 ⟨rfl,hb⟩
        replace bw:=bel_trans bw hb
        clear hb k3
        go_wp2
        go_ret
        exact ⟨rfl,bel_trans bW bw⟩
       ·have hal:Below U30.heap.size U30 (U30.alloc (.cells #[.int .i64 3] 3)):=by go_grown
        obtain ⟨G,hG⟩:∃ G,G=U30.heap.size:=⟨_,rfl⟩
        have e0:(U30.alloc (.cells #[.int .i64 3] 3)).cell? ⟨G,0,none⟩=some (.int .i64 3):=by subst hG;simp [go_sem]
        have hap:∀ g,Value.ownBlock (.slice (some ⟨V1,0,none⟩) 0 0)=some g→g≠G:=fun g hg e=>by have:=(q.lt g hg).2;omega
        replace q:=owns_below q hal
        replace pY:=pY.below hal
        replace bw:=bel_trans bw hal
        go_simp
        rw [← hG]
        refine hK.out _ _ (cells_kept bw _ _ cP) (fun hS35=>?_)
        clear hK hal
        clear hG
        generalize (U30.alloc (.cells #[.int .i64 3] 3))=U35 at *
        try simp only [Act.put,tka,tkb,tkc]
        refine tkr 3 98 (fun K hK=>?_)
        have hGl:=World.block_lt_of_cell? _ _ e0
        refine step_append_atB rfl _ _ 27 rfl W2.heap.size 3 i0 (.int .i64 0) 1 8 Tryd.underlying27 hi9 hz0 hz1 hz2 rfl (by decide) (.slice (some ⟨V1,0,none⟩) 0 0) 0 [] rfl q ⟨lb,lo,none⟩ i lc (ks.map (Value.int .i64)) rfl (by rw [List.length_map];omega) (ints_news (hL.below bw)) (int_one _) (by unfold maxLen;omega) (by omega) bw.size ?_
        intro v36 U36 q2 gr hob
        replace e0:=cell_grownB gr e0 (fun e=>hap _ e.symm rfl)
        have hap2:∀ g,Value.ownBlock v36=some g→g≠G:=fun g hg e=>by
         rcases hob with hu | hu
         ·exact hap g (hu▸hg) e
         ·rw [hu] at hg
          simp at hg hGl
          omega
        clear hap hGl
        have hap:=hap2
        clear hap2
        replace pY:=pY.kept gr (own_ne_blk q pY (by decide))
        replace bw:=bw.grown gr bw.size (fun g hg=>(q.lt g hg).1)
        refine hK.out _ _ (cells_kept bw _ _ cP) (fun hS36=>?_)
        clear hK q gr hob
        have q:=q2
        clear q2
        try simp only [Act.put,tka,tkb,tkc]
        refine tkr 5 100 (fun K hK=>?_)
        refine step_append_atB rfl _ _ 27 rfl W2.heap.size 3 i0 (.int .i64 0) 1 8 Tryd.underlying27 hi9 hz0 hz1 hz2 rfl (by decide) v36 (0+i) ([]++ks.map (Value.int .i64)) rfl q ⟨G,0,none⟩ 1 1 [.int .i64 3] rfl rfl (int_at e0) (int_one [3]) (by unfold maxLen;omega) (by omega) bw.size ?_
        intro v37 U37 q2 gr hob
        replace pY:=pY.kept gr (own_ne_blk q pY (by decide))
        replace bw:=bw.grown gr bw.size (fun g hg=>(q.lt g hg).1)
        refine hK.out _ _ (cells_kept bw _ _ cP) (fun hS37=>?_)
        clear hK q gr hob
        have q:=q2
        clear q2
        clear e0 hap
        try simp only [Act.put,tka,tkb,tkc]
        refine tkr 6 101 (fun K hK=>?_)
        obtain ⟨g9,c9,rfl⟩:=own_someB q (by omega)
        have hL9:=own_snoc q
        clear q
        generalize 0+i+1=n9 at *
        have kG:=implRunSchedule_is a 3 cap rows (some ⟨g9,0,none⟩) n9 c9 (ks++[3]) _ (hC.below bw) (hV.below bw) hL9
        rw [gB] at kG
        clear hL9
        go_simp
        refine kG.mono ?_
        rintro e U38 ⟨⟨⟨⟨z0a,z0n,z0c⟩,⟨z1a,z1n,z1c⟩,⟨z2a,z2n,z2c⟩,⟨z3a,z3n,z3c⟩⟩,vz,rfl,hOz,qz⟩,hb⟩
        have uz:S4.val ((z0a,z0n,z0c),(z1a,z1n,z1c),(z2a,z2n,z2c),(z3a,z3n,z3c))=.agg #[.slice z0a z0n z0c,.slice z1a z1n z1c,.slice z2a z2n z2c,.slice z3a z3n z3c]:=rfl
        rw [uz]
        clear uz hOz qz kG
        replace pY:=pY.below hb
        replace bw:=bel_trans bw hb
        clear hb
        go_wp2_with fail
        refine hK.out _ _ (cells_kept bw _ _ cP) (fun hS38=>?_)
        clear hK
        try simp only [Act.put,tka,tkb,tkc]
        refine tkm 7 94 (.tuple #[.agg #[.slice z0a z0n z0c,.slice z1a z1n z1c,.slice z2a z2n z2c,.slice z3a z3n z3c],vz,.int .i64 4]) ?_
        refine tkm 8 102 (.agg #[.slice z0a z0n z0c,.slice z1a z1n z1c,.slice z2a z2n z2c,.slice z3a z3n z3c]) ?_
        refine tkm 9 103 vz ?_
        refine tkm 10 104 (.int .i64 4) ?_
        refine tkz 12 (fun K hK=>?_)
        refine step_store_blkD rfl 30 _ _ rfl Y [.slice z0a z0n z0c,.slice z1a z1n z1c,.slice z2a z2n z2c,.slice z3a z3n z3c] rfl rfl pY (by kernel_rfl) rfl rfl ?_
        intro V8 pY8 g8
        replace bw:=bw.grown g8 bw.size (fun j hj=>by cases hj;omega)
        refine hK.out _ _ (cells_kept bw _ _ cP) (fun hS7=>?_)
        clear hK pY g8 pY8
        try simp only [Act.put,tka,tkb,tkc]
        refine tkm 13 22 vz ?_
        refine tkm 14 23 (.int .i64 4) ?_
        refine wpAnyH_done (by kernel_rfl) ?_ _
        replace cS0:=cells_kept bw _ _ cS0
        replace cS1:=cells_kept bw _ _ cS1
        replace cS2:=cells_kept bw _ _ cS2
        replace cS3:=cells_kept bw _ _ cS3
        replace cR0:=cells_kept bw _ _ cR0
        replace cR1:=cells_kept bw _ _ cR1
        replace cR2:=cells_kept bw _ _ cR2
        replace cR3:=cells_kept bw _ _ cR3
        replace cX0:=cells_kept bw _ _ cX0
        replace cX1:=cells_kept bw _ _ cX1
        replace cX2:=cells_kept bw _ _ cX2
        replace cX3:=cells_kept bw _ _ cX3
        clear hS0
        have k1:=kSR _ (hMs.below bw) (hMr.below bw) (hV.below bw)
        go_wp2_with fail
        refine k1.mono ?_
        rintro e u1 ⟨rfl,hb⟩
        replace bw:=bel_trans bw hb
        replace cS0:=cells_kept hb _ _ cS0
        replace cS1:=cells_kept hb _ _ cS1
        replace cS2:=cells_kept hb _ _ cS2
        replace cS3:=cells_kept hb _ _ cS3
        replace cR0:=cells_kept hb _ _ cR0
        replace cR1:=cells_kept hb _ _ cR1
        replace cR2:=cells_kept hb _ _ cR2
        replace cR3:=cells_kept hb _ _ cR3
        replace cX0:=cells_kept hb _ _ cX0
        replace cX1:=cells_kept hb _ _ cX1
        replace cX2:=cells_kept hb _ _ cX2
        replace cX3:=cells_kept hb _ _ cX3
        clear hb k1
        have k2:=sameBugs_same fa da fs.length fc dc fs _ (hF.below bw) (hD.below bw) (by omega)
        go_wp2_with fail
        refine k2.mono ?_
        rintro e u2 ⟨rfl,hb⟩
        replace bw:=bel_trans bw hb
        replace cS0:=cells_kept hb _ _ cS0
        replace cS1:=cells_kept hb _ _ cS1
        replace cS2:=cells_kept hb _ _ cS2
        replace cS3:=cells_kept hb _ _ cS3
        replace cX0:=cells_kept hb _ _ cX0
        replace cX1:=cells_kept hb _ _ cX1
        replace cX2:=cells_kept hb _ _ cX2
        replace cX3:=cells_kept hb _ _ cX3
        clear hb k2
        have k3:=kXS _ (hMx.below bw) (hMs.below bw) (hV.below bw)
        go_wp2_with fail
        refine k3.mono ?_
        rintro e u3 ⟨rfl,hb⟩
        replace bw:=bel_trans bw hb
        clear hb k3
        go_wp2
        go_ret
        exact ⟨rfl,bel_trans bW bw⟩
     ·have hal:Below U0.heap.size U0 (U0.alloc (.cells #[.int .i64 3] 3)):=by go_grown
      obtain ⟨G,hG⟩:∃ G,G=U0.heap.size:=⟨_,rfl⟩
      have e0:(U0.alloc (.cells #[.int .i64 3] 3)).cell? ⟨G,0,none⟩=some (.int .i64 3):=by subst hG;simp [go_sem]
      replace bw:=bel_trans bw hal
      go_simp
      rw [← hG]
      refine hK.out _ _ (cells_kept bw _ _ cP) (fun hS39=>?_)
      clear hK hal
      clear hG
      generalize (U0.alloc (.cells #[.int .i64 3] 3))=U39 at *
      try simp only [Act.put,tka,tkb,tkc]
      refine wpAnyH_ready (rs:=[1,11]) (by kernel_rfl) (by simp) ?_
      refine AllReadyH.cons (o:=⟨some 96,_,_,_,_,_⟩) rfl (fun K hK=>?_) (AllReadyH.cons (o:=⟨some 21,_,_,_,_,_⟩) rfl (fun K hK=>?_) AllReadyH.nil)
      ·have hal:Below U39.heap.size U39 (U39.alloc (.cells #[] 3)):=by go_grown
       have q:=own_emptyB U39 3 1 W2.heap.size bw.size
       have hap:∀ g,(Value.slice (some ⟨U39.heap.size,0,none⟩) 0 0).ownBlock=some g→g≠G:=fun g hg e=>by have hGl:=World.block_lt_of_cell? _ _ e0;simp [Value.ownBlock] at hg;simp at hGl;omega
       replace e0:=cells_kept hal _ _ e0
       replace bw:=bel_trans bw hal
       go_simp
       refine hK.out _ _ (cells_kept bw _ _ cP) (fun hS40=>?_)
       clear hK hal
       generalize U39.heap.size=V40 at *
       generalize (U39.alloc (.cells #[] 3))=U40 at *
       try simp only [Act.put,tka,tkb,tkc]
       refine wpAnyH_ready (rs:=[3,11]) (by kernel_rfl) (by simp) ?_
       refine AllReadyH.cons (o:=⟨some 98,_,_,_,_,_⟩) rfl (fun K hK=>?_) (AllReadyH.cons (o:=⟨some 21,_,_,_,_,_⟩) rfl (fun K hK=>?_) AllReadyH.nil)
       ·have hGl:=World.block_lt_of_cell? _ _ e0
        refine step_append_atB rfl _ _ 27 rfl W2.heap.size 3 i0 (.int .i64 0) 1 8 Tryd.underlying27 hi9 hz0 hz1 hz2 rfl (by decide) (.slice (some ⟨V40,0,none⟩) 0 0) 0 [] rfl q ⟨lb,lo,none⟩ i lc (ks.map (Value.int .i64)) rfl (by rw [List.length_map];omega) (ints_news (hL.below bw)) (int_one _) (by unfold maxLen;omega) (by omega) bw.size ?_
        intro v41 U41 q2 gr hob
        replace e0:=cell_grownB gr e0 (fun e=>hap _ e.symm rfl)
        have hap2:∀ g,Value.ownBlock v41=some g→g≠G:=fun g hg e=>by
         rcases hob with hu | hu
         ·exact hap g (hu▸hg) e
         ·rw [hu] at hg
          simp at hg hGl
          omega
        clear hap hGl
        have hap:=hap2
        clear hap2
        replace bw:=bw.grown gr bw.size (fun g hg=>(q.lt g hg).1)
        refine hK.out _ _ (cells_kept bw _ _ cP) (fun hS41=>?_)
        clear hK q gr hob
        have q:=q2
        clear q2
        try simp only [Act.put,tka,tkb,tkc]
        refine wpAnyH_ready (rs:=[5,11]) (by kernel_rfl) (by simp) ?_
        refine AllReadyH.cons (o:=⟨some 100,_,_,_,_,_⟩) rfl (fun K hK=>?_) (AllReadyH.cons (o:=⟨some 21,_,_,_,_,_⟩) rfl (fun K hK=>?_) AllReadyH.nil)
        ·refine step_append_atB rfl _ _ 27 rfl W2.heap.size 3 i0 (.int .i64 0) 1 8 Tryd.underlying27 hi9 hz0 hz1 hz2 rfl (by decide) v41 (0+i) ([]++ks.map (Value.int .i64)) rfl q ⟨G,0,none⟩ 1 1 [.int .i64 3] rfl rfl (int_at e0) (int_one [3]) (by unfold maxLen;omega) (by omega) bw.size ?_
         intro v42 U42 q2 gr hob
         replace bw:=bw.grown gr bw.size (fun g hg=>(q.lt g hg).1)
         refine hK.out _ _ (cells_kept bw _ _ cP) (fun hS42=>?_)
         clear hK q gr hob
         have q:=q2
         clear q2
         clear e0 hap
         try simp only [Act.put,tka,tkb,tkc]
         refine wpAnyH_ready (rs:=[6,11]) (by kernel_rfl) (by simp) ?_
         refine AllReadyH.cons (o:=⟨some 101,_,_,_,_,_⟩) rfl (fun K hK=>?_) (AllReadyH.cons (o:=⟨some 21,_,_,_,_,_⟩) rfl (fun K hK=>?_) AllReadyH.nil)
         ·obtain ⟨g9,c9,rfl⟩:=own_someB q (by omega)
          have hL9:=own_snoc q
          clear q
          generalize 0+i+1=n9 at *
          have kG:=implRunSchedule_is a 3 cap rows (some ⟨g9,0,none⟩) n9 c9 (ks++[3]) _ (hC.below bw) (hV.below bw) hL9
          rw [gB] at kG
          clear hL9
          go_simp
          refine kG.mono ?_
          rintro e U43 ⟨⟨⟨⟨z0a,z0n,z0c⟩,⟨z1a,z1n,z1c⟩,⟨z2a,z2n,z2c⟩,⟨z3a,z3n,z3c⟩⟩,vz,rfl,hOz,qz⟩,hb⟩
          have uz:S4.val ((z0a,z0n,z0c),(z1a,z1n,z1c),(z2a,z2n,z2c),(z3a,z3n,z3c))=.agg #[.slice z0a z0n z0c,.slice z1a z1n z1c,.slice z2a z2n z2c,.slice z3a z3n z3c]:=rfl
          rw [uz]
          clear uz hOz qz kG
          replace bw:=bel_trans bw hb
          clear hb
          go_wp2_with fail
          refine hK.out _ _ (cells_kept bw _ _ cP) (fun hS43=>?_)
          clear hK
          try simp only [Act.put,tka,tkb,tkc]
          refine tkm 7 94 (.tuple #[.agg #[.slice z0a z0n z0c,.slice z1a z1n z1c,.slice z2a z2n z2c,.slice z3a z3n z3c],vz,.int .i64 4]) ?_
          refine tkm 8 102 (.agg #[.slice z0a z0n z0c,.slice z1a z1n z1c,.slice z2a z2n z2c,.slice z3a z3n z3c]) ?_
          refine tkm 9 103 vz ?_
          refine tkm 10 104 (.int .i64 4) ?_
          refine tkr 11 21 (fun K hK=>?_)
          have hal:Below U43.heap.size U43 (U43.alloc (.cells #[.slice none 0 0,.slice none 0 0,.slice none 0 0,.slice none 0 0] 30)):=by go_grown
          obtain ⟨Y,hY⟩:∃ Y,Y=U43.heap.size:=⟨_,rfl⟩
          have pY:Blk (U43.alloc (.cells #[.slice none 0 0,.slice none 0 0,.slice none 0 0,.slice none 0 0] 30)) Y 30 [.slice none 0 0,.slice none 0 0,.slice none 0 0,.slice none 0 0]:=blkAt _ _ _ hY
          have hYw:W2.heap.size≤Y:=by rw [hY];exact bw.size
          replace bw:=bel_trans bw hal
          go_simp
          rw [← hY]
          refine hK.out _ _ (cells_kept bw _ _ cP) (fun hS44=>?_)
          clear hK hal
          clear hY
          generalize (U43.alloc (.cells #[.slice none 0 0,.slice none 0 0,.slice none 0 0,.slice none 0 0] 30))=U44 at *
          try simp only [Act.put,tka,tkb,tkc]
          refine tkz 12 (fun K hK=>?_)
          refine step_store_blkD rfl 30 _ _ rfl Y [.slice z0a z0n z0c,.slice z1a z1n z1c,.slice z2a z2n z2c,.slice z3a z3n z3c] rfl rfl pY (by kernel_rfl) rfl rfl ?_
          intro V8 pY8 g8
          replace bw:=bw.grown g8 bw.size (fun j hj=>by cases hj;omega)
          refine hK.out _ _ (cells_kept bw _ _ cP) (fun hS7=>?_)
          clear hK pY g8 pY8
          try simp only [Act.put,tka,tkb,tkc]
          refine tkm 13 22 vz ?_
          refine tkm 14 23 (.int .i64 4) ?_
          refine wpAnyH_done (by kernel_rfl) ?_ _
          replace cS0:=cells_kept bw _ _ cS0
          replace cS1:=cells_kept bw _ _ cS1
          replace cS2:=cells_kept bw _ _ cS2
          replace cS3:=cells_kept bw _ _ cS3
          replace cR0:=cells_kept bw _ _ cR0
          replace cR1:=cells_kept bw _ _ cR1
          replace cR2:=cells_kept bw _ _ cR2
          replace cR3:=cells_kept bw _ _ cR3
          replace cX0:=cells_kept bw _ _ cX0
          replace cX1:=cells_kept bw _ _ cX1
          replace cX2:=cells_kept bw _ _ cX2
          replace cX3:=cells_kept bw _ _ cX3
          clear hS0
          have k1:=kSR _ (hMs.below bw) (hMr.below bw) (hV.below bw)
          go_wp2_with fail
          refine k1.mono ?_
          rintro e u1 ⟨rfl,hb⟩
          replace bw:=bel_trans bw hb
          replace cS0:=cells_kept hb _ _ cS0
          replace cS1:=cells_kept hb _ _ cS1
          replace cS2:=cells_kept hb _ _ cS2
          replace cS3:=cells_kept hb _ _ cS3
          replace cR0:=cells_kept hb _ _ cR0
          replace cR1:=cells_kept hb _ _ cR1
          replace cR2:=cells_kept hb _ _ cR2
          replace cR3:=cells_kept hb _ _ cR3
          replace cX0:=cells_kept hb _ _ cX0
          replace cX1:=cells_kept hb _ _ cX1
          replace cX2:=cells_kept hb _ _ cX2
          replace cX3:=cells_kept hb _ _ cX3
          clear hb k1
          have k2:=sameBugs_same fa da fs.length fc dc fs _ (hF.below bw) (hD.below bw) (by omega)
          go_wp2_with fail
          refine k2.mono ?_
          rintro e u2 ⟨rfl,hb⟩
          replace bw:=bel_trans bw hb
          replace cS0:=cells_kept hb _ _ cS0
          replace cS1:=cells_kept hb _ _ cS1
          replace cS2:=cells_kept hb _ _ cS2
          replace cS3:=cells_kept hb _ _ cS3
          replace cX0:=cells_kept hb _ _ cX0
          replace cX1:=cells_kept hb _ _ cX1
          replace cX2:=cells_kept hb _ _ cX2
          replace cX3:=cells_kept hb _ _ cX3
          clear hb k2
          have k3:=kXS _ (hMx.below bw) (hMs.below bw) (hV.below bw)
          go_wp2_with fail
          refine k3.mono ?_
          rintro e u3 ⟨rfl,hb⟩
          replace bw:=bel_trans bw hb
          clear hb k3
          go_wp2
          go_ret
          exact ⟨rfl,bel_trans bW bw⟩
         ·have hal:Below U42.heap.size U42 (U42.alloc (.cells #[.slice none 0 0,.slice none 0 0,.slice none 0 0,.slice none 0 0] 30)):=by go_grown
          obtain ⟨Y,hY⟩:∃ Y,Y=U42.heap.size:=⟨_,rfl⟩
          have pY:Blk (U42.alloc (.cells #[.slice none 0 0,.slice none 0 0,.slice none 0 0,.slice none 0 0] 30)) Y 30 [.slice none 0 0,.slice none 0 0,.slice none 0 0,.slice none 0 0]:=blkAt _ _ _ hY
          have hYw:W2.heap.size≤Y:=by rw [hY];exact bw.size
          replace q:=owns_below q hal
          replace bw:=bel_trans bw hal
          go_simp
          rw [← hY]
          refine hK.out _ _ (cells_kept bw _ _ cP) (fun hS45=>?_)
          clear hK hal
          clear hY
          generalize (U42.alloc (.cells #[.slice none 0 0,.slice none 0 0,.slice none 0 0,.slice none 0 0] 30))=U45 at *
          try simp only [Act.put,tka,tkb,tkc]
          refine tkr 6 101 (fun K hK=>?_)
          obtain ⟨g9,c9,rfl⟩:=own_someB q (by omega)
          have hL9:=own_snoc q
          clear q
          generalize 0+i+1=n9 at *
          have kG:=implRunSchedule_is a 3 cap rows (some ⟨g9,0,none⟩) n9 c9 (ks++[3]) _ (hC.below bw) (hV.below bw) hL9
          rw [gB] at kG
          clear hL9
          go_simp
          refine kG.mono ?_
          rintro e U46 ⟨⟨⟨⟨z0a,z0n,z0c⟩,⟨z1a,z1n,z1c⟩,⟨z2a,z2n,z2c⟩,⟨z3a,z3n,z3c⟩⟩,vz,rfl,hOz,qz⟩,hb⟩
          have uz:S4.val ((z0a,z0n,z0c),(z1a,z1n,z1c),(z2a,z2n,z2c),(z3a,z3n,z3c))=.agg #[.slice z0a z0n z0c,.slice z1a z1n z1c,.slice z2a z2n z2c,.slice z3a z3n z3c]:=rfl
          rw [uz]
          clear uz hOz qz kG
          replace pY:=pY.below hb
          replace bw:=bel_trans bw hb
          clear hb
          go_wp2_with fail
          refine hK.out _ _ (cells_kept bw _ _ cP) (fun hS46=>?_)
          clear hK
          try simp only [Act.put,tka,tkb,tkc]
          refine tkm 7 94 (.tuple #[.agg #[.slice z0a z0n z0c,.slice z1a z1n z1c,.slice z2a z2n z2c,.slice z3a z3n z3c],vz,.int .i64 4]) ?_
          refine tkm 8 102 (.agg #[.slice z0a z0n z0c,.slice z1a z1n z1c,.slice z2a z2n z2c,.slice z3a z3n z3c]) ?_
          refine tkm 9 103 vz ?_
          refine tkm 10 104 (.int .i64 4) ?_
          refine tkz 12 (fun K hK=>?_)
          refine step_store_blkD rfl 30 _ _ rfl Y [.slice z0a z0n z0c,.slice z1a z1n z1c,.slice z2a z2n z2c,.slice z3a z3n z3c] rfl rfl pY (by kernel_rfl) rfl rfl ?_
          intro V8 pY8 g8
          replace bw:=bw.grown g8 bw.size (fun j hj=>by cases hj;omega)
          refine hK.out _ _ (cells_kept bw _ _ cP) (fun hS7=>?_)
          clear hK pY g8 pY8
          try simp only [Act.put,tka,tkb,tkc]
          refine tkm 13 22 vz ?_
          refine tkm 14 23 (.int .i64 4) ?_
          refine wpAnyH_done (by kernel_rfl) ?_ _
          replace cS0:=cells_kept bw _ _ cS0
          replace cS1:=cells_kept bw _ _ cS1
          replace cS2:=cells_kept bw _ _ cS2
          replace cS3:=cells_kept bw _ _ cS3
          replace cR0:=cells_kept bw _ _ cR0
          replace cR1:=cells_kept bw _ _ cR1
          replace cR2:=cells_kept bw _ _ cR2
          replace cR3:=cells_kept bw _ _ cR3
          replace cX0:=cells_kept bw _ _ cX0
          replace cX1:=cells_kept bw _ _ cX1
          replace cX2:=cells_kept bw _ _ cX2
          replace cX3:=cells_kept bw _ _ cX3
          clear hS0
          have k1:=kSR _ (hMs.below bw) (hMr.below bw) (hV.below bw)
          go_wp2_with fail
          refine k1.mono ?_
          rintro e u1 ⟨rfl,hb⟩
          replace bw:=bel_trans bw hb
          replace cS0:=cells_kept hb _ _ cS0
          replace cS1:=cells_kept hb _ _ cS1
          replace cS2:=cells_kept hb _ _ cS2
          replace cS3:=cells_kept hb _ _ cS3
          replace cR0:=cells_kept hb _ _ cR0
          replace cR1:=cells_kept hb _ _ cR1
          replace cR2:=cells_kept hb _ _ cR2
          replace cR3:=cells_kept hb _ _ cR3
          replace cX0:=cells_kept hb _ _ cX0
          replace cX1:=cells_kept hb _ _ cX1
          replace cX2:=cells_kept hb _ _ cX2
          replace cX3:=cells_kept hb _ _ cX3
          clear hb k1
          have k2:=sameBugs_same fa da fs.length fc dc fs _ (hF.below bw) (hD.below bw) (by omega)
          go_wp2_with fail
          refine k2.mono ?_
          rintro e u2 ⟨rfl,hb⟩
          replace bw:=bel_trans bw hb
          replace cS0:=cells_kept hb _ _ cS0
          replace cS1:=cells_kept hb _ _ cS1
          replace cS2:=cells_kept hb _ _ cS2
          replace cS3:=cells_kept hb _ _ cS3
          replace cX0:=cells_kept hb _ _ cX0
          replace cX1:=cells_kept hb _ _ cX1
          replace cX2:=cells_kept hb _ _ cX2
          replace cX3:=cells_kept hb _ _ cX3
          clear hb k2
          have k3:=kXS _ (hMx.below bw) (hMs.below bw) (hV.below bw)
          go_wp2_with fail
          refine k3.mono ?_
          rintro e u3 ⟨rfl,hb⟩
          replace bw:=bel_trans bw hb
          clear hb k3
          go_wp2
          go_ret
          exact ⟨rfl,bel_trans bW bw⟩
        ·have hal:Below U41.heap.size U41 (U41.alloc (.cells #[.slice none 0 0,.slice none 0 0,.slice none 0 0,.slice none 0 0] 30)):=by go_grown
         obtain ⟨Y,hY⟩:∃ Y,Y=U41.heap.size:=⟨_,rfl⟩
         have pY:Blk (U41.alloc (.cells #[.slice none 0 0,.slice none 0 0,.slice none 0 0,.slice none 0 0] 30)) Y 30 [.slice none 0 0,.slice none 0 0,.slice none 0 0,.slice none 0 0]:=blkAt _ _ _ hY
         have hYw:W2.heap.size≤Y:=by rw [hY];exact bw.size
         replace e0:=cells_kept hal _ _ e0
         replace q:=owns_below q hal
         replace bw:=bel_trans bw hal
         go_simp
         rw [← hY]
         refine hK.out _ _ (cells_kept bw _ _ cP) (fun hS47=>?_)
         clear hK hal
         clear hY
         generalize (U41.alloc (.cells #[.slice none 0 0,.slice none 0 0,.slice none 0 0,.slice none 0 0] 30))=U47 at *
         try simp only [Act.put,tka,tkb,tkc]
         refine tkr 5 100 (fun K hK=>?_)
         refine step_append_atB rfl _ _ 27 rfl W2.heap.size 3 i0 (.int .i64 0) 1 8 Tryd.underlying27 hi9 hz0 hz1 hz2 rfl (by decide) v41 (0+i) ([]++ks.map (Value.int .i64)) rfl q ⟨G,0,none⟩ 1 1 [.int .i64 3] rfl rfl (int_at e0) (int_one [3]) (by unfold maxLen;omega) (by omega) bw.size ?_
         intro v48 U48 q2 gr hob
         replace pY:=pY.kept gr (own_ne_blk q pY (by decide))
         replace bw:=bw.grown gr bw.size (fun g hg=>(q.lt g hg).1)
         refine hK.out _ _ (cells_kept bw _ _ cP) (fun hS48=>?_)
         clear hK q gr hob
         have q:=q2
         clear q2
         clear e0 hap
         try simp only [Act.put,tka,tkb,tkc]
         refine tkr 6 101 (fun K hK=>?_)
         obtain ⟨g9,c9,rfl⟩:=own_someB q (by omega)
         have hL9:=own_snoc q
         clear q
         generalize 0+i+1=n9 at *
         have kG:=implRunSchedule_is a 3 cap rows (some ⟨g9,0,none⟩) n9 c9 (ks++[3]) _ (hC.below bw) (hV.below bw) hL9
         rw [gB] at kG
         clear hL9
         go_simp
         refine kG.mono ?_
         rintro e U49 ⟨⟨⟨⟨z0a,z0n,z0c⟩,⟨z1a,z1n,z1c⟩,⟨z2a,z2n,z2c⟩,⟨z3a,z3n,z3c⟩⟩,vz,rfl,hOz,qz⟩,hb⟩
         have uz:S4.val ((z0a,z0n,z0c),(z1a,z1n,z1c),(z2a,z2n,z2c),(z3a,z3n,z3c))=.agg #[.slice z0a z0n z0c,.slice z1a z1n z1c,.slice z2a z2n z2c,.slice z3a z3n z3c]:=rfl
         rw [uz]
         clear uz hOz qz kG
         replace pY:=pY.below hb
         replace bw:=bel_trans bw hb
         clear hb
         go_wp2_with fail
         refine hK.out _ _ (cells_kept bw _ _ cP) (fun hS49=>?_)
         clear hK
         try simp only [Act.put,tka,tkb,tkc]
         refine tkm 7 94 (.tuple #[.agg #[.slice z0a z0n z0c,.slice z1a z1n z1c,.slice z2a z2n z2c,.slice z3a z3n z3c],vz,.int .i64 4]) ?_
         refine tkm 8 102 (.agg #[.slice z0a z0n z0c,.slice z1a z1n z1c,.slice z2a z2n z2c,.slice z3a z3n z3c]) ?_
         refine tkm 9 103 vz ?_
         refine tkm 10 104 (.int .i64 4) ?_
         refine tkz 12 (fun K hK=>?_)
         refine step_store_blkD rfl 30 _ _ rfl Y [.slice z0a z0n z0c,.slice z1a z1n z1c,.slice z2a z2n z2c,.slice z3a z3n z3c] rfl rfl pY (by kernel_rfl) rfl rfl ?_
         intro V8 pY8 g8
         replace bw:=bw.grown g8 bw.size (fun j hj=>by cases hj;omega)
         refine hK.out _ _ (cells_kept bw _ _ cP) (fun hS7=>?_)
         clear hK pY g8 pY8
         try simp only [Act.put,tka,tkb,tkc]
         refine tkm 13 22 vz ?_
         refine tkm 14 23 (.int .i64 4) ?_
         refine wpAnyH_done (by kernel_rfl) ?_ _
         replace cS0:=cells_kept bw _ _ cS0
         replace cS1:=cells_kept bw _ _ cS1
         replace cS2:=cells_kept bw _ _ cS2
         replace cS3:=cells_kept bw _ _ cS3
         replace cR0:=cells_kept bw _ _ cR0
         replace cR1:=cells_kept bw _ _ cR1
         replace cR2:=cells_kept bw _ _ cR2
         replace cR3:=cells_kept bw _ _ cR3
         replace cX0:=cells_kept bw _ _ cX0
         replace cX1:=cells_kept bw _ _ cX1
         replace cX2:=cells_kept bw _ _ cX2
         replace cX3:=cells_kept bw _ _ cX3
         clear hS0
         have k1:=kSR _ (hMs.below bw) (hMr.below bw) (hV.below bw)
         go_wp2_with fail
         refine k1.mono ?_
         rintro e u1 ⟨rfl,hb⟩
         replace bw:=bel_trans bw hb
         replace cS0:=cells_kept hb _ _ cS0
         replace cS1:=cells_kept hb _ _ cS1
         replace cS2:=cells_kept hb _ _ cS2
         replace cS3:=cells_kept hb _ _ cS3
         replace cR0:=cells_kept hb _ _ cR0
         replace cR1:=cells_kept hb _ _ cR1
         replace cR2:=cells_kept hb _ _ cR2
         replace cR3:=cells_kept hb _ _ cR3
         replace cX0:=cells_kept hb _ _ cX0
         replace cX1:=cells_kept hb _ _ cX1
         replace cX2:=cells_kept hb _ _ cX2
         replace cX3:=cells_kept hb _ _ cX3
         clear hb k1
         have k2:=sameBugs_same fa da fs.length fc dc fs _ (hF.below bw) (hD.below bw) (by omega)
         go_wp2_with fail
         refine k2.mono ?_
         rintro e u2 ⟨rfl,hb⟩
         replace bw:=bel_trans bw hb
         replace cS0:=cells_kept hb _ _ cS0
         replace cS1:=cells_kept hb _ _ cS1
         replace cS2:=cells_kept hb _ _ cS2
         replace cS3:=cells_kept hb _ _ cS3
         replace cX0:=cells_kept hb _ _ cX0
         replace cX1:=cells_kept hb _ _ cX1
         replace cX2:=cells_kept hb _ _ cX2
         replace cX3:=cells_kept hb _ _ cX3
         clear hb k2
         have k3:=kXS _ (hMx.below bw) (hMs.below bw) (hV.below bw)
         go_wp2_with fail
         refine k3.mono ?_
         rintro e u3 ⟨rfl,hb⟩
         replace bw:=bel_trans bw hb
         clear hb k3
         go_wp2
         go_ret
         exact ⟨rfl,bel_trans bW bw⟩
       ·have hal:Below U40.heap.size U40 (U40.alloc (.cells #[.slice none 0 0,.slice none 0 0,.slice none 0 0,.slice none 0 0] 30)):=by go_grown
        obtain ⟨Y,hY⟩:∃ Y,Y=U40.heap.size:=⟨_,rfl⟩
        have pY:Blk (U40.alloc (.cells #[.slice none 0 0,.slice none 0 0,.slice none 0 0,.slice none 0 0] 30)) Y 30 [.slice none 0 0,.slice none 0 0,.slice none 0 0,.slice none 0 0]:=blkAt _ _ _ hY
        have hYw:W2.heap.size≤Y:=by rw [hY];exact bw.size
        replace e0:=cells_kept hal _ _ e0
        replace q:=owns_below q hal
        replace bw:=bel_trans bw hal
        go_simp
        rw [← hY]
        refine hK.out _ _ (cells_kept bw _ _ cP) (fun hS50=>?_)
        clear hK hal
        clear hY
        generalize (U40.alloc (.cells #[.slice none 0 0,.slice none 0 0,.slice none 0 0,.slice none 0 0] 30))=U50 at *
        try simp only [Act.put,tka,tkb,tkc]
        refine tkr 3 98 (fun K hK=>?_)
        have hGl:=World.block_lt_of_cell? _ _ e0
        refine step_append_atB rfl _ _ 27 rfl W2.heap.size 3 i0 (.int .i64 0) 1 8 Tryd.underlying27 hi9 hz0 hz1 hz2 rfl (by decide) (.slice (some ⟨V40,0,none⟩) 0 0) 0 [] rfl q ⟨lb,lo,none⟩ i lc (ks.map (Value.int .i64)) rfl (by rw [List.length_map];omega) (ints_news (hL.below bw)) (int_one _) (by unfold maxLen;omega) (by omega) bw.size ?_
        intro v51 U51 q2 gr hob
        replace e0:=cell_grownB gr e0 (fun e=>hap _ e.symm rfl)
        have hap2:∀ g,Value.ownBlock v51=some g→g≠G:=fun g hg e=>by
         rcases hob with hu | hu
         ·exact hap g (hu▸hg) e
         ·rw [hu] at hg
          simp at hg hGl
          omega
        clear hap hGl
        have hap:=hap2
        clear hap2
        replace pY:=pY.kept gr (own_ne_blk q pY (by decide))
        replace bw:=bw.grown gr bw.size (fun g hg=>(q.lt g hg).1)
        refine hK.out _ _ (cells_kept bw _ _ cP) (fun hS51=>?_)
        clear hK q gr hob
        have q:=q2
        clear q2
        try simp only [Act.put,tka,tkb,tkc]
        refine tkr 5 100 (fun K hK=>?_)
        refine step_append_atB rfl _ _ 27 rfl W2.heap.size 3 i0 (.int .i64 0) 1 8 Tryd.underlying27 hi9 hz0 hz1 hz2 rfl (by decide) v51 (0+i) ([]++ks.map (Value.int .i64)) rfl q ⟨G,0,none⟩ 1 1 [.int .i64 3] rfl rfl (int_at e0) (int_one [3]) (by unfold maxLen;omega) (by omega) bw.size ?_
        intro v52 U52 q2 gr hob
        replace pY:=pY.kept gr (own_ne_blk q pY (by decide))
        replace bw:=bw.grown gr bw.size (fun g hg=>(q.lt g hg).1)
        refine hK.out _ _ (cells_kept bw _ _ cP) (fun hS52=>?_)
        clear hK q gr hob
        have q:=q2
        clear q2
        clear e0 hap
        try simp only [Act.put,tka,tkb,tkc]
        refine tkr 6 101 (fun K hK=>?_)
        obtain ⟨g9,c9,rfl⟩:=own_someB q (by omega)
        have hL9:=own_snoc q
        clear q
        generalize 0+i+1=n9 at *
        have kG:=implRunSchedule_is a 3 cap rows (some ⟨g9,0,none⟩) n9 c9 (ks++[3]) _ (hC.below bw) (hV.below bw) hL9
        rw [gB] at kG
        clear hL9
        go_simp
        refine kG.mono ?_
        rintro e U53 ⟨⟨⟨⟨z0a,z0n,z0c⟩,⟨z1a,z1n,z1c⟩,⟨z2a,z2n,z2c⟩,⟨z3a,z3n,z3c⟩⟩,vz,rfl,hOz,qz⟩,hb⟩
        have uz:S4.val ((z0a,z0n,z0c),(z1a,z1n,z1c),(z2a,z2n,z2c),(z3a,z3n,z3c))=.agg #[.slice z0a z0n z0c,.slice z1a z1n z1c,.slice z2a z2n z2c,.slice z3a z3n z3c]:=rfl
        rw [uz]
        clear uz hOz qz kG
        replace pY:=pY.below hb
        replace bw:=bel_trans bw hb
        clear hb
        go_wp2_with fail
        refine hK.out _ _ (cells_kept bw _ _ cP) (fun hS53=>?_)
        clear hK
        try simp only [Act.put,tka,tkb,tkc]
        refine tkm 7 94 (.tuple #[.agg #[.slice z0a z0n z0c,.slice z1a z1n z1c,.slice z2a z2n z2c,.slice z3a z3n z3c],vz,.int .i64 4]) ?_
        refine tkm 8 102 (.agg #[.slice z0a z0n z0c,.slice z1a z1n z1c,.slice z2a z2n z2c,.slice z3a z3n z3c]) ?_
        refine tkm 9 103 vz ?_
        refine tkm 10 104 (.int .i64 4) ?_
        refine tkz 12 (fun K hK=>?_)
        refine step_store_blkD rfl 30 _ _ rfl Y [.slice z0a z0n z0c,.slice z1a z1n z1c,.slice z2a z2n z2c,.slice z3a z3n z3c] rfl rfl pY (by kernel_rfl) rfl rfl ?_
        intro V8 pY8 g8
        replace bw:=bw.grown g8 bw.size (fun j hj=>by cases hj;omega)
        refine hK.out _ _ (cells_kept bw _ _ cP) (fun hS7=>?_)
        clear hK pY g8 pY8
        try simp only [Act.put,tka,tkb,tkc]
        refine tkm 13 22 vz ?_
        refine tkm 14 23 (.int .i64 4) ?_
        refine wpAnyH_done (by kernel_rfl) ?_ _
        replace cS0:=cells_kept bw _ _ cS0
        replace cS1:=cells_kept bw _ _ cS1
        replace cS2:=cells_kept bw _ _ cS2
        replace cS3:=cells_kept bw _ _ cS3
        replace cR0:=cells_kept bw _ _ cR0
        replace cR1:=cells_kept bw _ _ cR1
        replace cR2:=cells_kept bw _ _ cR2
        replace cR3:=cells_kept bw _ _ cR3
        replace cX0:=cells_kept bw _ _ cX0
        replace cX1:=cells_kept bw _ _ cX1
        replace cX2:=cells_kept bw _ _ cX2
        replace cX3:=cells_kept bw _ _ cX3
        clear hS0
        have k1:=kSR _ (hMs.below bw) (hMr.below bw) (hV.below bw)
        go_wp2_with fail
        refine k1.mono ?_
        rintro e u1 ⟨rfl,hb⟩
        replace bw:=bel_trans bw hb
        replace cS0:=cells_kept hb _ _ cS0
        replace cS1:=cells_kept hb _ _ cS1
        replace cS2:=cells_kept hb _ _ cS2
        replace cS3:=cells_kept hb _ _ cS3
        replace cR0:=cells_kept hb _ _ cR0
        replace cR1:=cells_kept hb _ _ cR1
        replace cR2:=cells_kept hb _ _ cR2
        replace cR3:=cells_kept hb _ _ cR3
        replace cX0:=cells_kept hb _ _ cX0
        replace cX1:=cells_kept hb _ _ cX1
        replace cX2:=cells_kept hb _ _ cX2
        replace cX3:=cells_kept hb _ _ cX3
        clear hb k1
        have k2:=sameBugs_same fa da fs.length fc dc fs _ (hF.below bw) (hD.below bw) (by omega)
        go_wp2_with fail
        refine k2.mono ?_
        rintro e u2 ⟨rfl,hb⟩
        replace bw:=bel_trans bw hb
        replace cS0:=cells_kept hb _ _ cS0
        replace cS1:=cells_kept hb _ _ cS1
        replace cS2:=cells_kept hb _ _ cS2
        replace cS3:=cells_kept hb _ _ cS3
        replace cX0:=cells_kept hb _ _ cX0
        replace cX1:=cells_kept hb _ _ cX1
        replace cX2:=cells_kept hb _ _ cX2
        replace cX3:=cells_kept hb _ _ cX3
        clear hb k2
        have k3:=kXS _ (hMx.below bw) (hMs.below bw) (hV.below bw)
        go_wp2_with fail
        refine k3.mono ?_
        rintro e u3 ⟨rfl,hb⟩
        replace bw:=bel_trans bw hb
        clear hb k3
        go_wp2
        go_ret
        exact ⟨rfl,bel_trans bW bw⟩
      ·have hal:Below U39.heap.size U39 (U39.alloc (.cells #[.slice none 0 0,.slice none 0 0,.slice none 0 0,.slice none 0 0] 30)):=by go_grown
       obtain ⟨Y,hY⟩:∃ Y,Y=U39.heap.size:=⟨_,rfl⟩
       have pY:Blk (U39.alloc (.cells #[.slice none 0 0,.slice none 0 0,.slice none 0 0,.slice none 0 0] 30)) Y 30 [.slice none 0 0,.slice none 0 0,.slice none 0 0,.slice none 0 0]:=blkAt _ _ _ hY
       have hYw:W2.heap.size≤Y:=by rw [hY];exact bw.size
       replace e0:=cells_kept hal _ _ e0
       replace bw:=bel_trans bw hal
       go_simp
       rw [← hY]
       refine hK.out _ _ (cells_kept bw _ _ cP) (fun hS54=>?_)
       clear hK hal
       clear hY
       generalize (U39.alloc (.cells #[.slice none 0 0,.slice none 0 0,.slice none 0 0,.slice none 0 0] 30))=U54 at *
       try simp only [Act.put,tka,tkb,tkc]
       refine tkr 1 96 (fun K hK=>?_)
       have hal:Below U54.heap.size U54 (U54.alloc (.cells #[] 3)):=by go_grown
       have q:=own_emptyB U54 3 1 W2.heap.size bw.size
       have hap:∀ g,(Value.slice (some ⟨U54.heap.size,0,none⟩) 0 0).ownBlock=some g→g≠G:=fun g hg e=>by have hGl:=World.block_lt_of_cell? _ _ e0;simp [Value.ownBlock] at hg;simp at hGl;omega
       replace e0:=cells_kept hal _ _ e0
       replace pY:=pY.below hal
       replace bw:=bel_trans bw hal
       go_simp
       refine hK.out _ _ (cells_kept bw _ _ cP) (fun hS55=>?_)
       clear hK hal
       generalize U54.heap.size=V55 at *
       generalize (U54.alloc (.cells #[] 3))=U55 at *
       try simp only [Act.put,tka,tkb,tkc]
       refine tkr 3 98 (fun K hK=>?_)
       have hGl:=World.block_lt_of_cell? _ _ e0
       refine step_append_atB rfl _ _ 27 rfl W2.heap.size 3 i0 (.int .i64 0) 1 8 Tryd.underlying27 hi9 hz0 hz1 hz2 rfl (by decide) (.slice (some ⟨V55,0,none⟩) 0 0) 0 [] rfl q ⟨lb,lo,none⟩ i lc (ks.map (Value.int .i64)) rfl (by rw [List.length_map];omega) (ints_news (hL.below bw)) (int_one _) (by unfold maxLen;omega) (by omega) bw.size ?_
       intro v56 U56 q2 gr hob
       replace e0:=cell_grownB gr e0 (fun e=>hap _ e.symm rfl)
       have hap2:∀ g,Value.ownBlock v56=some g→g≠G:=fun g hg e=>by
        rcases hob with hu | hu
        ·exact hap g (hu▸hg) e
        ·rw [hu] at hg
         simp at hg hGl
         omega
       clear hap hGl
       have hap:=hap2
       clear hap2
       replace pY:=pY.kept gr (own_ne_blk q pY (by decide))
       replace bw:=bw.grown gr bw.size (fun g hg=>(q.lt g hg).1)
       refine hK.out _ _ (cells_kept bw _ _ cP) (fun hS56=>?_)
       clear hK q gr hob
       have q:=q2
       clear q2
       try simp only [Act.put,tka,tkb,tkc]
       refine tkr 5 100 (fun K hK=>?_)
       refine step_append_atB rfl _ _ 27 rfl W2.heap.size 3 i0 (.int .i64 0) 1 8 Tryd.underlying27 hi9 hz0 hz1 hz2 rfl (by decide) v56 (0+i) ([]++ks.map (Value.int .i64)) rfl q ⟨G,0,none⟩ 1 1 [.int .i64 3] rfl rfl (int_at e0) (int_one [3]) (by unfold maxLen;omega) (by omega) bw.size ?_
       intro v57 U57 q2 gr hob
       replace pY:=pY.kept gr (own_ne_blk q pY (by decide))
       replace bw:=bw.grown gr bw.size (fun g hg=>(q.lt g hg).1)
       refine hK.out _ _ (cells_kept bw _ _ cP) (fun hS57=>?_)
       clear hK q gr hob
       have q:=q2
       clear q2
       clear e0 hap
       try simp only [Act.put,tka,tkb,tkc]
       refine tkr 6 101 (fun K hK=>?_)
       obtain ⟨g9,c9,rfl⟩:=own_someB q (by omega)
       have hL9:=own_snoc q
       clear q
       generalize 0+i+1=n9 at *
       have kG:=implRunSchedule_is a 3 cap rows (some ⟨g9,0,none⟩) n9 c9 (ks++[3]) _ (hC.below bw) (hV.below bw) hL9
       rw [gB] at kG
       clear hL9
       go_simp
       refine kG.mono ?_
       rintro e U58 ⟨⟨⟨⟨z0a,z0n,z0c⟩,⟨z1a,z1n,z1c⟩,⟨z2a,z2n,z2c⟩,⟨z3a,z3n,z3c⟩⟩,vz,rfl,hOz,qz⟩,hb⟩
       have uz:S4.val ((z0a,z0n,z0c),(z1a,z1n,z1c),(z2a,z2n,z2c),(z3a,z3n,z3c))=.agg #[.slice z0a z0n z0c,.slice z1a z1n z1c,.slice z2a z2n z2c,.slice z3a z3n z3c]:=rfl
       rw [uz]
       clear uz hOz qz kG
       replace pY:=pY.below hb
       replace bw:=bel_trans bw hb
       clear hb
       go_wp2_with fail
       refine hK.out _ _ (cells_kept bw _ _ cP) (fun hS58=>?_)
       clear hK
       try simp only [Act.put,tka,tkb,tkc]
       refine tkm 7 94 (.tuple #[.agg #[.slice z0a z0n z0c,.slice z1a z1n z1c,.slice z2a z2n z2c,.slice z3a z3n z3c],vz,.int .i64 4]) ?_
       refine tkm 8 102 (.agg #[.slice z0a z0n z0c,.slice z1a z1n z1c,.slice z2a z2n z2c,.slice z3a z3n z3c]) ?_
       refine tkm 9 103 vz ?_
       refine tkm 10 104 (.int .i64 4) ?_
       refine tkz 12 (fun K hK=>?_)
       refine step_store_blkD rfl 30 _ _ rfl Y [.slice z0a z0n z0c,.slice z1a z1n z1c,.slice z2a z2n z2c,.slice z3a z3n z3c] rfl rfl pY (by kernel_rfl) rfl rfl ?_
       intro V8 pY8 g8
       replace bw:=bw.grown g8 bw.size (fun j hj=>by cases hj;omega)
       refine hK.out _ _ (cells_kept bw _ _ cP) (fun hS7=>?_)
       clear hK pY g8 pY8
       try simp only [Act.put,tka,tkb,tkc]
       refine tkm 13 22 vz ?_
       refine tkm 14 23 (.int .i64 4) ?_
       refine wpAnyH_done (by kernel_rfl) ?_ _
       replace cS0:=cells_kept bw _ _ cS0
       replace cS1:=cells_kept bw _ _ cS1
       replace cS2:=cells_kept bw _ _ cS2
       replace cS3:=cells_kept bw _ _ cS3
       replace cR0:=cells_kept bw _ _ cR0
       replace cR1:=cells_kept bw _ _ cR1
       replace cR2:=cells_kept bw _ _ cR2
       replace cR3:=cells_kept bw _ _ cR3
       replace cX0:=cells_kept bw _ _ cX0
       replace cX1:=cells_kept bw _ _ cX1
       replace cX2:=cells_kept bw _ _ cX2
       replace cX3:=cells_kept bw _ _ cX3
       clear hS0
       have k1:=kSR _ (hMs.below bw) (hMr.below bw) (hV.below bw)
       go_wp2_with fail
       refine k1.mono ?_
       rintro e u1 ⟨rfl,hb⟩
       replace bw:=bel_trans bw hb
       replace cS0:=cells_kept hb _ _ cS0
       replace cS1:=cells_kept hb _ _ cS1
       replace cS2:=cells_kept hb _ _ cS2
       replace cS3:=cells_kept hb _ _ cS3
       replace cR0:=cells_kept hb _ _ cR0
       replace cR1:=cells_kept hb _ _ cR1
       replace cR2:=cells_kept hb _ _ cR2
       replace cR3:=cells_kept hb _ _ cR3
       replace cX0:=cells_kept hb _ _ cX0
       replace cX1:=cells_kept hb _ _ cX1
       replace cX2:=cells_kept hb _ _ cX2
       replace cX3:=cells_kept hb _ _ cX3
       clear hb k1
       have k2:=sameBugs_same fa da fs.length fc dc fs _ (hF.below bw) (hD.below bw) (by omega)
       go_wp2_with fail
       refine k2.mono ?_
       rintro e u2 ⟨rfl,hb⟩
       replace bw:=bel_trans bw hb
       replace cS0:=cells_kept hb _ _ cS0
       replace cS1:=cells_kept hb _ _ cS1
       replace cS2:=cells_kept hb _ _ cS2
       replace cS3:=cells_kept hb _ _ cS3
       replace cX0:=cells_kept hb _ _ cX0
       replace cX1:=cells_kept hb _ _ cX1
       replace cX2:=cells_kept hb _ _ cX2
       replace cX3:=cells_kept hb _ _ cX3
       clear hb k2
       have k3:=kXS _ (hMx.below bw) (hMs.below bw) (hV.below bw)
       go_wp2_with fail
       refine k3.mono ?_
       rintro e u3 ⟨rfl,hb⟩
       replace bw:=bel_trans bw hb
       clear hb k3
       go_wp2
       go_ret
       exact ⟨rfl,bel_trans bW bw⟩
     ·have hal:Below U0.heap.size U0 (U0.alloc (.cells #[.slice none 0 0,.slice none 0 0,.slice none 0 0,.slice none 0 0] 30)):=by go_grown
      obtain ⟨Y,hY⟩:∃ Y,Y=U0.heap.size:=⟨_,rfl⟩
      have pY:Blk (U0.alloc (.cells #[.slice none 0 0,.slice none 0 0,.slice none 0 0,.slice none 0 0] 30)) Y 30 [.slice none 0 0,.slice none 0 0,.slice none 0 0,.slice none 0 0]:=blkAt _ _ _ hY
      have hYw:W2.heap.size≤Y:=by rw [hY];exact bw.size
      replace bw:=bel_trans bw hal
      go_simp
      rw [← hY]
      refine hK.out _ _ (cells_kept bw _ _ cP) (fun hS59=>?_)
      clear hK hal
      clear hY
      generalize (U0.alloc (.cells #[.slice none 0 0,.slice none 0 0,.slice none 0 0,.slice none 0 0] 30))=U59 at *
      try simp only [Act.put,tka,tkb,tkc]
      refine wpAnyH_ready (rs:=[1,4]) (by kernel_rfl) (by simp) ?_
      refine AllReadyH.cons (o:=⟨some 96,_,_,_,_,_⟩) rfl (fun K hK=>?_) (AllReadyH.cons (o:=⟨some 99,_,_,_,_,_⟩) rfl (fun K hK=>?_) AllReadyH.nil)
      ·have hal:Below U59.heap.size U59 (U59.alloc (.cells #[] 3)):=by go_grown
       have q:=own_emptyB U59 3 1 W2.heap.size bw.size
       replace pY:=pY.below hal
       replace bw:=bel_trans bw hal
       go_simp
       refine hK.out _ _ (cells_kept bw _ _ cP) (fun hS60=>?_)
       clear hK hal
       generalize U59.heap.size=V60 at *
       generalize (U59.alloc (.cells #[] 3))=U60 at *
       try simp only [Act.put,tka,tkb,tkc]
       refine wpAnyH_ready (rs:=[3,4]) (by kernel_rfl) (by simp) ?_
       refine AllReadyH.cons (o:=⟨some 98,_,_,_,_,_⟩) rfl (fun K hK=>?_) (AllReadyH.cons (o:=⟨some 99,_,_,_,_,_⟩) rfl (fun K hK=>?_) AllReadyH.nil)
       ·refine step_append_atB rfl _ _ 27 rfl W2.heap.size 3 i0 (.int .i64 0) 1 8 Tryd.underlying27 hi9 hz0 hz1 hz2 rfl (by decide) (.slice (some ⟨V60,0,none⟩) 0 0) 0 [] rfl q ⟨lb,lo,none⟩ i lc (ks.map (Value.int .i64)) rfl (by rw [List.length_map];omega) (ints_news (hL.below bw)) (int_one _) (by unfold maxLen;omega) (by omega) bw.size ?_
        intro v61 U61 q2 gr hob
        replace pY:=pY.kept gr (own_ne_blk q pY (by decide))
        replace bw:=bw.grown gr bw.size (fun g hg=>(q.lt g hg).1)
        refine hK.out _ _ (cells_kept bw _ _ cP) (fun hS61=>?_)
        clear hK q gr hob
        have q:=q2
        clear q2
        try simp only [Act.put,tka,tkb,tkc]
        refine tkr 4 99 (fun K hK=>?_)
        have hal:Below U61.heap.size U61 (U61.alloc (.cells #[.int .i64 3] 3)):=by go_grown
        obtain ⟨G,hG⟩:∃ G,G=U61.heap.size:=⟨_,rfl⟩
        have e0:(U61.alloc (.cells #[.int .i64 3] 3)).cell? ⟨G,0,none⟩=some (.int .i64 3):=by subst hG;simp [go_sem]
        have hap:∀ g,Value.ownBlock v61=some g→g≠G:=fun g hg e=>by have:=(q.lt g hg).2;omega
        replace q:=owns_below q hal
        replace pY:=pY.below hal
        replace bw:=bel_trans bw hal
        go_simp
        rw [← hG]
        refine hK.out _ _ (cells_kept bw _ _ cP) (fun hS62=>?_)
        clear hK hal
        clear hG
        generalize (U61.alloc (.cells #[.int .i64 3] 3))=U62 at *
        try simp only [Act.put,tka,tkb,tkc]
        refine tkr 5 100 (fun K hK=>?_)
        refine step_append_atB rfl _ _ 27 rfl W2.heap.size 3 i0 (.int .i64 0) 1 8 Tryd.underlying27 hi9 hz0 hz1 hz2 rfl (by decide) v61 (0+i) ([]++ks.map (Value.int .i64)) rfl q ⟨G,0,none⟩ 1 1 [.int .i64 3] rfl rfl (int_at e0) (int_one [3]) (by unfold maxLen;omega) (by omega) bw.size ?_
        intro v63 U63 q2 gr hob
        replace pY:=pY.kept gr (own_ne_blk q pY (by decide))
        replace bw:=bw.grown gr bw.size (fun g hg=>(q.lt g hg).1)
        refine hK.out _ _ (cells_kept bw _ _ cP) (fun hS63=>?_)
        clear hK q gr hob
        have q:=q2
        clear q2
        clear e0 hap
        try simp only [Act.put,tka,tkb,tkc]
        refine tkr 6 101 (fun K hK=>?_)
        obtain ⟨g9,c9,rfl⟩:=own_someB q (by omega)
        have hL9:=own_snoc q
        clear q
        generalize 0+i+1=n9 at *
        have kG:=implRunSchedule_is a 3 cap rows (some ⟨g9,0,none⟩) n9 c9 (ks++[3]) _ (hC.below bw) (hV.below bw) hL9
        rw [gB] at kG
        clear hL9
        go_simp
        refine kG.mono ?_
        rintro e U64 ⟨⟨⟨⟨z0a,z0n,z0c⟩,⟨z1a,z1n,z1c⟩,⟨z2a,z2n,z2c⟩,⟨z3a,z3n,z3c⟩⟩,vz,rfl,hOz,qz⟩,hb⟩
        have uz:S4.val ((z0a,z0n,z0c),(z1a,z1n,z1c),(z2a,z2n,z2c),(z3a,z3n,z3c))=.agg #[.slice z0a z0n z0c,.slice z1a z1n z1c,.slice z2a z2n z2c,.slice z3a z3n z3c]:=rfl
        rw [uz]
        clear uz hOz qz kG
        replace pY:=pY.below hb
        replace bw:=bel_trans bw hb
        clear hb
        go_wp2_with fail
        refine hK.out _ _ (cells_kept bw _ _ cP) (fun hS64=>?_)
        clear hK
        try simp only [Act.put,tka,tkb,tkc]
        refine tkm 7 94 (.tuple #[.agg #[.slice z0a z0n z0c,.slice z1a z1n z1c,.slice z2a z2n z2c,.slice z3a z3n z3c],vz,.int .i64 4]) ?_
        refine tkm 8 102 (.agg #[.slice z0a z0n z0c,.slice z1a z1n z1c,.slice z2a z2n z2c,.slice z3a z3n z3c]) ?_
        refine tkm 9 103 vz ?_
        refine tkm 10 104 (.int .i64 4) ?_
        refine tkz 12 (fun K hK=>?_)
        refine step_store_blkD rfl 30 _ _ rfl Y [.slice z0a z0n z0c,.slice z1a z1n z1c,.slice z2a z2n z2c,.slice z3a z3n z3c] rfl rfl pY (by kernel_rfl) rfl rfl ?_
        intro V8 pY8 g8
        replace bw:=bw.grown g8 bw.size (fun j hj=>by cases hj;omega)
        refine hK.out _ _ (cells_kept bw _ _ cP) (fun hS7=>?_)
        clear hK pY g8 pY8
        try simp only [Act.put,tka,tkb,tkc]
        refine tkm 13 22 vz ?_
        refine tkm 14 23 (.int .i64 4) ?_
        refine wpAnyH_done (by kernel_rfl) ?_ _
        replace cS0:=cells_kept bw _ _ cS0
        replace cS1:=cells_kept bw _ _ cS1
        replace cS2:=cells_kept bw _ _ cS2
        replace cS3:=cells_kept bw _ _ cS3
        replace cR0:=cells_kept bw _ _ cR0
        replace cR1:=cells_kept bw _ _ cR1
        replace cR2:=cells_kept bw _ _ cR2
        replace cR3:=cells_kept bw _ _ cR3
        replace cX0:=cells_kept bw _ _ cX0
        replace cX1:=cells_kept bw _ _ cX1
        replace cX2:=cells_kept bw _ _ cX2
        replace cX3:=cells_kept bw _ _ cX3
        clear hS0
        have k1:=kSR _ (hMs.below bw) (hMr.below bw) (hV.below bw)
        go_wp2_with fail
        refine k1.mono ?_
        rintro e u1 ⟨rfl,hb⟩
        replace bw:=bel_trans bw hb
        replace cS0:=cells_kept hb _ _ cS0
        replace cS1:=cells_kept hb _ _ cS1
        replace cS2:=cells_kept hb _ _ cS2
        replace cS3:=cells_kept hb _ _ cS3
        replace cR0:=cells_kept hb _ _ cR0
        replace cR1:=cells_kept hb _ _ cR1
        replace cR2:=cells_kept hb _ _ cR2
        replace cR3:=cells_kept hb _ _ cR3
        replace cX0:=cells_kept hb _ _ cX0
        replace cX1:=cells_kept hb _ _ cX1
        replace cX2:=cells_kept hb _ _ cX2
        replace cX3:=cells_kept hb _ _ cX3
        clear hb k1
        have k2:=sameBugs_same fa da fs.length fc dc fs _ (hF.below bw) (hD.below bw) (by omega)
        go_wp2_with fail
        refine k2.mono ?_
        rintro e u2 ⟨rfl,hb⟩
        replace bw:=bel_trans bw hb
        replace cS0:=cells_kept hb _ _ cS0
        replace cS1:=cells_kept hb _ _ cS1
        replace cS2:=cells_kept hb _ _ cS2
        replace cS3:=cells_kept hb _ _ cS3
        replace cX0:=cells_kept hb _ _ cX0
        replace cX1:=cells_kept hb _ _ cX1
        replace cX2:=cells_kept hb _ _ cX2
        replace cX3:=cells_kept hb _ _ cX3
        clear hb k2
        have k3:=kXS _ (hMx.below bw) (hMs.below bw) (hV.below bw)
        go_wp2_with fail
        refine k3.mono ?_
        rintro e u3 ⟨rfl,hb⟩
        replace bw:=bel_trans bw hb
        clear hb k3
        go_wp2
        go_ret
        exact ⟨rfl,bel_trans bW bw⟩
       ·have hal:Below U60.heap.size U60 (U60.alloc (.cells #[.int .i64 3] 3)):=by go_grown
        obtain ⟨G,hG⟩:∃ G,G=U60.heap.size:=⟨_,rfl⟩
        have e0:(U60.alloc (.cells #[.int .i64 3] 3)).cell? ⟨G,0,none⟩=some (.int .i64 3):=by subst hG;simp [go_sem]
        have hap:∀ g,Value.ownBlock (.slice (some ⟨V60,0,none⟩) 0 0)=some g→g≠G:=fun g hg e=>by have:=(q.lt g hg).2;omega
        replace q:=owns_below q hal
        replace pY:=pY.below hal
        replace bw:=bel_trans bw hal
        go_simp
        rw [← hG]
        refine hK.out _ _ (cells_kept bw _ _ cP) (fun hS65=>?_)
        clear hK hal
        clear hG
        generalize (U60.alloc (.cells #[.int .i64 3] 3))=U65 at *
        try simp only [Act.put,tka,tkb,tkc]
        refine tkr 3 98 (fun K hK=>?_)
        have hGl:=World.block_lt_of_cell? _ _ e0
        refine step_append_atB rfl _ _ 27 rfl W2.heap.size 3 i0 (.int .i64 0) 1 8 Tryd.underlying27 hi9 hz0 hz1 hz2 rfl (by decide) (.slice (some ⟨V60,0,none⟩) 0 0) 0 [] rfl q ⟨lb,lo,none⟩ i lc (ks.map (Value.int .i64)) rfl (by rw [List.length_map];omega) (ints_news (hL.below bw)) (int_one _) (by unfold maxLen;omega) (by omega) bw.size ?_
        intro v66 U66 q2 gr hob
        replace e0:=cell_grownB gr e0 (fun e=>hap _ e.symm rfl)
        have hap2:∀ g,Value.ownBlock v66=some g→g≠G:=fun g hg e=>by
         rcases hob with hu | hu
         ·exact hap g (hu▸hg) e
         ·rw [hu] at hg
          simp at hg hGl
          omega
        clear hap hGl
        have hap:=hap2
        clear hap2
        replace pY:=pY.kept gr (own_ne_blk q pY (by decide))
        replace bw:=bw.grown gr bw.size (fun g hg=>(q.lt g hg).1)
        refine hK.out _ _ (cells_kept bw _ _ cP) (fun hS66=>?_)
        clear hK q gr hob
        have q:=q2
        clear q2
        try simp only [Act.put,tka,tkb,tkc]
        refine tkr 5 100 (fun K hK=>?_)
        refine step_append_atB rfl _ _ 27 rfl W2.heap.size 3 i0 (.int .i64 0) 1 8 Tryd.underlying27 hi9 hz0 hz1 hz2 rfl (by decide) v66 (0+i) ([]++ks.map (Value.int .i64)) rfl q ⟨G,0,none⟩ 1 1 [.int .i64 3] rfl rfl (int_at e0) (int_one [3]) (by unfold maxLen;omega) (by omega) bw.size ?_
        intro v67 U67 q2 gr hob
        replace pY:=pY.kept gr (own_ne_blk q pY (by decide))
        replace bw:=bw.grown gr bw.size (fun g hg=>(q.lt g hg).1)
        refine hK.out _ _ (cells_kept bw _ _ cP) (fun hS67=>?_)
        clear hK q gr hob
        have q:=q2
        clear q2
        clear e0 hap
        try simp only [Act.put,tka,tkb,tkc]
        refine tkr 6 101 (fun K hK=>?_)
        obtain ⟨g9,c9,rfl⟩:=own_someB q (by omega)
        have hL9:=own_snoc q
        clear q
        generalize 0+i+1=n9 at *
        have kG:=implRunSchedule_is a 3 cap rows (some ⟨g9,0,none⟩) n9 c9 (ks++[3]) _ (hC.below bw) (hV.below bw) hL9
        rw [gB] at kG
        clear hL9
        go_simp
        refine kG.mono ?_
        rintro e U68 ⟨⟨⟨⟨z0a,z0n,z0c⟩,⟨z1a,z1n,z1c⟩,⟨z2a,z2n,z2c⟩,⟨z3a,z3n,z3c⟩⟩,vz,rfl,hOz,qz⟩,hb⟩
        have uz:S4.val ((z0a,z0n,z0c),(z1a,z1n,z1c),(z2a,z2n,z2c),(z3a,z3n,z3c))=.agg #[.slice z0a z0n z0c,.slice z1a z1n z1c,.slice z2a z2n z2c,.slice z3a z3n z3c]:=rfl
        rw [uz]
        clear uz hOz qz kG
        replace pY:=pY.below hb
        replace bw:=bel_trans bw hb
        clear hb
        go_wp2_with fail
        refine hK.out _ _ (cells_kept bw _ _ cP) (fun hS68=>?_)
        clear hK
        try simp only [Act.put,tka,tkb,tkc]
        refine tkm 7 94 (.tuple #[.agg #[.slice z0a z0n z0c,.slice z1a z1n z1c,.slice z2a z2n z2c,.slice z3a z3n z3c],vz,.int .i64 4]) ?_
        refine tkm 8 102 (.agg #[.slice z0a z0n z0c,.slice z1a z1n z1c,.slice z2a z2n z2c,.slice z3a z3n z3c]) ?_
        refine tkm 9 103 vz ?_
        refine tkm 10 104 (.int .i64 4) ?_
        refine tkz 12 (fun K hK=>?_)
        refine step_store_blkD rfl 30 _ _ rfl Y [.slice z0a z0n z0c,.slice z1a z1n z1c,.slice z2a z2n z2c,.slice z3a z3n z3c] rfl rfl pY (by kernel_rfl) rfl rfl ?_
        intro V8 pY8 g8
        replace bw:=bw.grown g8 bw.size (fun j hj=>by cases hj;omega)
        refine hK.out _ _ (cells_kept bw _ _ cP) (fun hS7=>?_)
        clear hK pY g8 pY8
        try simp only [Act.put,tka,tkb,tkc]
        refine tkm 13 22 vz ?_
        refine tkm 14 23 (.int .i64 4) ?_
        refine wpAnyH_done (by kernel_rfl) ?_ _
        replace cS0:=cells_kept bw _ _ cS0
        replace cS1:=cells_kept bw _ _ cS1
        replace cS2:=cells_kept bw _ _ cS2
        replace cS3:=cells_kept bw _ _ cS3
        replace cR0:=cells_kept bw _ _ cR0
        replace cR1:=cells_kept bw _ _ cR1
        replace cR2:=cells_kept bw _ _ cR2
        replace cR3:=cells_kept bw _ _ cR3
        replace cX0:=cells_kept bw _ _ cX0
        replace cX1:=cells_kept bw _ _ cX1
        replace cX2:=cells_kept bw _ _ cX2
        replace cX3:=cells_kept bw _ _ cX3
        clear hS0
        have k1:=kSR _ (hMs.below bw) (hMr.below bw) (hV.below bw)
        go_wp2_with fail
        refine k1.mono ?_
        rintro e u1 ⟨rfl,hb⟩
        replace bw:=bel_trans bw hb
        replace cS0:=cells_kept hb _ _ cS0
        replace cS1:=cells_kept hb _ _ cS1
        replace cS2:=cells_kept hb _ _ cS2
        replace cS3:=cells_kept hb _ _ cS3
        replace cR0:=cells_kept hb _ _ cR0
        replace cR1:=cells_kept hb _ _ cR1
        replace cR2:=cells_kept hb _ _ cR2
        replace cR3:=cells_kept hb _ _ cR3
        replace cX0:=cells_kept hb _ _ cX0
        replace cX1:=cells_kept hb _ _ cX1
        replace cX2:=cells_kept hb _ _ cX2
        replace cX3:=cells_kept hb _ _ cX3
        clear hb k1
        have k2:=sameBugs_same fa da fs.length fc dc fs _ (hF.below bw) (hD.below bw) (by omega)
        go_wp2_with fail
        refine k2.mono ?_
        rintro e u2 ⟨rfl,hb⟩
        replace bw:=bel_trans bw hb
        replace cS0:=cells_kept hb _ _ cS0
        replace cS1:=cells_kept hb _ _ cS1
        replace cS2:=cells_kept hb _ _ cS2
        replace cS3:=cells_kept hb _ _ cS3
        replace cX0:=cells_kept hb _ _ cX0
        replace cX1:=cells_kept hb _ _ cX1
        replace cX2:=cells_kept hb _ _ cX2
        replace cX3:=cells_kept hb _ _ cX3
        clear hb k2
        have k3:=kXS _ (hMx.below bw) (hMs.below bw) (hV.below bw)
        go_wp2_with fail
        refine k3.mono ?_
        rintro e u3 ⟨rfl,hb⟩
        replace bw:=bel_trans bw hb
        clear hb k3
        go_wp2
        go_ret
        exact ⟨rfl,bel_trans bW bw⟩
      ·have hal:Below U59.heap.size U59 (U59.alloc (.cells #[.int .i64 3] 3)):=by go_grown
       obtain ⟨G,hG⟩:∃ G,G=U59.heap.size:=⟨_,rfl⟩
       have e0:(U59.alloc (.cells #[.int .i64 3] 3)).cell? ⟨G,0,none⟩=some (.int .i64 3):=by subst hG;simp [go_sem]
       replace pY:=pY.below hal
       replace bw:=bel_trans bw hal
       go_simp
       rw [← hG]
       refine hK.out _ _ (cells_kept bw _ _ cP) (fun hS69=>?_)
       clear hK hal
       clear hG
       generalize (U59.alloc (.cells #[.int .i64 3] 3))=U69 at *
       try simp only [Act.put,tka,tkb,tkc]
       refine tkr 1 96 (fun K hK=>?_)
       have hal:Below U69.heap.size U69 (U69.alloc (.cells #[] 3)):=by go_grown
       have q:=own_emptyB U69 3 1 W2.heap.size bw.size
       have hap:∀ g,(Value.slice (some ⟨U69.heap.size,0,none⟩) 0 0).ownBlock=some g→g≠G:=fun g hg e=>by have hGl:=World.block_lt_of_cell? _ _ e0;simp [Value.ownBlock] at hg;simp at hGl;omega
       replace e0:=cells_kept hal _ _ e0
       replace pY:=pY.below hal
       replace bw:=bel_trans bw hal
       go_simp
       refine hK.out _ _ (cells_kept bw _ _ cP) (fun hS70=>?_)
       clear hK hal
       generalize U69.heap.size=V70 at *
       generalize (U69.alloc (.cells #[] 3))=U70 at *
       try simp only [Act.put,tka,tkb,tkc]
       refine tkr 3 98 (fun K hK=>?_)
       have hGl:=World.block_lt_of_cell? _ _ e0
       refine step_append_atB rfl _ _ 27 rfl W2.heap.size 3 i0 (.int .i64 0) 1 8 Tryd.underlying27 hi9 hz0 hz1 hz2 rfl (by decide) (.slice (some ⟨V70,0,none⟩) 0 0) 0 [] rfl q ⟨lb,lo,none⟩ i lc (ks.map (Value.int .i64)) rfl (by rw [List.length_map];omega) (ints_news (hL.below bw)) (int_one _) (by unfold maxLen;omega) (by omega) bw.size ?_
       intro v71 U71 q2 gr hob
       replace e0:=cell_grownB gr e0 (fun e=>hap _ e.symm rfl)
       have hap2:∀ g,Value.ownBlock v71=some g→g≠G:=fun g hg e=>by
        rcases hob with hu | hu
        ·exact hap g (hu▸hg) e
        ·rw [hu] at hg
         simp at hg hGl
         omega
       clear hap hGl
       have hap:=hap2
       clear hap2
       replace pY:=pY.kept gr (own_ne_blk q pY (by decide))
       replace bw:=bw.grown gr bw.size (fun g hg=>(q.lt g hg).1)
       refine hK.out _ _ (cells_kept bw _ _ cP) (fun hS71=>?_)
       clear hK q gr hob
       have q:=q2
       clear q2
       try simp only [Act.put,tka,tkb,tkc]
       refine tkr 5 100 (fun K hK=>?_)
       refine step_append_atB rfl _ _ 27 rfl W2.heap.size 3 i0 (.int .i64 0) 1 8 Tryd.underlying27 hi9 hz0 hz1 hz2 rfl (by decide) v71 (0+i) ([]++ks.map (Value.int .i64)) rfl q ⟨G,0,none⟩ 1 1 [.int .i64 3] rfl rfl (int_at e0) (int_one [3]) (by unfold maxLen;omega) (by omega) bw.size ?_
       intro v72 U72 q2 gr hob
       replace pY:=pY.kept gr (own_ne_blk q pY (by decide))
       replace bw:=bw.grown gr bw.size (fun g hg=>(q.lt g hg).1)
       refine hK.out _ _ (cells_kept bw _ _ cP) (fun hS72=>?_)
       clear hK q gr hob
       have q:=q2
       clear q2
       clear e0 hap
       try simp only [Act.put,tka,tkb,tkc]
       refine tkr 6 101 (fun K hK=>?_)
       obtain ⟨g9,c9,rfl⟩:=own_someB q (by omega)
       have hL9:=own_snoc q
       clear q
       generalize 0+i+1=n9 at *
       have kG:=implRunSchedule_is a 3 cap rows (some ⟨g9,0,none⟩) n9 c9 (ks++[3]) _ (hC.below bw) (hV.below bw) hL9
       rw [gB] at kG
       clear hL9
       go_simp
       refine kG.mono ?_
       rintro e U73 ⟨⟨⟨⟨z0a,z0n,z0c⟩,⟨z1a,z1n,z1c⟩,⟨z2a,z2n,z2c⟩,⟨z3a,z3n,z3c⟩⟩,vz,rfl,hOz,qz⟩,hb⟩
       have uz:S4.val ((z0a,z0n,z0c),(z1a,z1n,z1c),(z2a,z2n,z2c),(z3a,z3n,z3c))=.agg #[.slice z0a z0n z0c,.slice z1a z1n z1c,.slice z2a z2n z2c,.slice z3a z3n z3c]:=rfl
       rw [uz]
       clear uz hOz qz kG
       replace pY:=pY.below hb
       replace bw:=bel_trans bw hb
       clear hb
       go_wp2_with fail
       refine hK.out _ _ (cells_kept bw _ _ cP) (fun hS73=>?_)
       clear hK
       try simp only [Act.put,tka,tkb,tkc]
       refine tkm 7 94 (.tuple #[.agg #[.slice z0a z0n z0c,.slice z1a z1n z1c,.slice z2a z2n z2c,.slice z3a z3n z3c],vz,.int .i64 4]) ?_
       refine tkm 8 102 (.agg #[.slice z0a z0n z0c,.slice z1a z1n z1c,.slice z2a z2n z2c,.slice z3a z3n z3c]) ?_
       refine tkm 9 103 vz ?_
       refine tkm 10 104 (.int .i64 4) ?_
       refine tkz 12 (fun K hK=>?_)
       refine step_store_blkD rfl 30 _ _ rfl Y [.slice z0a z0n z0c,.slice z1a z1n z1c,.slice z2a z2n z2c,.slice z3a z3n z3c] rfl rfl pY (by kernel_rfl) rfl rfl ?_
       intro V8 pY8 g8
       replace bw:=bw.grown g8 bw.size (fun j hj=>by cases hj;omega)
       refine hK.out _ _ (cells_kept bw _ _ cP) (fun hS7=>?_)
       clear hK pY g8 pY8
       try simp only [Act.put,tka,tkb,tkc]
       refine tkm 13 22 vz ?_
       refine tkm 14 23 (.int .i64 4) ?_
       refine wpAnyH_done (by kernel_rfl) ?_ _
       replace cS0:=cells_kept bw _ _ cS0
       replace cS1:=cells_kept bw _ _ cS1
       replace cS2:=cells_kept bw _ _ cS2
       replace cS3:=cells_kept bw _ _ cS3
       replace cR0:=cells_kept bw _ _ cR0
       replace cR1:=cells_kept bw _ _ cR1
       replace cR2:=cells_kept bw _ _ cR2
       replace cR3:=cells_kept bw _ _ cR3
       replace cX0:=cells_kept bw _ _ cX0
       replace cX1:=cells_kept bw _ _ cX1
       replace cX2:=cells_kept bw _ _ cX2
       replace cX3:=cells_kept bw _ _ cX3
       clear hS0
       have k1:=kSR _ (hMs.below bw) (hMr.below bw) (hV.below bw)
       go_wp2_with fail
       refine k1.mono ?_
       rintro e u1 ⟨rfl,hb⟩
       replace bw:=bel_trans bw hb
       replace cS0:=cells_kept hb _ _ cS0
       replace cS1:=cells_kept hb _ _ cS1
       replace cS2:=cells_kept hb _ _ cS2
       replace cS3:=cells_kept hb _ _ cS3
       replace cR0:=cells_kept hb _ _ cR0
       replace cR1:=cells_kept hb _ _ cR1
       replace cR2:=cells_kept hb _ _ cR2
       replace cR3:=cells_kept hb _ _ cR3
       replace cX0:=cells_kept hb _ _ cX0
       replace cX1:=cells_kept hb _ _ cX1
       replace cX2:=cells_kept hb _ _ cX2
       replace cX3:=cells_kept hb _ _ cX3
       clear hb k1
       have k2:=sameBugs_same fa da fs.length fc dc fs _ (hF.below bw) (hD.below bw) (by omega)
       go_wp2_with fail
       refine k2.mono ?_
       rintro e u2 ⟨rfl,hb⟩
       replace bw:=bel_trans bw hb
       replace cS0:=cells_kept hb _ _ cS0
       replace cS1:=cells_kept hb _ _ cS1
       replace cS2:=cells_kept hb _ _ cS2
       replace cS3:=cells_kept hb _ _ cS3
       replace cX0:=cells_kept hb _ _ cX0
       replace cX1:=cells_kept hb _ _ cX1
       replace cX2:=cells_kept hb _ _ cX2
       replace cX3:=cells_kept hb _ _ cX3
       clear hb k2
       have k3:=kXS _ (hMx.below bw) (hMs.below bw) (hV.below bw)
       go_wp2_with fail
       refine k3.mono ?_
       rintro e u3 ⟨rfl,hb⟩
       replace bw:=bel_trans bw hb
       clear hb k3
       go_wp2
       go_ret
       exact ⟨rfl,bel_trans bW bw⟩

end Go.Proofs.YtjgffnlmjmibgaaDoor
