/-
  Joined: RowBelow, FalW, Vars.
-/
import Derived.WalkSmall
import Derived.ChangeOld
import Derived.Test.YtifoggpohlegmaaGreatDoorA38
import Derived.Test.YtifoggpohlegmaaGreatDoorA43
import Derived.Test.YtifoggpohlegmaaGreatDoorA48

namespace Go.Proofs.YtifoggpohlegmaaGreatDoor
set_option maxRecDepth 100000
set_option maxHeartbeats 16000000
open Go.RowKit

theorem IsRow.below {k:IntKind} {w w':World} {a:Option Addr} {len cap:Nat} {zs:List Int} (h:IsRow k w a len cap zs) (hb:Below w.heap.size w w'):IsRow k w' a len cap zs:=by
 rcases h with h | ⟨x,h1,h2,h3,h4,h5,h6⟩
 ·exact .inl h
 ·refine .inr ⟨x,h1,h2,h3,h4,fun i hi=>?_,h6⟩
  have hc:=h5 i hi
  have hlt:(x.add i).block<w.heap.size:=by
   rcases Nat.lt_or_ge (x.add i).block w.heap.size with h' | h'
   ·exact h'
   ·simp [World.cell?,Array.getElem?_eq_none h'] at hc
  rw [hb.cell hlt]
  exact hc
theorem IsRow.len_le {k:IntKind} {w:World} {a:Option Addr} {len cap:Nat} {zs:List Int} (h:IsRow k w a len cap zs):len≤maxLen:=by
 rcases h with ⟨_,rfl,_,_⟩ | ⟨x,h1,h2,h3,_⟩
 ·omega
 ·omega
theorem IsRow.drew {k:IntKind} {w:World} {a:Option Addr} {len cap:Nat} {zs:List Int} (h:IsRow k w a len cap zs) (d:Nat):IsRow k (w.drewN d) a len cap zs:=h

set_option linter.unusedVariables false
set_option linter.unusedSimpArgs false

theorem schedule_ints8 (a:Option Addr) (n cap:Nat) (zs:List Int) (aP:Option Addr) (capP:Nat) (rows:List (List I3)) (w:World) (hI:IsRow .u8 w a n cap zs) (hn:n≤1048576) (hP:Codes w aP 3 capP rows) (hok:progOk rows=true) :
  Calls Tryz.prog 11 #[.slice a n cap,.agg #[.slice aP 3 capP]] w fun e w'=>(∃ (lb lo lc k:Nat) (ks:List Int) (m:V4),e=.returned (.slice (some ⟨lb,lo,none⟩) k lc)∧Ints .i64 w' (some ⟨lb,lo,none⟩) k lc ks∧k≤14∧goesTo rows ks m)∧Below w.heap.size w w':=by
 refine (scheduleDrawn_any a n cap zs aP capP rows w hI hn hP hok).mono ?_
 rintro e w' ⟨⟨v,ks,m,⟨g,c,rfl⟩,rfl,q,hl,hg⟩,hb⟩
 exact ⟨⟨g,0,c,ks.length,ks,m,rfl,OwnI.ints (s:=(some ⟨g,0,none⟩,ks.length,c)) q,hl,hg⟩,hb⟩
theorem bugs_cells8 {w:World} {a:Option Addr} {n c:Nat} {xs:List I3} (h:Instrs w a n c xs) {i:Nat} (hi:i<n):∃ b off,a=some ⟨b,off,none⟩∧w.cell? ⟨b,off+i*3,none⟩=some (.int .i64 (xs.getD i (0,0,0)).1)∧w.cell? ⟨b,off+i*3+1,none⟩=some (.int .i64 (xs.getD i (0,0,0)).2.1)∧w.cell? ⟨b,off+i*3+2,none⟩=some (.int .i64 (xs.getD i (0,0,0)).2.2):=by
 obtain ⟨h1,h2,h3,_,h4⟩:=h
 rcases h4 with h4 | ⟨b,off,ha,hl,hc⟩
 ·omega
 ·exact ⟨b,off,ha,hc i hi⟩
theorem enab_got8 (a:Option Addr) (cap:Nat) (rows:List (List I3)) (s:S4) (m:V4) (w:World) (hp:progOk rows=true) (hs:shapeOk m=true) (hC:Codes w a 3 cap rows) (h:Vmem w s m) (hV:VmShape w) :
  Calls Tryz.prog 28 #[.agg #[.slice a 3 cap],s.val] w fun e w'=>(∃ la ln lc,e=.returned (.tuple #[.slice la ln lc,.int .i64 0])∧Ints .i64 w' la ln lc (enabM rows m 3))∧Below w.heap.size w w':=by
 have k:=implEnabledOf_is a 3 cap rows s m w hC h hV
 rw [(enab_fit8 hp hs).1,(enab_fit8 hp hs).2] at k
 refine k.mono ?_
 rintro e w' ⟨⟨⟨la,ln,lc⟩,rfl,hO⟩,hb⟩
 exact ⟨⟨la,ln,lc,rfl,hO.ints⟩,hb⟩

theorem fnAll_walk (a0:Option Addr) (len0 cap0:Nat) (z0:List Int) (a1:Option Addr) (len1 cap1:Nat) (z1:List Int) (w:World) (h0:IsRow .u8 w a0 len0 cap0 z0) (h1:IsRow .u8 w a1 len1 cap1 z1) (hV:VmShape w) :
  Calls Tryz.prog 5 #[.slice a0 len0 cap0,.slice a1 len1 cap1] w fun e w'=>e=.returned (.bool true)∧Below w.heap.size w w':=by
 have m0:=h0.len_le
 have m1:=h1.len_le
 unfold maxLen at m0 m1
 by_cases hb0:1048576<len0
 ·go_enter Tryz.func5,Tryz.ntmps5
  go_wp2
  go_ret
  exact ⟨rfl,Below.refl _ _⟩
 by_cases hb1:1048576<len1
 ·go_enter Tryz.func5,Tryz.ntmps5
  go_wp2
  go_ret
  exact ⟨rfl,Below.refl _ _⟩
 have l0:len0≤1048576:=by omega
 have l1:len1≤1048576:=by omega
 clear hb0 hb1 m0 m1
 have bW:Below w.heap.size w w:=Below.refl _ _
 go_enter Tryz.func5,Tryz.ntmps5
 go_wp2_with fail
 refine (smallDrawn_any _ _ _ z0 _ h0 l0).mono ?_
 rintro e w1 ⟨⟨v,rows,hok,rfl,ho⟩,hb⟩
 have h3:=(progOk_parts hok.1).1
 obtain ⟨a,cap,hv⟩:=ho.slice
 rw [h3] at hv
 subst hv
 have hC:=ho.codes (fun r hr x hx=>okI_fits ((progOk_parts hok.1).2 r hr |>.2 x hx))
 clear ho h0
 replace h1:=h1.below hb
 replace hV:=hV.below hb
 replace bW:=bel_trans bW hb
 clear hb h3
 have HOK:Hid (ProgS rows):=hok
 clear hok
 have ha:Below w1.heap.size w1 (w1.alloc (.cells #[.slice a 3 cap] 25)):=by go_grown
 have cP:(w1.alloc (.cells #[.slice a 3 cap] 25)).cell? ⟨w1.heap.size,0,none⟩=some (.slice a 3 cap):=by simp [go_sem]
 replace h1:=h1.below ha
 replace hV:=hV.below ha
 replace hC:=hC.below ha
 replace bW:=bel_trans bW ha
 clear ha
 go_wp2_with fail
 generalize (w1.alloc (.cells #[.slice a 3 cap] 25))=wp at *
 generalize w1.heap.size=P at *
 obtain ⟨hcf,hfl⟩:=small_all8 HOK.out
 have hko:keysO rows=keysL (fullS rows):=by unfold keysO;rw [if_pos hcf]
 have hbO:bugsO rows=allI rows (fullS rows):=by unfold bugsO;rw [if_pos hcf]
 have kA:=fun (W:World) hC hV=>implAllStates_is a 3 cap rows W hC hV
 have kZ:=fun (W:World) hC=>specAllStates_is a 3 cap rows W hC
 have kB:=fun (W:World) hC hV=>implAllBugs_is a 3 cap rows W hC hV
 have kD:=fun (W:World) hC=>specAllBugs_is a 3 cap rows W hC
 have hfb:=bugsO_ok rows
 rw [hcf,hko] at kA kZ
 rw [hcf,hbO] at kB kD
 rw [hbO] at hfb
 have hn1:0<(keysL (fullS rows)).length:=by rw [keysL_len];exact full_some8 rows
 have hn2:(keysL (fullS rows)).length≤2000:=by rw [keysL_len];exact hfl
 have HK:Hid (∀ x,x<(keysL (fullS rows)).length→∃ m,(keysL (fullS rows)).getD x ByteArray.empty=keyT m∧shapeOk m=true∧m ∈ (fullS rows).map (·.1)):=fun x hx=>keys_at8 HOK.out hx
 have HRn:Hid (∀ (ks:List Int) (m:V4),goesTo rows ks m→ks.length≤14→runC rows ks=0∧∀ y ∈ runF rows ks,hasB (allI rows (fullS rows)) y=true):=fun ks m hg hl=>run_all8 HOK.out hg hl
 obtain ⟨hfb1,hfb2⟩:=hfb
 generalize keysL (fullS rows)=ts at *
 generalize allI rows (fullS rows)=al at *
 clear hcf hfl hko hbO
 refine (kA _ hC hV).mono ?_
 rintro e w2 ⟨⟨v,rfl,q⟩,hb⟩
 obtain ⟨ka,kc,rfl,hT⟩:=OwnT.of_owns q
 have hTs:=hT.strs
 replace bW:=bel_trans bW hb
 replace cP:=cells_kept hb _ _ cP
 replace h1:=h1.below hb
 replace hC:=hC.below hb
 replace hV:=hV.below hb
 clear hb q hT kA
 go_wp2_with fail
 refine (kZ _ hC).mono ?_
 rintro e w3 ⟨⟨v,rfl,q⟩,hb⟩
 obtain ⟨za,zc,rfl,hT⟩:=OwnT.of_owns q
 have hZs:=hT.strs
 replace bW:=bel_trans bW hb
 replace cP:=cells_kept hb _ _ cP
 replace h1:=h1.below hb
 replace hC:=hC.below hb
 replace hV:=hV.below hb
 replace hTs:=hTs.below hb
 clear hb q hT kZ
 have hn0:((ts.length:Int) == 0)=false:=by rw [beq_eq_false_iff_ne];omega
 have hn9:¬ ((ts.length:Int)=0):=by omega
 go_wp2_with fail
 refine (sameTexts_one ka za ts.length kc zc ts _ hTs hZs).mono ?_
 rintro e w4 ⟨rfl,d,rfl⟩
 have hb:Below w3.heap.size w3 (w3.drewN d):=below_drewN (Below.refl _ _) d
 replace bW:=bel_trans bW hb
 replace cP:=cells_kept hb _ _ cP
 replace h1:=h1.below hb
 replace hC:=hC.below hb
 replace hV:=hV.below hb
 replace hTs:=hTs.below hb
 clear hb hZs
 generalize w3.drewN d=w4 at *
 go_wp2_with fail
 refine (at_any _ _ _ z1 0 (ts.length:Int) _ h1 l1 (by omega) (by omega) (by omega)).mono ?_
 rintro e w5 ⟨⟨x,hx,rfl⟩,d,rfl⟩
 have hb:Below w4.heap.size w4 (w4.drewN d):=below_drewN (Below.refl _ _) d
 replace bW:=bel_trans bW hb
 replace cP:=cells_kept hb _ _ cP
 replace h1:=h1.below hb
 replace hC:=hC.below hb
 replace hV:=hV.below hb
 replace hTs:=hTs.below hb
 clear hb
 generalize w4.drewN d=w5 at *
 have hxl:x<ts.length:=by omega
 obtain ⟨m,hmk,hms,hmm⟩:=HK.out x hxl
 obtain ⟨_,_,_,hT4⟩:=hTs
 rcases hT4 with h9 | ⟨kb,ko,rfl,hkb,hkc⟩
 ·omega
 have ck:=hkc x hxl
 rw [hmk] at ck
 clear hkc hkb
 have hx0:(0:Int)≤(x:Int):=by omega
 have hxl':(x:Int)<(ts.length:Int):=by omega
 have HS:Hid (∀ i,i<(enabM rows m 3).length→∃ z,stepZ rows m ((enabM rows m 3).getD i 0)=z∧stepC rows m ((enabM rows m 3).getD i 0)=0∧shapeOk z=true∧keyA z=keyT z∧keyC z=0∧reachV rows (keyT z)=true∧reachC rows (keyT z)=0):=fun i hi=>step_all8 HOK.out hmm hms hi
 clear hmm hmk hx HK hn0 hn9
 go_wp2_with fail
 refine (implVmOf_key8 hms _ hV).mono ?_
 rintro e w6 ⟨⟨⟨⟨s0a,s0n,s0c⟩,⟨s1a,s1n,s1c⟩,⟨s2a,s2n,s2c⟩,⟨s3a,s3n,s3c⟩⟩,rfl,hO⟩,hb⟩
 have us:S4.val ((s0a,s0n,s0c),(s1a,s1n,s1c),(s2a,s2n,s2c),(s3a,s3n,s3c))=.agg #[.slice s0a s0n s0c,.slice s1a s1n s1c,.slice s2a s2n s2c,.slice s3a s3n s3c]:=rfl
 rw [us]
 have fm:=(shape_fits9 hms).1
 have hMs:=hO.mem fm
 replace bW:=bel_trans bW hb
 replace cP:=cells_kept hb _ _ cP
 replace h1:=h1.below hb
 replace hC:=hC.below hb
 replace hV:=hV.below hb
 clear hb hO ck fm
 have ha:Below w6.heap.size w6 (w6.alloc (.cells #[.slice s0a s0n s0c,.slice s1a s1n s1c,.slice s2a s2n s2c,.slice s3a s3n s3c] 33)):=by go_grown
 have cS0:(w6.alloc (.cells #[.slice s0a s0n s0c,.slice s1a s1n s1c,.slice s2a s2n s2c,.slice s3a s3n s3c] 33)).cell? ⟨w6.heap.size,0,none⟩=some (.slice s0a s0n s0c):=by simp [go_sem]
 have cS1:(w6.alloc (.cells #[.slice s0a s0n s0c,.slice s1a s1n s1c,.slice s2a s2n s2c,.slice s3a s3n s3c] 33)).cell? ⟨w6.heap.size,1,none⟩=some (.slice s1a s1n s1c):=by simp [go_sem]
 have cS2:(w6.alloc (.cells #[.slice s0a s0n s0c,.slice s1a s1n s1c,.slice s2a s2n s2c,.slice s3a s3n s3c] 33)).cell? ⟨w6.heap.size,2,none⟩=some (.slice s2a s2n s2c):=by simp [go_sem]
 have cS3:(w6.alloc (.cells #[.slice s0a s0n s0c,.slice s1a s1n s1c,.slice s2a s2n s2c,.slice s3a s3n s3c] 33)).cell? ⟨w6.heap.size,3,none⟩=some (.slice s3a s3n s3c):=by simp [go_sem]
 replace bW:=bel_trans bW ha
 replace cP:=cells_kept ha _ _ cP
 replace h1:=h1.below ha
 replace hC:=hC.below ha
 replace hV:=hV.below ha
 replace hMs:=hMs.below ha
 clear ha
 go_wp2_with fail
 generalize (w6.alloc (.cells #[.slice s0a s0n s0c,.slice s1a s1n s1c,.slice s2a s2n s2c,.slice s3a s3n s3c] 33))=W6 at *
 generalize w6.heap.size=GS at *
 have kE:=fun (W:World) hC hM hV=>enab_got8 a cap rows ((s0a,s0n,s0c),(s1a,s1n,s1c),(s2a,s2n,s2c),(s3a,s3n,s3c)) m W HOK.out.1 hms hC hM hV
 have kT:=fun (k:Int) (W:World) hC hM hV=>implStepVm_is a 3 cap rows ((s0a,s0n,s0c),(s1a,s1n,s1c),(s2a,s2n,s2c),(s3a,s3n,s3c)) m k W hC hM hV
 rw [us] at kE kT
 have hen:=enabM_len rows m 3
 generalize enabM rows m 3=ls at *
 clear us
 refine (kE _ hC hMs hV).mono ?_
 rintro e w7 ⟨⟨la,ln,lc,rfl,hL⟩,hb⟩
 replace bW:=bel_trans bW hb
 replace cP:=cells_kept hb _ _ cP
 replace h1:=h1.below hb
 replace hC:=hC.below hb
 replace hV:=hV.below hb
 replace hMs:=hMs.below hb
 replace cS0:=cells_kept hb _ _ cS0
 replace cS1:=cells_kept hb _ _ cS1
 replace cS2:=cells_kept hb _ _ cS2
 replace cS3:=cells_kept hb _ _ cS3
 clear hb kE
 have hl9:=hL.1
 have hl8:ln≤1000:=by omega
 go_wp2_with fail
 go_loopw [14] (fun si wz=>∃ k:Nat,k≤ln∧si=.int .i64 k∧Below w7.heap.size w7 wz) (fun si _=>ln - (intOf si).toNat)
 case atStart=>exact ⟨0,by omega,rfl,Below.refl _ _⟩
 case round =>
  obtain ⟨i,hi,rfl,bw⟩:=hrel
  by_cases hlt:i<ln
  ·obtain ⟨lb,lo,rfl,hc,hlb⟩:=ints_cellE hL hlt
   obtain ⟨z,eZ,eC,hz,eK,eKc,eR,eRc⟩:=HS.out i (by omega)
   have hlt':(i:Int)<(ln:Int):=by omega
   have hi0:(0:Int)≤(i:Int):=by omega
   have kTx:=fun (W:World) (b:Below w7.heap.size w7 W)=>kT (ls.getD i 0) W (hC.below b) (hMs.below b) (hV.below b)
   rw [eZ,eC] at kTx
   have fz:=(shape_fits9 hz).1
   have kK:=fun (t:S4) (W:World) (b:Below w7.heap.size w7 W) (h:Vmem W t z)=>implKeyOf_is t z W h (hV.below b)
   rw [eK,eKc] at kK
   have kI:=fun (W:World) (b:Below w7.heap.size w7 W)=>implIsReached_is a 3 cap rows (keyT z) W (hC.below b) (hV.below b)
   rw [eR,eRc] at kI
   clear eZ eC eK eKc eR eRc hlb hz kT
   generalize ls.getD i 0=kk at *
   generalize stepF rows m kk=fd at *
   generalize keyT z=kz at *
   go_wp2_with fail
   refine wp_region_held_drew (S:=(fun w'=>w'.cell? ⟨P,0,none⟩=some (.slice a 3 cap)∧w'.cell? ⟨GS,0,none⟩=some (.slice s0a s0n s0c)∧w'.cell? ⟨GS,1,none⟩=some (.slice s1a s1n s1c)∧w'.cell? ⟨GS,2,none⟩=some (.slice s2a s2n s2c)∧w'.cell? ⟨GS,3,none⟩=some (.slice s3a s3n s3c)∧w'.cell? ⟨lb,lo+i,none⟩=some (.int .i64 kk))) (by kernel_rfl) ⟨cells_kept bw _ _ cP,cells_kept bw _ _ cS0,cells_kept bw _ _ cS1,cells_kept bw _ _ cS2,cells_kept bw _ _ cS3,cells_kept bw _ _ hc⟩ (fun hS0=>?_)
   refine tkm 0 87 (.agg #[.slice a 3 cap]) ?_
   refine tkm 1 88 (.agg #[.slice s0a s0n s0c,.slice s1a s1n s1c,.slice s2a s2n s2c,.slice s3a s3n s3c]) ?_
   refine tkm 2 89 (.slice (some ⟨lb,lo,none⟩) ln lc) ?_
   refine tkm 3 90 (.int .i64 (i:Int)) ?_
   refine tkm 4 91 (.pointer (some ⟨lb,lo+i,none⟩)) ?_
   refine tkm 5 92 (.int .i64 kk) ?_
   replace bw:=bel_trans bw (show Below wr.heap.size wr wr.drew by go_grown)
   generalize wr.drew=Y0 at *
   refine wpAnyH_ready (rs:=[6,11]) (by kernel_rfl) (by simp) ?_
   refine AllReadyH.cons (o:=⟨some 93,_,_,_,_,_⟩) rfl (fun K hK=>?_) (AllReadyH.cons (o:=⟨some 15,_,_,_,_,_⟩) rfl (fun K hK=>?_) AllReadyH.nil)
   ·have kFx:=kTx _ bw
    go_simp
    refine kFx.mono ?_
    rintro e Y1 ⟨⟨⟨⟨z0a,z0n,z0c⟩,⟨z1a,z1n,z1c⟩,⟨z2a,z2n,z2c⟩,⟨z3a,z3n,z3c⟩⟩,rfl,hO2⟩,hb⟩
    have uz:S4.val ((z0a,z0n,z0c),(z1a,z1n,z1c),(z2a,z2n,z2c),(z3a,z3n,z3c))=.agg #[.slice z0a z0n z0c,.slice z1a z1n z1c,.slice z2a z2n z2c,.slice z3a z3n z3c]:=rfl
    rw [uz]
    replace bw:=bel_trans bw hb
    clear hb kFx kTx
    go_wp2_with fail
    refine hK.out _ _ ⟨cells_kept bw _ _ cP,cells_kept bw _ _ cS0,cells_kept bw _ _ cS1,cells_kept bw _ _ cS2,cells_kept bw _ _ cS3,cells_kept bw _ _ hc⟩ (fun hS5=>?_)
    clear hK
    try simp only [Act.put,tka,tkb,tkc]
    refine tkm 7 86 (.tuple #[.agg #[.slice z0a z0n z0c,.slice z1a z1n z1c,.slice z2a z2n z2c,.slice z3a z3n z3c],.int .i64 fd,.int .i64 0]) ?_
    refine tkm 8 94 (.agg #[.slice z0a z0n z0c,.slice z1a z1n z1c,.slice z2a z2n z2c,.slice z3a z3n z3c]) ?_
    refine tkm 9 95 (.int .i64 fd) ?_
    refine tkm 10 96 (.int .i64 0) ?_
    refine tkr 11 15 (fun K hK=>?_)
    have hb:Below Y1.heap.size Y1 (Y1.alloc (.cells #[.slice none 0 0,.slice none 0 0,.slice none 0 0,.slice none 0 0] 33)):=by go_grown
    have pY:Blk (Y1.alloc (.cells #[.slice none 0 0,.slice none 0 0,.slice none 0 0,.slice none 0 0] 33)) Y1.heap.size 33 [.slice none 0 0,.slice none 0 0,.slice none 0 0,.slice none 0 0]:=blkAt _ _ _ rfl
    have hYw:w7.heap.size≤Y1.heap.size:=bw.size
    replace bw:=bel_trans bw hb
    replace hO2:=hO2.below hb
    go_simp
    refine hK.out _ _ ⟨cells_kept bw _ _ cP,cells_kept bw _ _ cS0,cells_kept bw _ _ cS1,cells_kept bw _ _ cS2,cells_kept bw _ _ cS3,cells_kept bw _ _ hc⟩ (fun hS6=>?_)
    clear hK hb
    generalize (Y1.alloc (.cells #[.slice none 0 0,.slice none 0 0,.slice none 0 0,.slice none 0 0] 33))=Y2 at *
    generalize Y1.heap.size=Y at *
    try simp only [Act.put,tka,tkb,tkc]
    refine tkz 12 (fun K hK=>?_)
    refine step_store_blkD rfl 33 _ _ rfl Y [.slice z0a z0n z0c,.slice z1a z1n z1c,.slice z2a z2n z2c,.slice z3a z3n z3c] rfl rfl pY (by kernel_rfl) rfl rfl ?_
    intro V8 pY8 g8
    replace hO2:=hO2.kept9 g8 pY (by decide)
    replace bw:=bw.grown g8 bw.size (fun j hj=>by cases hj;exact hYw)
    refine hK.out _ _ ⟨cells_kept bw _ _ cP,cells_kept bw _ _ cS0,cells_kept bw _ _ cS1,cells_kept bw _ _ cS2,cells_kept bw _ _ cS3,cells_kept bw _ _ hc⟩ (fun hS7=>?_)
    clear hK pY g8
    have pY:=pY8.out
    clear pY8
    try simp only [Act.put,tka,tkb,tkc]
    refine tkm 13 16 (.int .i64 fd) ?_
    refine tkm 14 17 (.int .i64 0) ?_
    refine wpAnyH_done (by kernel_rfl) ?_ _
    clear hS0 hS5 hS6 hS7
    have kKx:=kK ((z0a,z0n,z0c),(z1a,z1n,z1c),(z2a,z2n,z2c),(z3a,z3n,z3c)) _ bw (hO2.mem fz)
    rw [uz] at kKx
    clear uz kK
    go_wp2_with (first | refine wpList_load_blk rfl 33 _ rfl Y rfl pY _ Tryz.underlying33 rfl (by kernel_rfl) ?_)
    refine kKx.mono ?_
    rintro e V9 ⟨rfl,hb⟩
    replace bw:=bel_trans bw hb
    clear hb kKx pY hO2
    have cPx:=cells_kept bw _ _ cP
    have kIx:=kI _ bw
    clear kI
    go_wp2_with fail
    refine kIx.mono ?_
    rintro e Vx ⟨rfl,hb⟩
    replace bw:=bel_trans bw hb
    clear hb kIx cPx
    go_wp2
    go_roundw
    case rel=>exact ⟨i+1,by omega,by go_num,bw⟩
    case measure=>simp [intOf];omega
   ·have hb:Below Y0.heap.size Y0 (Y0.alloc (.cells #[.slice none 0 0,.slice none 0 0,.slice none 0 0,.slice none 0 0] 33)):=by go_grown
    have pY:Blk (Y0.alloc (.cells #[.slice none 0 0,.slice none 0 0,.slice none 0 0,.slice none 0 0] 33)) Y0.heap.size 33 [.slice none 0 0,.slice none 0 0,.slice none 0 0,.slice none 0 0]:=blkAt _ _ _ rfl
    have hYw:w7.heap.size≤Y0.heap.size:=bw.size
    replace bw:=bel_trans bw hb
    go_simp
    refine hK.out _ _ ⟨cells_kept bw _ _ cP,cells_kept bw _ _ cS0,cells_kept bw _ _ cS1,cells_kept bw _ _ cS2,cells_kept bw _ _ cS3,cells_kept bw _ _ hc⟩ (fun hS6=>?_)
    clear hK hb
    generalize (Y0.alloc (.cells #[.slice none 0 0,.slice none 0 0,.slice none 0 0,.slice none 0 0] 33))=Y2 at *
    generalize Y0.heap.size=Y at *
    try simp only [Act.put,tka,tkb,tkc]
    refine tkr 6 93 (fun K hK=>?_)
    have kFx:=kTx _ bw
    go_simp
    refine kFx.mono ?_
    rintro e Y3 ⟨⟨⟨⟨z0a,z0n,z0c⟩,⟨z1a,z1n,z1c⟩,⟨z2a,z2n,z2c⟩,⟨z3a,z3n,z3c⟩⟩,rfl,hO2⟩,hb⟩
    have uz:S4.val ((z0a,z0n,z0c),(z1a,z1n,z1c),(z2a,z2n,z2c),(z3a,z3n,z3c))=.agg #[.slice z0a z0n z0c,.slice z1a z1n z1c,.slice z2a z2n z2c,.slice z3a z3n z3c]:=rfl
    rw [uz]
    replace bw:=bel_trans bw hb
    replace pY:=pY.below hb
    clear hb kFx kTx
    go_wp2_with fail
    refine hK.out _ _ ⟨cells_kept bw _ _ cP,cells_kept bw _ _ cS0,cells_kept bw _ _ cS1,cells_kept bw _ _ cS2,cells_kept bw _ _ cS3,cells_kept bw _ _ hc⟩ (fun hS5=>?_)
    clear hK
    try simp only [Act.put,tka,tkb,tkc]
    refine tkm 7 86 (.tuple #[.agg #[.slice z0a z0n z0c,.slice z1a z1n z1c,.slice z2a z2n z2c,.slice z3a z3n z3c],.int .i64 fd,.int .i64 0]) ?_
    refine tkm 8 94 (.agg #[.slice z0a z0n z0c,.slice z1a z1n z1c,.slice z2a z2n z2c,.slice z3a z3n z3c]) ?_
    refine tkm 9 95 (.int .i64 fd) ?_
    refine tkm 10 96 (.int .i64 0) ?_
    refine tkz 12 (fun K hK=>?_)
    refine step_store_blkD rfl 33 _ _ rfl Y [.slice z0a z0n z0c,.slice z1a z1n z1c,.slice z2a z2n z2c,.slice z3a z3n z3c] rfl rfl pY (by kernel_rfl) rfl rfl ?_
    intro V8 pY8 g8
    replace hO2:=hO2.kept9 g8 pY (by decide)
    replace bw:=bw.grown g8 bw.size (fun j hj=>by cases hj;exact hYw)
    refine hK.out _ _ ⟨cells_kept bw _ _ cP,cells_kept bw _ _ cS0,cells_kept bw _ _ cS1,cells_kept bw _ _ cS2,cells_kept bw _ _ cS3,cells_kept bw _ _ hc⟩ (fun hS7=>?_)
    clear hK pY g8
    have pY:=pY8.out
    clear pY8
    try simp only [Act.put,tka,tkb,tkc]
    refine tkm 13 16 (.int .i64 fd) ?_
    refine tkm 14 17 (.int .i64 0) ?_
    refine wpAnyH_done (by kernel_rfl) ?_ _
    clear hS0 hS5 hS6 hS7
    have kKx:=kK ((z0a,z0n,z0c),(z1a,z1n,z1c),(z2a,z2n,z2c),(z3a,z3n,z3c)) _ bw (hO2.mem fz)
    rw [uz] at kKx
    clear uz kK
    go_wp2_with (first | refine wpList_load_blk rfl 33 _ rfl Y rfl pY _ Tryz.underlying33 rfl (by kernel_rfl) ?_)
    refine kKx.mono ?_
    rintro e V9 ⟨rfl,hb⟩
    replace bw:=bel_trans bw hb
    clear hb kKx pY hO2
    have cPx:=cells_kept bw _ _ cP
    have kIx:=kI _ bw
    clear kI
    go_wp2_with fail
    refine kIx.mono ?_
    rintro e Vx ⟨rfl,hb⟩
    replace bw:=bel_trans bw hb
    clear hb kIx cPx
    go_wp2
    go_roundw
    case rel=>exact ⟨i+1,by omega,by go_num,bw⟩
    case measure=>simp [intOf];omega
  ·obtain rfl:i=ln:=by omega
   replace bW:=bel_trans bW bw
   replace cP:=cells_kept bw _ _ cP
   replace h1:=h1.below bw
   replace hC:=hC.below bw
   replace hV:=hV.below bw
   clear bw hL hl9 hMs cS0 cS1 cS2 cS3 HS kT hms
   generalize wr=V0 at *
   go_wp2_with fail
   refine (kB _ hC hV).mono ?_
   rintro e V1 ⟨⟨v,rfl,q⟩,hb⟩
   obtain ⟨fa,fc,rfl,hF,_⟩:=bugs_sliceR q hfb1
   replace bW:=bel_trans bW hb
   replace cP:=cells_kept hb _ _ cP
   replace h1:=h1.below hb
   replace hC:=hC.below hb
   replace hV:=hV.below hb
   clear hb q kB
   go_wp2_with fail
   refine (kD _ hC).mono ?_
   rintro e V2 ⟨⟨v,rfl,q⟩,hb⟩
   obtain ⟨da,dc,rfl,hD,_⟩:=bugs_sliceR q hfb1
   replace bW:=bel_trans bW hb
   replace cP:=cells_kept hb _ _ cP
   replace h1:=h1.below hb
   replace hC:=hC.below hb
   replace hV:=hV.below hb
   replace hF:=hF.below hb
   clear hb q kD hfb1
   have bw:Below V2.heap.size V2 V2:=Below.refl _ _
   go_wp2_with fail
   refine wp_region_held_drew (S:=(fun w'=>w'.cell? ⟨P,0,none⟩=some (.slice a 3 cap))) (by kernel_rfl) (cells_kept bw _ _ cP) (fun hS0=>?_)
   refine tkm 0 133 (.agg #[.slice a 3 cap]) ?_
   refine tkm 1 134 (.slice a1 len1 cap1) ?_
   refine tkm 2 135 (.agg #[.slice a 3 cap]) ?_
   replace bw:=bel_trans bw (show Below V2.heap.size V2 V2.drew by go_grown)
   generalize V2.drew=U0 at *
   refine wpAnyH_ready (rs:=[3,9]) (by kernel_rfl) (by simp) ?_
   refine AllReadyH.cons (o:=⟨some 136,_,_,_,_,_⟩) rfl (fun K hK=>?_) (AllReadyH.cons (o:=⟨some 26,_,_,_,_,_⟩) rfl (fun K hK=>?_) AllReadyH.nil)
   ·go_simp
    refine (schedule_ints8 _ _ _ z1 a cap rows _ (h1.below bw) l1 (hC.below bw) HOK.out.1).mono ?_
    rintro e U1 ⟨⟨lb,lo,lc,n,ks,gm,rfl,hL,hn14,hg⟩,hb⟩
    replace bw:=bel_trans bw hb
    clear hb
    have HG:Hid (goesTo rows ks gm):=hg
    clear hg
    go_wp2_with fail
    refine hK.out _ _ (cells_kept bw _ _ cP) (fun hS1=>?_)
    clear hK
    try simp only [Act.put,tka,tkb,tkc]
    refine wpAnyH_ready (rs:=[4,9]) (by kernel_rfl) (by simp) ?_
    refine AllReadyH.cons (o:=⟨some 137,_,_,_,_,_⟩) rfl (fun K hK=>?_) (AllReadyH.cons (o:=⟨some 26,_,_,_,_,_⟩) rfl (fun K hK=>?_) AllReadyH.nil)
    ·have hlr:=HRn.out ks gm HG.out (by have:=hL.1;omega)
     have kR:=implRunSchedule_is a 3 cap rows (some ⟨lb,lo,none⟩) n lc ks _ (hC.below bw) (hV.below bw) hL
     rw [hlr.1] at kR
     have HH:Hid (∀ y ∈ runF rows ks,hasB al y=true):=hlr.2
     have hff:∀ x ∈ runF rows ks,I3.fits x:=fun x hx=>okB_fitsQ ((runF_ok rows ks).1 x hx)
     have hfs:=(runF_ok rows ks).2
     clear hlr HG
     generalize runF rows ks=fs at *
     generalize runZ rows ks=rz at *
     go_simp
     refine kR.mono ?_
     rintro e U2 ⟨⟨⟨⟨z0a,z0n,z0c⟩,⟨z1a,z1n,z1c⟩,⟨z2a,z2n,z2c⟩,⟨z3a,z3n,z3c⟩⟩,vz,rfl,hOz,qz⟩,hb⟩
     have uz:S4.val ((z0a,z0n,z0c),(z1a,z1n,z1c),(z2a,z2n,z2c),(z3a,z3n,z3c))=.agg #[.slice z0a z0n z0c,.slice z1a z1n z1c,.slice z2a z2n z2c,.slice z3a z3n z3c]:=rfl
     rw [uz]
     obtain ⟨ra,rc,rfl,_,_⟩:=bugs_sliceR qz hff
     clear uz hOz kR hL
     replace bw:=bel_trans bw hb
     clear hb
     go_wp2_with fail
     refine hK.out _ _ (cells_kept bw _ _ cP) (fun hS2=>?_)
     clear hK
     try simp only [Act.put,tka,tkb,tkc]
     refine tkm 5 132 (.tuple #[.agg #[.slice z0a z0n z0c,.slice z1a z1n z1c,.slice z2a z2n z2c,.slice z3a z3n z3c],.slice ra fs.length rc,.int .i64 0]) ?_
     refine tkm 6 138 (.agg #[.slice z0a z0n z0c,.slice z1a z1n z1c,.slice z2a z2n z2c,.slice z3a z3n z3c]) ?_
     refine tkm 7 139 (.slice ra fs.length rc) ?_
     refine tkm 8 140 (.int .i64 0) ?_
     refine tkr 9 26 (fun K hK=>?_)
     have hal:Below U2.heap.size U2 (U2.alloc (.cells #[.slice none 0 0,.slice none 0 0,.slice none 0 0,.slice none 0 0] 33)):=by go_grown
     obtain ⟨Y,hY⟩:∃ Y,Y=U2.heap.size:=⟨_,rfl⟩
     have pY:Blk (U2.alloc (.cells #[.slice none 0 0,.slice none 0 0,.slice none 0 0,.slice none 0 0] 33)) Y 33 [.slice none 0 0,.slice none 0 0,.slice none 0 0,.slice none 0 0]:=blkAt _ _ _ hY
     have hYw:V2.heap.size≤Y:=by rw [hY];exact bw.size
     replace bw:=bel_trans bw hal
     replace qz:=owns_below qz hal
     go_simp
     rw [← hY]
     refine hK.out _ _ (cells_kept bw _ _ cP) (fun hS3=>?_)
     clear hK hal hY
     generalize (U2.alloc (.cells #[.slice none 0 0,.slice none 0 0,.slice none 0 0,.slice none 0 0] 33))=U3 at *
     try simp only [Act.put,tka,tkb,tkc]
     refine tkz 10 (fun K hK=>?_)
     refine step_store_blkD rfl 33 _ _ rfl Y [.slice z0a z0n z0c,.slice z1a z1n z1c,.slice z2a z2n z2c,.slice z3a z3n z3c] rfl rfl pY (by kernel_rfl) rfl rfl ?_
     intro V8 pY8 g8
     replace bw:=bw.grown g8 bw.size (fun j hj=>by cases hj;exact hYw)
     have hR:=instrs_rowS (World.ownsRow.kept qz g8 (.inr (own_ne_blk qz pY (by decide)))) hff
     refine hK.out _ _ (cells_kept bw _ _ cP) (fun hS7=>?_)
     clear hK pY g8 pY8 qz hff hYw
     try simp only [Act.put,tka,tkb,tkc]
     refine tkm 11 27 (.slice ra fs.length rc) ?_
     refine tkm 12 28 (.int .i64 0) ?_
     refine wpAnyH_done (by kernel_rfl) ?_ _
     replace hF:=hF.below bw
     replace hD:=hD.below bw
     replace bW:=bel_trans bW bw
     clear bw hC hV h1 cP hS7 hS0 HRn
     go_wp2_with fail
     go_loopw [29] (fun si wz=>∃ k:Nat,k≤fs.length∧si=.int .i64 k∧Below V8.heap.size V8 wz) (fun si _=>fs.length - (intOf si).toNat)
     case atStart=>exact ⟨0,by omega,rfl,Below.refl _ _⟩
     case round =>
      obtain ⟨k,hk,rfl,bz⟩:=hrel
      by_cases hlt2:k<fs.length
      ·obtain ⟨fb,fo,rfl,c0,c1,c2⟩:=bugs_cells8 hR hlt2
       have hlt':(k:Int)<(fs.length:Int):=by omega
       have hk0:(0:Int)≤(k:Int):=by omega
       have hy:=HH.out _ (getD_memF hlt2)
       have kH:=hasBug_is fa al.length fc al (fs.getD k (0,0,0)) wr (hF.below bz) (by omega)
       rw [hy] at kH
       clear hy
       generalize fs.getD k (0,0,0)=y at *
       obtain ⟨y0,y1,y2⟩:=y
       have uy:I3.val (y0,y1,y2)=.agg #[.int .i64 y0,.int .i64 y1,.int .i64 y2]:=rfl
       rw [uy] at kH
       simp only at c0 c1 c2
       clear uy
       replace c0:=cells_kept bz _ _ c0
       replace c1:=cells_kept bz _ _ c1
       replace c2:=cells_kept bz _ _ c2
       go_wp2_with fail
       refine kH.mono ?_
       rintro e Z1 ⟨rfl,hb⟩
       replace bz:=bel_trans bz hb
       clear hb kH
       go_wp2
       go_roundw
       case rel=>exact ⟨k+1,by omega,by go_num,bz⟩
       case measure=>simp [intOf];omega
      ·obtain rfl:k=fs.length:=by omega
       have kM:=sameBugs_same fa da al.length fc dc al wr (hF.below bz) (hD.below bz) (by omega)
       replace bW:=bel_trans bW bz
       go_wp2_with fail
       refine kM.mono ?_
       rintro e Z1 ⟨rfl,hb⟩
       replace bW:=bel_trans bW hb
       clear hb kM
       go_wp2
       go_ret
       exact ⟨rfl,bW⟩
    ·have hal:Below U1.heap.size U1 (U1.alloc (.cells #[.slice none 0 0,.slice none 0 0,.slice none 0 0,.slice none 0 0] 33)):=by go_grown
     obtain ⟨Y,hY⟩:∃ Y,Y=U1.heap.size:=⟨_,rfl⟩
     have pY:Blk (U1.alloc (.cells #[.slice none 0 0,.slice none 0 0,.slice none 0 0,.slice none 0 0] 33)) Y 33 [.slice none 0 0,.slice none 0 0,.slice none 0 0,.slice none 0 0]:=blkAt _ _ _ hY
     have hYw:V2.heap.size≤Y:=by rw [hY];exact bw.size
     replace bw:=bel_trans bw hal
     replace hL:=hL.below hal
     go_simp
     rw [← hY]
     refine hK.out _ _ (cells_kept bw _ _ cP) (fun hS3=>?_)
     clear hK hal hY
     generalize (U1.alloc (.cells #[.slice none 0 0,.slice none 0 0,.slice none 0 0,.slice none 0 0] 33))=U4 at *
     try simp only [Act.put,tka,tkb,tkc]
     refine tkr 4 137 (fun K hK=>?_)
     have hlr:=HRn.out ks gm HG.out (by have:=hL.1;omega)
     have kR:=implRunSchedule_is a 3 cap rows (some ⟨lb,lo,none⟩) n lc ks _ (hC.below bw) (hV.below bw) hL
     rw [hlr.1] at kR
     have HH:Hid (∀ y ∈ runF rows ks,hasB al y=true):=hlr.2
     have hff:∀ x ∈ runF rows ks,I3.fits x:=fun x hx=>okB_fitsQ ((runF_ok rows ks).1 x hx)
     have hfs:=(runF_ok rows ks).2
     clear hlr HG
     generalize runF rows ks=fs at *
     generalize runZ rows ks=rz at *
     go_simp
     refine kR.mono ?_
     rintro e U5 ⟨⟨⟨⟨z0a,z0n,z0c⟩,⟨z1a,z1n,z1c⟩,⟨z2a,z2n,z2c⟩,⟨z3a,z3n,z3c⟩⟩,vz,rfl,hOz,qz⟩,hb⟩
     have uz:S4.val ((z0a,z0n,z0c),(z1a,z1n,z1c),(z2a,z2n,z2c),(z3a,z3n,z3c))=.agg #[.slice z0a z0n z0c,.slice z1a z1n z1c,.slice z2a z2n z2c,.slice z3a z3n z3c]:=rfl
     rw [uz]
     obtain ⟨ra,rc,rfl,_,_⟩:=bugs_sliceR qz hff
     clear uz hOz kR hL
     replace pY:=pY.below hb
     replace bw:=bel_trans bw hb
     clear hb
     go_wp2_with fail
     refine hK.out _ _ (cells_kept bw _ _ cP) (fun hS2=>?_)
     clear hK
     try simp only [Act.put,tka,tkb,tkc]
     refine tkm 5 132 (.tuple #[.agg #[.slice z0a z0n z0c,.slice z1a z1n z1c,.slice z2a z2n z2c,.slice z3a z3n z3c],.slice ra fs.length rc,.int .i64 0]) ?_
     refine tkm 6 138 (.agg #[.slice z0a z0n z0c,.slice z1a z1n z1c,.slice z2a z2n z2c,.slice z3a z3n z3c]) ?_
     refine tkm 7 139 (.slice ra fs.length rc) ?_
     refine tkm 8 140 (.int .i64 0) ?_
     refine tkz 10 (fun K hK=>?_)
     refine step_store_blkD rfl 33 _ _ rfl Y [.slice z0a z0n z0c,.slice z1a z1n z1c,.slice z2a z2n z2c,.slice z3a z3n z3c] rfl rfl pY (by kernel_rfl) rfl rfl ?_
     intro V8 pY8 g8
     replace bw:=bw.grown g8 bw.size (fun j hj=>by cases hj;exact hYw)
     have hR:=instrs_rowS (World.ownsRow.kept qz g8 (.inr (own_ne_blk qz pY (by decide)))) hff
     refine hK.out _ _ (cells_kept bw _ _ cP) (fun hS7=>?_)
     clear hK pY g8 pY8 qz hff hYw
     try simp only [Act.put,tka,tkb,tkc]
     refine tkm 11 27 (.slice ra fs.length rc) ?_
     refine tkm 12 28 (.int .i64 0) ?_
     refine wpAnyH_done (by kernel_rfl) ?_ _
     replace hF:=hF.below bw
     replace hD:=hD.below bw
     replace bW:=bel_trans bW bw
     clear bw hC hV h1 cP hS7 hS0 HRn
     go_wp2_with fail
     go_loopw [29] (fun si wz=>∃ k:Nat,k≤fs.length∧si=.int .i64 k∧Below V8.heap.size V8 wz) (fun si _=>fs.length - (intOf si).toNat)
     case atStart=>exact ⟨0,by omega,rfl,Below.refl _ _⟩
     case round =>
      obtain ⟨k,hk,rfl,bz⟩:=hrel
      by_cases hlt2:k<fs.length
      ·obtain ⟨fb,fo,rfl,c0,c1,c2⟩:=bugs_cells8 hR hlt2
       have hlt':(k:Int)<(fs.length:Int):=by omega
       have hk0:(0:Int)≤(k:Int):=by omega
       have hy:=HH.out _ (getD_memF hlt2)
       have kH:=hasBug_is fa al.length fc al (fs.getD k (0,0,0)) wr (hF.below bz) (by omega)
       rw [hy] at kH
       clear hy
       generalize fs.getD k (0,0,0)=y at *
       obtain ⟨y0,y1,y2⟩:=y
       have uy:I3.val (y0,y1,y2)=.agg #[.int .i64 y0,.int .i64 y1,.int .i64 y2]:=rfl
       rw [uy] at kH
       simp only at c0 c1 c2
       clear uy
       replace c0:=cells_kept bz _ _ c0
       replace c1:=cells_kept bz _ _ c1
       replace c2:=cells_kept bz _ _ c2
       go_wp2_with fail
       refine kH.mono ?_
       rintro e Z1 ⟨rfl,hb⟩
       replace bz:=bel_trans bz hb
       clear hb kH
       go_wp2
       go_roundw
       case rel=>exact ⟨k+1,by omega,by go_num,bz⟩
       case measure=>simp [intOf];omega
      ·obtain rfl:k=fs.length:=by omega
       have kM:=sameBugs_same fa da al.length fc dc al wr (hF.below bz) (hD.below bz) (by omega)
       replace bW:=bel_trans bW bz
       go_wp2_with fail
       refine kM.mono ?_
       rintro e Z1 ⟨rfl,hb⟩
       replace bW:=bel_trans bW hb
       clear hb kM
       go_wp2
       go_ret
       exact ⟨rfl,bW⟩
   ·have hal:Below U0.heap.size U0 (U0.alloc (.cells #[.slice none 0 0,.slice none 0 0,.slice none 0 0,.slice none 0 0] 33)):=by go_grown
    obtain ⟨Y,hY⟩:∃ Y,Y=U0.heap.size:=⟨_,rfl⟩
    have pY:Blk (U0.alloc (.cells #[.slice none 0 0,.slice none 0 0,.slice none 0 0,.slice none 0 0] 33)) Y 33 [.slice none 0 0,.slice none 0 0,.slice none 0 0,.slice none 0 0]:=blkAt _ _ _ hY
    have hYw:V2.heap.size≤Y:=by rw [hY];exact bw.size
    replace bw:=bel_trans bw hal
    go_simp
    rw [← hY]
    refine hK.out _ _ (cells_kept bw _ _ cP) (fun hS3=>?_)
    clear hK hal hY
    generalize (U0.alloc (.cells #[.slice none 0 0,.slice none 0 0,.slice none 0 0,.slice none 0 0] 33))=U6 at *
    try simp only [Act.put,tka,tkb,tkc]
    refine tkr 3 136 (fun K hK=>?_)
    go_simp
    refine (schedule_ints8 _ _ _ z1 a cap rows _ (h1.below bw) l1 (hC.below bw) HOK.out.1).mono ?_
    rintro e U7 ⟨⟨lb,lo,lc,n,ks,gm,rfl,hL,hn14,hg⟩,hb⟩
    replace pY:=pY.below hb
    replace bw:=bel_trans bw hb
    clear hb
    have HG:Hid (goesTo rows ks gm):=hg
    clear hg
    go_wp2_with fail
    refine hK.out _ _ (cells_kept bw _ _ cP) (fun hS1=>?_)
    clear hK
    try simp only [Act.put,tka,tkb,tkc]
    refine tkr 4 137 (fun K hK=>?_)
    have hlr:=HRn.out ks gm HG.out (by have:=hL.1;omega)
    have kR:=implRunSchedule_is a 3 cap rows (some ⟨lb,lo,none⟩) n lc ks _ (hC.below bw) (hV.below bw) hL
    rw [hlr.1] at kR
    have HH:Hid (∀ y ∈ runF rows ks,hasB al y=true):=hlr.2
    have hff:∀ x ∈ runF rows ks,I3.fits x:=fun x hx=>okB_fitsQ ((runF_ok rows ks).1 x hx)
    have hfs:=(runF_ok rows ks).2
    clear hlr HG
    generalize runF rows ks=fs at *
    generalize runZ rows ks=rz at *
    go_simp
    refine kR.mono ?_
    rintro e U8 ⟨⟨⟨⟨z0a,z0n,z0c⟩,⟨z1a,z1n,z1c⟩,⟨z2a,z2n,z2c⟩,⟨z3a,z3n,z3c⟩⟩,vz,rfl,hOz,qz⟩,hb⟩
    have uz:S4.val ((z0a,z0n,z0c),(z1a,z1n,z1c),(z2a,z2n,z2c),(z3a,z3n,z3c))=.agg #[.slice z0a z0n z0c,.slice z1a z1n z1c,.slice z2a z2n z2c,.slice z3a z3n z3c]:=rfl
    rw [uz]
    obtain ⟨ra,rc,rfl,_,_⟩:=bugs_sliceR qz hff
    clear uz hOz kR hL
    replace pY:=pY.below hb
    replace bw:=bel_trans bw hb
    clear hb
    go_wp2_with fail
    refine hK.out _ _ (cells_kept bw _ _ cP) (fun hS2=>?_)
    clear hK
    try simp only [Act.put,tka,tkb,tkc]
    refine tkm 5 132 (.tuple #[.agg #[.slice z0a z0n z0c,.slice z1a z1n z1c,.slice z2a z2n z2c,.slice z3a z3n z3c],.slice ra fs.length rc,.int .i64 0]) ?_
    refine tkm 6 138 (.agg #[.slice z0a z0n z0c,.slice z1a z1n z1c,.slice z2a z2n z2c,.slice z3a z3n z3c]) ?_
    refine tkm 7 139 (.slice ra fs.length rc) ?_
    refine tkm 8 140 (.int .i64 0) ?_
    refine tkz 10 (fun K hK=>?_)
    refine step_store_blkD rfl 33 _ _ rfl Y [.slice z0a z0n z0c,.slice z1a z1n z1c,.slice z2a z2n z2c,.slice z3a z3n z3c] rfl rfl pY (by kernel_rfl) rfl rfl ?_
    intro V8 pY8 g8
    replace bw:=bw.grown g8 bw.size (fun j hj=>by cases hj;exact hYw)
    have hR:=instrs_rowS (World.ownsRow.kept qz g8 (.inr (own_ne_blk qz pY (by decide)))) hff
    refine hK.out _ _ (cells_kept bw _ _ cP) (fun hS7=>?_)
    clear hK pY g8 pY8 qz hff hYw
    try simp only [Act.put,tka,tkb,tkc]
    refine tkm 11 27 (.slice ra fs.length rc) ?_
    refine tkm 12 28 (.int .i64 0) ?_
    refine wpAnyH_done (by kernel_rfl) ?_ _
    replace hF:=hF.below bw
    replace hD:=hD.below bw
    replace bW:=bel_trans bW bw
    clear bw hC hV h1 cP hS7 hS0 HRn
    go_wp2_with fail
    go_loopw [29] (fun si wz=>∃ k:Nat,k≤fs.length∧si=.int .i64 k∧Below V8.heap.size V8 wz) (fun si _=>fs.length - (intOf si).toNat)
    case atStart=>exact ⟨0,by omega,rfl,Below.refl _ _⟩
    case round =>
     obtain ⟨k,hk,rfl,bz⟩:=hrel
     by_cases hlt2:k<fs.length
     ·obtain ⟨fb,fo,rfl,c0,c1,c2⟩:=bugs_cells8 hR hlt2
      have hlt':(k:Int)<(fs.length:Int):=by omega
      have hk0:(0:Int)≤(k:Int):=by omega
      have hy:=HH.out _ (getD_memF hlt2)
      have kH:=hasBug_is fa al.length fc al (fs.getD k (0,0,0)) wr (hF.below bz) (by omega)
      rw [hy] at kH
      clear hy
      generalize fs.getD k (0,0,0)=y at *
      obtain ⟨y0,y1,y2⟩:=y
      have uy:I3.val (y0,y1,y2)=.agg #[.int .i64 y0,.int .i64 y1,.int .i64 y2]:=rfl
      rw [uy] at kH
      simp only at c0 c1 c2
      clear uy
      replace c0:=cells_kept bz _ _ c0
      replace c1:=cells_kept bz _ _ c1
      replace c2:=cells_kept bz _ _ c2
      go_wp2_with fail
      refine kH.mono ?_
      rintro e Z1 ⟨rfl,hb⟩
      replace bz:=bel_trans bz hb
      clear hb kH
      go_wp2
      go_roundw
      case rel=>exact ⟨k+1,by omega,by go_num,bz⟩
      case measure=>simp [intOf];omega
     ·obtain rfl:k=fs.length:=by omega
      have kM:=sameBugs_same fa da al.length fc dc al wr (hF.below bz) (hD.below bz) (by omega)
      replace bW:=bel_trans bW bz
      go_wp2_with fail
      refine kM.mono ?_
      rintro e Z1 ⟨rfl,hb⟩
      replace bW:=bel_trans bW hb
      clear hb kM
      go_wp2
      go_ret
      exact ⟨rfl,bW⟩

theorem fnAll_laid {W:World} (h:laidMetH Tryz.prog Rows.fnAllRow.laid W):VmShape W:=vmShape_of_laid rfl h
theorem fnAll_door_met (os:Os) (args:Array Value):laidMetH Tryz.prog Rows.fnAllRow.laid ((World.doorLaid Tryz.prog 400 os).forCall (fun _ _=>0) ⟨#[],args,[]⟩).memory:=
 laidMetH_of_parts3 (fuel:=8) (laidMet_of_run' 8 (by kernel_rfl) (by kernel_rfl)) (by kernel_rfl) (by kernel_rfl)


def varsFit (P:Program) (ns:List String):Bool:=ns.all fun n =>
 match P.globalNamed n with
 | some g=>match (P.globals[g]?).map (·.type) with
  | some t=>P.readableRec t && decide (t<P.types.size)
  | none=>false
 | none=>false

theorem var?_lt {P:Program} {W:World} {n:String} {g:Nat} {cs:Array Value} (hg:P.globalNamed n=some g) (hv:W.var? P n=some cs):g<W.heap.size:=by
 rcases Nat.lt_or_ge g W.heap.size with h | h
 ·exact h
 ·unfold World.var? at hv
  simp [hg,Array.getElem?_eq_none h] at hv

theorem vars_below {H:Type} {enc:TypeId × Value→H} {P:Program} {W W':World} (hl:laidOutB P=true) (bel:Below W.heap.size W W') :
  ∀ {ns:List String} {gs:List (DataW H)} {ps:List MemPlace},varsFit P ns=true→DataW.TrodVars enc P W (fun _=>true) ns gs ps→DataW.TrodVars enc P W' (fun b=>decide (b<W.heap.size)) ns gs ps
 | [],[],ps,_,h=>h
 | [],_::_,_,_,h=>by cases h
 | _::_,[],_,_,h=>by cases h
 | n::ns,d::ds,ps,hf,h=>by
  obtain ⟨g,t,cs,fuel,p,q,hg,ht,hv,hd,hr,e⟩:=h
  simp only [varsFit,List.all_cons,Bool.and_eq_true] at hf
  obtain ⟨hf1,hf2⟩:=hf
  rw [hg] at hf1
  simp only [ht,Bool.and_eq_true,decide_eq_true_eq] at hf1
  obtain ⟨fuel',hd'⟩:=Below.trod hl hf1.1 hf1.2 (v:=.agg cs) (⟨fuel,by simpa [Value.cells] using hd⟩:DataW.Trod enc P W 0 (fun _=>true) true t (.agg cs) d p) bel (DataW.trod_lt fuel _ _ _ hd)
  exact ⟨g,t,cs,fuel',p,q,hg,ht,var?_below bel hg (var?_lt hg hv) hv,by simpa [Value.cells] using hd',vars_below hl bel hf2 hr,e⟩

theorem vars_len {H:Type} {enc:TypeId × Value→H} {P:Program} {W:World} {spare:Nat→Bool}:∀ {ns:List String} {gs:List (DataW H)} {ps:List MemPlace},DataW.TrodVars enc P W spare ns gs ps→gs.length=ns.length
 | [],[],_,_=>rfl
 | [],_::_,_,h=>by cases h
 | _::_,[],_,h=>by cases h
 | _::_,_::_,_,h=>by
  obtain ⟨_,_,_,_,_,_,_,_,_,_,hr,_⟩:=h
  simp [vars_len hr]
end Go.Proofs.YtifoggpohlegmaaGreatDoor
