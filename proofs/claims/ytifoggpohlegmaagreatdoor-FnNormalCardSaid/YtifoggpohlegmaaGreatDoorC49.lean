/-
  Joined: NmW.
-/
import Derived.Test.YtifoggpohlegmaaGreatDoorC42
import Derived.Test.YtifoggpohlegmaaGreatDoorC43
import Derived.Test.YtifoggpohlegmaaGreatDoorC44
import Derived.Test.YtifoggpohlegmaaGreatDoorC46
import Derived.Test.YtifoggpohlegmaaGreatDoorC48

namespace Go.Proofs.YtifoggpohlegmaaGreatDoor
set_option maxRecDepth 100000
set_option maxHeartbeats 16000000
open Go.RowKit
set_option linter.unusedVariables false
set_option linter.unusedSimpArgs false

theorem same_selfN {m:V4} (h:shapeOk m=true):sameV m m=true:=by unfold sameV;simp [h]
theorem schedule_intsN (a:Option Addr) (n cap:Nat) (zs:List Int) (aP:Option Addr) (capP:Nat) (rows:List (List I3)) (w:World) (hI:IsRow .u8 w a n cap zs) (hn:n≤1048576) (hP:Codes w aP 3 capP rows) (hok:progOk rows=true) :
  Calls Tryz.prog 11 #[.slice a n cap,.agg #[.slice aP 3 capP]] w fun e w'=>(∃ (lb lo lc k:Nat) (ks:List Int) (m:V4),e=.returned (.slice (some ⟨lb,lo,none⟩) k lc)∧Ints .i64 w' (some ⟨lb,lo,none⟩) k lc ks∧k≤14∧goesTo rows ks m)∧Below w.heap.size w w':=by
 refine (scheduleDrawn_any a n cap zs aP capP rows w hI hn hP hok).mono ?_
 rintro e w' ⟨⟨v,ks,m,⟨g,c,rfl⟩,rfl,q,hl,hg⟩,hb⟩
 exact ⟨⟨g,0,c,ks.length,ks,m,rfl,OwnI.ints (s:=(some ⟨g,0,none⟩,ks.length,c)) q,hl,hg⟩,hb⟩
theorem evE_ok {rows:List (List I3)} {ks:List Int} (hp:progOk rows=true) (hl:¬ 4096<ks.length) (c0:(runI rows zeroV [] ks).2.2=0):evE rows ks=evsM rows zeroV ks:=by
 unfold evE
 rw [if_neg hl,hp,if_pos rfl,if_pos c0]
theorem normal_facts {rows:List (List I3)} {ks:List Int} {m:V4} (hp:progOk rows=true) (h:goesTo rows ks m) (hl:ks.length≤14) :
  evK rows ks=0∧(nrmE (evE rows ks)).length=ks.length∧runZ rows (nrmE (evE rows ks))=m∧runC rows (nrmE (evE rows ks))=0∧evK rows (nrmE (evE rows ks))=0∧nrmE (evE rows (nrmE (evE rows ks)))=nrmE (evE rows ks):=by
 obtain ⟨gZ,gC,gS⟩:=goes_run hp h hl
 have c0:(runI rows zeroV [] ks).2.2=0:=by
  unfold runC at gC
  rw [if_neg (by omega),hp] at gC
  exact gC
 have z0:(runI rows zeroV [] ks).1=m:=by
  unfold runZ at gZ
  rw [if_neg (by omega),hp] at gZ
  exact gZ
 have e0:evE rows ks=evsM rows zeroV ks:=evE_ok hp (by omega) c0
 have hI:=evE_three rows ks
 have hN:Nrm (evsM rows zeroV ks) (nrmE (evE rows ks)):=by
  have:=(norm_is hI).1
  rw [e0] at this ⊢
  exact this
 obtain ⟨n1,n2,n3⟩:=nrm_self hp hN c0
 have hlen:(nrmE (evE rows ks)).length=ks.length:=by rw [nrmE_len hI,e0,evsM_len]
 have e1:evE rows (nrmE (evE rows ks))=evsM rows zeroV (nrmE (evE rows ks)):=evE_ok hp (by omega) n2
 refine ⟨?_,hlen,?_,?_,?_,?_⟩
 ·unfold evK
  rw [if_neg (by omega),hp]
  exact c0
 ·unfold runZ
  rw [if_neg (by omega),hp,if_pos rfl,n1]
  exact z0
 ·unfold runC
  rw [if_neg (by omega),hp,if_pos rfl]
  exact n2
 ·unfold evK
  rw [if_neg (by omega),hp,if_pos rfl]
  exact n2
 ·have hJ:=evE_three rows (nrmE (evE rows ks))
  have h1:=(norm_is hJ).1
  refine nrm_one (es:=evsM rows zeroV (nrmE (evE rows ks))) ?_ n3
  rw [← e1]
  exact h1

theorem fnNormal_walk (a0:Option Addr) (len0 cap0:Nat) (z0:List Int) (a1:Option Addr) (len1 cap1:Nat) (z1:List Int) (w:World) (h0:IsRow .u8 w a0 len0 cap0 z0) (h1:IsRow .u8 w a1 len1 cap1 z1) (hV:VmShape w) :
  Calls Tryz.prog 4 #[.slice a0 len0 cap0,.slice a1 len1 cap1] w fun e w'=>e=.returned (.bool true)∧Below w.heap.size w w':=by
 have m0:=h0.len_le
 have m1:=h1.len_le
 unfold maxLen at m0 m1
 by_cases hb0:1048576<len0
 ·go_enter Tryz.func4,Tryz.ntmps4
  go_wp2
  go_ret
  exact ⟨rfl,Below.refl _ _⟩
 by_cases hb1:1048576<len1
 ·go_enter Tryz.func4,Tryz.ntmps4
  go_wp2
  go_ret
  exact ⟨rfl,Below.refl _ _⟩
 have l0:len0≤1048576:=by omega
 have l1:len1≤1048576:=by omega
 clear hb0 hb1 m0 m1
 have bW:Below w.heap.size w w:=Below.refl _ _
 go_enter Tryz.func4,Tryz.ntmps4
 go_wp2_with fail
 refine (programDrawn_any _ _ _ z0 _ h0 l0).mono ?_
 rintro e w1 ⟨⟨v,rows,hok,rfl,ho⟩,hb⟩
 have h3:=(progOk_parts hok).1
 obtain ⟨a,cap,hv⟩:=ho.slice
 rw [h3] at hv
 subst hv
 have hC:=ho.codes (fun r hr x hx=>okI_fits ((progOk_parts hok).2 r hr |>.2 x hx))
 clear ho h0
 replace h1:=h1.below hb
 replace hV:=hV.below hb
 replace bW:=bel_trans bW hb
 clear hb h3
 have HOK:Hid (progOk rows=true):=hok
 clear hok
 have ha:Below w1.heap.size w1 (w1.alloc (.cells #[.slice a 3 cap] 25)):=by go_grown
 have cP:(w1.alloc (.cells #[.slice a 3 cap] 25)).cell? ⟨w1.heap.size,0,none⟩=some (.slice a 3 cap):=by simp [go_sem]
 replace h1:=h1.below ha
 replace hV:=hV.below ha
 replace hC:=hC.below ha
 replace bW:=bel_trans bW ha
 clear ha
 go_wp2_with fail
 generalize (w1.alloc (.cells #[.slice a 3 cap] 25))=wp at *
 generalize w1.heap.size=P at *
 refine (schedule_intsN _ _ _ z1 a cap rows _ h1 l1 hC HOK.out).mono ?_
 rintro e w2 ⟨⟨lb,lo,lc,n,ks,m,rfl,hL,hn14,hg⟩,hb⟩
 replace hV:=hV.below hb
 replace hC:=hC.below hb
 replace cP:=cells_kept hb _ _ cP
 replace bW:=bel_trans bW hb
 clear hb h1 l0 l1
 have hln:=hL.1
 obtain ⟨gZ,gC,gS⟩:=goes_run HOK.out hg (by omega)
 obtain ⟨fK,fL,fZ,fC,fK2,fN⟩:=normal_facts HOK.out hg (by omega)
 have kN:=fun (W:World) hC hV hL=>implNormalOf_is a 3 cap rows (some ⟨lb,lo,none⟩) n lc ks W hC hV hL
 have kT:=fun (W:World) hC hL=>specNormalOf_is a 3 cap rows (some ⟨lb,lo,none⟩) n lc ks W hC hL
 have kR:=fun (W:World) hC hV hL=>implRunSchedule_is a 3 cap rows (some ⟨lb,lo,none⟩) n lc ks W hC hV hL
 rw [gZ,gC] at kR
 rw [fK] at kN kT
 rw [hln] at fL
 have kR2:=fun (la:Option Addr) (k c:Nat) (W:World) hC hV hL=>implRunSchedule_is a 3 cap rows la k c (nrmE (evE rows ks)) W hC hV hL
 have kN2:=fun (la:Option Addr) (k c:Nat) (W:World) hC hV hL=>implNormalOf_is a 3 cap rows la k c (nrmE (evE rows ks)) W hC hV hL
 have kS2:=fun (la:Option Addr) (k c:Nat) (W:World) hC hV hL hM=>implSameClass_is a 3 cap rows la k c (nrmE (evE rows ks)) (some ⟨lb,lo,none⟩) n lc ks W hC hV hL hM
 rw [fZ,fC] at kR2
 rw [fN,fK2] at kN2
 have eV:scV rows (nrmE (evE rows ks)) ks=true:=by
  unfold scV
  rw [if_neg (by omega),if_pos fK2,if_pos fK,fN]
  simp
 have eC:scC rows (nrmE (evE rows ks)) ks=0:=by
  unfold scC
  rw [if_neg (by omega),if_pos fK2,fK]
 rw [eV,eC] at kS2
 generalize nrmE (evE rows ks)=N at *
 have fm:=(shape_fits9 gS).1
 have kM:=fun (t t':S4) W hA hB hV=>implSameVm_is t m t' m W hA hB hV
 rw [same_selfN gS] at kM
 have hcl:N.length=n:=fL
 clear gZ gC fZ fC fN fK fK2 eV eC hg fL hln
 go_wp2_with fail
 refine (kN _ hC hV hL).mono ?_
 rintro e w3 ⟨⟨v,rfl,q⟩,hb⟩
 replace hV:=hV.below hb
 replace hC:=hC.below hb
 replace hL:=hL.below hb
 replace cP:=cells_kept hb _ _ cP
 replace bW:=bel_trans bW hb
 rw [hcl] at q
 obtain ⟨na,nc,rfl⟩:=owns_sliceN q
 have hN:=ints_of_row q
 clear hb q kN
 go_wp2_with fail
 refine (kT _ hC hL).mono ?_
 rintro e w4 ⟨⟨v,rfl,q⟩,hb⟩
 replace hV:=hV.below hb
 replace hC:=hC.below hb
 replace hL:=hL.below hb
 replace cP:=cells_kept hb _ _ cP
 replace hN:=hN.below hb
 replace bW:=bel_trans bW hb
 rw [hcl] at q
 obtain ⟨ma,mc,rfl⟩:=owns_sliceN q
 have hT:=ints_of_row q
 clear hb q kT
 go_wp2_with fail
 refine (kR _ hC hV hL).mono ?_
 rintro e w5 ⟨⟨⟨⟨s0a,s0n,s0c⟩,⟨s1a,s1n,s1c⟩,⟨s2a,s2n,s2c⟩,⟨s3a,s3n,s3c⟩⟩,vs,rfl,hO,q⟩,hb⟩
 have us:S4.val ((s0a,s0n,s0c),(s1a,s1n,s1c),(s2a,s2n,s2c),(s3a,s3n,s3c))=.agg #[.slice s0a s0n s0c,.slice s1a s1n s1c,.slice s2a s2n s2c,.slice s3a s3n s3c]:=rfl
 rw [us]
 have hMs:=hO.mem fm
 replace hV:=hV.below hb
 replace hC:=hC.below hb
 replace hL:=hL.below hb
 replace cP:=cells_kept hb _ _ cP
 replace hN:=hN.below hb
 replace hT:=hT.below hb
 replace bW:=bel_trans bW hb
 clear hb hO q kR
 have ha:Below w5.heap.size w5 (w5.alloc (.cells #[.slice s0a s0n s0c,.slice s1a s1n s1c,.slice s2a s2n s2c,.slice s3a s3n s3c] 33)):=by go_grown
 have cs0:(w5.alloc (.cells #[.slice s0a s0n s0c,.slice s1a s1n s1c,.slice s2a s2n s2c,.slice s3a s3n s3c] 33)).cell? ⟨w5.heap.size,0,none⟩=some (.slice s0a s0n s0c):=by simp [go_sem]
 have cs1:(w5.alloc (.cells #[.slice s0a s0n s0c,.slice s1a s1n s1c,.slice s2a s2n s2c,.slice s3a s3n s3c] 33)).cell? ⟨w5.heap.size,1,none⟩=some (.slice s1a s1n s1c):=by simp [go_sem]
 have cs2:(w5.alloc (.cells #[.slice s0a s0n s0c,.slice s1a s1n s1c,.slice s2a s2n s2c,.slice s3a s3n s3c] 33)).cell? ⟨w5.heap.size,2,none⟩=some (.slice s2a s2n s2c):=by simp [go_sem]
 have cs3:(w5.alloc (.cells #[.slice s0a s0n s0c,.slice s1a s1n s1c,.slice s2a s2n s2c,.slice s3a s3n s3c] 33)).cell? ⟨w5.heap.size,3,none⟩=some (.slice s3a s3n s3c):=by simp [go_sem]
 replace hV:=hV.below ha
 replace hC:=hC.below ha
 replace hL:=hL.below ha
 replace cP:=cells_kept ha _ _ cP
 replace hN:=hN.below ha
 replace hT:=hT.below ha
 replace hMs:=hMs.below ha
 replace bW:=bel_trans bW ha
 clear ha
 go_wp2_with fail
 generalize (w5.alloc (.cells #[.slice s0a s0n s0c,.slice s1a s1n s1c,.slice s2a s2n s2c,.slice s3a s3n s3c] 33))=Ws at *
 generalize w5.heap.size=Gs at *
 go_wp2_with fail
 refine (kR2 _ _ _ _ hC hV hN).mono ?_
 rintro e w6 ⟨⟨⟨⟨x0a,x0n,x0c⟩,⟨x1a,x1n,x1c⟩,⟨x2a,x2n,x2c⟩,⟨x3a,x3n,x3c⟩⟩,vs,rfl,hO,q⟩,hb⟩
 have ux:S4.val ((x0a,x0n,x0c),(x1a,x1n,x1c),(x2a,x2n,x2c),(x3a,x3n,x3c))=.agg #[.slice x0a x0n x0c,.slice x1a x1n x1c,.slice x2a x2n x2c,.slice x3a x3n x3c]:=rfl
 rw [ux]
 have hMx:=hO.mem fm
 replace hV:=hV.below hb
 replace hC:=hC.below hb
 replace hL:=hL.below hb
 replace cP:=cells_kept hb _ _ cP
 replace hN:=hN.below hb
 replace hT:=hT.below hb
 replace hMs:=hMs.below hb
 replace cs0:=cells_kept hb _ _ cs0
 replace cs1:=cells_kept hb _ _ cs1
 replace cs2:=cells_kept hb _ _ cs2
 replace cs3:=cells_kept hb _ _ cs3
 replace bW:=bel_trans bW hb
 clear hb hO q kR2
 have ha:Below w6.heap.size w6 (w6.alloc (.cells #[.slice x0a x0n x0c,.slice x1a x1n x1c,.slice x2a x2n x2c,.slice x3a x3n x3c] 33)):=by go_grown
 have cx0:(w6.alloc (.cells #[.slice x0a x0n x0c,.slice x1a x1n x1c,.slice x2a x2n x2c,.slice x3a x3n x3c] 33)).cell? ⟨w6.heap.size,0,none⟩=some (.slice x0a x0n x0c):=by simp [go_sem]
 have cx1:(w6.alloc (.cells #[.slice x0a x0n x0c,.slice x1a x1n x1c,.slice x2a x2n x2c,.slice x3a x3n x3c] 33)).cell? ⟨w6.heap.size,1,none⟩=some (.slice x1a x1n x1c):=by simp [go_sem]
 have cx2:(w6.alloc (.cells #[.slice x0a x0n x0c,.slice x1a x1n x1c,.slice x2a x2n x2c,.slice x3a x3n x3c] 33)).cell? ⟨w6.heap.size,2,none⟩=some (.slice x2a x2n x2c):=by simp [go_sem]
 have cx3:(w6.alloc (.cells #[.slice x0a x0n x0c,.slice x1a x1n x1c,.slice x2a x2n x2c,.slice x3a x3n x3c] 33)).cell? ⟨w6.heap.size,3,none⟩=some (.slice x3a x3n x3c):=by simp [go_sem]
 replace hV:=hV.below ha
 replace hC:=hC.below ha
 replace hL:=hL.below ha
 replace cP:=cells_kept ha _ _ cP
 replace hN:=hN.below ha
 replace hT:=hT.below ha
 replace hMs:=hMs.below ha
 replace cs0:=cells_kept ha _ _ cs0
 replace cs1:=cells_kept ha _ _ cs1
 replace cs2:=cells_kept ha _ _ cs2
 replace cs3:=cells_kept ha _ _ cs3
 replace hMx:=hMx.below ha
 replace bW:=bel_trans bW ha
 clear ha
 go_wp2_with fail
 generalize (w6.alloc (.cells #[.slice x0a x0n x0c,.slice x1a x1n x1c,.slice x2a x2n x2c,.slice x3a x3n x3c] 33))=Wx at *
 generalize w6.heap.size=Gx at *
 refine (kN2 _ _ _ _ hC hV hN).mono ?_
 rintro e w7 ⟨⟨v,rfl,q⟩,hb⟩
 replace hV:=hV.below hb
 replace hC:=hC.below hb
 replace hL:=hL.below hb
 replace cP:=cells_kept hb _ _ cP
 replace hN:=hN.below hb
 replace hT:=hT.below hb
 replace hMs:=hMs.below hb
 replace cs0:=cells_kept hb _ _ cs0
 replace cs1:=cells_kept hb _ _ cs1
 replace cs2:=cells_kept hb _ _ cs2
 replace cs3:=cells_kept hb _ _ cs3
 replace hMx:=hMx.below hb
 replace cx0:=cells_kept hb _ _ cx0
 replace cx1:=cells_kept hb _ _ cx1
 replace cx2:=cells_kept hb _ _ cx2
 replace cx3:=cells_kept hb _ _ cx3
 replace bW:=bel_trans bW hb
 rw [hcl] at q
 obtain ⟨pa,pc,rfl⟩:=owns_sliceN q
 have hQ:=ints_of_row q
 clear hb q kN2
 go_wp2_with fail
 refine (kS2 _ _ _ _ hC hV hN hL).mono ?_
 rintro e w8 ⟨rfl,hb⟩
 replace hV:=hV.below hb
 replace hC:=hC.below hb
 replace hL:=hL.below hb
 replace cP:=cells_kept hb _ _ cP
 replace hN:=hN.below hb
 replace hT:=hT.below hb
 replace hMs:=hMs.below hb
 replace cs0:=cells_kept hb _ _ cs0
 replace cs1:=cells_kept hb _ _ cs1
 replace cs2:=cells_kept hb _ _ cs2
 replace cs3:=cells_kept hb _ _ cs3
 replace hMx:=hMx.below hb
 replace cx0:=cells_kept hb _ _ cx0
 replace cx1:=cells_kept hb _ _ cx1
 replace cx2:=cells_kept hb _ _ cx2
 replace cx3:=cells_kept hb _ _ cx3
 replace hQ:=hQ.below hb
 replace bW:=bel_trans bW hb
 clear hb kS2
 have kXS:=kM ((x0a,x0n,x0c),(x1a,x1n,x1c),(x2a,x2n,x2c),(x3a,x3n,x3c)) ((s0a,s0n,s0c),(s1a,s1n,s1c),(s2a,s2n,s2c),(s3a,s3n,s3c))
 rw [ux,us] at kXS
 have hnn:((n:Int) == (n:Int))=true:=by simp
 clear hcl
 go_wp2_with fail
 refine (sameInts_same _ _ _ _ _ N _ hN hT).mono ?_
 rintro e w9 ⟨rfl,dd,hd⟩
 subst hd
 have hb:=below_dN (w:=w8) dd
 replace hV:=hV.below hb
 replace hC:=hC.below hb
 replace hL:=hL.below hb
 replace cP:=cells_kept hb _ _ cP
 replace hN:=hN.below hb
 replace hT:=hT.below hb
 replace hMs:=hMs.below hb
 replace cs0:=cells_kept hb _ _ cs0
 replace cs1:=cells_kept hb _ _ cs1
 replace cs2:=cells_kept hb _ _ cs2
 replace cs3:=cells_kept hb _ _ cs3
 replace hMx:=hMx.below hb
 replace cx0:=cells_kept hb _ _ cx0
 replace cx1:=cells_kept hb _ _ cx1
 replace cx2:=cells_kept hb _ _ cx2
 replace cx3:=cells_kept hb _ _ cx3
 replace hQ:=hQ.below hb
 replace bW:=bel_trans bW hb
 clear hb
 generalize w8.drewN dd=w9 at *
 go_wp2_with fail
 refine (kXS _ hMx hMs hV).mono ?_
 rintro e w10 ⟨rfl,hb⟩
 replace hV:=hV.below hb
 replace hC:=hC.below hb
 replace hL:=hL.below hb
 replace cP:=cells_kept hb _ _ cP
 replace hN:=hN.below hb
 replace hT:=hT.below hb
 replace hMs:=hMs.below hb
 replace cs0:=cells_kept hb _ _ cs0
 replace cs1:=cells_kept hb _ _ cs1
 replace cs2:=cells_kept hb _ _ cs2
 replace cs3:=cells_kept hb _ _ cs3
 replace hMx:=hMx.below hb
 replace cx0:=cells_kept hb _ _ cx0
 replace cx1:=cells_kept hb _ _ cx1
 replace cx2:=cells_kept hb _ _ cx2
 replace cx3:=cells_kept hb _ _ cx3
 replace hQ:=hQ.below hb
 replace bW:=bel_trans bW hb
 clear hb kXS
 go_wp2_with fail
 refine (sameInts_same _ _ _ _ _ N _ hQ hN).mono ?_
 rintro e w11 ⟨rfl,dd2,hd⟩
 subst hd
 replace bW:=bel_trans bW (below_dN dd2)
 go_wp2
 go_ret
 exact ⟨rfl,bW⟩

theorem fnNormal_laid {W:World} (h:laidMetH Tryz.prog Rows.fnNormalRow.laid W):VmShape W:=vmShape_of_laid rfl h
theorem fnNormal_door_met (os:Os) (args:Array Value):laidMetH Tryz.prog Rows.fnNormalRow.laid ((World.doorLaid Tryz.prog 400 os).forCall (fun _ _=>0) ⟨#[],args,[]⟩).memory:=
 laidMetH_of_parts3 (fuel:=8) (laidMet_of_run' 8 (by kernel_rfl) (by kernel_rfl)) (by kernel_rfl) (by kernel_rfl)
end Go.Proofs.YtifoggpohlegmaaGreatDoor
