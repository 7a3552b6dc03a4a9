/-
  Joined: CmW.
-/
import Derived.Test.YtifoggpohlegmaaGreatDoorC42
import Derived.Test.YtifoggpohlegmaaGreatDoorC43
import Derived.Test.YtifoggpohlegmaaGreatDoorC44
import Derived.Test.YtifoggpohlegmaaGreatDoorC48

namespace Go.Proofs.YtifoggpohlegmaaGreatDoor
set_option maxRecDepth 100000
set_option maxHeartbeats 16000000
open Go.RowKit
set_option linter.unusedVariables false
set_option linter.unusedSimpArgs false

theorem same_selfC {m:V4} (h:shapeOk m=true):sameV m m=true:=by unfold sameV;simp [h]
theorem schedule_intsC (a:Option Addr) (n cap:Nat) (zs:List Int) (aP:Option Addr) (capP:Nat) (rows:List (List I3)) (w:World) (hI:IsRow .u8 w a n cap zs) (hn:n≤1048576) (hP:Codes w aP 3 capP rows) (hok:progOk rows=true) :
  Calls Tryz.prog 11 #[.slice a n cap,.agg #[.slice aP 3 capP]] w fun e w'=>(∃ (lb lo lc k:Nat) (ks:List Int) (m:V4),e=.returned (.slice (some ⟨lb,lo,none⟩) k lc)∧Ints .i64 w' (some ⟨lb,lo,none⟩) k lc ks∧k≤14∧goesTo rows ks m)∧Below w.heap.size w w':=by
 refine (scheduleDrawn_any a n cap zs aP capP rows w hI hn hP hok).mono ?_
 rintro e w' ⟨⟨v,ks,m,⟨g,c,rfl⟩,rfl,q,hl,hg⟩,hb⟩
 exact ⟨⟨g,0,c,ks.length,ks,m,rfl,OwnI.ints (s:=(some ⟨g,0,none⟩,ks.length,c)) q,hl,hg⟩,hb⟩
theorem evE_okC {rows:List (List I3)} {ks:List Int} (hp:progOk rows=true) (hl:¬ 4096<ks.length) (c0:(runI rows zeroV [] ks).2.2=0):evE rows ks=evsM rows zeroV ks:=by
 unfold evE
 rw [if_neg hl,hp,if_pos rfl,if_pos c0]
def swapL (ks:List Int) (i:Nat):List Int:=(ks.set i (ks.getD (i+1) 0)).set (i+1) (ks.getD i 0)
theorem swapL_len (ks:List Int) (i:Nat):(swapL ks i).length=ks.length:=by simp [swapL]
theorem part_at {ks:List Int} {i:Nat} (h:i+1<ks.length):ks=ks.take i++ks.getD i 0::ks.getD (i+1) 0::ks.drop (i+2)∧swapL ks i=ks.take i++ks.getD (i+1) 0::ks.getD i 0::ks.drop (i+2):=by
 have e1:ks.drop i=ks.getD i 0::ks.getD (i+1) 0::ks.drop (i+2):=by
  rw [List.drop_eq_getElem_cons (by omega),List.drop_eq_getElem_cons h]
  simp [List.getD,h,show i<ks.length by omega]
 have e0:ks=ks.take i++ks.getD i 0::ks.getD (i+1) 0::ks.drop (i+2):=by rw [← e1];exact (List.take_append_drop i ks).symm
 refine ⟨e0,?_⟩
 have hl:(ks.take i).length=i:=by rw [List.length_take];omega
 unfold swapL
 generalize ks.getD i 0=a at *
 generalize ks.getD (i+1) 0=b at *
 generalize ks.drop (i+2)=r at *
 generalize ks.take i=p at *
 subst e0
 subst hl
 rw [List.set_append_right _ _ (Nat.le_refl _),Nat.sub_self,List.set_cons_zero,List.set_append_right _ _ (by omega),show p.length+1 - p.length=1 by omega]
 rfl
theorem commute_facts {rows:List (List I3)} {ks:List Int} {m:V4} (hp:progOk rows=true) (h:goesTo rows ks m) (hl:ks.length≤14) {i:Nat} (hi:i+1<ks.length) (hd:depM (evAt (evE rows ks) i) (evAt (evE rows ks) (i+1))=false) :
  runZ rows (swapL ks i)=m∧runC rows (swapL ks i)=0∧scV rows ks (swapL ks i)=true∧scC rows ks (swapL ks i)=0:=by
 obtain ⟨gZ,gC,gS⟩:=goes_run hp h hl
 have c0:(runI rows zeroV [] ks).2.2=0:=by
  unfold runC at gC
  rw [if_neg (by omega),hp] at gC
  exact gC
 have z0:(runI rows zeroV [] ks).1=m:=by
  unfold runZ at gZ
  rw [if_neg (by omega),hp] at gZ
  exact gZ
 have e0:evE rows ks=evsM rows zeroV ks:=evE_okC hp (by omega) c0
 obtain ⟨p1,p2⟩:=part_at hi
 have hsl:=swapL_len ks i
 have c1:=c0
 rw [p1] at c1
 obtain ⟨e1,e2,rest,s1,s2⟩:=swap_at hp (ks.take i) (ks.drop (i+2)) (ks.getD i 0) (ks.getD (i+1) 0) c1
 rw [← p1] at s1 s2
 rw [← p2] at s2
 have hpl:(evsM rows zeroV (ks.take i)).length=i:=by rw [evsM_len,List.length_take];omega
 have d1:evAt (evE rows ks) i=e1:=by
  rw [e0,s1]
  unfold evAt
  simp [List.getD,List.getElem?_append_right,hpl]
 have d2:evAt (evE rows ks) (i+1)=e2:=by
  rw [e0,s1]
  unfold evAt
  simp [List.getD,List.getElem?_append_right,hpl]
 rw [d1,d2] at hd
 obtain ⟨t1,t2,t3⟩:=s2 hd
 have e9:evE rows (swapL ks i)=evsM rows zeroV (swapL ks i):=evE_okC hp (by omega) t2
 have k0:evK rows ks=0:=by unfold evK;rw [if_neg (by omega),hp,if_pos rfl];exact c0
 have k1:evK rows (swapL ks i)=0:=by unfold evK;rw [if_neg (by omega),hp,if_pos rfl];exact t2
 have hN:nrmE (evE rows ks)=nrmE (evE rows (swapL ks i)):=by
  have n1:=(norm_is (evE_three rows ks)).1
  have n2:=(norm_is (evE_three rows (swapL ks i))).1
  refine nrm_one (es:=evE rows (swapL ks i)) ?_ n2
  refine nrm_sw1 n1 ?_
  rw [e0,e9,s1,t3]
  exact ⟨_,e1,e2,rest,rfl,rfl,hd⟩
 refine ⟨?_,?_,?_,?_⟩
 ·unfold runZ
  rw [if_neg (by omega),hp,if_pos rfl,t1]
  exact z0
 ·unfold runC
  rw [if_neg (by omega),hp,if_pos rfl]
  exact t2
 ·unfold scV
  rw [if_neg (by omega),if_pos k0,if_pos k1,hN]
  simp
 ·unfold scC
  rw [if_neg (by omega),if_pos k0]
  exact k1
theorem ints_newsC {w:World} {lb lo n c:Nat} {ks:List Int} (h:Ints .i64 w (some ⟨lb,lo,none⟩) n c ks):∀ j u,(ks.map (Value.int .i64))[j]?=some u→w.cell? ((⟨lb,lo,none⟩:Addr).add j)=some u:=by
 intro j u hj
 obtain ⟨h1,h2,h3,h4⟩:=h
 have hjl:j<ks.length:=by
  have:=(List.getElem?_eq_some_iff.1 hj).1
  simpa using this
 rcases h4 with h4 | ⟨b,off,ha,hl,hc⟩
 ·omega
 ·cases ha
  rw [Addr.add_mid,hc j (by omega)]
  simp [hjl] at hj
  simp [List.getD,hjl,hj]
theorem kept12 {v w:World} {p0 p1 p2 p3 p4 p5 p6 p7 p8 p9 p10 p11:Addr} {u0 u1 u2 u3 u4 u5 u6 u7 u8 u9 u10 u11:Value} (hb:Below v.heap.size v w) (h:v.cell? p0=some u0∧v.cell? p1=some u1∧v.cell? p2=some u2∧v.cell? p3=some u3∧v.cell? p4=some u4∧v.cell? p5=some u5∧v.cell? p6=some u6∧v.cell? p7=some u7∧v.cell? p8=some u8∧v.cell? p9=some u9∧v.cell? p10=some u10∧v.cell? p11=some u11):w.cell? p0=some u0∧w.cell? p1=some u1∧w.cell? p2=some u2∧w.cell? p3=some u3∧w.cell? p4=some u4∧w.cell? p5=some u5∧w.cell? p6=some u6∧w.cell? p7=some u7∧w.cell? p8=some u8∧w.cell? p9=some u9∧w.cell? p10=some u10∧w.cell? p11=some u11:=
 ⟨cells_kept hb _ _ h.1,cells_kept hb _ _ h.2.1,cells_kept hb _ _ h.2.2.1,cells_kept hb _ _ h.2.2.2.1,cells_kept hb _ _ h.2.2.2.2.1,cells_kept hb _ _ h.2.2.2.2.2.1,cells_kept hb _ _ h.2.2.2.2.2.2.1,cells_kept hb _ _ h.2.2.2.2.2.2.2.1,cells_kept hb _ _ h.2.2.2.2.2.2.2.2.1,cells_kept hb _ _ h.2.2.2.2.2.2.2.2.2.1,cells_kept hb _ _ h.2.2.2.2.2.2.2.2.2.2.1,cells_kept hb _ _ h.2.2.2.2.2.2.2.2.2.2.2⟩
theorem map_setC (ks:List Int) (i:Nat) (x:Int):(ks.map (Value.int .i64)).set i (.int .i64 x)=(ks.set i x).map (Value.int .i64):=by rw [List.map_set]
theorem ints_cellC {w:World} {lb lo n c:Nat} {ks:List Int} (h:Ints .i64 w (some ⟨lb,lo,none⟩) n c ks) {i:Nat} (hi:i<n):w.cell? ⟨lb,lo+i,none⟩=some (.int .i64 (ks.getD i 0)):=by
 obtain ⟨h1,h2,h3,h4⟩:=h
 rcases h4 with h4 | ⟨b,off,ha,hl,hc⟩
 ·omega
 ·cases ha
  exact hc i hi

theorem fnCommute_walk (a0:Option Addr) (len0 cap0:Nat) (z0:List Int) (a1:Option Addr) (len1 cap1:Nat) (z1:List Int) (w:World) (h0:IsRow .u8 w a0 len0 cap0 z0) (h1:IsRow .u8 w a1 len1 cap1 z1) (hV:VmShape w) :
  Calls Tryz.prog 3 #[.slice a0 len0 cap0,.slice a1 len1 cap1] w fun e w'=>e=.returned (.bool true)∧Below w.heap.size w w':=by
 have m0:=h0.len_le
 have m1:=h1.len_le
 unfold maxLen at m0 m1
 by_cases hb0:1048576<len0
 ·go_enter Tryz.func3,Tryz.ntmps3
  go_wp2
  go_ret
  exact ⟨rfl,Below.refl _ _⟩
 by_cases hb1:1048576<len1
 ·go_enter Tryz.func3,Tryz.ntmps3
  go_wp2
  go_ret
  exact ⟨rfl,Below.refl _ _⟩
 have l0:len0≤1048576:=by omega
 have l1:len1≤1048576:=by omega
 clear hb0 hb1 m0 m1
 have bW:Below w.heap.size w w:=Below.refl _ _
 go_enter Tryz.func3,Tryz.ntmps3
 go_wp2_with fail
 refine (programDrawn_any _ _ _ z0 _ h0 l0).mono ?_
 rintro e w1 ⟨⟨v,rows,hok,rfl,ho⟩,hb⟩
 have h3:=(progOk_parts hok).1
 obtain ⟨a,cap,hv⟩:=ho.slice
 rw [h3] at hv
 subst hv
 have hC:=ho.codes (fun r hr x hx=>okI_fits ((progOk_parts hok).2 r hr |>.2 x hx))
 clear ho h0
 replace h1:=h1.below hb
 replace hV:=hV.below hb
 replace bW:=bel_trans bW hb
 clear hb h3
 have HOK:Hid (progOk rows=true):=hok
 clear hok
 have ha:Below w1.heap.size w1 (w1.alloc (.cells #[.slice a 3 cap] 25)):=by go_grown
 have cP:(w1.alloc (.cells #[.slice a 3 cap] 25)).cell? ⟨w1.heap.size,0,none⟩=some (.slice a 3 cap):=by simp [go_sem]
 replace h1:=h1.below ha
 replace hV:=hV.below ha
 replace hC:=hC.below ha
 replace bW:=bel_trans bW ha
 clear ha
 go_wp2_with fail
 generalize (w1.alloc (.cells #[.slice a 3 cap] 25))=wp at *
 generalize w1.heap.size=P at *
 refine (schedule_intsC _ _ _ z1 a cap rows _ h1 l1 hC HOK.out).mono ?_
 rintro e w2 ⟨⟨lb,lo,lc,n,ks,m,rfl,hL,hn14,hg⟩,hb⟩
 replace hV:=hV.below hb
 replace hC:=hC.below hb
 replace cP:=cells_kept hb _ _ cP
 replace bW:=bel_trans bW hb
 clear hb h1 l0 l1
 have hln:=hL.1
 obtain ⟨gZ,gC,gS⟩:=goes_run HOK.out hg (by omega)
 have HF:Hid (∀ i,i+1<n→depM (evAt (evE rows ks) i) (evAt (evE rows ks) (i+1))=false→runZ rows (swapL ks i)=m∧runC rows (swapL ks i)=0∧scV rows ks (swapL ks i)=true∧scC rows ks (swapL ks i)=0):=fun i hi hd=>commute_facts HOK.out hg (by omega) (by omega) hd
 have fK:evK rows ks=0:=by
  have:=gC
  unfold runC at this
  unfold evK
  rw [if_neg (by omega),HOK.out,if_pos rfl] at this ⊢
  exact this
 have fL:(evE rows ks).length=n:=by
  have:=gC
  unfold runC at this
  rw [if_neg (by omega),HOK.out,if_pos rfl] at this
  rw [evE_okC HOK.out (by omega) this,evsM_len,hln]
 have kE:=fun (W:World) hC hV hL=>implEventsOf_is a 3 cap rows (some ⟨lb,lo,none⟩) n lc ks W hC hV hL
 have kG:=fun (W:World) hC hL=>specEventsOf_is a 3 cap rows (some ⟨lb,lo,none⟩) n lc ks W hC hL
 have kR:=fun (W:World) hC hV hL=>implRunSchedule_is a 3 cap rows (some ⟨lb,lo,none⟩) n lc ks W hC hV hL
 have kR2:=fun (i:Nat) (la:Option Addr) (k c:Nat) (W:World) hC hV hL=>implRunSchedule_is a 3 cap rows la k c (swapL ks i) W hC hV hL
 have kS2:=fun (i:Nat) (la:Option Addr) (k c:Nat) (W:World) hC hV hL hM=>implSameClass_is a 3 cap rows (some ⟨lb,lo,none⟩) n lc ks la k c (swapL ks i) W hC hV hL hM
 rw [gZ,gC] at kR
 rw [fK] at kE kG
 have fm:=(shape_fits9 gS).1
 have kM:=fun (t t':S4) W hA hB hV=>implSameVm_is t m t' m W hA hB hV
 rw [same_selfC gS] at kM
 generalize evE rows ks=es at *
 obtain ⟨i1,hi1,hz3,hz4,hz5⟩:=info_parts info_int
 clear gZ gC fK hg HOK gS
 go_wp2_with fail
 refine (kE _ hC hV hL).mono ?_
 rintro e w3 ⟨⟨v,rfl,q⟩,hb⟩
 replace hV:=hV.below hb
 replace hC:=hC.below hb
 replace hL:=hL.below hb
 replace cP:=cells_kept hb _ _ cP
 replace bW:=bel_trans bW hb
 obtain ⟨ea,ec,rfl,hA⟩:=evs_slice q
 rw [fL] at hA
 rw [fL]
 clear hb q kE
 go_wp2_with fail
 refine (kG _ hC hL).mono ?_
 rintro e w4 ⟨⟨v,rfl,q⟩,hb⟩
 replace hV:=hV.below hb
 replace hC:=hC.below hb
 replace hL:=hL.below hb
 replace cP:=cells_kept hb _ _ cP
 replace hA:=hA.below hb
 replace bW:=bel_trans bW hb
 obtain ⟨fa,fc,rfl,hB⟩:=evs_slice q
 rw [fL] at hB
 rw [fL]
 clear hb q kG fL
 have hnn:((n:Int) != (n:Int))=false:=by simp
 go_wp2_with fail
 refine (kR _ hC hV hL).mono ?_
 rintro e w5 ⟨⟨⟨⟨s0a,s0n,s0c⟩,⟨s1a,s1n,s1c⟩,⟨s2a,s2n,s2c⟩,⟨s3a,s3n,s3c⟩⟩,vs,rfl,hO,q⟩,hb⟩
 have us:S4.val ((s0a,s0n,s0c),(s1a,s1n,s1c),(s2a,s2n,s2c),(s3a,s3n,s3c))=.agg #[.slice s0a s0n s0c,.slice s1a s1n s1c,.slice s2a s2n s2c,.slice s3a s3n s3c]:=rfl
 rw [us]
 have hMs:=hO.mem fm
 replace hV:=hV.below hb
 replace hC:=hC.below hb
 replace hL:=hL.below hb
 replace cP:=cells_kept hb _ _ cP
 replace hA:=hA.below hb
 replace hB:=hB.below hb
 replace bW:=bel_trans bW hb
 clear hb hO q
 have ha:Below w5.heap.size w5 (w5.alloc (.cells #[.slice s0a s0n s0c,.slice s1a s1n s1c,.slice s2a s2n s2c,.slice s3a s3n s3c] 33)):=by go_grown
 have cs0:(w5.alloc (.cells #[.slice s0a s0n s0c,.slice s1a s1n s1c,.slice s2a s2n s2c,.slice s3a s3n s3c] 33)).cell? ⟨w5.heap.size,0,none⟩=some (.slice s0a s0n s0c):=by simp [go_sem]
 have cs1:(w5.alloc (.cells #[.slice s0a s0n s0c,.slice s1a s1n s1c,.slice s2a s2n s2c,.slice s3a s3n s3c] 33)).cell? ⟨w5.heap.size,1,none⟩=some (.slice s1a s1n s1c):=by simp [go_sem]
 have cs2:(w5.alloc (.cells #[.slice s0a s0n s0c,.slice s1a s1n s1c,.slice s2a s2n s2c,.slice s3a s3n s3c] 33)).cell? ⟨w5.heap.size,2,none⟩=some (.slice s2a s2n s2c):=by simp [go_sem]
 have cs3:(w5.alloc (.cells #[.slice s0a s0n s0c,.slice s1a s1n s1c,.slice s2a s2n s2c,.slice s3a s3n s3c] 33)).cell? ⟨w5.heap.size,3,none⟩=some (.slice s3a s3n s3c):=by simp [go_sem]
 replace hV:=hV.below ha
 replace hC:=hC.below ha
 replace hL:=hL.below ha
 replace cP:=cells_kept ha _ _ cP
 replace hA:=hA.below ha
 replace hB:=hB.below ha
 replace hMs:=hMs.below ha
 replace bW:=bel_trans bW ha
 clear ha
 go_wp2_with fail
 generalize (w5.alloc (.cells #[.slice s0a s0n s0c,.slice s1a s1n s1c,.slice s2a s2n s2c,.slice s3a s3n s3c] 33))=Ws at *
 generalize w5.heap.size=Gs at *
 clear kR hnn
 go_loopw [14] (fun si wr=>∃ i:Nat,i≤n∧si=.int .i64 i∧Below Ws.heap.size Ws wr) (fun si _=>n - (intOf si).toNat)
 case atStart=>exact ⟨0,by omega,rfl,Below.refl _ _⟩
 case round =>
  obtain ⟨i,hi,rfl,br⟩:=hrel
  by_cases hin:i+1<n
  ·have hin':(i:Int)+1<(n:Int):=by omega
   replace hV:=hV.below br
   replace hC:=hC.below br
   replace hL:=hL.below br
   replace cP:=cells_kept br _ _ cP
   replace hA:=hA.below br
   replace hB:=hB.below br
   replace hMs:=hMs.below br
   replace cs0:=cells_kept br _ _ cs0
   replace cs1:=cells_kept br _ _ cs1
   replace cs2:=cells_kept br _ _ cs2
   replace cs3:=cells_kept br _ _ cs3
   replace bW:=bel_trans bW br
   have hi0:(0:Int)≤(i:Int):=by omega
   have hi2:(i:Int)<(n:Int):=by omega
   have hi3:(0:Int)≤(i:Int)+1:=by omega
   have hw9:IntKind.i64.wrap ((i:Int)+1)=(i:Int)+1:=IntWalk.i64_in _ ⟨by omega,by omega⟩
   obtain ⟨ga,rfl,hga,x0,x1,x2,x3⟩:=ev_cells hA (Below.refl _ _) (show i<n by omega)
   obtain ⟨ga9,hga9,_,y0,y1,y2,y3⟩:=ev_cells hA (Below.refl _ _) hin
   cases hga9
   obtain ⟨gb,rfl,hgb,z0,z1,z2,z3⟩:=ev_cells hB (Below.refl _ _) (show i<n by omega)
   have hFi:=HF.out i hin
   generalize evAt es i=x at *
   generalize evAt es (i+1)=y at *
   obtain ⟨xa,xb,xc,xd⟩:=x
   obtain ⟨ya,yb,yc,yd⟩:=y
   simp only at x0 x1 x2 x3 y0 y1 y2 y3 z0 z1 z2 z3
   have kD:=implDepends_is (xa,xb,xc,xd) (ya,yb,yc,yd)
   have kd:=specDepends_is (xa,xb,xc,xd) (ya,yb,yc,yd)
   unfold I4.val at kD kd
   simp only at kD kd
   generalize depM (xa,xb,xc,xd) (ya,yb,yc,yd)=d at *
   have hdd:(d != d)=false:=by simp
   go_wp2_with fail
   go_region_held3 (fun w'=>w'.cell? ⟨ga,i*4,none⟩=some (.int .i64 xa)∧w'.cell? ⟨ga,i*4+1,none⟩=some (.int .i64 xb)∧w'.cell? ⟨ga,i*4+2,none⟩=some (.int .i64 xc)∧w'.cell? ⟨ga,i*4+3,none⟩=some (.int .i64 xd)∧w'.cell? ⟨gb,i*4,none⟩=some (.int .i64 xa)∧w'.cell? ⟨gb,i*4+1,none⟩=some (.int .i64 xb)∧w'.cell? ⟨gb,i*4+2,none⟩=some (.int .i64 xc)∧w'.cell? ⟨gb,i*4+3,none⟩=some (.int .i64 xd)∧w'.cell? ⟨ga,(i+1)*4,none⟩=some (.int .i64 ya)∧w'.cell? ⟨ga,(i+1)*4+1,none⟩=some (.int .i64 yb)∧w'.cell? ⟨ga,(i+1)*4+2,none⟩=some (.int .i64 yc)∧w'.cell? ⟨ga,(i+1)*4+3,none⟩=some (.int .i64 yd)) (first | (exact ⟨x0,x1,x2,x3,z0,z1,z2,z3,y0,y1,y2,y3⟩) | (exact kept12 hb2 (by assumption)) | (exact kept12 hb1 ⟨x0,x1,x2,x3,z0,z1,z2,z3,y0,y1,y2,y3⟩) | go_keep)
    (first | (go_at_call 15;refine (kD _).mono ?_;rintro e wa ⟨rfl,hb1⟩) | (go_at_call 16;refine (kd _).mono ?_;rintro e wb ⟨rfl,hb2⟩))
   rename_i hHeld
   have hb9:Below wr.heap.size wr wb:=bel_trans (by go_grown) (bel_trans hb1 hb2)
   clear x0 x1 x2 x3 y0 y1 y2 y3 z0 z1 z2 z3
   obtain ⟨x0,x1,x2,x3,_,_,_,_,y0,y1,y2,y3⟩:=hHeld
   replace hV:=hV.below hb9
   replace hC:=hC.below hb9
   replace hL:=hL.below hb9
   replace cP:=cells_kept hb9 _ _ cP
   replace hA:=hA.below hb9
   replace hB:=hB.below hb9
   replace hMs:=hMs.below hb9
   replace cs0:=cells_kept hb9 _ _ cs0
   replace cs1:=cells_kept hb9 _ _ cs1
   replace cs2:=cells_kept hb9 _ _ cs2
   replace cs3:=cells_kept hb9 _ _ cs3
   replace bW:=bel_trans bW hb9
   replace br:=bel_trans br hb9
   clear hb9 hb1 hb2 kd
   go_wp2_with fail
   go_region_held3 (fun w'=>w'.cell? ⟨ga,i*4,none⟩=some (.int .i64 xa)∧w'.cell? ⟨ga,i*4+1,none⟩=some (.int .i64 xb)∧w'.cell? ⟨ga,i*4+2,none⟩=some (.int .i64 xc)∧w'.cell? ⟨ga,i*4+3,none⟩=some (.int .i64 xd)∧w'.cell? ⟨ga,(i+1)*4,none⟩=some (.int .i64 ya)∧w'.cell? ⟨ga,(i+1)*4+1,none⟩=some (.int .i64 yb)∧w'.cell? ⟨ga,(i+1)*4+2,none⟩=some (.int .i64 yc)∧w'.cell? ⟨ga,(i+1)*4+3,none⟩=some (.int .i64 yd)) (first | (exact ⟨x0,x1,x2,x3,y0,y1,y2,y3⟩) | (refine ⟨?_,?_,?_,?_,?_,?_,?_,?_⟩<;>(apply cells_kept (by assumption);assumption)) | go_keep)
    (first | (go_at_call 15;refine (kD _).mono ?_;rintro e wc ⟨rfl,hb1⟩))
   rename_i hHeld
   clear hHeld
   have hb9:Below wb.heap.size wb wc:=bel_trans (by go_grown) hb1
   clear x0 x1 x2 x3 y0 y1 y2 y3
   replace hV:=hV.below hb9
   replace hC:=hC.below hb9
   replace hL:=hL.below hb9
   replace cP:=cells_kept hb9 _ _ cP
   replace hA:=hA.below hb9
   replace hB:=hB.below hb9
   replace hMs:=hMs.below hb9
   replace cs0:=cells_kept hb9 _ _ cs0
   replace cs1:=cells_kept hb9 _ _ cs1
   replace cs2:=cells_kept hb9 _ _ cs2
   replace cs3:=cells_kept hb9 _ _ cs3
   replace bW:=bel_trans bW hb9
   replace br:=bel_trans br hb9
   clear hb9 hb1 kD hA hB hga hgb
   cases d
   ·obtain ⟨fZ,fC,fV,fc⟩:=hFi rfl
    have kRx:=kR2 i
    have kSx:=kS2 i
    rw [fZ,fC] at kRx
    rw [fV,fc] at kSx
    clear hFi fZ fC fV fc kR2 kS2 hw9
    have ha:Below wc.heap.size wc (wc.alloc (.cells #[] 3)):=by go_grown
    have q:=own_emptyB wc 3 1 wc.heap.size (Nat.le_refl _)
    have hL9:=hL.below ha
    have hL0:=hL
    have hbs:=ha.size
    go_wp2_with (at_builtin;refine wpList_append_own _ rfl _ _ 27 rfl wc.heap.size 3 i1 (.int .i64 0) 1 8 Tryz.underlying27 hi1 hz3 hz4 hz5 rfl (by decide) _ _ _ rfl q ⟨lb,lo,none⟩ n lc (ks.map (Value.int .i64)) rfl (by rw [List.length_map];omega) (ints_newsC hL9) (by intro u hu;obtain ⟨x,_,rfl⟩:=List.mem_map.1 hu;rfl) ?c3 ?c4 ?c5 ?_)
    case c3=>unfold maxLen;omega
    case c4=>omega
    case c5=>exact hbs
    intro v' wn hown' hgrow hx9
    clear hx9
    have hbn:Below wc.heap.size wc wn:=ha.grown hgrow hbs (fun k e=>by cases e;exact Nat.le_refl _)
    clear hgrow ha q hL9 hbs
    obtain ⟨og,oc,rfl⟩:∃ og oc,v'=.slice (some ⟨og,0,none⟩) n oc:=by
     rcases hown'.2 with ⟨_,h9⟩ | ⟨g9,c9,_,h9,_⟩
     ·omega
     ·exact ⟨g9,c9,h9⟩
    have hog:=(hown'.lt og rfl).1
    have hLn:=hL.below hbn
    have l1:=ints_cellC hLn hin
    have l2:=ints_cellC hLn (show i<n by omega)
    obtain ⟨kA,hkA⟩:∃ kA,kA=ks.getD i 0:=⟨_,rfl⟩
    obtain ⟨kB,hkB⟩:∃ kB,kB=ks.getD (i+1) 0:=⟨_,rfl⟩
    have HS:Hid (swapL ks i=(ks.set i kB).set (i+1) kA):=by unfold swapL;rw [hkA,hkB];rfl
    rw [← hkB] at l1
    rw [← hkA] at l2
    have s1:=hown'.stored i (.int .i64 kB)
    rw [map_setC] at s1
    have s2:=s1.1.stored (i+1) (.int .i64 kA)
    rw [map_setC] at s2
    have k1:=(hown'.cellAt i (by omega)).trans (show (ks.map (Value.int .i64))[i]?=some (.int .i64 kA) by rw [hkA];simp [List.getD,show i<ks.length by omega])
    have f1:=hown'.frozenAt i
    have f2:=s1.1.frozenAt (i+1)
    have k3:=(hown'.cellAt (i+1) (by omega)).trans (show (ks.map (Value.int .i64))[i+1]?=some (.int .i64 kB) by rw [hkB];simp [List.getD,show i+1<ks.length by omega])
    have f3:=hown'.frozenAt (i+1)
    have g1:=s1.2
    have g2:=s2.2
    have hX:=Ints.of_owns s2.1
    rw [← HS.out] at hX
    clear hkA hkB HS
    have hlb:lb<wc.heap.size:=by
     obtain ⟨_,_,_,h9 | ⟨b9,o9,e9,h9,_⟩⟩:=hL0
     ·omega
     ·cases e9;exact h9
    have b1:Below wc.heap.size wc (wn.setCell ⟨og,i,none⟩ (.int .i64 kB)):=hbn.setCell hog _
    have l3:(wn.setCell ⟨og,i,none⟩ (.int .i64 kB)).cell? ⟨lb,lo+i,none⟩=some (.int .i64 kA):=by
     rw [b1.cell (p:=⟨lb,lo+i,none⟩) hlb,← hbn.cell (p:=⟨lb,lo+i,none⟩) hlb]
     exact l2
    have hb9:Below wc.heap.size wc ((wn.setCell ⟨og,i,none⟩ (.int .i64 kB)).setCell ⟨og,i+1,none⟩ (.int .i64 kA)):=b1.setCell hog _
    replace hV:=hV.below hb9
    replace hC:=hC.below hb9
    replace hL:=hL.below hb9
    replace cP:=cells_kept hb9 _ _ cP
    replace hMs:=hMs.below hb9
    replace cs0:=cells_kept hb9 _ _ cs0
    replace cs1:=cells_kept hb9 _ _ cs1
    replace cs2:=cells_kept hb9 _ _ cs2
    replace cs3:=cells_kept hb9 _ _ cs3
    replace bW:=bel_trans bW hb9
    replace br:=bel_trans br hb9
    clear g1 g2 s2 hLn hL0 b1 hb9 hbn
    go_wp2_with fail
    generalize (wn.setCell ⟨og,i,none⟩ (.int .i64 kB)).setCell ⟨og,i+1,none⟩ (.int .i64 kA)=wX at *
    clear l1 l2 l3 k1 k3 f1 f2 f3 s1 hown'
    refine (kRx _ _ _ _ hC hV hX).mono ?_
    rintro e w6 ⟨⟨⟨⟨x0a,x0n,x0c⟩,⟨x1a,x1n,x1c⟩,⟨x2a,x2n,x2c⟩,⟨x3a,x3n,x3c⟩⟩,vs,rfl,hO,q⟩,hb⟩
    have ux:S4.val ((x0a,x0n,x0c),(x1a,x1n,x1c),(x2a,x2n,x2c),(x3a,x3n,x3c))=.agg #[.slice x0a x0n x0c,.slice x1a x1n x1c,.slice x2a x2n x2c,.slice x3a x3n x3c]:=rfl
    rw [ux]
    have hMx:=hO.mem fm
    replace hV:=hV.below hb
    replace hC:=hC.below hb
    replace hL:=hL.below hb
    replace cP:=cells_kept hb _ _ cP
    replace hMs:=hMs.below hb
    replace cs0:=cells_kept hb _ _ cs0
    replace cs1:=cells_kept hb _ _ cs1
    replace cs2:=cells_kept hb _ _ cs2
    replace cs3:=cells_kept hb _ _ cs3
    replace hX:=hX.below hb
    replace bW:=bel_trans bW hb
    replace br:=bel_trans br hb
    clear hb hO q kRx
    have ha:Below w6.heap.size w6 (w6.alloc (.cells #[.slice x0a x0n x0c,.slice x1a x1n x1c,.slice x2a x2n x2c,.slice x3a x3n x3c] 33)):=by go_grown
    have cx0:(w6.alloc (.cells #[.slice x0a x0n x0c,.slice x1a x1n x1c,.slice x2a x2n x2c,.slice x3a x3n x3c] 33)).cell? ⟨w6.heap.size,0,none⟩=some (.slice x0a x0n x0c):=by simp [go_sem]
    have cx1:(w6.alloc (.cells #[.slice x0a x0n x0c,.slice x1a x1n x1c,.slice x2a x2n x2c,.slice x3a x3n x3c] 33)).cell? ⟨w6.heap.size,1,none⟩=some (.slice x1a x1n x1c):=by simp [go_sem]
    have cx2:(w6.alloc (.cells #[.slice x0a x0n x0c,.slice x1a x1n x1c,.slice x2a x2n x2c,.slice x3a x3n x3c] 33)).cell? ⟨w6.heap.size,2,none⟩=some (.slice x2a x2n x2c):=by simp [go_sem]
    have cx3:(w6.alloc (.cells #[.slice x0a x0n x0c,.slice x1a x1n x1c,.slice x2a x2n x2c,.slice x3a x3n x3c] 33)).cell? ⟨w6.heap.size,3,none⟩=some (.slice x3a x3n x3c):=by simp [go_sem]
    replace hV:=hV.below ha
    replace hC:=hC.below ha
    replace hL:=hL.below ha
    replace cP:=cells_kept ha _ _ cP
    replace hMs:=hMs.below ha
    replace cs0:=cells_kept ha _ _ cs0
    replace cs1:=cells_kept ha _ _ cs1
    replace cs2:=cells_kept ha _ _ cs2
    replace cs3:=cells_kept ha _ _ cs3
    replace hX:=hX.below ha
    replace hMx:=hMx.below ha
    replace bW:=bel_trans bW ha
    replace br:=bel_trans br ha
    clear ha
    go_wp2_with fail
    generalize (w6.alloc (.cells #[.slice x0a x0n x0c,.slice x1a x1n x1c,.slice x2a x2n x2c,.slice x3a x3n x3c] 33))=Wx at *
    generalize w6.heap.size=Gx at *
    refine (kSx _ _ _ _ hC hV hL hX).mono ?_
    rintro e w7 ⟨rfl,hb⟩
    replace hV:=hV.below hb
    replace hC:=hC.below hb
    replace hL:=hL.below hb
    replace cP:=cells_kept hb _ _ cP
    replace hMs:=hMs.below hb
    replace cs0:=cells_kept hb _ _ cs0
    replace cs1:=cells_kept hb _ _ cs1
    replace cs2:=cells_kept hb _ _ cs2
    replace cs3:=cells_kept hb _ _ cs3
    replace hX:=hX.below hb
    replace hMx:=hMx.below hb
    replace cx0:=cells_kept hb _ _ cx0
    replace cx1:=cells_kept hb _ _ cx1
    replace cx2:=cells_kept hb _ _ cx2
    replace cx3:=cells_kept hb _ _ cx3
    replace bW:=bel_trans bW hb
    replace br:=bel_trans br hb
    clear hb kSx
    have kXS:=kM ((x0a,x0n,x0c),(x1a,x1n,x1c),(x2a,x2n,x2c),(x3a,x3n,x3c)) ((s0a,s0n,s0c),(s1a,s1n,s1c),(s2a,s2n,s2c),(s3a,s3n,s3c))
    rw [ux,us] at kXS
    go_wp2_with fail
    refine (kXS _ hMx hMs hV).mono ?_
    rintro e w8 ⟨rfl,hb⟩
    replace br:=bel_trans br hb
    clear hb kXS
    go_wp2
    go_roundw
    case rel=>exact ⟨i+1,by omega,by go_num,br⟩
    case measure=>simp [intOf];omega
   ·go_wp2
    go_roundw
    case rel=>exact ⟨i+1,by omega,by go_num,br⟩
    case measure=>simp [intOf];omega
  ·have hin9:¬ (i:Int)+1<(n:Int):=by omega
   go_wp2
   go_ret
   exact ⟨rfl,bel_trans bW br⟩

theorem fnCommute_laid {W:World} (h:laidMetH Tryz.prog Rows.fnCommuteRow.laid W):VmShape W:=vmShape_of_laid rfl h
theorem fnCommute_door_met (os:Os) (args:Array Value):laidMetH Tryz.prog Rows.fnCommuteRow.laid ((World.doorLaid Tryz.prog 400 os).forCall (fun _ _=>0) ⟨#[],args,[]⟩).memory:=
 laidMetH_of_parts3 (fuel:=8) (laidMet_of_run' 8 (by kernel_rfl) (by kernel_rfl)) (by kernel_rfl) (by kernel_rfl)
end Go.Proofs.YtifoggpohlegmaaGreatDoor
