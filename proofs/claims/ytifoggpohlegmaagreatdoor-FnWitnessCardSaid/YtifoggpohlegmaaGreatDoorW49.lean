/-
  Joined: WtnW, Vars.
-/
import Derived.WalkSmall
import Derived.ChangeOld
import Derived.Test.YtifoggpohlegmaaGreatDoorW41
import Derived.Test.YtifoggpohlegmaaGreatDoorW42
import Derived.Test.YtifoggpohlegmaaGreatDoorW47
import Derived.Test.YtifoggpohlegmaaGreatDoorW48

namespace Go.Proofs.YtifoggpohlegmaaGreatDoor
set_option maxRecDepth 100000
set_option maxHeartbeats 16000000
open Go.RowKit
set_option linter.unusedVariables false
set_option linter.unusedSimpArgs false

theorem bugs_cells6 {w:World} {a:Option Addr} {n c:Nat} {xs:List I3} (h:Instrs w a n c xs) {i:Nat} (hi:i<n):∃ b off,a=some ⟨b,off,none⟩∧w.cell? ⟨b,off+i*3,none⟩=some (.int .i64 (xs.getD i (0,0,0)).1)∧w.cell? ⟨b,off+i*3+1,none⟩=some (.int .i64 (xs.getD i (0,0,0)).2.1)∧w.cell? ⟨b,off+i*3+2,none⟩=some (.int .i64 (xs.getD i (0,0,0)).2.2):=by
 obtain ⟨h1,h2,h3,_,h4⟩:=h
 rcases h4 with h4 | ⟨b,off,ha,hl,hc⟩
 ·omega
 ·exact ⟨b,off,ha,hc i hi⟩
theorem getD_mem6 {xs:List I3} {k:Nat} (hk:k<xs.length):xs.getD k (0,0,0) ∈ xs:=by
 simp only [List.getD,List.getElem?_eq_getElem hk,Option.getD_some]
 exact List.getElem_mem hk
theorem other_ok {a b c:Nat} (ha:(a:Int)<2∨a=0) (hb:(b:Int)<3∨b=0) (hc:(c:Int)<4∨c=0):okB (12+(a:Int),(b:Int),(c:Int))=true:=by
 unfold okB inB
 simp only
 rw [if_neg (by omega),if_pos (by omega)]
 simp
 omega
theorem sched_ints6 (a:Option Addr) (n cap:Nat) (zs:List Int) (aP:Option Addr) (capP:Nat) (rows:List (List I3)) (w:World) (hI:IsRow .u8 w a n cap zs) (hn:n≤1048576) (hP:Codes w aP 3 capP rows) (hok:progOk rows=true) :
  Calls Tryz.prog 11 #[.slice a n cap,.agg #[.slice aP 3 capP]] w fun e w'=>(∃ (lb lo lc k:Nat) (ks:List Int),e=.returned (.slice (some ⟨lb,lo,none⟩) k lc)∧Ints .i64 w' (some ⟨lb,lo,none⟩) k lc ks∧ks.length≤4096)∧Below w.heap.size w w':=by
 refine (scheduleDrawn_any a n cap zs aP capP rows w hI hn hP hok).mono ?_
 rintro e w' ⟨⟨v,ks,m,⟨g,c,rfl⟩,rfl,q,hl,hg⟩,hb⟩
 exact ⟨⟨g,0,c,ks.length,ks,rfl,OwnI.ints (s:=(some ⟨g,0,none⟩,ks.length,c)) q,by omega⟩,hb⟩
theorem fnWitness_walk (a0:Option Addr) (len0 cap0:Nat) (z0:List Int) (a1:Option Addr) (len1 cap1:Nat) (z1:List Int) (w:World) (h0:IsRow .u8 w a0 len0 cap0 z0) (h1:IsRow .u8 w a1 len1 cap1 z1) (hV:VmShape w) :
  Calls Tryz.prog 6 #[.slice a0 len0 cap0,.slice a1 len1 cap1] w fun e w'=>e=.returned (.bool true)∧Below w.heap.size w w':=by
 have m0:=h0.len_le
 have m1:=h1.len_le
 unfold maxLen at m0 m1
 by_cases hb0:1048576<len0
 ·go_enter Tryz.func6,Tryz.ntmps6
  go_wp2
  go_ret
  exact ⟨rfl,Below.refl _ _⟩
 by_cases hb1:1048576<len1
 ·go_enter Tryz.func6,Tryz.ntmps6
  go_wp2
  go_ret
  exact ⟨rfl,Below.refl _ _⟩
 have l0:len0≤1048576:=by omega
 have l1:len1≤1048576:=by omega
 clear hb0 hb1 m0 m1
 have bW:Below w.heap.size w w:=Below.refl _ _
 go_enter Tryz.func6,Tryz.ntmps6
 go_wp2_with fail
 refine (programDrawnQ_any _ _ _ z0 _ h0 l0).mono ?_
 rintro e w1 ⟨⟨v,rows,hok,rfl,ho⟩,hb⟩
 have h3:=(progOk_parts hok.1).1
 obtain ⟨a,cap,hv⟩:=ho.slice
 rw [h3] at hv
 subst hv
 have hC:=ho.codes (fun r hr x hx=>okI_fits ((progOk_parts hok.1).2 r hr |>.2 x hx))
 clear ho h0
 replace h1:=h1.below hb
 replace hV:=hV.below hb
 replace bW:=bel_trans bW hb
 clear hb h3
 have HOK:Hid (ProgS rows):=hok
 clear hok
 have ha:Below w1.heap.size w1 (w1.alloc (.cells #[.slice a 3 cap] 25)):=by go_grown
 have cP:(w1.alloc (.cells #[.slice a 3 cap] 25)).cell? ⟨w1.heap.size,0,none⟩=some (.slice a 3 cap):=by simp [go_sem]
 replace h1:=h1.below ha
 replace hV:=hV.below ha
 replace hC:=hC.below ha
 replace bW:=bel_trans bW ha
 clear ha
 go_wp2_with fail
 generalize (w1.alloc (.cells #[.slice a 3 cap] 25))=wp at *
 generalize w1.heap.size=P at *
 have kA:=implAllBugs_is a 3 cap rows _ hC hV
 have hbo:=bugsO_ok rows
 have hbe:bugsO rows=allI rows (fullS rows):=by unfold bugsO;rw [if_pos (small_code HOK.out)]
 rw [small_code HOK.out,hbe] at kA
 rw [hbe] at hbo
 clear hbe
 obtain ⟨xs,hxs⟩:∃ xs,xs=allI rows (fullS rows):=⟨_,rfl⟩
 rw [← hxs] at kA hbo
 have HX:Hid (xs=allI rows (fullS rows)):=hxs
 clear hxs
 refine kA.mono ?_
 rintro e W2 ⟨⟨v,rfl,q⟩,hb⟩
 obtain ⟨hff,hxl⟩:=hbo
 obtain ⟨fa,fc,rfl,hF,hGd⟩:=bugs_sliceR q hff
 replace h1:=h1.below hb
 replace hV:=hV.below hb
 replace hC:=hC.below hb
 replace cP:=cells_kept hb _ _ cP
 replace bW:=bel_trans bW hb
 clear hb q hGd kA hff
 go_wp2_with fail
 go_loopw [8] (fun si wz=>∃ k:Nat,k≤xs.length∧si=.int .i64 k∧Below W2.heap.size W2 wz) (fun si _=>xs.length - (intOf si).toNat)
 case atStart=>exact ⟨0,by omega,rfl,Below.refl _ _⟩
 case round =>
  obtain ⟨k,hk,rfl,bw⟩:=hrel
  by_cases hlt2:k<xs.length
  ·obtain ⟨fb,fo,rfl,c0,c1,c2⟩:=bugs_cells6 hF hlt2
   have hlt':(k:Int)<(xs.length:Int):=by omega
   have hk0:(0:Int)≤(k:Int):=by omega
   have hy:=found_law (b:=xs.getD k (0,0,0)) HOK.out (by have e9:=HX.out;have hm:=getD_mem6 hlt2;generalize xs.getD k (0,0,0)=y at hm ⊢;rw [← e9];exact hm)
   have kI:=fun (W:World) (b:Below W2.heap.size W2 W)=>implWitnessOf_is a 3 cap rows (xs.getD k (0,0,0)) W (hC.below b) (hV.below b)
   have kS:=fun (W:World) (b:Below W2.heap.size W2 W)=>specWitnessOf_is a 3 cap rows (xs.getD k (0,0,0)) W (hC.below b)
   have kW:=fun (la:Option Addr) (lc:Nat) (W:World) (b:Below W2.heap.size W2 W) (hL:Ints .i64 W la (wofL rows (xs.getD k (0,0,0))).length lc (wofL rows (xs.getD k (0,0,0))))=>implIsWitness_is a 3 cap rows la (wofL rows (xs.getD k (0,0,0))).length lc (wofL rows (xs.getD k (0,0,0))) (xs.getD k (0,0,0)) W (hC.below b) (hV.below b) hL
   rw [hy.1] at kI kS
   rw [hy.2.1,hy.2.2] at kW
   clear hy
   generalize wofL rows (xs.getD k (0,0,0))=zs at *
   generalize xs.getD k (0,0,0)=y at *
   obtain ⟨y0,y1,y2⟩:=y
   have uy:I3.val (y0,y1,y2)=.agg #[.int .i64 y0,.int .i64 y1,.int .i64 y2]:=rfl
   rw [uy] at kI kS kW
   simp only at c0 c1 c2
   clear uy
   go_wp2_with fail
   refine wp_region_held_drew (S:=(fun w'=>w'.cell? ⟨P,0,none⟩=some (.slice a 3 cap)∧w'.cell? ⟨fb,fo+k*3,none⟩=some (.int .i64 y0)∧w'.cell? ⟨fb,fo+k*3+1,none⟩=some (.int .i64 y1)∧w'.cell? ⟨fb,fo+k*3+2,none⟩=some (.int .i64 y2))) (by kernel_rfl) ⟨cells_kept bw _ _ cP,cells_kept bw _ _ c0,cells_kept bw _ _ c1,cells_kept bw _ _ c2⟩ (fun hS0=>?_)
   refine tkm 0 42 (.agg #[.slice a 3 cap]) ?_
   refine tkm 1 43 (.slice (some ⟨fb,fo,none⟩) xs.length fc) ?_
   refine tkm 2 44 (.int .i64 (k:Int)) ?_
   refine tkm 3 45 (.pointer (some ⟨fb,fo+k*3,none⟩)) ?_
   refine tkm 4 46 (.agg #[.int .i64 y0,.int .i64 y1,.int .i64 y2]) ?_
   replace bw:=bel_trans bw (show Below wr.heap.size wr wr.drew by go_grown)
   generalize wr.drew=Z0 at *
   refine tkr 5 47 (fun K hK=>?_)
   go_simp
   refine (kI _ bw).mono ?_
   rintro e Z1 ⟨⟨v,rfl,q⟩,hb⟩
   obtain ⟨ia,ic,rfl,hI⟩:=lst_slice q
   replace bw:=bel_trans bw hb
   clear hb q kI
   go_wp2_with fail
   refine hK.out _ _ ⟨cells_kept bw _ _ cP,cells_kept bw _ _ c0,cells_kept bw _ _ c1,cells_kept bw _ _ c2⟩ (fun hS1=>?_)
   clear hK
   try simp only [Act.put,tka,tkb,tkc]
   refine tkm 6 41 (.tuple #[.slice ia zs.length ic,.int .i64 0]) ?_
   refine tkm 7 48 (.slice ia zs.length ic) ?_
   refine tkm 8 49 (.int .i64 0) ?_
   refine tkm 9 9 (.slice ia zs.length ic) ?_
   refine tkm 10 10 (.int .i64 0) ?_
   refine wpAnyH_done (by kernel_rfl) ?_ _
   clear hS0 hS1
   go_wp2_with fail
   refine wp_region_held_drew (S:=(fun w'=>w'.cell? ⟨P,0,none⟩=some (.slice a 3 cap)∧w'.cell? ⟨fb,fo+k*3,none⟩=some (.int .i64 y0)∧w'.cell? ⟨fb,fo+k*3+1,none⟩=some (.int .i64 y1)∧w'.cell? ⟨fb,fo+k*3+2,none⟩=some (.int .i64 y2))) (by kernel_rfl) ⟨cells_kept bw _ _ cP,cells_kept bw _ _ c0,cells_kept bw _ _ c1,cells_kept bw _ _ c2⟩ (fun hS0=>?_)
   refine tkm 0 51 (.agg #[.slice a 3 cap]) ?_
   refine tkm 1 52 (.slice (some ⟨fb,fo,none⟩) xs.length fc) ?_
   refine tkm 2 53 (.int .i64 (k:Int)) ?_
   refine tkm 3 54 (.pointer (some ⟨fb,fo+k*3,none⟩)) ?_
   refine tkm 4 55 (.agg #[.int .i64 y0,.int .i64 y1,.int .i64 y2]) ?_
   replace bw:=bel_trans bw (show Below Z1.heap.size Z1 Z1.drew by go_grown)
   replace hI:=hI.below (show Below Z1.heap.size Z1 Z1.drew by go_grown)
   generalize Z1.drew=Z2 at *
   refine tkr 5 56 (fun K hK=>?_)
   go_simp
   refine (kS _ bw).mono ?_
   rintro e Z3 ⟨⟨v,rfl,q⟩,hb⟩
   obtain ⟨sa,sc,rfl,hJ⟩:=lst_slice q
   replace bw:=bel_trans bw hb
   replace hI:=hI.below hb
   clear hb q kS
   go_wp2_with fail
   refine hK.out _ _ ⟨cells_kept bw _ _ cP,cells_kept bw _ _ c0,cells_kept bw _ _ c1,cells_kept bw _ _ c2⟩ (fun hS1=>?_)
   clear hK
   try simp only [Act.put,tka,tkb,tkc]
   refine tkm 6 50 (.tuple #[.slice sa zs.length sc,.int .i64 0]) ?_
   refine tkm 7 57 (.slice sa zs.length sc) ?_
   refine tkm 8 58 (.int .i64 0) ?_
   refine tkm 9 11 (.slice sa zs.length sc) ?_
   refine tkm 10 12 (.int .i64 0) ?_
   refine wpAnyH_done (by kernel_rfl) ?_ _
   clear hS0 hS1
   go_wp2_with fail
   refine wp_region_held_drew (S:=(fun w'=>w'.cell? ⟨P,0,none⟩=some (.slice a 3 cap)∧w'.cell? ⟨fb,fo+k*3,none⟩=some (.int .i64 y0)∧w'.cell? ⟨fb,fo+k*3+1,none⟩=some (.int .i64 y1)∧w'.cell? ⟨fb,fo+k*3+2,none⟩=some (.int .i64 y2))) (by kernel_rfl) ⟨cells_kept bw _ _ cP,cells_kept bw _ _ c0,cells_kept bw _ _ c1,cells_kept bw _ _ c2⟩ (fun hS0=>?_)
   refine tkm 0 60 (.agg #[.slice a 3 cap]) ?_
   refine tkm 1 61 (.slice ia zs.length ic) ?_
   refine tkm 2 62 (.slice (some ⟨fb,fo,none⟩) xs.length fc) ?_
   refine tkm 3 63 (.int .i64 (k:Int)) ?_
   refine tkm 4 64 (.pointer (some ⟨fb,fo+k*3,none⟩)) ?_
   refine tkm 5 65 (.agg #[.int .i64 y0,.int .i64 y1,.int .i64 y2]) ?_
   replace bw:=bel_trans bw (show Below Z3.heap.size Z3 Z3.drew by go_grown)
   replace hI:=hI.below (show Below Z3.heap.size Z3 Z3.drew by go_grown)
   replace hJ:=hJ.below (show Below Z3.heap.size Z3 Z3.drew by go_grown)
   generalize Z3.drew=Z4 at *
   refine tkr 6 66 (fun K hK=>?_)
   go_simp
   refine (kW _ _ _ bw hI).mono ?_
   rintro e Z5 ⟨rfl,hb⟩
   replace bw:=bel_trans bw hb
   replace hI:=hI.below hb
   replace hJ:=hJ.below hb
   clear hb kW
   go_wp2_with fail
   refine hK.out _ _ ⟨cells_kept bw _ _ cP,cells_kept bw _ _ c0,cells_kept bw _ _ c1,cells_kept bw _ _ c2⟩ (fun hS1=>?_)
   clear hK
   try simp only [Act.put,tka,tkb,tkc]
   refine tkm 7 59 (.tuple #[.bool true,.int .i64 0]) ?_
   refine tkm 8 67 (.bool true) ?_
   refine tkm 9 68 (.int .i64 0) ?_
   refine tkm 10 13 (.bool true) ?_
   refine tkm 11 14 (.int .i64 0) ?_
   refine wpAnyH_done (by kernel_rfl) ?_ _
   clear hS0 hS1
   go_wp2_with fail
   refine (sameInts_same ia sa zs.length ic sc zs _ hI hJ).mono ?_
   rintro e Z6 ⟨rfl,d6,rfl⟩
   replace bw:=below_drewN bw d6
   clear hI hJ
   generalize Z5.drewN d6=Z6 at *
   go_wp2
   go_roundw
   case rel=>exact ⟨k+1,by omega,by go_num,bw⟩
   case measure=>simp [intOf];omega
  ·obtain rfl:k=xs.length:=by omega
   replace h1:=h1.below bw
   replace hC:=hC.below bw
   replace hV:=hV.below bw
   replace hF:=hF.below bw
   replace cP:=cells_kept bw _ _ cP
   replace bW:=bel_trans bW bw
   clear bw
   generalize wr=V0 at *
   go_wp2_with fail
   refine (at_any _ _ _ z1 0 2 _ h1 l1 (by omega) (by omega) (by omega)).mono ?_
   rintro e V1 ⟨⟨x0,hx0,rfl⟩,d,rfl⟩
   have hb:Below V0.heap.size V0 (V0.drewN d):=below_drewN (Below.refl _ _) d
   replace h1:=h1.below hb
   replace hC:=hC.below hb
   replace hV:=hV.below hb
   replace hF:=hF.below hb
   replace cP:=cells_kept hb _ _ cP
   replace bW:=bel_trans bW hb
   clear hb
   generalize V0.drewN d=V1 at *
   have hx9:(x0:Int)≤1:=by omega
   have hq0:(0:Int)≤(x0:Int):=by omega
   go_wp2_with fail
   refine (at_any _ _ _ z1 1 3 _ h1 l1 (by omega) (by omega) (by omega)).mono ?_
   rintro e V2 ⟨⟨x1,hx1,rfl⟩,d,rfl⟩
   have hb:Below V1.heap.size V1 (V1.drewN d):=below_drewN (Below.refl _ _) d
   replace h1:=h1.below hb
   replace hC:=hC.below hb
   replace hV:=hV.below hb
   replace hF:=hF.below hb
   replace cP:=cells_kept hb _ _ cP
   replace bW:=bel_trans bW hb
   clear hb
   generalize V1.drewN d=V2 at *
   go_wp2_with fail
   refine (at_any _ _ _ z1 2 4 _ h1 l1 (by omega) (by omega) (by omega)).mono ?_
   rintro e V3 ⟨⟨x2,hx2,rfl⟩,d,rfl⟩
   have hb:Below V2.heap.size V2 (V2.drewN d):=below_drewN (Below.refl _ _) d
   replace h1:=h1.below hb
   replace hC:=hC.below hb
   replace hV:=hV.below hb
   replace hF:=hF.below hb
   replace cP:=cells_kept hb _ _ cP
   replace bW:=bel_trans bW hb
   clear hb
   generalize V2.drewN d=V3 at *
   have hoo:=other_ok hx0 hx1 hx2
   have hlaw:=other_law HOK.out hoo
   rw [← HX.out] at hlaw
   obtain ⟨hlc,hlw⟩:=hlaw
   have kO:=fun (W:World) hC hV=>implWitnessOf_is a 3 cap rows (12+(x0:Int),(x1:Int),(x2:Int)) W hC hV
   have kB:=fun (W:World) hF=>hasBug_is fa xs.length fc xs (12+(x0:Int),(x1:Int),(x2:Int)) W hF (by omega)
   have kV:=fun (la:Option Addr) (n lc:Nat) (ks:List Int) (W:World) (hk:ks.length≤4096) hC hV hL=>implIsWitness_is a 3 cap rows la n lc ks (12+(x0:Int),(x1:Int),(x2:Int)) W hC hV hL
   rw [hlc] at kO
   clear hlc hoo hx0 hx1 hx2
   have HW:Hid (∀ ks:List Int,ks.length≤4096→witC rows ks (12+(x0:Int),(x1:Int),(x2:Int))=0∧(witV rows ks (12+(x0:Int),(x1:Int),(x2:Int))=true→hasB xs (12+(x0:Int),(x1:Int),(x2:Int))=true)):=hlw
   clear hlw
   have uo:I3.val (12+(x0:Int),(x1:Int),(x2:Int))=.agg #[.int .i64 (12+(x0:Int)),.int .i64 (x1:Int),.int .i64 (x2:Int)]:=rfl
   rw [uo] at kO kB kV
   clear uo
   have ha:Below V3.heap.size V3 (V3.alloc (.cells #[.int .i64 (12+(x0:Int)),.int .i64 (x1:Int),.int .i64 (x2:Int)] 64)):=by go_grown
   have cB0:(V3.alloc (.cells #[.int .i64 (12+(x0:Int)),.int .i64 (x1:Int),.int .i64 (x2:Int)] 64)).cell? ⟨V3.heap.size,0,none⟩=some (.int .i64 (12+(x0:Int))):=by simp [go_sem]
   have cB1:(V3.alloc (.cells #[.int .i64 (12+(x0:Int)),.int .i64 (x1:Int),.int .i64 (x2:Int)] 64)).cell? ⟨V3.heap.size,1,none⟩=some (.int .i64 (x1:Int)):=by simp [go_sem]
   have cB2:(V3.alloc (.cells #[.int .i64 (12+(x0:Int)),.int .i64 (x1:Int),.int .i64 (x2:Int)] 64)).cell? ⟨V3.heap.size,2,none⟩=some (.int .i64 (x2:Int)):=by simp [go_sem]
   replace h1:=h1.below ha
   replace hC:=hC.below ha
   replace hV:=hV.below ha
   replace hF:=hF.below ha
   replace cP:=cells_kept ha _ _ cP
   replace bW:=bel_trans bW ha
   clear ha
   go_wp2_with fail
   generalize (V3.alloc (.cells #[.int .i64 (12+(x0:Int)),.int .i64 (x1:Int),.int .i64 (x2:Int)] 64))=V4 at *
   generalize V3.heap.size=X at *
   generalize (12:Int)+(x0:Int)=u0 at *
   generalize (x1:Int)=u1 at *
   generalize (x2:Int)=u2 at *
   have HWV:=HW.out
   clear HW
   cases hh:hasB xs (u0,u1,u2)
   ·rw [hh] at kO kB
    rw [if_neg (by simp)] at kO
    have HWF:Hid (∀ ks:List Int,ks.length≤4096→witC rows ks (u0,u1,u2)=0∧witV rows ks (u0,u1,u2)=false):=fun ks hk=>⟨(HWV ks hk).1,by cases hv:witV rows ks (u0,u1,u2);rfl;rw [(HWV ks hk).2 hv] at hh;cases hh⟩
    clear HWV hh
    refine (kO _ hC hV).mono ?_
    rintro e V5 ⟨⟨v,rfl,q⟩,hb⟩
    obtain ⟨oa,oc,rfl,hI⟩:=lst_slice q
    generalize (wofL rows (u0,u1,u2)).length=on at *
    clear hI q
    replace h1:=h1.below hb
    replace hC:=hC.below hb
    replace hV:=hV.below hb
    replace hF:=hF.below hb
    replace cP:=cells_kept hb _ _ cP
    replace bW:=bel_trans bW hb
    replace cB0:=cells_kept hb _ _ cB0
    replace cB1:=cells_kept hb _ _ cB1
    replace cB2:=cells_kept hb _ _ cB2
    clear hb kO
    go_wp2_with fail
    refine wp_region_held_drew (S:=(fun w'=>w'.cell? ⟨P,0,none⟩=some (.slice a 3 cap)∧w'.cell? ⟨X,0,none⟩=some (.int .i64 u0)∧w'.cell? ⟨X,1,none⟩=some (.int .i64 u1)∧w'.cell? ⟨X,2,none⟩=some (.int .i64 u2))) (by kernel_rfl) ⟨cP,cB0,cB1,cB2⟩ (fun hS0=>?_)
    refine tkm 0 100 (.agg #[.slice a 3 cap]) ?_
    refine tkm 1 101 (.slice a1 len1 cap1) ?_
    refine tkm 2 102 (.agg #[.slice a 3 cap]) ?_
    refine tkm 4 104 (.agg #[.int .i64 u0,.int .i64 u1,.int .i64 u2]) ?_
    have hb:Below V5.heap.size V5 V5.drew:=by go_grown
    replace h1:=h1.below hb
    replace hC:=hC.below hb
    replace hV:=hV.below hb
    replace hF:=hF.below hb
    replace cP:=cells_kept hb _ _ cP
    replace bW:=bel_trans bW hb
    replace cB0:=cells_kept hb _ _ cB0
    replace cB1:=cells_kept hb _ _ cB1
    replace cB2:=cells_kept hb _ _ cB2
    clear hb
    generalize V5.drew=V6 at *
    refine tkr 3 103 (fun K hK=>?_)
    go_simp
    refine (sched_ints6 _ _ _ z1 a cap rows _ h1 l1 hC HOK.out.1).mono ?_
    rintro e V7 ⟨⟨lb,lo,lc,n,ks,rfl,hL,hn⟩,hb⟩
    replace h1:=h1.below hb
    replace hC:=hC.below hb
    replace hV:=hV.below hb
    replace hF:=hF.below hb
    replace cP:=cells_kept hb _ _ cP
    replace bW:=bel_trans bW hb
    replace cB0:=cells_kept hb _ _ cB0
    replace cB1:=cells_kept hb _ _ cB1
    replace cB2:=cells_kept hb _ _ cB2
    clear hb
    go_wp2_with fail
    refine hK.out _ _ ⟨cP,cB0,cB1,cB2⟩ (fun hS1=>?_)
    clear hK
    try simp only [Act.put,tka,tkb,tkc]
    have kX:=kV (some ⟨lb,lo,none⟩) n lc ks _ hn hC hV hL
    rw [(HWF.out ks hn).1,(HWF.out ks hn).2] at kX
    clear hL kV HWF
    refine tkr 5 105 (fun K hK=>?_)
    go_simp
    refine kX.mono ?_
    rintro e V8 ⟨rfl,hb⟩
    replace h1:=h1.below hb
    replace hC:=hC.below hb
    replace hV:=hV.below hb
    replace hF:=hF.below hb
    replace cP:=cells_kept hb _ _ cP
    replace bW:=bel_trans bW hb
    replace cB0:=cells_kept hb _ _ cB0
    replace cB1:=cells_kept hb _ _ cB1
    replace cB2:=cells_kept hb _ _ cB2
    clear hb kX
    go_wp2_with fail
    refine hK.out _ _ ⟨cP,cB0,cB1,cB2⟩ (fun hS2=>?_)
    clear hK
    try simp only [Act.put,tka,tkb,tkc]
    refine tkm 6 99 (.tuple #[.bool false,.int .i64 0]) ?_
    refine tkm 7 106 (.bool false) ?_
    refine tkm 8 107 (.int .i64 0) ?_
    refine tkm 9 18 (.bool false) ?_
    refine tkm 10 19 (.int .i64 0) ?_
    refine wpAnyH_done (by kernel_rfl) ?_ _
    clear hS0 hS1 hS2
    go_wp2_with fail
    refine (kB _ hF).mono ?_
    rintro e V9 ⟨rfl,hb⟩
    replace h1:=h1.below hb
    replace hC:=hC.below hb
    replace hV:=hV.below hb
    replace hF:=hF.below hb
    replace cP:=cells_kept hb _ _ cP
    replace bW:=bel_trans bW hb
    replace cB0:=cells_kept hb _ _ cB0
    replace cB1:=cells_kept hb _ _ cB1
    replace cB2:=cells_kept hb _ _ cB2
    clear hb kB
    go_wp2_with fail
    have kP:=implProgramOK_is a 3 cap rows _ hC
    rw [HOK.out.1] at kP
    refine kP.mono ?_
    rintro e Vx ⟨rfl,hb⟩
    replace bW:=bel_trans bW hb
    clear hb kP
    go_wp2
    go_ret
    exact ⟨rfl,bW⟩
   ·rw [hh] at kO kB
    rw [if_pos rfl] at kO
    have HWF:Hid (∀ ks:List Int,ks.length≤4096→witC rows ks (u0,u1,u2)=0):=fun ks hk=>(HWV ks hk).1
    clear HWV hh
    refine (kO _ hC hV).mono ?_
    rintro e V5 ⟨⟨v,rfl,q⟩,hb⟩
    obtain ⟨oa,oc,rfl,hI⟩:=lst_slice q
    generalize (wofL rows (u0,u1,u2)).length=on at *
    clear hI q
    replace h1:=h1.below hb
    replace hC:=hC.below hb
    replace hV:=hV.below hb
    replace hF:=hF.below hb
    replace cP:=cells_kept hb _ _ cP
    replace bW:=bel_trans bW hb
    replace cB0:=cells_kept hb _ _ cB0
    replace cB1:=cells_kept hb _ _ cB1
    replace cB2:=cells_kept hb _ _ cB2
    clear hb kO
    go_wp2_with fail
    refine wp_region_held_drew (S:=(fun w'=>w'.cell? ⟨P,0,none⟩=some (.slice a 3 cap)∧w'.cell? ⟨X,0,none⟩=some (.int .i64 u0)∧w'.cell? ⟨X,1,none⟩=some (.int .i64 u1)∧w'.cell? ⟨X,2,none⟩=some (.int .i64 u2))) (by kernel_rfl) ⟨cP,cB0,cB1,cB2⟩ (fun hS0=>?_)
    refine tkm 0 100 (.agg #[.slice a 3 cap]) ?_
    refine tkm 1 101 (.slice a1 len1 cap1) ?_
    refine tkm 2 102 (.agg #[.slice a 3 cap]) ?_
    refine tkm 4 104 (.agg #[.int .i64 u0,.int .i64 u1,.int .i64 u2]) ?_
    have hb:Below V5.heap.size V5 V5.drew:=by go_grown
    replace h1:=h1.below hb
    replace hC:=hC.below hb
    replace hV:=hV.below hb
    replace hF:=hF.below hb
    replace cP:=cells_kept hb _ _ cP
    replace bW:=bel_trans bW hb
    replace cB0:=cells_kept hb _ _ cB0
    replace cB1:=cells_kept hb _ _ cB1
    replace cB2:=cells_kept hb _ _ cB2
    clear hb
    generalize V5.drew=V6 at *
    refine tkr 3 103 (fun K hK=>?_)
    go_simp
    refine (sched_ints6 _ _ _ z1 a cap rows _ h1 l1 hC HOK.out.1).mono ?_
    rintro e V7 ⟨⟨lb,lo,lc,n,ks,rfl,hL,hn⟩,hb⟩
    replace h1:=h1.below hb
    replace hC:=hC.below hb
    replace hV:=hV.below hb
    replace hF:=hF.below hb
    replace cP:=cells_kept hb _ _ cP
    replace bW:=bel_trans bW hb
    replace cB0:=cells_kept hb _ _ cB0
    replace cB1:=cells_kept hb _ _ cB1
    replace cB2:=cells_kept hb _ _ cB2
    clear hb
    go_wp2_with fail
    refine hK.out _ _ ⟨cP,cB0,cB1,cB2⟩ (fun hS1=>?_)
    clear hK
    try simp only [Act.put,tka,tkb,tkc]
    have kX:=kV (some ⟨lb,lo,none⟩) n lc ks _ hn hC hV hL
    rw [HWF.out ks hn] at kX
    generalize witV rows ks (u0,u1,u2)=wv at *
    clear hL kV HWF
    refine tkr 5 105 (fun K hK=>?_)
    go_simp
    refine kX.mono ?_
    rintro e V8 ⟨rfl,hb⟩
    replace h1:=h1.below hb
    replace hC:=hC.below hb
    replace hV:=hV.below hb
    replace hF:=hF.below hb
    replace cP:=cells_kept hb _ _ cP
    replace bW:=bel_trans bW hb
    replace cB0:=cells_kept hb _ _ cB0
    replace cB1:=cells_kept hb _ _ cB1
    replace cB2:=cells_kept hb _ _ cB2
    clear hb kX
    go_wp2_with fail
    refine hK.out _ _ ⟨cP,cB0,cB1,cB2⟩ (fun hS2=>?_)
    clear hK
    try simp only [Act.put,tka,tkb,tkc]
    refine tkm 6 99 (.tuple #[.bool wv,.int .i64 0]) ?_
    refine tkm 7 106 (.bool wv) ?_
    refine tkm 8 107 (.int .i64 0) ?_
    refine tkm 9 18 (.bool wv) ?_
    refine tkm 10 19 (.int .i64 0) ?_
    refine wpAnyH_done (by kernel_rfl) ?_ _
    clear hS0 hS1 hS2
    go_wp2_with fail
    refine (kB _ hF).mono ?_
    rintro e V9 ⟨rfl,hb⟩
    replace h1:=h1.below hb
    replace hC:=hC.below hb
    replace hV:=hV.below hb
    replace hF:=hF.below hb
    replace cP:=cells_kept hb _ _ cP
    replace bW:=bel_trans bW hb
    replace cB0:=cells_kept hb _ _ cB0
    replace cB1:=cells_kept hb _ _ cB1
    replace cB2:=cells_kept hb _ _ cB2
    clear hb kB
    cases wv
    ·go_wp2_with fail
     have kP:=implProgramOK_is a 3 cap rows _ hC
     rw [HOK.out.1] at kP
     refine kP.mono ?_
     rintro e Vx ⟨rfl,hb⟩
     replace bW:=bel_trans bW hb
     clear hb kP
     go_wp2
     go_ret
     exact ⟨rfl,bW⟩
    ·go_wp2_with fail
     have kP:=implProgramOK_is a 3 cap rows _ hC
     rw [HOK.out.1] at kP
     refine kP.mono ?_
     rintro e Vx ⟨rfl,hb⟩
     replace bW:=bel_trans bW hb
     clear hb kP
     go_wp2
     go_ret
     exact ⟨rfl,bW⟩

theorem fnWitness_laid {W:World} (h:laidMetH Tryz.prog Rows.fnWitnessRow.laid W):VmShape W:=vmShape_of_laid rfl h
theorem fnWitness_door_met (os:Os) (args:Array Value):laidMetH Tryz.prog Rows.fnWitnessRow.laid ((World.doorLaid Tryz.prog 400 os).forCall (fun _ _=>0) ⟨#[],args,[]⟩).memory:=
 laidMetH_of_parts3 (fuel:=8) (laidMet_of_run' 8 (by kernel_rfl) (by kernel_rfl)) (by kernel_rfl) (by kernel_rfl)


def varsFit (P:Program) (ns:List String):Bool:=ns.all fun n =>
 match P.globalNamed n with
 | some g=>match (P.globals[g]?).map (·.type) with
  | some t=>P.readableRec t && decide (t<P.types.size)
  | none=>false
 | none=>false

theorem var?_lt {P:Program} {W:World} {n:String} {g:Nat} {cs:Array Value} (hg:P.globalNamed n=some g) (hv:W.var? P n=some cs):g<W.heap.size:=by
 rcases Nat.lt_or_ge g W.heap.size with h | h
 ·exact h
 ·unfold World.var? at hv
  simp [hg,Array.getElem?_eq_none h] at hv

theorem vars_below {H:Type} {enc:TypeId × Value→H} {P:Program} {W W':World} (hl:laidOutB P=true) (bel:Below W.heap.size W W') :
  ∀ {ns:List String} {gs:List (DataW H)} {ps:List MemPlace},varsFit P ns=true→DataW.TrodVars enc P W (fun _=>true) ns gs ps→DataW.TrodVars enc P W' (fun b=>decide (b<W.heap.size)) ns gs ps
 | [],[],ps,_,h=>h
 | [],_::_,_,_,h=>by cases h
 | _::_,[],_,_,h=>by cases h
 | n::ns,d::ds,ps,hf,h=>by
  obtain ⟨g,t,cs,fuel,p,q,hg,ht,hv,hd,hr,e⟩:=h
  simp only [varsFit,List.all_cons,Bool.and_eq_true] at hf
  obtain ⟨hf1,hf2⟩:=hf
  rw [hg] at hf1
  simp only [ht,Bool.and_eq_true,decide_eq_true_eq] at hf1
  obtain ⟨fuel',hd'⟩:=Below.trod hl hf1.1 hf1.2 (v:=.agg cs) (⟨fuel,by simpa [Value.cells] using hd⟩:DataW.Trod enc P W 0 (fun _=>true) true t (.agg cs) d p) bel (DataW.trod_lt fuel _ _ _ hd)
  exact ⟨g,t,cs,fuel',p,q,hg,ht,var?_below bel hg (var?_lt hg hv) hv,by simpa [Value.cells] using hd',vars_below hl bel hf2 hr,e⟩

theorem vars_len {H:Type} {enc:TypeId × Value→H} {P:Program} {W:World} {spare:Nat→Bool}:∀ {ns:List String} {gs:List (DataW H)} {ps:List MemPlace},DataW.TrodVars enc P W spare ns gs ps→gs.length=ns.length
 | [],[],_,_=>rfl
 | [],_::_,_,h=>by cases h
 | _::_,[],_,h=>by cases h
 | _::_,_::_,_,h=>by
  obtain ⟨_,_,_,_,_,_,_,_,_,_,hr,_⟩:=h
  simp [vars_len hr]
end Go.Proofs.YtifoggpohlegmaaGreatDoor
