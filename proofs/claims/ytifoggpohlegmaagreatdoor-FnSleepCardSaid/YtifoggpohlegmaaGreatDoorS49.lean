/-
  Joined: RowBelow, FslW, Vars.
-/
import Derived.WalkSmall
import Derived.ChangeOld
import Derived.Test.YtifoggpohlegmaaGreatDoorS45
import Derived.Test.YtifoggpohlegmaaGreatDoorS46
import Derived.Test.YtifoggpohlegmaaGreatDoorS48

namespace Go.Proofs.YtifoggpohlegmaaGreatDoor
set_option maxRecDepth 100000
set_option maxHeartbeats 16000000
open Go.RowKit

theorem IsRow.below {k:IntKind} {w w':World} {a:Option Addr} {len cap:Nat} {zs:List Int} (h:IsRow k w a len cap zs) (hb:Below w.heap.size w w'):IsRow k w' a len cap zs:=by
 rcases h with h | ⟨x,h1,h2,h3,h4,h5,h6⟩
 ·exact .inl h
 ·refine .inr ⟨x,h1,h2,h3,h4,fun i hi=>?_,h6⟩
  have hc:=h5 i hi
  have hlt:(x.add i).block<w.heap.size:=by
   rcases Nat.lt_or_ge (x.add i).block w.heap.size with h' | h'
   ·exact h'
   ·simp [World.cell?,Array.getElem?_eq_none h'] at hc
  rw [hb.cell hlt]
  exact hc
theorem IsRow.len_le {k:IntKind} {w:World} {a:Option Addr} {len cap:Nat} {zs:List Int} (h:IsRow k w a len cap zs):len≤maxLen:=by
 rcases h with ⟨_,rfl,_,_⟩ | ⟨x,h1,h2,h3,_⟩
 ·omega
 ·omega

set_option linter.unusedVariables false
set_option linter.unusedSimpArgs false

theorem small_code7 {rows:List (List I3)} (h:ProgS rows):codeF rows=0∧(fullS rows).length≤2000:=by
 have:=small_room h.1 h.2.1 h.2.2.1 h.2.2.2
 refine ⟨?_,by omega⟩
 unfold codeF
 rw [if_pos h.1,if_pos (by omega)]
theorem sleep_law {rows:List (List I3)} (h:ProgS rows) (h0:slpC rows=0):slpB rows=allI rows (fullS rows)∧slpR rows≤(cntM rows zeroV:Int):=by
 have h5:(slpS rows).2.2≤5000:=by
  unfold slpC at h0
  rw [if_pos h.1] at h0
  split at h0
  ·assumption
  ·omega
 refine ⟨?_,?_⟩
 ·unfold slpB
  rw [if_pos h0]
  exact slp_all h.1 (small_code7 h).2 h5
 ·unfold slpR
  rw [if_pos h0]
  have:=slp_runs h.1 h5
  omega

theorem fnSleep_walk (a0:Option Addr) (len0 cap0:Nat) (z0:List Int) (a1:Option Addr) (len1 cap1:Nat) (z1:List Int) (w:World) (h0:IsRow .u8 w a0 len0 cap0 z0) (h1:IsRow .u8 w a1 len1 cap1 z1) (hV:VmShape w) :
  Calls Tryz.prog 7 #[.slice a0 len0 cap0,.slice a1 len1 cap1] w fun e w'=>e=.returned (.bool true)∧Below w.heap.size w w':=by
 have m0:=h0.len_le
 have m1:=h1.len_le
 unfold maxLen at m0 m1
 by_cases hb0:1048576<len0
 ·go_enter Tryz.func7,Tryz.ntmps7
  go_wp2
  go_ret
  exact ⟨rfl,Below.refl _ _⟩
 by_cases hb1:1048576<len1
 ·go_enter Tryz.func7,Tryz.ntmps7
  go_wp2
  go_ret
  exact ⟨rfl,Below.refl _ _⟩
 have l0:len0≤1048576:=by omega
 have l1:len1≤1048576:=by omega
 clear hb0 hb1 m0 m1 h1
 go_enter Tryz.func7,Tryz.ntmps7
 go_wp2_with fail
 refine (smallDrawn_any _ _ _ z0 _ h0 l0).mono ?_
 rintro e w1 ⟨⟨v,rows,hok,rfl,ho⟩,bw⟩
 have h3:=(progOk_parts hok.1).1
 obtain ⟨a,cap,hv⟩:=ho.slice
 rw [h3] at hv
 subst hv
 have hC:=ho.codes (fun r hr x hx=>okI_fits ((progOk_parts hok.1).2 r hr |>.2 x hx))
 replace hV:=hV.below bw
 obtain ⟨hcf,hfl⟩:=small_code7 hok
 have HL:Hid (slpC rows=0→slpB rows=allI rows (fullS rows)∧slpR rows≤(cntM rows zeroV:Int)):=fun h=>sleep_law hok h
 have hbO:bugsO rows=allI rows (fullS rows):=by unfold bugsO;rw [if_pos hcf]
 have hcV:countV rows=(cntM rows zeroV:Int):=by unfold countV;rw [if_pos hcf]
 have hfb:=bugsO_ok rows
 have hfs:=slpB_ok rows
 have kI:=fun (W:World) (b:Below w1.heap.size w1 W)=>implSleepSearch_is a 3 cap rows W (hC.below b) (hV.below b)
 have kS:=fun (W:World) (b:Below w1.heap.size w1 W)=>specSleepSearch_is a 3 cap rows W (hC.below b)
 have kB:=fun (W:World) (b:Below w1.heap.size w1 W)=>implAllBugs_is a 3 cap rows W (hC.below b) (hV.below b)
 have kC:=fun (W:World) (b:Below w1.heap.size w1 W)=>implCountRuns_is a 3 cap rows W (hC.below b) (hV.below b)
 have kD:=fun (W:World) (b:Below w1.heap.size w1 W)=>specCountRuns_is a 3 cap rows W (hC.below b)
 rw [hcf] at kB kC kD
 rw [hcV] at kC kD
 rw [hbO] at kB hfb
 have hC15:slpC rows=0∨slpC rows≠0:=by omega
 generalize slpC rows=sc at *
 generalize slpB rows=sb at *
 generalize slpR rows=sr at *
 generalize slpN rows=sn at *
 generalize (cntM rows zeroV:Int)=cn at *
 generalize allI rows (fullS rows)=al at *
 clear ho h0 h3 hC hV hok hcf hfl hbO hcV
 have ha:Below w1.heap.size w1 (w1.alloc (.cells #[.slice a 3 cap] 25)):=by go_grown
 have pP:Blk (w1.alloc (.cells #[.slice a 3 cap] 25)) w1.heap.size 25 [.slice a 3 cap]:=blkAt _ _ _ rfl
 have b1:=ha
 replace bw:=bel_trans bw ha
 clear ha
 go_wp2_with (first | refine wpList_load_blk rfl 25 _ rfl w1.heap.size rfl pP _ Tryz.underlying25 rfl (by kernel_rfl) ?_)
 generalize (w1.alloc (.cells #[.slice a 3 cap] 25))=U at *
 have kIx:=kI U b1
 clear kI
 have hPw:w1.heap.size<U.heap.size:=pP.lt
 obtain ⟨P,hP⟩:∃ P,P=w1.heap.size:=⟨_,rfl⟩
 rw [← hP] at pP ⊢
 clear hP hPw
 refine kIx.mono ?_
 rintro e u1 ⟨⟨vR,rfl,qR⟩,hb⟩
 obtain ⟨vRa,vRc,rfl,_,_⟩:=bugs_sliceR qR hfs.1
 replace b1:=bel_trans b1 hb
 replace bw:=bel_trans bw hb
 replace pP:=pP.below hb
 clear hb kIx
 have pN:=Blk.new u1 70 [.slice none 0 0,.int .i64 0,.int .i64 0]
 have ha:Below u1.heap.size u1 (u1.alloc (.cells #[.slice none 0 0,.int .i64 0,.int .i64 0] 70)):=by go_grown
 go_wp2_with (refine wpList_store_blk rfl 70 _ _ rfl u1.heap.size [.slice vRa sb.length vRc,.int .i64 sr,.int .i64 sn] rfl rfl pN (by kernel_rfl) rfl rfl ?_)
 intro u2 p9 g9
 have pR:=p9.out
 have hb:Below u1.heap.size u1 u2:=ha.grown g9 ha.size (fun q e=>by cases e;exact Nat.le_refl _)
 replace b1:=bel_trans b1 hb
 replace bw:=bel_trans bw hb
 replace pP:=pP.below hb
 replace qR:=owns_below qR hb
 clear p9 g9 ha pN hb
 generalize u1.heap.size=YpR at *
 have kSx:=kS u2 b1
 go_wp2_with (first | refine wpList_load_blk rfl 25 _ rfl P rfl pP _ Tryz.underlying25 rfl (by kernel_rfl) ?_)
 refine kSx.mono ?_
 rintro e u3 ⟨⟨vW,rfl,qW⟩,hb⟩
 obtain ⟨vWa,vWc,rfl,_,_⟩:=bugs_sliceR qW hfs.1
 replace b1:=bel_trans b1 hb
 replace bw:=bel_trans bw hb
 replace pP:=pP.below hb
 replace qR:=owns_below qR hb
 replace pR:=pR.below hb
 clear hb kSx kS
 have pN:=Blk.new u3 70 [.slice none 0 0,.int .i64 0,.int .i64 0]
 have ha:Below u3.heap.size u3 (u3.alloc (.cells #[.slice none 0 0,.int .i64 0,.int .i64 0] 70)):=by go_grown
 go_wp2_with (refine wpList_store_blk rfl 70 _ _ rfl u3.heap.size [.slice vWa sb.length vWc,.int .i64 sr,.int .i64 sn] rfl rfl pN (by kernel_rfl) rfl rfl ?_)
 intro u4 p9 g9
 have pW:=p9.out
 have hb:Below u3.heap.size u3 u4:=ha.grown g9 ha.size (fun q e=>by cases e;exact Nat.le_refl _)
 replace b1:=bel_trans b1 hb
 replace bw:=bel_trans bw hb
 replace pP:=pP.below hb
 replace qR:=owns_below qR hb
 replace pR:=pR.below hb
 replace qW:=owns_below qW hb
 clear p9 g9 ha pN hb
 generalize u3.heap.size=YpW at *
 have kBx:=kB u4 b1
 go_wp2_with (first | refine wpList_load_blk rfl 25 _ rfl P rfl pP _ Tryz.underlying25 rfl (by kernel_rfl) ?_)
 refine kBx.mono ?_
 rintro e u5 ⟨⟨vB,rfl,qA⟩,hb⟩
 obtain ⟨vBa,vBc,rfl,_,_⟩:=bugs_sliceR qA hfb.1
 replace b1:=bel_trans b1 hb
 replace bw:=bel_trans bw hb
 replace pP:=pP.below hb
 replace qR:=owns_below qR hb
 replace pR:=pR.below hb
 replace qW:=owns_below qW hb
 replace pW:=pW.below hb
 clear hb kBx kB
 have kx:=kC u5 b1
 go_wp2_with (first | refine wpList_load_blk rfl 25 _ rfl P rfl pP _ Tryz.underlying25 rfl (by kernel_rfl) ?_)
 refine kx.mono ?_
 rintro e u6 ⟨rfl,hb⟩
 replace b1:=bel_trans b1 hb
 replace bw:=bel_trans bw hb
 replace pP:=pP.below hb
 replace qR:=owns_below qR hb
 replace pR:=pR.below hb
 replace qW:=owns_below qW hb
 replace pW:=pW.below hb
 replace qA:=owns_below qA hb
 clear hb kx kC
 have kx:=kD u6 b1
 go_wp2_with (first | refine wpList_load_blk rfl 25 _ rfl P rfl pP _ Tryz.underlying25 rfl (by kernel_rfl) ?_)
 refine kx.mono ?_
 rintro e u7 ⟨rfl,hb⟩
 replace b1:=bel_trans b1 hb
 replace bw:=bel_trans bw hb
 replace pP:=pP.below hb
 replace qR:=owns_below qR hb
 replace pR:=pR.below hb
 replace qW:=owns_below qW hb
 replace pW:=pW.below hb
 replace qA:=owns_below qA hb
 clear hb kx kD
 have r0:u7.cell? ⟨YpR,0,none⟩=some (.slice vRa sb.length vRc):=by simpa using pR.cell 0
 have r1:u7.cell? ⟨YpR,1,none⟩=some (.int .i64 sr):=by simpa using pR.cell 1
 have r2:u7.cell? ⟨YpR,2,none⟩=some (.int .i64 sn):=by simpa using pR.cell 2
 have s0:u7.cell? ⟨YpW,0,none⟩=some (.slice vWa sb.length vWc):=by simpa using pW.cell 0
 have s1:u7.cell? ⟨YpW,1,none⟩=some (.int .i64 sr):=by simpa using pW.cell 1
 have s2:u7.cell? ⟨YpW,2,none⟩=some (.int .i64 sn):=by simpa using pW.cell 2
 have e1:(sc != sc)=false:=by simp
 have e2:(sr != sr)=false:=by simp
 have e3:(sn != sn)=false:=by simp
 have e4:(cn != cn)=false:=by simp
 have kM:=sameBugs_same vRa vWa sb.length vRc vWc sb u7 (instrs_rowS qR hfs.1) (instrs_rowS qW hfs.1) (by omega)
 go_wp2_with fail
 refine kM.mono ?_
 rintro e u8 ⟨rfl,hb⟩
 replace b1:=bel_trans b1 hb
 replace bw:=bel_trans bw hb
 replace pP:=pP.below hb
 replace qR:=owns_below qR hb
 replace pR:=pR.below hb
 replace qA:=owns_below qA hb
 clear hb kM r0 r1 r2 s0 s1 s2 pW qW
 rcases hC15 with hc | hc
 ·obtain ⟨hB,hR9⟩:=HL.out hc
  subst hc
  subst hB
  have hle:decide (sr≤cn)=true:=by simp [hR9]
  have r0:u8.cell? ⟨YpR,0,none⟩=some (.slice vRa sb.length vRc):=by simpa using pR.cell 0
  have r1:u8.cell? ⟨YpR,1,none⟩=some (.int .i64 sr):=by simpa using pR.cell 1
  have kM:=fun (W:World) (b:Below u8.heap.size u8 W)=>sameBugs_same vRa vBa sb.length vRc vBc sb W ((instrs_rowS qR hfs.1).below b) ((instrs_rowS qA hfb.1).below b) (by omega)
  clear HL
  go_wp2_with fail
  refine (kM _ (Below.refl _ _)).mono ?_
  rintro e u9 ⟨rfl,hb⟩
  have r1b:u9.cell? ⟨YpR,1,none⟩=some (.int .i64 sr):=cells_kept hb _ _ r1
  replace bw:=bel_trans bw hb
  clear kM r0 r1 hb qR qA
  go_wp2
  go_ret
  exact ⟨rfl,bw⟩
 ·have hcn:(sc != 0)=true:=by simp [hc]
  clear HL hc qR qA pR
  go_wp2
  go_ret
  exact ⟨rfl,bw⟩

theorem fnSleep_laid {W:World} (h:laidMetH Tryz.prog Rows.fnSleepRow.laid W):VmShape W:=vmShape_of_laid rfl h
theorem fnSleep_door_met (os:Os) (args:Array Value):laidMetH Tryz.prog Rows.fnSleepRow.laid ((World.doorLaid Tryz.prog 400 os).forCall (fun _ _=>0) ⟨#[],args,[]⟩).memory:=
 laidMetH_of_parts3 (fuel:=8) (laidMet_of_run' 8 (by kernel_rfl) (by kernel_rfl)) (by kernel_rfl) (by kernel_rfl)


def varsFit (P:Program) (ns:List String):Bool:=ns.all fun n =>
 match P.globalNamed n with
 | some g=>match (P.globals[g]?).map (·.type) with
  | some t=>P.readableRec t && decide (t<P.types.size)
  | none=>false
 | none=>false

theorem var?_lt {P:Program} {W:World} {n:String} {g:Nat} {cs:Array Value} (hg:P.globalNamed n=some g) (hv:W.var? P n=some cs):g<W.heap.size:=by
 rcases Nat.lt_or_ge g W.heap.size with h | h
 ·exact h
 ·unfold World.var? at hv
  simp [hg,Array.getElem?_eq_none h] at hv

theorem vars_below {H:Type} {enc:TypeId × Value→H} {P:Program} {W W':World} (hl:laidOutB P=true) (bel:Below W.heap.size W W') :
  ∀ {ns:List String} {gs:List (DataW H)} {ps:List MemPlace},varsFit P ns=true→DataW.TrodVars enc P W (fun _=>true) ns gs ps→DataW.TrodVars enc P W' (fun b=>decide (b<W.heap.size)) ns gs ps
 | [],[],ps,_,h=>h
 | [],_::_,_,_,h=>by cases h
 | _::_,[],_,_,h=>by cases h
 | n::ns,d::ds,ps,hf,h=>by
  obtain ⟨g,t,cs,fuel,p,q,hg,ht,hv,hd,hr,e⟩:=h
  simp only [varsFit,List.all_cons,Bool.and_eq_true] at hf
  obtain ⟨hf1,hf2⟩:=hf
  rw [hg] at hf1
  simp only [ht,Bool.and_eq_true,decide_eq_true_eq] at hf1
  obtain ⟨fuel',hd'⟩:=Below.trod hl hf1.1 hf1.2 (v:=.agg cs) (⟨fuel,by simpa [Value.cells] using hd⟩:DataW.Trod enc P W 0 (fun _=>true) true t (.agg cs) d p) bel (DataW.trod_lt fuel _ _ _ hd)
  exact ⟨g,t,cs,fuel',p,q,hg,ht,var?_below bel hg (var?_lt hg hv) hv,by simpa [Value.cells] using hd',vars_below hl bel hf2 hr,e⟩

theorem vars_len {H:Type} {enc:TypeId × Value→H} {P:Program} {W:World} {spare:Nat→Bool}:∀ {ns:List String} {gs:List (DataW H)} {ps:List MemPlace},DataW.TrodVars enc P W spare ns gs ps→gs.length=ns.length
 | [],[],_,_=>rfl
 | [],_::_,_,h=>by cases h
 | _::_,[],_,h=>by cases h
 | _::_,_::_,_,h=>by
  obtain ⟨_,_,_,_,_,_,_,_,_,_,hr,_⟩:=h
  simp [vars_len hr]
end Go.Proofs.YtifoggpohlegmaaGreatDoor
