/-
  Joined: SchD, FrP.
-/
import Derived.Test.YtifoggpohlegmaaGreatDoorC41

namespace Go.Proofs.YtifoggpohlegmaaGreatDoor
set_option maxRecDepth 100000
set_option maxHeartbeats 16000000
open Go.RowKit
set_option linter.unusedVariables false
set_option linter.unusedSimpArgs false

theorem scheduleDrawn_any (a:Option Addr) (n cap:Nat) (zs:List Int) (aP:Option Addr) (capP:Nat) (rows:List (List I3)) (w:World) (hI:IsRow .u8 w a n cap zs) (hn:n≤1048576) (hP:Codes w aP 3 capP rows) (hok:progOk rows=true) :
  Calls Tryz.prog 11 #[.slice a n cap,.agg #[.slice aP 3 capP]] w fun e w'=>SchdGot e w' w.heap.size rows∧Below w.heap.size w w':=by
 have hCo:=code_of hI hn
 have bw:Below w.heap.size w (w.alloc (.cells #[.slice aP 3 capP] 25)):=by go_grown
 have pP:Blk (w.alloc (.cells #[.slice aP 3 capP] 25)) w.heap.size 25 [.slice aP 3 capP]:=blkAt _ _ _ rfl
 go_enter Tryz.func11,Tryz.ntmps11
 go_wp2_with fail
 have hX:w.heap.size<(w.alloc (.cells #[.slice aP 3 capP] 25)).heap.size:=pP.lt
 generalize (w.alloc (.cells #[.slice aP 3 capP] 25))=W1 at *
 have bw1:=bw
 have cP:W1.cell? ⟨w.heap.size,0,none⟩=some (.slice aP 3 capP):=pP.cell 0
 refine wp_region_held_drew (S:=(fun w'=>w'.cell? ⟨w.heap.size,0,none⟩=some (.slice aP 3 capP))) (by kernel_rfl) cP (fun hS0=>?_)
 refine tkm 0 5 (.slice a n cap) ?_
 refine tkm 2 7 (.agg #[.slice aP 3 capP]) ?_
 refine tkr 1 6 (fun K hK=>?_)
 go_simp
 refine (l00Source_any a n cap W1.drew hn).mono ?_
 rintro e w2 ⟨rfl,hS,hb⟩
 replace hS:Src w2 W1.heap.size (.slice a n cap) 0:=hS
 replace hb:Below W1.heap.size W1 w2:=⟨hb.os,hb.tape,hb.output,hb.size,hb.block⟩
 have hpl:W1.heap.size<w2.heap.size:=hS.lt
 have hCd:Code w2 W1.heap.size a n cap:=by
  obtain ⟨zs',q1,q2,q3,q4⟩:=hCo
  exact ⟨zs',q1.below (bel_trans bw hb),q2,q3,fun x hx h0=>by have:=q4 x hx h0;have:=bw.size;omega⟩
 replace bw:=bel_trans bw hb
 replace pP:=pP.below hb
 have hPr:∀ W,Below W1.heap.size w2 W→Codes W aP 3 capP rows:=fun W h=>(hP.below bw1).below (hb.trans h)
 have cP2:w2.cell? ⟨w.heap.size,0,none⟩=some (.slice aP 3 capP):=pP.cell 0
 go_wp2_with fail
 refine hK.out _ _ cP2 (fun hS1=>?_)
 clear hK
 try simp only [Act.put,tka,tkb,tkc]
 refine tkr 3 8 (fun K hK=>?_)
 go_simp
 refine (schedule_any W1.heap.size 0 a n cap aP capP rows w2 hS hCd (by omega) hok hPr).mono ?_
 rintro e w3 ⟨⟨v,ks,m,hsm,rfl,q,hl,hg⟩,hb3⟩
 have cP3:w3.cell? ⟨w.heap.size,0,none⟩=some (.slice aP 3 capP):=(pP.belowB hb3 (by omega)).cell 0
 have hw2:w.heap.size≤w2.heap.size:=bw.size
 replace bw:Below w.heap.size w w3:=bw.trans (hb3.mono (by omega))
 go_wp2_with fail
 refine hK.out _ _ cP3 (fun hS2=>?_)
 clear hK
 try simp only [Act.put,tka,tkb,tkc]
 refine tkm 4 4 v ?_
 refine wpAnyH_done (by kernel_rfl) ?_ _
 have hG:SchdGot (.returned v) w3 w.heap.size rows:=⟨v,ks,m,hsm,rfl,own_lowerB q hw2,hl,hg⟩
 clear hS hCd hPr pP hS0 hS1 hS2 cP2 cP3 q hsm
 go_wp2_with fail
 go_ret
 exact ⟨hG,bw⟩


theorem goes_run {rows:List (List I3)} {ks:List Int} {m:V4} (hp:progOk rows=true) (h:goesTo rows ks m) (hl:ks.length≤14):runZ rows ks=m∧runC rows ks=0∧shapeOk m=true:=by
 obtain ⟨h1,h2⟩:=h
 have h9:¬ 4096<ks.length:=by omega
 unfold runZ runC
 simp only [if_neg h9,if_pos hp]
 refine ⟨h2,h1,?_⟩
 rw [← h2]
 exact (runI_ok hp ks zeroV [] zero_shape (by simp)).1
end Go.Proofs.YtifoggpohlegmaaGreatDoor
