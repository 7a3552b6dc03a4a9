/-
  Joined: RowBelow, VmdA.
-/
import Derived.Test.YtifoggpohlegmaaGreatDoorRows
import Derived.ProofKit
import Derived.OpenShut
import Derived.LaidMore
import Derived.MakeChecks
import Derived.Stop.LaidErr
import Derived.Test.YtifoggpohlegmaaGreatDoorF22

namespace Go.Proofs.YtifoggpohlegmaaGreatDoor
set_option maxRecDepth 100000
set_option maxHeartbeats 16000000
open Go.RowKit

theorem IsRow.below {k:IntKind} {w w':World} {a:Option Addr} {len cap:Nat} {zs:List Int} (h:IsRow k w a len cap zs) (hb:Below w.heap.size w w'):IsRow k w' a len cap zs:=by
 rcases h with h | ⟨x,h1,h2,h3,h4,h5,h6⟩
 ·exact .inl h
 ·refine .inr ⟨x,h1,h2,h3,h4,fun i hi=>?_,h6⟩
  have hc:=h5 i hi
  have hlt:(x.add i).block<w.heap.size:=by
   rcases Nat.lt_or_ge (x.add i).block w.heap.size with h' | h'
   ·exact h'
   ·simp [World.cell?,Array.getElem?_eq_none h'] at hc
  rw [hb.cell hlt]
  exact hc
theorem IsRow.len_le {k:IntKind} {w:World} {a:Option Addr} {len cap:Nat} {zs:List Int} (h:IsRow k w a len cap zs):len≤maxLen:=by
 rcases h with ⟨_,rfl,_,_⟩ | ⟨x,h1,h2,h3,_⟩
 ·omega
 ·omega
theorem IsRow.drew {k:IntKind} {w:World} {a:Option Addr} {len cap:Nat} {zs:List Int} (h:IsRow k w a len cap zs) (d:Nat):IsRow k (w.drewN d) a len cap zs:=h

set_option linter.unusedVariables false
set_option linter.unusedSimpArgs false

theorem cell_grownD {w w':World} {row:Option Nat} (g:w.grownBy w' row) {p:Addr} {v:Value} (hc:w.cell? p=some v) (hne:some p.block≠row):w'.cell? p=some v:=by
 have hl:=World.block_lt_of_cell? _ _ hc
 rw [← hc]
 unfold World.cell?
 rw [g.block p.block hl hne]
theorem vmDrawn_any (a:Option Addr) (n cap:Nat) (zs:List Int) (aP:Option Addr) (capP:Nat) (rows:List (List I3)) (w:World) (hI:IsRow .u8 w a n cap zs) (hn:n≤1048576) (hP:Codes w aP 3 capP rows) (hok:progOk rows=true) :
  Calls Tryz.prog 46 #[.slice a n cap,.agg #[.slice aP 3 capP]] w fun e w'=>(∃ (t:S4) (m:V4),e=.returned t.val∧OwnV w' w.heap.size t m∧shapeOk m=true)∧Below w.heap.size w w':=by
 have hCo:=code_of hI hn
 have bw:Below w.heap.size w ((w.alloc (.cells #[.slice aP 3 capP] 25)).alloc (.cells #[.slice none 0 0,.slice none 0 0,.slice none 0 0,.slice none 0 0] 33)):=by go_grown
 have pP:Blk ((w.alloc (.cells #[.slice aP 3 capP] 25)).alloc (.cells #[.slice none 0 0,.slice none 0 0,.slice none 0 0,.slice none 0 0] 33)) w.heap.size 25 [.slice aP 3 capP]:=blkOld _ (blkAt _ _ _ rfl)
 have pR:Blk ((w.alloc (.cells #[.slice aP 3 capP] 25)).alloc (.cells #[.slice none 0 0,.slice none 0 0,.slice none 0 0,.slice none 0 0] 33)) (w.heap.size+1) 33 [.slice none 0 0,.slice none 0 0,.slice none 0 0,.slice none 0 0]:=blkAt _ _ _ (by simp)
 go_enter Tryz.func46,Tryz.ntmps46
 go_wp2_with fail
 generalize hW1:((w.alloc (.cells #[.slice aP 3 capP] 25)).alloc (.cells #[.slice none 0 0,.slice none 0 0,.slice none 0 0,.slice none 0 0] 33))=W1 at *
 have bw1:=bw
 have cP:W1.cell? ⟨w.heap.size,0,none⟩=some (.slice aP 3 capP):=pP.cell 0
 refine wp_region_held_drew (S:=(fun w'=>w'.cell? ⟨w.heap.size,0,none⟩=some (.slice aP 3 capP))) (by kernel_rfl) cP (fun hS0=>?_)
 refine tkm 0 5 (.slice a n cap) ?_
 refine tkm 2 7 (.agg #[.slice aP 3 capP]) ?_
 refine tkr 1 6 (fun K hK=>?_)
 go_simp
 refine (l00Source_any a n cap W1.drew hn).mono ?_
 rintro e w2 ⟨rfl,hS,hb⟩
 replace hS:Src w2 W1.heap.size (.slice a n cap) 0:=hS
 replace hb:Below W1.heap.size W1 w2:=⟨hb.os,hb.tape,hb.output,hb.size,hb.block⟩
 have hpl:W1.heap.size<w2.heap.size:=hS.lt
 have hCd:Code w2 W1.heap.size a n cap:=by
  obtain ⟨zs',q1,q2,q3,q4⟩:=hCo
  exact ⟨zs',q1.below (bel_trans bw hb),q2,q3,fun x hx h0=>by have:=q4 x hx h0;have:=bw.size;omega⟩
 replace bw:=bel_trans bw hb
 replace pP:=pP.below hb
 replace pR:=pR.below hb
 have hPr:∀ W,Below W1.heap.size w2 W→Codes W aP 3 capP rows:=fun W h=>(hP.below bw1).below (hb.trans h)
 have cP2:w2.cell? ⟨w.heap.size,0,none⟩=some (.slice aP 3 capP):=pP.cell 0
 go_wp2_with fail
 refine hK.out _ _ cP2 (fun hS1=>?_)
 clear hK
 try simp only [Act.put,tka,tkb,tkc]
 refine tkr 3 8 (fun K hK=>?_)
 go_simp
 refine (vm_any W1.heap.size 0 a n cap aP capP rows w2 hS hCd (by omega) hok hPr).mono ?_
 rintro e w3 ⟨⟨⟨⟨t0a,t0n,t0c⟩,⟨t1a,t1n,t1c⟩,⟨t2a,t2n,t2c⟩,⟨t3a,t3n,t3c⟩⟩,m,rfl,hO,hs⟩,hb3⟩
 have uA:S4.val ((t0a,t0n,t0c),(t1a,t1n,t1c),(t2a,t2n,t2c),(t3a,t3n,t3c))=.agg #[.slice t0a t0n t0c,.slice t1a t1n t1c,.slice t2a t2n t2c,.slice t3a t3n t3c]:=rfl
 rw [uA]
 clear uA
 have hX:w.heap.size+1<W1.heap.size:=by simp [← hW1]
 replace pR:=pR.belowB hb3 hX
 have cP3:w3.cell? ⟨w.heap.size,0,none⟩=some (.slice aP 3 capP):=(pP.belowB hb3 (by omega)).cell 0
 replace bw:Below w.heap.size w w3:=bw.trans (hb3.mono (by omega))
 go_wp2_with fail
 refine hK.out _ _ cP3 (fun hS2=>?_)
 clear hK
 try simp only [Act.put,tka,tkb,tkc]
 refine tkz 4 (fun K hK=>?_)
 refine step_store_blkD rfl 33 _ _ rfl (w.heap.size+1) [.slice t0a t0n t0c,.slice t1a t1n t1c,.slice t2a t2n t2c,.slice t3a t3n t3c] rfl rfl pR (by kernel_rfl) rfl rfl ?_
 intro w4 pR2 g2
 have hO4:=(hO.kept9 g2 pR (by decide)).lowerB (B':=w.heap.size) (by have:=bw.size;omega)
 have bw4:=bw.grown g2 bw.size (fun k e=>by cases e;omega)
 have cP4:=cell_grownD g2 cP3 (fun e=>by have h9:=Option.some.inj e;simp at h9)
 refine hK.out _ _ cP4 (fun hS3=>?_)
 clear hK
 try simp only [Act.put,tka,tkb,tkc]
 refine wpAnyH_done (by kernel_rfl) ?_ _
 clear hS hCd hPr hO g2 bw pR pP hS0 hS1 hS2 hS3 cP2 cP3 cP4
 go_wp2_with fail
 refine bodyPost_ret (results_blk1 Tryz.results46 _ _ _ _ _ _ rfl pR2.out Tryz.underlying33 rfl (by kernel_rfl)) rfl ?_
 exact ⟨⟨((t0a,t0n,t0c),(t1a,t1n,t1c),(t2a,t2n,t2c),(t3a,t3n,t3c)),m,rfl,hO4,hs⟩,bw4⟩

end Go.Proofs.YtifoggpohlegmaaGreatDoor
