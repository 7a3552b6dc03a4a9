/-
  Joined: TxeS, TruS, TrfP, SameVmI, EqlB.
-/
import Derived.Laws.StructEq
import Derived.Test.YtnffeclgboomoaaGreatDoorT44

namespace Go.Proofs.YtnffeclgboomoaaGreatDoor
set_option maxRecDepth 100000
set_option maxHeartbeats 16000000
open Go.RowKit
set_option linter.unusedVariables false
set_option linter.unusedSimpArgs false

theorem Ry (e:E3) (s:Sl2) (w:World) (h:Z1 w s e) (hok:ZS e=true) :
  Calls Tryz.prog 146 #[ZR e.1 s] w fun x w'=>x=.returned (.string (Qw e))∧Below w.heap.size w w':=by
 obtain ⟨i1,hi1,hz10,hz11,hz12⟩:=info_parts XC
 have hl1:=h.2.1.1
 have hl2:=h.2.2.1.1
 have hc2:=h.2.2.1.2.1
 obtain ⟨⟨_,z1,z2⟩,hB,hF,hfw⟩:=h
 obtain ⟨ek,eb,ez⟩:=e
 obtain ⟨⟨a1,n1,c1⟩,⟨a2,n2,c2⟩⟩:=s
 unfold ZR
 simp only at *
 have bw0:Below w.heap.size w ((w.alloc (.cells #[.string ek,.slice a1 n1 c1,.slice a2 n2 c2] 45)).alloc (.cells #[.int .i64 (n1:Int)] 3)):=by go_grown
 have pX0:Blk ((w.alloc (.cells #[.string ek,.slice a1 n1 c1,.slice a2 n2 c2] 45)).alloc (.cells #[.int .i64 (n1:Int)] 3)) w.heap.size 45 [.string ek,.slice a1 n1 c1,.slice a2 n2 c2]:=Zg _ (Zi _ _ _ rfl)
 have hb30:n1≤30:=by have:=Ri hok;simp only at this;omega
 have hf23:n2≤23:=by have:=Rj hok;simp only at this;omega
 have hk16:ek.size≤15:=by have:ek.size=15:=T4 hok;omega
 have HOK:=P2 hok
 have HLN:=R8 hok
 have no2:=Xk (m:=0) (P:=True) z2 hc2
 obtain ⟨tn,htn⟩:∃ tn,tn=Qx (ek,eb,ez):=⟨_,rfl⟩
 obtain ⟨L8,hL8⟩:∃ L8,L8=tn.length:=⟨_,rfl⟩
 have HL8m:L8≤114:=by rw [hL8,htn];exact HLN
 obtain ⟨tx,htx⟩:∃ tx,tx=strOfNums (UK tn):=⟨_,rfl⟩
 have hts:tx.size≤575:=by rw [htx];have:=M5 (zs:=tn);omega
 have HX:Hid (Qw (ek,eb,ez)=ek++tx):=by rw [Hid,Qw,htx,htn]
 have kP:∀ ma mc W,Z2 .i64 W ma L8 mc tn→Calls Tryz.prog 195 #[.slice ma L8 mc] W fun e w'=>e=.returned (.string tx)∧Below W.heap.size W w':=fun ma mc W hI=>by
  rw [htx]
  exact Ny ma L8 mc tn W hI (by omega) (htn▸HOK)
 obtain ⟨fx,hfx⟩:∃ fx,fx=Qw (ek,eb,ez):=⟨_,rfl⟩
 rw [← hfx]
 rw [← hfx] at HX
 have HTN:Hid (tn=((n1:Int)::ZT eb)++ez):=by rw [Hid,htn,Qx];simp only;rw [hl1]
 have HL8l:Hid (L8=tn.length):=hL8
 clear hok htn hL8 htx hfx HOK HLN z1 z2 hc2
 have M0:((w.alloc (.cells #[.string ek,.slice a1 n1 c1,.slice a2 n2 c2] 45)).alloc (.cells #[.int .i64 (n1:Int)] 3)).ownsRow (w.heap.size+1) 3 1 (.slice (some ⟨w.heap.size+1,0,none⟩) 1 1) 1 ([(n1:Int)].map (Value.int .i64)):=by
  have h9:=World.ownsRow_lit (base:=w.heap.size+1) (e:=3) (size:=1) (w.alloc (.cells #[.string ek,.slice a1 n1 c1,.slice a2 n2 c2] 45)) #[.int .i64 (n1:Int)] 1 (by simp) (by unfold maxLen;omega) (by simp)
  simpa using h9
 have hs0:w.heap.size+1≤((w.alloc (.cells #[.string ek,.slice a1 n1 c1,.slice a2 n2 c2] 45)).alloc (.cells #[.int .i64 (n1:Int)] 3)).heap.size:=by simp
 go_enter Tryz.func146,Tryz.ntmps146
 go_wp2_with fail
 generalize ((w.alloc (.cells #[.string ek,.slice a1 n1 c1,.slice a2 n2 c2] 45)).alloc (.cells #[.int .i64 (n1:Int)] 3))=V0 at *
 go_loopw [3,4] (fun so si wr=>∃ (k:Nat) (va:Option Addr) (vn vc:Nat),k≤n1∧si=.int .i64 k∧so=.slice va vn vc∧wr.ownsRow (w.heap.size+1) 3 1 (.slice va vn vc) ((n1:Int)::ZT (eb.take k)).length (((n1:Int)::ZT (eb.take k)).map (Value.int .i64))∧Below w.heap.size w wr∧Blk wr w.heap.size 45 [.string ek,.slice a1 n1 c1,.slice a2 n2 c2]∧w.heap.size+1≤wr.heap.size) (fun _ si _=>n1 - (intOf si).toNat)
 case atStart=>exact ⟨0,_,_,_,by omega,rfl,rfl,by simpa [ZT] using M0,bw0,pX0,hs0⟩
 case round =>
  obtain ⟨k,xa,xn,xc,hk,rfl,rfl,ho,bw,pX,hsw⟩:=hrel
  clear M0 bw0 pX0 hs0
  by_cases hlt:k<n1
  ·have hB9:=hB
   obtain ⟨_,_,_,_,hcase⟩:=hB9
   rcases hcase with e0 | ⟨b,off,rfl,hbw,hc⟩
   ·omega
   have hx9:=hc k hlt
   clear hc
   have hst:(n1:Int)::ZT (eb.take (k+1))=((n1:Int)::ZT (eb.take k))++[(eb.getD k (0,0,0)).1,(eb.getD k (0,0,0)).2.1,(eb.getD k (0,0,0)).2.2]:=by rw [PV (by omega)];rfl
   have hrl:((n1:Int)::ZT (eb.take k)).length≤91:=by rw [List.length_cons,Xd,List.length_take];omega
   generalize (n1:Int)::ZT (eb.take k)=R at *
   generalize eb.getD k (0,0,0)=x at *
   obtain ⟨p0,p1,p2⟩:=x
   simp only at hx9 hst
   have HS:Hid ((n1:Int)::ZT (eb.take (k+1))=R++[p0,p1,p2]):=hst
   clear hst
   have yw:=pX.cell 1
   simp only [List.getElem?_cons_zero,List.getElem?_cons_succ] at yw
   have bd:Below wr.heap.size wr wr.drew:=by go_grown
   replace bw:=Zh bw bd
   replace pX:=pX.below bd
   replace ho:=Yi ho bd
   have hsd:w.heap.size+1≤wr.drew.heap.size:=Nat.le_trans hsw bd.size
   obtain ⟨x0,x1,x2⟩:wr.drew.cell? ⟨b,off+k*3,none⟩=some (.int .i64 p0)∧wr.drew.cell? ⟨b,off+k*3+1,none⟩=some (.int .i64 p1)∧wr.drew.cell? ⟨b,off+k*3+2,none⟩=some (.int .i64 p2):=by rw [bw.cell (p:=⟨b,_,none⟩) hbw,bw.cell (p:=⟨b,_,none⟩) hbw,bw.cell (p:=⟨b,_,none⟩) hbw];exact hx9
   have y1:=pX.cell 1
   simp only [List.getElem?_cons_zero,List.getElem?_cons_succ] at y1
   have hlt':(k:Int)<(n1:Int):=by omega
   have hk0:(0:Int)≤(k:Int):=by omega
   have hb2:Below wr.drew.heap.size wr.drew (wr.drew.alloc (.cells #[.int .i64 p0,.int .i64 p1,.int .i64 p2] 3)):=by go_grown
   have ho2:=Yi ho hb2
   have hs3:w.heap.size+1≤(wr.drew.alloc (.cells #[.int .i64 p0,.int .i64 p1,.int .i64 p2] 3)).heap.size:=by have:=hb2.size;omega
   have hnw:∀ ad,some (⟨wr.heap.size,0,none⟩:Addr)=some ad→∀ j u,([p0,p1,p2].map (Value.int .i64))[j]?=some u→(wr.drew.alloc (.cells #[.int .i64 p0,.int .i64 p1,.int .i64 p2] 3)).cell? (ad.add j)=some u:=Ji wr.drew [.int .i64 p0,.int .i64 p1,.int .i64 p2] 3
   have e9:(wr.drew.alloc (.cells #[.int .i64 p0,.int .i64 p1,.int .i64 p2] 3))=(wr.alloc (.cells #[.int .i64 p0,.int .i64 p1,.int .i64 p2] 3)).drew:=rfl
   rw [e9] at hb2 ho2 hs3 hnw
   clear e9 bd hsd
   go_wp2_with fail
   refine wp_region_held_drew (S:=(fun w'=>w'.cell? ⟨w.heap.size,1,none⟩=some (.slice (some ⟨b,off,none⟩) n1 c1)∧w'.cell? ⟨b,off+k*3,none⟩=some (.int .i64 p0)∧w'.cell? ⟨b,off+k*3+1,none⟩=some (.int .i64 p1)∧w'.cell? ⟨b,off+k*3+2,none⟩=some (.int .i64 p2))) (by kernel_rfl) ⟨y1,x0,x1,x2⟩ (fun hS0=>?_)
   refine tkx 0 16 (.slice xa xn xc) ?_ ?_
   ·(intro w' hSw;(try dsimp only at hSw);go_simp;first | done | rfl | omega | (intro h9;omega) | (rw [IntKind.wrap_i64];omega))
   simp only [Act.put,tka,tkb,tkc]
   refine tkx 1 17 (.pointer (some ⟨w.heap.size,1,none⟩)) ?_ ?_
   ·(intro w' hSw;(try dsimp only at hSw);go_simp;first | done | rfl | omega | (intro h9;omega) | (rw [IntKind.wrap_i64];omega))
   simp only [Act.put,tka,tkb,tkc]
   refine tkx 2 18 (.slice (some ⟨b,off,none⟩) n1 c1) ?_ ?_
   ·(intro w' hSw;(try dsimp only at hSw);go_simp;first | done | rfl | omega | (intro h9;omega) | (rw [IntKind.wrap_i64];omega))
   simp only [Act.put,tka,tkb,tkc]
   refine tkx 3 19 (.int .i64 (k:Int)) ?_ ?_
   ·(intro w' hSw;(try dsimp only at hSw);go_simp;first | done | rfl | omega | (intro h9;omega) | (rw [IntKind.wrap_i64];omega))
   simp only [Act.put,tka,tkb,tkc]
   refine tkx 4 20 (.pointer (some ⟨b,off+k*3,none⟩)) ?_ ?_
   ·(intro w' hSw;(try dsimp only at hSw);go_simp;first | done | rfl | omega | (intro h9;omega) | (rw [IntKind.wrap_i64];omega))
   simp only [Act.put,tka,tkb,tkc]
   refine tkx 5 21 (.pointer (some ⟨b,off+k*3,none⟩)) ?_ ?_
   ·(intro w' hSw;(try dsimp only at hSw);go_simp;first | done | rfl | omega | (intro h9;omega) | (rw [IntKind.wrap_i64];omega))
   simp only [Act.put,tka,tkb,tkc]
   refine tkx 6 22 (.int .i64 p0) ?_ ?_
   ·(intro w' hSw;(try dsimp only at hSw);go_simp;first | done | rfl | omega | (intro h9;omega) | (rw [IntKind.wrap_i64];omega))
   simp only [Act.put,tka,tkb,tkc]
   refine tkx 7 23 (.pointer (some ⟨w.heap.size,1,none⟩)) ?_ ?_
   ·(intro w' hSw;(try dsimp only at hSw);go_simp;first | done | rfl | omega | (intro h9;omega) | (rw [IntKind.wrap_i64];omega))
   simp only [Act.put,tka,tkb,tkc]
   refine tkx 8 24 (.slice (some ⟨b,off,none⟩) n1 c1) ?_ ?_
   ·(intro w' hSw;(try dsimp only at hSw);go_simp;first | done | rfl | omega | (intro h9;omega) | (rw [IntKind.wrap_i64];omega))
   simp only [Act.put,tka,tkb,tkc]
   refine tkx 9 25 (.int .i64 (k:Int)) ?_ ?_
   ·(intro w' hSw;(try dsimp only at hSw);go_simp;first | done | rfl | omega | (intro h9;omega) | (rw [IntKind.wrap_i64];omega))
   simp only [Act.put,tka,tkb,tkc]
   refine tkx 10 26 (.pointer (some ⟨b,off+k*3,none⟩)) ?_ ?_
   ·(intro w' hSw;(try dsimp only at hSw);go_simp;first | done | rfl | omega | (intro h9;omega) | (rw [IntKind.wrap_i64];omega))
   simp only [Act.put,tka,tkb,tkc]
   refine tkx 11 27 (.pointer (some ⟨b,off+k*3+1,none⟩)) ?_ ?_
   ·(intro w' hSw;(try dsimp only at hSw);go_simp;first | done | rfl | omega | (intro h9;omega) | (rw [IntKind.wrap_i64];omega))
   simp only [Act.put,tka,tkb,tkc]
   refine tkx 12 28 (.int .i64 p1) ?_ ?_
   ·(intro w' hSw;(try dsimp only at hSw);go_simp;first | done | rfl | omega | (intro h9;omega) | (rw [IntKind.wrap_i64];omega))
   simp only [Act.put,tka,tkb,tkc]
   refine tkx 13 29 (.pointer (some ⟨w.heap.size,1,none⟩)) ?_ ?_
   ·(intro w' hSw;(try dsimp only at hSw);go_simp;first | done | rfl | omega | (intro h9;omega) | (rw [IntKind.wrap_i64];omega))
   simp only [Act.put,tka,tkb,tkc]
   refine tkx 14 30 (.slice (some ⟨b,off,none⟩) n1 c1) ?_ ?_
   ·(intro w' hSw;(try dsimp only at hSw);go_simp;first | done | rfl | omega | (intro h9;omega) | (rw [IntKind.wrap_i64];omega))
   simp only [Act.put,tka,tkb,tkc]
   refine tkx 15 31 (.int .i64 (k:Int)) ?_ ?_
   ·(intro w' hSw;(try dsimp only at hSw);go_simp;first | done | rfl | omega | (intro h9;omega) | (rw [IntKind.wrap_i64];omega))
   simp only [Act.put,tka,tkb,tkc]
   refine tkx 16 32 (.pointer (some ⟨b,off+k*3,none⟩)) ?_ ?_
   ·(intro w' hSw;(try dsimp only at hSw);go_simp;first | done | rfl | omega | (intro h9;omega) | (rw [IntKind.wrap_i64];omega))
   simp only [Act.put,tka,tkb,tkc]
   refine tkx 17 33 (.pointer (some ⟨b,off+k*3+2,none⟩)) ?_ ?_
   ·(intro w' hSw;(try dsimp only at hSw);go_simp;first | done | rfl | omega | (intro h9;omega) | (rw [IntKind.wrap_i64];omega))
   simp only [Act.put,tka,tkb,tkc]
   refine tkx 18 34 (.int .i64 p2) ?_ ?_
   ·(intro w' hSw;(try dsimp only at hSw);go_simp;first | done | rfl | omega | (intro h9;omega) | (rw [IntKind.wrap_i64];omega))
   simp only [Act.put,tka,tkb,tkc]
   refine tkr 19 35 (fun K hK=>?_)
   go_simp
   refine hK.out _ _ ?_ (fun hS1=>?_)
   ·exact ⟨Za hb2 _ _ hS0.1,Za hb2 _ _ hS0.2.1,Za hb2 _ _ hS0.2.2.1,Za hb2 _ _ hS0.2.2.2⟩
   clear hK
   try simp only [Act.put,tka,tkb,tkc]
   refine tkr 20 36 (fun K hK=>?_)
   refine ZN rfl _ _ 36 rfl (w.heap.size+1) 3 i1 (.int .i64 0) 1 8 Tryz.underlying36 hi1 hz10 hz11 hz12 rfl (by decide) _ _ _ rfl ho2 _ 3 3 rfl (fun h9=>by cases h9) ([p0,p1,p2].map (Value.int .i64)) (by simp) hnw (WW _) (by unfold maxLen;omega) (by omega) hs3 ?_
   intro v3 w3 hown hgrow _
   have q3:w3.ownsRow (w.heap.size+1) 3 1 v3 (R++[p0,p1,p2]).length ((R++[p0,p1,p2]).map (Value.int .i64)):=by rw [List.map_append,List.length_append];exact hown
   have hgB:∀ g,(Value.ownBlock (.slice xa xn xc))=some g→w.heap.size+1≤g:=fun g hg=>(ho2.lt g hg).1
   have b3:Below w.heap.size w w3:=(Zh bw hb2).grown hgrow (by omega) (fun g hg=>by have:=hgB g hg;omega)
   have pX3:=(pX.below hb2).kept hgrow (fun e9=>by have:=hgB _ e9;omega)
   have hS2:w3.cell? ⟨b,off+k*3,none⟩=some (.int .i64 p0)∧w3.cell? ⟨b,off+k*3+1,none⟩=some (.int .i64 p1)∧w3.cell? ⟨b,off+k*3+2,none⟩=some (.int .i64 p2):=by rw [b3.cell (p:=⟨b,_,none⟩) hbw,b3.cell (p:=⟨b,_,none⟩) hbw,b3.cell (p:=⟨b,_,none⟩) hbw];exact hx9
   have hs9:=Nat.le_trans hs3 hgrow.size
   go_simp
   refine hK.out _ _ ?_ (fun hS3=>?_)
   ·exact ⟨pX3.cell 1,hS2⟩
   clear hK
   try simp only [Act.put,tka,tkb,tkc]
   obtain ⟨va9,vc9,rfl⟩:=Ye q3
   clear ho ho2 hown hgrow hgB hb2 hnw hS2 hs3
   refine tkx 21 3 (.slice va9 (R++[p0,p1,p2]).length vc9) ?_ ?_
   ·(intro w' hSw;(try dsimp only at hSw);go_simp;first | done | rfl | omega | (intro h9;omega) | (rw [IntKind.wrap_i64];omega))
   simp only [Act.put,tka,tkb,tkc]
   refine wpAnyH_done (by kernel_rfl) ?_ _
   clear x0 x1 x2 y1 yw hS0 hS1 hS3 pX bw
   go_wp2
   go_roundw
   case rel=>exact ⟨k+1,_,_,_,by omega,by go_num,rfl,by rw [HS.out];exact q3,b3,pX3,hs9⟩
   case measure=>simp [intOf];omega
  obtain rfl:k=n1:=by omega
  have e9:ZT (eb.take k)=ZT eb:=by rw [List.take_of_length_le (by omega)]
  rw [e9] at ho
  have hrl:((k:Int)::ZT eb).length≤91:=by rw [List.length_cons,Xd];omega
  clear e9
  generalize (k:Int)::ZT eb=R at *
  have HT:Hid (tn=R++ez):=HTN
  have HL8:Hid (L8=R.length+n2):=by rw [Hid,HL8l.out,HT.out,List.length_append,hl2]
  clear HTN HL8l
  have yw:=pX.cell 1
  simp only [List.getElem?_cons_zero,List.getElem?_cons_succ] at yw
  have bd:Below wr.heap.size wr wr.drew:=by go_grown
  replace bw:=Zh bw bd
  replace pX:=pX.below bd
  replace ho:=Yi ho bd
  replace hsw:w.heap.size+1≤wr.drew.heap.size:=Nat.le_trans hsw bd.size
  clear bd
  have hlt':¬ (k:Int)<(k:Int):=by omega
  have y1:=pX.cell 1
  simp only [List.getElem?_cons_zero,List.getElem?_cons_succ] at y1
  go_wp2_with fail
  refine wp_region_held_drew (S:=(fun w'=>w'.cell? ⟨w.heap.size,0,none⟩=some (.string ek)∧w'.cell? ⟨w.heap.size,2,none⟩=some (.slice a2 n2 c2))) (by kernel_rfl) ⟨pX.cell 0,pX.cell 2⟩ (fun hS0=>?_)
  refine tkx 0 37 (.pointer (some ⟨w.heap.size,0,none⟩)) ?_ ?_
  ·(intro w' hSw;(try dsimp only at hSw);go_simp;first | done | rfl | omega | (intro h9;omega) | (rw [IntKind.wrap_i64];omega))
  simp only [Act.put,tka,tkb,tkc]
  refine tkx 1 38 (.string ek) ?_ ?_
  ·(intro w' hSw;(try dsimp only at hSw);go_simp;first | done | rfl | omega | (intro h9;omega) | (rw [IntKind.wrap_i64];omega))
  simp only [Act.put,tka,tkb,tkc]
  refine tkx 2 39 (.slice xa xn xc) ?_ ?_
  ·(intro w' hSw;(try dsimp only at hSw);go_simp;first | done | rfl | omega | (intro h9;omega) | (rw [IntKind.wrap_i64];omega))
  simp only [Act.put,tka,tkb,tkc]
  refine tkx 3 40 (.pointer (some ⟨w.heap.size,2,none⟩)) ?_ ?_
  ·(intro w' hSw;(try dsimp only at hSw);go_simp;first | done | rfl | omega | (intro h9;omega) | (rw [IntKind.wrap_i64];omega))
  simp only [Act.put,tka,tkb,tkc]
  refine tkx 4 41 (.slice a2 n2 c2) ?_ ?_
  ·(intro w' hSw;(try dsimp only at hSw);go_simp;first | done | rfl | omega | (intro h9;omega) | (rw [IntKind.wrap_i64];omega))
  simp only [Act.put,tka,tkb,tkc]
  refine tkr 5 42 (fun K hK=>?_)
  refine ZN rfl _ _ 36 rfl (w.heap.size+1) 3 i1 (.int .i64 0) 1 8 Tryz.underlying36 hi1 hz10 hz11 hz12 rfl (by decide) _ _ _ rfl ho a2 n2 c2 rfl no2 (ez.map (Value.int .i64)) (by rw [List.length_map,Nat.mul_one];exact hl2) (fun ad ha=>by subst ha;exact Fz (hF.below bw)) (WW ez) (by unfold maxLen;omega) (by omega) hsw ?_
  intro v8 W8 hown hgrow _
  have q8:W8.ownsRow (w.heap.size+1) 3 1 v8 L8 (tn.map (Value.int .i64)):=by
   have e1:tn.map (Value.int .i64)=R.map (Value.int .i64)++ez.map (Value.int .i64):=by rw [← List.map_append,HT.out]
   rw [e1,HL8.out]
   exact hown
  have hgB:∀ g,(Value.ownBlock (.slice xa xn xc))=some g→w.heap.size+1≤g:=fun g hg=>(ho.lt g hg).1
  replace bw:=bw.grown hgrow (by omega) (fun g hg=>by have:=hgB g hg;omega)
  replace pX:=pX.kept hgrow (fun e9=>by have:=hgB _ e9;omega)
  go_simp
  refine hK.out _ _ ?_ (fun hS5=>?_)
  ·exact ⟨pX.cell 0,pX.cell 2⟩
  clear hK
  try simp only [Act.put,tka,tkb,tkc]
  obtain ⟨ma,mc,rfl⟩:=Ye q8
  have hI:=QI q8
  clear hown hgrow hgB
  refine tkr 6 43 (fun K hK=>?_)
  go_simp
  refine (kP ma mc W8 hI).mono ?_
  rintro e W9 ⟨rfl,hb⟩
  go_wp2_with fail
  refine hK.out _ _ ?_ (fun hS6=>?_)
  ·exact ⟨Za hb _ _ hS5.1,Za hb _ _ hS5.2⟩
  clear hK
  refine tkx 7 44 (.string (ek++tx)) ?_ ?_
  ·(intro w' hSw;(try dsimp only at hSw);go_simp;first | done | rfl | omega | (intro h9;omega) | (rw [IntKind.wrap_i64];omega))
  simp only [Act.put,tka,tkb,tkc]
  refine tkx 8 2 (.string (ek++tx)) ?_ ?_
  ·(intro w' hSw;(try dsimp only at hSw);go_simp;first | done | rfl | omega | (intro h9;omega) | (rw [IntKind.wrap_i64];omega))
  simp only [Act.put,tka,tkb,tkc]
  refine wpAnyH_done (by kernel_rfl) ?_ _
  replace bw:=Zh bw hb
  clear hS0 hS5 hS6 hb hI q8 pX ho y1 yw
  go_wp2
  go_ret
  exact ⟨by rw [HX.out];rfl,bw⟩


def R7 (rows:List (List I3)) (e:E3):E3 × Zv × Bool:=ZF rows 19 (ZC e.1) ([],0)
def YB (rows:List (List I3)) (e:E3):Bool:=(R7 rows e).2.2 && decide ((R7 rows e).1=e)
theorem Pb (rows:List (List I3)):XZ rows []:=⟨rfl,by simp⟩
theorem VU {k:ByteArray} (h:YP k=true):k.size=15∧Zd (ZC k)=true:=by
 unfold YP at h
 simpa using h
theorem FE {rows:List (List I3)} (hp:Zj rows=true) {e:E3} (he:ZS e=true) (hk:(R7 rows e).2.2=true):ZS (R7 rows e).1=true:=by
 have hs:=(VU (X0 he).1).2
 have h9:=(Mn hp (f:=19) (st:=([],0)) hs (Nat.lt_succ_of_le (VW hp _)) (Pb rows) hk).1
 unfold R7
 rw [h9]
 exact LG hp hs
theorem Rz {rows:List (List I3)} {cap:Nat} (hp:Zj rows=true) (e:E3) (s:Sl2) (w:World) (a9:Option Addr) (cs:Sl × Sl × Sl) (hC:ZZ w a9 3 cap rows) (hR:Yf w a9 cs rows) (hE:Z1 w s e) (hok:ZS e=true) :
  Calls Tryz.prog 91 #[.agg #[.slice a9 3 cap],ZR e.1 s] w fun x w'=>x=.returned (.bool (YB rows e))∧Below w.heap.size w w':=by
 obtain ⟨h15,hs⟩:=VU (X0 hok).1
 have hto:=FE hp hok
 have kK:=fun (W:World)=>NC e.1 W h15
 have kT:=fun (W:World) (b:Below w.heap.size w W)=>Ry e s W (hE.below b) hok
 have kVk:=fun (W:World) (b:Below w.heap.size w W) (t:S4) (ht:Yy W t (ZC e.1))=>Mb a9 3 cap rows t (ZC e.1) W (hC.below b) ht
 rw [hp,hs] at kVk
 have hvi:=fun (W:World) (b:Below w.heap.size w W) (t:S4) (ht:Yy W t (ZC e.1)) (a:Option Addr) (c:Nat) (hA:Yo W a 0 c []) (hn:a=none→c=0)=>Pj (cap:=cap) hp 19 (ZC e.1) ([],0) hs (Nat.lt_succ_of_le (VW hp _)) P3 (by simp) (by show 0+19≤0+100;omega) W a9 cs t a 0 c (hR.below b) ht hA hn
 rw [show ZF rows 19 (ZC e.1) ([],0)=R7 rows e from rfl] at hvi
 obtain ⟨res,hres⟩:∃ res,res=YB rows e:=⟨_,rfl⟩
 rw [← hres]
 have HRES:Hid (res=((R7 rows e).2.2 && decide ((R7 rows e).1=e))):=hres
 clear hres
 have hfits:=(Xt hs).1
 generalize R7 rows e=r at *
 obtain ⟨ek,eb,ez⟩:=e
 obtain ⟨⟨e1,m1,d1⟩,⟨e2,m2,d2⟩⟩:=s
 unfold ZR at kT ⊢
 simp only at kK kT kVk hvi hs hfits ⊢
 generalize hm0:ZC ek=m0 at *
 have bw:Below w.heap.size w ((w.alloc (.cells #[.slice a9 3 cap] 25)).alloc (.cells #[.string ek,.slice e1 m1 d1,.slice e2 m2 d2] 45)):=by go_grown
 have pP:Blk ((w.alloc (.cells #[.slice a9 3 cap] 25)).alloc (.cells #[.string ek,.slice e1 m1 d1,.slice e2 m2 d2] 45)) w.heap.size 25 [.slice a9 3 cap]:=Zg _ (Zi _ _ _ rfl)
 have pE:Blk ((w.alloc (.cells #[.slice a9 3 cap] 25)).alloc (.cells #[.string ek,.slice e1 m1 d1,.slice e2 m2 d2] 45)) (w.heap.size+1) 45 [.string ek,.slice e1 m1 d1,.slice e2 m2 d2]:=Zi _ _ _ (by simp)
 have g0:=pE.cell 0
 simp only [List.getElem?_cons_zero] at g0
 go_enter Tryz.func91,Tryz.ntmps91
 go_wp2_with fail
 generalize ((w.alloc (.cells #[.slice a9 3 cap] 25)).alloc (.cells #[.string ek,.slice e1 m1 d1,.slice e2 m2 d2] 45))=U at *
 have kKx:=kK U
 refine kKx.mono ?_
 rintro x w1 ⟨⟨z,b,⟨t,rfl,hO⟩,hb1,hb2⟩,hb⟩
 rw [hm0,hs] at hb1
 rw [hm0] at hb2
 subst hb1
 obtain rfl:=hb2 rfl
 have hz:=hO.mem hfits
 obtain ⟨⟨t0a,t0n,t0c⟩,⟨t1a,t1n,t1c⟩,⟨t2a,t2n,t2c⟩,⟨t3a,t3n,t3c⟩⟩:=t
 have hbV:Below w1.heap.size w1 (w1.alloc (.cells #[.slice t0a t0n t0c,.slice t1a t1n t1c,.slice t2a t2n t2c,.slice t3a t3n t3c] 112)):=by go_grown
 have pV:Blk (w1.alloc (.cells #[.slice t0a t0n t0c,.slice t1a t1n t1c,.slice t2a t2n t2c,.slice t3a t3n t3c] 112)) w1.heap.size 112 [.slice t0a t0n t0c,.slice t1a t1n t1c,.slice t2a t2n t2c,.slice t3a t3n t3c]:=Zi _ _ _ rfl
 replace bw:=Zh bw (Zh hb hbV)
 replace pP:=(pP.below hb).below hbV
 replace pE:=(pE.below hb).below hbV
 replace hz:=hz.below hbV
 have ut:S4.val ((t0a,t0n,t0c),(t1a,t1n,t1c),(t2a,t2n,t2c),(t3a,t3n,t3c))=.agg #[.slice t0a t0n t0c,.slice t1a t1n t1c,.slice t2a t2n t2c,.slice t3a t3n t3c]:=rfl
 clear kK kKx hO hb hbV g0
 go_upto_region 2 with fail
 generalize (w1.alloc (.cells #[.slice t0a t0n t0c,.slice t1a t1n t1c,.slice t2a t2n t2c,.slice t3a t3n t3c] 112))=V1 at *
 generalize w1.heap.size=Y at *
 have kx:=kVk V1 bw ((t0a,t0n,t0c),(t1a,t1n,t1c),(t2a,t2n,t2c),(t3a,t3n,t3c)) hz
 rw [ut] at kx
 clear kVk
 have c0:=pP.cell 0
 have v0:=pV.cell 0
 have v1:=pV.cell 1
 have v2:=pV.cell 2
 have v3:=pV.cell 3
 simp only [List.getElem?_cons_zero,List.getElem?_cons_succ] at c0 v0 v1 v2 v3
 go_wp2_with fail
 refine kx.mono ?_
 rintro x w2 ⟨rfl,hb⟩
 replace bw:=Zh bw hb
 replace pP:=pP.below hb
 replace pE:=pE.below hb
 replace pV:=pV.below hb
 replace hz:=hz.below hb
 clear kx hb c0 v0 v1 v2 v3
 have hb:Below w2.heap.size w2 (w2.alloc (.cells #[] 45)):=by go_grown
 have hA0:Yo (w2.alloc (.cells #[] 45)) (some ⟨w2.heap.size,0,none⟩) 0 0 []:=⟨rfl,Nat.le_refl _,Nat.zero_le _,.inl rfl⟩
 have kx:=hvi _ (Zh bw hb) ((t0a,t0n,t0c),(t1a,t1n,t1c),(t2a,t2n,t2c),(t3a,t3n,t3c)) (hz.below hb) _ _ hA0 (fun h9=>by cases h9)
 rw [ut] at kx
 clear hvi hA0 ut
 go_wp2_with (first | refine Zc rfl 25 _ rfl w.heap.size rfl pP _ Tryz.underlying25 rfl (by kernel_rfl) ?_ | refine Zc rfl 112 _ rfl Y rfl pV _ Tryz.underlying112 rfl (by kernel_rfl) ?_)
 refine kx.mono ?_
 rintro x w3 ⟨⟨⟨⟨f1a,f1n,f1c⟩,⟨f2a,f2n,f2c⟩⟩,a3,n3,c3,rfl,hF,hA3,hn3,ho3⟩,hb2⟩
 unfold ZR
 simp only
 have hbA:=Zh hb hb2
 have hb3:Below w3.heap.size w3 ((w3.alloc (.cells #[.string r.1.1,.slice f1a f1n f1c,.slice f2a f2n f2c] 45)).alloc (.cells #[.slice a3 n3 c3] 33)):=by go_grown
 have p7:Blk ((w3.alloc (.cells #[.string r.1.1,.slice f1a f1n f1c,.slice f2a f2n f2c] 45)).alloc (.cells #[.slice a3 n3 c3] 33)) w3.heap.size 45 [.string r.1.1,.slice f1a f1n f1c,.slice f2a f2n f2c]:=Zg _ (Zi _ _ _ rfl)
 replace bw:=Zh bw (Zh hbA hb3)
 replace pE:=(pE.below hbA).below hb3
 replace hF:=hF.below hb3
 clear hb hb2 hbA hb3 kx hA3 hn3 ho3 pP pV hz
 cases hk:r.2.2
 ·have HR:Hid (res=false):=by rw [Hid,HRES.out,hk];rfl
  go_upto_region 5 with fail
  generalize ((w3.alloc (.cells #[.string r.1.1,.slice f1a f1n f1c,.slice f2a f2n f2c] 45)).alloc (.cells #[.slice a3 n3 c3] 33))=U3 at *
  clear HRES hto kT hF p7 pE
  go_wp2_with fail
  refine wp_region_held_drew (S:=(fun _=>True)) (by kernel_rfl) trivial (fun hS0=>?_)
  refine tkx 0 35 (.bool false) ?_ ?_
  ·(intro w' hSw;(try dsimp only at hSw);go_simp;first | done | rfl | omega | (intro h9;omega) | (rw [IntKind.wrap_i64];omega))
  simp only [Act.put,tka,tkb,tkc]
  refine tkx 1 36 (.bool false) ?_ ?_
  ·(intro w' hSw;(try dsimp only at hSw);go_simp;first | done | rfl | omega | (intro h9;omega) | (rw [IntKind.wrap_i64];omega))
  simp only [Act.put,tka,tkb,tkc]
  refine tku 2 37 ?_
  refine tku 3 38 ?_
  refine tku 4 39 ?_
  refine tku 5 40 ?_
  refine tku 6 41 ?_
  refine tkx 7 42 (.bool false) ?_ ?_
  ·(intro w' hSw;(try dsimp only at hSw);go_simp;first | done | rfl | omega | (intro h9;omega) | (rw [IntKind.wrap_i64];omega))
  simp only [Act.put,tka,tkb,tkc]
  refine tkx 8 4 (.bool false) ?_ ?_
  ·(intro w' hSw;(try dsimp only at hSw);go_simp;first | done | rfl | omega | (intro h9;omega) | (rw [IntKind.wrap_i64];omega))
  simp only [Act.put,tka,tkb,tkc]
  refine wpAnyH_done (by kernel_rfl) ?_ _
  have bd:Below U3.heap.size U3 U3.drew:=by go_grown
  go_wp2
  go_ret
  exact ⟨by rw [HR.out];rfl,Zh bw bd⟩
 go_upto_region 5 with fail
 generalize ((w3.alloc (.cells #[.string r.1.1,.slice f1a f1n f1c,.slice f2a f2n f2c] 45)).alloc (.cells #[.slice a3 n3 c3] 33))=U3 at *
 have hfo:=hto hk
 have kF:=fun (W:World) (b:Below U3.heap.size U3 W)=>Ry r.1 ((f1a,f1n,f1c),(f2a,f2n,f2c)) W (hF.below b) hfo
 unfold ZR at kF
 simp only at kF
 have HR:Hid (res=decide (r.1=(ek,eb,ez))):=by rw [Hid,HRES.out,hk];rfl
 have HI:Hid (r.1≠(ek,eb,ez)→Qw r.1≠Qw (ek,eb,ez)):=fun h9 h8=>h9 (Gq hfo hok h8)
 have x0:=p7.cell 0
 have x1:=p7.cell 1
 have x2:=p7.cell 2
 have y0:=pE.cell 0
 have y1:=pE.cell 1
 have y2:=pE.cell 2
 simp only [List.getElem?_cons_zero,List.getElem?_cons_succ] at x0 x1 x2 y0 y1 y2
 clear HRES hto hF p7 pE hfo hok
 obtain ⟨tf,htf⟩:∃ tf,tf=Qw r.1:=⟨_,rfl⟩
 obtain ⟨te,hte⟩:∃ te,te=Qw (ek,eb,ez):=⟨_,rfl⟩
 rw [← htf] at kF
 rw [← hte] at kT
 have HX:Hid (res=(tf.toList == te.toList)):=by
  rw [Hid,HR.out]
  by_cases h9:r.1=(ek,eb,ez)
  ·rw [decide_eq_true h9,htf,hte,h9]
   simp
  rw [decide_eq_false h9]
  cases hc:(tf.toList == te.toList)
  ·rfl
  exfalso
  exact HI.out h9 (by rw [← htf,← hte];exact WP (by simpa using hc))
 clear HR HI htf hte
 go_wp2_with fail
 refine wp_region_held_drew (S:=(fun w'=>w'.cell? ⟨w3.heap.size,0,none⟩=some (.string r.1.1)∧w'.cell? ⟨w3.heap.size,1,none⟩=some (.slice f1a f1n f1c)∧w'.cell? ⟨w3.heap.size,2,none⟩=some (.slice f2a f2n f2c)∧w'.cell? ⟨w.heap.size+1,0,none⟩=some (.string ek)∧w'.cell? ⟨w.heap.size+1,1,none⟩=some (.slice e1 m1 d1)∧w'.cell? ⟨w.heap.size+1,2,none⟩=some (.slice e2 m2 d2))) (by kernel_rfl) ⟨x0,x1,x2,y0,y1,y2⟩ (fun hS0=>?_)
 refine tkx 0 35 (.bool true) ?_ ?_
 ·(intro w' hSw;(try dsimp only at hSw);go_simp;first | done | rfl | omega | (intro h9;omega) | (rw [IntKind.wrap_i64];omega))
 simp only [Act.put,tka,tkb,tkc]
 refine tkx 1 36 (.bool true) ?_ ?_
 ·(intro w' hSw;(try dsimp only at hSw);go_simp;first | done | rfl | omega | (intro h9;omega) | (rw [IntKind.wrap_i64];omega))
 simp only [Act.put,tka,tkb,tkc]
 refine tkx 2 37 (.agg #[.string r.1.1,.slice f1a f1n f1c,.slice f2a f2n f2c]) ?_ ?_
 ·(intro w' hSw;(try dsimp only at hSw);go_simp;first | done | rfl | omega | (intro h9;omega) | (rw [IntKind.wrap_i64];omega))
 simp only [Act.put,tka,tkb,tkc]
 refine tkx 4 39 (.agg #[.string ek,.slice e1 m1 d1,.slice e2 m2 d2]) ?_ ?_
 ·(intro w' hSw;(try dsimp only at hSw);go_simp;first | done | rfl | omega | (intro h9;omega) | (rw [IntKind.wrap_i64];omega))
 simp only [Act.put,tka,tkb,tkc]
 have bd:Below U3.heap.size U3 U3.drew:=by go_grown
 have kFx:=kF _ bd
 replace bw:=Zh bw bd
 clear bd kF
 generalize U3.drew=V at *
 refine tkr 3 38 (fun K hK=>?_)
 go_simp
 refine kFx.mono ?_
 rintro x V2 ⟨rfl,hb⟩
 go_wp2_with fail
 refine hK.out _ _ ⟨Za hb _ _ hS0.1,Za hb _ _ hS0.2.1,Za hb _ _ hS0.2.2.1,Za hb _ _ hS0.2.2.2.1,Za hb _ _ hS0.2.2.2.2.1,Za hb _ _ hS0.2.2.2.2.2⟩ (fun hS0=>?_)
 clear hK kFx
 replace bw:=Zh bw hb
 clear hb
 have kTx:=kT _ bw
 try simp only [Act.put,tka,tkb,tkc]
 refine tkr 5 40 (fun K hK=>?_)
 go_simp
 refine kTx.mono ?_
 rintro x V3 ⟨rfl,hb⟩
 go_wp2_with fail
 refine hK.out _ _ ⟨Za hb _ _ hS0.1,Za hb _ _ hS0.2.1,Za hb _ _ hS0.2.2.1,Za hb _ _ hS0.2.2.2.1,Za hb _ _ hS0.2.2.2.2.1,Za hb _ _ hS0.2.2.2.2.2⟩ (fun hS0=>?_)
 clear hK kTx kT
 replace bw:=Zh bw hb
 clear hb
 try simp only [Act.put,tka,tkb,tkc]
 refine tkx 6 41 (.bool (tf.toList == te.toList)) ?_ ?_
 ·(intro w' hSw;(try dsimp only at hSw);go_simp;first | done | rfl | omega | (intro h9;omega) | (rw [IntKind.wrap_i64];omega))
 simp only [Act.put,tka,tkb,tkc]
 refine tkx 7 42 (.bool (tf.toList == te.toList)) ?_ ?_
 ·(intro w' hSw;(try dsimp only at hSw);go_simp;first | done | rfl | omega | (intro h9;omega) | (rw [IntKind.wrap_i64];omega))
 simp only [Act.put,tka,tkb,tkc]
 refine tkx 8 4 (.bool (tf.toList == te.toList)) ?_ ?_
 ·(intro w' hSw;(try dsimp only at hSw);go_simp;first | done | rfl | omega | (intro h9;omega) | (rw [IntKind.wrap_i64];omega))
 simp only [Act.put,tka,tkb,tkc]
 refine wpAnyH_done (by kernel_rfl) ?_ _
 clear hS0
 go_wp2
 go_ret
 exact ⟨by rw [HX.out];rfl,bw⟩


theorem Gl {rows:List (List I3)} (hp:Zj rows=true) {e:E3} (hs:Zd (ZC e.1)=true) (hk:(ZF rows 19 (ZC e.1) ([],0)).2.2=true):YB rows e=decide (e=YU rows 18 (ZC e.1)):=by
 have h1:=(Mn hp (f:=19) (st:=([],0)) hs (Nat.lt_succ_of_le (VW hp _)) (Pb rows) hk).1
 unfold YB R7
 rw [hk,h1,Bool.true_and]
 by_cases h:e=YU rows 18 (ZC e.1)
 ·rw [decide_eq_true h,decide_eq_true h.symm]
 rw [decide_eq_false h,decide_eq_false (fun h9=>h h9.symm)]
theorem G3 {rows:List (List I3)} {e:E3} (hk:(ZF rows 19 (ZC e.1) ([],0)).2.2=false):YB rows e=false:=by
 unfold YB R7
 rw [hk,Bool.false_and]
def JZ (rows:List (List I3)) (m:V4) (g:E3) (st:Zv):Prop:=(st.2≤2000→g=YU rows 18 m∧Mu rows st∧(ZF rows 19 m ([],0)).2.2=true)∧(¬ st.2≤2000→(ZF rows 19 m ([],0)).2.2=false)
theorem Ln {rows:List (List I3)} (hp:Zj rows=true) {st:Zv} (h:Mu rows st) {m:V4} (hs:Zd m=true) (hk:(Z3 rows 0 19 m st).2.2≤2000):JZ rows m (Z3 rows 0 19 m st).1 (Z3 rows 0 19 m st).2:=⟨fun _=>Pa hp h hs hk,fun h9=>absurd hk h9⟩
theorem Lm {rows:List (List I3)} (hp:Zj rows=true) {m:V4} (hs:Zd m=true):JZ rows m (Z3 rows 0 19 m ([],0)).1 (Z3 rows 0 19 m ([],0)).2:=⟨fun hk=>Pa hp (Ml rows) hs hk,fun hk=>Gn hp hs hk⟩
theorem Mx {rows:List (List I3)} {es:List E3} {i:Nat} (h:i<es.length):(es.take (i+1)).all (YB rows)=((es.take i).all (YB rows) && YB rows (es.getD i e3d)):=by
 rw [List.take_add_one,List.getElem?_eq_getElem h,List.all_append]
 simp [List.getD,List.getElem?_eq_getElem h]
theorem P6 {rows:List (List I3)} {es:List E3} {i:Nat} (h:i<es.length) (hf:YB rows (es.getD i e3d)=false):es.all (YB rows)=false:=by
 rw [← Bool.not_eq_true,List.all_eq_true]
 intro h9
 have:=h9 (es.getD i e3d) (by simp [List.getD,List.getElem?_eq_getElem h])
 rw [this] at hf
 cases hf


theorem J2 (w:World) (n:Nat):Below w.heap.size w (w.drewN n):=⟨rfl,rfl,rfl,Nat.le_refl _,fun _ _=>rfl⟩

theorem KB (a a':Option Addr) (len cap cap':Nat) (xs ys:List Int) (w:World) (h:Z2 .i64 w a len cap xs) (h':Z2 .i64 w a' len cap' ys) (hpos:len≠0) :
  Calls Tryz.prog 110 #[.slice a len cap,.slice a' len cap'] w fun e w'=>e=.returned (.bool (decide (xs=ys)))∧Below w.heap.size w w':=by
 obtain ⟨hl,hlc,hcm,hcase⟩:=h
 obtain ⟨hl',hlc',hcm',hcase'⟩:=h'
 unfold maxLen at hcm hcm'
 rcases hcase with h0' | ⟨b,off,rfl,hblt,hcell⟩
 ·exact absurd h0' hpos
 rcases hcase' with h0' | ⟨b',off',rfl,hblt',hcell'⟩
 ·exact absurd h0' hpos
 have hne:((len:Int) != (len:Int))=false:=by simp
 obtain ⟨fin,hfin⟩:∃ fin,fin=decide (xs=ys):=⟨_,rfl⟩
 rw [← hfin]
 have HF:Hid (fin=decide (xs=ys)):=hfin
 clear hfin
 go_enter Tryz.func110,Tryz.ntmps110
 go_wp2
 go_loopw [13] (fun si wr=>∃ (k:Nat),k≤len∧si=.int .i64 k∧Hid (xs.take k=ys.take k)∧Below w.heap.size w wr) (fun si _=>len - (intOf si).toNat)
 case atStart=>exact ⟨0,by omega,rfl,by simp [Hid],Below.refl _ _⟩
 case round =>
  obtain ⟨k,hk,rfl,hH',hbel⟩:=hrel
  by_cases hlt:k<len
  ·have c0:=hcell k hlt
   have e0:=hcell' k hlt
   rw [← hbel.cell (p:=⟨b,_,none⟩) hblt] at c0
   rw [← hbel.cell (p:=⟨b',_,none⟩) hblt'] at e0
   have hlt':(k:Int)<(len:Int):=by omega
   have hk0:(0:Int)≤(k:Int):=by omega
   have hxg:Hid (xs.getD k 0=xs[k]'(by omega)∧ys.getD k 0=ys[k]'(by omega)):=⟨by simp [List.getD,hl,hlt],by simp [List.getD,hl',hlt]⟩
   by_cases hxy:xs.getD k 0=ys.getD k 0
   ·have hH2:Hid (xs.take (k+1)=ys.take (k+1)):=by
     rw [Hid,List.take_succ_eq_append_getElem (by omega),List.take_succ_eq_append_getElem (by omega),hH'.out,← hxg.out.1,← hxg.out.2,hxy]
    rw [← hxy] at e0
    clear hcell hcell' hxg hxy hH'
    generalize xs.getD k 0=x at c0 e0
    have hxx:(x != x)=false:=by simp
    go_wp2_with fail
    go_quiet (fail)
    have hb2:Below w.heap.size w (wr.drewN nq):=Zb hbel (J2 _ _)
    go_wp2
    go_roundw
    case rel=>exact ⟨k+1,by omega,by go_num,hH2,hb2⟩
    case measure=>simp [intOf];omega
   obtain rfl:fin=false:=by
    rw [HF.out,decide_eq_false_iff_not]
    intro h
    subst h
    exact hxy rfl
   clear hcell hcell' hxg hH' HF
   generalize xs.getD k 0=x at c0 hxy
   generalize ys.getD k 0=y at e0 hxy
   have hxx:(x != y)=true:=by simp [hxy]
   have hb2:∀ nq,Below w.heap.size w (wr.drewN nq):=fun nq=>Zb hbel (J2 _ _)
   go_wp2_with fail
   go_quiet (fail)
   go_wp2
   go_ret
   exact ⟨rfl,hb2 _⟩
  obtain rfl:k=len:=by omega
  obtain rfl:fin=true:=by
   rw [HF.out,decide_eq_true_eq]
   have h9:=hH'.out
   rwa [List.take_of_length_le (by omega),List.take_of_length_le (by omega)] at h9
  clear hcell hcell' hH' HF
  go_wp2
  go_ret
  exact ⟨rfl,hbel⟩


theorem Rc (w:World) (n:Nat):Below w.heap.size w (w.drewN n):=⟨rfl,rfl,rfl,Nat.le_refl _,fun _ _=>rfl⟩

theorem GI (a a':Option Addr) (len len' cap cap':Nat) (xs ys:List I3) (w:World) (h:Zl w a len cap xs) (h':Zl w a' len' cap' ys) (hlen:len=len') (hpos:len≠0) :
  Calls Tryz.prog 109 #[.slice a len cap,.slice a' len' cap'] w fun e w'=>e=.returned (.bool (decide (xs=ys)))∧Below w.heap.size w w':=by
 subst hlen
 obtain ⟨hl,hlc,hcm,_,hcase⟩:=h
 obtain ⟨hl',hlc',hcm',_,hcase'⟩:=h'
 unfold maxLen at hcm hcm'
 rcases hcase with h0' | ⟨b,off,rfl,hblt,hcell⟩
 ·exact absurd h0' hpos
 rcases hcase' with h0' | ⟨b',off',rfl,hblt',hcell'⟩
 ·exact absurd h0' hpos
 have hne:((len:Int) != (len:Int))=false:=by simp
 go_enter Tryz.func109,Tryz.ntmps109
 go_wp2
 go_loopw [13] (fun si wr=>∃ (k:Nat),k≤len∧si=.int .i64 k∧xs.take k=ys.take k∧Below w.heap.size w wr) (fun si _=>len - (intOf si).toNat)
 case atStart=>exact ⟨0,by omega,rfl,by simp,Below.refl _ _⟩
 case round =>
  obtain ⟨k,hk,rfl,hH,hbel⟩:=hrel
  have hH':Hid (xs.take k=ys.take k):=hH
  clear hH
  by_cases hlt:k<len
  ·obtain ⟨c0,c1,c2⟩:=hcell k hlt
   obtain ⟨e0,e1,e2⟩:=hcell' k hlt
   rw [← hbel.cell (p:=⟨b,_,none⟩) hblt] at c0 c1 c2
   rw [← hbel.cell (p:=⟨b',_,none⟩) hblt'] at e0 e1 e2
   have hlt':(k:Int)<(len:Int):=by omega
   have hk0:(0:Int)≤(k:Int):=by omega
   have hxg:Hid (xs.getD k (0,0,0)=xs[k]'(by omega)∧ys.getD k (0,0,0)=ys[k]'(by omega)):=⟨by simp [List.getD,hl,hlt],by simp [List.getD,hl',hlt]⟩
   by_cases hxy:xs.getD k (0,0,0)=ys.getD k (0,0,0)
   ·have hH2:Hid (xs.take (k+1)=ys.take (k+1)):=by
     rw [Hid,List.take_succ_eq_append_getElem (by omega),List.take_succ_eq_append_getElem (by omega),hH'.out,← hxg.out.1,← hxg.out.2,hxy]
    rw [← hxy] at e0 e1 e2
    clear hcell hcell' hxg hxy hH'
    generalize xs.getD k (0,0,0)=x at c0 c1 c2 e0 e1 e2
    obtain ⟨x0,x1,x2⟩:=x
    simp only [] at c0 c1 c2 e0 e1 e2
    go_wp2_with fail
    go_quiet (fail)
    have hb2:Below w.heap.size w (wr.drewN nq):=Zb hbel (Rc _ _)
    go_wp2
    go_roundw
    case rel=>exact ⟨k+1,by omega,by go_num,hH2.out,hb2⟩
    case measure=>simp [intOf];omega
   have hff:Hid (decide (xs=ys)=false):=by
    rw [Hid,decide_eq_false_iff_not]
    intro h
    subst h
    exact hxy rfl
   clear hcell hcell' hxg hH'
   generalize xs.getD k (0,0,0)=x at c0 c1 c2 hxy
   generalize ys.getD k (0,0,0)=y at e0 e1 e2 hxy
   obtain ⟨x0,x1,x2⟩:=x
   obtain ⟨y0,y1,y2⟩:=y
   simp only [] at c0 c1 c2 e0 e1 e2
   have hb2:∀ nq,Below w.heap.size w (wr.drewN nq):=fun nq=>Zb hbel (Rc _ _)
   by_cases h0:x0=y0
   ·subst h0
    by_cases h1:x1=y1
    ·subst h1
     have h2:(x2 == y2)=false:=by
      simp only [beq_eq_false_iff_ne]
      intro h
      exact hxy (by rw [h])
     clear hxy
     go_wp2_with fail
     go_quiet (fail)
     go_wp2
     go_ret
     exact ⟨by rw [hff.out];rfl,hb2 _⟩
    have h1':(x1 == y1)=false:=by simpa using h1
    clear hxy
    go_wp2_with fail
    go_quiet (fail)
    go_wp2
    go_ret
    exact ⟨by rw [hff.out];rfl,hb2 _⟩
   have h0':(x0 == y0)=false:=by simpa using h0
   clear hxy
   go_wp2_with fail
   go_quiet (fail)
   go_wp2
   go_ret
   exact ⟨by rw [hff.out];rfl,hb2 _⟩
  obtain rfl:k=len:=by omega
  have hff:decide (xs=ys)=true:=by
   have:=hH'.out
   rw [List.take_of_length_le (by omega),List.take_of_length_le (by omega)] at this
   simpa using this
  clear hcell hcell' hH'
  go_wp2
  go_ret
  exact ⟨by rw [hff];rfl,hbel⟩

theorem Kx (a a':Option Addr) (len len' cap cap':Nat) (w:World) (hlen:len≠len') :
  Calls Tryz.prog 109 #[.slice a len cap,.slice a' len' cap'] w fun e w'=>e=.returned (.bool false)∧Below w.heap.size w w':=by
 have hne:((len:Int) != (len':Int))=true:=by simp;omega
 go_enter Tryz.func109,Tryz.ntmps109
 go_wp2
 go_ret
 exact ⟨rfl,Below.refl _ _⟩
theorem Ky (a a':Option Addr) (cap cap':Nat) (w:World) :
  Calls Tryz.prog 109 #[.slice a 0 cap,.slice a' 0 cap'] w fun e w'=>e=.returned (.bool true)∧Below w.heap.size w w':=by
 go_enter Tryz.func109,Tryz.ntmps109
 go_wp2
 refine wp_loop_rounds 1 ?_
 rw [rounds_succ]
 go_wp2
 go_ret
 exact ⟨rfl,Below.refl _ _⟩
theorem Hc (a a':Option Addr) (len len' cap cap':Nat) (xs ys:List I3) (w:World) (h:Zl w a len cap xs) (h':Zl w a' len' cap' ys) :
  Calls Tryz.prog 109 #[.slice a len cap,.slice a' len' cap'] w fun e w'=>e=.returned (.bool (decide (xs=ys)))∧Below w.heap.size w w':=by
 by_cases hl:len=len'
 ·by_cases h0:len=0
  ·subst h0
   subst hl
   obtain rfl:xs=[]:=List.length_eq_zero_iff.1 h.1
   obtain rfl:ys=[]:=List.length_eq_zero_iff.1 h'.1
   simpa using Ky a a' cap cap' w
  exact GI a a' len len' cap cap' xs ys w h h' hl h0
 have hd:decide (xs=ys)=false:=by
  rw [decide_eq_false_iff_not]
  intro e
  subst e
  exact hl (h.1.symm.trans h'.1)
 rw [hd]
 exact Kx a a' len len' cap cap' w hl
theorem Kz (a a':Option Addr) (len len' cap cap':Nat) (w:World) (hlen:len≠len') :
  Calls Tryz.prog 110 #[.slice a len cap,.slice a' len' cap'] w fun e w'=>e=.returned (.bool false)∧Below w.heap.size w w':=by
 have hne:((len:Int) != (len':Int))=true:=by simp;omega
 go_enter Tryz.func110,Tryz.ntmps110
 go_wp2
 go_ret
 exact ⟨rfl,Below.refl _ _⟩
theorem KA (a a':Option Addr) (cap cap':Nat) (w:World) :
  Calls Tryz.prog 110 #[.slice a 0 cap,.slice a' 0 cap'] w fun e w'=>e=.returned (.bool true)∧Below w.heap.size w w':=by
 go_enter Tryz.func110,Tryz.ntmps110
 go_wp2
 refine wp_loop_rounds 1 ?_
 rw [rounds_succ]
 go_wp2
 go_ret
 exact ⟨rfl,Below.refl _ _⟩
theorem Hd (a a':Option Addr) (len len' cap cap':Nat) (xs ys:List Int) (w:World) (h:Z2 .i64 w a len cap xs) (h':Z2 .i64 w a' len' cap' ys) :
  Calls Tryz.prog 110 #[.slice a len cap,.slice a' len' cap'] w fun e w'=>e=.returned (.bool (decide (xs=ys)))∧Below w.heap.size w w':=by
 by_cases hl:len=len'
 ·by_cases h0:len=0
  ·subst h0
   subst hl
   obtain rfl:xs=[]:=List.length_eq_zero_iff.1 h.1
   obtain rfl:ys=[]:=List.length_eq_zero_iff.1 h'.1
   simpa using KA a a' cap cap' w
  exact (by subst hl;exact KB a a' len cap cap' xs ys w h h' h0)
 have hd:decide (xs=ys)=false:=by
  rw [decide_eq_false_iff_not]
  intro e
  subst e
  exact hl (h.1.symm.trans h'.1)
 rw [hd]
 exact Kz a a' len len' cap cap' w hl
end Go.Proofs.YtnffeclgboomoaaGreatDoor
