/-
  Joined: TxeS.
-/
import Derived.Shelf.SlSortCmp.Insertion
import Derived.Shelf.Small.Strs
import Derived.Test.YthmgampabhbpoaaDoorC28
import Derived.Test.YthmgampabhbpoaaDoorC33
import Derived.Test.YthmgampabhbpoaaDoorC36
import Derived.Test.YthmgampabhbpoaaDoorC37
import Derived.Test.YthmgampabhbpoaaDoorC38

namespace Go.Proofs.YthmgampabhbpoaaDoor
set_option maxRecDepth 100000
set_option maxHeartbeats 16000000
open Go.RowKit
set_option linter.unusedVariables false
set_option linter.unusedSimpArgs false

theorem l10Text_is (e:E3) (s:Sl2) (w:World) (h:Emem w s e) (hok:entOk e=true) :
  Calls Tryd.prog 67 #[entV e.1 s] w fun x w'=>x=.returned (.string (txtE e))∧Below w.heap.size w w':=by
 obtain ⟨i1,hi1,hz10,hz11,hz12⟩:=info_parts info_int
 have hl1:=h.2.1.1
 have hl2:=h.2.2.1.1
 have hc2:=h.2.2.1.2.1
 obtain ⟨⟨_,z1,z2⟩,hB,hF,hfw⟩:=h
 obtain ⟨ek,eb,ez⟩:=e
 obtain ⟨⟨a1,n1,c1⟩,⟨a2,n2,c2⟩⟩:=s
 unfold entV
 simp only at *
 have bw0:Below w.heap.size w ((w.alloc (.cells #[.string ek,.slice a1 n1 c1,.slice a2 n2 c2] 30)).alloc (.cells #[.int .i64 (n1:Int)] 3)):=by go_grown
 have pX0:Blk ((w.alloc (.cells #[.string ek,.slice a1 n1 c1,.slice a2 n2 c2] 30)).alloc (.cells #[.int .i64 (n1:Int)] 3)) w.heap.size 30 [.string ek,.slice a1 n1 c1,.slice a2 n2 c2]:=blkOld _ (blkAt _ _ _ rfl)
 have hb30:n1≤30:=by have:=entOk_bugs hok;simp only at this;omega
 have hf23:n2≤23:=by have:=entOk_foot hok;simp only at this;omega
 have hk16:ek.size≤15:=by have:ek.size=15:=entOk_key hok;omega
 have HOK:=txtN_ok hok
 have HLN:=txtN_len hok
 have no2:=nil_of0 (m:=0) (P:=True) z2 hc2
 obtain ⟨tn,htn⟩:∃ tn,tn=txtN (ek,eb,ez):=⟨_,rfl⟩
 obtain ⟨L8,hL8⟩:∃ L8,L8=tn.length:=⟨_,rfl⟩
 have HL8m:L8≤114:=by rw [hL8,htn];exact HLN
 obtain ⟨tx,htx⟩:∃ tx,tx=strOfNums (packL tn):=⟨_,rfl⟩
 have hts:tx.size≤575:=by rw [htx];have:=packL_size (zs:=tn);omega
 have HX:Hid (txtE (ek,eb,ez)=ek++tx):=by rw [Hid,txtE,htx,htn]
 have kP:∀ ma mc W,Ints .i64 W ma L8 mc tn→Calls Tryd.prog 100 #[.slice ma L8 mc] W fun e w'=>e=.returned (.string tx)∧Below W.heap.size W w':=fun ma mc W hI=>by
  rw [htx]
  exact l01List_any ma L8 mc tn W hI (by omega) (htn▸HOK)
 obtain ⟨fx,hfx⟩:∃ fx,fx=txtE (ek,eb,ez):=⟨_,rfl⟩
 rw [← hfx]
 rw [← hfx] at HX
 have HTN:Hid (tn=((n1:Int)::rowNums eb)++ez):=by rw [Hid,htn,txtN];simp only;rw [hl1]
 have HL8l:Hid (L8=tn.length):=hL8
 clear hok htn hL8 htx hfx HOK HLN z1 z2 hc2
 have M0:((w.alloc (.cells #[.string ek,.slice a1 n1 c1,.slice a2 n2 c2] 30)).alloc (.cells #[.int .i64 (n1:Int)] 3)).ownsRow (w.heap.size+1) 3 1 (.slice (some ⟨w.heap.size+1,0,none⟩) 1 1) 1 ([(n1:Int)].map (Value.int .i64)):=by
  have h9:=World.ownsRow_lit (base:=w.heap.size+1) (e:=3) (size:=1) (w.alloc (.cells #[.string ek,.slice a1 n1 c1,.slice a2 n2 c2] 30)) #[.int .i64 (n1:Int)] 1 (by simp) (by unfold maxLen;omega) (by simp)
  simpa using h9
 have hs0:w.heap.size+1≤((w.alloc (.cells #[.string ek,.slice a1 n1 c1,.slice a2 n2 c2] 30)).alloc (.cells #[.int .i64 (n1:Int)] 3)).heap.size:=by simp
 go_enter Tryd.func67,Tryd.ntmps67
 go_wp2_with fail
 generalize ((w.alloc (.cells #[.string ek,.slice a1 n1 c1,.slice a2 n2 c2] 30)).alloc (.cells #[.int .i64 (n1:Int)] 3))=V0 at *
 go_loopw [3,4] (fun so si wr=>∃ (k:Nat) (va:Option Addr) (vn vc:Nat),k≤n1∧si=.int .i64 k∧so=.slice va vn vc∧wr.ownsRow (w.heap.size+1) 3 1 (.slice va vn vc) ((n1:Int)::rowNums (eb.take k)).length (((n1:Int)::rowNums (eb.take k)).map (Value.int .i64))∧Below w.heap.size w wr∧Blk wr w.heap.size 30 [.string ek,.slice a1 n1 c1,.slice a2 n2 c2]∧w.heap.size+1≤wr.heap.size) (fun _ si _=>n1 - (intOf si).toNat)
 case atStart=>exact ⟨0,_,_,_,by omega,rfl,rfl,by simpa [rowNums] using M0,bw0,pX0,hs0⟩
 case round =>
  obtain ⟨k,xa,xn,xc,hk,rfl,rfl,ho,bw,pX,hsw⟩:=hrel
  clear M0 bw0 pX0 hs0
  by_cases hlt:k<n1
  ·have hB9:=hB
   obtain ⟨_,_,_,_,hcase⟩:=hB9
   rcases hcase with e0 | ⟨b,off,rfl,hbw,hc⟩
   ·omega
   have hx9:=hc k hlt
   clear hc
   have hst:(n1:Int)::rowNums (eb.take (k+1))=((n1:Int)::rowNums (eb.take k))++[(eb.getD k (0,0,0)).1,(eb.getD k (0,0,0)).2.1,(eb.getD k (0,0,0)).2.2]:=by rw [rowNums_step (by omega)];rfl
   have hrl:((n1:Int)::rowNums (eb.take k)).length≤91:=by rw [List.length_cons,rowNums_length,List.length_take];omega
   generalize (n1:Int)::rowNums (eb.take k)=R at *
   generalize eb.getD k (0,0,0)=x at *
   obtain ⟨p0,p1,p2⟩:=x
   simp only at hx9 hst
   have HS:Hid ((n1:Int)::rowNums (eb.take (k+1))=R++[p0,p1,p2]):=hst
   clear hst
   have yw:=pX.cell 1
   simp only [List.getElem?_cons_zero,List.getElem?_cons_succ] at yw
   have bd:Below wr.heap.size wr wr.drew:=by go_grown
   replace bw:=bel8 bw bd
   replace pX:=pX.below bd
   replace ho:=owns8 ho bd
   have hsd:w.heap.size+1≤wr.drew.heap.size:=Nat.le_trans hsw bd.size
   obtain ⟨x0,x1,x2⟩:wr.drew.cell? ⟨b,off+k*3,none⟩=some (.int .i64 p0)∧wr.drew.cell? ⟨b,off+k*3+1,none⟩=some (.int .i64 p1)∧wr.drew.cell? ⟨b,off+k*3+2,none⟩=some (.int .i64 p2):=by rw [bw.cell (p:=⟨b,_,none⟩) hbw,bw.cell (p:=⟨b,_,none⟩) hbw,bw.cell (p:=⟨b,_,none⟩) hbw];exact hx9
   have y1:=pX.cell 1
   simp only [List.getElem?_cons_zero,List.getElem?_cons_succ] at y1
   have hlt':(k:Int)<(n1:Int):=by omega
   have hk0:(0:Int)≤(k:Int):=by omega
   have hb2:Below wr.drew.heap.size wr.drew (wr.drew.alloc (.cells #[.int .i64 p0,.int .i64 p1,.int .i64 p2] 3)):=by go_grown
   have ho2:=owns8 ho hb2
   have hs3:w.heap.size+1≤(wr.drew.alloc (.cells #[.int .i64 p0,.int .i64 p1,.int .i64 p2] 3)).heap.size:=by have:=hb2.size;omega
   have hnw:∀ ad,some (⟨wr.heap.size,0,none⟩:Addr)=some ad→∀ j u,([p0,p1,p2].map (Value.int .i64))[j]?=some u→(wr.drew.alloc (.cells #[.int .i64 p0,.int .i64 p1,.int .i64 p2] 3)).cell? (ad.add j)=some u:=news_new9 wr.drew [.int .i64 p0,.int .i64 p1,.int .i64 p2] 3
   have e9:(wr.drew.alloc (.cells #[.int .i64 p0,.int .i64 p1,.int .i64 p2] 3))=(wr.alloc (.cells #[.int .i64 p0,.int .i64 p1,.int .i64 p2] 3)).drew:=rfl
   rw [e9] at hb2 ho2 hs3 hnw
   clear e9 bd hsd
   go_wp2_with fail
   refine wp_region_held_drew (S:=(fun w'=>w'.cell? ⟨w.heap.size,1,none⟩=some (.slice (some ⟨b,off,none⟩) n1 c1)∧w'.cell? ⟨b,off+k*3,none⟩=some (.int .i64 p0)∧w'.cell? ⟨b,off+k*3+1,none⟩=some (.int .i64 p1)∧w'.cell? ⟨b,off+k*3+2,none⟩=some (.int .i64 p2))) (by kernel_rfl) ⟨y1,x0,x1,x2⟩ (fun hS0=>?_)
   refine tkx 0 16 (.slice xa xn xc) ?_ ?_
   ·(intro w' hSw;(try dsimp only at hSw);go_simp;first | done | rfl | omega | (intro h9;omega) | (rw [IntKind.wrap_i64];omega))
   simp only [Act.put,tka,tkb,tkc]
   refine tkx 1 17 (.pointer (some ⟨w.heap.size,1,none⟩)) ?_ ?_
   ·(intro w' hSw;(try dsimp only at hSw);go_simp;first | done | rfl | omega | (intro h9;omega) | (rw [IntKind.wrap_i64];omega))
   simp only [Act.put,tka,tkb,tkc]
   refine tkx 2 18 (.slice (some ⟨b,off,none⟩) n1 c1) ?_ ?_
   ·(intro w' hSw;(try dsimp only at hSw);go_simp;first | done | rfl | omega | (intro h9;omega) | (rw [IntKind.wrap_i64];omega))
   simp only [Act.put,tka,tkb,tkc]
   refine tkx 3 19 (.int .i64 (k:Int)) ?_ ?_
   ·(intro w' hSw;(try dsimp only at hSw);go_simp;first | done | rfl | omega | (intro h9;omega) | (rw [IntKind.wrap_i64];omega))
   simp only [Act.put,tka,tkb,tkc]
   refine tkx 4 20 (.pointer (some ⟨b,off+k*3,none⟩)) ?_ ?_
   ·(intro w' hSw;(try dsimp only at hSw);go_simp;first | done | rfl | omega | (intro h9;omega) | (rw [IntKind.wrap_i64];omega))
   simp only [Act.put,tka,tkb,tkc]
   refine tkx 5 21 (.pointer (some ⟨b,off+k*3,none⟩)) ?_ ?_
   ·(intro w' hSw;(try dsimp only at hSw);go_simp;first | done | rfl | omega | (intro h9;omega) | (rw [IntKind.wrap_i64];omega))
   simp only [Act.put,tka,tkb,tkc]
   refine tkx 6 22 (.int .i64 p0) ?_ ?_
   ·(intro w' hSw;(try dsimp only at hSw);go_simp;first | done | rfl | omega | (intro h9;omega) | (rw [IntKind.wrap_i64];omega))
   simp only [Act.put,tka,tkb,tkc]
   refine tkx 7 23 (.pointer (some ⟨w.heap.size,1,none⟩)) ?_ ?_
   ·(intro w' hSw;(try dsimp only at hSw);go_simp;first | done | rfl | omega | (intro h9;omega) | (rw [IntKind.wrap_i64];omega))
   simp only [Act.put,tka,tkb,tkc]
   refine tkx 8 24 (.slice (some ⟨b,off,none⟩) n1 c1) ?_ ?_
   ·(intro w' hSw;(try dsimp only at hSw);go_simp;first | done | rfl | omega | (intro h9;omega) | (rw [IntKind.wrap_i64];omega))
   simp only [Act.put,tka,tkb,tkc]
   refine tkx 9 25 (.int .i64 (k:Int)) ?_ ?_
   ·(intro w' hSw;(try dsimp only at hSw);go_simp;first | done | rfl | omega | (intro h9;omega) | (rw [IntKind.wrap_i64];omega))
   simp only [Act.put,tka,tkb,tkc]
   refine tkx 10 26 (.pointer (some ⟨b,off+k*3,none⟩)) ?_ ?_
   ·(intro w' hSw;(try dsimp only at hSw);go_simp;first | done | rfl | omega | (intro h9;omega) | (rw [IntKind.wrap_i64];omega))
   simp only [Act.put,tka,tkb,tkc]
   refine tkx 11 27 (.pointer (some ⟨b,off+k*3+1,none⟩)) ?_ ?_
   ·(intro w' hSw;(try dsimp only at hSw);go_simp;first | done | rfl | omega | (intro h9;omega) | (rw [IntKind.wrap_i64];omega))
   simp only [Act.put,tka,tkb,tkc]
   refine tkx 12 28 (.int .i64 p1) ?_ ?_
   ·(intro w' hSw;(try dsimp only at hSw);go_simp;first | done | rfl | omega | (intro h9;omega) | (rw [IntKind.wrap_i64];omega))
   simp only [Act.put,tka,tkb,tkc]
   refine tkx 13 29 (.pointer (some ⟨w.heap.size,1,none⟩)) ?_ ?_
   ·(intro w' hSw;(try dsimp only at hSw);go_simp;first | done | rfl | omega | (intro h9;omega) | (rw [IntKind.wrap_i64];omega))
   simp only [Act.put,tka,tkb,tkc]
   refine tkx 14 30 (.slice (some ⟨b,off,none⟩) n1 c1) ?_ ?_
   ·(intro w' hSw;(try dsimp only at hSw);go_simp;first | done | rfl | omega | (intro h9;omega) | (rw [IntKind.wrap_i64];omega))
   simp only [Act.put,tka,tkb,tkc]
   refine tkx 15 31 (.int .i64 (k:Int)) ?_ ?_
   ·(intro w' hSw;(try dsimp only at hSw);go_simp;first | done | rfl | omega | (intro h9;omega) | (rw [IntKind.wrap_i64];omega))
   simp only [Act.put,tka,tkb,tkc]
   refine tkx 16 32 (.pointer (some ⟨b,off+k*3,none⟩)) ?_ ?_
   ·(intro w' hSw;(try dsimp only at hSw);go_simp;first | done | rfl | omega | (intro h9;omega) | (rw [IntKind.wrap_i64];omega))
   simp only [Act.put,tka,tkb,tkc]
   refine tkx 17 33 (.pointer (some ⟨b,off+k*3+2,none⟩)) ?_ ?_
   ·(intro w' hSw;(try dsimp only at hSw);go_simp;first | done | rfl | omega | (intro h9;omega) | (rw [IntKind.wrap_i64];omega))
   simp only [Act.put,tka,tkb,tkc]
   refine tkx 18 34 (.int .i64 p2) ?_ ?_
   ·(intro w' hSw;(try dsimp only at hSw);go_simp;first | done | rfl | omega | (intro h9;omega) | (rw [IntKind.wrap_i64];omega))
   simp only [Act.put,tka,tkb,tkc]
   refine tkr 19 35 (fun K hK=>?_)
   go_simp
   refine hK.out _ _ ?_ (fun hS1=>?_)
   ·exact ⟨cells_kept hb2 _ _ hS0.1,cells_kept hb2 _ _ hS0.2.1,cells_kept hb2 _ _ hS0.2.2.1,cells_kept hb2 _ _ hS0.2.2.2⟩
   clear hK
   try simp only [Act.put,tka,tkb,tkc]
   refine tkr 20 36 (fun K hK=>?_)
   refine step_app9 rfl _ _ 23 rfl (w.heap.size+1) 3 i1 (.int .i64 0) 1 8 Tryd.underlying23 hi1 hz10 hz11 hz12 rfl (by decide) _ _ _ rfl ho2 _ 3 3 rfl (fun h9=>by cases h9) ([p0,p1,p2].map (Value.int .i64)) (by simp) hnw (one8 _) (by unfold maxLen;omega) (by omega) hs3 ?_
   intro v3 w3 hown hgrow _
   have q3:w3.ownsRow (w.heap.size+1) 3 1 v3 (R++[p0,p1,p2]).length ((R++[p0,p1,p2]).map (Value.int .i64)):=by rw [List.map_append,List.length_append];exact hown
   have hgB:∀ g,(Value.ownBlock (.slice xa xn xc))=some g→w.heap.size+1≤g:=fun g hg=>(ho2.lt g hg).1
   have b3:Below w.heap.size w w3:=(bel8 bw hb2).grown hgrow (by omega) (fun g hg=>by have:=hgB g hg;omega)
   have pX3:=(pX.below hb2).kept hgrow (fun e9=>by have:=hgB _ e9;omega)
   have hS2:w3.cell? ⟨b,off+k*3,none⟩=some (.int .i64 p0)∧w3.cell? ⟨b,off+k*3+1,none⟩=some (.int .i64 p1)∧w3.cell? ⟨b,off+k*3+2,none⟩=some (.int .i64 p2):=by rw [b3.cell (p:=⟨b,_,none⟩) hbw,b3.cell (p:=⟨b,_,none⟩) hbw,b3.cell (p:=⟨b,_,none⟩) hbw];exact hx9
   have hs9:=Nat.le_trans hs3 hgrow.size
   go_simp
   refine hK.out _ _ ?_ (fun hS3=>?_)
   ·exact ⟨pX3.cell 1,hS2⟩
   clear hK
   try simp only [Act.put,tka,tkb,tkc]
   obtain ⟨va9,vc9,rfl⟩:=slice8 q3
   clear ho ho2 hown hgrow hgB hb2 hnw hS2 hs3
   refine tkx 21 3 (.slice va9 (R++[p0,p1,p2]).length vc9) ?_ ?_
   ·(intro w' hSw;(try dsimp only at hSw);go_simp;first | done | rfl | omega | (intro h9;omega) | (rw [IntKind.wrap_i64];omega))
   simp only [Act.put,tka,tkb,tkc]
   refine wpAnyH_done (by kernel_rfl) ?_ _
   clear x0 x1 x2 y1 yw hS0 hS1 hS3 pX bw
   go_wp2
   go_roundw
   case rel=>exact ⟨k+1,_,_,_,by omega,by go_num,rfl,by rw [HS.out];exact q3,b3,pX3,hs9⟩
   case measure=>simp [intOf];omega
  ·obtain rfl:k=n1:=by omega
   have e9:rowNums (eb.take k)=rowNums eb:=by rw [List.take_of_length_le (by omega)]
   rw [e9] at ho
   have hrl:((k:Int)::rowNums eb).length≤91:=by rw [List.length_cons,rowNums_length];omega
   clear e9
   generalize (k:Int)::rowNums eb=R at *
   have HT:Hid (tn=R++ez):=HTN
   have HL8:Hid (L8=R.length+n2):=by rw [Hid,HL8l.out,HT.out,List.length_append,hl2]
   clear HTN HL8l
   have yw:=pX.cell 1
   simp only [List.getElem?_cons_zero,List.getElem?_cons_succ] at yw
   have bd:Below wr.heap.size wr wr.drew:=by go_grown
   replace bw:=bel8 bw bd
   replace pX:=pX.below bd
   replace ho:=owns8 ho bd
   replace hsw:w.heap.size+1≤wr.drew.heap.size:=Nat.le_trans hsw bd.size
   clear bd
   have hlt':¬ (k:Int)<(k:Int):=by omega
   have y1:=pX.cell 1
   simp only [List.getElem?_cons_zero,List.getElem?_cons_succ] at y1
   go_wp2_with fail
   refine wp_region_held_drew (S:=(fun w'=>w'.cell? ⟨w.heap.size,0,none⟩=some (.string ek)∧w'.cell? ⟨w.heap.size,2,none⟩=some (.slice a2 n2 c2))) (by kernel_rfl) ⟨pX.cell 0,pX.cell 2⟩ (fun hS0=>?_)
   refine tkx 0 37 (.pointer (some ⟨w.heap.size,0,none⟩)) ?_ ?_
   ·(intro w' hSw;(try dsimp only at hSw);go_simp;first | done | rfl | omega | (intro h9;omega) | (rw [IntKind.wrap_i64];omega))
   simp only [Act.put,tka,tkb,tkc]
   refine tkx 1 38 (.string ek) ?_ ?_
   ·(intro w' hSw;(try dsimp only at hSw);go_simp;first | done | rfl | omega | (intro h9;omega) | (rw [IntKind.wrap_i64];omega))
   simp only [Act.put,tka,tkb,tkc]
   refine tkx 2 39 (.slice xa xn xc) ?_ ?_
   ·(intro w' hSw;(try dsimp only at hSw);go_simp;first | done | rfl | omega | (intro h9;omega) | (rw [IntKind.wrap_i64];omega))
   simp only [Act.put,tka,tkb,tkc]
   refine tkx 3 40 (.pointer (some ⟨w.heap.size,2,none⟩)) ?_ ?_
   ·(intro w' hSw;(try dsimp only at hSw);go_simp;first | done | rfl | omega | (intro h9;omega) | (rw [IntKind.wrap_i64];omega))
   simp only [Act.put,tka,tkb,tkc]
   refine tkx 4 41 (.slice a2 n2 c2) ?_ ?_
   ·(intro w' hSw;(try dsimp only at hSw);go_simp;first | done | rfl | omega | (intro h9;omega) | (rw [IntKind.wrap_i64];omega))
   simp only [Act.put,tka,tkb,tkc]
   refine tkr 5 42 (fun K hK=>?_)
   refine step_app9 rfl _ _ 23 rfl (w.heap.size+1) 3 i1 (.int .i64 0) 1 8 Tryd.underlying23 hi1 hz10 hz11 hz12 rfl (by decide) _ _ _ rfl ho a2 n2 c2 rfl no2 (ez.map (Value.int .i64)) (by rw [List.length_map,Nat.mul_one];exact hl2) (fun ad ha=>by subst ha;exact newsI9 (hF.below bw)) (one8 ez) (by unfold maxLen;omega) (by omega) hsw ?_
   intro v8 W8 hown hgrow _
   have q8:W8.ownsRow (w.heap.size+1) 3 1 v8 L8 (tn.map (Value.int .i64)):=by
    have e1:tn.map (Value.int .i64)=R.map (Value.int .i64)++ez.map (Value.int .i64):=by rw [← List.map_append,HT.out]
    rw [e1,HL8.out]
    exact hown
   have hgB:∀ g,(Value.ownBlock (.slice xa xn xc))=some g→w.heap.size+1≤g:=fun g hg=>(ho.lt g hg).1
   replace bw:=bw.grown hgrow (by omega) (fun g hg=>by have:=hgB g hg;omega)
   replace pX:=pX.kept hgrow (fun e9=>by have:=hgB _ e9;omega)
   go_simp
   refine hK.out _ _ ?_ (fun hS5=>?_)
   ·exact ⟨pX.cell 0,pX.cell 2⟩
   clear hK
   try simp only [Act.put,tka,tkb,tkc]
   obtain ⟨ma,mc,rfl⟩:=slice8 q8
   have hI:=ints8 q8
   clear hown hgrow hgB
   refine tkr 6 43 (fun K hK=>?_)
   go_simp
   refine (kP ma mc W8 hI).mono ?_
   rintro e W9 ⟨rfl,hb⟩
   go_wp2_with fail
   refine hK.out _ _ ?_ (fun hS6=>?_)
   ·exact ⟨cells_kept hb _ _ hS5.1,cells_kept hb _ _ hS5.2⟩
   clear hK
   refine tkx 7 44 (.string (ek++tx)) ?_ ?_
   ·(intro w' hSw;(try dsimp only at hSw);go_simp;first | done | rfl | omega | (intro h9;omega) | (rw [IntKind.wrap_i64];omega))
   simp only [Act.put,tka,tkb,tkc]
   refine tkx 8 2 (.string (ek++tx)) ?_ ?_
   ·(intro w' hSw;(try dsimp only at hSw);go_simp;first | done | rfl | omega | (intro h9;omega) | (rw [IntKind.wrap_i64];omega))
   simp only [Act.put,tka,tkb,tkc]
   refine wpAnyH_done (by kernel_rfl) ?_ _
   replace bw:=bel8 bw hb
   clear hS0 hS5 hS6 hb hI q8 pX ho y1 yw
   go_wp2
   go_ret
   exact ⟨by rw [HX.out];rfl,bw⟩

end Go.Proofs.YthmgampabhbpoaaDoor
