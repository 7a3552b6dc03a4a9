/-
  Joined: Clone, CopI.
-/
import Derived.Lib.Strings
import Derived.Lib.Walk
import Derived.Lib.BufferWrite
import Derived.Lib.UnsafeStr
import Derived.Laws.MakeOwn
import Derived.Test.YthlcdhddickdiaaDoorE20

namespace Go.Proofs.YthlcdhddickdiaaDoor
set_option maxRecDepth 100000
set_option maxHeartbeats 16000000
open Go.RowKit

theorem clone_info:(Tryd.prog.info? 5).map (fun i=>(i.zero,i.size,i.bytes))=some (some (.int .u8 0),1,1):=by kernel_rfl

theorem stringslite_Clone (s:ByteArray) (w:World) (hlim:s.size≤281474976710656) :
  Calls Tryd.prog 95 #[.string s] w fun e w'=>e=.returned (.string s)∧Below w.heap.size w w':=by
 by_cases h0:s.size=0
 ·have hs:s=⟨#[]⟩:=by
   apply ByteArray.ext
   exact Array.eq_empty_of_size_eq_zero h0
  subst hs
  go_enter Tryd.func95,Tryd.ntmps95
  go_wp2
  go_ret
  exact ⟨rfl,Below.refl _ _⟩
 ·obtain ⟨i0,hi,hz0,hz1,hz2⟩:=info_parts clone_info
  have hinfo:(Tryd.prog.info? 5).map (·.size)=some 1:=by rw [hi];simp [hz1]
  have hco:Tryd.prog.cellsOf 5=1:=by simp [Program.cellsOf,hi,hz1]
  obtain ⟨M,hM⟩:∃ M,M=madeCells (Value.int .u8 0).cells (((s.size:Nat):Int).toNat*i0.size):=⟨_,rfl⟩
  have hMs:M.size=s.size:=by rw [hM,size_madeCells,hz1];simp
  have hmk:∀ W:World,(Instr.makeSlice 118 (.int .i64 (s.size:Int)) (.int .i64 (s.size:Int))).run Tryd.prog W=.ok (.slice (some ⟨W.heap.size,0,none⟩) s.size s.size) (W.alloc (.cells M 5)):=fun W=>by
   have h:=run_make (P:=Tryd.prog) W 118 5 i0 (.int .u8 0) Tryd.underlying118 hi hz0 .i64 .i64 (s.size:Int) (s.size:Int) (by omega) (by omega) (by rw [hz2];omega) (by omega)
   rw [← hM] at h
   simpa using h
  clear hM
  have hcp:=Lib.run_copy_row_string (P:=Tryd.prog) (w.alloc (.cells M 5)) 118 9 3 5 w.heap.size 0 s.size s.size s M 5 Tryd.underlying118 hinfo (heap_alloc_new w _) (Nat.le_refl _) (by omega)
  obtain ⟨Y,hY⟩:∃ Y,Y=(M.toList.take 0++Lib.byteCells s.data.toList++M.toList.drop (0+s.size)).toArray:=⟨_,rfl⟩
  rw [← hY] at hcp
  have hYl:Y.toList=Lib.byteCells s.data.toList:=by
   rw [hY,List.toList_toArray,List.take_zero,List.nil_append,List.drop_of_length_le (by rw [Array.length_toList];omega),List.append_nil]
  have hYs:Y.size=s.size:=by rw [← Array.length_toList,hYl,Lib.byteCells_length,← Lib.size_eq]
  have hgY:((w.alloc (.cells M 5)).setRow w.heap.size Y).heap[w.heap.size]?=some (.cells Y 5 (0,0)):=setRow_heap _ _ M _ 5 (0,0) (heap_alloc_new w _)
  have hne:s.data.toList≠[]:=fun e=>h0 (by rw [Lib.size_eq,e];rfl)
  have hUS:=Lib.run_unsafeString_row (P:=Tryd.prog) ((w.alloc (.cells M 5)).setRow w.heap.size Y) 148 3 9 5 Tryd.underlying148 hco w.heap.size Y.size (by unfold World.shape?;rw [hgY]) s.data.toList hne (by rw [← Lib.size_eq];omega) (by rw [← Lib.size_eq];omega)
   (fun j x hx=>Lib.cells_of_row hgY Y.size j _ (by rw [List.take_of_length_le (by rw [Array.length_toList];exact Nat.le_refl _),hYl];simp [Lib.byteCells,hx]))
  rw [← Lib.size_eq] at hUS
  clear hY
  go_enter Tryd.func95,Tryd.ntmps95
  go_wp2
  go_ret
  have hb1:Below w.heap.size w (w.alloc (.cells M 5)):=(Below.refl _ w).alloc (Nat.le_refl _) _
  have hb2:Below w.heap.size (w.alloc (.cells M 5)) ((w.alloc (.cells M 5)).setRow w.heap.size Y):=⟨rfl,rfl,rfl,by simp,fun k hk=>setRow_other _ _ _ _ (by omega)⟩
  exact ⟨rfl,Lib.below_freeze (hb1.trans hb2) (p:=⟨w.heap.size,0,none⟩) (Nat.le_refl _) _⟩

theorem strings_Clone (s:ByteArray) (w:World) (hlim:s.size≤281474976710656) :
  Calls Tryd.prog 67 #[.string s] w fun e w'=>e=.returned (.string s)∧Below w.heap.size w w':=by
 go_enter Tryd.func67,Tryd.ntmps67
 go_wp2_with (go_at_call 95;refine (stringslite_Clone s _ hlim).mono ?_;rintro e w1 ⟨rfl,hb1⟩)
 go_ret
 exact ⟨rfl,hb1⟩

set_option linter.unusedVariables false
set_option linter.unusedSimpArgs false

theorem copied_is (e:E3) (s:Sl2) (w:World) (h:Emem w s e) (h1:e.2.1.length≤1048576) (h2:e.2.2.length≤1048576) (h3:e.1.size≤1048576) :
  Calls Tryd.prog 41 #[entV e.1 s] w fun x w'=>EntGot x w' w.heap.size e∧Below w.heap.size w w':=by
 obtain ⟨i0,hi0,hz00,hz01,hz02⟩:=info_parts info_bug
 obtain ⟨i1,hi1,hz10,hz11,hz12⟩:=info_parts info_int
 obtain ⟨⟨_,z1,z2⟩,hB,hF,_⟩:=h
 have l1:=hB.1
 have l2:=hF.1
 have hb1:=hB.2.1
 have hb2:=hF.2.1
 obtain ⟨ek,eb,ez⟩:=e
 obtain ⟨⟨a1,n1,c1⟩,⟨a2,n2,c2⟩⟩:=s
 unfold entV
 simp only at z1 z2 hB hF l1 l2 h1 h2 h3 hb1 hb2 ⊢
 subst l1
 subst l2
 have no1:=nil_of0 (m:=0) (P:=True) z1 hb1
 have no2:=nil_of0 (m:=0) (P:=True) z2 hb2
 clear z1 z2 hb1 hb2
 have kC:=fun W=>strings_Clone ek W (by omega)
 have bw:Below w.heap.size w ((w.alloc (.cells #[.string ek,.slice a1 eb.length c1,.slice a2 ez.length c2] 39)).alloc (.cells #[.string ⟨#[]⟩,.slice none 0 0,.slice none 0 0] 39)):=by go_grown
 have pX:Blk ((w.alloc (.cells #[.string ek,.slice a1 eb.length c1,.slice a2 ez.length c2] 39)).alloc (.cells #[.string ⟨#[]⟩,.slice none 0 0,.slice none 0 0] 39)) w.heap.size 39 [.string ek,.slice a1 eb.length c1,.slice a2 ez.length c2]:=blkOld _ (blkAt _ _ _ rfl)
 have pR:Blk ((w.alloc (.cells #[.string ek,.slice a1 eb.length c1,.slice a2 ez.length c2] 39)).alloc (.cells #[.string ⟨#[]⟩,.slice none 0 0,.slice none 0 0] 39)) (w.heap.size+1) 39 [.string ⟨#[]⟩,.slice none 0 0,.slice none 0 0]:=blkAt _ _ _ (by simp)
 have x0:=pX.cell 0
 have x1:=pX.cell 1
 have x2:=pX.cell 2
 simp only [List.getElem?_cons_zero,List.getElem?_cons_succ] at x0 x1 x2
 go_enter Tryd.func41,Tryd.ntmps41
 go_wp2_with fail
 generalize ((w.alloc (.cells #[.string ek,.slice a1 eb.length c1,.slice a2 ez.length c2] 39)).alloc (.cells #[.string ⟨#[]⟩,.slice none 0 0,.slice none 0 0] 39))=W at *
 have bd0:Below W.heap.size W W.drew:=by go_grown
 have bd:Below w.heap.size w W.drew:=bel8 bw bd0
 refine wp_region_held_drew (S:=(fun w'=>w'.cell? ⟨w.heap.size,0,none⟩=some (.string ek)∧w'.cell? ⟨w.heap.size,1,none⟩=some (.slice a1 eb.length c1)∧w'.cell? ⟨w.heap.size,2,none⟩=some (.slice a2 ez.length c2))) (by kernel_rfl) ⟨x0,x1,x2⟩ (fun hS0=>?_)
 refine tkx 0 3 (.pointer (some ⟨w.heap.size,0,none⟩)) ?_ ?_
 ·(intro w' hSw;(try dsimp only at hSw);go_simp;first | done | rfl | omega | (intro h9;omega) | (rw [IntKind.wrap_i64];omega))
 simp only [Act.put,tka,tkb,tkc]
 refine tkx 1 4 (.string ek) ?_ ?_
 ·(intro w' hSw;(try dsimp only at hSw);go_simp;first | done | rfl | omega | (intro h9;omega) | (rw [IntKind.wrap_i64];omega))
 simp only [Act.put,tka,tkb,tkc]
 refine tkx 3 6 (.pointer (some ⟨w.heap.size,1,none⟩)) ?_ ?_
 ·(intro w' hSw;(try dsimp only at hSw);go_simp;first | done | rfl | omega | (intro h9;omega) | (rw [IntKind.wrap_i64];omega))
 simp only [Act.put,tka,tkb,tkc]
 refine tkx 4 7 (.slice a1 eb.length c1) ?_ ?_
 ·(intro w' hSw;(try dsimp only at hSw);go_simp;first | done | rfl | omega | (intro h9;omega) | (rw [IntKind.wrap_i64];omega))
 simp only [Act.put,tka,tkb,tkc]
 refine tkx 6 9 (.pointer (some ⟨w.heap.size,2,none⟩)) ?_ ?_
 ·(intro w' hSw;(try dsimp only at hSw);go_simp;first | done | rfl | omega | (intro h9;omega) | (rw [IntKind.wrap_i64];omega))
 simp only [Act.put,tka,tkb,tkc]
 refine tkx 7 10 (.slice a2 ez.length c2) ?_ ?_
 ·(intro w' hSw;(try dsimp only at hSw);go_simp;first | done | rfl | omega | (intro h9;omega) | (rw [IntKind.wrap_i64];omega))
 simp only [Act.put,tka,tkb,tkc]
 refine tkr 2 5 (fun K hK=>?_)
 go_simp
 refine (kC _).mono ?_
 rintro e W1 ⟨rfl,hb1⟩
 go_wp2_with fail
 refine hK.out _ _ ?_ (fun hS1=>?_)
 ·exact ⟨cells_kept hb1 _ _ hS0.1,cells_kept hb1 _ _ hS0.2.1,cells_kept hb1 _ _ hS0.2.2⟩
 clear hK
 replace bw:=bel8 bd hb1
 replace pX:=(pX.below bd0).below hb1
 replace pR:=(pR.below bd0).below hb1
 clear hb1 bd bd0
 refine tkr 5 8 (fun K hK=>?_)
 refine step_app9 rfl _ _ 37 rfl (w.heap.size+2) 93 i0 (.agg #[.int .i64 0,.int .i64 0,.int .i64 0]) 3 24 Tryd.underlying37 hi0 hz00 hz01 hz02 rfl (by decide) (.slice none 0 0) 0 [] rfl (World.ownsRow_nil _ _ _ _) a1 eb.length c1 rfl no1 (flat eb) (by rw [flat_length]) (fun ad ha=>by subst ha;exact newsB9 (hB.below bw)) (flat_one eb) (by unfold maxLen;omega) (by omega) (by have:=pR.lt;omega) ?_
 intro v5 W5 hown hgrow _
 have hbn:Below W1.heap.size W1 W5:=⟨hgrow.os,hgrow.tape,hgrow.output,hgrow.size,fun g hg=>hgrow.block g hg (by simp [Value.ownBlock])⟩
 have q5:W5.ownsRow (w.heap.size+2) 93 3 v5 eb.length (flat eb):=by simpa using hown
 go_simp
 refine hK.out _ _ ?_ (fun hS5=>?_)
 ·exact ⟨cells_kept hbn _ _ hS1.1,cells_kept hbn _ _ hS1.2.1,cells_kept hbn _ _ hS1.2.2⟩
 clear hK
 try simp only [Act.put,tka,tkb,tkc]
 replace bw:=bel8 bw hbn
 replace pX:=pX.below hbn
 replace pR:=pR.below hbn
 skip
 obtain ⟨va5,vc5,rfl⟩:=slice8 q5
 clear hown hgrow hbn
 refine tkr 8 11 (fun K hK=>?_)
 refine step_app9 rfl _ _ 26 rfl (w.heap.size+2) 3 i1 (.int .i64 0) 1 8 Tryd.underlying26 hi1 hz10 hz11 hz12 rfl (by decide) (.slice none 0 0) 0 [] rfl (World.ownsRow_nil _ _ _ _) a2 ez.length c2 rfl no2 (ez.map (Value.int .i64)) (by rw [List.length_map,Nat.mul_one]) (fun ad ha=>by subst ha;exact newsI9 (hF.below bw)) (one8 ez) (by unfold maxLen;omega) (by omega) (by have:=pR.lt;omega) ?_
 intro v8 W8 hown hgrow _
 have hbn:Below W5.heap.size W5 W8:=⟨hgrow.os,hgrow.tape,hgrow.output,hgrow.size,fun g hg=>hgrow.block g hg (by simp [Value.ownBlock])⟩
 have q8:W8.ownsRow (w.heap.size+2) 3 1 v8 ez.length (ez.map (Value.int .i64)):=by simpa using hown
 go_simp
 refine hK.out _ _ ?_ (fun hS8=>?_)
 ·exact ⟨cells_kept hbn _ _ hS5.1,cells_kept hbn _ _ hS5.2.1,cells_kept hbn _ _ hS5.2.2⟩
 clear hK
 try simp only [Act.put,tka,tkb,tkc]
 replace bw:=bel8 bw hbn
 replace pX:=pX.below hbn
 replace pR:=pR.below hbn
 replace q5:=owns8 q5 hbn
 obtain ⟨va8,vc8,rfl⟩:=slice8 q8
 clear hown hgrow hbn
 refine tkx 9 12 (.agg #[.string ek,.slice va5 eb.length vc5,.slice va8 ez.length vc8]) ?_ ?_
 ·(intro w' hSw;(try dsimp only at hSw);go_simp;first | done | rfl | omega | (intro h9;omega) | (rw [IntKind.wrap_i64];omega))
 simp only [Act.put,tka,tkb,tkc]
 have r0:=pR.cell 0
 have r1:=pR.cell 1
 have r2:=pR.cell 2
 have fr0:=pR.frozen 0
 have fr1:=pR.frozen 1
 have fr2:=pR.frozen 2
 simp only [List.getElem?_cons_zero,List.getElem?_cons_succ] at r0 r1 r2
 have pZ:=((pR.set 0 (.string ek)).set 1 (.slice va5 eb.length vc5)).set 2 (.slice va8 ez.length vc8)
 have pX2:=((pX.off ⟨w.heap.size+1,0,none⟩ (.string ek) (by simp)).off ⟨w.heap.size+1,1,none⟩ (.slice va5 eb.length vc5) (by simp)).off ⟨w.heap.size+1,2,none⟩ (.slice va8 ez.length vc8) (by simp)
 simp only [List.set_cons_zero,List.set_cons_succ] at pZ
 have z0:=pZ.cell 0
 have zz1:=pZ.cell 1
 have zz2:=pZ.cell 2
 have m0:=pX2.cell 0
 have m1:=pX2.cell 1
 have m2:=pX2.cell 2
 simp only [List.getElem?_cons_zero,List.getElem?_cons_succ] at z0 zz1 zz2 m0 m1 m2
 have hle:w.heap.size≤w.heap.size+1:=by omega
 have hlt9:w.heap.size+1<w.heap.size+2:=by omega
 have bz:=((bw.setCell (p:=⟨w.heap.size+1,0,none⟩) hle (.string ek)).setCell (p:=⟨w.heap.size+1,1,none⟩) hle (.slice va5 eb.length vc5)).setCell (p:=⟨w.heap.size+1,2,none⟩) hle (.slice va8 ez.length vc8)
 replace q5:=ownsRow_setCell_below (ownsRow_setCell_below (ownsRow_setCell_below q5 (a:=⟨w.heap.size+1,0,none⟩) hlt9 (.string ek)) (a:=⟨w.heap.size+1,1,none⟩) hlt9 (.slice va5 eb.length vc5)) (a:=⟨w.heap.size+1,2,none⟩) hlt9 (.slice va8 ez.length vc8)
 replace q8:=ownsRow_setCell_below (ownsRow_setCell_below (ownsRow_setCell_below q8 (a:=⟨w.heap.size+1,0,none⟩) hlt9 (.string ek)) (a:=⟨w.heap.size+1,1,none⟩) hlt9 (.slice va5 eb.length vc5)) (a:=⟨w.heap.size+1,2,none⟩) hlt9 (.slice va8 ez.length vc8)
 have qB9:=lower8 q5 (show w.heap.size≤w.heap.size+2 by omega)
 have qF9:=lower8 q8 (show w.heap.size≤w.heap.size+2 by omega)
 clear pR pZ pX pX2 bw q5 q8
 refine tkz 10 (fun K hK=>?_)
 go_simp
 refine hK.out _ _ ?_ (fun hS10=>?_)
 ·exact ⟨m0,m1,m2⟩
 clear hK
 try simp only [Act.put,tka,tkb,tkc]
 refine wpAnyH_done (by kernel_rfl) ?_ _
 go_wp2
 refine bodyPost_ret (by simp [results,Tryd.results41,go_sem,z0,zz1,zz2];try rfl) rfl ?_
 exact ⟨EntGot.mk9 (e:=(ek,eb,ez)) ((va5,eb.length,vc5),(va8,ez.length,vc8)) ⟨qB9,qF9⟩,bz⟩
end Go.Proofs.YthlcdhddickdiaaDoor
