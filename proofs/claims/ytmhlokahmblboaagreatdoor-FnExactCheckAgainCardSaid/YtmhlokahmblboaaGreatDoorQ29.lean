/-
  Joined: Clone, CopI, StrP.
-/
import Derived.Lib.Strings
import Derived.Lib.Walk
import Derived.Lib.BufferWrite
import Derived.Lib.UnsafeStr
import Derived.Laws.MakeOwn
import Derived.Laws.Strings
import Derived.Test.YtmhlokahmblboaaGreatDoorQ28

namespace Go.Proofs.YtmhlokahmblboaaGreatDoor
set_option maxRecDepth 100000
set_option maxHeartbeats 16000000
open Go.RowKit

theorem MF:(Tryz.prog.info? 5).map (fun i=>(i.zero,i.size,i.bytes))=some (some (.int .u8 0),1,1):=by kernel_rfl

theorem TD (s:ByteArray) (w:World) (hlim:s.size≤281474976710656) :
  Calls Tryz.prog 167 #[.string s] w fun e w'=>e=.returned (.string s)∧Below w.heap.size w w':=by
 by_cases h0:s.size=0
 ·have hs:s=⟨#[]⟩:=by
   apply ByteArray.ext
   exact Array.eq_empty_of_size_eq_zero h0
  subst hs
  go_enter Tryz.func167,Tryz.ntmps167
  go_wp2
  go_ret
  exact ⟨rfl,Below.refl _ _⟩
 obtain ⟨i0,hi,hz0,hz1,hz2⟩:=info_parts MF
 have hinfo:(Tryz.prog.info? 5).map (·.size)=some 1:=by rw [hi];simp [hz1]
 have hco:Tryz.prog.cellsOf 5=1:=by simp [Program.cellsOf,hi,hz1]
 obtain ⟨M,hM⟩:∃ M,M=madeCells (Value.int .u8 0).cells (((s.size:Nat):Int).toNat*i0.size):=⟨_,rfl⟩
 have hMs:M.size=s.size:=by rw [hM,size_madeCells,hz1];simp
 have hmk:∀ W:World,(Instr.makeSlice 22 (.int .i64 (s.size:Int)) (.int .i64 (s.size:Int))).run Tryz.prog W=.ok (.slice (some ⟨W.heap.size,0,none⟩) s.size s.size) (W.alloc (.cells M 5)):=fun W=>by
  have h:=run_make (P:=Tryz.prog) W 22 5 i0 (.int .u8 0) Tryz.underlying22 hi hz0 .i64 .i64 (s.size:Int) (s.size:Int) (by omega) (by omega) (by rw [hz2];omega) (by omega)
  rw [← hM] at h
  simpa using h
 clear hM
 have hcp:=Lib.run_copy_row_string (P:=Tryz.prog) (w.alloc (.cells M 5)) 22 9 3 5 w.heap.size 0 s.size s.size s M 5 Tryz.underlying22 hinfo (heap_alloc_new w _) (Nat.le_refl _) (by omega)
 obtain ⟨Y,hY⟩:∃ Y,Y=(M.toList.take 0++Lib.byteCells s.data.toList++M.toList.drop (0+s.size)).toArray:=⟨_,rfl⟩
 rw [← hY] at hcp
 have hYl:Y.toList=Lib.byteCells s.data.toList:=by
  rw [hY,List.toList_toArray,List.take_zero,List.nil_append,List.drop_of_length_le (by rw [Array.length_toList];omega),List.append_nil]
 have hYs:Y.size=s.size:=by rw [← Array.length_toList,hYl,Lib.byteCells_length,← Lib.size_eq]
 have hgY:((w.alloc (.cells M 5)).setRow w.heap.size Y).heap[w.heap.size]?=some (.cells Y 5 (0,0)):=setRow_heap _ _ M _ 5 (0,0) (heap_alloc_new w _)
 have hne:s.data.toList≠[]:=fun e=>h0 (by rw [Lib.size_eq,e];rfl)
 have hUS:=Lib.run_unsafeString_row (P:=Tryz.prog) ((w.alloc (.cells M 5)).setRow w.heap.size Y) 283 3 9 5 Tryz.underlying283 hco w.heap.size Y.size (by unfold World.shape?;rw [hgY]) s.data.toList hne (by rw [← Lib.size_eq];omega) (by rw [← Lib.size_eq];omega)
  (fun j x hx=>Lib.cells_of_row hgY Y.size j _ (by rw [List.take_of_length_le (by rw [Array.length_toList];exact Nat.le_refl _),hYl];simp [Lib.byteCells,hx]))
 rw [← Lib.size_eq] at hUS
 clear hY
 go_enter Tryz.func167,Tryz.ntmps167
 go_wp2
 go_ret
 have hb1:Below w.heap.size w (w.alloc (.cells M 5)):=(Below.refl _ w).alloc (Nat.le_refl _) _
 have hb2:Below w.heap.size (w.alloc (.cells M 5)) ((w.alloc (.cells M 5)).setRow w.heap.size Y):=⟨rfl,rfl,rfl,by simp,fun k hk=>setRow_other _ _ _ _ (by omega)⟩
 exact ⟨rfl,Lib.below_freeze (hb1.trans hb2) (p:=⟨w.heap.size,0,none⟩) (Nat.le_refl _) _⟩

theorem QC (s:ByteArray) (w:World) (hlim:s.size≤281474976710656) :
  Calls Tryz.prog 110 #[.string s] w fun e w'=>e=.returned (.string s)∧Below w.heap.size w w':=by
 go_enter Tryz.func110,Tryz.ntmps110
 go_wp2_with (go_at_call 167;refine (TD s _ hlim).mono ?_;rintro e w1 ⟨rfl,hb1⟩)
 go_ret
 exact ⟨rfl,hb1⟩

set_option linter.unusedVariables false
set_option linter.unusedSimpArgs false

theorem QO (e:E3) (s:Sl2) (w:World) (h:YL w s e) (h1:e.2.1.length≤1048576) (h2:e.2.2.length≤1048576) (h3:e.1.size≤1048576) :
  Calls Tryz.prog 54 #[ZU e.1 s] w fun x w'=>WH x w' w.heap.size e∧Below w.heap.size w w':=by
 obtain ⟨i0,hi0,hz00,hz01,hz02⟩:=info_parts Y6
 obtain ⟨i1,hi1,hz10,hz11,hz12⟩:=info_parts Xp
 obtain ⟨⟨_,z1,z2⟩,hB,hF,_⟩:=h
 have l1:=hB.1
 have l2:=hF.1
 have hb1:=hB.2.1
 have hb2:=hF.2.1
 obtain ⟨ek,eb,ez⟩:=e
 obtain ⟨⟨a1,n1,c1⟩,⟨a2,n2,c2⟩⟩:=s
 unfold ZU
 simp only at z1 z2 hB hF l1 l2 h1 h2 h3 hb1 hb2 ⊢
 subst l1
 subst l2
 have no1:=Xs (m:=0) (P:=True) z1 hb1
 have no2:=Xs (m:=0) (P:=True) z2 hb2
 clear z1 z2 hb1 hb2
 have kC:=fun W=>QC ek W (by omega)
 have bw:Below w.heap.size w ((w.alloc (.cells #[.string ek,.slice a1 eb.length c1,.slice a2 ez.length c2] 109)).alloc (.cells #[.string ⟨#[]⟩,.slice none 0 0,.slice none 0 0] 109)):=by go_grown
 have pX:Blk ((w.alloc (.cells #[.string ek,.slice a1 eb.length c1,.slice a2 ez.length c2] 109)).alloc (.cells #[.string ⟨#[]⟩,.slice none 0 0,.slice none 0 0] 109)) w.heap.size 109 [.string ek,.slice a1 eb.length c1,.slice a2 ez.length c2]:=Zf _ (Zh _ _ _ rfl)
 have pR:Blk ((w.alloc (.cells #[.string ek,.slice a1 eb.length c1,.slice a2 ez.length c2] 109)).alloc (.cells #[.string ⟨#[]⟩,.slice none 0 0,.slice none 0 0] 109)) (w.heap.size+1) 109 [.string ⟨#[]⟩,.slice none 0 0,.slice none 0 0]:=Zh _ _ _ (by simp)
 have x0:=pX.cell 0
 have x1:=pX.cell 1
 have x2:=pX.cell 2
 simp only [List.getElem?_cons_zero,List.getElem?_cons_succ] at x0 x1 x2
 go_enter Tryz.func54,Tryz.ntmps54
 go_wp2_with fail
 generalize ((w.alloc (.cells #[.string ek,.slice a1 eb.length c1,.slice a2 ez.length c2] 109)).alloc (.cells #[.string ⟨#[]⟩,.slice none 0 0,.slice none 0 0] 109))=W at *
 have bd0:Below W.heap.size W W.drew:=by go_grown
 have bd:Below w.heap.size w W.drew:=Zm bw bd0
 refine wp_region_held_drew (S:=(fun w'=>w'.cell? ⟨w.heap.size,0,none⟩=some (.string ek)∧w'.cell? ⟨w.heap.size,1,none⟩=some (.slice a1 eb.length c1)∧w'.cell? ⟨w.heap.size,2,none⟩=some (.slice a2 ez.length c2))) (by kernel_rfl) ⟨x0,x1,x2⟩ (fun hS0=>?_)
 refine tkv 0 3 (.pointer (some ⟨w.heap.size,0,none⟩)) ?_
 refine tkv 1 4 (.string ek) ?_
 refine tkv 3 6 (.pointer (some ⟨w.heap.size,1,none⟩)) ?_
 refine tkv 4 7 (.slice a1 eb.length c1) ?_
 refine tkv 6 9 (.pointer (some ⟨w.heap.size,2,none⟩)) ?_
 refine tkv 7 10 (.slice a2 ez.length c2) ?_
 refine tkr 2 5 (fun K hK=>?_)
 go_simp
 refine (kC _).mono ?_
 rintro e W1 ⟨rfl,hb1⟩
 go_wp2_with fail
 refine hK.out _ _ ?_ (fun hS1=>?_)
 ·exact ⟨Za hb1 _ _ hS0.1,Za hb1 _ _ hS0.2.1,Za hb1 _ _ hS0.2.2⟩
 clear hK
 replace bw:=Zm bd hb1
 replace pX:=(pX.below bd0).below hb1
 replace pR:=(pR.below bd0).below hb1
 clear hb1 bd bd0
 refine tkr 5 8 (fun K hK=>?_)
 refine Yu rfl _ _ 29 rfl (w.heap.size+2) 90 i0 (.agg #[.int .i64 0,.int .i64 0,.int .i64 0]) 3 24 Tryz.underlying29 hi0 hz00 hz01 hz02 rfl (by decide) (.slice none 0 0) 0 [] rfl (World.ownsRow_nil _ _ _ _) a1 eb.length c1 rfl no1 (Zk eb) (by rw [Zr]) (fun ad ha=>by subst ha;exact TV (hB.below bw)) (ZY eb) (by unfold maxLen;omega) (by omega) (by have:=pR.lt;omega) ?_
 intro v5 W5 hown hgrow _
 have hbn:Below W1.heap.size W1 W5:=⟨hgrow.os,hgrow.tape,hgrow.output,hgrow.size,fun g hg=>hgrow.block g hg (by simp [Value.ownBlock])⟩
 have q5:W5.ownsRow (w.heap.size+2) 90 3 v5 eb.length (Zk eb):=by simpa using hown
 go_simp
 refine hK.out _ _ ?_ (fun hS5=>?_)
 ·exact ⟨Za hbn _ _ hS1.1,Za hbn _ _ hS1.2.1,Za hbn _ _ hS1.2.2⟩
 clear hK
 try simp only [Act.put,tka,tkb,tkc]
 replace bw:=Zm bw hbn
 replace pX:=pX.below hbn
 replace pR:=pR.below hbn
 skip
 obtain ⟨va5,vc5,rfl⟩:=ZH q5
 clear hown hgrow hbn
 refine tkr 8 11 (fun K hK=>?_)
 refine Yu rfl _ _ 72 rfl (w.heap.size+2) 3 i1 (.int .i64 0) 1 8 Tryz.underlying72 hi1 hz10 hz11 hz12 rfl (by decide) (.slice none 0 0) 0 [] rfl (World.ownsRow_nil _ _ _ _) a2 ez.length c2 rfl no2 (ez.map (Value.int .i64)) (by rw [List.length_map,Nat.mul_one]) (fun ad ha=>by subst ha;exact Hg (hF.below bw)) (TY ez) (by unfold maxLen;omega) (by omega) (by have:=pR.lt;omega) ?_
 intro v8 W8 hown hgrow _
 have hbn:Below W5.heap.size W5 W8:=⟨hgrow.os,hgrow.tape,hgrow.output,hgrow.size,fun g hg=>hgrow.block g hg (by simp [Value.ownBlock])⟩
 have q8:W8.ownsRow (w.heap.size+2) 3 1 v8 ez.length (ez.map (Value.int .i64)):=by simpa using hown
 go_simp
 refine hK.out _ _ ?_ (fun hS8=>?_)
 ·exact ⟨Za hbn _ _ hS5.1,Za hbn _ _ hS5.2.1,Za hbn _ _ hS5.2.2⟩
 clear hK
 try simp only [Act.put,tka,tkb,tkc]
 replace bw:=Zm bw hbn
 replace pX:=pX.below hbn
 replace pR:=pR.below hbn
 replace q5:=Zp q5 hbn
 obtain ⟨va8,vc8,rfl⟩:=ZH q8
 clear hown hgrow hbn
 refine tkv 9 12 (.agg #[.string ek,.slice va5 eb.length vc5,.slice va8 ez.length vc8]) ?_
 have r0:=pR.cell 0
 have r1:=pR.cell 1
 have r2:=pR.cell 2
 have fr0:=pR.frozen 0
 have fr1:=pR.frozen 1
 have fr2:=pR.frozen 2
 simp only [List.getElem?_cons_zero,List.getElem?_cons_succ] at r0 r1 r2
 have pZ:=((pR.set 0 (.string ek)).set 1 (.slice va5 eb.length vc5)).set 2 (.slice va8 ez.length vc8)
 have pX2:=((pX.off ⟨w.heap.size+1,0,none⟩ (.string ek) (by simp)).off ⟨w.heap.size+1,1,none⟩ (.slice va5 eb.length vc5) (by simp)).off ⟨w.heap.size+1,2,none⟩ (.slice va8 ez.length vc8) (by simp)
 simp only [List.set_cons_zero,List.set_cons_succ] at pZ
 have z0:=pZ.cell 0
 have zz1:=pZ.cell 1
 have zz2:=pZ.cell 2
 have m0:=pX2.cell 0
 have m1:=pX2.cell 1
 have m2:=pX2.cell 2
 simp only [List.getElem?_cons_zero,List.getElem?_cons_succ] at z0 zz1 zz2 m0 m1 m2
 have hle:w.heap.size≤w.heap.size+1:=by omega
 have hlt9:w.heap.size+1<w.heap.size+2:=by omega
 have bz:=((bw.setCell (p:=⟨w.heap.size+1,0,none⟩) hle (.string ek)).setCell (p:=⟨w.heap.size+1,1,none⟩) hle (.slice va5 eb.length vc5)).setCell (p:=⟨w.heap.size+1,2,none⟩) hle (.slice va8 ez.length vc8)
 replace q5:=ownsRow_setCell_below (ownsRow_setCell_below (ownsRow_setCell_below q5 (a:=⟨w.heap.size+1,0,none⟩) hlt9 (.string ek)) (a:=⟨w.heap.size+1,1,none⟩) hlt9 (.slice va5 eb.length vc5)) (a:=⟨w.heap.size+1,2,none⟩) hlt9 (.slice va8 ez.length vc8)
 replace q8:=ownsRow_setCell_below (ownsRow_setCell_below (ownsRow_setCell_below q8 (a:=⟨w.heap.size+1,0,none⟩) hlt9 (.string ek)) (a:=⟨w.heap.size+1,1,none⟩) hlt9 (.slice va5 eb.length vc5)) (a:=⟨w.heap.size+1,2,none⟩) hlt9 (.slice va8 ez.length vc8)
 have qB9:=ZT q5 (show w.heap.size≤w.heap.size+2 by omega)
 have qF9:=ZT q8 (show w.heap.size≤w.heap.size+2 by omega)
 clear pR pZ pX pX2 bw q5 q8
 refine tkz 10 (fun K hK=>?_)
 go_simp
 refine hK.out _ _ ?_ (fun hS10=>?_)
 ·exact ⟨m0,m1,m2⟩
 clear hK
 try simp only [Act.put,tka,tkb,tkc]
 refine wpAnyH_done (by kernel_rfl) ?_ _
 go_wp2
 refine bodyPost_ret (by simp [results,Tryz.results54,go_sem,z0,zz1,zz2];try rfl) rfl ?_
 exact ⟨WH.mk9 (e:=(ek,eb,ez)) ((va5,eb.length,vc5),(va8,ez.length,vc8)) ⟨qB9,qF9⟩,bz⟩

open Go.Op

def ltS (a b:ByteArray):Bool:=bytesLess a.toList b.toList
theorem QJ:∀ l:List UInt8,bytesLess l l=false
 | []=>rfl
 | a::l=>by
  have:=QJ l
  simp [bytesLess,this]
theorem UH {x y:UInt8} {a b:List UInt8}:bytesLess (x::a) (y::b)=true↔x<y∨(x=y∧bytesLess a b=true):=by
 simp [bytesLess]
theorem Nl:∀ {a b c:List UInt8},bytesLess a b=true→bytesLess b c=true→bytesLess a c=true
 | _,[],_,h,_=>by simp [bytesLess] at h
 | _,_::_,[],_,k=>by simp [bytesLess] at k
 | [],_::_,_::_,_,_=>by simp [bytesLess]
 | x::a,y::b,z::c,h,k=>by
  rw [UH] at h k ⊢
  rcases h with h | ⟨rfl,h⟩
  ·rcases k with k | ⟨rfl,k⟩
   ·exact .inl (UInt8.lt_trans h k)
   exact .inl h
  rcases k with k | ⟨rfl,k⟩
  ·exact .inl k
  exact .inr ⟨rfl,Nl h k⟩
theorem Nk:∀ {a b:List UInt8},bytesLess a b=false→bytesLess b a=false→a=b
 | [],[],_,_=>rfl
 | [],_::_,h,_=>by simp [bytesLess] at h
 | _::_,[],_,k=>by simp [bytesLess] at k
 | x::a,y::b,h,k=>by
  have h1:¬ (x<y∨(x=y∧bytesLess a b=true)):=fun e=>by rw [UH.2 e] at h;cases h
  have k1:¬ (y<x∨(y=x∧bytesLess b a=true)):=fun e=>by rw [UH.2 e] at k;cases k
  have hxy:x=y:=UInt8.le_antisymm (UInt8.not_lt.1 fun e=>k1 (.inl e)) (UInt8.not_lt.1 fun e=>h1 (.inl e))
  subst hxy
  have h2:bytesLess a b=false:=by cases e:bytesLess a b<;>simp_all
  have k2:bytesLess b a=false:=by cases e:bytesLess b a<;>simp_all
  rw [Nk h2 k2]
theorem UC (a:ByteArray):ltS a a=false:=QJ _
theorem Vn {a b c:ByteArray} (h:ltS a b=true) (k:ltS b c=true):ltS a c=true:=Nl h k
theorem SH {a b:ByteArray} (h:a.toList=b.toList):a=b:=by
 have h1:a.data.toList=b.data.toList:=by
  rw [← Go.ByteArray.toList_eq a,← Go.ByteArray.toList_eq b]
  exact h
 cases a
 cases b
 simp at h1
 rw [h1]
theorem K0 {a b:ByteArray} (h:ltS a b=false) (k:ltS b a=false):a=b:=SH (Nk h k)
end Go.Proofs.YtmhlokahmblboaaGreatDoor
