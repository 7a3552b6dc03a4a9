/-
  Joined: EsO, Clone.
-/
import Derived.Lib.Strings
import Derived.Lib.Walk
import Derived.Lib.BufferWrite
import Derived.Lib.UnsafeStr
import Derived.Laws.MakeOwn
import Derived.Test.YthmgampabhbpoaaDoorD34

namespace Go.Proofs.YthmgampabhbpoaaDoor
set_option maxRecDepth 100000
set_option maxHeartbeats 16000000
open Go.RowKit
set_option linter.unusedVariables false
set_option linter.unusedSimpArgs false

def EntGot (x:Ending) (w':World) (B:Nat) (e:E3):Prop:=∃ s:Sl2,x=.returned (entV e.1 s)∧OwnE w' B (.slice s.1.1 s.1.2.1 s.1.2.2) (.slice s.2.1 s.2.2.1 s.2.2.2) e
theorem EntGot.mk9 {w':World} {B:Nat} {e:E3} (s:Sl2) (h:OwnE w' B (.slice s.1.1 s.1.2.1 s.1.2.2) (.slice s.2.1 s.2.2.1 s.2.2.2) e):EntGot (.returned (entV e.1 s)) w' B e:=⟨s,rfl,h⟩
theorem nil_of0 {n c m:Nat} {a:Option Addr} {P:Prop} (hz:a=none→c=0) (h:n≤c):a=none→n=0∧c=0:=fun ha=>⟨by have:=hz ha;omega,hz ha⟩

theorem l10OwnEntry_is (e:E3) (s:Sl2) (w:World) (h:Emem w s e) (h1:e.2.1.length≤1048576) (h2:e.2.2.length≤1048576) :
  Calls Tryd.prog 54 #[entV e.1 s] w fun x w'=>EntGot x w' w.heap.size e∧Below w.heap.size w w':=by
 obtain ⟨i0,hi0,hz00,hz01,hz02⟩:=info_parts info_bug
 obtain ⟨i1,hi1,hz10,hz11,hz12⟩:=info_parts info_int
 obtain ⟨⟨_,z1,z2⟩,hB,hF,_⟩:=h
 have l1:=hB.1
 have l2:=hF.1
 have hb1:=hB.2.1
 have hb2:=hF.2.1
 obtain ⟨ek,eb,ez⟩:=e
 obtain ⟨⟨a1,n1,c1⟩,⟨a2,n2,c2⟩⟩:=s
 unfold entV
 simp only at z1 z2 hB hF l1 l2 h1 h2 hb1 hb2 ⊢
 have hm1:n1≤1048576:=by omega
 have hm2:n2≤1048576:=by omega
 subst l1
 subst l2
 have no1:=nil_of0 (m:=0) (P:=True) z1 hb1
 have no2:=nil_of0 (m:=0) (P:=True) z2 hb2
 have bw:Below w.heap.size w ((w.alloc (.cells #[.string ek,.slice a1 eb.length c1,.slice a2 ez.length c2] 30)).alloc (.cells #[.string ⟨#[]⟩,.slice none 0 0,.slice none 0 0] 30)):=by go_grown
 have pX:Blk ((w.alloc (.cells #[.string ek,.slice a1 eb.length c1,.slice a2 ez.length c2] 30)).alloc (.cells #[.string ⟨#[]⟩,.slice none 0 0,.slice none 0 0] 30)) w.heap.size 30 [.string ek,.slice a1 eb.length c1,.slice a2 ez.length c2]:=blkOld _ (blkAt _ _ _ rfl)
 have pR:Blk ((w.alloc (.cells #[.string ek,.slice a1 eb.length c1,.slice a2 ez.length c2] 30)).alloc (.cells #[.string ⟨#[]⟩,.slice none 0 0,.slice none 0 0] 30)) (w.heap.size+1) 30 [.string ⟨#[]⟩,.slice none 0 0,.slice none 0 0]:=blkAt _ _ _ (by simp)
 go_enter Tryd.func54,Tryd.ntmps54
 have hV:=pR.lt
 have be:Below ((w.alloc (.cells #[.string ek,.slice a1 eb.length c1,.slice a2 ez.length c2] 30)).alloc (.cells #[.string ⟨#[]⟩,.slice none 0 0,.slice none 0 0] 30)).heap.size ((w.alloc (.cells #[.string ek,.slice a1 eb.length c1,.slice a2 ez.length c2] 30)).alloc (.cells #[.string ⟨#[]⟩,.slice none 0 0,.slice none 0 0] 30)) (((w.alloc (.cells #[.string ek,.slice a1 eb.length c1,.slice a2 ez.length c2] 30)).alloc (.cells #[.string ⟨#[]⟩,.slice none 0 0,.slice none 0 0] 30)).alloc (.cells #[] 108)):=by go_grown
 have qe:(((w.alloc (.cells #[.string ek,.slice a1 eb.length c1,.slice a2 ez.length c2] 30)).alloc (.cells #[.string ⟨#[]⟩,.slice none 0 0,.slice none 0 0] 30)).alloc (.cells #[] 108)).ownsRow (w.heap.size+2) 108 3 (.slice (some ⟨w.heap.size+1+1,0,none⟩) 0 0) 0 []:=by
  have h9:=empty8 ((w.alloc (.cells #[.string ek,.slice a1 eb.length c1,.slice a2 ez.length c2] 30)).alloc (.cells #[.string ⟨#[]⟩,.slice none 0 0,.slice none 0 0] 30)) 108 3 (w.heap.size+2) (by omega)
  simpa using h9
 have bE:=bel8 bw be
 have xE:=pX.below be
 have rE:=pR.below be
 have yE:=xE.cell 1
 have hsE:w.heap.size+2≤(((w.alloc (.cells #[.string ek,.slice a1 eb.length c1,.slice a2 ez.length c2] 30)).alloc (.cells #[.string ⟨#[]⟩,.slice none 0 0,.slice none 0 0] 30)).alloc (.cells #[] 108)).heap.size:=by have:=be.size;omega
 simp only [List.getElem?_cons_zero,List.getElem?_cons_succ] at yE
 clear be hV
 go_wp2_with (at_builtin;refine wpList_app9 rfl _ _ 28 rfl (w.heap.size+2) 108 i0 (.agg #[.int .i64 0,.int .i64 0,.int .i64 0]) 3 24 Tryd.underlying28 hi0 hz00 hz01 hz02 rfl (by decide) _ _ _ rfl qe a1 eb.length c1 rfl no1 (flat eb) (by rw [flat_length]) (fun ad ha=>by subst ha;exact newsB9 (hB.below bE)) (flat_one eb) (by unfold maxLen;omega) (by omega) hsE ?_)
 intro v9 V0 hown hgrow _
 have hgB:∀ g,(Value.slice (some ⟨w.heap.size+1+1,0,none⟩) 0 0).ownBlock=some g→w.heap.size+2≤g:=fun g hg=>(qe.lt g hg).1
 replace bE:=bE.grown hgrow (by omega) (fun g hg=>by have:=hgB g hg;omega)
 replace xE:=xE.kept hgrow (fun e9=>by have:=hgB _ e9;omega)
 replace rE:=rE.kept hgrow (fun e9=>by have:=hgB _ e9;omega)
 have qN:V0.ownsRow (w.heap.size+2) 108 3 v9 eb.length (flat eb):=by simpa using hown
 obtain ⟨va0,vc0,rfl⟩:=slice8 qN
 clear hown hgrow hgB qe yE hsE
 have yz:=xE.cell 1
 have fz:=xE.frozen 1
 simp only [List.getElem?_cons_zero,List.getElem?_cons_succ] at yz
 clear bw pX pR 
 have bw:=bE.setCell (p:=⟨w.heap.size,1,none⟩) (Nat.le_refl _) (.slice va0 eb.length vc0)
 have pR:=rE.off ⟨w.heap.size,1,none⟩ (.slice va0 eb.length vc0) (by simp)
 have pX:=xE.set 1 (.slice va0 eb.length vc0)
 simp only [List.set_cons_zero,List.set_cons_succ] at pX
 have qB:=ownsRow_setCell_below qN (a:=⟨w.heap.size,1,none⟩) (show w.heap.size<w.heap.size+2 by omega) (.slice va0 eb.length vc0)
 clear bE xE rE qN 
 have hV:=pR.lt
 have be:Below (V0.setCell ⟨w.heap.size,1,none⟩ (.slice va0 eb.length vc0)).heap.size (V0.setCell ⟨w.heap.size,1,none⟩ (.slice va0 eb.length vc0)) ((V0.setCell ⟨w.heap.size,1,none⟩ (.slice va0 eb.length vc0)).alloc (.cells #[] 3)):=by go_grown
 have qe:((V0.setCell ⟨w.heap.size,1,none⟩ (.slice va0 eb.length vc0)).alloc (.cells #[] 3)).ownsRow (w.heap.size+2) 3 1 (.slice (some ⟨V0.heap.size,0,none⟩) 0 0) 0 []:=by
  have h9:=empty8 (V0.setCell ⟨w.heap.size,1,none⟩ (.slice va0 eb.length vc0)) 3 1 (w.heap.size+2) (by omega)
  simpa using h9
 have bE:=bel8 bw be
 have xE:=pX.below be
 have rE:=pR.below be
 have bqE:=owns8 qB be
 have yE:=xE.cell 2
 have hsE:w.heap.size+2≤((V0.setCell ⟨w.heap.size,1,none⟩ (.slice va0 eb.length vc0)).alloc (.cells #[] 3)).heap.size:=by have:=be.size;omega
 simp only [List.getElem?_cons_zero,List.getElem?_cons_succ] at yE
 clear be hV
 go_wp2_with (at_builtin;refine wpList_app9 rfl _ _ 23 rfl (w.heap.size+2) 3 i1 (.int .i64 0) 1 8 Tryd.underlying23 hi1 hz10 hz11 hz12 rfl (by decide) _ _ _ rfl qe a2 ez.length c2 rfl no2 (ez.map (Value.int .i64)) (by rw [List.length_map,Nat.mul_one]) (fun ad ha=>by subst ha;exact newsI9 (hF.below bE)) (one8 ez) (by unfold maxLen;omega) (by omega) hsE ?_)
 intro v9 V1 hown hgrow _
 have hgB:∀ g,(Value.slice (some ⟨V0.heap.size,0,none⟩) 0 0).ownBlock=some g→w.heap.size+2≤g:=fun g hg=>(qe.lt g hg).1
 replace bE:=bE.grown hgrow (by omega) (fun g hg=>by have:=hgB g hg;omega)
 replace xE:=xE.kept hgrow (fun e9=>by have:=hgB _ e9;omega)
 replace rE:=rE.kept hgrow (fun e9=>by have:=hgB _ e9;omega)
 replace bqE:=bqE.kept hgrow (owns_ne bqE qe (by decide))
 have qN:V1.ownsRow (w.heap.size+2) 3 1 v9 ez.length (ez.map (Value.int .i64)):=by simpa using hown
 obtain ⟨va1,vc1,rfl⟩:=slice8 qN
 clear hown hgrow hgB qe yE hsE
 have yz:=xE.cell 2
 have fz:=xE.frozen 2
 simp only [List.getElem?_cons_zero,List.getElem?_cons_succ] at yz
 clear bw pX pR qB
 have bw:=bE.setCell (p:=⟨w.heap.size,2,none⟩) (Nat.le_refl _) (.slice va1 ez.length vc1)
 have pR:=rE.off ⟨w.heap.size,2,none⟩ (.slice va1 ez.length vc1) (by simp)
 have pX:=xE.set 2 (.slice va1 ez.length vc1)
 simp only [List.set_cons_zero,List.set_cons_succ] at pX
 have qF:=ownsRow_setCell_below qN (a:=⟨w.heap.size,2,none⟩) (show w.heap.size<w.heap.size+2 by omega) (.slice va1 ez.length vc1)
 have qB:=ownsRow_setCell_below bqE (a:=⟨w.heap.size,2,none⟩) (show w.heap.size<w.heap.size+2 by omega) (.slice va1 ez.length vc1)
 clear bE xE rE qN bqE
 have o0:=pX.cell 0
 have o1:=pX.cell 1
 have o2:=pX.cell 2
 have r0:=pR.cell 0
 have r1:=pR.cell 1
 have r2:=pR.cell 2
 have fr0:=pR.frozen 0
 have fr1:=pR.frozen 1
 have fr2:=pR.frozen 2
 simp only [List.getElem?_cons_zero,List.getElem?_cons_succ] at o0 o1 o2 r0 r1 r2
 have pZ:=((pR.set 0 (.string ek)).set 1 (.slice va0 eb.length vc0)).set 2 (.slice va1 ez.length vc1)
 simp only [List.set_cons_zero,List.set_cons_succ] at pZ
 have z0:=pZ.cell 0
 have zz1:=pZ.cell 1
 have zz2:=pZ.cell 2
 simp only [List.getElem?_cons_zero,List.getElem?_cons_succ] at z0 zz1 zz2
 have hle:w.heap.size≤w.heap.size+1:=by omega
 have hlt9:w.heap.size+1<w.heap.size+2:=by omega
 have bz:=((bw.setCell (p:=⟨w.heap.size+1,0,none⟩) hle (.string ek)).setCell (p:=⟨w.heap.size+1,1,none⟩) hle (.slice va0 eb.length vc0)).setCell (p:=⟨w.heap.size+1,2,none⟩) hle (.slice va1 ez.length vc1)
 replace qB:=ownsRow_setCell_below (ownsRow_setCell_below (ownsRow_setCell_below qB (a:=⟨w.heap.size+1,0,none⟩) hlt9 (.string ek)) (a:=⟨w.heap.size+1,1,none⟩) hlt9 (.slice va0 eb.length vc0)) (a:=⟨w.heap.size+1,2,none⟩) hlt9 (.slice va1 ez.length vc1)
 replace qF:=ownsRow_setCell_below (ownsRow_setCell_below (ownsRow_setCell_below qF (a:=⟨w.heap.size+1,0,none⟩) hlt9 (.string ek)) (a:=⟨w.heap.size+1,1,none⟩) hlt9 (.slice va0 eb.length vc0)) (a:=⟨w.heap.size+1,2,none⟩) hlt9 (.slice va1 ez.length vc1)
 have qB9:=lower8 qB (show w.heap.size≤w.heap.size+2 by omega)
 have qF9:=lower8 qF (show w.heap.size≤w.heap.size+2 by omega)
 clear pR pZ pX bw qB qF
 go_wp2
 refine bodyPost_ret (by simp [results,Tryd.results54,go_sem,z0,zz1,zz2];try rfl) rfl ?_
 exact ⟨EntGot.mk9 (e:=(ek,eb,ez)) ((va0,eb.length,vc0),(va1,ez.length,vc1)) ⟨qB9,qF9⟩,bz⟩


theorem clone_info:(Tryd.prog.info? 5).map (fun i=>(i.zero,i.size,i.bytes))=some (some (.int .u8 0),1,1):=by kernel_rfl

theorem stringslite_Clone (s:ByteArray) (w:World) (hlim:s.size≤281474976710656) :
  Calls Tryd.prog 117 #[.string s] w fun e w'=>e=.returned (.string s)∧Below w.heap.size w w':=by
 by_cases h0:s.size=0
 ·have hs:s=⟨#[]⟩:=by
   apply ByteArray.ext
   exact Array.eq_empty_of_size_eq_zero h0
  subst hs
  go_enter Tryd.func117,Tryd.ntmps117
  go_wp2
  go_ret
  exact ⟨rfl,Below.refl _ _⟩
 ·obtain ⟨i0,hi,hz0,hz1,hz2⟩:=info_parts clone_info
  have hinfo:(Tryd.prog.info? 5).map (·.size)=some 1:=by rw [hi];simp [hz1]
  have hco:Tryd.prog.cellsOf 5=1:=by simp [Program.cellsOf,hi,hz1]
  obtain ⟨M,hM⟩:∃ M,M=madeCells (Value.int .u8 0).cells (((s.size:Nat):Int).toNat*i0.size):=⟨_,rfl⟩
  have hMs:M.size=s.size:=by rw [hM,size_madeCells,hz1];simp
  have hmk:∀ W:World,(Instr.makeSlice 128 (.int .i64 (s.size:Int)) (.int .i64 (s.size:Int))).run Tryd.prog W=.ok (.slice (some ⟨W.heap.size,0,none⟩) s.size s.size) (W.alloc (.cells M 5)):=fun W=>by
   have h:=run_make (P:=Tryd.prog) W 128 5 i0 (.int .u8 0) Tryd.underlying128 hi hz0 .i64 .i64 (s.size:Int) (s.size:Int) (by omega) (by omega) (by rw [hz2];omega) (by omega)
   rw [← hM] at h
   simpa using h
  clear hM
  have hcp:=Lib.run_copy_row_string (P:=Tryd.prog) (w.alloc (.cells M 5)) 128 9 3 5 w.heap.size 0 s.size s.size s M 5 Tryd.underlying128 hinfo (heap_alloc_new w _) (Nat.le_refl _) (by omega)
  obtain ⟨Y,hY⟩:∃ Y,Y=(M.toList.take 0++Lib.byteCells s.data.toList++M.toList.drop (0+s.size)).toArray:=⟨_,rfl⟩
  rw [← hY] at hcp
  have hYl:Y.toList=Lib.byteCells s.data.toList:=by
   rw [hY,List.toList_toArray,List.take_zero,List.nil_append,List.drop_of_length_le (by rw [Array.length_toList];omega),List.append_nil]
  have hYs:Y.size=s.size:=by rw [← Array.length_toList,hYl,Lib.byteCells_length,← Lib.size_eq]
  have hgY:((w.alloc (.cells M 5)).setRow w.heap.size Y).heap[w.heap.size]?=some (.cells Y 5 (0,0)):=setRow_heap _ _ M _ 5 (0,0) (heap_alloc_new w _)
  have hne:s.data.toList≠[]:=fun e=>h0 (by rw [Lib.size_eq,e];rfl)
  have hUS:=Lib.run_unsafeString_row (P:=Tryd.prog) ((w.alloc (.cells M 5)).setRow w.heap.size Y) 157 3 9 5 Tryd.underlying157 hco w.heap.size Y.size (by unfold World.shape?;rw [hgY]) s.data.toList hne (by rw [← Lib.size_eq];omega) (by rw [← Lib.size_eq];omega)
   (fun j x hx=>Lib.cells_of_row hgY Y.size j _ (by rw [List.take_of_length_le (by rw [Array.length_toList];exact Nat.le_refl _),hYl];simp [Lib.byteCells,hx]))
  rw [← Lib.size_eq] at hUS
  clear hY
  go_enter Tryd.func117,Tryd.ntmps117
  go_wp2
  go_ret
  have hb1:Below w.heap.size w (w.alloc (.cells M 5)):=(Below.refl _ w).alloc (Nat.le_refl _) _
  have hb2:Below w.heap.size (w.alloc (.cells M 5)) ((w.alloc (.cells M 5)).setRow w.heap.size Y):=⟨rfl,rfl,rfl,by simp,fun k hk=>setRow_other _ _ _ _ (by omega)⟩
  exact ⟨rfl,Lib.below_freeze (hb1.trans hb2) (p:=⟨w.heap.size,0,none⟩) (Nat.le_refl _) _⟩

theorem strings_Clone (s:ByteArray) (w:World) (hlim:s.size≤281474976710656) :
  Calls Tryd.prog 97 #[.string s] w fun e w'=>e=.returned (.string s)∧Below w.heap.size w w':=by
 go_enter Tryd.func97,Tryd.ntmps97
 go_wp2_with (go_at_call 117;refine (stringslite_Clone s _ hlim).mono ?_;rintro e w1 ⟨rfl,hb1⟩)
 go_ret
 exact ⟨rfl,hb1⟩
end Go.Proofs.YthmgampabhbpoaaDoor
