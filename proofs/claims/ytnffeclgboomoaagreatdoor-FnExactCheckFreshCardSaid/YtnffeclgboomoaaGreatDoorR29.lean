/-
  Joined: EsO, Clone, CopI, StrP, ItmI.
-/
import Derived.Lib.Strings
import Derived.Lib.Walk
import Derived.Lib.BufferWrite
import Derived.Lib.UnsafeStr
import Derived.Laws.MakeOwn
import Derived.Laws.Strings
import Derived.Test.YtnffeclgboomoaaGreatDoorR28

namespace Go.Proofs.YtnffeclgboomoaaGreatDoor
set_option maxRecDepth 100000
set_option maxHeartbeats 16000000
open Go.RowKit
set_option linter.unusedVariables false
set_option linter.unusedSimpArgs false

def Wy (x:Ending) (w':World) (B:Nat) (e:E3):Prop:=∃ s:Sl2,x=.returned (ZM e.1 s)∧Xp w' B (.slice s.1.1 s.1.2.1 s.1.2.2) (.slice s.2.1 s.2.2.1 s.2.2.2) e
theorem Wy.mk9 {w':World} {B:Nat} {e:E3} (s:Sl2) (h:Xp w' B (.slice s.1.1 s.1.2.1 s.1.2.2) (.slice s.2.1 s.2.2.1 s.2.2.2) e):Wy (.returned (ZM e.1 s)) w' B e:=⟨s,rfl,h⟩
theorem YK {n c m:Nat} {a:Option Addr} {P:Prop} (hz:a=none→c=0) (h:n≤c):a=none→n=0∧c=0:=fun ha=>⟨by have:=hz ha;omega,hz ha⟩

theorem Rl (e:E3) (s:Sl2) (w:World) (h:YI w s e) (h1:e.2.1.length≤1048576) (h2:e.2.2.length≤1048576) :
  Calls Tryz.prog 107 #[ZM e.1 s] w fun x w'=>Wy x w' w.heap.size e∧Below w.heap.size w w':=by
 obtain ⟨i0,hi0,hz00,hz01,hz02⟩:=info_parts Xr
 obtain ⟨i1,hi1,hz10,hz11,hz12⟩:=info_parts XF
 obtain ⟨⟨_,z1,z2⟩,hB,hF,_⟩:=h
 have l1:=hB.1
 have l2:=hF.1
 have hb1:=hB.2.1
 have hb2:=hF.2.1
 obtain ⟨ek,eb,ez⟩:=e
 obtain ⟨⟨a1,n1,c1⟩,⟨a2,n2,c2⟩⟩:=s
 unfold ZM
 simp only at z1 z2 hB hF l1 l2 h1 h2 hb1 hb2 ⊢
 have hm1:n1≤1048576:=by omega
 have hm2:n2≤1048576:=by omega
 subst l1
 subst l2
 have no1:=YK (m:=0) (P:=True) z1 hb1
 have no2:=YK (m:=0) (P:=True) z2 hb2
 have bw:Below w.heap.size w ((w.alloc (.cells #[.string ek,.slice a1 eb.length c1,.slice a2 ez.length c2] 45)).alloc (.cells #[.string ⟨#[]⟩,.slice none 0 0,.slice none 0 0] 45)):=by go_grown
 have pX:Blk ((w.alloc (.cells #[.string ek,.slice a1 eb.length c1,.slice a2 ez.length c2] 45)).alloc (.cells #[.string ⟨#[]⟩,.slice none 0 0,.slice none 0 0] 45)) w.heap.size 45 [.string ek,.slice a1 eb.length c1,.slice a2 ez.length c2]:=Zi _ (Zj _ _ _ rfl)
 have pR:Blk ((w.alloc (.cells #[.string ek,.slice a1 eb.length c1,.slice a2 ez.length c2] 45)).alloc (.cells #[.string ⟨#[]⟩,.slice none 0 0,.slice none 0 0] 45)) (w.heap.size+1) 45 [.string ⟨#[]⟩,.slice none 0 0,.slice none 0 0]:=Zj _ _ _ (by simp)
 go_enter Tryz.func107,Tryz.ntmps107
 have hV:=pR.lt
 have be:Below ((w.alloc (.cells #[.string ek,.slice a1 eb.length c1,.slice a2 ez.length c2] 45)).alloc (.cells #[.string ⟨#[]⟩,.slice none 0 0,.slice none 0 0] 45)).heap.size ((w.alloc (.cells #[.string ek,.slice a1 eb.length c1,.slice a2 ez.length c2] 45)).alloc (.cells #[.string ⟨#[]⟩,.slice none 0 0,.slice none 0 0] 45)) (((w.alloc (.cells #[.string ek,.slice a1 eb.length c1,.slice a2 ez.length c2] 45)).alloc (.cells #[.string ⟨#[]⟩,.slice none 0 0,.slice none 0 0] 45)).alloc (.cells #[] 127)):=by go_grown
 have qe:(((w.alloc (.cells #[.string ek,.slice a1 eb.length c1,.slice a2 ez.length c2] 45)).alloc (.cells #[.string ⟨#[]⟩,.slice none 0 0,.slice none 0 0] 45)).alloc (.cells #[] 127)).ownsRow (w.heap.size+2) 127 3 (.slice (some ⟨w.heap.size+1+1,0,none⟩) 0 0) 0 []:=by
  have h9:=Xw ((w.alloc (.cells #[.string ek,.slice a1 eb.length c1,.slice a2 ez.length c2] 45)).alloc (.cells #[.string ⟨#[]⟩,.slice none 0 0,.slice none 0 0] 45)) 127 3 (w.heap.size+2) (by omega)
  simpa using h9
 have bE:=Zn bw be
 have xE:=pX.below be
 have rE:=pR.below be
 have yE:=xE.cell 1
 have hsE:w.heap.size+2≤(((w.alloc (.cells #[.string ek,.slice a1 eb.length c1,.slice a2 ez.length c2] 45)).alloc (.cells #[.string ⟨#[]⟩,.slice none 0 0,.slice none 0 0] 45)).alloc (.cells #[] 127)).heap.size:=by have:=be.size;omega
 simp only [List.getElem?_cons_zero,List.getElem?_cons_succ] at yE
 clear be hV
 go_wp2_with (at_builtin;refine Xg rfl _ _ 28 rfl (w.heap.size+2) 127 i0 (.agg #[.int .i64 0,.int .i64 0,.int .i64 0]) 3 24 Tryz.underlying28 hi0 hz00 hz01 hz02 rfl (by decide) _ _ _ rfl qe a1 eb.length c1 rfl no1 (Zl eb) (by rw [Zo]) (fun ad ha=>by subst ha;exact TU (hB.below bE)) (ZV eb) (by unfold maxLen;omega) (by omega) hsE ?_)
 intro v9 V0 hown hgrow _
 have hgB:∀ g,(Value.slice (some ⟨w.heap.size+1+1,0,none⟩) 0 0).ownBlock=some g→w.heap.size+2≤g:=fun g hg=>(qe.lt g hg).1
 replace bE:=bE.grown hgrow (by omega) (fun g hg=>by have:=hgB g hg;omega)
 replace xE:=xE.kept hgrow (fun e9=>by have:=hgB _ e9;omega)
 replace rE:=rE.kept hgrow (fun e9=>by have:=hgB _ e9;omega)
 have qN:V0.ownsRow (w.heap.size+2) 127 3 v9 eb.length (Zl eb):=by simpa using hown
 obtain ⟨va0,vc0,rfl⟩:=ZH qN
 clear hown hgrow hgB qe yE hsE
 have yz:=xE.cell 1
 have fz:=xE.frozen 1
 simp only [List.getElem?_cons_zero,List.getElem?_cons_succ] at yz
 clear bw pX pR 
 have bw:=bE.setCell (p:=⟨w.heap.size,1,none⟩) (Nat.le_refl _) (.slice va0 eb.length vc0)
 have pR:=rE.off ⟨w.heap.size,1,none⟩ (.slice va0 eb.length vc0) (by simp)
 have pX:=xE.set 1 (.slice va0 eb.length vc0)
 simp only [List.set_cons_zero,List.set_cons_succ] at pX
 have qB:=ownsRow_setCell_below qN (a:=⟨w.heap.size,1,none⟩) (show w.heap.size<w.heap.size+2 by omega) (.slice va0 eb.length vc0)
 clear bE xE rE qN 
 have hV:=pR.lt
 have be:Below (V0.setCell ⟨w.heap.size,1,none⟩ (.slice va0 eb.length vc0)).heap.size (V0.setCell ⟨w.heap.size,1,none⟩ (.slice va0 eb.length vc0)) ((V0.setCell ⟨w.heap.size,1,none⟩ (.slice va0 eb.length vc0)).alloc (.cells #[] 3)):=by go_grown
 have qe:((V0.setCell ⟨w.heap.size,1,none⟩ (.slice va0 eb.length vc0)).alloc (.cells #[] 3)).ownsRow (w.heap.size+2) 3 1 (.slice (some ⟨V0.heap.size,0,none⟩) 0 0) 0 []:=by
  have h9:=Xw (V0.setCell ⟨w.heap.size,1,none⟩ (.slice va0 eb.length vc0)) 3 1 (w.heap.size+2) (by omega)
  simpa using h9
 have bE:=Zn bw be
 have xE:=pX.below be
 have rE:=pR.below be
 have bqE:=Zs qB be
 have yE:=xE.cell 2
 have hsE:w.heap.size+2≤((V0.setCell ⟨w.heap.size,1,none⟩ (.slice va0 eb.length vc0)).alloc (.cells #[] 3)).heap.size:=by have:=be.size;omega
 simp only [List.getElem?_cons_zero,List.getElem?_cons_succ] at yE
 clear be hV
 go_wp2_with (at_builtin;refine Xg rfl _ _ 36 rfl (w.heap.size+2) 3 i1 (.int .i64 0) 1 8 Tryz.underlying36 hi1 hz10 hz11 hz12 rfl (by decide) _ _ _ rfl qe a2 ez.length c2 rfl no2 (ez.map (Value.int .i64)) (by rw [List.length_map,Nat.mul_one]) (fun ad ha=>by subst ha;exact Ju (hF.below bE)) (W6 ez) (by unfold maxLen;omega) (by omega) hsE ?_)
 intro v9 V1 hown hgrow _
 have hgB:∀ g,(Value.slice (some ⟨V0.heap.size,0,none⟩) 0 0).ownBlock=some g→w.heap.size+2≤g:=fun g hg=>(qe.lt g hg).1
 replace bE:=bE.grown hgrow (by omega) (fun g hg=>by have:=hgB g hg;omega)
 replace xE:=xE.kept hgrow (fun e9=>by have:=hgB _ e9;omega)
 replace rE:=rE.kept hgrow (fun e9=>by have:=hgB _ e9;omega)
 replace bqE:=bqE.kept hgrow (Yh bqE qe (by decide))
 have qN:V1.ownsRow (w.heap.size+2) 3 1 v9 ez.length (ez.map (Value.int .i64)):=by simpa using hown
 obtain ⟨va1,vc1,rfl⟩:=ZH qN
 clear hown hgrow hgB qe yE hsE
 have yz:=xE.cell 2
 have fz:=xE.frozen 2
 simp only [List.getElem?_cons_zero,List.getElem?_cons_succ] at yz
 clear bw pX pR qB
 have bw:=bE.setCell (p:=⟨w.heap.size,2,none⟩) (Nat.le_refl _) (.slice va1 ez.length vc1)
 have pR:=rE.off ⟨w.heap.size,2,none⟩ (.slice va1 ez.length vc1) (by simp)
 have pX:=xE.set 2 (.slice va1 ez.length vc1)
 simp only [List.set_cons_zero,List.set_cons_succ] at pX
 have qF:=ownsRow_setCell_below qN (a:=⟨w.heap.size,2,none⟩) (show w.heap.size<w.heap.size+2 by omega) (.slice va1 ez.length vc1)
 have qB:=ownsRow_setCell_below bqE (a:=⟨w.heap.size,2,none⟩) (show w.heap.size<w.heap.size+2 by omega) (.slice va1 ez.length vc1)
 clear bE xE rE qN bqE
 have o0:=pX.cell 0
 have o1:=pX.cell 1
 have o2:=pX.cell 2
 have r0:=pR.cell 0
 have r1:=pR.cell 1
 have r2:=pR.cell 2
 have fr0:=pR.frozen 0
 have fr1:=pR.frozen 1
 have fr2:=pR.frozen 2
 simp only [List.getElem?_cons_zero,List.getElem?_cons_succ] at o0 o1 o2 r0 r1 r2
 have pZ:=((pR.set 0 (.string ek)).set 1 (.slice va0 eb.length vc0)).set 2 (.slice va1 ez.length vc1)
 simp only [List.set_cons_zero,List.set_cons_succ] at pZ
 have z0:=pZ.cell 0
 have zz1:=pZ.cell 1
 have zz2:=pZ.cell 2
 simp only [List.getElem?_cons_zero,List.getElem?_cons_succ] at z0 zz1 zz2
 have hle:w.heap.size≤w.heap.size+1:=by omega
 have hlt9:w.heap.size+1<w.heap.size+2:=by omega
 have bz:=((bw.setCell (p:=⟨w.heap.size+1,0,none⟩) hle (.string ek)).setCell (p:=⟨w.heap.size+1,1,none⟩) hle (.slice va0 eb.length vc0)).setCell (p:=⟨w.heap.size+1,2,none⟩) hle (.slice va1 ez.length vc1)
 replace qB:=ownsRow_setCell_below (ownsRow_setCell_below (ownsRow_setCell_below qB (a:=⟨w.heap.size+1,0,none⟩) hlt9 (.string ek)) (a:=⟨w.heap.size+1,1,none⟩) hlt9 (.slice va0 eb.length vc0)) (a:=⟨w.heap.size+1,2,none⟩) hlt9 (.slice va1 ez.length vc1)
 replace qF:=ownsRow_setCell_below (ownsRow_setCell_below (ownsRow_setCell_below qF (a:=⟨w.heap.size+1,0,none⟩) hlt9 (.string ek)) (a:=⟨w.heap.size+1,1,none⟩) hlt9 (.slice va0 eb.length vc0)) (a:=⟨w.heap.size+1,2,none⟩) hlt9 (.slice va1 ez.length vc1)
 have qB9:=Z4 qB (show w.heap.size≤w.heap.size+2 by omega)
 have qF9:=Z4 qF (show w.heap.size≤w.heap.size+2 by omega)
 clear pR pZ pX bw qB qF
 go_wp2
 refine bodyPost_ret (by simp [results,Tryz.results107,go_sem,z0,zz1,zz2];try rfl) rfl ?_
 exact ⟨Wy.mk9 (e:=(ek,eb,ez)) ((va0,eb.length,vc0),(va1,ez.length,vc1)) ⟨qB9,qF9⟩,bz⟩


theorem N3:(Tryz.prog.info? 5).map (fun i=>(i.zero,i.size,i.bytes))=some (some (.int .u8 0),1,1):=by kernel_rfl

theorem Tv (s:ByteArray) (w:World) (hlim:s.size≤281474976710656) :
  Calls Tryz.prog 184 #[.string s] w fun e w'=>e=.returned (.string s)∧Below w.heap.size w w':=by
 by_cases h0:s.size=0
 ·have hs:s=⟨#[]⟩:=by
   apply ByteArray.ext
   exact Array.eq_empty_of_size_eq_zero h0
  subst hs
  go_enter Tryz.func184,Tryz.ntmps184
  go_wp2
  go_ret
  exact ⟨rfl,Below.refl _ _⟩
 obtain ⟨i0,hi,hz0,hz1,hz2⟩:=info_parts N3
 have hinfo:(Tryz.prog.info? 5).map (·.size)=some 1:=by rw [hi];simp [hz1]
 have hco:Tryz.prog.cellsOf 5=1:=by simp [Program.cellsOf,hi,hz1]
 obtain ⟨M,hM⟩:∃ M,M=madeCells (Value.int .u8 0).cells (((s.size:Nat):Int).toNat*i0.size):=⟨_,rfl⟩
 have hMs:M.size=s.size:=by rw [hM,size_madeCells,hz1];simp
 have hmk:∀ W:World,(Instr.makeSlice 22 (.int .i64 (s.size:Int)) (.int .i64 (s.size:Int))).run Tryz.prog W=.ok (.slice (some ⟨W.heap.size,0,none⟩) s.size s.size) (W.alloc (.cells M 5)):=fun W=>by
  have h:=run_make (P:=Tryz.prog) W 22 5 i0 (.int .u8 0) Tryz.underlying22 hi hz0 .i64 .i64 (s.size:Int) (s.size:Int) (by omega) (by omega) (by rw [hz2];omega) (by omega)
  rw [← hM] at h
  simpa using h
 clear hM
 have hcp:=Lib.run_copy_row_string (P:=Tryz.prog) (w.alloc (.cells M 5)) 22 9 3 5 w.heap.size 0 s.size s.size s M 5 Tryz.underlying22 hinfo (heap_alloc_new w _) (Nat.le_refl _) (by omega)
 obtain ⟨Y,hY⟩:∃ Y,Y=(M.toList.take 0++Lib.byteCells s.data.toList++M.toList.drop (0+s.size)).toArray:=⟨_,rfl⟩
 rw [← hY] at hcp
 have hYl:Y.toList=Lib.byteCells s.data.toList:=by
  rw [hY,List.toList_toArray,List.take_zero,List.nil_append,List.drop_of_length_le (by rw [Array.length_toList];omega),List.append_nil]
 have hYs:Y.size=s.size:=by rw [← Array.length_toList,hYl,Lib.byteCells_length,← Lib.size_eq]
 have hgY:((w.alloc (.cells M 5)).setRow w.heap.size Y).heap[w.heap.size]?=some (.cells Y 5 (0,0)):=setRow_heap _ _ M _ 5 (0,0) (heap_alloc_new w _)
 have hne:s.data.toList≠[]:=fun e=>h0 (by rw [Lib.size_eq,e];rfl)
 have hUS:=Lib.run_unsafeString_row (P:=Tryz.prog) ((w.alloc (.cells M 5)).setRow w.heap.size Y) 281 3 9 5 Tryz.underlying281 hco w.heap.size Y.size (by unfold World.shape?;rw [hgY]) s.data.toList hne (by rw [← Lib.size_eq];omega) (by rw [← Lib.size_eq];omega)
  (fun j x hx=>Lib.cells_of_row hgY Y.size j _ (by rw [List.take_of_length_le (by rw [Array.length_toList];exact Nat.le_refl _),hYl];simp [Lib.byteCells,hx]))
 rw [← Lib.size_eq] at hUS
 clear hY
 go_enter Tryz.func184,Tryz.ntmps184
 go_wp2
 go_ret
 have hb1:Below w.heap.size w (w.alloc (.cells M 5)):=(Below.refl _ w).alloc (Nat.le_refl _) _
 have hb2:Below w.heap.size (w.alloc (.cells M 5)) ((w.alloc (.cells M 5)).setRow w.heap.size Y):=⟨rfl,rfl,rfl,by simp,fun k hk=>setRow_other _ _ _ _ (by omega)⟩
 exact ⟨rfl,Lib.below_freeze (hb1.trans hb2) (p:=⟨w.heap.size,0,none⟩) (Nat.le_refl _) _⟩

theorem Qg (s:ByteArray) (w:World) (hlim:s.size≤281474976710656) :
  Calls Tryz.prog 128 #[.string s] w fun e w'=>e=.returned (.string s)∧Below w.heap.size w w':=by
 go_enter Tryz.func128,Tryz.ntmps128
 go_wp2_with (go_at_call 184;refine (Tv s _ hlim).mono ?_;rintro e w1 ⟨rfl,hb1⟩)
 go_ret
 exact ⟨rfl,hb1⟩


theorem Qs (e:E3) (s:Sl2) (w:World) (h:YI w s e) (h1:e.2.1.length≤1048576) (h2:e.2.2.length≤1048576) (h3:e.1.size≤1048576) :
  Calls Tryz.prog 72 #[ZM e.1 s] w fun x w'=>Wy x w' w.heap.size e∧Below w.heap.size w w':=by
 obtain ⟨i0,hi0,hz00,hz01,hz02⟩:=info_parts Xr
 obtain ⟨i1,hi1,hz10,hz11,hz12⟩:=info_parts XF
 obtain ⟨⟨_,z1,z2⟩,hB,hF,_⟩:=h
 have l1:=hB.1
 have l2:=hF.1
 have hb1:=hB.2.1
 have hb2:=hF.2.1
 obtain ⟨ek,eb,ez⟩:=e
 obtain ⟨⟨a1,n1,c1⟩,⟨a2,n2,c2⟩⟩:=s
 unfold ZM
 simp only at z1 z2 hB hF l1 l2 h1 h2 h3 hb1 hb2 ⊢
 subst l1
 subst l2
 have no1:=YK (m:=0) (P:=True) z1 hb1
 have no2:=YK (m:=0) (P:=True) z2 hb2
 clear z1 z2 hb1 hb2
 have kC:=fun W=>Qg ek W (by omega)
 have bw:Below w.heap.size w ((w.alloc (.cells #[.string ek,.slice a1 eb.length c1,.slice a2 ez.length c2] 45)).alloc (.cells #[.string ⟨#[]⟩,.slice none 0 0,.slice none 0 0] 45)):=by go_grown
 have pX:Blk ((w.alloc (.cells #[.string ek,.slice a1 eb.length c1,.slice a2 ez.length c2] 45)).alloc (.cells #[.string ⟨#[]⟩,.slice none 0 0,.slice none 0 0] 45)) w.heap.size 45 [.string ek,.slice a1 eb.length c1,.slice a2 ez.length c2]:=Zi _ (Zj _ _ _ rfl)
 have pR:Blk ((w.alloc (.cells #[.string ek,.slice a1 eb.length c1,.slice a2 ez.length c2] 45)).alloc (.cells #[.string ⟨#[]⟩,.slice none 0 0,.slice none 0 0] 45)) (w.heap.size+1) 45 [.string ⟨#[]⟩,.slice none 0 0,.slice none 0 0]:=Zj _ _ _ (by simp)
 have x0:=pX.cell 0
 have x1:=pX.cell 1
 have x2:=pX.cell 2
 simp only [List.getElem?_cons_zero,List.getElem?_cons_succ] at x0 x1 x2
 go_enter Tryz.func72,Tryz.ntmps72
 go_wp2_with fail
 generalize ((w.alloc (.cells #[.string ek,.slice a1 eb.length c1,.slice a2 ez.length c2] 45)).alloc (.cells #[.string ⟨#[]⟩,.slice none 0 0,.slice none 0 0] 45))=W at *
 have bd0:Below W.heap.size W W.drew:=by go_grown
 have bd:Below w.heap.size w W.drew:=Zn bw bd0
 refine wp_region_held_drew (S:=(fun w'=>w'.cell? ⟨w.heap.size,0,none⟩=some (.string ek)∧w'.cell? ⟨w.heap.size,1,none⟩=some (.slice a1 eb.length c1)∧w'.cell? ⟨w.heap.size,2,none⟩=some (.slice a2 ez.length c2))) (by kernel_rfl) ⟨x0,x1,x2⟩ (fun hS0=>?_)
 refine tkx 0 3 (.pointer (some ⟨w.heap.size,0,none⟩)) ?_ ?_
 ·(intro w' hSw;(try dsimp only at hSw);go_simp;first | done | rfl | omega | (intro h9;omega) | (rw [IntKind.wrap_i64];omega))
 simp only [Act.put,tka,tkb,tkc]
 refine tkx 1 4 (.string ek) ?_ ?_
 ·(intro w' hSw;(try dsimp only at hSw);go_simp;first | done | rfl | omega | (intro h9;omega) | (rw [IntKind.wrap_i64];omega))
 simp only [Act.put,tka,tkb,tkc]
 refine tkx 3 6 (.pointer (some ⟨w.heap.size,1,none⟩)) ?_ ?_
 ·(intro w' hSw;(try dsimp only at hSw);go_simp;first | done | rfl | omega | (intro h9;omega) | (rw [IntKind.wrap_i64];omega))
 simp only [Act.put,tka,tkb,tkc]
 refine tkx 4 7 (.slice a1 eb.length c1) ?_ ?_
 ·(intro w' hSw;(try dsimp only at hSw);go_simp;first | done | rfl | omega | (intro h9;omega) | (rw [IntKind.wrap_i64];omega))
 simp only [Act.put,tka,tkb,tkc]
 refine tkx 6 9 (.pointer (some ⟨w.heap.size,2,none⟩)) ?_ ?_
 ·(intro w' hSw;(try dsimp only at hSw);go_simp;first | done | rfl | omega | (intro h9;omega) | (rw [IntKind.wrap_i64];omega))
 simp only [Act.put,tka,tkb,tkc]
 refine tkx 7 10 (.slice a2 ez.length c2) ?_ ?_
 ·(intro w' hSw;(try dsimp only at hSw);go_simp;first | done | rfl | omega | (intro h9;omega) | (rw [IntKind.wrap_i64];omega))
 simp only [Act.put,tka,tkb,tkc]
 refine tkr 2 5 (fun K hK=>?_)
 go_simp
 refine (kC _).mono ?_
 rintro e W1 ⟨rfl,hb1⟩
 go_wp2_with fail
 refine hK.out _ _ ?_ (fun hS1=>?_)
 ·exact ⟨Za hb1 _ _ hS0.1,Za hb1 _ _ hS0.2.1,Za hb1 _ _ hS0.2.2⟩
 clear hK
 replace bw:=Zn bd hb1
 replace pX:=(pX.below bd0).below hb1
 replace pR:=(pR.below bd0).below hb1
 clear hb1 bd bd0
 refine tkr 5 8 (fun K hK=>?_)
 refine ZP rfl _ _ 28 rfl (w.heap.size+2) 127 i0 (.agg #[.int .i64 0,.int .i64 0,.int .i64 0]) 3 24 Tryz.underlying28 hi0 hz00 hz01 hz02 rfl (by decide) (.slice none 0 0) 0 [] rfl (World.ownsRow_nil _ _ _ _) a1 eb.length c1 rfl no1 (Zl eb) (by rw [Zo]) (fun ad ha=>by subst ha;exact TU (hB.below bw)) (ZV eb) (by unfold maxLen;omega) (by omega) (by have:=pR.lt;omega) ?_
 intro v5 W5 hown hgrow _
 have hbn:Below W1.heap.size W1 W5:=⟨hgrow.os,hgrow.tape,hgrow.output,hgrow.size,fun g hg=>hgrow.block g hg (by simp [Value.ownBlock])⟩
 have q5:W5.ownsRow (w.heap.size+2) 127 3 v5 eb.length (Zl eb):=by simpa using hown
 go_simp
 refine hK.out _ _ ?_ (fun hS5=>?_)
 ·exact ⟨Za hbn _ _ hS1.1,Za hbn _ _ hS1.2.1,Za hbn _ _ hS1.2.2⟩
 clear hK
 try simp only [Act.put,tka,tkb,tkc]
 replace bw:=Zn bw hbn
 replace pX:=pX.below hbn
 replace pR:=pR.below hbn
 skip
 obtain ⟨va5,vc5,rfl⟩:=ZH q5
 clear hown hgrow hbn
 refine tkr 8 11 (fun K hK=>?_)
 refine ZP rfl _ _ 36 rfl (w.heap.size+2) 3 i1 (.int .i64 0) 1 8 Tryz.underlying36 hi1 hz10 hz11 hz12 rfl (by decide) (.slice none 0 0) 0 [] rfl (World.ownsRow_nil _ _ _ _) a2 ez.length c2 rfl no2 (ez.map (Value.int .i64)) (by rw [List.length_map,Nat.mul_one]) (fun ad ha=>by subst ha;exact Ju (hF.below bw)) (W6 ez) (by unfold maxLen;omega) (by omega) (by have:=pR.lt;omega) ?_
 intro v8 W8 hown hgrow _
 have hbn:Below W5.heap.size W5 W8:=⟨hgrow.os,hgrow.tape,hgrow.output,hgrow.size,fun g hg=>hgrow.block g hg (by simp [Value.ownBlock])⟩
 have q8:W8.ownsRow (w.heap.size+2) 3 1 v8 ez.length (ez.map (Value.int .i64)):=by simpa using hown
 go_simp
 refine hK.out _ _ ?_ (fun hS8=>?_)
 ·exact ⟨Za hbn _ _ hS5.1,Za hbn _ _ hS5.2.1,Za hbn _ _ hS5.2.2⟩
 clear hK
 try simp only [Act.put,tka,tkb,tkc]
 replace bw:=Zn bw hbn
 replace pX:=pX.below hbn
 replace pR:=pR.below hbn
 replace q5:=Zs q5 hbn
 obtain ⟨va8,vc8,rfl⟩:=ZH q8
 clear hown hgrow hbn
 refine tkx 9 12 (.agg #[.string ek,.slice va5 eb.length vc5,.slice va8 ez.length vc8]) ?_ ?_
 ·(intro w' hSw;(try dsimp only at hSw);go_simp;first | done | rfl | omega | (intro h9;omega) | (rw [IntKind.wrap_i64];omega))
 simp only [Act.put,tka,tkb,tkc]
 have r0:=pR.cell 0
 have r1:=pR.cell 1
 have r2:=pR.cell 2
 have fr0:=pR.frozen 0
 have fr1:=pR.frozen 1
 have fr2:=pR.frozen 2
 simp only [List.getElem?_cons_zero,List.getElem?_cons_succ] at r0 r1 r2
 have pZ:=((pR.set 0 (.string ek)).set 1 (.slice va5 eb.length vc5)).set 2 (.slice va8 ez.length vc8)
 have pX2:=((pX.off ⟨w.heap.size+1,0,none⟩ (.string ek) (by simp)).off ⟨w.heap.size+1,1,none⟩ (.slice va5 eb.length vc5) (by simp)).off ⟨w.heap.size+1,2,none⟩ (.slice va8 ez.length vc8) (by simp)
 simp only [List.set_cons_zero,List.set_cons_succ] at pZ
 have z0:=pZ.cell 0
 have zz1:=pZ.cell 1
 have zz2:=pZ.cell 2
 have m0:=pX2.cell 0
 have m1:=pX2.cell 1
 have m2:=pX2.cell 2
 simp only [List.getElem?_cons_zero,List.getElem?_cons_succ] at z0 zz1 zz2 m0 m1 m2
 have hle:w.heap.size≤w.heap.size+1:=by omega
 have hlt9:w.heap.size+1<w.heap.size+2:=by omega
 have bz:=((bw.setCell (p:=⟨w.heap.size+1,0,none⟩) hle (.string ek)).setCell (p:=⟨w.heap.size+1,1,none⟩) hle (.slice va5 eb.length vc5)).setCell (p:=⟨w.heap.size+1,2,none⟩) hle (.slice va8 ez.length vc8)
 replace q5:=ownsRow_setCell_below (ownsRow_setCell_below (ownsRow_setCell_below q5 (a:=⟨w.heap.size+1,0,none⟩) hlt9 (.string ek)) (a:=⟨w.heap.size+1,1,none⟩) hlt9 (.slice va5 eb.length vc5)) (a:=⟨w.heap.size+1,2,none⟩) hlt9 (.slice va8 ez.length vc8)
 replace q8:=ownsRow_setCell_below (ownsRow_setCell_below (ownsRow_setCell_below q8 (a:=⟨w.heap.size+1,0,none⟩) hlt9 (.string ek)) (a:=⟨w.heap.size+1,1,none⟩) hlt9 (.slice va5 eb.length vc5)) (a:=⟨w.heap.size+1,2,none⟩) hlt9 (.slice va8 ez.length vc8)
 have qB9:=Z4 q5 (show w.heap.size≤w.heap.size+2 by omega)
 have qF9:=Z4 q8 (show w.heap.size≤w.heap.size+2 by omega)
 clear pR pZ pX pX2 bw q5 q8
 refine tkz 10 (fun K hK=>?_)
 go_simp
 refine hK.out _ _ ?_ (fun hS10=>?_)
 ·exact ⟨m0,m1,m2⟩
 clear hK
 try simp only [Act.put,tka,tkb,tkc]
 refine wpAnyH_done (by kernel_rfl) ?_ _
 go_wp2
 refine bodyPost_ret (by simp [results,Tryz.results72,go_sem,z0,zz1,zz2];try rfl) rfl ?_
 exact ⟨Wy.mk9 (e:=(ek,eb,ez)) ((va5,eb.length,vc5),(va8,ez.length,vc8)) ⟨qB9,qF9⟩,bz⟩

open Go.Op

def ltS (a b:ByteArray):Bool:=bytesLess a.toList b.toList
theorem Qm:∀ l:List UInt8,bytesLess l l=false
 | []=>rfl
 | a::l=>by
  have:=Qm l
  simp [bytesLess,this]
theorem UG {x y:UInt8} {a b:List UInt8}:bytesLess (x::a) (y::b)=true↔x<y∨(x=y∧bytesLess a b=true):=by
 simp [bytesLess]
theorem PJ:∀ {a b c:List UInt8},bytesLess a b=true→bytesLess b c=true→bytesLess a c=true
 | _,[],_,h,_=>by simp [bytesLess] at h
 | _,_::_,[],_,k=>by simp [bytesLess] at k
 | [],_::_,_::_,_,_=>by simp [bytesLess]
 | x::a,y::b,z::c,h,k=>by
  rw [UG] at h k ⊢
  rcases h with h | ⟨rfl,h⟩
  ·rcases k with k | ⟨rfl,k⟩
   ·exact .inl (UInt8.lt_trans h k)
   exact .inl h
  rcases k with k | ⟨rfl,k⟩
  ·exact .inl k
  exact .inr ⟨rfl,PJ h k⟩
theorem PI:∀ {a b:List UInt8},bytesLess a b=false→bytesLess b a=false→a=b
 | [],[],_,_=>rfl
 | [],_::_,h,_=>by simp [bytesLess] at h
 | _::_,[],_,k=>by simp [bytesLess] at k
 | x::a,y::b,h,k=>by
  have h1:¬ (x<y∨(x=y∧bytesLess a b=true)):=fun e=>by rw [UG.2 e] at h;cases h
  have k1:¬ (y<x∨(y=x∧bytesLess b a=true)):=fun e=>by rw [UG.2 e] at k;cases k
  have hxy:x=y:=UInt8.le_antisymm (UInt8.not_lt.1 fun e=>k1 (.inl e)) (UInt8.not_lt.1 fun e=>h1 (.inl e))
  subst hxy
  have h2:bytesLess a b=false:=by cases e:bytesLess a b<;>simp_all
  have k2:bytesLess b a=false:=by cases e:bytesLess b a<;>simp_all
  rw [PI h2 k2]
theorem Uy (a:ByteArray):ltS a a=false:=Qm _
theorem Vg {a b c:ByteArray} (h:ltS a b=true) (k:ltS b c=true):ltS a c=true:=PJ h k
theorem Sz {a b:ByteArray} (h:a.toList=b.toList):a=b:=by
 have h1:a.data.toList=b.data.toList:=by
  rw [← Go.ByteArray.toList_eq a,← Go.ByteArray.toList_eq b]
  exact h
 cases a
 cases b
 simp at h1
 rw [h1]
theorem Kj {a b:ByteArray} (h:ltS a b=false) (k:ltS b a=false):a=b:=Sz (PI h k)


def X9 (n a b:Int):Bool:=decide (a≤n∧n≤b)
theorem Y0 {n a b:Int}:X9 n a b=true↔a≤n∧n≤b:=by simp [X9]
theorem Vq {n a b:Int}:X9 n a b=false↔¬ (a≤n∧n≤b):=by simp only [X9,decide_eq_false_iff_not]
theorem Qz (n:Int) (w:World):Calls Tryz.prog 149 #[.int .i64 n] w fun e w'=>e=.returned (.bool (X9 n 0 2))∧w=w':=by
 cases h:X9 n 0 2
 ·rw [Vq] at h
  by_cases h1:0≤n
  ·have h2:decide (n<3)=false:=by simp;omega
   clear h
   go_enter Tryz.func149,Tryz.ntmps149
   go_wp2
   go_ret
   exact ⟨rfl,rfl⟩
  clear h
  go_enter Tryz.func149,Tryz.ntmps149
  go_wp2
  go_ret
  exact ⟨rfl,rfl⟩
 rw [Y0] at h
 obtain ⟨h1,h3⟩:=h
 have h2:decide (n<3)=true:=by simp;omega
 clear h3
 go_enter Tryz.func149,Tryz.ntmps149
 go_wp2
 go_ret
 exact ⟨by simp_all,rfl⟩

theorem P6 (n:Int) (w:World):Calls Tryz.prog 150 #[.int .i64 n] w fun e w'=>e=.returned (.bool (X9 n 0 6))∧w=w':=by
 cases h:X9 n 0 6
 ·rw [Vq] at h
  by_cases h1:0≤n
  ·have h2:decide (n≤6)=false:=by simp;omega
   clear h
   go_enter Tryz.func150,Tryz.ntmps150
   go_wp2
   go_ret
   exact ⟨rfl,rfl⟩
  clear h
  go_enter Tryz.func150,Tryz.ntmps150
  go_wp2
  go_ret
  exact ⟨rfl,rfl⟩
 rw [Y0] at h
 obtain ⟨h1,h3⟩:=h
 have h2:decide (n≤6)=true:=by simp;omega
 clear h3
 go_enter Tryz.func150,Tryz.ntmps150
 go_wp2
 go_ret
 exact ⟨by simp_all,rfl⟩

def M1 (k pc:Int):Value:=if X9 k 0 2=true∧X9 pc 0 6=true then .tuple #[.int .i64 (8*k+pc),.int .i64 0] else .tuple #[.int .i64 0,.int .i64 4]
theorem Uf {k pc:Int} (h1:X9 k 0 2=true) (h2:X9 pc 0 6=true):M1 k pc=.tuple #[.int .i64 (8*k+pc),.int .i64 0]:=if_pos ⟨h1,h2⟩
theorem LW {k pc:Int} (h1:X9 k 0 2=false):M1 k pc=.tuple #[.int .i64 0,.int .i64 4]:=if_neg (by rw [h1];simp)
theorem LX {k pc:Int} (h2:X9 pc 0 6=false):M1 k pc=.tuple #[.int .i64 0,.int .i64 4]:=if_neg (by rw [h2];simp)

theorem WW (k pc:Int) (w:World):Calls Tryz.prog 101 #[.int .i64 k,.int .i64 pc] w fun e w'=>e=.returned (M1 k pc)∧w=w':=by
 have kT:=Qz k
 have kP:=P6 pc
 cases hA:X9 k 0 2
 ·rw [LW hA]
  rw [hA] at kT
  clear hA
  go_enter Tryz.func101,Tryz.ntmps101
  go_wp2_with fail
  refine (kT _).mono ?_
  rintro e w1 ⟨rfl,rfl⟩
  go_wp2
  go_ret2
  exact ⟨rfl,rfl⟩
 cases hB:X9 pc 0 6
 ·rw [LX hB]
  rw [hA] at kT
  rw [hB] at kP
  clear hA hB
  go_enter Tryz.func101,Tryz.ntmps101
  go_wp2_with fail
  refine (kT _).mono ?_
  rintro e w1 ⟨rfl,rfl⟩
  go_wp2_with fail
  refine (kP _).mono ?_
  rintro e w1 ⟨rfl,rfl⟩
  go_wp2
  go_ret2
  exact ⟨rfl,rfl⟩
 rw [Uf hA hB]
 rw [hA] at kT
 rw [hB] at kP
 obtain ⟨a1,a2⟩:=Y0.1 hA
 obtain ⟨b1,b2⟩:=Y0.1 hB
 clear hA hB
 have q1:IntKind.i64.wrap (8*k)=8*k:=by rw [IntKind.wrap_i64];omega
 have q2:IntKind.i64.wrap (8*k+pc)=8*k+pc:=by rw [IntKind.wrap_i64];omega
 go_enter Tryz.func101,Tryz.ntmps101
 go_wp2_with fail
 refine (kT _).mono ?_
 rintro e w1 ⟨rfl,rfl⟩
 go_wp2_with fail
 refine (kP _).mono ?_
 rintro e w1 ⟨rfl,rfl⟩
 go_wp2
 go_ret2
 exact ⟨rfl,rfl⟩

theorem Mj (k pc:Int) (w:World) (h1:X9 k 0 2=true) (h2:X9 pc 0 6=true):Calls Tryz.prog 205 #[.int .i64 k,.int .i64 pc] w fun e w'=>e=.returned (.int .i64 (8*k+pc))∧w=w':=by
 obtain ⟨a1,a2⟩:=Y0.1 h1
 obtain ⟨b1,b2⟩:=Y0.1 h2
 clear h1 h2
 have q1:IntKind.i64.wrap (8*k)=8*k:=by rw [IntKind.wrap_i64];omega
 have q2:IntKind.i64.wrap (8*k+pc)=8*k+pc:=by rw [IntKind.wrap_i64];omega
 go_enter Tryz.func205,Tryz.ntmps205
 go_wp2
 go_ret
 exact ⟨rfl,rfl⟩

def XO (n:Int):Bool:=decide (0≤n∧n≤22∧n % 8≤6)
def atV (n:Int):Value:=if XO n=true then .tuple #[.int .i64 (n / 8),.int .i64 (n % 8),.int .i64 0] else .tuple #[.int .i64 0,.int .i64 0,.int .i64 4]
theorem MS {n:Int} (h:XO n=true):atV n=.tuple #[.int .i64 (n / 8),.int .i64 (n % 8),.int .i64 0]:=if_pos h
theorem N1 {n:Int} (h:XO n=false):atV n=.tuple #[.int .i64 0,.int .i64 0,.int .i64 4]:=if_neg (by rw [h];simp)

theorem GV (n:Int) (h:-9223372036854775808≤n∧n≤9223372036854775807):∃ q r:Int,n.tdiv 8=q∧n.tmod 8=r∧IntKind.i64.wrap q=q∧IntKind.i64.wrap r=r∧XO n=(X9 q 0 2 && X9 r 0 6)∧(XO n=true→q=n / 8∧r=n % 8)∧(0≤n→q=n / 8∧r=n % 8):=by
 rcases Int.lt_or_le n 0 with hn | hn
 ·have e1:n.tdiv 8=- ((-n) / 8):=by
   have:n=- (- n):=by omega
   rw [this,Int.neg_tdiv,Int.tdiv_eq_ediv_of_nonneg (by omega)];omega
  have e2:n.tmod 8=- ((-n) % 8):=by
   have:n=- (- n):=by omega
   rw [this,Int.neg_tmod,Int.tmod_eq_emod_of_nonneg (by omega)];omega
  refine ⟨_,_,e1,e2,by rw [IntKind.wrap_i64];omega,by rw [IntKind.wrap_i64];omega,?_,?_,by omega⟩
  ·have hz:XO n=false:=by simp only [XO,decide_eq_false_iff_not];omega
   rw [hz]
   symm
   rw [Bool.and_eq_false_iff]
   rcases Int.lt_or_le ((-n) / 8) 1 with h1 | h1
   ·right;rw [Vq];omega
   left;rw [Vq];omega
  intro hz
  simp only [XO,decide_eq_true_eq] at hz
  omega
 have e1:n.tdiv 8=n / 8:=Int.tdiv_eq_ediv_of_nonneg hn
 have e2:n.tmod 8=n % 8:=Int.tmod_eq_emod_of_nonneg hn
 refine ⟨_,_,e1,e2,by rw [IntKind.wrap_i64];omega,by rw [IntKind.wrap_i64];omega,?_,fun _=>⟨rfl,rfl⟩,fun _=>⟨rfl,rfl⟩⟩
 rw [Bool.eq_iff_iff,Bool.and_eq_true,Y0,Y0]
 simp only [XO,decide_eq_true_eq]
 omega

theorem R5 (n:Int) (hn:-9223372036854775808≤n∧n≤9223372036854775807) (w:World):Calls Tryz.prog 153 #[.int .i64 n] w fun e w'=>e=.returned (atV n)∧w=w':=by
 obtain ⟨q,r,e1,e2,u1,u2,hOk,hYes,_⟩:=GV n hn
 clear hn
 have kT:=Qz q
 have kP:=P6 r
 cases hA:X9 q 0 2
 ·rw [N1 (by rw [hOk,hA];rfl)]
  rw [hA] at kT
  clear hA hOk hYes
  go_enter Tryz.func153,Tryz.ntmps153
  go_wp2_with fail
  refine (kT _).mono ?_
  rintro e w1 ⟨rfl,rfl⟩
  go_wp2
  go_ret3
  exact ⟨rfl,rfl⟩
 cases hB:X9 r 0 6
 ·rw [N1 (by rw [hOk,hA,hB];rfl)]
  rw [hA] at kT
  rw [hB] at kP
  clear hA hB hOk hYes
  go_enter Tryz.func153,Tryz.ntmps153
  go_wp2_with fail
  refine (kT _).mono ?_
  rintro e w1 ⟨rfl,rfl⟩
  go_wp2_with fail
  refine (kP _).mono ?_
  rintro e w1 ⟨rfl,rfl⟩
  go_wp2
  go_ret3
  exact ⟨rfl,rfl⟩
 have hz:XO n=true:=by rw [hOk,hA,hB];rfl
 rw [MS hz]
 obtain ⟨f1,f2⟩:=hYes hz
 rw [hA] at kT
 rw [hB] at kP
 rw [← f1,← f2]
 clear hA hB hOk hYes hz f1 f2
 go_enter Tryz.func153,Tryz.ntmps153
 go_wp2_with fail
 refine (kT _).mono ?_
 rintro e w1 ⟨rfl,rfl⟩
 go_wp2_with fail
 refine (kP _).mono ?_
 rintro e w1 ⟨rfl,rfl⟩
 go_wp2
 go_ret3
 exact ⟨rfl,rfl⟩

theorem LV (n:Int) (hn:-9223372036854775808≤n∧n≤9223372036854775807) (w:World):Calls Tryz.prog 103 #[.int .i64 n] w fun e w'=>e=.returned (.bool (XO n))∧w=w':=by
 have kO:=R5 n hn
 clear hn
 cases hA:XO n
 ·rw [N1 hA] at kO
  clear hA
  go_enter Tryz.func103,Tryz.ntmps103
  go_wp2_with fail
  refine (kO _).mono ?_
  rintro e w1 ⟨rfl,rfl⟩
  go_wp2
  go_ret
  exact ⟨rfl,rfl⟩
 rw [MS hA] at kO
 clear hA
 go_enter Tryz.func103,Tryz.ntmps103
 go_wp2_with fail
 refine (kO _).mono ?_
 rintro e w1 ⟨rfl,rfl⟩
 go_wp2
 go_ret
 exact ⟨rfl,rfl⟩

theorem Gz {n:Int} (h:(Lit.int .i64 n).wf=true):-9223372036854775808≤n∧n≤9223372036854775807:=by
 have h1:IntKind.i64.min=-9223372036854775808:=by decide
 have h2:IntKind.i64.max=9223372036854775807:=by decide
 simp [Lit.wf,h1,h2] at h
 omega
end Go.Proofs.YtnffeclgboomoaaGreatDoor
