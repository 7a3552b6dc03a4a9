/-
  Joined: DigI, Clone, CkyI.
-/
import Derived.Lib.Strings
import Derived.Lib.Walk
import Derived.Lib.BufferWrite
import Derived.Lib.UnsafeStr
import Derived.Laws.MakeOwn
import Derived.Test.YthlcdhddickdiaaDoorR33

namespace Go.Proofs.YthlcdhddickdiaaDoor
set_option maxRecDepth 100000
set_option maxHeartbeats 16000000
open Go.RowKit

theorem isDigit_yes (r:Int) (w:World) (h1:48≤r) (h2:r≤57):Calls Tryd.prog 70 #[.int .i32 r] w fun e w'=>e=.returned (.bool true)∧w=w':=by
 go_enter Tryd.func70,Tryd.ntmps70
 go_wp2
 go_ret
 exact ⟨rfl,rfl⟩
theorem isDigit_no (r:Int) (w:World) (h:¬ (48≤r∧r≤57)):Calls Tryd.prog 70 #[.int .i32 r] w fun e w'=>e=.returned (.bool false)∧w=w':=by
 by_cases h1:48≤r
 ·have h2:¬ r≤57:=fun h'=>h ⟨h1,h'⟩
  clear h
  go_enter Tryd.func70,Tryd.ntmps70
  go_wp2
  go_ret
  exact ⟨rfl,rfl⟩
 ·clear h
  go_enter Tryd.func70,Tryd.ntmps70
  go_wp2
  go_ret
  exact ⟨rfl,rfl⟩


theorem clone_info:(Tryd.prog.info? 5).map (fun i=>(i.zero,i.size,i.bytes))=some (some (.int .u8 0),1,1):=by kernel_rfl

theorem stringslite_Clone (s:ByteArray) (w:World) (hlim:s.size≤281474976710656) :
  Calls Tryd.prog 95 #[.string s] w fun e w'=>e=.returned (.string s)∧Below w.heap.size w w':=by
 by_cases h0:s.size=0
 ·have hs:s=⟨#[]⟩:=by
   apply ByteArray.ext
   exact Array.eq_empty_of_size_eq_zero h0
  subst hs
  go_enter Tryd.func95,Tryd.ntmps95
  go_wp2
  go_ret
  exact ⟨rfl,Below.refl _ _⟩
 ·obtain ⟨i0,hi,hz0,hz1,hz2⟩:=info_parts clone_info
  have hinfo:(Tryd.prog.info? 5).map (·.size)=some 1:=by rw [hi];simp [hz1]
  have hco:Tryd.prog.cellsOf 5=1:=by simp [Program.cellsOf,hi,hz1]
  obtain ⟨M,hM⟩:∃ M,M=madeCells (Value.int .u8 0).cells (((s.size:Nat):Int).toNat*i0.size):=⟨_,rfl⟩
  have hMs:M.size=s.size:=by rw [hM,size_madeCells,hz1];simp
  have hmk:∀ W:World,(Instr.makeSlice 118 (.int .i64 (s.size:Int)) (.int .i64 (s.size:Int))).run Tryd.prog W=.ok (.slice (some ⟨W.heap.size,0,none⟩) s.size s.size) (W.alloc (.cells M 5)):=fun W=>by
   have h:=run_make (P:=Tryd.prog) W 118 5 i0 (.int .u8 0) Tryd.underlying118 hi hz0 .i64 .i64 (s.size:Int) (s.size:Int) (by omega) (by omega) (by rw [hz2];omega) (by omega)
   rw [← hM] at h
   simpa using h
  clear hM
  have hcp:=Lib.run_copy_row_string (P:=Tryd.prog) (w.alloc (.cells M 5)) 118 9 3 5 w.heap.size 0 s.size s.size s M 5 Tryd.underlying118 hinfo (heap_alloc_new w _) (Nat.le_refl _) (by omega)
  obtain ⟨Y,hY⟩:∃ Y,Y=(M.toList.take 0++Lib.byteCells s.data.toList++M.toList.drop (0+s.size)).toArray:=⟨_,rfl⟩
  rw [← hY] at hcp
  have hYl:Y.toList=Lib.byteCells s.data.toList:=by
   rw [hY,List.toList_toArray,List.take_zero,List.nil_append,List.drop_of_length_le (by rw [Array.length_toList];omega),List.append_nil]
  have hYs:Y.size=s.size:=by rw [← Array.length_toList,hYl,Lib.byteCells_length,← Lib.size_eq]
  have hgY:((w.alloc (.cells M 5)).setRow w.heap.size Y).heap[w.heap.size]?=some (.cells Y 5 (0,0)):=setRow_heap _ _ M _ 5 (0,0) (heap_alloc_new w _)
  have hne:s.data.toList≠[]:=fun e=>h0 (by rw [Lib.size_eq,e];rfl)
  have hUS:=Lib.run_unsafeString_row (P:=Tryd.prog) ((w.alloc (.cells M 5)).setRow w.heap.size Y) 148 3 9 5 Tryd.underlying148 hco w.heap.size Y.size (by unfold World.shape?;rw [hgY]) s.data.toList hne (by rw [← Lib.size_eq];omega) (by rw [← Lib.size_eq];omega)
   (fun j x hx=>Lib.cells_of_row hgY Y.size j _ (by rw [List.take_of_length_le (by rw [Array.length_toList];exact Nat.le_refl _),hYl];simp [Lib.byteCells,hx]))
  rw [← Lib.size_eq] at hUS
  clear hY
  go_enter Tryd.func95,Tryd.ntmps95
  go_wp2
  go_ret
  have hb1:Below w.heap.size w (w.alloc (.cells M 5)):=(Below.refl _ w).alloc (Nat.le_refl _) _
  have hb2:Below w.heap.size (w.alloc (.cells M 5)) ((w.alloc (.cells M 5)).setRow w.heap.size Y):=⟨rfl,rfl,rfl,by simp,fun k hk=>setRow_other _ _ _ _ (by omega)⟩
  exact ⟨rfl,Lib.below_freeze (hb1.trans hb2) (p:=⟨w.heap.size,0,none⟩) (Nat.le_refl _) _⟩

theorem strings_Clone (s:ByteArray) (w:World) (hlim:s.size≤281474976710656) :
  Calls Tryd.prog 67 #[.string s] w fun e w'=>e=.returned (.string s)∧Below w.heap.size w w':=by
 go_enter Tryd.func67,Tryd.ntmps67
 go_wp2_with (go_at_call 95;refine (stringslite_Clone s _ hlim).mono ?_;rintro e w1 ⟨rfl,hb1⟩)
 go_ret
 exact ⟨rfl,hb1⟩

set_option linter.unusedVariables false
set_option linter.unusedSimpArgs false

def CutK (t:ByteArray) (e:Ending):Prop:=((15<t.size∧allDig t 15∧e=.returned (.tuple #[.string (t.extract 0 15),.string (t.extract 15 t.size)]))∨(¬ (15<t.size∧allDig t 15)∧e=.returned (.tuple #[.string ⟨#[]⟩,.string ⟨#[]⟩])))
theorem iter_below (w:World) (t:ByteArray) (pos:Nat):Below w.heap.size w (w.iter t pos):=(Below.refl _ _).alloc (Nat.le_refl _) _
theorem iterB {w w5:World} {t:ByteArray} {pos:Nat} (h:Below (w.iter t pos).drew.heap.size (w.iter t pos).drew w5):Below w.heap.size w w5:=bel_trans (bel_trans (iter_below w t pos) (show Below (w.iter t pos).heap.size (w.iter t pos) (w.iter t pos).drew from ⟨rfl,rfl,rfl,Nat.le_refl _,fun _ _=>rfl⟩)) h

theorem cutKey_is (t:ByteArray) (w:World) (hs:t.size≤65536) :
  Calls Tryd.prog 47 #[.string t] w fun e w'=>CutK t e∧Below w.heap.size w w':=by
 have hcl:(t.extract 0 15).size≤281474976710656:=by simp;omega
 obtain ⟨m,hm⟩:∃ m:Nat,m=t.size:=⟨_,rfl⟩
 have HXS:Hid (t.size=m):=hm.symm
 have hmb:m≤65536:=by omega
 clear hm
 go_enter Tryd.func47,Tryd.ntmps47
 go_wp2
 go_loopw [4] (fun _ wr=>∃ pos:Nat,pos≤m∧pos≤15∧wr=w.iter t pos∧Hid (allDig t pos)) (fun _ wr=>m - wr.iterPos w.heap.size)
 case atStart=>exact ⟨0,by omega,by omega,rfl,allDig_zero t⟩
 case round =>
  obtain ⟨pos,hpl,hp15,rfl,hA⟩:=hrel
  by_cases hp:pos<m
  ·have hp':pos<t.size:=by rw [HXS.out];exact hp
   have hg:=bt_get t pos hp'
   by_cases h15:pos=15
   ·by_cases ha:(t[pos]'hp').toNat<128
    ·clear hg
     obtain rfl:pos=15:=by omega
     have hY:Hid (CutK t (.returned (.tuple #[.string (t.extract 0 15),.string (t.extract 15 t.size)]))):=.inl ⟨hp',hA.out,rfl⟩
     have hnx:∀ ty,(Instr.next (.pointer (some ⟨w.heap.size,0,none⟩)) true ty).run Tryd.prog (w.iter t 15)=_:=fun ty=>run_next_ascii w t 15 ty hp' ha
     have hz15:(15:Int)≤(t.size:Int):=by omega
     clear hA
     go_wp2_with fail
     refine wp_region_held_drew (S:=(fun _=>True)) (by kernel_rfl) trivial (fun hS0=>?_)
     refine tkx 0 14 (.string t) ?_ ?_
     ·(intro w' hSw;(try dsimp only at hSw);go_simp;first | done | rfl | omega | (intro h9;omega) | (rw [IntKind.wrap_i64];omega))
     simp only [Act.put,tka,tkb,tkc]
     refine tkx 1 15 (.int .i64 15) ?_ ?_
     ·(intro w' hSw;(try dsimp only at hSw);go_simp;first | done | rfl | omega | (intro h9;omega) | (rw [IntKind.wrap_i64];omega))
     simp only [Act.put,tka,tkb,tkc]
     refine tkx 2 16 (.string (t.extract 0 15)) ?_ ?_
     ·(intro w' hSw;(try dsimp only at hSw);go_simp;first | done | rfl | omega | (intro h9;omega) | (rw [IntKind.wrap_i64];omega))
     simp only [Act.put,tka,tkb,tkc]
     refine tkx 4 18 (.string t) ?_ ?_
     ·(intro w' hSw;(try dsimp only at hSw);go_simp;first | done | rfl | omega | (intro h9;omega) | (rw [IntKind.wrap_i64];omega))
     simp only [Act.put,tka,tkb,tkc]
     refine tkx 5 19 (.int .i64 15) ?_ ?_
     ·(intro w' hSw;(try dsimp only at hSw);go_simp;first | done | rfl | omega | (intro h9;omega) | (rw [IntKind.wrap_i64];omega))
     simp only [Act.put,tka,tkb,tkc]
     refine tkx 6 20 (.string (t.extract 15 t.size)) ?_ ?_
     ·(intro w' hSw;(try dsimp only at hSw);go_simp;first | done | rfl | omega | (intro h9;omega) | (rw [IntKind.wrap_i64];omega))
     simp only [Act.put,tka,tkb,tkc]
     refine tkr 3 17 (fun K hK=>?_)
     go_simp
     refine (strings_Clone (t.extract 0 15) _ hcl).mono ?_
     rintro e w5 ⟨rfl,hb5⟩
     go_wp2_with fail
     refine hK.out _ _ ?_ (fun hS5=>?_)
     ·exact trivial
     clear hK
     refine tkx 7 2 (.string (t.extract 0 15)) ?_ ?_
     ·(intro w' hSw;(try dsimp only at hSw);go_simp;first | done | rfl | omega | (intro h9;omega) | (rw [IntKind.wrap_i64];omega))
     simp only [Act.put,tka,tkb,tkc]
     refine tkx 8 3 (.string (t.extract 15 t.size)) ?_ ?_
     ·(intro w' hSw;(try dsimp only at hSw);go_simp;first | done | rfl | omega | (intro h9;omega) | (rw [IntKind.wrap_i64];omega))
     simp only [Act.put,tka,tkb,tkc]
     refine wpAnyH_done (by kernel_rfl) ?_ _
     clear hnx
     go_wp2
     go_ret2
     exact ⟨hY.out,iterB hb5⟩
    ·clear hg ha
     obtain rfl:pos=15:=by omega
     have hY:Hid (CutK t (.returned (.tuple #[.string (t.extract 0 15),.string (t.extract 15 t.size)]))):=.inl ⟨hp',hA.out,rfl⟩
     have hnx:∀ ty,(Instr.next (.pointer (some ⟨w.heap.size,0,none⟩)) true ty).run Tryd.prog (w.iter t 15)=_:=fun ty=>run_next_any w t 15 ty hp'
     have hz15:(15:Int)≤(t.size:Int):=by omega
     clear hA
     go_wp2_with fail
     refine wp_region_held_drew (S:=(fun _=>True)) (by kernel_rfl) trivial (fun hS0=>?_)
     refine tkx 0 14 (.string t) ?_ ?_
     ·(intro w' hSw;(try dsimp only at hSw);go_simp;first | done | rfl | omega | (intro h9;omega) | (rw [IntKind.wrap_i64];omega))
     simp only [Act.put,tka,tkb,tkc]
     refine tkx 1 15 (.int .i64 15) ?_ ?_
     ·(intro w' hSw;(try dsimp only at hSw);go_simp;first | done | rfl | omega | (intro h9;omega) | (rw [IntKind.wrap_i64];omega))
     simp only [Act.put,tka,tkb,tkc]
     refine tkx 2 16 (.string (t.extract 0 15)) ?_ ?_
     ·(intro w' hSw;(try dsimp only at hSw);go_simp;first | done | rfl | omega | (intro h9;omega) | (rw [IntKind.wrap_i64];omega))
     simp only [Act.put,tka,tkb,tkc]
     refine tkx 4 18 (.string t) ?_ ?_
     ·(intro w' hSw;(try dsimp only at hSw);go_simp;first | done | rfl | omega | (intro h9;omega) | (rw [IntKind.wrap_i64];omega))
     simp only [Act.put,tka,tkb,tkc]
     refine tkx 5 19 (.int .i64 15) ?_ ?_
     ·(intro w' hSw;(try dsimp only at hSw);go_simp;first | done | rfl | omega | (intro h9;omega) | (rw [IntKind.wrap_i64];omega))
     simp only [Act.put,tka,tkb,tkc]
     refine tkx 6 20 (.string (t.extract 15 t.size)) ?_ ?_
     ·(intro w' hSw;(try dsimp only at hSw);go_simp;first | done | rfl | omega | (intro h9;omega) | (rw [IntKind.wrap_i64];omega))
     simp only [Act.put,tka,tkb,tkc]
     refine tkr 3 17 (fun K hK=>?_)
     go_simp
     refine (strings_Clone (t.extract 0 15) _ hcl).mono ?_
     rintro e w5 ⟨rfl,hb5⟩
     go_wp2_with fail
     refine hK.out _ _ ?_ (fun hS5=>?_)
     ·exact trivial
     clear hK
     refine tkx 7 2 (.string (t.extract 0 15)) ?_ ?_
     ·(intro w' hSw;(try dsimp only at hSw);go_simp;first | done | rfl | omega | (intro h9;omega) | (rw [IntKind.wrap_i64];omega))
     simp only [Act.put,tka,tkb,tkc]
     refine tkx 8 3 (.string (t.extract 15 t.size)) ?_ ?_
     ·(intro w' hSw;(try dsimp only at hSw);go_simp;first | done | rfl | omega | (intro h9;omega) | (rw [IntKind.wrap_i64];omega))
     simp only [Act.put,tka,tkb,tkc]
     refine wpAnyH_done (by kernel_rfl) ?_ _
     clear hnx
     go_wp2
     go_ret2
     exact ⟨hY.out,iterB hb5⟩
   have hne15:((pos:Int) == 15)=false:=by simp;omega
   by_cases ha:(t[pos]'hp').toNat<128
   ·have hnx:∀ ty,(Instr.next (.pointer (some ⟨w.heap.size,0,none⟩)) true ty).run Tryd.prog (w.iter t pos)=_:=fun ty=>run_next_ascii w t pos ty hp' ha
    by_cases hd:48≤bt t pos∧bt t pos≤57
    ·have hA2:Hid (allDig t (pos+1)):=allDig_succ hA.out hd.1 hd.2
     have hb1:48≤(t[pos]'hp').toNat:=by rw [hg];exact hd.1
     have hb2:(t[pos]'hp').toNat≤57:=by rw [hg];exact hd.2
     clear hg hd hA
     go_wp2_with fail
     refine (isDigit_yes _ _ (by omega) (by omega)).mono ?_
     rintro e w' ⟨rfl,rfl⟩
     clear hnx
     generalize (t[pos]'hp').toNat=b at hb1 hb2
     go_wp2
     go_roundw
     case rel=>exact ⟨pos+1,by omega,by omega,rfl,hA2⟩
     case measure=>simp;omega
    ·have hN:Hid (CutK t (.returned (.tuple #[.string ⟨#[]⟩,.string ⟨#[]⟩]))):=.inr ⟨fun h9=>hd (h9.2 pos (by omega)),rfl⟩
     rw [← hg] at hd
     clear hg hA
     go_wp2_with fail
     refine (isDigit_no _ _ (by omega)).mono ?_
     rintro e w' ⟨rfl,rfl⟩
     go_wp2
     go_ret2
     exact ⟨hN.out,iter_below _ _ _⟩
   ·have hnx:∀ ty,(Instr.next (.pointer (some ⟨w.heap.size,0,none⟩)) true ty).run Tryd.prog (w.iter t pos)=_:=fun ty=>run_next_any w t pos ty hp'
    have hd:=(decode_high t pos hp' (by omega)).1
    have hN:Hid (CutK t (.returned (.tuple #[.string ⟨#[]⟩,.string ⟨#[]⟩]))):=.inr ⟨fun h9=>by have:=h9.2 pos (by omega);omega,rfl⟩
    clear hg hA
    go_wp2_with fail
    refine (isDigit_no _ _ (by omega)).mono ?_
    rintro e w' ⟨rfl,rfl⟩
    go_wp2
    go_ret2
    exact ⟨hN.out,iter_below _ _ _⟩
  ·have hp':¬ pos<t.size:=by rw [HXS.out];exact hp
   have hnx:∀ ty,(Instr.next (.pointer (some ⟨w.heap.size,0,none⟩)) true ty).run Tryd.prog (w.iter t pos)=_:=fun ty=>run_next_end w t pos ty hp'
   have hN:Hid (CutK t (.returned (.tuple #[.string ⟨#[]⟩,.string ⟨#[]⟩]))):=.inr ⟨fun h9=>by have:=HXS.out;omega,rfl⟩
   clear hA
   go_wp2
   go_ret2
   exact ⟨hN.out,iter_below _ _ _⟩
end Go.Proofs.YthlcdhddickdiaaDoor
