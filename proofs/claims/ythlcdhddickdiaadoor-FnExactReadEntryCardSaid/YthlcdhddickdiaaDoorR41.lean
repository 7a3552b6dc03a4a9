/-
  Joined: RdtI.
-/
import Derived.Test.YthlcdhddickdiaaDoorR40

namespace Go.Proofs.YthlcdhddickdiaaDoor
set_option maxRecDepth 100000
set_option maxHeartbeats 16000000
open Go.RowKit
set_option linter.unusedVariables false
set_option linter.unusedSimpArgs false

theorem specReadEntry_is (t:ByteArray) (w:World) (ht:t.size≤1048576) :
  Calls Tryd.prog 17 #[.string t] w fun x w'=>RdGE t x w' w.heap.size∧Below w.heap.size w w':=by
 have bw:Below w.heap.size w (w.alloc (.cells #[.string ⟨#[]⟩,.slice none 0 0,.slice none 0 0] 39)):=by go_grown
 have pR:Blk (w.alloc (.cells #[.string ⟨#[]⟩,.slice none 0 0,.slice none 0 0] 39)) w.heap.size 39 [.string ⟨#[]⟩,.slice none 0 0,.slice none 0 0]:=blkAt _ _ _ rfl
 by_cases hs:65536<t.size
 ·have HN:Hid (∀ W,RdGE t (.returned (.tuple #[.agg #[.string ⟨#[]⟩,.slice none 0 0,.slice none 0 0],.int .i64 (rdC t)])) W w.heap.size):=fun W=>.inr ⟨fun e he=>by have:=he.1;omega,rfl⟩
  have e2:rdC t=2:=by unfold rdC;rw [if_pos hs]
  rw [e2] at HN
  have hs2:(65536:Int)<(t.size:Int):=by omega
  go_enter Tryd.func17,Tryd.ntmps17
  have r0:=pR.cell 0
  have r1:=pR.cell 1
  have r2:=pR.cell 2
  have fr0:=pR.frozen 0
  have fr1:=pR.frozen 1
  have fr2:=pR.frozen 2
  have pZ:=((pR.set 0 (.string ⟨#[]⟩)).set 1 (.slice none 0 0)).set 2 (.slice none 0 0)
  simp only [List.set_cons_zero,List.set_cons_succ] at pZ
  have z0:=pZ.cell 0
  have z1:=pZ.cell 1
  have z2:=pZ.cell 2
  simp only [List.getElem?_cons_zero,List.getElem?_cons_succ] at z0 z1 z2 r0 r1 r2
  have bz:=((bw.setCell (p:=⟨w.heap.size,0,none⟩) (Nat.le_refl _) (.string ⟨#[]⟩)).setCell (p:=⟨w.heap.size,1,none⟩) (Nat.le_refl _) (.slice none 0 0)).setCell (p:=⟨w.heap.size,2,none⟩) (Nat.le_refl _) (.slice none 0 0)
  clear pZ pR
  go_wp2
  refine bodyPost_ret (by simp [results,Tryd.results17,go_sem,z0,z1,z2];try rfl) rfl ?_
  first | exact ⟨HN.out _,bz⟩ | exact ⟨HN.out _,by go_grown⟩
 have hs2:¬ (65536:Int)<(t.size:Int):=by omega
 have e3:rdC t=3:=by unfold rdC;rw [if_neg hs]
 have HN:Hid ((∀ e,¬ RdOk t e)→∀ W,RdGE t (.returned (.tuple #[.agg #[.string ⟨#[]⟩,.slice none 0 0,.slice none 0 0],.int .i64 (3)])) W w.heap.size):=fun h W=>.inr ⟨h,by rw [e3]⟩
 clear e3
 have kC:=fun W=>l10Read_is t W (by omega)
 go_enter Tryd.func17,Tryd.ntmps17
 go_wp2_with fail
 generalize (w.alloc (.cells #[.string ⟨#[]⟩,.slice none 0 0,.slice none 0 0] 39))=U at *
 have hlo:w.heap.size<U.heap.size:=pR.lt
 refine (kC _).mono ?_
 rintro x w1 ⟨hK,hb⟩
 replace bw:=bel8 bw hb
 replace pR:=pR.below hb
 clear kC
 rcases hK with ⟨⟨ek,eb,ez⟩,⟨⟨sa,sn,sc⟩,⟨fa,fn,fc⟩⟩,hRd,rfl,hE⟩ | ⟨hno,rfl⟩
 ·simp only at hE
  unfold entV
  simp only
  have hba:Below w1.heap.size w1 (w1.alloc (.cells #[.string ek,.slice sa sn sc,.slice fa fn fc] 39)):=by go_grown
  have pE:Blk (w1.alloc (.cells #[.string ek,.slice sa sn sc,.slice fa fn fc] 39)) w1.heap.size 39 [.string ek,.slice sa sn sc,.slice fa fn fc]:=blkAt _ _ _ rfl
  replace bw:=bel8 bw hba
  replace pR:=pR.below hba
  replace hE:=hE.below hba
  have x0:=pE.cell 0
  have x1:=pE.cell 1
  have x2:=pE.cell 2
  simp only [List.getElem?_cons_zero,List.getElem?_cons_succ] at x0 x1 x2
  have r0:=pR.cell 0
  have r1:=pR.cell 1
  have r2:=pR.cell 2
  have fr0:=pR.frozen 0
  have fr1:=pR.frozen 1
  have fr2:=pR.frozen 2
  have pZ:=((pR.set 0 (.string ek)).set 1 (.slice sa sn sc)).set 2 (.slice fa fn fc)
  simp only [List.set_cons_zero,List.set_cons_succ] at pZ
  have z0:=pZ.cell 0
  have z1:=pZ.cell 1
  have z2:=pZ.cell 2
  simp only [List.getElem?_cons_zero,List.getElem?_cons_succ] at z0 z1 z2 r0 r1 r2
  have bz:=((bw.setCell (p:=⟨w.heap.size,0,none⟩) (Nat.le_refl _) (.string ek)).setCell (p:=⟨w.heap.size,1,none⟩) (Nat.le_refl _) (.slice sa sn sc)).setCell (p:=⟨w.heap.size,2,none⟩) (Nat.le_refl _) (.slice fa fn fc)
  have hE9:=(((hE.low (p:=⟨w.heap.size,0,none⟩) hlo (.string ek)).low (p:=⟨w.heap.size,1,none⟩) hlo (.slice sa sn sc)).low (p:=⟨w.heap.size,2,none⟩) hlo (.slice fa fn fc)).lower (Nat.le_of_lt hlo)
  have HE:Hid (RdGE t (.returned (.tuple #[entV ek ((sa,sn,sc),(fa,fn,fc)),.int .i64 0])) ((((w1.alloc (.cells #[.string ek,.slice sa sn sc,.slice fa fn fc] 39)).setCell ⟨w.heap.size,0,none⟩ (.string ek)).setCell ⟨w.heap.size,1,none⟩ (.slice sa sn sc)).setCell ⟨w.heap.size,2,none⟩ (.slice fa fn fc)) w.heap.size):=.inl ⟨(ek,eb,ez),((sa,sn,sc),(fa,fn,fc)),hRd,rfl,hE9⟩
  clear hE hE9 pZ pR pE hRd hb hba
  go_wp2
  refine bodyPost_ret (by simp [results,Tryd.results17,go_sem,z0,z1,z2];try rfl) rfl ?_
  exact ⟨HE.out,bz⟩
 ·replace HN:Hid (∀ W,RdGE t (.returned (.tuple #[.agg #[.string ⟨#[]⟩,.slice none 0 0,.slice none 0 0],.int .i64 (3)])) W w.heap.size):=HN.out hno
  have hba:Below w1.heap.size w1 (w1.alloc (.cells #[.string ⟨#[]⟩,.slice none 0 0,.slice none 0 0] 39)):=by go_grown
  replace bw:=bel8 bw hba
  replace pR:=pR.below hba
  clear hba hb
  have r0:=pR.cell 0
  have r1:=pR.cell 1
  have r2:=pR.cell 2
  have fr0:=pR.frozen 0
  have fr1:=pR.frozen 1
  have fr2:=pR.frozen 2
  have pZ:=((pR.set 0 (.string ⟨#[]⟩)).set 1 (.slice none 0 0)).set 2 (.slice none 0 0)
  simp only [List.set_cons_zero,List.set_cons_succ] at pZ
  have z0:=pZ.cell 0
  have z1:=pZ.cell 1
  have z2:=pZ.cell 2
  simp only [List.getElem?_cons_zero,List.getElem?_cons_succ] at z0 z1 z2 r0 r1 r2
  have bz:=((bw.setCell (p:=⟨w.heap.size,0,none⟩) (Nat.le_refl _) (.string ⟨#[]⟩)).setCell (p:=⟨w.heap.size,1,none⟩) (Nat.le_refl _) (.slice none 0 0)).setCell (p:=⟨w.heap.size,2,none⟩) (Nat.le_refl _) (.slice none 0 0)
  clear pZ pR
  go_wp2
  refine bodyPost_ret (by simp [results,Tryd.results17,go_sem,z0,z1,z2];try rfl) rfl ?_
  first | exact ⟨HN.out _,bz⟩ | exact ⟨HN.out _,by go_grown⟩
end Go.Proofs.YthlcdhddickdiaaDoor
