/-
  Joined: EtiI.
-/
import Derived.Test.YtnffeclgboomoaaGreatDoorT46
import Derived.Test.YtnffeclgboomoaaGreatDoorT47
import Derived.Test.YtnffeclgboomoaaGreatDoorT48

namespace Go.Proofs.YtnffeclgboomoaaGreatDoor
set_option maxRecDepth 100000
set_option maxHeartbeats 16000000
open Go.RowKit
set_option linter.unusedVariables false
set_option linter.unusedSimpArgs false

theorem MF {w:World} {g:Nat} {e:E3} {s:Sl2} (hB:Blk w g 45 (Ya e.1 s)) (hE:Z1 w s e):Yo w (some ⟨g,0,none⟩) 1 1 [e]:=by
 refine ⟨rfl,Nat.le_refl _,by unfold maxLen;omega,.inr ⟨g,0,rfl,hB.lt,fun t ht=>?_⟩⟩
 obtain rfl:t=0:=by omega
 exact ⟨s,by simpa [Ya] using hB.cell 0,by simpa [Ya] using hB.cell 1,by simpa [Ya] using hB.cell 2,hE⟩
theorem T7 (a:Option Addr) (len cap:Nat) (rows:List (List I3)) (e:E3) (s:Sl2) (w:World) (hC:ZZ w a len cap rows) (hE:Z1 w s e) (hV:ZL w) :
  Calls Tryz.prog 17 #[.agg #[.slice a len cap],ZR e.1 s] w fun x w'=>x=.returned (.tuple #[.bool (etB rows e),.int .i64 (etC rows e)])∧Below w.heap.size w w':=by
 have kP:=fun W (hb:Below w.heap.size w W)=>XK a len cap rows W (hC.below hb)
 have kE:=fun W (hb:Below w.heap.size w W)=>VT e s W (hE.below hb) (hV.below hb)
 have kT:Hid (∀ W,Below w.heap.size w W→∀ g,Blk W g 45 (Ya e.1 s)→Zj rows=true→ZS e=true→Calls Tryz.prog 61 #[.agg #[.slice a len cap],.slice (some ⟨g,0,none⟩) 1 1] W fun x w'=>x=.returned (.bool (YB rows e))∧Below W.heap.size W w'):=by
  intro W hb g hB hp hok
  obtain ⟨h3,_⟩:=hC.rowsAt hp
  subst h3
  have k:=Pc hp [e] W a (some ⟨g,0,none⟩) 1 1 (hC.below hb) (MF hB (hE.below hb)) (fun x hx=>by rw [List.mem_singleton.1 hx];exact hok) (hV.below hb) (by omega)
  rw [show [e].all (YB rows)=YB rows e by simp] at k
  exact k
 unfold etB etC
 obtain ⟨ek,eb,ez⟩:=e
 obtain ⟨⟨s1a,s1n,s1c⟩,⟨s2a,s2n,s2c⟩⟩:=s
 generalize Zj rows=po at *
 generalize ZS (ek,eb,ez)=eo at *
 generalize YB rows (ek,eb,ez)=tr at *
 unfold ZR at kE ⊢
 unfold Ya at kT
 simp only at kE kT ⊢
 clear hE hC hV
 have bw:Below w.heap.size w ((w.alloc (.cells #[.slice a len cap] 25)).alloc (.cells #[.string ek,.slice s1a s1n s1c,.slice s2a s2n s2c] 45)):=by go_grown
 have pP:Blk ((w.alloc (.cells #[.slice a len cap] 25)).alloc (.cells #[.string ek,.slice s1a s1n s1c,.slice s2a s2n s2c] 45)) w.heap.size 25 [.slice a len cap]:=Zg _ (Zi _ _ _ rfl)
 have pE:Blk ((w.alloc (.cells #[.slice a len cap] 25)).alloc (.cells #[.string ek,.slice s1a s1n s1c,.slice s2a s2n s2c] 45)) (w.heap.size+1) 45 [.string ek,.slice s1a s1n s1c,.slice s2a s2n s2c]:=Zi _ _ _ (by simp)
 go_enter Tryz.func17,Tryz.ntmps17
 go_wp2_with fail
 generalize ((w.alloc (.cells #[.slice a len cap] 25)).alloc (.cells #[.string ek,.slice s1a s1n s1c,.slice s2a s2n s2c] 45))=U at *
 have kPx:=kP U bw
 have c0:=pP.cell 0
 simp only [List.getElem?_cons_zero] at c0
 go_wp2_with fail
 refine kPx.mono ?_
 rintro e w1 ⟨rfl,hb⟩
 replace bw:=Zb bw hb
 replace pP:=pP.below hb
 replace pE:=pE.below hb
 clear kP kPx hb c0
 cases po
 ·clear kE kT pP pE
  go_wp2
  go_ret2
  exact ⟨rfl,bw⟩
 have kEx:=kE w1 bw
 have x0:=pE.cell 0
 have x1:=pE.cell 1
 have x2:=pE.cell 2
 simp only [List.getElem?_cons_zero,List.getElem?_cons_succ] at x0 x1 x2
 go_wp2_with fail
 refine kEx.mono ?_
 rintro e w2 ⟨rfl,hb⟩
 replace bw:=Zb bw hb
 replace pP:=pP.below hb
 replace pE:=pE.below hb
 clear kE kEx hb x0 x1 x2
 cases eo
 ·clear kT pP pE
  go_wp2
  go_ret2
  exact ⟨rfl,bw⟩
 have c0:=pP.cell 0
 simp only [List.getElem?_cons_zero] at c0
 have hal:Below w2.heap.size w2 (w2.alloc (.cells #[.string ek,.slice s1a s1n s1c,.slice s2a s2n s2c] 45)):=by go_grown
 have pQ:Blk (w2.alloc (.cells #[.string ek,.slice s1a s1n s1c,.slice s2a s2n s2c] 45)) w2.heap.size 45 [.string ek,.slice s1a s1n s1c,.slice s2a s2n s2c]:=Zi _ _ _ rfl
 have kTx:=kT.out _ (Zb bw hal) _ pQ (by simp) (by simp)
 clear pQ kT
 go_wp2_with (refine Zc rfl 45 _ rfl (w.heap.size+1) rfl pE _ Tryz.underlying45 rfl (by kernel_rfl) ?_)
 refine kTx.mono ?_
 rintro e w3 ⟨rfl,hb⟩
 have bz:=Zb (Zb bw hal) hb
 clear kTx hb hal pP pE c0
 go_wp2
 go_ret2
 exact ⟨rfl,bz⟩
theorem SM (a:Option Addr) (len cap:Nat) (rows:List (List I3)) (am:Option Addr) (n c:Nat) (es:List E3) (w:World) (hC:ZZ w a len cap rows) (hA:Yo w am n c es) (hV:ZL w) :
  Calls Tryz.prog 44 #[.agg #[.slice a len cap],.agg #[.slice am n c]] w fun x w'=>x=.returned (.tuple #[.bool (mtB rows es),.int .i64 (mtC rows es)])∧Below w.heap.size w w':=by
 have kP:=fun W (hb:Below w.heap.size w W)=>XK a len cap rows W (hC.below hb)
 have kE:=fun W (hb:Below w.heap.size w W)=>Qn am n c es W (hA.below hb) (hV.below hb)
 have kT:Hid (∀ W,Below w.heap.size w W→Zj rows=true→Yu es=true→Calls Tryz.prog 61 #[.agg #[.slice a len cap],.slice am n c] W fun x w'=>x=.returned (.bool (es.all (YB rows)))∧Below W.heap.size W w'):=by
  intro W hb hp hok
  obtain ⟨h3,_⟩:=hC.rowsAt hp
  subst h3
  exact Pc hp es W a am n c (hC.below hb) (hA.below hb) (Vf.1 hok).1 (hV.below hb) (by have:=Xs hok;have:=hA.1;omega)
 unfold mtB mtC
 generalize Zj rows=po at *
 generalize Yu es=eo at *
 generalize es.all (YB rows)=tr at *
 clear hA hC hV
 have bw:Below w.heap.size w ((w.alloc (.cells #[.slice a len cap] 25)).alloc (.cells #[.slice am n c] 33)):=by go_grown
 have pP:Blk ((w.alloc (.cells #[.slice a len cap] 25)).alloc (.cells #[.slice am n c] 33)) w.heap.size 25 [.slice a len cap]:=Zg _ (Zi _ _ _ rfl)
 have pE:Blk ((w.alloc (.cells #[.slice a len cap] 25)).alloc (.cells #[.slice am n c] 33)) (w.heap.size+1) 33 [.slice am n c]:=Zi _ _ _ (by simp)
 go_enter Tryz.func44,Tryz.ntmps44
 go_wp2_with fail
 generalize ((w.alloc (.cells #[.slice a len cap] 25)).alloc (.cells #[.slice am n c] 33))=U at *
 have kPx:=kP U bw
 have c0:=pP.cell 0
 simp only [List.getElem?_cons_zero] at c0
 go_wp2_with fail
 refine kPx.mono ?_
 rintro e w1 ⟨rfl,hb⟩
 replace bw:=Zb bw hb
 replace pP:=pP.below hb
 replace pE:=pE.below hb
 clear kP kPx hb c0
 cases po
 ·clear kE kT pP pE
  go_wp2
  go_ret2
  exact ⟨rfl,bw⟩
 have kEx:=kE w1 bw
 have x0:=pE.cell 0
 simp only [List.getElem?_cons_zero] at x0
 go_wp2_with fail
 refine kEx.mono ?_
 rintro e w2 ⟨rfl,hb⟩
 replace bw:=Zb bw hb
 replace pP:=pP.below hb
 replace pE:=pE.below hb
 clear kE kEx hb x0
 cases eo
 ·clear kT pP pE
  go_wp2
  go_ret2
  exact ⟨rfl,bw⟩
 have c0:=pP.cell 0
 have x0:=pE.cell 0
 simp only [List.getElem?_cons_zero] at c0 x0
 have kTx:=kT.out _ bw (by simp) (by simp)
 clear kT
 go_wp2_with fail
 refine kTx.mono ?_
 rintro e w3 ⟨rfl,hb⟩
 have bz:=Zb bw hb
 clear kTx hb pP pE c0 x0
 go_wp2
 go_ret2
 exact ⟨rfl,bz⟩
end Go.Proofs.YtnffeclgboomoaaGreatDoor
