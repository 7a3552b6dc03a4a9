/-
  Joined: EsB.
-/
import Derived.Test.YthlcdhddickdiaaDoorR25
import Derived.Test.YthlcdhddickdiaaDoorR37

namespace Go.Proofs.YthlcdhddickdiaaDoor
set_option maxRecDepth 100000
set_option maxHeartbeats 16000000
open Go.RowKit
set_option linter.unusedVariables false
set_option linter.unusedSimpArgs false

theorem l03Of_far (s:ByteArray) (w:World) (hs:s.size≤maxLen) (h15:s.size≠15) :
  Calls Tryd.prog 55 #[.string s] w fun e w'=>VmGotB e w' w.heap.size ([],[],[],[]) false∧Below w.heap.size w w':=by
 unfold maxLen at hs
 have kN:=specNewVm_is
 have bw:Below w.heap.size w (w.alloc (.cells #[.slice none 0 0,.slice none 0 0,.slice none 0 0,.slice none 0 0] 86)):=by go_grown
 have pR:=Blk.new w 86 [.slice none 0 0,.slice none 0 0,.slice none 0 0,.slice none 0 0]
 have hne:((s.size:Int) != 15)=true:=by simp;omega
 go_enter Tryd.func55,Tryd.ntmps55
 go_wp2_with fail
 refine (kN _).mono ?_
 rintro e w1 ⟨⟨t,rfl,hO⟩,hb⟩
 obtain ⟨g0,g1,g2,g3,c0,c1,c2,c3,rfl,_⟩:=newVm_open hO
 have uX:S4.val ((some ⟨g0,0,none⟩,3,c0),(some ⟨g1,0,none⟩,4,c1),(some ⟨g2,0,none⟩,2,c2),(some ⟨g3,0,none⟩,6,c3))=.agg #[.slice (some ⟨g0,0,none⟩) 3 c0,.slice (some ⟨g1,0,none⟩) 4 c1,.slice (some ⟨g2,0,none⟩) 2 c2,.slice (some ⟨g3,0,none⟩) 6 c3]:=rfl
 rw [uX]
 clear uX
 have bA:Below w1.heap.size w1 (w1.alloc (.cells #[.slice (some ⟨g0,0,none⟩) 3 c0,.slice (some ⟨g1,0,none⟩) 4 c1,.slice (some ⟨g2,0,none⟩) 2 c2,.slice (some ⟨g3,0,none⟩) 6 c3] 86)):=by go_grown
 have hgS:w.heap.size<w1.heap.size:=Nat.lt_of_lt_of_le (by simp) hb.size
 replace bw:=bel_trans bw (bel_trans hb bA)
 replace pR:=pR.below (bel_trans hb bA)
 clear hb bA kN hO
 go_wp2_with (refine wpList_store_blk rfl 86 _ _ rfl w.heap.size [.slice none 0 0,.slice none 0 0,.slice none 0 0,.slice none 0 0] rfl rfl pR (by kernel_rfl) rfl rfl ?_)
 intro w4 pR4 g4
 replace bw:=bw.grown g4 bw.size (fun x hx=>by cases hx;omega)
 clear g4
 go_wp2_with fail
 refine bodyPost_ret (results_blk2 Tryd.results55 _ _ _ _ _ _ rfl pR4.out Tryd.underlying86 rfl (by kernel_rfl)) rfl ?_
 exact ⟨VmGotB.mk9 ((none,0,0),(none,0,0),(none,0,0),(none,0,0)) rfl (ownV_nil _ _),bw⟩

theorem l03Of_any (s:ByteArray) (w:World) (hs:s.size≤maxLen) :
  Calls Tryd.prog 55 #[.string s] w fun e w'=>(∃ z,VmGotB e w' w.heap.size z (keyOk9 s))∧Below w.heap.size w w':=by
 by_cases h15:s.size=15
 ·refine (l03Of_15 s w h15).mono ?_
  rintro e w' ⟨⟨z,b,hv,hb⟩,hB⟩
  have e9:keyOk9 s=b:=by unfold keyOk9;rw [decide_eq_true h15,hb.1];rfl
  rw [e9]
  exact ⟨⟨z,hv⟩,hB⟩
 ·refine (l03Of_far s w hs h15).mono ?_
  rintro e w' ⟨hv,hB⟩
  have e9:keyOk9 s=false:=by unfold keyOk9;rw [decide_eq_false h15];rfl
  rw [e9]
  exact ⟨⟨_,hv⟩,hB⟩

theorem specEntryOK_is (e:E3) (s:Sl2) (w:World) (h:Emem w s e) :
  Calls Tryd.prog 29 #[entV e.1 s] w fun x w'=>x=.returned (.bool (entOk e))∧Below w.heap.size w w':=by
 obtain ⟨⟨hk,_⟩,hB,hF,hfw⟩:=h
 have l1:=hB.1
 obtain ⟨ek,eb,ez⟩:=e
 obtain ⟨⟨a1,n1,c1⟩,⟨a2,n2,c2⟩⟩:=s
 unfold entV
 simp only at *
 have kK:=fun W=>l03Of_any ek W hk
 have kR:=fun W (hb:Below w.heap.size w W)=>l10Rising_is a1 n1 c1 eb W (hB.below hb)
 have kI:=fun W (hb:Below w.heap.size w W)=>l10Items_is a2 n2 c2 ez W (hF.below hb) hfw
 have bw:Below w.heap.size w (w.alloc (.cells #[.string ek,.slice a1 n1 c1,.slice a2 n2 c2] 39)):=by go_grown
 have pA:Blk (w.alloc (.cells #[.string ek,.slice a1 n1 c1,.slice a2 n2 c2] 39)) w.heap.size 39 [.string ek,.slice a1 n1 c1,.slice a2 n2 c2]:=blkAt _ _ _ rfl
 obtain ⟨fin,hfin⟩:∃ fin,fin=entOk (ek,eb,ez):=⟨_,rfl⟩
 rw [← hfin]
 have HF:Hid (fin=(keyOk9 ek && (riseB eb && (riseI ez && decide (eb.length≤30))))):=hfin
 clear hfin hB hF hfw
 go_enter Tryd.func29,Tryd.ntmps29
 go_wp2_with fail
 refine (kK _).mono ?_
 rintro x w1 ⟨⟨z,⟨⟨t0a,t0n,t0c⟩,⟨t1a,t1n,t1c⟩,⟨t2a,t2n,t2c⟩,⟨t3a,t3n,t3c⟩⟩,rfl,_⟩,hb⟩
 have ut:S4.val ((t0a,t0n,t0c),(t1a,t1n,t1c),(t2a,t2n,t2c),(t3a,t3n,t3c))=.agg #[.slice t0a t0n t0c,.slice t1a t1n t1c,.slice t2a t2n t2c,.slice t3a t3n t3c]:=rfl
 rw [ut]
 clear ut kK
 have bA:Below w1.heap.size w1 (w1.alloc (.cells #[.slice t0a t0n t0c,.slice t1a t1n t1c,.slice t2a t2n t2c,.slice t3a t3n t3c] 86)):=by go_grown
 replace bw:=bel8 bw (bel8 hb bA)
 replace pA:=pA.below (bel8 hb bA)
 clear hb bA
 have y1:=pA.cell 1
 simp only [List.getElem?_cons_zero,List.getElem?_cons_succ] at y1
 cases hK:keyOk9 ek
 ·have HR:Hid (fin=false):=by rw [Hid,HF.out,hK];rfl
  clear HF hK kR kI
  go_wp2
  go_ret
  exact ⟨by rw [HR.out];rfl,bw⟩
 ·go_wp2_with fail
  generalize (w1.alloc (.cells #[.slice t0a t0n t0c,.slice t1a t1n t1c,.slice t2a t2n t2c,.slice t3a t3n t3c] 86))=U at *
  refine (kR _ bw).mono ?_
  rintro x w2 ⟨rfl,hb⟩
  replace bw:=bel8 bw hb
  replace pA:=pA.below hb
  clear hb kR y1
  have y1:=pA.cell 1
  have y2:=pA.cell 2
  simp only [List.getElem?_cons_zero,List.getElem?_cons_succ] at y1 y2
  cases hR:riseB eb
  ·have HR:Hid (fin=false):=by rw [Hid,HF.out,hK,hR];rfl
   clear HF hK hR kI
   go_wp2
   go_ret
   exact ⟨by rw [HR.out];rfl,bw⟩
  ·go_wp2_with fail
   refine (kI _ bw).mono ?_
   rintro x w3 ⟨rfl,hb⟩
   replace bw:=bel8 bw hb
   replace pA:=pA.below hb
   clear hb kI y1 y2
   have y1:=pA.cell 1
   simp only [List.getElem?_cons_zero,List.getElem?_cons_succ] at y1
   cases hI:riseI ez
   ·have HR:Hid (fin=false):=by rw [Hid,HF.out,hK,hR,hI];rfl
    clear HF hK hR hI
    go_wp2
    go_ret
    exact ⟨by rw [HR.out];rfl,bw⟩
   ·by_cases h30:eb.length≤30
    ·have HR:Hid (fin=true):=by rw [Hid,HF.out,hK,hR,hI,decide_eq_true h30];rfl
     have hle:decide ((n1:Int)≤30)=true:=by simp;omega
     clear HF hK hR hI h30
     go_wp2
     go_ret
     exact ⟨by rw [HR.out];rfl,bw⟩
    ·have HR:Hid (fin=false):=by rw [Hid,HF.out,hK,hR,hI,decide_eq_false h30];rfl
     have hle:decide ((n1:Int)≤30)=false:=by simp;omega
     clear HF hK hR hI h30
     go_wp2
     go_ret
     exact ⟨by rw [HR.out];rfl,bw⟩

end Go.Proofs.YthlcdhddickdiaaDoor
