/-
  Joined: Ent4.
-/
import Derived.Test.YthmgampabhbpoaaDoorA32

namespace Go.Proofs.YthmgampabhbpoaaDoor
set_option maxRecDepth 100000
set_option maxHeartbeats 16000000
open Go.RowKit
set_option linter.unusedVariables false
set_option linter.unusedSimpArgs false

theorem eqEntry_same (e:E3) (s s':Sl2) (w:World) (h:Emem w s e) (h':Emem w s' e) :
  Calls Tryd.prog 14 #[entV e.1 s,entV e.1 s'] w fun x w'=>x=.returned (.bool true)∧Below w.heap.size w w':=by
 obtain ⟨_,hB,hF,_⟩:=h
 obtain ⟨_,hB',hF',_⟩:=h'
 have l1:=hB.1
 have l2:=hF.1
 have l1':=hB'.1
 have l2':=hF'.1
 obtain ⟨k,bs,zs⟩:=e
 obtain ⟨⟨a1,n1,c1⟩,⟨a2,n2,c2⟩⟩:=s
 obtain ⟨⟨b1,m1,d1⟩,⟨b2,m2,d2⟩⟩:=s'
 unfold entV
 simp only at *
 obtain rfl:n1=m1:=by omega
 obtain rfl:n2=m2:=by omega
 have kB:=fun W (hb:Below w.heap.size w W)=>eqBugS_same a1 b1 n1 c1 d1 bs W (hB.below hb) (hB'.below hb)
 have kF:=fun W (hb:Below w.heap.size w W)=>eq8 a2 b2 n2 c2 d2 zs W (hF.below hb) (hF'.below hb)
 clear hB hF hB' hF' l1 l2 l1' l2'
 have hkk:(k.toList == k.toList)=true:=by simp
 have bw:Below w.heap.size w ((w.alloc (.cells #[.string k,.slice a1 n1 c1,.slice a2 n2 c2] 30)).alloc (.cells #[.string k,.slice b1 n1 d1,.slice b2 n2 d2] 30)):=by go_grown
 have pA:Blk ((w.alloc (.cells #[.string k,.slice a1 n1 c1,.slice a2 n2 c2] 30)).alloc (.cells #[.string k,.slice b1 n1 d1,.slice b2 n2 d2] 30)) w.heap.size 30 [.string k,.slice a1 n1 c1,.slice a2 n2 c2]:=blkOld _ (blkAt _ _ _ rfl)
 have pB:Blk ((w.alloc (.cells #[.string k,.slice a1 n1 c1,.slice a2 n2 c2] 30)).alloc (.cells #[.string k,.slice b1 n1 d1,.slice b2 n2 d2] 30)) (w.heap.size+1) 30 [.string k,.slice b1 n1 d1,.slice b2 n2 d2]:=blkAt _ _ _ (by simp)
 go_enter Tryd.func14,Tryd.ntmps14
 go_wp2_with fail
 refine (kB _ bw).mono ?_
 rintro x w1 ⟨rfl,hb⟩
 replace bw:=bel8 bw hb
 replace pA:=pA.below hb
 replace pB:=pB.below hb
 clear hb kB
 have y2:=pA.cell 2
 have z2:=pB.cell 2
 simp only [List.getElem?_cons_zero,List.getElem?_cons_succ] at y2 z2
 go_wp2_with fail
 refine (kF _ bw).mono ?_
 rintro x w2 ⟨rfl,hb⟩
 replace bw:=bel8 bw hb
 clear hb kF
 go_wp2
 go_ret
 exact ⟨rfl,bw⟩

end Go.Proofs.YthmgampabhbpoaaDoor
