/-
  Joined: EsB, KpsI, EntS, MemR, EsP.
-/
import Derived.Shelf.Small.Strs
import Derived.Deep.Cut
import Derived.Test.YtnffeclgboomoaaGreatDoorT14
import Derived.Test.YtnffeclgboomoaaGreatDoorT20

namespace Go.Proofs.YtnffeclgboomoaaGreatDoor
set_option maxRecDepth 100000
set_option maxHeartbeats 16000000
open Go.RowKit
set_option linter.unusedVariables false
set_option linter.unusedSimpArgs false

theorem KY (s:ByteArray) (w:World) (hs:s.size≤maxLen) (h15:s.size≠15) :
  Calls Tryz.prog 142 #[.string s] w fun e w'=>VK e w' w.heap.size ([],[],[],[]) false∧Below w.heap.size w w':=by
 unfold maxLen at hs
 have kN:=TP
 have bw:Below w.heap.size w (w.alloc (.cells #[.slice none 0 0,.slice none 0 0,.slice none 0 0,.slice none 0 0] 112)):=by go_grown
 have pR:=Blk.new w 112 [.slice none 0 0,.slice none 0 0,.slice none 0 0,.slice none 0 0]
 have hne:((s.size:Int) != 15)=true:=by simp;omega
 go_enter Tryz.func142,Tryz.ntmps142
 go_wp2_with fail
 refine (kN _).mono ?_
 rintro e w1 ⟨⟨t,rfl,hO⟩,hb⟩
 obtain ⟨g0,g1,g2,g3,c0,c1,c2,c3,rfl,_⟩:=Vw hO
 have uX:S4.val ((some ⟨g0,0,none⟩,3,c0),(some ⟨g1,0,none⟩,4,c1),(some ⟨g2,0,none⟩,2,c2),(some ⟨g3,0,none⟩,6,c3))=.agg #[.slice (some ⟨g0,0,none⟩) 3 c0,.slice (some ⟨g1,0,none⟩) 4 c1,.slice (some ⟨g2,0,none⟩) 2 c2,.slice (some ⟨g3,0,none⟩) 6 c3]:=rfl
 rw [uX]
 clear uX
 have bA:Below w1.heap.size w1 (w1.alloc (.cells #[.slice (some ⟨g0,0,none⟩) 3 c0,.slice (some ⟨g1,0,none⟩) 4 c1,.slice (some ⟨g2,0,none⟩) 2 c2,.slice (some ⟨g3,0,none⟩) 6 c3] 112)):=by go_grown
 have hgS:w.heap.size<w1.heap.size:=Nat.lt_of_lt_of_le (by simp) hb.size
 replace bw:=Zb bw (Zb hb bA)
 replace pR:=pR.below (Zb hb bA)
 clear hb bA kN hO
 go_wp2_with (refine Zf rfl 112 _ _ rfl w.heap.size [.slice none 0 0,.slice none 0 0,.slice none 0 0,.slice none 0 0] rfl rfl pR (by kernel_rfl) rfl rfl ?_)
 intro w4 pR4 g4
 replace bw:=bw.grown g4 bw.size (fun x hx=>by cases hx;omega)
 clear g4
 go_wp2_with fail
 refine bodyPost_ret (Zp Tryz.results142 _ _ _ _ _ _ rfl pR4.out Tryz.underlying112 rfl (by kernel_rfl)) rfl ?_
 exact ⟨VK.mk9 ((none,0,0),(none,0,0),(none,0,0),(none,0,0)) rfl (Vh _ _),bw⟩

theorem KX (s:ByteArray) (w:World) (hs:s.size≤maxLen) :
  Calls Tryz.prog 142 #[.string s] w fun e w'=>(∃ z,VK e w' w.heap.size z (YP s))∧Below w.heap.size w w':=by
 by_cases h15:s.size=15
 ·refine (NC s w h15).mono ?_
  rintro e w' ⟨⟨z,b,hv,hb⟩,hB⟩
  have e9:YP s=b:=by unfold YP;rw [decide_eq_true h15,hb.1];rfl
  rw [e9]
  exact ⟨⟨z,hv⟩,hB⟩
 refine (KY s w hs h15).mono ?_
 rintro e w' ⟨hv,hB⟩
 have e9:YP s=false:=by unfold YP;rw [decide_eq_false h15];rfl
 rw [e9]
 exact ⟨⟨_,hv⟩,hB⟩

theorem Xe (e:E3) (s:Sl2) (w:World) (h:Z1 w s e) :
  Calls Tryz.prog 90 #[ZR e.1 s] w fun x w'=>x=.returned (.bool (ZS e))∧Below w.heap.size w w':=by
 obtain ⟨⟨hk,_⟩,hB,hF,hfw⟩:=h
 have l1:=hB.1
 obtain ⟨ek,eb,ez⟩:=e
 obtain ⟨⟨a1,n1,c1⟩,⟨a2,n2,c2⟩⟩:=s
 unfold ZR
 simp only at *
 have kK:=fun W=>KX ek W hk
 have kR:=fun W (hb:Below w.heap.size w W)=>PI a1 n1 c1 eb W (hB.below hb)
 have kI:=fun W (hb:Below w.heap.size w W)=>NG a2 n2 c2 ez W (hF.below hb) hfw
 have bw:Below w.heap.size w (w.alloc (.cells #[.string ek,.slice a1 n1 c1,.slice a2 n2 c2] 45)):=by go_grown
 have pA:Blk (w.alloc (.cells #[.string ek,.slice a1 n1 c1,.slice a2 n2 c2] 45)) w.heap.size 45 [.string ek,.slice a1 n1 c1,.slice a2 n2 c2]:=Zi _ _ _ rfl
 obtain ⟨fin,hfin⟩:∃ fin,fin=ZS (ek,eb,ez):=⟨_,rfl⟩
 rw [← hfin]
 have HF:Hid (fin=(YP ek && (Wi eb && (Wm ez && decide (eb.length≤30))))):=hfin
 clear hfin hB hF hfw
 go_enter Tryz.func90,Tryz.ntmps90
 go_wp2_with fail
 refine (kK _).mono ?_
 rintro x w1 ⟨⟨z,⟨⟨t0a,t0n,t0c⟩,⟨t1a,t1n,t1c⟩,⟨t2a,t2n,t2c⟩,⟨t3a,t3n,t3c⟩⟩,rfl,_⟩,hb⟩
 have ut:S4.val ((t0a,t0n,t0c),(t1a,t1n,t1c),(t2a,t2n,t2c),(t3a,t3n,t3c))=.agg #[.slice t0a t0n t0c,.slice t1a t1n t1c,.slice t2a t2n t2c,.slice t3a t3n t3c]:=rfl
 rw [ut]
 clear ut kK
 have bA:Below w1.heap.size w1 (w1.alloc (.cells #[.slice t0a t0n t0c,.slice t1a t1n t1c,.slice t2a t2n t2c,.slice t3a t3n t3c] 112)):=by go_grown
 replace bw:=Zh bw (Zh hb bA)
 replace pA:=pA.below (Zh hb bA)
 clear hb bA
 have y1:=pA.cell 1
 simp only [List.getElem?_cons_zero,List.getElem?_cons_succ] at y1
 cases hK:YP ek
 ·have HR:Hid (fin=false):=by rw [Hid,HF.out,hK];rfl
  clear HF hK kR kI
  go_wp2
  go_ret
  exact ⟨by rw [HR.out];rfl,bw⟩
 go_wp2_with fail
 generalize (w1.alloc (.cells #[.slice t0a t0n t0c,.slice t1a t1n t1c,.slice t2a t2n t2c,.slice t3a t3n t3c] 112))=U at *
 refine (kR _ bw).mono ?_
 rintro x w2 ⟨rfl,hb⟩
 replace bw:=Zh bw hb
 replace pA:=pA.below hb
 clear hb kR y1
 have y1:=pA.cell 1
 have y2:=pA.cell 2
 simp only [List.getElem?_cons_zero,List.getElem?_cons_succ] at y1 y2
 cases hR:Wi eb
 ·have HR:Hid (fin=false):=by rw [Hid,HF.out,hK,hR];rfl
  clear HF hK hR kI
  go_wp2
  go_ret
  exact ⟨by rw [HR.out];rfl,bw⟩
 go_wp2_with fail
 refine (kI _ bw).mono ?_
 rintro x w3 ⟨rfl,hb⟩
 replace bw:=Zh bw hb
 replace pA:=pA.below hb
 clear hb kI y1 y2
 have y1:=pA.cell 1
 simp only [List.getElem?_cons_zero,List.getElem?_cons_succ] at y1
 cases hI:Wm ez
 ·have HR:Hid (fin=false):=by rw [Hid,HF.out,hK,hR,hI];rfl
  clear HF hK hR hI
  go_wp2
  go_ret
  exact ⟨by rw [HR.out];rfl,bw⟩
 by_cases h30:eb.length≤30
 ·have HR:Hid (fin=true):=by rw [Hid,HF.out,hK,hR,hI,decide_eq_true h30];rfl
  have hle:decide ((n1:Int)≤30)=true:=by simp;omega
  clear HF hK hR hI h30
  go_wp2
  go_ret
  exact ⟨by rw [HR.out];rfl,bw⟩
 have HR:Hid (fin=false):=by rw [Hid,HF.out,hK,hR,hI,decide_eq_false h30];rfl
 have hle:decide ((n1:Int)≤30)=false:=by simp;omega
 clear HF hK hR hI h30
 go_wp2
 go_ret
 exact ⟨by rw [HR.out];rfl,bw⟩

theorem FP (t:TypeId) (a b:ByteArray):Go.binOp .geq t (.string a) (.string b)=pure (.bool !ltS a b):=by simp [Go.binOp,Go.Op.stringOp,ltS]

theorem Qt (a:Option Addr) (n cap:Nat) (es:List E3) (w:World) (h:Yo w a n cap es) :
  Calls Tryz.prog 53 #[.agg #[.slice a n cap]] w fun e w'=>e=.returned (.bool (Yu es))∧Below w.heap.size w w':=by
 have bu:Below w.heap.size w (w.alloc (.cells #[.slice a n cap] 33)):=by go_grown
 have g0:(w.alloc (.cells #[.slice a n cap] 33)).cell? ⟨w.heap.size,0,none⟩=some (.slice a n cap):=by first | (simp [go_sem];done) | (simp [World.cell?];done)
 replace h:=h.below bu
 obtain ⟨hl,hlc,hcm,hcase⟩:=h
 unfold maxLen at hcm
 obtain ⟨fin,hfin⟩:∃ fin,fin=Yu es:=⟨_,rfl⟩
 rw [← hfin]
 have HF:Hid (fin=((List.range es.length).all (VB es) && decide (es.length≤2000))):=hfin
 clear hfin
 go_enter Tryz.func53,Tryz.ntmps53
 go_wp2_with fail
 generalize (w.alloc (.cells #[.slice a n cap] 33))=U at *
 go_loopw [3] (fun si wr=>∃ k:Nat,k≤n∧si=.int .i64 k∧Hid (∀ i,i<k→VB es i=true)∧Below U.heap.size U wr) (fun si _=>n - (intOf si).toNat)
 case atStart=>exact ⟨0,by omega,rfl,fun i hi=>by omega,Below.refl _ _⟩
 case round =>
  obtain ⟨k,hk,rfl,HK,bw⟩:=hrel
  by_cases hlt:k<n
  ·rcases hcase with e0 | ⟨b,off,rfl,hblt,hcell⟩
   ·omega
   obtain ⟨s,c0,c1,c2,hm⟩:=hcell k hlt
   have HS:Hid (VB es k=(ZS (es.getD k e3d) && (decide (k=0) || ltS (es.getD (k - 1) e3d).1 (es.getD k e3d).1))):=rfl
   have hlt2:(k:Int)<(n:Int):=by omega
   have hk0:(0:Int)≤(k:Int):=by omega
   cases hO:ZS (es.getD k e3d)
   ·have HR:Hid (fin=false):=by rw [Hid,HF.out,YW (show k<es.length by omega) (show VB es k=false by rw [HS.out,hO];rfl)];rfl
    clear HS HF HK hcell
    generalize es.getD k e3d=x at *
    replace c0:=ZE bw c0
    replace c1:=ZE bw c1
    replace c2:=ZE bw c2
    replace g0:=ZE bw g0
    have kO:=fun W (hb:Below U.heap.size U W)=>Xe x s W (hm.below hb)
    obtain ⟨xk,xb,xz⟩:=x
    obtain ⟨⟨x1,xn1,xc1⟩,⟨x2,xn2,xc2⟩⟩:=s
    unfold ZR at kO
    rw [hO] at kO
    simp only at c0 c1 c2 kO
    have bd:Below U.heap.size U wr.drew:=Zh bw (by go_grown)
    clear hO hm
    go_wp2_with fail
    refine wp_region_held_drew (S:=(fun w'=>w'.cell? ⟨w.heap.size,0,none⟩=some (.slice (some ⟨b,off,none⟩) n cap)∧w'.cell? ⟨b,off+k*3,none⟩=some (.string xk)∧w'.cell? ⟨b,off+k*3+1,none⟩=some (.slice x1 xn1 xc1)∧w'.cell? ⟨b,off+k*3+2,none⟩=some (.slice x2 xn2 xc2))) (by kernel_rfl) ⟨g0,c0,c1,c2⟩ (fun hS0=>?_)
    refine tkx 0 11 (.pointer (some ⟨w.heap.size,0,none⟩)) ?_ ?_
    ·(intro w' hSw;(try dsimp only at hSw);go_simp;first | done | rfl | omega | (intro h9;omega) | (rw [IntKind.wrap_i64];omega))
    simp only [Act.put,tka,tkb,tkc]
    refine tkx 1 12 (.slice (some ⟨b,off,none⟩) n cap) ?_ ?_
    ·(intro w' hSw;(try dsimp only at hSw);go_simp;first | done | rfl | omega | (intro h9;omega) | (rw [IntKind.wrap_i64];omega))
    simp only [Act.put,tka,tkb,tkc]
    refine tkx 2 13 (.int .i64 k) ?_ ?_
    ·(intro w' hSw;(try dsimp only at hSw);go_simp;first | done | rfl | omega | (intro h9;omega) | (rw [IntKind.wrap_i64];omega))
    simp only [Act.put,tka,tkb,tkc]
    refine tkx 3 14 (.pointer (some ⟨b,off+k*3,none⟩)) ?_ ?_
    ·(intro w' hSw;(try dsimp only at hSw);go_simp;first | done | rfl | omega | (intro h9;omega) | (rw [IntKind.wrap_i64];omega))
    simp only [Act.put,tka,tkb,tkc]
    refine tkx 4 15 (.agg #[.string xk,.slice x1 xn1 xc1,.slice x2 xn2 xc2]) ?_ ?_
    ·(intro w' hSw;(try dsimp only at hSw);go_simp;first | done | rfl | omega | (intro h9;omega) | (rw [IntKind.wrap_i64];omega))
    simp only [Act.put,tka,tkb,tkc]
    refine tkr 5 16 (fun K hK=>?_)
    go_simp
    refine (kO _ bd).mono ?_
    rintro e w1 ⟨rfl,hb⟩
    go_wp2_with fail
    refine hK.out _ _ ?_ (fun hS1=>?_)
    ·exact ⟨Za hb _ _ hS0.1,Za hb _ _ hS0.2.1,Za hb _ _ hS0.2.2.1,Za hb _ _ hS0.2.2.2⟩
    clear hK
    refine tkx 6 17 (.bool true) ?_ ?_
    ·(intro w' hSw;(try dsimp only at hSw);go_simp;first | done | rfl | omega | (intro h9;omega) | (rw [IntKind.wrap_i64];omega))
    simp only [Act.put,tka,tkb,tkc]
    refine tkx 7 18 (.bool true) ?_ ?_
    ·(intro w' hSw;(try dsimp only at hSw);go_simp;first | done | rfl | omega | (intro h9;omega) | (rw [IntKind.wrap_i64];omega))
    simp only [Act.put,tka,tkb,tkc]
    refine tku 8 19 ?_
    refine tku 9 20 ?_
    refine tku 10 21 ?_
    refine tku 11 22 ?_
    refine tku 12 23 ?_
    refine tku 13 24 ?_
    refine tku 14 25 ?_
    refine tku 15 26 ?_
    refine tku 16 27 ?_
    refine tku 17 28 ?_
    refine tku 18 29 ?_
    refine tku 19 30 ?_
    refine tku 20 31 ?_
    refine tku 21 32 ?_
    refine tku 22 33 ?_
    refine tku 23 34 ?_
    refine tku 24 35 ?_
    refine tku 25 36 ?_
    refine tkx 26 37 (.bool true) ?_ ?_
    ·(intro w' hSw;(try dsimp only at hSw);go_simp;first | done | rfl | omega | (intro h9;omega) | (rw [IntKind.wrap_i64];omega))
    simp only [Act.put,tka,tkb,tkc]
    refine wpAnyH_done (by kernel_rfl) ?_ _
    have bz:Below w.heap.size w w1:=Zh bu (Zh bd hb)
    clear hS0 hS1 hb c0 c1 c2 bd
    go_wp2
    go_ret
    exact ⟨by rw [HR.out];rfl,bz⟩
   by_cases hz:k=0
   ·have HK2:Hid (∀ i,i<k+1→VB es i=true):=fun i hi=>by
     obtain rfl:i=k:=by omega
     rw [HS.out,hO,decide_eq_true hz];rfl
    have hgt:¬ (0:Int)<(k:Int):=by omega
    clear HS HK hcell
    generalize es.getD k e3d=x at *
    replace c0:=ZE bw c0
    replace c1:=ZE bw c1
    replace c2:=ZE bw c2
    replace g0:=ZE bw g0
    have kO:=fun W (hb:Below U.heap.size U W)=>Xe x s W (hm.below hb)
    obtain ⟨xk,xb,xz⟩:=x
    obtain ⟨⟨x1,xn1,xc1⟩,⟨x2,xn2,xc2⟩⟩:=s
    unfold ZR at kO
    rw [hO] at kO
    simp only at c0 c1 c2 kO
    have bd:Below U.heap.size U wr.drew:=Zh bw (by go_grown)
    clear hO hm hz
    go_wp2_with fail
    refine wp_region_held_drew (S:=(fun w'=>w'.cell? ⟨w.heap.size,0,none⟩=some (.slice (some ⟨b,off,none⟩) n cap)∧w'.cell? ⟨b,off+k*3,none⟩=some (.string xk)∧w'.cell? ⟨b,off+k*3+1,none⟩=some (.slice x1 xn1 xc1)∧w'.cell? ⟨b,off+k*3+2,none⟩=some (.slice x2 xn2 xc2))) (by kernel_rfl) ⟨g0,c0,c1,c2⟩ (fun hS0=>?_)
    refine tkx 0 11 (.pointer (some ⟨w.heap.size,0,none⟩)) ?_ ?_
    ·(intro w' hSw;(try dsimp only at hSw);go_simp;first | done | rfl | omega | (intro h9;omega) | (rw [IntKind.wrap_i64];omega))
    simp only [Act.put,tka,tkb,tkc]
    refine tkx 1 12 (.slice (some ⟨b,off,none⟩) n cap) ?_ ?_
    ·(intro w' hSw;(try dsimp only at hSw);go_simp;first | done | rfl | omega | (intro h9;omega) | (rw [IntKind.wrap_i64];omega))
    simp only [Act.put,tka,tkb,tkc]
    refine tkx 2 13 (.int .i64 k) ?_ ?_
    ·(intro w' hSw;(try dsimp only at hSw);go_simp;first | done | rfl | omega | (intro h9;omega) | (rw [IntKind.wrap_i64];omega))
    simp only [Act.put,tka,tkb,tkc]
    refine tkx 3 14 (.pointer (some ⟨b,off+k*3,none⟩)) ?_ ?_
    ·(intro w' hSw;(try dsimp only at hSw);go_simp;first | done | rfl | omega | (intro h9;omega) | (rw [IntKind.wrap_i64];omega))
    simp only [Act.put,tka,tkb,tkc]
    refine tkx 4 15 (.agg #[.string xk,.slice x1 xn1 xc1,.slice x2 xn2 xc2]) ?_ ?_
    ·(intro w' hSw;(try dsimp only at hSw);go_simp;first | done | rfl | omega | (intro h9;omega) | (rw [IntKind.wrap_i64];omega))
    simp only [Act.put,tka,tkb,tkc]
    refine tkr 5 16 (fun K hK=>?_)
    go_simp
    refine (kO _ bd).mono ?_
    rintro e w1 ⟨rfl,hb⟩
    go_wp2_with fail
    refine hK.out _ _ ?_ (fun hS1=>?_)
    ·exact ⟨Za hb _ _ hS0.1,Za hb _ _ hS0.2.1,Za hb _ _ hS0.2.2.1,Za hb _ _ hS0.2.2.2⟩
    clear hK
    refine tkx 6 17 (.bool false) ?_ ?_
    ·(intro w' hSw;(try dsimp only at hSw);go_simp;first | done | rfl | omega | (intro h9;omega) | (rw [IntKind.wrap_i64];omega))
    simp only [Act.put,tka,tkb,tkc]
    refine tkx 7 18 (.bool false) ?_ ?_
    ·(intro w' hSw;(try dsimp only at hSw);go_simp;first | done | rfl | omega | (intro h9;omega) | (rw [IntKind.wrap_i64];omega))
    simp only [Act.put,tka,tkb,tkc]
    refine tkx 8 19 (.int .i64 k) ?_ ?_
    ·(intro w' hSw;(try dsimp only at hSw);go_simp;first | done | rfl | omega | (intro h9;omega) | (rw [IntKind.wrap_i64];omega))
    simp only [Act.put,tka,tkb,tkc]
    refine tkx 9 20 (.bool false) ?_ ?_
    ·(intro w' hSw;(try dsimp only at hSw);go_simp;first | done | rfl | omega | (intro h9;omega) | (rw [IntKind.wrap_i64];omega))
    simp only [Act.put,tka,tkb,tkc]
    refine tkx 10 21 (.bool false) ?_ ?_
    ·(intro w' hSw;(try dsimp only at hSw);go_simp;first | done | rfl | omega | (intro h9;omega) | (rw [IntKind.wrap_i64];omega))
    simp only [Act.put,tka,tkb,tkc]
    refine tku 11 22 ?_
    refine tku 12 23 ?_
    refine tku 13 24 ?_
    refine tku 14 25 ?_
    refine tku 15 26 ?_
    refine tku 16 27 ?_
    refine tku 17 28 ?_
    refine tku 18 29 ?_
    refine tku 19 30 ?_
    refine tku 20 31 ?_
    refine tku 21 32 ?_
    refine tku 22 33 ?_
    refine tku 23 34 ?_
    refine tku 24 35 ?_
    refine tkx 25 36 (.bool false) ?_ ?_
    ·(intro w' hSw;(try dsimp only at hSw);go_simp;first | done | rfl | omega | (intro h9;omega) | (rw [IntKind.wrap_i64];omega))
    simp only [Act.put,tka,tkb,tkc]
    refine tkx 26 37 (.bool false) ?_ ?_
    ·(intro w' hSw;(try dsimp only at hSw);go_simp;first | done | rfl | omega | (intro h9;omega) | (rw [IntKind.wrap_i64];omega))
    simp only [Act.put,tka,tkb,tkc]
    refine wpAnyH_done (by kernel_rfl) ?_ _
    have bz:Below U.heap.size U w1:=Zh bd hb
    clear hS0 hS1 hb c0 c1 c2 bd
    go_wp2
    go_roundw
    case rel=>exact ⟨k+1,by omega,by go_num,HK2,bz⟩
    case measure=>simp [intOf];omega
   obtain ⟨m,rfl⟩:∃ m,k=m+1:=⟨k - 1,by omega⟩
   obtain ⟨s',d0,_⟩:=hcell m (by omega)
   have hgt:(0:Int)<((m+1:Nat):Int):=by omega
   have hm0:(0:Int)≤(m:Int):=by omega
   have hmn:(m:Int)<(n:Int):=by omega
   rw [show m+1 - 1=m from rfl,decide_eq_false (show ¬ m+1=0 by omega),Bool.false_or] at HS
   have hge:=fun t=>FP t (es.getD m e3d).1 (es.getD (m+1) e3d).1
   cases hT:ltS (es.getD m e3d).1 (es.getD (m+1) e3d).1
   ·have HR:Hid (fin=false):=by rw [Hid,HF.out,YW (show m+1<es.length by omega) (show VB es (m+1)=false by rw [HS.out,hO,hT];rfl)];rfl
    clear HS HF HK hcell
    replace d0:=ZE bw d0
    generalize es.getD (m+1) e3d=x at *
    generalize (es.getD m e3d).1=yk at *
    replace c0:=ZE bw c0
    replace c1:=ZE bw c1
    replace c2:=ZE bw c2
    replace g0:=ZE bw g0
    have kO:=fun W (hb:Below U.heap.size U W)=>Xe x s W (hm.below hb)
    obtain ⟨xk,xb,xz⟩:=x
    obtain ⟨⟨x1,xn1,xc1⟩,⟨x2,xn2,xc2⟩⟩:=s
    unfold ZR at kO
    rw [hO] at kO
    simp only at c0 c1 c2 kO
    have bd:Below U.heap.size U wr.drew:=Zh bw (by go_grown)
    rw [hT] at hge
    simp only [Bool.not_false] at hge
    clear hO hm hT
    go_wp2_with fail
    refine wp_region_held_drew (S:=(fun w'=>w'.cell? ⟨w.heap.size,0,none⟩=some (.slice (some ⟨b,off,none⟩) n cap)∧w'.cell? ⟨b,off+(m+1)*3,none⟩=some (.string xk)∧w'.cell? ⟨b,off+(m+1)*3+1,none⟩=some (.slice x1 xn1 xc1)∧w'.cell? ⟨b,off+(m+1)*3+2,none⟩=some (.slice x2 xn2 xc2)∧w'.cell? ⟨b,off+m*3,none⟩=some (.string yk))) (by kernel_rfl) ⟨g0,c0,c1,c2,d0⟩ (fun hS0=>?_)
    refine tkx 0 11 (.pointer (some ⟨w.heap.size,0,none⟩)) ?_ ?_
    ·(intro w' hSw;(try dsimp only at hSw);go_simp;first | done | rfl | omega | (intro h9;omega) | (rw [IntKind.wrap_i64];omega))
    simp only [Act.put,tka,tkb,tkc]
    refine tkx 1 12 (.slice (some ⟨b,off,none⟩) n cap) ?_ ?_
    ·(intro w' hSw;(try dsimp only at hSw);go_simp;first | done | rfl | omega | (intro h9;omega) | (rw [IntKind.wrap_i64];omega))
    simp only [Act.put,tka,tkb,tkc]
    refine tkx 2 13 (.int .i64 ((m+1:Nat):Int)) ?_ ?_
    ·(intro w' hSw;(try dsimp only at hSw);go_simp;first | done | rfl | omega | (intro h9;omega) | (rw [IntKind.wrap_i64];omega))
    simp only [Act.put,tka,tkb,tkc]
    refine tkx 3 14 (.pointer (some ⟨b,off+(m+1)*3,none⟩)) ?_ ?_
    ·(intro w' hSw;(try dsimp only at hSw);go_simp;first | done | rfl | omega | (intro h9;omega) | (rw [IntKind.wrap_i64];omega))
    simp only [Act.put,tka,tkb,tkc]
    refine tkx 4 15 (.agg #[.string xk,.slice x1 xn1 xc1,.slice x2 xn2 xc2]) ?_ ?_
    ·(intro w' hSw;(try dsimp only at hSw);go_simp;first | done | rfl | omega | (intro h9;omega) | (rw [IntKind.wrap_i64];omega))
    simp only [Act.put,tka,tkb,tkc]
    refine tkr 5 16 (fun K hK=>?_)
    go_simp
    refine (kO _ bd).mono ?_
    rintro e w1 ⟨rfl,hb⟩
    go_wp2_with fail
    refine hK.out _ _ ?_ (fun hS1=>?_)
    ·exact ⟨Za hb _ _ hS0.1,Za hb _ _ hS0.2.1,Za hb _ _ hS0.2.2.1,Za hb _ _ hS0.2.2.2.1,Za hb _ _ hS0.2.2.2.2⟩
    clear hK
    refine tkx 6 17 (.bool false) ?_ ?_
    ·(intro w' hSw;(try dsimp only at hSw);go_simp;first | done | rfl | omega | (intro h9;omega) | (rw [IntKind.wrap_i64];omega))
    simp only [Act.put,tka,tkb,tkc]
    refine tkx 7 18 (.bool false) ?_ ?_
    ·(intro w' hSw;(try dsimp only at hSw);go_simp;first | done | rfl | omega | (intro h9;omega) | (rw [IntKind.wrap_i64];omega))
    simp only [Act.put,tka,tkb,tkc]
    refine tkx 8 19 (.int .i64 ((m+1:Nat):Int)) ?_ ?_
    ·(intro w' hSw;(try dsimp only at hSw);go_simp;first | done | rfl | omega | (intro h9;omega) | (rw [IntKind.wrap_i64];omega))
    simp only [Act.put,tka,tkb,tkc]
    refine tkx 9 20 (.bool true) ?_ ?_
    ·(intro w' hSw;(try dsimp only at hSw);go_simp;first | done | rfl | omega | (intro h9;omega) | (rw [IntKind.wrap_i64];omega))
    simp only [Act.put,tka,tkb,tkc]
    refine tkx 10 21 (.bool true) ?_ ?_
    ·(intro w' hSw;(try dsimp only at hSw);go_simp;first | done | rfl | omega | (intro h9;omega) | (rw [IntKind.wrap_i64];omega))
    simp only [Act.put,tka,tkb,tkc]
    refine tkx 11 22 (.pointer (some ⟨w.heap.size,0,none⟩)) ?_ ?_
    ·(intro w' hSw;(try dsimp only at hSw);go_simp;first | done | rfl | omega | (intro h9;omega) | (rw [IntKind.wrap_i64];omega))
    simp only [Act.put,tka,tkb,tkc]
    refine tkx 12 23 (.slice (some ⟨b,off,none⟩) n cap) ?_ ?_
    ·(intro w' hSw;(try dsimp only at hSw);go_simp;first | done | rfl | omega | (intro h9;omega) | (rw [IntKind.wrap_i64];omega))
    simp only [Act.put,tka,tkb,tkc]
    refine tkx 13 24 (.int .i64 ((m+1:Nat):Int)) ?_ ?_
    ·(intro w' hSw;(try dsimp only at hSw);go_simp;first | done | rfl | omega | (intro h9;omega) | (rw [IntKind.wrap_i64];omega))
    simp only [Act.put,tka,tkb,tkc]
    refine tkx 14 25 (.int .i64 (m:Int)) ?_ ?_
    ·(intro w' hSw;(try dsimp only at hSw);go_simp;first | done | rfl | omega | (intro h9;omega) | (rw [IntKind.wrap_i64];omega))
    simp only [Act.put,tka,tkb,tkc]
    refine tkx 15 26 (.pointer (some ⟨b,off+m*3,none⟩)) ?_ ?_
    ·(intro w' hSw;(try dsimp only at hSw);go_simp;first | done | rfl | omega | (intro h9;omega) | (rw [IntKind.wrap_i64];omega))
    simp only [Act.put,tka,tkb,tkc]
    refine tkx 16 27 (.pointer (some ⟨b,off+m*3,none⟩)) ?_ ?_
    ·(intro w' hSw;(try dsimp only at hSw);go_simp;first | done | rfl | omega | (intro h9;omega) | (rw [IntKind.wrap_i64];omega))
    simp only [Act.put,tka,tkb,tkc]
    refine tkx 17 28 (.string yk) ?_ ?_
    ·(intro w' hSw;(try dsimp only at hSw);go_simp;first | done | rfl | omega | (intro h9;omega) | (rw [IntKind.wrap_i64];omega))
    simp only [Act.put,tka,tkb,tkc]
    refine tkx 18 29 (.pointer (some ⟨w.heap.size,0,none⟩)) ?_ ?_
    ·(intro w' hSw;(try dsimp only at hSw);go_simp;first | done | rfl | omega | (intro h9;omega) | (rw [IntKind.wrap_i64];omega))
    simp only [Act.put,tka,tkb,tkc]
    refine tkx 19 30 (.slice (some ⟨b,off,none⟩) n cap) ?_ ?_
    ·(intro w' hSw;(try dsimp only at hSw);go_simp;first | done | rfl | omega | (intro h9;omega) | (rw [IntKind.wrap_i64];omega))
    simp only [Act.put,tka,tkb,tkc]
    refine tkx 20 31 (.int .i64 ((m+1:Nat):Int)) ?_ ?_
    ·(intro w' hSw;(try dsimp only at hSw);go_simp;first | done | rfl | omega | (intro h9;omega) | (rw [IntKind.wrap_i64];omega))
    simp only [Act.put,tka,tkb,tkc]
    refine tkx 21 32 (.pointer (some ⟨b,off+(m+1)*3,none⟩)) ?_ ?_
    ·(intro w' hSw;(try dsimp only at hSw);go_simp;first | done | rfl | omega | (intro h9;omega) | (rw [IntKind.wrap_i64];omega))
    simp only [Act.put,tka,tkb,tkc]
    refine tkx 22 33 (.pointer (some ⟨b,off+(m+1)*3,none⟩)) ?_ ?_
    ·(intro w' hSw;(try dsimp only at hSw);go_simp;first | done | rfl | omega | (intro h9;omega) | (rw [IntKind.wrap_i64];omega))
    simp only [Act.put,tka,tkb,tkc]
    refine tkx 23 34 (.string xk) ?_ ?_
    ·(intro w' hSw;(try dsimp only at hSw);go_simp;first | done | rfl | omega | (intro h9;omega) | (rw [IntKind.wrap_i64];omega))
    simp only [Act.put,tka,tkb,tkc]
    refine tkx 24 35 (.bool true) ?_ ?_
    ·(intro w' hSw;(try dsimp only at hSw);go_simp;first | done | rfl | omega | (intro h9;omega) | (rw [IntKind.wrap_i64];omega))
    simp only [Act.put,tka,tkb,tkc]
    refine tkx 25 36 (.bool true) ?_ ?_
    ·(intro w' hSw;(try dsimp only at hSw);go_simp;first | done | rfl | omega | (intro h9;omega) | (rw [IntKind.wrap_i64];omega))
    simp only [Act.put,tka,tkb,tkc]
    refine tkx 26 37 (.bool true) ?_ ?_
    ·(intro w' hSw;(try dsimp only at hSw);go_simp;first | done | rfl | omega | (intro h9;omega) | (rw [IntKind.wrap_i64];omega))
    simp only [Act.put,tka,tkb,tkc]
    refine wpAnyH_done (by kernel_rfl) ?_ _
    have bz:Below w.heap.size w w1:=Zh bu (Zh bd hb)
    clear hS0 hS1 hb c0 c1 c2 d0 bd hge
    go_wp2
    go_ret
    exact ⟨by rw [HR.out];rfl,bz⟩
   have HK2:Hid (∀ i,i<m+1+1→VB es i=true):=fun i hi=>by
    by_cases e:i=m+1
    ·rw [e,HS.out,hO,hT];rfl
    exact HK.out i (by omega)
   clear HS HK hcell
   replace d0:=ZE bw d0
   generalize es.getD (m+1) e3d=x at *
   generalize (es.getD m e3d).1=yk at *
   replace c0:=ZE bw c0
   replace c1:=ZE bw c1
   replace c2:=ZE bw c2
   replace g0:=ZE bw g0
   have kO:=fun W (hb:Below U.heap.size U W)=>Xe x s W (hm.below hb)
   obtain ⟨xk,xb,xz⟩:=x
   obtain ⟨⟨x1,xn1,xc1⟩,⟨x2,xn2,xc2⟩⟩:=s
   unfold ZR at kO
   rw [hO] at kO
   simp only at c0 c1 c2 kO
   have bd:Below U.heap.size U wr.drew:=Zh bw (by go_grown)
   rw [hT] at hge
   simp only [Bool.not_true] at hge
   clear hO hm hT
   go_wp2_with fail
   refine wp_region_held_drew (S:=(fun w'=>w'.cell? ⟨w.heap.size,0,none⟩=some (.slice (some ⟨b,off,none⟩) n cap)∧w'.cell? ⟨b,off+(m+1)*3,none⟩=some (.string xk)∧w'.cell? ⟨b,off+(m+1)*3+1,none⟩=some (.slice x1 xn1 xc1)∧w'.cell? ⟨b,off+(m+1)*3+2,none⟩=some (.slice x2 xn2 xc2)∧w'.cell? ⟨b,off+m*3,none⟩=some (.string yk))) (by kernel_rfl) ⟨g0,c0,c1,c2,d0⟩ (fun hS0=>?_)
   refine tkx 0 11 (.pointer (some ⟨w.heap.size,0,none⟩)) ?_ ?_
   ·(intro w' hSw;(try dsimp only at hSw);go_simp;first | done | rfl | omega | (intro h9;omega) | (rw [IntKind.wrap_i64];omega))
   simp only [Act.put,tka,tkb,tkc]
   refine tkx 1 12 (.slice (some ⟨b,off,none⟩) n cap) ?_ ?_
   ·(intro w' hSw;(try dsimp only at hSw);go_simp;first | done | rfl | omega | (intro h9;omega) | (rw [IntKind.wrap_i64];omega))
   simp only [Act.put,tka,tkb,tkc]
   refine tkx 2 13 (.int .i64 ((m+1:Nat):Int)) ?_ ?_
   ·(intro w' hSw;(try dsimp only at hSw);go_simp;first | done | rfl | omega | (intro h9;omega) | (rw [IntKind.wrap_i64];omega))
   simp only [Act.put,tka,tkb,tkc]
   refine tkx 3 14 (.pointer (some ⟨b,off+(m+1)*3,none⟩)) ?_ ?_
   ·(intro w' hSw;(try dsimp only at hSw);go_simp;first | done | rfl | omega | (intro h9;omega) | (rw [IntKind.wrap_i64];omega))
   simp only [Act.put,tka,tkb,tkc]
   refine tkx 4 15 (.agg #[.string xk,.slice x1 xn1 xc1,.slice x2 xn2 xc2]) ?_ ?_
   ·(intro w' hSw;(try dsimp only at hSw);go_simp;first | done | rfl | omega | (intro h9;omega) | (rw [IntKind.wrap_i64];omega))
   simp only [Act.put,tka,tkb,tkc]
   refine tkr 5 16 (fun K hK=>?_)
   go_simp
   refine (kO _ bd).mono ?_
   rintro e w1 ⟨rfl,hb⟩
   go_wp2_with fail
   refine hK.out _ _ ?_ (fun hS1=>?_)
   ·exact ⟨Za hb _ _ hS0.1,Za hb _ _ hS0.2.1,Za hb _ _ hS0.2.2.1,Za hb _ _ hS0.2.2.2.1,Za hb _ _ hS0.2.2.2.2⟩
   clear hK
   refine tkx 6 17 (.bool false) ?_ ?_
   ·(intro w' hSw;(try dsimp only at hSw);go_simp;first | done | rfl | omega | (intro h9;omega) | (rw [IntKind.wrap_i64];omega))
   simp only [Act.put,tka,tkb,tkc]
   refine tkx 7 18 (.bool false) ?_ ?_
   ·(intro w' hSw;(try dsimp only at hSw);go_simp;first | done | rfl | omega | (intro h9;omega) | (rw [IntKind.wrap_i64];omega))
   simp only [Act.put,tka,tkb,tkc]
   refine tkx 8 19 (.int .i64 ((m+1:Nat):Int)) ?_ ?_
   ·(intro w' hSw;(try dsimp only at hSw);go_simp;first | done | rfl | omega | (intro h9;omega) | (rw [IntKind.wrap_i64];omega))
   simp only [Act.put,tka,tkb,tkc]
   refine tkx 9 20 (.bool true) ?_ ?_
   ·(intro w' hSw;(try dsimp only at hSw);go_simp;first | done | rfl | omega | (intro h9;omega) | (rw [IntKind.wrap_i64];omega))
   simp only [Act.put,tka,tkb,tkc]
   refine tkx 10 21 (.bool true) ?_ ?_
   ·(intro w' hSw;(try dsimp only at hSw);go_simp;first | done | rfl | omega | (intro h9;omega) | (rw [IntKind.wrap_i64];omega))
   simp only [Act.put,tka,tkb,tkc]
   refine tkx 11 22 (.pointer (some ⟨w.heap.size,0,none⟩)) ?_ ?_
   ·(intro w' hSw;(try dsimp only at hSw);go_simp;first | done | rfl | omega | (intro h9;omega) | (rw [IntKind.wrap_i64];omega))
   simp only [Act.put,tka,tkb,tkc]
   refine tkx 12 23 (.slice (some ⟨b,off,none⟩) n cap) ?_ ?_
   ·(intro w' hSw;(try dsimp only at hSw);go_simp;first | done | rfl | omega | (intro h9;omega) | (rw [IntKind.wrap_i64];omega))
   simp only [Act.put,tka,tkb,tkc]
   refine tkx 13 24 (.int .i64 ((m+1:Nat):Int)) ?_ ?_
   ·(intro w' hSw;(try dsimp only at hSw);go_simp;first | done | rfl | omega | (intro h9;omega) | (rw [IntKind.wrap_i64];omega))
   simp only [Act.put,tka,tkb,tkc]
   refine tkx 14 25 (.int .i64 (m:Int)) ?_ ?_
   ·(intro w' hSw;(try dsimp only at hSw);go_simp;first | done | rfl | omega | (intro h9;omega) | (rw [IntKind.wrap_i64];omega))
   simp only [Act.put,tka,tkb,tkc]
   refine tkx 15 26 (.pointer (some ⟨b,off+m*3,none⟩)) ?_ ?_
   ·(intro w' hSw;(try dsimp only at hSw);go_simp;first | done | rfl | omega | (intro h9;omega) | (rw [IntKind.wrap_i64];omega))
   simp only [Act.put,tka,tkb,tkc]
   refine tkx 16 27 (.pointer (some ⟨b,off+m*3,none⟩)) ?_ ?_
   ·(intro w' hSw;(try dsimp only at hSw);go_simp;first | done | rfl | omega | (intro h9;omega) | (rw [IntKind.wrap_i64];omega))
   simp only [Act.put,tka,tkb,tkc]
   refine tkx 17 28 (.string yk) ?_ ?_
   ·(intro w' hSw;(try dsimp only at hSw);go_simp;first | done | rfl | omega | (intro h9;omega) | (rw [IntKind.wrap_i64];omega))
   simp only [Act.put,tka,tkb,tkc]
   refine tkx 18 29 (.pointer (some ⟨w.heap.size,0,none⟩)) ?_ ?_
   ·(intro w' hSw;(try dsimp only at hSw);go_simp;first | done | rfl | omega | (intro h9;omega) | (rw [IntKind.wrap_i64];omega))
   simp only [Act.put,tka,tkb,tkc]
   refine tkx 19 30 (.slice (some ⟨b,off,none⟩) n cap) ?_ ?_
   ·(intro w' hSw;(try dsimp only at hSw);go_simp;first | done | rfl | omega | (intro h9;omega) | (rw [IntKind.wrap_i64];omega))
   simp only [Act.put,tka,tkb,tkc]
   refine tkx 20 31 (.int .i64 ((m+1:Nat):Int)) ?_ ?_
   ·(intro w' hSw;(try dsimp only at hSw);go_simp;first | done | rfl | omega | (intro h9;omega) | (rw [IntKind.wrap_i64];omega))
   simp only [Act.put,tka,tkb,tkc]
   refine tkx 21 32 (.pointer (some ⟨b,off+(m+1)*3,none⟩)) ?_ ?_
   ·(intro w' hSw;(try dsimp only at hSw);go_simp;first | done | rfl | omega | (intro h9;omega) | (rw [IntKind.wrap_i64];omega))
   simp only [Act.put,tka,tkb,tkc]
   refine tkx 22 33 (.pointer (some ⟨b,off+(m+1)*3,none⟩)) ?_ ?_
   ·(intro w' hSw;(try dsimp only at hSw);go_simp;first | done | rfl | omega | (intro h9;omega) | (rw [IntKind.wrap_i64];omega))
   simp only [Act.put,tka,tkb,tkc]
   refine tkx 23 34 (.string xk) ?_ ?_
   ·(intro w' hSw;(try dsimp only at hSw);go_simp;first | done | rfl | omega | (intro h9;omega) | (rw [IntKind.wrap_i64];omega))
   simp only [Act.put,tka,tkb,tkc]
   refine tkx 24 35 (.bool false) ?_ ?_
   ·(intro w' hSw;(try dsimp only at hSw);go_simp;first | done | rfl | omega | (intro h9;omega) | (rw [IntKind.wrap_i64];omega))
   simp only [Act.put,tka,tkb,tkc]
   refine tkx 25 36 (.bool false) ?_ ?_
   ·(intro w' hSw;(try dsimp only at hSw);go_simp;first | done | rfl | omega | (intro h9;omega) | (rw [IntKind.wrap_i64];omega))
   simp only [Act.put,tka,tkb,tkc]
   refine tkx 26 37 (.bool false) ?_ ?_
   ·(intro w' hSw;(try dsimp only at hSw);go_simp;first | done | rfl | omega | (intro h9;omega) | (rw [IntKind.wrap_i64];omega))
   simp only [Act.put,tka,tkb,tkc]
   refine wpAnyH_done (by kernel_rfl) ?_ _
   have bz:Below U.heap.size U w1:=Zh bd hb
   clear hS0 hS1 hb c0 c1 c2 d0 bd hge
   go_wp2
   go_roundw
   case rel=>exact ⟨m+1+1,by omega,by go_num,HK2,bz⟩
   case measure=>simp [intOf];omega
  obtain rfl:k=n:=by omega
  have g1:=ZE bw g0
  by_cases h2:es.length≤2000
  ·have HR:Hid (fin=true):=by rw [Hid,HF.out,Xg (fun i hi=>HK.out i (by omega)),decide_eq_true h2];rfl
   have hle:decide ((k:Int)≤2000)=true:=by simp;omega
   clear HF HK hcase h2
   go_wp2
   go_ret
   exact ⟨by rw [HR.out];rfl,Zh bu bw⟩
  have HR:Hid (fin=false):=by rw [Hid,HF.out,decide_eq_false h2,Bool.and_false]
  have hle:decide ((k:Int)≤2000)=false:=by simp;omega
  clear HF HK hcase h2
  go_wp2
  go_ret
  exact ⟨by rw [HR.out];rfl,Zh bu bw⟩


theorem Ku (L:List EQ) (x:EQ):ZQ (L++[x])=ZQ L++Ya x.1.1 x.2:=by
 rw [Sp]
 simp [ZQ]


theorem Kv {L:List EQ} {k j:Nat} {u:Value} (h:(ZQ (L.take k))[j]?=some u):(ZQ L)[j]?=some u:=by
 obtain ⟨t,i,x,rfl,hi,hx,hu⟩:=Rh h
 have hx2:L[t]?=some x:=by
  rw [List.getElem?_take] at hx
  split at hx
  ·exact hx
  cases hx
 rw [WL hx2 hi]
 exact hu
theorem Kt {L:List EQ} {k j:Nat} {u:Value} (h:(ZQ (L.drop k))[j]?=some u):(ZQ L)[k*3+j]?=some u:=by
 obtain ⟨t,i,x,rfl,hi,hx,hu⟩:=Rh h
 have hx2:L[k+t]?=some x:=by rw [List.getElem?_drop] at hx;exact hx
 rw [show k*3+(t*3+i)=(k+t)*3+i by omega,WL hx2 hi]
 exact hu
theorem H4 {w:World} {a:Option Addr} {n c hi:Nat} {L:List EQ} (h:Xv w a n c L) (hz:a=none→c=0) (h2:hi≤n) :
  (∀ W,(Instr.slice 31 (.slice a n c) none (some (.int .i64 (hi:Int))) none).run Tryz.prog W=.ok (.slice a hi c) W)∧Xv w a hi c (L.take hi):=by
 obtain ⟨hl,hlc,hcm,hm,hcase⟩:=h
 have hhc:(hi:Int)≤(c:Int):=by omega
 refine ⟨fun W=>?_,by rw [List.length_take];omega,by omega,hcm,fun x hx=>hm x (List.mem_of_mem_take hx),?_⟩
 ·rcases a with _ | ⟨b,off,sp⟩
  ·have:=hz rfl
   subst this
   obtain rfl:hi=0:=by omega
   obtain rfl:n=0:=by omega
   go_simp
  go_simp
  try omega
 rcases hcase with h0 | ⟨b,off,ha,hb,hc⟩
 ·exact .inl (by omega)
 exact .inr ⟨b,off,ha,hb,fun j u hj=>hc j u (Kv hj)⟩
theorem N7 {w:World} {a:Option Addr} {n c lo:Nat} {L:List EQ} (h:Xv w a n c L) (hz:a=none→c=0) (h1:lo≤n) :
  ∃ a2,(∀ W,(Instr.slice 31 (.slice a n c) (some (.int .i64 (lo:Int))) none none).run Tryz.prog W=.ok (.slice a2 (n - lo) (c - lo)) W)∧Xv w a2 (n - lo) (c - lo) (L.drop lo)∧(a2=none→c - lo=0):=by
 obtain ⟨hl,hlc,hcm,hm,hcase⟩:=h
 have hlh:(lo:Int)≤(n:Int):=by omega
 rcases a with _ | ⟨b,off,sp⟩
 ·have:=hz rfl
  subst this
  obtain rfl:n=0:=by omega
  obtain rfl:lo=0:=by omega
  refine ⟨none,fun W=>?_,⟨by rw [List.length_drop];omega,by omega,by omega,fun x hx=>hm x (List.mem_of_mem_drop hx),.inl rfl⟩,fun _=>rfl⟩
  go_simp
 by_cases hz:c - lo=0
 ·refine ⟨some ⟨b,off,sp⟩,fun W=>?_,⟨by rw [List.length_drop];omega,by omega,by omega,fun x hx=>hm x (List.mem_of_mem_drop hx),.inl (by omega)⟩,fun h9=>by cases h9⟩
  go_simp
  try omega
 rcases hcase with h0 | ⟨b',off',ha,hb,hc⟩
 ·obtain rfl:lo=0:=by omega
  refine ⟨some ⟨b,off,sp⟩,fun W=>?_,⟨by rw [List.length_drop];omega,by omega,by omega,fun x hx=>hm x (List.mem_of_mem_drop hx),.inl (by omega)⟩,fun h9=>by cases h9⟩
  go_simp
  first | done | (intro _;unfold Addr.add;split<;>simp_all;done) | (unfold Addr.add;split<;>simp_all)
 cases ha
 refine ⟨some ⟨b,off+lo*3,none⟩,fun W=>?_,⟨by rw [List.length_drop];omega,by omega,by omega,fun x hx=>hm x (List.mem_of_mem_drop hx),.inr ⟨b,off+lo*3,rfl,hb,fun j u hj=>?_⟩⟩,fun h9=>by cases h9⟩
 ·go_simp
  omega
 rw [Nat.add_assoc]
 exact hc _ _ (Kt hj)


def UpE (es:List E3):Prop:=es.Pairwise (fun a b=>ltS a.1 b.1=true)
theorem UpE.lt {es:List E3} (h:UpE es) {j i:Nat} (hi:i<j) (hj:j<es.length):ltS (es.getD i e3d).1 (es.getD j e3d).1=true:=by
 rw [Y0 (show i<es.length by omega),Y0 hj]
 exact List.pairwise_iff_getElem.1 h i j (by omega) hj hi
structure UpR (es:List E3):Prop where
 up:UpE es
 few:es.length≤2000
theorem UpR.lt {es:List E3} (h:UpR es) {j i:Nat} (hi:i<j) (hj:j<es.length):ltS (es.getD i e3d).1 (es.getD j e3d).1=true:=h.up.lt hi hj
theorem Lp {es:List E3} (h:Yu es=true):UpR es:=⟨(Vf.1 h).2.1,Xs h⟩
theorem P3:UpR []:=⟨List.Pairwise.nil,by simp⟩
theorem GK {es:List E3} (h:UpE es) {t:Nat} (ht:t<es.length):ZY es (es.getD t e3d).1=t∧isE es (es.getD t e3d).1=true:=by
 have hp:ZY es (es.getD t e3d).1=t:=S6 (fun i hi=>h.lt hi ht) (by omega) (fun _=>WF _)
 refine ⟨hp,?_⟩
 rw [isE,hp,decide_eq_true ht,decide_eq_true rfl]
 rfl
theorem XD {es:List E3} (h:UpE es) {k:ByteArray}:isE es k=true↔∃ e ∈ es,e.1=k:=by
 constructor
 ·intro hi
  simp only [isE,Bool.and_eq_true,decide_eq_true_eq] at hi
  refine ⟨es.getD (ZY es k) e3d,?_,hi.2⟩
  rw [Y0 hi.1]
  exact List.getElem_mem _
 rintro ⟨e,he,rfl⟩
 obtain ⟨t,ht,rfl⟩:=List.getElem_of_mem he
 rw [← Y0 ht]
 exact (GK h ht).2
theorem PS {es:List E3} (h:UpE es) {k:ByteArray} {i:Nat} (hi:ZY es k≤i) (hl:i<es.length):ltS (es.getD i e3d).1 k=false:=by
 by_cases e:i=ZY es k
 ·rw [e];exact Vj (by omega)
 cases hc:ltS (es.getD i e3d).1 k
 ·rfl
 have:=XN (h.lt (i:=ZY es k) (j:=i) (by omega) hl) hc
 rw [Vj (by omega)] at this
 cases this
theorem TJ {es:List E3} (h:UpE es) {k:ByteArray} {t:Nat} (h1:(if isE es k then ZY es k+1 else ZY es k)≤t) (ht:t<es.length):ltS k (es.getD t e3d).1=true:=by
 cases hc:isE es k
 ·rw [hc] at h1
  simp at h1
  cases hk:ltS k (es.getD t e3d).1
  ·have:=QQ (PS h h1 ht) hk
   have hi:=(XD h (k:=k)).2 ⟨es.getD t e3d,by rw [Y0 ht];exact List.getElem_mem _,this⟩
   rw [hc] at hi
   cases hi
  rfl
 rw [hc] at h1
 simp at h1
 simp only [isE,Bool.and_eq_true,decide_eq_true_eq] at hc
 have:=h.lt (i:=ZY es k) (j:=t) (by omega) ht
 rw [hc.2] at this
 exact this
theorem RO {es:List E3} {e:E3} (h:UpE es):UpE (Xc es e):=by
 unfold Xc UpE
 rw [List.pairwise_append,List.pairwise_append]
 refine ⟨⟨h.sublist (List.take_sublist _ _),by simp,?_⟩,h.sublist (List.drop_sublist _ _),?_⟩
 ·intro a ha b hb
  simp only [List.mem_singleton] at hb
  subst hb
  obtain ⟨t,h1,h2,rfl⟩:=Vg ha
  exact XR h1
 intro a ha b hb
 obtain ⟨t,h1,h2,rfl⟩:=Sc hb
 have hk:=TJ h h1 h2
 simp only [List.mem_append,List.mem_singleton] at ha
 rcases ha with ha | rfl
 ·obtain ⟨t',h3,h4,rfl⟩:=Vg ha
  exact XN (XR h3) hk
 exact hk
theorem L0 {es:List E3} {e:E3} (h:UpR es) (hr:isE es e.1=true∨es.length<2000):UpR (Xc es e):=by
 refine ⟨RO h.up,?_⟩
 rw [TK]
 rcases hr with h9 | h9
 ·rw [if_pos h9];exact h.few
 have:=h.few
 split<;>omega
theorem Vk {es:List E3} {e x:E3} (hx:x ∈ Xc es e):x=e∨x ∈ es:=by
 unfold Xc at hx
 simp only [List.mem_append,List.mem_singleton] at hx
 rcases hx with (hx | hx) | hx
 ·exact .inr (List.mem_of_mem_take hx)
 ·exact .inl hx
 exact .inr (List.mem_of_mem_drop hx)
theorem NY {es:List E3} {e x:E3} (hn:isE es e.1=false):x ∈ Xc es e↔x=e∨x ∈ es:=by
 unfold Xc
 rw [hn]
 simp only [List.mem_append,List.mem_singleton,Bool.false_eq_true,if_false]
 constructor
 ·rintro ((h | h) | h)
  ·exact .inr (List.mem_of_mem_take h)
  ·exact .inl h
  exact .inr (List.mem_of_mem_drop h)
 rintro (h | h)
 ·exact .inl (.inr h)
 rw [← List.take_append_drop (ZY es e.1) es] at h
 rcases List.mem_append.1 h with h | h
 ·exact .inl (.inl h)
 exact .inr h


theorem Wr (a:Option Addr) (n cap:Nat) (es:List E3) (key:ByteArray) (w:World) (h:Yo w a n cap es) (hok:UpR es) :
  Calls Tryz.prog 167 #[.agg #[.slice a n cap],.string key] w fun e w'=>e=.returned (.tuple #[.int .i64 (ZY es key),.bool (isE es key)])∧Below w.heap.size w w':=by
 have bu:Below w.heap.size w (w.alloc (.cells #[.slice a n cap] 33)):=by go_grown
 have g0:(w.alloc (.cells #[.slice a n cap] 33)).cell? ⟨w.heap.size,0,none⟩=some (.slice a n cap):=by first | (simp [go_sem];done) | (simp [World.cell?];done)
 replace h:=h.below bu
 have hn2:=hok.few
 obtain ⟨hl,hlc,hcm,hcase⟩:=h
 rw [hl] at hn2
 unfold maxLen at hcm
 obtain ⟨pl,hpl⟩:∃ pl,pl=ZY es key:=⟨_,rfl⟩
 obtain ⟨fb,hfb⟩:∃ fb,fb=isE es key:=⟨_,rfl⟩
 rw [← hpl,← hfb]
 have HPL:Hid (pl=ZY es key):=hpl
 have HFB:Hid (fb=isE es key):=hfb
 clear hpl hfb
 go_enter Tryz.func167,Tryz.ntmps167
 go_wp2_with fail
 generalize (w.alloc (.cells #[.slice a n cap] 33))=U at *
 go_loopw [6,7] (fun sl sh wr=>∃ lo hi:Nat,lo≤hi∧hi≤n∧sl=.int .i64 lo∧sh=.int .i64 hi∧Hid ((∀ i,i<lo→ltS (es.getD i e3d).1 key=true)∧∀ i,hi≤i→i<n→ltS (es.getD i e3d).1 key=false)∧U=wr) (fun sl sh _=>(intOf sh).toNat - (intOf sl).toNat)
 case atStart=>exact ⟨0,n,by omega,by omega,rfl,rfl,⟨fun i hi=>by omega,fun i h1 h2=>by omega⟩,rfl⟩
 case round =>
  obtain ⟨lo,hi,h1,h2,rfl,rfl,HK,rfl⟩:=hrel
  by_cases hlt:lo<hi
  ·rcases hcase with e0 | ⟨b,off,rfl,hblt,hcell⟩
   ·omega
   obtain ⟨m,hm⟩:∃ m,m=(lo+hi) / 2:=⟨_,rfl⟩
   have hm1:lo≤m:=by omega
   have hm2:m<hi:=by omega
   have hq:((lo:Int)+(hi:Int)).tdiv 2=(m:Int):=by rw [Int.tdiv_eq_ediv_of_nonneg (by omega)];omega
   have hw1:IntKind.i64.wrap ((lo:Int)+(hi:Int))=(lo:Int)+(hi:Int):=by rw [IntKind.wrap_i64];omega
   have hw2:IntKind.i64.wrap (m:Int)=(m:Int):=by rw [IntKind.wrap_i64];omega
   clear hm
   obtain ⟨s,c0,_⟩:=hcell m (by omega)
   have hlt2:(lo:Int)<(hi:Int):=by omega
   have hmn:(m:Int)<(n:Int):=by omega
   have hm0:(0:Int)≤(m:Int):=by omega
   cases hT:ltS (es.getD m e3d).1 key
   ·have HK2:Hid ((∀ i,i<lo→ltS (es.getD i e3d).1 key=true)∧∀ i,m≤i→i<n→ltS (es.getD i e3d).1 key=false):=⟨HK.out.1,fun i h3 h4=>by
     by_cases e:i=m
     ·rw [e];exact hT
     cases hc:ltS (es.getD i e3d).1 key
     ·rfl
     have:=XN (hok.lt (i:=m) (j:=i) (by omega) (by omega)) hc
     rw [hT] at this
     cases this⟩
    generalize (es.getD m e3d).1=xk at *
    unfold ltS at hT
    clear HK hcell
    go_wp2
    go_roundw
    case rel=>exact ⟨lo,m,by omega,by omega,rfl,rfl,HK2,by first | rfl | trivial⟩
    case measure=>simp [intOf];omega
   have HK2:Hid ((∀ i,i<m+1→ltS (es.getD i e3d).1 key=true)∧∀ i,hi≤i→i<n→ltS (es.getD i e3d).1 key=false):=⟨fun i h3=>by
    by_cases e:i=m
    ·rw [e];exact hT
    exact XN (hok.lt (i:=i) (j:=m) (by omega) (by omega)) hT,HK.out.2⟩
   generalize (es.getD m e3d).1=xk at *
   unfold ltS at hT
   clear HK hcell
   go_wp2
   go_roundw
   case rel=>exact ⟨m+1,hi,by omega,by omega,by go_num,rfl,HK2,by first | rfl | trivial⟩
   case measure=>simp [intOf];omega
  obtain rfl:lo=hi:=by omega
  have hp:ZY es key=lo:=S6 HK.out.1 (by omega) (fun h3=>HK.out.2 lo (Nat.le_refl _) (by omega))
  have HI:Hid (isE es key=(decide (lo<n) && decide ((es.getD lo e3d).1=key))):=by rw [Hid,isE,hp,hl]
  rw [← HFB.out] at HI
  have HP:Hid (pl=lo):=by rw [Hid,HPL.out];exact hp
  clear HK hp HPL HFB
  have hll:¬ (lo:Int)<(lo:Int):=by omega
  have hb0:(0:Int)≤(lo:Int):=by omega
  have bd:Below U.heap.size U U.drew:=by go_grown
  by_cases hln:lo<n
  ·rcases hcase with e0 | ⟨b,off,rfl,hblt,hcell⟩
   ·omega
   obtain ⟨s,c0,_⟩:=hcell lo hln
   have hln2:(lo:Int)<(n:Int):=by omega
   have g1:=g0
   by_cases hE:(es.getD lo e3d).1=key
   ·have HR:Hid (fb=true):=by rw [Hid,HI.out,decide_eq_true hln,decide_eq_true hE];rfl
    clear HI hcell
    generalize (es.getD lo e3d).1=xk at *
    have hee:(xk.toList == key.toList)=true:=by rw [hE];simp
    clear hE
    go_wp2_with fail
    refine wp_region_held_drew (S:=(fun w'=>w'.cell? ⟨w.heap.size,0,none⟩=some (.slice (some ⟨b,off,none⟩) n cap)∧w'.cell? ⟨b,off+lo*3,none⟩=some (.string xk))) (by kernel_rfl) ⟨g1,c0⟩ (fun hS0=>?_)
    refine tkx 0 30 (.int .i64 (lo:Int)) ?_ ?_
    ·(intro w' hSw;(try dsimp only at hSw);go_simp;first | done | rfl | omega | (intro h9;omega))
    simp only [Act.put,tka,tkb,tkc]
    refine tkx 1 31 (.int .i64 (lo:Int)) ?_ ?_
    ·(intro w' hSw;(try dsimp only at hSw);go_simp;first | done | rfl | omega | (intro h9;omega))
    simp only [Act.put,tka,tkb,tkc]
    refine tkx 2 32 (.pointer (some ⟨w.heap.size,0,none⟩)) ?_ ?_
    ·(intro w' hSw;(try dsimp only at hSw);go_simp;first | done | rfl | omega | (intro h9;omega))
    simp only [Act.put,tka,tkb,tkc]
    refine tkx 3 33 (.slice (some ⟨b,off,none⟩) n cap) ?_ ?_
    ·(intro w' hSw;(try dsimp only at hSw);go_simp;first | done | rfl | omega | (intro h9;omega))
    simp only [Act.put,tka,tkb,tkc]
    refine tkx 4 34 (.int .i64 (n:Int)) ?_ ?_
    ·(intro w' hSw;(try dsimp only at hSw);go_simp;first | done | rfl | omega | (intro h9;omega))
    simp only [Act.put,tka,tkb,tkc]
    refine tkx 5 35 (.bool true) ?_ ?_
    ·(intro w' hSw;(try dsimp only at hSw);go_simp;first | done | rfl | omega | (intro h9;omega))
    simp only [Act.put,tka,tkb,tkc]
    refine tkx 6 36 (.bool true) ?_ ?_
    ·(intro w' hSw;(try dsimp only at hSw);go_simp;first | done | rfl | omega | (intro h9;omega))
    simp only [Act.put,tka,tkb,tkc]
    refine tkx 7 37 (.pointer (some ⟨w.heap.size,0,none⟩)) ?_ ?_
    ·(intro w' hSw;(try dsimp only at hSw);go_simp;first | done | rfl | omega | (intro h9;omega))
    simp only [Act.put,tka,tkb,tkc]
    refine tkx 8 38 (.slice (some ⟨b,off,none⟩) n cap) ?_ ?_
    ·(intro w' hSw;(try dsimp only at hSw);go_simp;first | done | rfl | omega | (intro h9;omega))
    simp only [Act.put,tka,tkb,tkc]
    refine tkx 9 39 (.int .i64 (lo:Int)) ?_ ?_
    ·(intro w' hSw;(try dsimp only at hSw);go_simp;first | done | rfl | omega | (intro h9;omega))
    simp only [Act.put,tka,tkb,tkc]
    refine tkx 10 40 (.pointer (some ⟨b,off+lo*3,none⟩)) ?_ ?_
    ·(intro w' hSw;(try dsimp only at hSw);go_simp;first | done | rfl | omega | (intro h9;omega))
    simp only [Act.put,tka,tkb,tkc]
    refine tkx 11 41 (.pointer (some ⟨b,off+lo*3,none⟩)) ?_ ?_
    ·(intro w' hSw;(try dsimp only at hSw);go_simp;first | done | rfl | omega | (intro h9;omega))
    simp only [Act.put,tka,tkb,tkc]
    refine tkx 12 42 (.string xk) ?_ ?_
    ·(intro w' hSw;(try dsimp only at hSw);go_simp;first | done | rfl | omega | (intro h9;omega))
    simp only [Act.put,tka,tkb,tkc]
    refine tkx 13 43 (.string key) ?_ ?_
    ·(intro w' hSw;(try dsimp only at hSw);go_simp;first | done | rfl | omega | (intro h9;omega))
    simp only [Act.put,tka,tkb,tkc]
    refine tkx 14 44 (.bool true) ?_ ?_
    ·(intro w' hSw;(try dsimp only at hSw);go_simp;first | done | rfl | omega | (intro h9;omega))
    simp only [Act.put,tka,tkb,tkc]
    refine tkx 15 45 (.bool true) ?_ ?_
    ·(intro w' hSw;(try dsimp only at hSw);go_simp;first | done | rfl | omega | (intro h9;omega))
    simp only [Act.put,tka,tkb,tkc]
    refine tkx 16 4 (.int .i64 (lo:Int)) ?_ ?_
    ·(intro w' hSw;(try dsimp only at hSw);go_simp;first | done | rfl | omega | (intro h9;omega))
    simp only [Act.put,tka,tkb,tkc]
    refine tkx 17 5 (.bool true) ?_ ?_
    ·(intro w' hSw;(try dsimp only at hSw);go_simp;first | done | rfl | omega | (intro h9;omega))
    simp only [Act.put,tka,tkb,tkc]
    refine wpAnyH_done (by kernel_rfl) ?_ _
    have bz:=Zh bu bd
    clear hS0 c0 g1 bd
    go_wp2
    go_ret2
    exact ⟨by rw [HR.out,HP.out];rfl,bz⟩
   have HR:Hid (fb=false):=by rw [Hid,HI.out,decide_eq_false hE,Bool.and_false]
   clear HI hcell
   generalize (es.getD lo e3d).1=xk at *
   have hee:(xk.toList == key.toList)=false:=by
    cases hc:(xk.toList == key.toList)
    ·rfl
    exact absurd (WP (by simpa using hc)) hE
   clear hE
   go_wp2_with fail
   refine wp_region_held_drew (S:=(fun w'=>w'.cell? ⟨w.heap.size,0,none⟩=some (.slice (some ⟨b,off,none⟩) n cap)∧w'.cell? ⟨b,off+lo*3,none⟩=some (.string xk))) (by kernel_rfl) ⟨g1,c0⟩ (fun hS0=>?_)
   refine tkx 0 30 (.int .i64 (lo:Int)) ?_ ?_
   ·(intro w' hSw;(try dsimp only at hSw);go_simp;first | done | rfl | omega | (intro h9;omega))
   simp only [Act.put,tka,tkb,tkc]
   refine tkx 1 31 (.int .i64 (lo:Int)) ?_ ?_
   ·(intro w' hSw;(try dsimp only at hSw);go_simp;first | done | rfl | omega | (intro h9;omega))
   simp only [Act.put,tka,tkb,tkc]
   refine tkx 2 32 (.pointer (some ⟨w.heap.size,0,none⟩)) ?_ ?_
   ·(intro w' hSw;(try dsimp only at hSw);go_simp;first | done | rfl | omega | (intro h9;omega))
   simp only [Act.put,tka,tkb,tkc]
   refine tkx 3 33 (.slice (some ⟨b,off,none⟩) n cap) ?_ ?_
   ·(intro w' hSw;(try dsimp only at hSw);go_simp;first | done | rfl | omega | (intro h9;omega))
   simp only [Act.put,tka,tkb,tkc]
   refine tkx 4 34 (.int .i64 (n:Int)) ?_ ?_
   ·(intro w' hSw;(try dsimp only at hSw);go_simp;first | done | rfl | omega | (intro h9;omega))
   simp only [Act.put,tka,tkb,tkc]
   refine tkx 5 35 (.bool true) ?_ ?_
   ·(intro w' hSw;(try dsimp only at hSw);go_simp;first | done | rfl | omega | (intro h9;omega))
   simp only [Act.put,tka,tkb,tkc]
   refine tkx 6 36 (.bool true) ?_ ?_
   ·(intro w' hSw;(try dsimp only at hSw);go_simp;first | done | rfl | omega | (intro h9;omega))
   simp only [Act.put,tka,tkb,tkc]
   refine tkx 7 37 (.pointer (some ⟨w.heap.size,0,none⟩)) ?_ ?_
   ·(intro w' hSw;(try dsimp only at hSw);go_simp;first | done | rfl | omega | (intro h9;omega))
   simp only [Act.put,tka,tkb,tkc]
   refine tkx 8 38 (.slice (some ⟨b,off,none⟩) n cap) ?_ ?_
   ·(intro w' hSw;(try dsimp only at hSw);go_simp;first | done | rfl | omega | (intro h9;omega))
   simp only [Act.put,tka,tkb,tkc]
   refine tkx 9 39 (.int .i64 (lo:Int)) ?_ ?_
   ·(intro w' hSw;(try dsimp only at hSw);go_simp;first | done | rfl | omega | (intro h9;omega))
   simp only [Act.put,tka,tkb,tkc]
   refine tkx 10 40 (.pointer (some ⟨b,off+lo*3,none⟩)) ?_ ?_
   ·(intro w' hSw;(try dsimp only at hSw);go_simp;first | done | rfl | omega | (intro h9;omega))
   simp only [Act.put,tka,tkb,tkc]
   refine tkx 11 41 (.pointer (some ⟨b,off+lo*3,none⟩)) ?_ ?_
   ·(intro w' hSw;(try dsimp only at hSw);go_simp;first | done | rfl | omega | (intro h9;omega))
   simp only [Act.put,tka,tkb,tkc]
   refine tkx 12 42 (.string xk) ?_ ?_
   ·(intro w' hSw;(try dsimp only at hSw);go_simp;first | done | rfl | omega | (intro h9;omega))
   simp only [Act.put,tka,tkb,tkc]
   refine tkx 13 43 (.string key) ?_ ?_
   ·(intro w' hSw;(try dsimp only at hSw);go_simp;first | done | rfl | omega | (intro h9;omega))
   simp only [Act.put,tka,tkb,tkc]
   refine tkx 14 44 (.bool false) ?_ ?_
   ·(intro w' hSw;(try dsimp only at hSw);go_simp;first | done | rfl | omega | (intro h9;omega))
   simp only [Act.put,tka,tkb,tkc]
   refine tkx 15 45 (.bool false) ?_ ?_
   ·(intro w' hSw;(try dsimp only at hSw);go_simp;first | done | rfl | omega | (intro h9;omega))
   simp only [Act.put,tka,tkb,tkc]
   refine tkx 16 4 (.int .i64 (lo:Int)) ?_ ?_
   ·(intro w' hSw;(try dsimp only at hSw);go_simp;first | done | rfl | omega | (intro h9;omega))
   simp only [Act.put,tka,tkb,tkc]
   refine tkx 17 5 (.bool false) ?_ ?_
   ·(intro w' hSw;(try dsimp only at hSw);go_simp;first | done | rfl | omega | (intro h9;omega))
   simp only [Act.put,tka,tkb,tkc]
   refine wpAnyH_done (by kernel_rfl) ?_ _
   have bz:=Zh bu bd
   clear hS0 c0 g1 bd
   go_wp2
   go_ret2
   exact ⟨by rw [HR.out,HP.out];rfl,bz⟩
  have HR:Hid (fb=false):=by rw [Hid,HI.out,decide_eq_false hln,Bool.false_and]
  have hln2:¬ (lo:Int)<(n:Int):=by omega
  have g1:=g0
  clear HI hcase
  go_wp2_with fail
  refine wp_region_held_drew (S:=(fun w'=>w'.cell? ⟨w.heap.size,0,none⟩=some (.slice a n cap))) (by kernel_rfl) g1 (fun hS0=>?_)
  refine tkx 0 30 (.int .i64 (lo:Int)) ?_ ?_
  ·(intro w' hSw;(try dsimp only at hSw);go_simp;first | done | rfl | omega | (intro h9;omega))
  simp only [Act.put,tka,tkb,tkc]
  refine tkx 1 31 (.int .i64 (lo:Int)) ?_ ?_
  ·(intro w' hSw;(try dsimp only at hSw);go_simp;first | done | rfl | omega | (intro h9;omega))
  simp only [Act.put,tka,tkb,tkc]
  refine tkx 2 32 (.pointer (some ⟨w.heap.size,0,none⟩)) ?_ ?_
  ·(intro w' hSw;(try dsimp only at hSw);go_simp;first | done | rfl | omega | (intro h9;omega))
  simp only [Act.put,tka,tkb,tkc]
  refine tkx 3 33 (.slice a n cap) ?_ ?_
  ·(intro w' hSw;(try dsimp only at hSw);go_simp;first | done | rfl | omega | (intro h9;omega))
  simp only [Act.put,tka,tkb,tkc]
  refine tkx 4 34 (.int .i64 (n:Int)) ?_ ?_
  ·(intro w' hSw;(try dsimp only at hSw);go_simp;first | done | rfl | omega | (intro h9;omega))
  simp only [Act.put,tka,tkb,tkc]
  refine tkx 5 35 (.bool false) ?_ ?_
  ·(intro w' hSw;(try dsimp only at hSw);go_simp;first | done | rfl | omega | (intro h9;omega))
  simp only [Act.put,tka,tkb,tkc]
  refine tkx 6 36 (.bool false) ?_ ?_
  ·(intro w' hSw;(try dsimp only at hSw);go_simp;first | done | rfl | omega | (intro h9;omega))
  simp only [Act.put,tka,tkb,tkc]
  refine tku 7 37 ?_
  refine tku 8 38 ?_
  refine tku 9 39 ?_
  refine tku 10 40 ?_
  refine tku 11 41 ?_
  refine tku 12 42 ?_
  refine tku 13 43 ?_
  refine tku 14 44 ?_
  refine tkx 15 45 (.bool false) ?_ ?_
  ·(intro w' hSw;(try dsimp only at hSw);go_simp;first | done | rfl | omega | (intro h9;omega))
  simp only [Act.put,tka,tkb,tkc]
  refine tkx 16 4 (.int .i64 (lo:Int)) ?_ ?_
  ·(intro w' hSw;(try dsimp only at hSw);go_simp;first | done | rfl | omega | (intro h9;omega))
  simp only [Act.put,tka,tkb,tkc]
  refine tkx 17 5 (.bool false) ?_ ?_
  ·(intro w' hSw;(try dsimp only at hSw);go_simp;first | done | rfl | omega | (intro h9;omega))
  simp only [Act.put,tka,tkb,tkc]
  refine wpAnyH_done (by kernel_rfl) ?_ _
  have bz:=Zh bu bd
  clear hS0 g1 bd
  go_wp2
  go_ret2
  exact ⟨by rw [HR.out,HP.out];rfl,bz⟩
end Go.Proofs.YtnffeclgboomoaaGreatDoor
