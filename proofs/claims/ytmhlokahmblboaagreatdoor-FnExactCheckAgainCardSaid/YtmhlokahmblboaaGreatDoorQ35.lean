/-
  Joined: EsB, KpsI, EntS, MemR, EsP.
-/
import Derived.Test.YtmhlokahmblboaaGreatDoorQ34

namespace Go.Proofs.YtmhlokahmblboaaGreatDoor
set_option maxRecDepth 100000
set_option maxHeartbeats 16000000
open Go.RowKit
set_option linter.unusedVariables false
set_option linter.unusedSimpArgs false

theorem KL (s:ByteArray) (w:World) (hs:s.size≤maxLen) (h15:s.size≠15) :
  Calls Tryz.prog 76 #[.string s] w fun e w'=>VN e w' w.heap.size ([],[],[],[]) false∧Below w.heap.size w w':=by
 unfold maxLen at hs
 have kN:=VH
 have bw:Below w.heap.size w (w.alloc (.cells #[.slice none 0 0,.slice none 0 0,.slice none 0 0,.slice none 0 0] 74)):=by go_grown
 have pR:=Blk.new w 74 [.slice none 0 0,.slice none 0 0,.slice none 0 0,.slice none 0 0]
 have hne:((s.size:Int) != 15)=true:=by simp;omega
 go_enter Tryz.func76,Tryz.ntmps76
 go_wp2_with fail
 refine (kN _).mono ?_
 rintro e w1 ⟨⟨t,rfl,hO⟩,hb⟩
 obtain ⟨g0,g1,g2,g3,c0,c1,c2,c3,rfl,_⟩:=VB hO
 have uX:S4.val ((some ⟨g0,0,none⟩,3,c0),(some ⟨g1,0,none⟩,4,c1),(some ⟨g2,0,none⟩,2,c2),(some ⟨g3,0,none⟩,6,c3))=.agg #[.slice (some ⟨g0,0,none⟩) 3 c0,.slice (some ⟨g1,0,none⟩) 4 c1,.slice (some ⟨g2,0,none⟩) 2 c2,.slice (some ⟨g3,0,none⟩) 6 c3]:=rfl
 rw [uX]
 clear uX
 have bA:Below w1.heap.size w1 (w1.alloc (.cells #[.slice (some ⟨g0,0,none⟩) 3 c0,.slice (some ⟨g1,0,none⟩) 4 c1,.slice (some ⟨g2,0,none⟩) 2 c2,.slice (some ⟨g3,0,none⟩) 6 c3] 74)):=by go_grown
 have hgS:w.heap.size<w1.heap.size:=Nat.lt_of_lt_of_le (by simp) hb.size
 replace bw:=Zb bw (Zb hb bA)
 replace pR:=pR.below (Zb hb bA)
 clear hb bA kN hO
 go_wp2_with (refine Zd rfl 74 _ _ rfl w.heap.size [.slice none 0 0,.slice none 0 0,.slice none 0 0,.slice none 0 0] rfl rfl pR (by kernel_rfl) rfl rfl ?_)
 intro w4 pR4 g4
 replace bw:=bw.grown g4 bw.size (fun x hx=>by cases hx;omega)
 clear g4
 go_wp2_with fail
 refine bodyPost_ret (Zu Tryz.results76 _ _ _ _ _ _ rfl pR4.out Tryz.underlying74 rfl (by kernel_rfl)) rfl ?_
 exact ⟨VN.mk9 ((none,0,0),(none,0,0),(none,0,0),(none,0,0)) rfl (Vo _ _),bw⟩

theorem KK (s:ByteArray) (w:World) (hs:s.size≤maxLen) :
  Calls Tryz.prog 76 #[.string s] w fun e w'=>(∃ z,VN e w' w.heap.size z (Y1 s))∧Below w.heap.size w w':=by
 by_cases h15:s.size=15
 ·refine (J3 s w h15).mono ?_
  rintro e w' ⟨⟨z,b,hv,hb⟩,hB⟩
  have e9:Y1 s=b:=by unfold Y1;rw [decide_eq_true h15,hb.1];rfl
  rw [e9]
  exact ⟨⟨z,hv⟩,hB⟩
 refine (KL s w hs h15).mono ?_
 rintro e w' ⟨hv,hB⟩
 have e9:Y1 s=false:=by unfold Y1;rw [decide_eq_false h15];rfl
 rw [e9]
 exact ⟨⟨_,hv⟩,hB⟩

theorem XN (e:E3) (s:Sl2) (w:World) (h:YL w s e) :
  Calls Tryz.prog 99 #[ZU e.1 s] w fun x w'=>x=.returned (.bool (Wi e))∧Below w.heap.size w w':=by
 obtain ⟨⟨hk,_⟩,hB,hF,hfw⟩:=h
 have l1:=hB.1
 obtain ⟨ek,eb,ez⟩:=e
 obtain ⟨⟨a1,n1,c1⟩,⟨a2,n2,c2⟩⟩:=s
 unfold ZU
 simp only at *
 have kK:=fun W=>KK ek W hk
 have kR:=fun W (hb:Below w.heap.size w W)=>PQ a1 n1 c1 eb W (hB.below hb)
 have kI:=fun W (hb:Below w.heap.size w W)=>NM a2 n2 c2 ez W (hF.below hb) hfw
 have bw:Below w.heap.size w (w.alloc (.cells #[.string ek,.slice a1 n1 c1,.slice a2 n2 c2] 109)):=by go_grown
 have pA:Blk (w.alloc (.cells #[.string ek,.slice a1 n1 c1,.slice a2 n2 c2] 109)) w.heap.size 109 [.string ek,.slice a1 n1 c1,.slice a2 n2 c2]:=Zh _ _ _ rfl
 obtain ⟨fin,hfin⟩:∃ fin,fin=Wi (ek,eb,ez):=⟨_,rfl⟩
 rw [← hfin]
 have HF:Hid (fin=(Y1 ek && (Ws eb && (Vr ez && decide (eb.length≤30))))):=hfin
 clear hfin hB hF hfw
 go_enter Tryz.func99,Tryz.ntmps99
 go_wp2_with fail
 refine (kK _).mono ?_
 rintro x w1 ⟨⟨z,⟨⟨t0a,t0n,t0c⟩,⟨t1a,t1n,t1c⟩,⟨t2a,t2n,t2c⟩,⟨t3a,t3n,t3c⟩⟩,rfl,_⟩,hb⟩
 have ut:S4.val ((t0a,t0n,t0c),(t1a,t1n,t1c),(t2a,t2n,t2c),(t3a,t3n,t3c))=.agg #[.slice t0a t0n t0c,.slice t1a t1n t1c,.slice t2a t2n t2c,.slice t3a t3n t3c]:=rfl
 rw [ut]
 clear ut kK
 have bA:Below w1.heap.size w1 (w1.alloc (.cells #[.slice t0a t0n t0c,.slice t1a t1n t1c,.slice t2a t2n t2c,.slice t3a t3n t3c] 74)):=by go_grown
 replace bw:=Zm bw (Zm hb bA)
 replace pA:=pA.below (Zm hb bA)
 clear hb bA
 have y1:=pA.cell 1
 simp only [List.getElem?_cons_zero,List.getElem?_cons_succ] at y1
 cases hK:Y1 ek
 ·have HR:Hid (fin=false):=by rw [Hid,HF.out,hK];rfl
  clear HF hK kR kI
  go_wp2
  go_ret
  exact ⟨by rw [HR.out];rfl,bw⟩
 go_wp2_with fail
 generalize (w1.alloc (.cells #[.slice t0a t0n t0c,.slice t1a t1n t1c,.slice t2a t2n t2c,.slice t3a t3n t3c] 74))=U at *
 refine (kR _ bw).mono ?_
 rintro x w2 ⟨rfl,hb⟩
 replace bw:=Zm bw hb
 replace pA:=pA.below hb
 clear hb kR y1
 have y1:=pA.cell 1
 have y2:=pA.cell 2
 simp only [List.getElem?_cons_zero,List.getElem?_cons_succ] at y1 y2
 cases hR:Ws eb
 ·have HR:Hid (fin=false):=by rw [Hid,HF.out,hK,hR];rfl
  clear HF hK hR kI
  go_wp2
  go_ret
  exact ⟨by rw [HR.out];rfl,bw⟩
 go_wp2_with fail
 refine (kI _ bw).mono ?_
 rintro x w3 ⟨rfl,hb⟩
 replace bw:=Zm bw hb
 replace pA:=pA.below hb
 clear hb kI y1 y2
 have y1:=pA.cell 1
 simp only [List.getElem?_cons_zero,List.getElem?_cons_succ] at y1
 cases hI:Vr ez
 ·have HR:Hid (fin=false):=by rw [Hid,HF.out,hK,hR,hI];rfl
  clear HF hK hR hI
  go_wp2
  go_ret
  exact ⟨by rw [HR.out];rfl,bw⟩
 by_cases h30:eb.length≤30
 ·have HR:Hid (fin=true):=by rw [Hid,HF.out,hK,hR,hI,decide_eq_true h30];rfl
  have hle:decide ((n1:Int)≤30)=true:=by simp;omega
  clear HF hK hR hI h30
  go_wp2
  go_ret
  exact ⟨by rw [HR.out];rfl,bw⟩
 have HR:Hid (fin=false):=by rw [Hid,HF.out,hK,hR,hI,decide_eq_false h30];rfl
 have hle:decide ((n1:Int)≤30)=false:=by simp;omega
 clear HF hK hR hI h30
 go_wp2
 go_ret
 exact ⟨by rw [HR.out];rfl,bw⟩

theorem FK (t:TypeId) (a b:ByteArray):Go.binOp .geq t (.string a) (.string b)=pure (.bool !ltS a b):=by simp [Go.binOp,Go.Op.stringOp,ltS]

theorem QB (a:Option Addr) (n cap:Nat) (es:List E3) (w:World) (h:XF w a n cap es) :
  Calls Tryz.prog 45 #[.agg #[.slice a n cap]] w fun e w'=>e=.returned (.bool (YQ es))∧Below w.heap.size w w':=by
 have bu:Below w.heap.size w (w.alloc (.cells #[.slice a n cap] 47)):=by go_grown
 have g0:(w.alloc (.cells #[.slice a n cap] 47)).cell? ⟨w.heap.size,0,none⟩=some (.slice a n cap):=by first | (simp [go_sem];done) | (simp [World.cell?];done)
 replace h:=h.below bu
 obtain ⟨hl,hlc,hcm,hcase⟩:=h
 unfold maxLen at hcm
 obtain ⟨fin,hfin⟩:∃ fin,fin=YQ es:=⟨_,rfl⟩
 rw [← hfin]
 have HF:Hid (fin=((List.range es.length).all (VJ es) && decide (es.length≤2000))):=hfin
 clear hfin
 go_enter Tryz.func45,Tryz.ntmps45
 go_wp2_with fail
 generalize (w.alloc (.cells #[.slice a n cap] 47))=U at *
 go_loopw [3] (fun si wr=>∃ k:Nat,k≤n∧si=.int .i64 k∧Hid (∀ i,i<k→VJ es i=true)∧Below U.heap.size U wr) (fun si _=>n - (intOf si).toNat)
 case atStart=>exact ⟨0,by omega,rfl,fun i hi=>by omega,Below.refl _ _⟩
 case round =>
  obtain ⟨k,hk,rfl,HK,bw⟩:=hrel
  by_cases hlt:k<n
  ·rcases hcase with e0 | ⟨b,off,rfl,hblt,hcell⟩
   ·omega
   obtain ⟨s,c0,c1,c2,hm⟩:=hcell k hlt
   have HS:Hid (VJ es k=(Wi (es.getD k e3d) && (decide (k=0) || ltS (es.getD (k - 1) e3d).1 (es.getD k e3d).1))):=rfl
   have hlt2:(k:Int)<(n:Int):=by omega
   have hk0:(0:Int)≤(k:Int):=by omega
   cases hO:Wi (es.getD k e3d)
   ·have HR:Hid (fin=false):=by rw [Hid,HF.out,YW (show k<es.length by omega) (show VJ es k=false by rw [HS.out,hO];rfl)];rfl
    clear HS HF HK hcell
    generalize es.getD k e3d=x at *
    replace c0:=Zy bw c0
    replace c1:=Zy bw c1
    replace c2:=Zy bw c2
    replace g0:=Zy bw g0
    have kO:=fun W (hb:Below U.heap.size U W)=>XN x s W (hm.below hb)
    obtain ⟨xk,xb,xz⟩:=x
    obtain ⟨⟨x1,xn1,xc1⟩,⟨x2,xn2,xc2⟩⟩:=s
    unfold ZU at kO
    rw [hO] at kO
    simp only at c0 c1 c2 kO
    have bd:Below U.heap.size U wr.drew:=Zm bw (by go_grown)
    clear hO hm
    go_wp2_with fail
    refine wp_region_held_drew (S:=(fun w'=>w'.cell? ⟨w.heap.size,0,none⟩=some (.slice (some ⟨b,off,none⟩) n cap)∧w'.cell? ⟨b,off+k*3,none⟩=some (.string xk)∧w'.cell? ⟨b,off+k*3+1,none⟩=some (.slice x1 xn1 xc1)∧w'.cell? ⟨b,off+k*3+2,none⟩=some (.slice x2 xn2 xc2))) (by kernel_rfl) ⟨g0,c0,c1,c2⟩ (fun hS0=>?_)
    refine tkv 0 11 (.pointer (some ⟨w.heap.size,0,none⟩)) ?_
    refine tkv 1 12 (.slice (some ⟨b,off,none⟩) n cap) ?_
    refine tkv 2 13 (.int .i64 k) ?_
    refine tkv 3 14 (.pointer (some ⟨b,off+k*3,none⟩)) ?_
    refine tkv 4 15 (.agg #[.string xk,.slice x1 xn1 xc1,.slice x2 xn2 xc2]) ?_
    refine tkr 5 16 (fun K hK=>?_)
    go_simp
    refine (kO _ bd).mono ?_
    rintro e w1 ⟨rfl,hb⟩
    go_wp2_with fail
    refine hK.out _ _ ?_ (fun hS1=>?_)
    ·exact ⟨Za hb _ _ hS0.1,Za hb _ _ hS0.2.1,Za hb _ _ hS0.2.2.1,Za hb _ _ hS0.2.2.2⟩
    clear hK
    refine tkv 6 17 (.bool true) ?_
    refine tkv 7 18 (.bool true) ?_
    refine tku 8 19 ?_
    refine tku 9 20 ?_
    refine tku 10 21 ?_
    refine tku 11 22 ?_
    refine tku 12 23 ?_
    refine tku 13 24 ?_
    refine tku 14 25 ?_
    refine tku 15 26 ?_
    refine tku 16 27 ?_
    refine tku 17 28 ?_
    refine tku 18 29 ?_
    refine tku 19 30 ?_
    refine tku 20 31 ?_
    refine tku 21 32 ?_
    refine tku 22 33 ?_
    refine tku 23 34 ?_
    refine tku 24 35 ?_
    refine tku 25 36 ?_
    refine tkv 26 37 (.bool true) ?_
    refine wpAnyH_done (by kernel_rfl) ?_ _
    have bz:Below w.heap.size w w1:=Zm bu (Zm bd hb)
    clear hS0 hS1 hb c0 c1 c2 bd
    go_wp2
    go_ret
    exact ⟨by rw [HR.out];rfl,bz⟩
   by_cases hz:k=0
   ·have HK2:Hid (∀ i,i<k+1→VJ es i=true):=fun i hi=>by
     obtain rfl:i=k:=by omega
     rw [HS.out,hO,decide_eq_true hz];rfl
    have hgt:¬ (0:Int)<(k:Int):=by omega
    clear HS HK hcell
    generalize es.getD k e3d=x at *
    replace c0:=Zy bw c0
    replace c1:=Zy bw c1
    replace c2:=Zy bw c2
    replace g0:=Zy bw g0
    have kO:=fun W (hb:Below U.heap.size U W)=>XN x s W (hm.below hb)
    obtain ⟨xk,xb,xz⟩:=x
    obtain ⟨⟨x1,xn1,xc1⟩,⟨x2,xn2,xc2⟩⟩:=s
    unfold ZU at kO
    rw [hO] at kO
    simp only at c0 c1 c2 kO
    have bd:Below U.heap.size U wr.drew:=Zm bw (by go_grown)
    clear hO hm hz
    go_wp2_with fail
    refine wp_region_held_drew (S:=(fun w'=>w'.cell? ⟨w.heap.size,0,none⟩=some (.slice (some ⟨b,off,none⟩) n cap)∧w'.cell? ⟨b,off+k*3,none⟩=some (.string xk)∧w'.cell? ⟨b,off+k*3+1,none⟩=some (.slice x1 xn1 xc1)∧w'.cell? ⟨b,off+k*3+2,none⟩=some (.slice x2 xn2 xc2))) (by kernel_rfl) ⟨g0,c0,c1,c2⟩ (fun hS0=>?_)
    refine tkv 0 11 (.pointer (some ⟨w.heap.size,0,none⟩)) ?_
    refine tkv 1 12 (.slice (some ⟨b,off,none⟩) n cap) ?_
    refine tkv 2 13 (.int .i64 k) ?_
    refine tkv 3 14 (.pointer (some ⟨b,off+k*3,none⟩)) ?_
    refine tkv 4 15 (.agg #[.string xk,.slice x1 xn1 xc1,.slice x2 xn2 xc2]) ?_
    refine tkr 5 16 (fun K hK=>?_)
    go_simp
    refine (kO _ bd).mono ?_
    rintro e w1 ⟨rfl,hb⟩
    go_wp2_with fail
    refine hK.out _ _ ?_ (fun hS1=>?_)
    ·exact ⟨Za hb _ _ hS0.1,Za hb _ _ hS0.2.1,Za hb _ _ hS0.2.2.1,Za hb _ _ hS0.2.2.2⟩
    clear hK
    refine tkv 6 17 (.bool false) ?_
    refine tkv 7 18 (.bool false) ?_
    refine tkv 8 19 (.int .i64 k) ?_
    refine tkv 9 20 (.bool false) ?_
    refine tkv 10 21 (.bool false) ?_
    refine tku 11 22 ?_
    refine tku 12 23 ?_
    refine tku 13 24 ?_
    refine tku 14 25 ?_
    refine tku 15 26 ?_
    refine tku 16 27 ?_
    refine tku 17 28 ?_
    refine tku 18 29 ?_
    refine tku 19 30 ?_
    refine tku 20 31 ?_
    refine tku 21 32 ?_
    refine tku 22 33 ?_
    refine tku 23 34 ?_
    refine tku 24 35 ?_
    refine tkv 25 36 (.bool false) ?_
    refine tkv 26 37 (.bool false) ?_
    refine wpAnyH_done (by kernel_rfl) ?_ _
    have bz:Below U.heap.size U w1:=Zm bd hb
    clear hS0 hS1 hb c0 c1 c2 bd
    go_wp2
    go_roundw
    case rel=>exact ⟨k+1,by omega,by go_num,HK2,bz⟩
    case measure=>simp [intOf];omega
   obtain ⟨m,rfl⟩:∃ m,k=m+1:=⟨k - 1,by omega⟩
   obtain ⟨s',d0,_⟩:=hcell m (by omega)
   have hgt:(0:Int)<((m+1:Nat):Int):=by omega
   have hm0:(0:Int)≤(m:Int):=by omega
   have hmn:(m:Int)<(n:Int):=by omega
   rw [show m+1 - 1=m from rfl,decide_eq_false (show ¬ m+1=0 by omega),Bool.false_or] at HS
   have hge:=fun t=>FK t (es.getD m e3d).1 (es.getD (m+1) e3d).1
   cases hT:ltS (es.getD m e3d).1 (es.getD (m+1) e3d).1
   ·have HR:Hid (fin=false):=by rw [Hid,HF.out,YW (show m+1<es.length by omega) (show VJ es (m+1)=false by rw [HS.out,hO,hT];rfl)];rfl
    clear HS HF HK hcell
    replace d0:=Zy bw d0
    generalize es.getD (m+1) e3d=x at *
    generalize (es.getD m e3d).1=yk at *
    replace c0:=Zy bw c0
    replace c1:=Zy bw c1
    replace c2:=Zy bw c2
    replace g0:=Zy bw g0
    have kO:=fun W (hb:Below U.heap.size U W)=>XN x s W (hm.below hb)
    obtain ⟨xk,xb,xz⟩:=x
    obtain ⟨⟨x1,xn1,xc1⟩,⟨x2,xn2,xc2⟩⟩:=s
    unfold ZU at kO
    rw [hO] at kO
    simp only at c0 c1 c2 kO
    have bd:Below U.heap.size U wr.drew:=Zm bw (by go_grown)
    rw [hT] at hge
    simp only [Bool.not_false] at hge
    clear hO hm hT
    go_wp2_with fail
    refine wp_region_held_drew (S:=(fun w'=>w'.cell? ⟨w.heap.size,0,none⟩=some (.slice (some ⟨b,off,none⟩) n cap)∧w'.cell? ⟨b,off+(m+1)*3,none⟩=some (.string xk)∧w'.cell? ⟨b,off+(m+1)*3+1,none⟩=some (.slice x1 xn1 xc1)∧w'.cell? ⟨b,off+(m+1)*3+2,none⟩=some (.slice x2 xn2 xc2)∧w'.cell? ⟨b,off+m*3,none⟩=some (.string yk))) (by kernel_rfl) ⟨g0,c0,c1,c2,d0⟩ (fun hS0=>?_)
    refine tkv 0 11 (.pointer (some ⟨w.heap.size,0,none⟩)) ?_
    refine tkv 1 12 (.slice (some ⟨b,off,none⟩) n cap) ?_
    refine tkv 2 13 (.int .i64 ((m+1:Nat):Int)) ?_
    refine tkv 3 14 (.pointer (some ⟨b,off+(m+1)*3,none⟩)) ?_
    refine tkv 4 15 (.agg #[.string xk,.slice x1 xn1 xc1,.slice x2 xn2 xc2]) ?_
    refine tkr 5 16 (fun K hK=>?_)
    go_simp
    refine (kO _ bd).mono ?_
    rintro e w1 ⟨rfl,hb⟩
    go_wp2_with fail
    refine hK.out _ _ ?_ (fun hS1=>?_)
    ·exact ⟨Za hb _ _ hS0.1,Za hb _ _ hS0.2.1,Za hb _ _ hS0.2.2.1,Za hb _ _ hS0.2.2.2.1,Za hb _ _ hS0.2.2.2.2⟩
    clear hK
    refine tkv 6 17 (.bool false) ?_
    refine tkv 7 18 (.bool false) ?_
    refine tkv 8 19 (.int .i64 ((m+1:Nat):Int)) ?_
    refine tkv 9 20 (.bool true) ?_
    refine tkv 10 21 (.bool true) ?_
    refine tkv 11 22 (.pointer (some ⟨w.heap.size,0,none⟩)) ?_
    refine tkv 12 23 (.slice (some ⟨b,off,none⟩) n cap) ?_
    refine tkv 13 24 (.int .i64 ((m+1:Nat):Int)) ?_
    refine tkv 14 25 (.int .i64 (m:Int)) ?_
    refine tkv 15 26 (.pointer (some ⟨b,off+m*3,none⟩)) ?_
    refine tkv 16 27 (.pointer (some ⟨b,off+m*3,none⟩)) ?_
    refine tkv 17 28 (.string yk) ?_
    refine tkv 18 29 (.pointer (some ⟨w.heap.size,0,none⟩)) ?_
    refine tkv 19 30 (.slice (some ⟨b,off,none⟩) n cap) ?_
    refine tkv 20 31 (.int .i64 ((m+1:Nat):Int)) ?_
    refine tkv 21 32 (.pointer (some ⟨b,off+(m+1)*3,none⟩)) ?_
    refine tkv 22 33 (.pointer (some ⟨b,off+(m+1)*3,none⟩)) ?_
    refine tkv 23 34 (.string xk) ?_
    refine tkv 24 35 (.bool true) ?_
    refine tkv 25 36 (.bool true) ?_
    refine tkv 26 37 (.bool true) ?_
    refine wpAnyH_done (by kernel_rfl) ?_ _
    have bz:Below w.heap.size w w1:=Zm bu (Zm bd hb)
    clear hS0 hS1 hb c0 c1 c2 d0 bd hge
    go_wp2
    go_ret
    exact ⟨by rw [HR.out];rfl,bz⟩
   have HK2:Hid (∀ i,i<m+1+1→VJ es i=true):=fun i hi=>by
    by_cases e:i=m+1
    ·rw [e,HS.out,hO,hT];rfl
    exact HK.out i (by omega)
   clear HS HK hcell
   replace d0:=Zy bw d0
   generalize es.getD (m+1) e3d=x at *
   generalize (es.getD m e3d).1=yk at *
   replace c0:=Zy bw c0
   replace c1:=Zy bw c1
   replace c2:=Zy bw c2
   replace g0:=Zy bw g0
   have kO:=fun W (hb:Below U.heap.size U W)=>XN x s W (hm.below hb)
   obtain ⟨xk,xb,xz⟩:=x
   obtain ⟨⟨x1,xn1,xc1⟩,⟨x2,xn2,xc2⟩⟩:=s
   unfold ZU at kO
   rw [hO] at kO
   simp only at c0 c1 c2 kO
   have bd:Below U.heap.size U wr.drew:=Zm bw (by go_grown)
   rw [hT] at hge
   simp only [Bool.not_true] at hge
   clear hO hm hT
   go_wp2_with fail
   refine wp_region_held_drew (S:=(fun w'=>w'.cell? ⟨w.heap.size,0,none⟩=some (.slice (some ⟨b,off,none⟩) n cap)∧w'.cell? ⟨b,off+(m+1)*3,none⟩=some (.string xk)∧w'.cell? ⟨b,off+(m+1)*3+1,none⟩=some (.slice x1 xn1 xc1)∧w'.cell? ⟨b,off+(m+1)*3+2,none⟩=some (.slice x2 xn2 xc2)∧w'.cell? ⟨b,off+m*3,none⟩=some (.string yk))) (by kernel_rfl) ⟨g0,c0,c1,c2,d0⟩ (fun hS0=>?_)
   refine tkv 0 11 (.pointer (some ⟨w.heap.size,0,none⟩)) ?_
   refine tkv 1 12 (.slice (some ⟨b,off,none⟩) n cap) ?_
   refine tkv 2 13 (.int .i64 ((m+1:Nat):Int)) ?_
   refine tkv 3 14 (.pointer (some ⟨b,off+(m+1)*3,none⟩)) ?_
   refine tkv 4 15 (.agg #[.string xk,.slice x1 xn1 xc1,.slice x2 xn2 xc2]) ?_
   refine tkr 5 16 (fun K hK=>?_)
   go_simp
   refine (kO _ bd).mono ?_
   rintro e w1 ⟨rfl,hb⟩
   go_wp2_with fail
   refine hK.out _ _ ?_ (fun hS1=>?_)
   ·exact ⟨Za hb _ _ hS0.1,Za hb _ _ hS0.2.1,Za hb _ _ hS0.2.2.1,Za hb _ _ hS0.2.2.2.1,Za hb _ _ hS0.2.2.2.2⟩
   clear hK
   refine tkv 6 17 (.bool false) ?_
   refine tkv 7 18 (.bool false) ?_
   refine tkv 8 19 (.int .i64 ((m+1:Nat):Int)) ?_
   refine tkv 9 20 (.bool true) ?_
   refine tkv 10 21 (.bool true) ?_
   refine tkv 11 22 (.pointer (some ⟨w.heap.size,0,none⟩)) ?_
   refine tkv 12 23 (.slice (some ⟨b,off,none⟩) n cap) ?_
   refine tkv 13 24 (.int .i64 ((m+1:Nat):Int)) ?_
   refine tkv 14 25 (.int .i64 (m:Int)) ?_
   refine tkv 15 26 (.pointer (some ⟨b,off+m*3,none⟩)) ?_
   refine tkv 16 27 (.pointer (some ⟨b,off+m*3,none⟩)) ?_
   refine tkv 17 28 (.string yk) ?_
   refine tkv 18 29 (.pointer (some ⟨w.heap.size,0,none⟩)) ?_
   refine tkv 19 30 (.slice (some ⟨b,off,none⟩) n cap) ?_
   refine tkv 20 31 (.int .i64 ((m+1:Nat):Int)) ?_
   refine tkv 21 32 (.pointer (some ⟨b,off+(m+1)*3,none⟩)) ?_
   refine tkv 22 33 (.pointer (some ⟨b,off+(m+1)*3,none⟩)) ?_
   refine tkv 23 34 (.string xk) ?_
   refine tkv 24 35 (.bool false) ?_
   refine tkv 25 36 (.bool false) ?_
   refine tkv 26 37 (.bool false) ?_
   refine wpAnyH_done (by kernel_rfl) ?_ _
   have bz:Below U.heap.size U w1:=Zm bd hb
   clear hS0 hS1 hb c0 c1 c2 d0 bd hge
   go_wp2
   go_roundw
   case rel=>exact ⟨m+1+1,by omega,by go_num,HK2,bz⟩
   case measure=>simp [intOf];omega
  obtain rfl:k=n:=by omega
  have g1:=Zy bw g0
  by_cases h2:es.length≤2000
  ·have HR:Hid (fin=true):=by rw [Hid,HF.out,XQ (fun i hi=>HK.out i (by omega)),decide_eq_true h2];rfl
   have hle:decide ((k:Int)≤2000)=true:=by simp;omega
   clear HF HK hcase h2
   go_wp2
   go_ret
   exact ⟨by rw [HR.out];rfl,Zm bu bw⟩
  have HR:Hid (fin=false):=by rw [Hid,HF.out,decide_eq_false h2,Bool.and_false]
  have hle:decide ((k:Int)≤2000)=false:=by simp;omega
  clear HF HK hcase h2
  go_wp2
  go_ret
  exact ⟨by rw [HR.out];rfl,Zm bu bw⟩


theorem Kn (L:List EQ) (x:EQ):Z3 (L++[x])=Z3 L++Yl x.1.1 x.2:=by
 rw [Se]
 simp [Z3]


theorem Ko {L:List EQ} {k j:Nat} {u:Value} (h:(Z3 (L.take k))[j]?=some u):(Z3 L)[j]?=some u:=by
 obtain ⟨t,i,x,rfl,hi,hx,hu⟩:=UO h
 have hx2:L[t]?=some x:=by
  rw [List.getElem?_take] at hx
  split at hx
  ·exact hx
  cases hx
 rw [XK hx2 hi]
 exact hu
theorem Km {L:List EQ} {k j:Nat} {u:Value} (h:(Z3 (L.drop k))[j]?=some u):(Z3 L)[k*3+j]?=some u:=by
 obtain ⟨t,i,x,rfl,hi,hx,hu⟩:=UO h
 have hx2:L[k+t]?=some x:=by rw [List.getElem?_drop] at hx;exact hx
 rw [show k*3+(t*3+i)=(k+t)*3+i by omega,XK hx2 hi]
 exact hu
theorem Hw {w:World} {a:Option Addr} {n c hi:Nat} {L:List EQ} (h:XC w a n c L) (hz:a=none→c=0) (h2:hi≤n) :
  (∀ W,(Instr.slice 45 (.slice a n c) none (some (.int .i64 (hi:Int))) none).run Tryz.prog W=.ok (.slice a hi c) W)∧XC w a hi c (L.take hi):=by
 obtain ⟨hl,hlc,hcm,hm,hcase⟩:=h
 have hhc:(hi:Int)≤(c:Int):=by omega
 refine ⟨fun W=>?_,by rw [List.length_take];omega,by omega,hcm,fun x hx=>hm x (List.mem_of_mem_take hx),?_⟩
 ·rcases a with _ | ⟨b,off,sp⟩
  ·have:=hz rfl
   subst this
   obtain rfl:hi=0:=by omega
   obtain rfl:n=0:=by omega
   go_simp
  go_simp
  try omega
 rcases hcase with h0 | ⟨b,off,ha,hb,hc⟩
 ·exact .inl (by omega)
 exact .inr ⟨b,off,ha,hb,fun j u hj=>hc j u (Ko hj)⟩
theorem Mg {w:World} {a:Option Addr} {n c lo:Nat} {L:List EQ} (h:XC w a n c L) (hz:a=none→c=0) (h1:lo≤n) :
  ∃ a2,(∀ W,(Instr.slice 45 (.slice a n c) (some (.int .i64 (lo:Int))) none none).run Tryz.prog W=.ok (.slice a2 (n - lo) (c - lo)) W)∧XC w a2 (n - lo) (c - lo) (L.drop lo)∧(a2=none→c - lo=0):=by
 obtain ⟨hl,hlc,hcm,hm,hcase⟩:=h
 have hlh:(lo:Int)≤(n:Int):=by omega
 rcases a with _ | ⟨b,off,sp⟩
 ·have:=hz rfl
  subst this
  obtain rfl:n=0:=by omega
  obtain rfl:lo=0:=by omega
  refine ⟨none,fun W=>?_,⟨by rw [List.length_drop];omega,by omega,by omega,fun x hx=>hm x (List.mem_of_mem_drop hx),.inl rfl⟩,fun _=>rfl⟩
  go_simp
 by_cases hz:c - lo=0
 ·refine ⟨some ⟨b,off,sp⟩,fun W=>?_,⟨by rw [List.length_drop];omega,by omega,by omega,fun x hx=>hm x (List.mem_of_mem_drop hx),.inl (by omega)⟩,fun h9=>by cases h9⟩
  go_simp
  try omega
 rcases hcase with h0 | ⟨b',off',ha,hb,hc⟩
 ·obtain rfl:lo=0:=by omega
  refine ⟨some ⟨b,off,sp⟩,fun W=>?_,⟨by rw [List.length_drop];omega,by omega,by omega,fun x hx=>hm x (List.mem_of_mem_drop hx),.inl (by omega)⟩,fun h9=>by cases h9⟩
  go_simp
  first | done | (intro _;unfold Addr.add;split<;>simp_all;done) | (unfold Addr.add;split<;>simp_all)
 cases ha
 refine ⟨some ⟨b,off+lo*3,none⟩,fun W=>?_,⟨by rw [List.length_drop];omega,by omega,by omega,fun x hx=>hm x (List.mem_of_mem_drop hx),.inr ⟨b,off+lo*3,rfl,hb,fun j u hj=>?_⟩⟩,fun h9=>by cases h9⟩
 ·go_simp
  omega
 rw [Nat.add_assoc]
 exact hc _ _ (Km hj)


def UpE (es:List E3):Prop:=es.Pairwise (fun a b=>ltS a.1 b.1=true)
theorem UpE.lt {es:List E3} (h:UpE es) {j i:Nat} (hi:i<j) (hj:j<es.length):ltS (es.getD i e3d).1 (es.getD j e3d).1=true:=by
 rw [Y5 (show i<es.length by omega),Y5 hj]
 exact List.pairwise_iff_getElem.1 h i j (by omega) hj hi
structure UpR (es:List E3):Prop where
 up:UpE es
 few:es.length≤2000
theorem UpR.lt {es:List E3} (h:UpR es) {j i:Nat} (hi:i<j) (hj:j<es.length):ltS (es.getD i e3d).1 (es.getD j e3d).1=true:=h.up.lt hi hj
theorem Nc {es:List E3} (h:YQ es=true):UpR es:=⟨(XA.1 h).2.1,Ul h⟩
theorem Gy {es:List E3} (h:UpE es) {t:Nat} (ht:t<es.length):Yn es (es.getD t e3d).1=t∧isE es (es.getD t e3d).1=true:=by
 have hp:Yn es (es.getD t e3d).1=t:=P3 (fun i hi=>h.lt hi ht) (by omega) (fun _=>UC _)
 refine ⟨hp,?_⟩
 rw [isE,hp,decide_eq_true ht,decide_eq_true rfl]
 rfl
theorem WM {es:List E3} (h:UpE es) {k:ByteArray}:isE es k=true↔∃ e ∈ es,e.1=k:=by
 constructor
 ·intro hi
  simp only [isE,Bool.and_eq_true,decide_eq_true_eq] at hi
  refine ⟨es.getD (Yn es k) e3d,?_,hi.2⟩
  rw [Y5 hi.1]
  exact List.getElem_mem _
 rintro ⟨e,he,rfl⟩
 obtain ⟨t,ht,rfl⟩:=List.getElem_of_mem he
 rw [← Y5 ht]
 exact (Gy h ht).2
theorem P1 {es:List E3} (h:UpE es) {k:ByteArray} {i:Nat} (hi:Yn es k≤i) (hl:i<es.length):ltS (es.getD i e3d).1 k=false:=by
 by_cases e:i=Yn es k
 ·rw [e];exact T1 (by omega)
 cases hc:ltS (es.getD i e3d).1 k
 ·rfl
 have:=Vn (h.lt (i:=Yn es k) (j:=i) (by omega) hl) hc
 rw [T1 (by omega)] at this
 cases this
theorem Tv {es:List E3} (h:UpE es) {k:ByteArray} {t:Nat} (h1:(if isE es k then Yn es k+1 else Yn es k)≤t) (ht:t<es.length):ltS k (es.getD t e3d).1=true:=by
 cases hc:isE es k
 ·rw [hc] at h1
  simp at h1
  cases hk:ltS k (es.getD t e3d).1
  ·have:=K0 (P1 h h1 ht) hk
   have hi:=(WM h (k:=k)).2 ⟨es.getD t e3d,by rw [Y5 ht];exact List.getElem_mem _,this⟩
   rw [hc] at hi
   cases hi
  rfl
 rw [hc] at h1
 simp at h1
 simp only [isE,Bool.and_eq_true,decide_eq_true_eq] at hc
 have:=h.lt (i:=Yn es k) (j:=t) (by omega) ht
 rw [hc.2] at this
 exact this
theorem RU {es:List E3} {e:E3} (h:UpE es):UpE (Wy es e):=by
 unfold Wy UpE
 rw [List.pairwise_append,List.pairwise_append]
 refine ⟨⟨h.sublist (List.take_sublist _ _),by simp,?_⟩,h.sublist (List.drop_sublist _ _),?_⟩
 ·intro a ha b hb
  simp only [List.mem_singleton] at hb
  subst hb
  obtain ⟨t,h1,h2,rfl⟩:=TU ha
  exact VF h1
 intro a ha b hb
 obtain ⟨t,h1,h2,rfl⟩:=Q8 hb
 have hk:=Tv h h1 h2
 simp only [List.mem_append,List.mem_singleton] at ha
 rcases ha with ha | rfl
 ·obtain ⟨t',h3,h4,rfl⟩:=TU ha
  exact Vn (VF h3) hk
 exact hk
theorem GM {es:List E3} {e:E3} (h:UpR es) (hr:isE es e.1=true∨es.length<2000):UpR (Wy es e):=by
 refine ⟨RU h.up,?_⟩
 rw [N4]
 rcases hr with h9 | h9
 ·rw [if_pos h9];exact h.few
 have:=h.few
 split<;>omega
theorem T2 {es:List E3} {e x:E3} (hx:x ∈ Wy es e):x=e∨x ∈ es:=by
 unfold Wy at hx
 simp only [List.mem_append,List.mem_singleton] at hx
 rcases hx with (hx | hx) | hx
 ·exact .inr (List.mem_of_mem_take hx)
 ·exact .inl hx
 exact .inr (List.mem_of_mem_drop hx)
theorem N5 {es:List E3} {e x:E3} (hn:isE es e.1=false):x ∈ Wy es e↔x=e∨x ∈ es:=by
 unfold Wy
 rw [hn]
 simp only [List.mem_append,List.mem_singleton,Bool.false_eq_true,if_false]
 constructor
 ·rintro ((h | h) | h)
  ·exact .inr (List.mem_of_mem_take h)
  ·exact .inl h
  exact .inr (List.mem_of_mem_drop h)
 rintro (h | h)
 ·exact .inl (.inr h)
 rw [← List.take_append_drop (Yn es e.1) es] at h
 rcases List.mem_append.1 h with h | h
 ·exact .inl (.inl h)
 exact .inr h


theorem Ww (a:Option Addr) (n cap:Nat) (es:List E3) (key:ByteArray) (w:World) (h:XF w a n cap es) (hok:UpR es) :
  Calls Tryz.prog 147 #[.agg #[.slice a n cap],.string key] w fun e w'=>e=.returned (.tuple #[.int .i64 (Yn es key),.bool (isE es key)])∧Below w.heap.size w w':=by
 have bu:Below w.heap.size w (w.alloc (.cells #[.slice a n cap] 47)):=by go_grown
 have g0:(w.alloc (.cells #[.slice a n cap] 47)).cell? ⟨w.heap.size,0,none⟩=some (.slice a n cap):=by first | (simp [go_sem];done) | (simp [World.cell?];done)
 replace h:=h.below bu
 have hn2:=hok.few
 obtain ⟨hl,hlc,hcm,hcase⟩:=h
 rw [hl] at hn2
 unfold maxLen at hcm
 obtain ⟨pl,hpl⟩:∃ pl,pl=Yn es key:=⟨_,rfl⟩
 obtain ⟨fb,hfb⟩:∃ fb,fb=isE es key:=⟨_,rfl⟩
 rw [← hpl,← hfb]
 have HPL:Hid (pl=Yn es key):=hpl
 have HFB:Hid (fb=isE es key):=hfb
 clear hpl hfb
 go_enter Tryz.func147,Tryz.ntmps147
 go_wp2_with fail
 generalize (w.alloc (.cells #[.slice a n cap] 47))=U at *
 go_loopw [6,7] (fun sl sh wr=>∃ lo hi:Nat,lo≤hi∧hi≤n∧sl=.int .i64 lo∧sh=.int .i64 hi∧Hid ((∀ i,i<lo→ltS (es.getD i e3d).1 key=true)∧∀ i,hi≤i→i<n→ltS (es.getD i e3d).1 key=false)∧U=wr) (fun sl sh _=>(intOf sh).toNat - (intOf sl).toNat)
 case atStart=>exact ⟨0,n,by omega,by omega,rfl,rfl,⟨fun i hi=>by omega,fun i h1 h2=>by omega⟩,rfl⟩
 case round =>
  obtain ⟨lo,hi,h1,h2,rfl,rfl,HK,rfl⟩:=hrel
  by_cases hlt:lo<hi
  ·rcases hcase with e0 | ⟨b,off,rfl,hblt,hcell⟩
   ·omega
   obtain ⟨m,hm⟩:∃ m,m=(lo+hi) / 2:=⟨_,rfl⟩
   have hm1:lo≤m:=by omega
   have hm2:m<hi:=by omega
   have hq:((lo:Int)+(hi:Int)).tdiv 2=(m:Int):=by rw [Int.tdiv_eq_ediv_of_nonneg (by omega)];omega
   have hw1:IntKind.i64.wrap ((lo:Int)+(hi:Int))=(lo:Int)+(hi:Int):=by rw [IntKind.wrap_i64];omega
   have hw2:IntKind.i64.wrap (m:Int)=(m:Int):=by rw [IntKind.wrap_i64];omega
   clear hm
   obtain ⟨s,c0,_⟩:=hcell m (by omega)
   have hlt2:(lo:Int)<(hi:Int):=by omega
   have hmn:(m:Int)<(n:Int):=by omega
   have hm0:(0:Int)≤(m:Int):=by omega
   cases hT:ltS (es.getD m e3d).1 key
   ·have HK2:Hid ((∀ i,i<lo→ltS (es.getD i e3d).1 key=true)∧∀ i,m≤i→i<n→ltS (es.getD i e3d).1 key=false):=⟨HK.out.1,fun i h3 h4=>by
     by_cases e:i=m
     ·rw [e];exact hT
     cases hc:ltS (es.getD i e3d).1 key
     ·rfl
     have:=Vn (hok.lt (i:=m) (j:=i) (by omega) (by omega)) hc
     rw [hT] at this
     cases this⟩
    generalize (es.getD m e3d).1=xk at *
    unfold ltS at hT
    clear HK hcell
    go_wp2
    go_roundw
    case rel=>exact ⟨lo,m,by omega,by omega,rfl,rfl,HK2,by first | rfl | trivial⟩
    case measure=>simp [intOf];omega
   have HK2:Hid ((∀ i,i<m+1→ltS (es.getD i e3d).1 key=true)∧∀ i,hi≤i→i<n→ltS (es.getD i e3d).1 key=false):=⟨fun i h3=>by
    by_cases e:i=m
    ·rw [e];exact hT
    exact Vn (hok.lt (i:=i) (j:=m) (by omega) (by omega)) hT,HK.out.2⟩
   generalize (es.getD m e3d).1=xk at *
   unfold ltS at hT
   clear HK hcell
   go_wp2
   go_roundw
   case rel=>exact ⟨m+1,hi,by omega,by omega,by go_num,rfl,HK2,by first | rfl | trivial⟩
   case measure=>simp [intOf];omega
  obtain rfl:lo=hi:=by omega
  have hp:Yn es key=lo:=P3 HK.out.1 (by omega) (fun h3=>HK.out.2 lo (Nat.le_refl _) (by omega))
  have HI:Hid (isE es key=(decide (lo<n) && decide ((es.getD lo e3d).1=key))):=by rw [Hid,isE,hp,hl]
  rw [← HFB.out] at HI
  have HP:Hid (pl=lo):=by rw [Hid,HPL.out];exact hp
  clear HK hp HPL HFB
  have hll:¬ (lo:Int)<(lo:Int):=by omega
  have hb0:(0:Int)≤(lo:Int):=by omega
  have bd:Below U.heap.size U U.drew:=by go_grown
  by_cases hln:lo<n
  ·rcases hcase with e0 | ⟨b,off,rfl,hblt,hcell⟩
   ·omega
   obtain ⟨s,c0,_⟩:=hcell lo hln
   have hln2:(lo:Int)<(n:Int):=by omega
   have g1:=g0
   by_cases hE:(es.getD lo e3d).1=key
   ·have HR:Hid (fb=true):=by rw [Hid,HI.out,decide_eq_true hln,decide_eq_true hE];rfl
    clear HI hcell
    generalize (es.getD lo e3d).1=xk at *
    have hee:(xk.toList == key.toList)=true:=by rw [hE];simp
    clear hE
    go_wp2_with fail
    refine wp_region_held_drew (S:=(fun w'=>w'.cell? ⟨w.heap.size,0,none⟩=some (.slice (some ⟨b,off,none⟩) n cap)∧w'.cell? ⟨b,off+lo*3,none⟩=some (.string xk))) (by kernel_rfl) ⟨g1,c0⟩ (fun hS0=>?_)
    refine tkv 0 30 (.int .i64 (lo:Int)) ?_
    refine tkv 1 31 (.int .i64 (lo:Int)) ?_
    refine tkv 2 32 (.pointer (some ⟨w.heap.size,0,none⟩)) ?_
    refine tkv 3 33 (.slice (some ⟨b,off,none⟩) n cap) ?_
    refine tkv 4 34 (.int .i64 (n:Int)) ?_
    refine tkv 5 35 (.bool true) ?_
    refine tkv 6 36 (.bool true) ?_
    refine tkv 7 37 (.pointer (some ⟨w.heap.size,0,none⟩)) ?_
    refine tkv 8 38 (.slice (some ⟨b,off,none⟩) n cap) ?_
    refine tkv 9 39 (.int .i64 (lo:Int)) ?_
    refine tkv 10 40 (.pointer (some ⟨b,off+lo*3,none⟩)) ?_
    refine tkv 11 41 (.pointer (some ⟨b,off+lo*3,none⟩)) ?_
    refine tkv 12 42 (.string xk) ?_
    refine tkv 13 43 (.string key) ?_
    refine tkv 14 44 (.bool true) ?_
    refine tkv 15 45 (.bool true) ?_
    refine tkv 16 4 (.int .i64 (lo:Int)) ?_
    refine tkv 17 5 (.bool true) ?_
    refine wpAnyH_done (by kernel_rfl) ?_ _
    have bz:=Zm bu bd
    clear hS0 c0 g1 bd
    go_wp2
    go_ret2
    exact ⟨by rw [HR.out,HP.out];rfl,bz⟩
   have HR:Hid (fb=false):=by rw [Hid,HI.out,decide_eq_false hE,Bool.and_false]
   clear HI hcell
   generalize (es.getD lo e3d).1=xk at *
   have hee:(xk.toList == key.toList)=false:=by
    cases hc:(xk.toList == key.toList)
    ·rfl
    exact absurd (SH (by simpa using hc)) hE
   clear hE
   go_wp2_with fail
   refine wp_region_held_drew (S:=(fun w'=>w'.cell? ⟨w.heap.size,0,none⟩=some (.slice (some ⟨b,off,none⟩) n cap)∧w'.cell? ⟨b,off+lo*3,none⟩=some (.string xk))) (by kernel_rfl) ⟨g1,c0⟩ (fun hS0=>?_)
   refine tkv 0 30 (.int .i64 (lo:Int)) ?_
   refine tkv 1 31 (.int .i64 (lo:Int)) ?_
   refine tkv 2 32 (.pointer (some ⟨w.heap.size,0,none⟩)) ?_
   refine tkv 3 33 (.slice (some ⟨b,off,none⟩) n cap) ?_
   refine tkv 4 34 (.int .i64 (n:Int)) ?_
   refine tkv 5 35 (.bool true) ?_
   refine tkv 6 36 (.bool true) ?_
   refine tkv 7 37 (.pointer (some ⟨w.heap.size,0,none⟩)) ?_
   refine tkv 8 38 (.slice (some ⟨b,off,none⟩) n cap) ?_
   refine tkv 9 39 (.int .i64 (lo:Int)) ?_
   refine tkv 10 40 (.pointer (some ⟨b,off+lo*3,none⟩)) ?_
   refine tkv 11 41 (.pointer (some ⟨b,off+lo*3,none⟩)) ?_
   refine tkv 12 42 (.string xk) ?_
   refine tkv 13 43 (.string key) ?_
   refine tkv 14 44 (.bool false) ?_
   refine tkv 15 45 (.bool false) ?_
   refine tkv 16 4 (.int .i64 (lo:Int)) ?_
   refine tkv 17 5 (.bool false) ?_
   refine wpAnyH_done (by kernel_rfl) ?_ _
   have bz:=Zm bu bd
   clear hS0 c0 g1 bd
   go_wp2
   go_ret2
   exact ⟨by rw [HR.out,HP.out];rfl,bz⟩
  have HR:Hid (fb=false):=by rw [Hid,HI.out,decide_eq_false hln,Bool.false_and]
  have hln2:¬ (lo:Int)<(n:Int):=by omega
  have g1:=g0
  clear HI hcase
  go_wp2_with fail
  refine wp_region_held_drew (S:=(fun w'=>w'.cell? ⟨w.heap.size,0,none⟩=some (.slice a n cap))) (by kernel_rfl) g1 (fun hS0=>?_)
  refine tkv 0 30 (.int .i64 (lo:Int)) ?_
  refine tkv 1 31 (.int .i64 (lo:Int)) ?_
  refine tkv 2 32 (.pointer (some ⟨w.heap.size,0,none⟩)) ?_
  refine tkv 3 33 (.slice a n cap) ?_
  refine tkv 4 34 (.int .i64 (n:Int)) ?_
  refine tkv 5 35 (.bool false) ?_
  refine tkv 6 36 (.bool false) ?_
  refine tku 7 37 ?_
  refine tku 8 38 ?_
  refine tku 9 39 ?_
  refine tku 10 40 ?_
  refine tku 11 41 ?_
  refine tku 12 42 ?_
  refine tku 13 43 ?_
  refine tku 14 44 ?_
  refine tkv 15 45 (.bool false) ?_
  refine tkv 16 4 (.int .i64 (lo:Int)) ?_
  refine tkv 17 5 (.bool false) ?_
  refine wpAnyH_done (by kernel_rfl) ?_ _
  have bz:=Zm bu bd
  clear hS0 g1 bd
  go_wp2
  go_ret2
  exact ⟨by rw [HR.out,HP.out];rfl,bz⟩
end Go.Proofs.YtmhlokahmblboaaGreatDoor
