/-
  Joined: EsB, KpsI.
-/
import Derived.Test.YtgmhhegckcionaaGreatDoorP33
import Derived.Test.YtgmhhegckcionaaGreatDoorP35
import Derived.Test.YtgmhhegckcionaaGreatDoorP36

namespace Go.Proofs.YtgmhhegckcionaaGreatDoor
set_option maxRecDepth 100000
set_option maxHeartbeats 16000000
open Go.RowKit
set_option linter.unusedVariables false
set_option linter.unusedSimpArgs false

theorem l03Of_far (s:ByteArray) (w:World) (hs:s.size≤maxLen) (h15:s.size≠15) :
  Calls Tryz.prog 103 #[.string s] w fun e w'=>VmGotB e w' w.heap.size ([],[],[],[]) false∧Below w.heap.size w w':=by
 unfold maxLen at hs
 have kN:=specNewVm_is
 have bw:Below w.heap.size w (w.alloc (.cells #[.slice none 0 0,.slice none 0 0,.slice none 0 0,.slice none 0 0] 88)):=by go_grown
 have pR:=Blk.new w 88 [.slice none 0 0,.slice none 0 0,.slice none 0 0,.slice none 0 0]
 have hne:((s.size:Int) != 15)=true:=by simp;omega
 go_enter Tryz.func103,Tryz.ntmps103
 go_wp2_with fail
 refine (kN _).mono ?_
 rintro e w1 ⟨⟨t,rfl,hO⟩,hb⟩
 obtain ⟨g0,g1,g2,g3,c0,c1,c2,c3,rfl,_⟩:=newVm_open hO
 have uX:S4.val ((some ⟨g0,0,none⟩,3,c0),(some ⟨g1,0,none⟩,4,c1),(some ⟨g2,0,none⟩,2,c2),(some ⟨g3,0,none⟩,6,c3))=.agg #[.slice (some ⟨g0,0,none⟩) 3 c0,.slice (some ⟨g1,0,none⟩) 4 c1,.slice (some ⟨g2,0,none⟩) 2 c2,.slice (some ⟨g3,0,none⟩) 6 c3]:=rfl
 rw [uX]
 clear uX
 have bA:Below w1.heap.size w1 (w1.alloc (.cells #[.slice (some ⟨g0,0,none⟩) 3 c0,.slice (some ⟨g1,0,none⟩) 4 c1,.slice (some ⟨g2,0,none⟩) 2 c2,.slice (some ⟨g3,0,none⟩) 6 c3] 88)):=by go_grown
 have hgS:w.heap.size<w1.heap.size:=Nat.lt_of_lt_of_le (by simp) hb.size
 replace bw:=bel_trans bw (bel_trans hb bA)
 replace pR:=pR.below (bel_trans hb bA)
 clear hb bA kN hO
 go_wp2_with (refine wpList_store_blk rfl 88 _ _ rfl w.heap.size [.slice none 0 0,.slice none 0 0,.slice none 0 0,.slice none 0 0] rfl rfl pR (by kernel_rfl) rfl rfl ?_)
 intro w4 pR4 g4
 replace bw:=bw.grown g4 bw.size (fun x hx=>by cases hx;omega)
 clear g4
 go_wp2_with fail
 refine bodyPost_ret (results_blk2 Tryz.results103 _ _ _ _ _ _ rfl pR4.out Tryz.underlying88 rfl (by kernel_rfl)) rfl ?_
 exact ⟨VmGotB.mk9 ((none,0,0),(none,0,0),(none,0,0),(none,0,0)) rfl (ownV_nil _ _),bw⟩

theorem l03Of_any (s:ByteArray) (w:World) (hs:s.size≤maxLen) :
  Calls Tryz.prog 103 #[.string s] w fun e w'=>(∃ z,VmGotB e w' w.heap.size z (keyOk9 s))∧Below w.heap.size w w':=by
 by_cases h15:s.size=15
 ·refine (l03Of_15 s w h15).mono ?_
  rintro e w' ⟨⟨z,b,hv,hb⟩,hB⟩
  have e9:keyOk9 s=b:=by unfold keyOk9;rw [decide_eq_true h15,hb.1];rfl
  rw [e9]
  exact ⟨⟨z,hv⟩,hB⟩
 ·refine (l03Of_far s w hs h15).mono ?_
  rintro e w' ⟨hv,hB⟩
  have e9:keyOk9 s=false:=by unfold keyOk9;rw [decide_eq_false h15];rfl
  rw [e9]
  exact ⟨⟨_,hv⟩,hB⟩

theorem specEntryOK_is (e:E3) (s:Sl2) (w:World) (h:Emem w s e) :
  Calls Tryz.prog 65 #[entV e.1 s] w fun x w'=>x=.returned (.bool (entOk e))∧Below w.heap.size w w':=by
 obtain ⟨⟨hk,_⟩,hB,hF,hfw⟩:=h
 have l1:=hB.1
 obtain ⟨ek,eb,ez⟩:=e
 obtain ⟨⟨a1,n1,c1⟩,⟨a2,n2,c2⟩⟩:=s
 unfold entV
 simp only at *
 have kK:=fun W=>l03Of_any ek W hk
 have kR:=fun W (hb:Below w.heap.size w W)=>l10Rising_is a1 n1 c1 eb W (hB.below hb)
 have kI:=fun W (hb:Below w.heap.size w W)=>l10Items_is a2 n2 c2 ez W (hF.below hb) hfw
 have bw:Below w.heap.size w (w.alloc (.cells #[.string ek,.slice a1 n1 c1,.slice a2 n2 c2] 45)):=by go_grown
 have pA:Blk (w.alloc (.cells #[.string ek,.slice a1 n1 c1,.slice a2 n2 c2] 45)) w.heap.size 45 [.string ek,.slice a1 n1 c1,.slice a2 n2 c2]:=blkAt _ _ _ rfl
 obtain ⟨fin,hfin⟩:∃ fin,fin=entOk (ek,eb,ez):=⟨_,rfl⟩
 rw [← hfin]
 have HF:Hid (fin=(keyOk9 ek && (riseB eb && (riseI ez && decide (eb.length≤30))))):=hfin
 clear hfin hB hF hfw
 go_enter Tryz.func65,Tryz.ntmps65
 go_wp2_with fail
 refine (kK _).mono ?_
 rintro x w1 ⟨⟨z,⟨⟨t0a,t0n,t0c⟩,⟨t1a,t1n,t1c⟩,⟨t2a,t2n,t2c⟩,⟨t3a,t3n,t3c⟩⟩,rfl,_⟩,hb⟩
 have ut:S4.val ((t0a,t0n,t0c),(t1a,t1n,t1c),(t2a,t2n,t2c),(t3a,t3n,t3c))=.agg #[.slice t0a t0n t0c,.slice t1a t1n t1c,.slice t2a t2n t2c,.slice t3a t3n t3c]:=rfl
 rw [ut]
 clear ut kK
 have bA:Below w1.heap.size w1 (w1.alloc (.cells #[.slice t0a t0n t0c,.slice t1a t1n t1c,.slice t2a t2n t2c,.slice t3a t3n t3c] 88)):=by go_grown
 replace bw:=bel8 bw (bel8 hb bA)
 replace pA:=pA.below (bel8 hb bA)
 clear hb bA
 have y1:=pA.cell 1
 simp only [List.getElem?_cons_zero,List.getElem?_cons_succ] at y1
 cases hK:keyOk9 ek
 ·have HR:Hid (fin=false):=by rw [Hid,HF.out,hK];rfl
  clear HF hK kR kI
  go_wp2
  go_ret
  exact ⟨by rw [HR.out];rfl,bw⟩
 ·go_wp2_with fail
  generalize (w1.alloc (.cells #[.slice t0a t0n t0c,.slice t1a t1n t1c,.slice t2a t2n t2c,.slice t3a t3n t3c] 88))=U at *
  refine (kR _ bw).mono ?_
  rintro x w2 ⟨rfl,hb⟩
  replace bw:=bel8 bw hb
  replace pA:=pA.below hb
  clear hb kR y1
  have y1:=pA.cell 1
  have y2:=pA.cell 2
  simp only [List.getElem?_cons_zero,List.getElem?_cons_succ] at y1 y2
  cases hR:riseB eb
  ·have HR:Hid (fin=false):=by rw [Hid,HF.out,hK,hR];rfl
   clear HF hK hR kI
   go_wp2
   go_ret
   exact ⟨by rw [HR.out];rfl,bw⟩
  ·go_wp2_with fail
   refine (kI _ bw).mono ?_
   rintro x w3 ⟨rfl,hb⟩
   replace bw:=bel8 bw hb
   replace pA:=pA.below hb
   clear hb kI y1 y2
   have y1:=pA.cell 1
   simp only [List.getElem?_cons_zero,List.getElem?_cons_succ] at y1
   cases hI:riseI ez
   ·have HR:Hid (fin=false):=by rw [Hid,HF.out,hK,hR,hI];rfl
    clear HF hK hR hI
    go_wp2
    go_ret
    exact ⟨by rw [HR.out];rfl,bw⟩
   ·by_cases h30:eb.length≤30
    ·have HR:Hid (fin=true):=by rw [Hid,HF.out,hK,hR,hI,decide_eq_true h30];rfl
     have hle:decide ((n1:Int)≤30)=true:=by simp;omega
     clear HF hK hR hI h30
     go_wp2
     go_ret
     exact ⟨by rw [HR.out];rfl,bw⟩
    ·have HR:Hid (fin=false):=by rw [Hid,HF.out,hK,hR,hI,decide_eq_false h30];rfl
     have hle:decide ((n1:Int)≤30)=false:=by simp;omega
     clear HF hK hR hI h30
     go_wp2
     go_ret
     exact ⟨by rw [HR.out];rfl,bw⟩

theorem geqS (t:TypeId) (a b:ByteArray):Go.binOp .geq t (.string a) (.string b)=pure (.bool !ltS a b):=by simp [Go.binOp,Go.Op.stringOp,ltS]

theorem specMemoOK_is (a:Option Addr) (n cap:Nat) (es:List E3) (w:World) (h:Ents w a n cap es) :
  Calls Tryz.prog 31 #[.agg #[.slice a n cap]] w fun e w'=>e=.returned (.bool (memOk es))∧Below w.heap.size w w':=by
 have bu:Below w.heap.size w (w.alloc (.cells #[.slice a n cap] 33)):=by go_grown
 have g0:(w.alloc (.cells #[.slice a n cap] 33)).cell? ⟨w.heap.size,0,none⟩=some (.slice a n cap):=by first | (simp [go_sem];done) | (simp [World.cell?];done)
 replace h:=h.below bu
 obtain ⟨hl,hlc,hcm,hcase⟩:=h
 unfold maxLen at hcm
 obtain ⟨fin,hfin⟩:∃ fin,fin=memOk es:=⟨_,rfl⟩
 rw [← hfin]
 have HF:Hid (fin=((List.range es.length).all (mStep es) && decide (es.length≤2000))):=hfin
 clear hfin
 go_enter Tryz.func31,Tryz.ntmps31
 go_wp2_with fail
 generalize (w.alloc (.cells #[.slice a n cap] 33))=U at *
 go_loopw [3] (fun si wr=>∃ k:Nat,k≤n∧si=.int .i64 k∧Hid (∀ i,i<k→mStep es i=true)∧Below U.heap.size U wr) (fun si _=>n - (intOf si).toNat)
 case atStart=>exact ⟨0,by omega,rfl,fun i hi=>by omega,Below.refl _ _⟩
 case round =>
  obtain ⟨k,hk,rfl,HK,bw⟩:=hrel
  by_cases hlt:k<n
  ·rcases hcase with e0 | ⟨b,off,rfl,hblt,hcell⟩
   ·omega
   obtain ⟨s,c0,c1,c2,hm⟩:=hcell k hlt
   have HS:Hid (mStep es k=(entOk (es.getD k e3d) && (decide (k=0) || ltS (es.getD (k - 1) e3d).1 (es.getD k e3d).1))):=rfl
   have hlt2:(k:Int)<(n:Int):=by omega
   have hk0:(0:Int)≤(k:Int):=by omega
   cases hO:entOk (es.getD k e3d)
   ·have HR:Hid (fin=false):=by rw [Hid,HF.out,allR_false (show k<es.length by omega) (show mStep es k=false by rw [HS.out,hO];rfl)];rfl
    clear HS HF HK hcell
    generalize es.getD k e3d=x at *
    replace c0:=cell8 bw c0
    replace c1:=cell8 bw c1
    replace c2:=cell8 bw c2
    replace g0:=cell8 bw g0
    have kO:=fun W (hb:Below U.heap.size U W)=>specEntryOK_is x s W (hm.below hb)
    obtain ⟨xk,xb,xz⟩:=x
    obtain ⟨⟨x1,xn1,xc1⟩,⟨x2,xn2,xc2⟩⟩:=s
    unfold entV at kO
    rw [hO] at kO
    simp only at c0 c1 c2 kO
    have bd:Below U.heap.size U wr.drew:=bel8 bw (by go_grown)
    clear hO hm
    go_wp2_with fail
    refine wp_region_held_drew (S:=(fun w'=>w'.cell? ⟨w.heap.size,0,none⟩=some (.slice (some ⟨b,off,none⟩) n cap)∧w'.cell? ⟨b,off+k*3,none⟩=some (.string xk)∧w'.cell? ⟨b,off+k*3+1,none⟩=some (.slice x1 xn1 xc1)∧w'.cell? ⟨b,off+k*3+2,none⟩=some (.slice x2 xn2 xc2))) (by kernel_rfl) ⟨g0,c0,c1,c2⟩ (fun hS0=>?_)
    refine tkv 0 11 (.pointer (some ⟨w.heap.size,0,none⟩)) ?_
    refine tkv 1 12 (.slice (some ⟨b,off,none⟩) n cap) ?_
    refine tkv 2 13 (.int .i64 k) ?_
    refine tkv 3 14 (.pointer (some ⟨b,off+k*3,none⟩)) ?_
    refine tkv 4 15 (.agg #[.string xk,.slice x1 xn1 xc1,.slice x2 xn2 xc2]) ?_
    refine tkr 5 16 (fun K hK=>?_)
    go_simp
    refine (kO _ bd).mono ?_
    rintro e w1 ⟨rfl,hb⟩
    go_wp2_with fail
    refine hK.out _ _ ?_ (fun hS1=>?_)
    ·exact ⟨cells_kept hb _ _ hS0.1,cells_kept hb _ _ hS0.2.1,cells_kept hb _ _ hS0.2.2.1,cells_kept hb _ _ hS0.2.2.2⟩
    clear hK
    refine tkv 6 17 (.bool true) ?_
    refine tkv 7 18 (.bool true) ?_
    refine tku 8 19 ?_
    refine tku 9 20 ?_
    refine tku 10 21 ?_
    refine tku 11 22 ?_
    refine tku 12 23 ?_
    refine tku 13 24 ?_
    refine tku 14 25 ?_
    refine tku 15 26 ?_
    refine tku 16 27 ?_
    refine tku 17 28 ?_
    refine tku 18 29 ?_
    refine tku 19 30 ?_
    refine tku 20 31 ?_
    refine tku 21 32 ?_
    refine tku 22 33 ?_
    refine tku 23 34 ?_
    refine tku 24 35 ?_
    refine tku 25 36 ?_
    refine tkv 26 37 (.bool true) ?_
    refine wpAnyH_done (by kernel_rfl) ?_ _
    have bz:Below w.heap.size w w1:=bel8 bu (bel8 bd hb)
    clear hS0 hS1 hb c0 c1 c2 bd
    go_wp2
    go_ret
    exact ⟨by rw [HR.out];rfl,bz⟩
   ·by_cases hz:k=0
    ·have HK2:Hid (∀ i,i<k+1→mStep es i=true):=fun i hi=>by
      obtain rfl:i=k:=by omega
      rw [HS.out,hO,decide_eq_true hz];rfl
     have hgt:¬ (0:Int)<(k:Int):=by omega
     clear HS HK hcell
     generalize es.getD k e3d=x at *
     replace c0:=cell8 bw c0
     replace c1:=cell8 bw c1
     replace c2:=cell8 bw c2
     replace g0:=cell8 bw g0
     have kO:=fun W (hb:Below U.heap.size U W)=>specEntryOK_is x s W (hm.below hb)
     obtain ⟨xk,xb,xz⟩:=x
     obtain ⟨⟨x1,xn1,xc1⟩,⟨x2,xn2,xc2⟩⟩:=s
     unfold entV at kO
     rw [hO] at kO
     simp only at c0 c1 c2 kO
     have bd:Below U.heap.size U wr.drew:=bel8 bw (by go_grown)
     clear hO hm hz
     go_wp2_with fail
     refine wp_region_held_drew (S:=(fun w'=>w'.cell? ⟨w.heap.size,0,none⟩=some (.slice (some ⟨b,off,none⟩) n cap)∧w'.cell? ⟨b,off+k*3,none⟩=some (.string xk)∧w'.cell? ⟨b,off+k*3+1,none⟩=some (.slice x1 xn1 xc1)∧w'.cell? ⟨b,off+k*3+2,none⟩=some (.slice x2 xn2 xc2))) (by kernel_rfl) ⟨g0,c0,c1,c2⟩ (fun hS0=>?_)
     refine tkv 0 11 (.pointer (some ⟨w.heap.size,0,none⟩)) ?_
     refine tkv 1 12 (.slice (some ⟨b,off,none⟩) n cap) ?_
     refine tkv 2 13 (.int .i64 k) ?_
     refine tkv 3 14 (.pointer (some ⟨b,off+k*3,none⟩)) ?_
     refine tkv 4 15 (.agg #[.string xk,.slice x1 xn1 xc1,.slice x2 xn2 xc2]) ?_
     refine tkr 5 16 (fun K hK=>?_)
     go_simp
     refine (kO _ bd).mono ?_
     rintro e w1 ⟨rfl,hb⟩
     go_wp2_with fail
     refine hK.out _ _ ?_ (fun hS1=>?_)
     ·exact ⟨cells_kept hb _ _ hS0.1,cells_kept hb _ _ hS0.2.1,cells_kept hb _ _ hS0.2.2.1,cells_kept hb _ _ hS0.2.2.2⟩
     clear hK
     refine tkv 6 17 (.bool false) ?_
     refine tkv 7 18 (.bool false) ?_
     refine tkv 8 19 (.int .i64 k) ?_
     refine tkv 9 20 (.bool false) ?_
     refine tkv 10 21 (.bool false) ?_
     refine tku 11 22 ?_
     refine tku 12 23 ?_
     refine tku 13 24 ?_
     refine tku 14 25 ?_
     refine tku 15 26 ?_
     refine tku 16 27 ?_
     refine tku 17 28 ?_
     refine tku 18 29 ?_
     refine tku 19 30 ?_
     refine tku 20 31 ?_
     refine tku 21 32 ?_
     refine tku 22 33 ?_
     refine tku 23 34 ?_
     refine tku 24 35 ?_
     refine tkv 25 36 (.bool false) ?_
     refine tkv 26 37 (.bool false) ?_
     refine wpAnyH_done (by kernel_rfl) ?_ _
     have bz:Below U.heap.size U w1:=bel8 bd hb
     clear hS0 hS1 hb c0 c1 c2 bd
     go_wp2
     go_roundw
     case rel=>exact ⟨k+1,by omega,by go_num,HK2,bz⟩
     case measure=>simp [intOf];omega
    ·obtain ⟨m,rfl⟩:∃ m,k=m+1:=⟨k - 1,by omega⟩
     obtain ⟨s',d0,_⟩:=hcell m (by omega)
     have hgt:(0:Int)<((m+1:Nat):Int):=by omega
     have hm0:(0:Int)≤(m:Int):=by omega
     have hmn:(m:Int)<(n:Int):=by omega
     rw [show m+1 - 1=m from rfl,decide_eq_false (show ¬ m+1=0 by omega),Bool.false_or] at HS
     have hge:=fun t=>geqS t (es.getD m e3d).1 (es.getD (m+1) e3d).1
     cases hT:ltS (es.getD m e3d).1 (es.getD (m+1) e3d).1
     ·have HR:Hid (fin=false):=by rw [Hid,HF.out,allR_false (show m+1<es.length by omega) (show mStep es (m+1)=false by rw [HS.out,hO,hT];rfl)];rfl
      clear HS HF HK hcell
      replace d0:=cell8 bw d0
      generalize es.getD (m+1) e3d=x at *
      generalize (es.getD m e3d).1=yk at *
      replace c0:=cell8 bw c0
      replace c1:=cell8 bw c1
      replace c2:=cell8 bw c2
      replace g0:=cell8 bw g0
      have kO:=fun W (hb:Below U.heap.size U W)=>specEntryOK_is x s W (hm.below hb)
      obtain ⟨xk,xb,xz⟩:=x
      obtain ⟨⟨x1,xn1,xc1⟩,⟨x2,xn2,xc2⟩⟩:=s
      unfold entV at kO
      rw [hO] at kO
      simp only at c0 c1 c2 kO
      have bd:Below U.heap.size U wr.drew:=bel8 bw (by go_grown)
      rw [hT] at hge
      simp only [Bool.not_false] at hge
      clear hO hm hT
      go_wp2_with fail
      refine wp_region_held_drew (S:=(fun w'=>w'.cell? ⟨w.heap.size,0,none⟩=some (.slice (some ⟨b,off,none⟩) n cap)∧w'.cell? ⟨b,off+(m+1)*3,none⟩=some (.string xk)∧w'.cell? ⟨b,off+(m+1)*3+1,none⟩=some (.slice x1 xn1 xc1)∧w'.cell? ⟨b,off+(m+1)*3+2,none⟩=some (.slice x2 xn2 xc2)∧w'.cell? ⟨b,off+m*3,none⟩=some (.string yk))) (by kernel_rfl) ⟨g0,c0,c1,c2,d0⟩ (fun hS0=>?_)
      refine tkv 0 11 (.pointer (some ⟨w.heap.size,0,none⟩)) ?_
      refine tkv 1 12 (.slice (some ⟨b,off,none⟩) n cap) ?_
      refine tkv 2 13 (.int .i64 ((m+1:Nat):Int)) ?_
      refine tkv 3 14 (.pointer (some ⟨b,off+(m+1)*3,none⟩)) ?_
      refine tkv 4 15 (.agg #[.string xk,.slice x1 xn1 xc1,.slice x2 xn2 xc2]) ?_
      refine tkr 5 16 (fun K hK=>?_)
      go_simp
      refine (kO _ bd).mono ?_
      rintro e w1 ⟨rfl,hb⟩
      go_wp2_with fail
      refine hK.out _ _ ?_ (fun hS1=>?_)
      ·exact ⟨cells_kept hb _ _ hS0.1,cells_kept hb _ _ hS0.2.1,cells_kept hb _ _ hS0.2.2.1,cells_kept hb _ _ hS0.2.2.2.1,cells_kept hb _ _ hS0.2.2.2.2⟩
      clear hK
      refine tkv 6 17 (.bool false) ?_
      refine tkv 7 18 (.bool false) ?_
      refine tkv 8 19 (.int .i64 ((m+1:Nat):Int)) ?_
      refine tkv 9 20 (.bool true) ?_
      refine tkv 10 21 (.bool true) ?_
      refine tkv 11 22 (.pointer (some ⟨w.heap.size,0,none⟩)) ?_
      refine tkv 12 23 (.slice (some ⟨b,off,none⟩) n cap) ?_
      refine tkv 13 24 (.int .i64 ((m+1:Nat):Int)) ?_
      refine tkv 14 25 (.int .i64 (m:Int)) ?_
      refine tkv 15 26 (.pointer (some ⟨b,off+m*3,none⟩)) ?_
      refine tkv 16 27 (.pointer (some ⟨b,off+m*3,none⟩)) ?_
      refine tkv 17 28 (.string yk) ?_
      refine tkv 18 29 (.pointer (some ⟨w.heap.size,0,none⟩)) ?_
      refine tkv 19 30 (.slice (some ⟨b,off,none⟩) n cap) ?_
      refine tkv 20 31 (.int .i64 ((m+1:Nat):Int)) ?_
      refine tkv 21 32 (.pointer (some ⟨b,off+(m+1)*3,none⟩)) ?_
      refine tkv 22 33 (.pointer (some ⟨b,off+(m+1)*3,none⟩)) ?_
      refine tkv 23 34 (.string xk) ?_
      refine tkv 24 35 (.bool true) ?_
      refine tkv 25 36 (.bool true) ?_
      refine tkv 26 37 (.bool true) ?_
      refine wpAnyH_done (by kernel_rfl) ?_ _
      have bz:Below w.heap.size w w1:=bel8 bu (bel8 bd hb)
      clear hS0 hS1 hb c0 c1 c2 d0 bd hge
      go_wp2
      go_ret
      exact ⟨by rw [HR.out];rfl,bz⟩
     ·have HK2:Hid (∀ i,i<m+1+1→mStep es i=true):=fun i hi=>by
       by_cases e:i=m+1
       ·rw [e,HS.out,hO,hT];rfl
       ·exact HK.out i (by omega)
      clear HS HK hcell
      replace d0:=cell8 bw d0
      generalize es.getD (m+1) e3d=x at *
      generalize (es.getD m e3d).1=yk at *
      replace c0:=cell8 bw c0
      replace c1:=cell8 bw c1
      replace c2:=cell8 bw c2
      replace g0:=cell8 bw g0
      have kO:=fun W (hb:Below U.heap.size U W)=>specEntryOK_is x s W (hm.below hb)
      obtain ⟨xk,xb,xz⟩:=x
      obtain ⟨⟨x1,xn1,xc1⟩,⟨x2,xn2,xc2⟩⟩:=s
      unfold entV at kO
      rw [hO] at kO
      simp only at c0 c1 c2 kO
      have bd:Below U.heap.size U wr.drew:=bel8 bw (by go_grown)
      rw [hT] at hge
      simp only [Bool.not_true] at hge
      clear hO hm hT
      go_wp2_with fail
      refine wp_region_held_drew (S:=(fun w'=>w'.cell? ⟨w.heap.size,0,none⟩=some (.slice (some ⟨b,off,none⟩) n cap)∧w'.cell? ⟨b,off+(m+1)*3,none⟩=some (.string xk)∧w'.cell? ⟨b,off+(m+1)*3+1,none⟩=some (.slice x1 xn1 xc1)∧w'.cell? ⟨b,off+(m+1)*3+2,none⟩=some (.slice x2 xn2 xc2)∧w'.cell? ⟨b,off+m*3,none⟩=some (.string yk))) (by kernel_rfl) ⟨g0,c0,c1,c2,d0⟩ (fun hS0=>?_)
      refine tkv 0 11 (.pointer (some ⟨w.heap.size,0,none⟩)) ?_
      refine tkv 1 12 (.slice (some ⟨b,off,none⟩) n cap) ?_
      refine tkv 2 13 (.int .i64 ((m+1:Nat):Int)) ?_
      refine tkv 3 14 (.pointer (some ⟨b,off+(m+1)*3,none⟩)) ?_
      refine tkv 4 15 (.agg #[.string xk,.slice x1 xn1 xc1,.slice x2 xn2 xc2]) ?_
      refine tkr 5 16 (fun K hK=>?_)
      go_simp
      refine (kO _ bd).mono ?_
      rintro e w1 ⟨rfl,hb⟩
      go_wp2_with fail
      refine hK.out _ _ ?_ (fun hS1=>?_)
      ·exact ⟨cells_kept hb _ _ hS0.1,cells_kept hb _ _ hS0.2.1,cells_kept hb _ _ hS0.2.2.1,cells_kept hb _ _ hS0.2.2.2.1,cells_kept hb _ _ hS0.2.2.2.2⟩
      clear hK
      refine tkv 6 17 (.bool false) ?_
      refine tkv 7 18 (.bool false) ?_
      refine tkv 8 19 (.int .i64 ((m+1:Nat):Int)) ?_
      refine tkv 9 20 (.bool true) ?_
      refine tkv 10 21 (.bool true) ?_
      refine tkv 11 22 (.pointer (some ⟨w.heap.size,0,none⟩)) ?_
      refine tkv 12 23 (.slice (some ⟨b,off,none⟩) n cap) ?_
      refine tkv 13 24 (.int .i64 ((m+1:Nat):Int)) ?_
      refine tkv 14 25 (.int .i64 (m:Int)) ?_
      refine tkv 15 26 (.pointer (some ⟨b,off+m*3,none⟩)) ?_
      refine tkv 16 27 (.pointer (some ⟨b,off+m*3,none⟩)) ?_
      refine tkv 17 28 (.string yk) ?_
      refine tkv 18 29 (.pointer (some ⟨w.heap.size,0,none⟩)) ?_
      refine tkv 19 30 (.slice (some ⟨b,off,none⟩) n cap) ?_
      refine tkv 20 31 (.int .i64 ((m+1:Nat):Int)) ?_
      refine tkv 21 32 (.pointer (some ⟨b,off+(m+1)*3,none⟩)) ?_
      refine tkv 22 33 (.pointer (some ⟨b,off+(m+1)*3,none⟩)) ?_
      refine tkv 23 34 (.string xk) ?_
      refine tkv 24 35 (.bool false) ?_
      refine tkv 25 36 (.bool false) ?_
      refine tkv 26 37 (.bool false) ?_
      refine wpAnyH_done (by kernel_rfl) ?_ _
      have bz:Below U.heap.size U w1:=bel8 bd hb
      clear hS0 hS1 hb c0 c1 c2 d0 bd hge
      go_wp2
      go_roundw
      case rel=>exact ⟨m+1+1,by omega,by go_num,HK2,bz⟩
      case measure=>simp [intOf];omega
  ·obtain rfl:k=n:=by omega
   have g1:=cell8 bw g0
   by_cases h2:es.length≤2000
   ·have HR:Hid (fin=true):=by rw [Hid,HF.out,allR_true (fun i hi=>HK.out i (by omega)),decide_eq_true h2];rfl
    have hle:decide ((k:Int)≤2000)=true:=by simp;omega
    clear HF HK hcase h2
    go_wp2
    go_ret
    exact ⟨by rw [HR.out];rfl,bel8 bu bw⟩
   ·have HR:Hid (fin=false):=by rw [Hid,HF.out,decide_eq_false h2,Bool.and_false]
    have hle:decide ((k:Int)≤2000)=false:=by simp;omega
    clear HF HK hcase h2
    go_wp2
    go_ret
    exact ⟨by rw [HR.out];rfl,bel8 bu bw⟩


def EntO (w0 w:World) (B:Nat) (v:Value) (es:List E3):Prop:=∃ L:List EQ,L.map (·.1)=es∧w.ownsRow B 45 3 v L.length (entL L)∧∀ x ∈ L,Emem w0 x.2 x.1
theorem EntO.below {w0 w w':World} {B:Nat} {v:Value} {es:List E3} (h:EntO w0 w B v es) (hb:Below w.heap.size w w'):EntO w0 w' B v es:=by
 obtain ⟨L,h1,h2,h3⟩:=h
 exact ⟨L,h1,owns8 h2 hb,h3⟩
theorem EntO.ents {w0 w:World} {B:Nat} {a:Option Addr} {n c:Nat} {es:List E3} (h:EntO w0 w B (.slice a n c) es) (hb:Below w0.heap.size w0 w):Ents w a n c es:=by
 obtain ⟨L,rfl,h2,h3⟩:=h
 obtain ⟨a',c',e⟩:=slice8 h2
 injection e with e1 e2 e3
 subst e1 e2 e3
 exact (EntQ.of_owns h2 (fun x hx=>(h3 x hx).below hb)).ents
theorem EntO.low {w0 w:World} {B:Nat} {v:Value} {es:List E3} (h:EntO w0 w B v es) {p:Addr} (hp:p.block<B) (u:Value):EntO w0 (w.setCell p u) B v es:=by
 obtain ⟨L,h1,h2,h3⟩:=h
 exact ⟨L,h1,ownsRow_setCell_below h2 hp u,h3⟩
theorem entL_snoc (L:List EQ) (x:EQ):entL (L++[x])=entL L++entC x.1.1 x.2:=by
 rw [entL_append]
 simp [entL]
def EntsGot (x:Ending) (w':World) (es:List E3):Prop:=∃ a n c,x=.returned (.agg #[.slice a n c])∧Ents w' a n c es
theorem EntsGot.mk9 {w':World} {a:Option Addr} {n c:Nat} {es:List E3} (h:Ents w' a n c es):EntsGot (.returned (.agg #[.slice a n c])) w' es:=⟨a,n,c,rfl,h⟩

theorem l10Keep_is (a:Option Addr) (n cap:Nat) (es:List E3) (ch:List Int) (a':Option Addr) (n' c':Nat) (w:World) (h:Ents w a n cap es) (hok:memOk es=true) (hC:Ints .i64 w a' n' c' ch) (hn':n'≤4096) :
  Calls Tryz.prog 34 #[.agg #[.slice a n cap],.slice a' n' c'] w fun e w'=>EntsGot e w' (keepE es ch)∧Below w.heap.size w w':=by
 obtain ⟨i0,hi0,hz0,hz1,hz2⟩:=info_parts info_entry
 have hl:=h.1
 have hcl:=hC.1
 have hn:n≤2000:=by have:=memOk_len hok;omega
 have bu:Below w.heap.size w ((w.alloc (.cells #[.slice a n cap] 33)).alloc (.cells #[.slice none 0 0] 33)):=by go_grown
 have pM:Blk ((w.alloc (.cells #[.slice a n cap] 33)).alloc (.cells #[.slice none 0 0] 33)) w.heap.size 33 [.slice a n cap]:=blkOld _ (blkAt _ _ _ rfl)
 have pR:Blk ((w.alloc (.cells #[.slice a n cap] 33)).alloc (.cells #[.slice none 0 0] 33)) (w.heap.size+1) 33 [.slice none 0 0]:=blkAt _ _ _ (by simp)
 have g0:=pM.cell 0
 simp only [List.getElem?_cons_zero] at g0
 have bE:Below ((w.alloc (.cells #[.slice a n cap] 33)).alloc (.cells #[.slice none 0 0] 33)).heap.size ((w.alloc (.cells #[.slice a n cap] 33)).alloc (.cells #[.slice none 0 0] 33)) (((w.alloc (.cells #[.slice a n cap] 33)).alloc (.cells #[.slice none 0 0] 33)).alloc (.cells #[] 45)):=by go_grown
 have M0:EntO w (((w.alloc (.cells #[.slice a n cap] 33)).alloc (.cells #[.slice none 0 0] 33)).alloc (.cells #[] 45)) (w.heap.size+2) (.slice (some ⟨w.heap.size+1+1,0,none⟩) 0 0) []:=by
  have h9:=empty8 ((w.alloc (.cells #[.slice a n cap] 33)).alloc (.cells #[.slice none 0 0] 33)) 45 3 (w.heap.size+2) (by simp)
  exact ⟨[],rfl,by simpa [entL] using h9,by simp⟩
 have bU:=bel8 bu bE
 have gU:=cell8 bE g0
 have rU:=pR.below bE
 go_enter Tryz.func34,Tryz.ntmps34
 go_wp2_with fail
 generalize (((w.alloc (.cells #[.slice a n cap] 33)).alloc (.cells #[.slice none 0 0] 33)).alloc (.cells #[] 45))=U at *
 have rUs:w.heap.size+2≤U.heap.size:=by have:=rU.lt;omega
 go_loopw [5,6] (fun so si wr=>∃ (k:Nat) (va:Option Addr) (vn vc:Nat),k≤n∧si=.int .i64 k∧so=.slice va vn vc∧EntO w wr (w.heap.size+2) (.slice va vn vc) (keepE (es.take k) ch)∧Below w.heap.size w wr∧wr.cell? ⟨w.heap.size,0,none⟩=some (.slice a n cap)∧Blk wr (w.heap.size+1) 33 [.slice none 0 0]∧w.heap.size+2≤wr.heap.size) (fun _ si _=>n - (intOf si).toNat)
 case atStart=>exact ⟨0,_,_,_,by omega,rfl,rfl,by simpa [keepE] using M0,bU,gU,rU,rUs⟩
 case round =>
  obtain ⟨k,xa,xn,xc,hk,rfl,rfl,hM,bw,gw,pW,hsW⟩:=hrel
  by_cases hlt:k<n
  ·have hM0:=h
   obtain ⟨_,_,_,hcase⟩:=h
   rcases hcase with e0 | ⟨b,off,rfl,hb,hc⟩
   ·omega
   obtain ⟨s,x0,x1,x2,hm⟩:=hc k hlt
   replace x0:=cell8 bw x0
   replace x1:=cell8 bw x1
   replace x2:=cell8 bw x2
   clear hc hb
   have y2:=entOk_foot (memOk_ent hok (i:=k) (by omega))
   have kT:=specTouches_is s.2.1 s.2.2.1 s.2.2.2 (es.getD k e3d).2.2 a' n' c' ch wr ((hm.below bw).2.2.1) (hC.below bw) (by have:=hm.2.2.1.1;omega) (by omega)
   have hTT:tchV (es.getD k e3d).2.2 ch=tchB (es.getD k e3d).2.2 ch:=by
    unfold tchV
    rw [decide_eq_true (show (es.getD k e3d).2.2.length≤4096 by omega),decide_eq_true (show ch.length≤4096 by omega),Bool.true_and,Bool.true_and]
   rw [hTT] at kT
   have hsn:=keep_snoc9 (es:=es) (ch:=ch) (k:=k) (by omega)
   clear hTT y2
   generalize es.getD k e3d=x at *
   generalize hps:keepE (es.take k) ch=ps at *
   have hpl:ps.length≤2000:=by rw [← hps];unfold keepE;refine Nat.le_trans (List.length_filter_le _ _) ?_;rw [List.length_take];omega
   clear hps
   have HS:Hid (keepE (es.take (k+1)) ch=if tchB x.2.2 ch then ps else ps++[x]):=hsn
   clear hsn
   obtain ⟨xk,xb,xz⟩:=x
   obtain ⟨⟨a1,n1,c1⟩,⟨a2,n2,c2⟩⟩:=s
   simp only at x0 x1 x2 kT HS
   have hlt':(k:Int)<(n:Int):=by omega
   have hk0:(0:Int)≤(k:Int):=by omega
   generalize tchB xz ch=tb at *
   cases tb
   ·replace HS:Hid (keepE (es.take (k+1)) ch=ps++[(xk,xb,xz)]):=HS.out
    obtain ⟨L,hL,ho,hLm⟩:=hM
    have hLl:L.length=ps.length:=by rw [← hL,List.length_map]
    have hLb:L.length≤2000:=by omega
    clear hLl hpl
    have hb2:Below wr.heap.size wr (wr.alloc (.cells #[.string xk,.slice a1 n1 c1,.slice a2 n2 c2] 45)):=by go_grown
    have ho2:=owns8 ho hb2
    have hs2:w.heap.size+2≤(wr.alloc (.cells #[.string xk,.slice a1 n1 c1,.slice a2 n2 c2] 45)).heap.size:=by have:=hb2.size;omega
    go_wp2_with fail
    refine kT.mono ?_
    rintro e wt ⟨rfl,rfl⟩
    go_wp2_with (at_builtin;refine wpList_app9 rfl _ _ 31 rfl (w.heap.size+2) 45 i0 (.agg #[.string ⟨#[]⟩,.slice none 0 0,.slice none 0 0]) 3 64 Tryz.underlying31 hi0 hz0 hz1 hz2 rfl (by decide) _ _ _ rfl ho2 _ 1 1 rfl (fun h9=>by cases h9) (entC xk ((a1,n1,c1),(a2,n2,c2))) (by simp [entC]) (news_new9 wr [.string xk,.slice a1 n1 c1,.slice a2 n2 c2] 45) (entC_one _ _) (by unfold maxLen;omega) (by omega) hs2 ?_)
    intro v3 w3 hown hgrow _
    obtain ⟨va9,vc9,rfl⟩:=slice8 hown
    have hM3:EntO w w3 (w.heap.size+2) (.slice va9 (L.length+1) vc9) (ps++[(xk,xb,xz)]):=⟨L++[((xk,xb,xz),((a1,n1,c1),(a2,n2,c2)))],by rw [List.map_append,hL];rfl,by rw [entL_snoc,List.length_append];exact hown,fun y hy=>by
     rcases List.mem_append.1 hy with h9 | h9
     ·exact hLm y h9
     ·rw [List.mem_singleton.1 h9];exact hm⟩
    have hgB:∀ g,(Value.ownBlock (.slice xa xn xc))=some g→w.heap.size+2≤g:=fun g hg=>(ho2.lt g hg).1
    have b3:Below w.heap.size w w3:=(bel8 bw hb2).grown hgrow (by omega) (fun g hg=>by have:=hgB g hg;omega)
    have g3:=(Blk.kept (pW.below hb2) hgrow (fun e9=>by have:=hgB _ e9;omega))
    have c3:w3.cell? ⟨w.heap.size,0,none⟩=some (.slice (some ⟨b,off,none⟩) n cap):=grown8 hgrow (cell8 hb2 gw) (fun e9=>by have:=hgB _ e9.symm;simp at this;omega)
    have s3:w.heap.size+2≤w3.heap.size:=Nat.le_trans hs2 hgrow.size
    clear ho ho2 hs2 hown hgrow hgB hb2 kT x0 x1 x2 hLm hL
    go_wp2
    go_roundw
    case rel=>exact ⟨k+1,_,_,_,by omega,by go_num,rfl,by rw [HS.out];exact hM3,b3,c3,g3,s3⟩
    case measure=>simp [intOf];omega
   ·replace HS:Hid (keepE (es.take (k+1)) ch=ps):=HS.out
    go_wp2_with fail
    refine kT.mono ?_
    rintro e wt ⟨rfl,rfl⟩
    clear kT x0 x1 x2
    go_wp2
    go_roundw
    case rel=>exact ⟨k+1,_,_,_,by omega,by go_num,rfl,by rw [HS.out];exact hM,bw,gw,pW,hsW⟩
    case measure=>simp [intOf];omega
  ·obtain rfl:k=n:=by omega
   have e9:keepE (es.take k) ch=keepE es ch:=by rw [List.take_of_length_le (by omega)]
   rw [e9] at hM
   have r0:=pW.cell 0
   have fr0:=pW.frozen 0
   have pZ:=pW.set 0 (.slice xa xn xc)
   simp only [List.set_cons_zero] at pZ
   have z0:=pZ.cell 0
   simp only [List.getElem?_cons_zero] at z0 r0
   have bz:=bw.setCell (p:=⟨w.heap.size+1,0,none⟩) (show w.heap.size≤w.heap.size+1 by omega) (.slice xa xn xc)
   have hM9:=(hM.low (p:=⟨w.heap.size+1,0,none⟩) (show w.heap.size+1<w.heap.size+2 by omega) (.slice xa xn xc)).ents bz
   clear hM pZ pW bw e9
   go_wp2
   refine bodyPost_ret (by simp [results,Tryz.results34,go_sem,z0];try rfl) rfl ?_
   exact ⟨EntsGot.mk9 hM9,bz⟩

def kpeM (es:List E3) (ch:List Int):List E3:=if ch.length≤4096∧memOk es=true∧allIt ch=true then keepE es ch else []
def kpeC (es:List E3) (ch:List Int):Int:=if 4096<ch.length then 2 else if memOk es=true then (if allIt ch=true then 0 else 4) else 1
def MemGotC (x:Ending) (w':World) (B:Nat) (es:List E3) (c:Int):Prop:=∃ v,x=.returned (.tuple #[.agg #[v],.int .i64 c])∧OwnM w' B v es
theorem MemGotC.mk9 {w':World} {B:Nat} {v:Value} {es:List E3} {c:Int} (h:OwnM w' B v es):MemGotC (.returned (.tuple #[.agg #[v],.int .i64 c])) w' B es c:=⟨v,rfl,h⟩

theorem specKeepEntries_is (a:Option Addr) (n cap:Nat) (es:List E3) (a':Option Addr) (n' c':Nat) (ch:List Int) (w:World) (h:Ents w a n cap es) (hC:Ints .i64 w a' n' c' ch) (hn':n'≤1048576) (hwf:wfs ch) :
  Calls Tryz.prog 11 #[.agg #[.slice a n cap],.slice a' n' c'] w fun e w'=>MemGotC e w' w.heap.size (kpeM es ch) (kpeC es ch)∧Below w.heap.size w w':=by
 have hcl:=hC.1
 have bw:Below w.heap.size w ((w.alloc (.cells #[.slice a n cap] 33)).alloc (.cells #[.slice none 0 0] 33)):=by go_grown
 have pM:Blk ((w.alloc (.cells #[.slice a n cap] 33)).alloc (.cells #[.slice none 0 0] 33)) w.heap.size 33 [.slice a n cap]:=blkOld _ (blkAt _ _ _ rfl)
 have pR:Blk ((w.alloc (.cells #[.slice a n cap] 33)).alloc (.cells #[.slice none 0 0] 33)) (w.heap.size+1) 33 [.slice none 0 0]:=blkAt _ _ _ (by simp)
 have g0:=pM.cell 0
 simp only [List.getElem?_cons_zero] at g0
 have kM:=fun W (hb:Below w.heap.size w W)=>specMemoOK_is a n cap es W (h.below hb)
 have kA:=fun W (hb:Below w.heap.size w W)=>l08All_is a' n' c' ch W (hC.below hb) hn' hwf
 unfold kpeM kpeC
 by_cases h1:4096<n'
 ·rw [if_neg (by omega),if_pos (by omega)]
  have h2:(4096:Int)<(n':Int):=by omega
  clear kM kA g0
  go_enter Tryz.func11,Tryz.ntmps11
  have r0:=pR.cell 0
  have fr0:=pR.frozen 0
  have pZ:=pR.set 0 (.slice none 0 0)
  simp only [List.set_cons_zero] at pZ
  have z0:=pZ.cell 0
  simp only [List.getElem?_cons_zero] at z0 r0
  have bz:=bw.setCell (p:=⟨w.heap.size+1,0,none⟩) (show w.heap.size≤w.heap.size+1 by omega) (.slice none 0 0)
  clear pZ pR pM
  go_wp2
  refine bodyPost_ret (by simp [results,Tryz.results11,go_sem,z0];try rfl) rfl ?_
  first | exact ⟨MemGotC.mk9 (OwnM.nil9 _ _),bz⟩ | exact ⟨MemGotC.mk9 (OwnM.nil9 _ _),by go_grown⟩
 ·have h2:¬ (4096:Int)<(n':Int):=by omega
  rw [if_neg (show ¬ 4096<ch.length by omega)]
  cases hok:memOk es
  ·rw [if_neg (by simp),if_neg (by simp)]
   rw [hok] at kM
   go_enter Tryz.func11,Tryz.ntmps11
   go_wp2_with fail
   generalize ((w.alloc (.cells #[.slice a n cap] 33)).alloc (.cells #[.slice none 0 0] 33))=U at *
   refine (kM _ bw).mono ?_
   rintro e w1 ⟨rfl,hb⟩
   replace bw:=bel8 bw hb
   replace pR:=pR.below hb
   replace pM:=pM.below hb
   clear hb kM kA g0 hok
   have r0:=pR.cell 0
   have fr0:=pR.frozen 0
   have pZ:=pR.set 0 (.slice none 0 0)
   simp only [List.set_cons_zero] at pZ
   have z0:=pZ.cell 0
   simp only [List.getElem?_cons_zero] at z0 r0
   have bz:=bw.setCell (p:=⟨w.heap.size+1,0,none⟩) (show w.heap.size≤w.heap.size+1 by omega) (.slice none 0 0)
   clear pZ pR pM
   go_wp2
   refine bodyPost_ret (by simp [results,Tryz.results11,go_sem,z0];try rfl) rfl ?_
   first | exact ⟨MemGotC.mk9 (OwnM.nil9 _ _),bz⟩ | exact ⟨MemGotC.mk9 (OwnM.nil9 _ _),by go_grown⟩
  ·rw [hok] at kM
   cases hA:allIt ch
   ·rw [if_neg (by simp),if_pos rfl,if_neg (by simp)]
    rw [hA] at kA
    go_enter Tryz.func11,Tryz.ntmps11
    go_wp2_with fail
    generalize ((w.alloc (.cells #[.slice a n cap] 33)).alloc (.cells #[.slice none 0 0] 33))=U at *
    refine (kM _ bw).mono ?_
    rintro e w1 ⟨rfl,hb⟩
    replace bw:=bel8 bw hb
    replace pR:=pR.below hb
    replace pM:=pM.below hb
    replace g0:=pM.cell 0
    simp only [List.getElem?_cons_zero] at g0
    clear hb kM
    go_wp2_with fail
    refine (kA _ bw).mono ?_
    rintro e w2 ⟨rfl,rfl⟩
    clear kA g0 hok hA
    have r0:=pR.cell 0
    have fr0:=pR.frozen 0
    have pZ:=pR.set 0 (.slice none 0 0)
    simp only [List.set_cons_zero] at pZ
    have z0:=pZ.cell 0
    simp only [List.getElem?_cons_zero] at z0 r0
    have bz:=bw.setCell (p:=⟨w.heap.size+1,0,none⟩) (show w.heap.size≤w.heap.size+1 by omega) (.slice none 0 0)
    clear pZ pR pM
    go_wp2
    refine bodyPost_ret (by simp [results,Tryz.results11,go_sem,z0];try rfl) rfl ?_
    first | exact ⟨MemGotC.mk9 (OwnM.nil9 _ _),bz⟩ | exact ⟨MemGotC.mk9 (OwnM.nil9 _ _),by go_grown⟩
   ·rw [if_pos ⟨by omega,rfl,rfl⟩,if_pos rfl,if_pos rfl]
    rw [hA] at kA
    go_enter Tryz.func11,Tryz.ntmps11
    go_wp2_with fail
    generalize ((w.alloc (.cells #[.slice a n cap] 33)).alloc (.cells #[.slice none 0 0] 33))=U at *
    refine (kM _ bw).mono ?_
    rintro e w1 ⟨rfl,hb⟩
    replace bw:=bel8 bw hb
    replace pR:=pR.below hb
    replace pM:=pM.below hb
    replace g0:=pM.cell 0
    simp only [List.getElem?_cons_zero] at g0
    clear hb kM
    have kK:=l10Keep_is a n cap es ch a' n' c' w1 (h.below bw) hok (hC.below bw) (by omega)
    have hok2:=keepE_ok hok ch
    clear hok hA
    go_wp2_with fail
    refine (kA _ bw).mono ?_
    rintro e w2 ⟨rfl,rfl⟩
    go_wp2_with fail
    refine kK.mono ?_
    rintro e w2 ⟨⟨ka,kn,kc,rfl,hK⟩,hb⟩
    have kO:=l10Own_is ka kn kc (keepE es ch) w2 hK hok2
    replace bw:=bel8 bw hb
    replace pR:=pR.below hb
    clear hb
    go_wp2_with fail
    refine kO.mono ?_
    rintro e w3 ⟨⟨v,rfl,hM⟩,hb⟩
    obtain ⟨va,vc,rfl⟩:=hM.slice9
    have hlow:=pR.lt
    replace bw:=bel8 bw hb
    replace pR:=pR.below hb
    have r0:=pR.cell 0
    have fr0:=pR.frozen 0
    have pZ:=pR.set 0 (.slice va (keepE es ch).length vc)
    simp only [List.set_cons_zero] at pZ
    have z0:=pZ.cell 0
    simp only [List.getElem?_cons_zero] at z0 r0
    have bz:=bw.setCell (p:=⟨w.heap.size+1,0,none⟩) (show w.heap.size≤w.heap.size+1 by omega) (.slice va (keepE es ch).length vc)
    have hM9:=(hM.low (p:=⟨w.heap.size+1,0,none⟩) (show w.heap.size+1<w2.heap.size from hlow) (.slice va (keepE es ch).length vc)).lower (show w.heap.size≤w2.heap.size by omega)
    clear pZ pR pM hM g0
    generalize (keepE es ch).length=kl at *
    go_wp2
    refine bodyPost_ret (by simp [results,Tryz.results11,go_sem,z0];try rfl) rfl ?_
    exact ⟨MemGotC.mk9 hM9,bz⟩

theorem implKeepEntries_is (a:Option Addr) (n cap:Nat) (es:List E3) (a':Option Addr) (n' c':Nat) (ch:List Int) (w:World) (h:Ents w a n cap es) (hC:Ints .i64 w a' n' c' ch) (hn':n'≤1048576) (hwf:wfs ch) (hV:VmShape w) :
  Calls Tryz.prog 10 #[.agg #[.slice a n cap],.slice a' n' c'] w fun e w'=>MemGotC e w' w.heap.size (kpeM es ch) (kpeC es ch)∧Below w.heap.size w w':=by
 have hcl:=hC.1
 have bw:Below w.heap.size w ((w.alloc (.cells #[.slice a n cap] 33)).alloc (.cells #[.slice none 0 0] 33)):=by go_grown
 have pM:Blk ((w.alloc (.cells #[.slice a n cap] 33)).alloc (.cells #[.slice none 0 0] 33)) w.heap.size 33 [.slice a n cap]:=blkOld _ (blkAt _ _ _ rfl)
 have pR:Blk ((w.alloc (.cells #[.slice a n cap] 33)).alloc (.cells #[.slice none 0 0] 33)) (w.heap.size+1) 33 [.slice none 0 0]:=blkAt _ _ _ (by simp)
 have g0:=pM.cell 0
 simp only [List.getElem?_cons_zero] at g0
 have kM:=fun W (hb:Below w.heap.size w W)=>implMemoOK_is a n cap es W (h.below hb) (hV.below hb)
 have kA:=fun W (hb:Below w.heap.size w W)=>itemsOK_is a' n' c' ch W (hC.below hb) hn' hwf
 unfold kpeM kpeC
 by_cases h1:4096<n'
 ·rw [if_neg (by omega),if_pos (by omega)]
  have h2:(4096:Int)<(n':Int):=by omega
  clear kM kA g0
  go_enter Tryz.func10,Tryz.ntmps10
  have r0:=pR.cell 0
  have fr0:=pR.frozen 0
  have pZ:=pR.set 0 (.slice none 0 0)
  simp only [List.set_cons_zero] at pZ
  have z0:=pZ.cell 0
  simp only [List.getElem?_cons_zero] at z0 r0
  have bz:=bw.setCell (p:=⟨w.heap.size+1,0,none⟩) (show w.heap.size≤w.heap.size+1 by omega) (.slice none 0 0)
  clear pZ pR pM
  go_wp2
  refine bodyPost_ret (by simp [results,Tryz.results10,go_sem,z0];try rfl) rfl ?_
  first | exact ⟨MemGotC.mk9 (OwnM.nil9 _ _),bz⟩ | exact ⟨MemGotC.mk9 (OwnM.nil9 _ _),by go_grown⟩
 ·have h2:¬ (4096:Int)<(n':Int):=by omega
  rw [if_neg (show ¬ 4096<ch.length by omega)]
  cases hok:memOk es
  ·rw [if_neg (by simp),if_neg (by simp)]
   rw [hok] at kM
   go_enter Tryz.func10,Tryz.ntmps10
   go_wp2_with fail
   generalize ((w.alloc (.cells #[.slice a n cap] 33)).alloc (.cells #[.slice none 0 0] 33))=U at *
   refine (kM _ bw).mono ?_
   rintro e w1 ⟨rfl,hb⟩
   replace bw:=bel8 bw hb
   replace pR:=pR.below hb
   replace pM:=pM.below hb
   clear hb kM kA g0 hok
   have r0:=pR.cell 0
   have fr0:=pR.frozen 0
   have pZ:=pR.set 0 (.slice none 0 0)
   simp only [List.set_cons_zero] at pZ
   have z0:=pZ.cell 0
   simp only [List.getElem?_cons_zero] at z0 r0
   have bz:=bw.setCell (p:=⟨w.heap.size+1,0,none⟩) (show w.heap.size≤w.heap.size+1 by omega) (.slice none 0 0)
   clear pZ pR pM
   go_wp2
   refine bodyPost_ret (by simp [results,Tryz.results10,go_sem,z0];try rfl) rfl ?_
   first | exact ⟨MemGotC.mk9 (OwnM.nil9 _ _),bz⟩ | exact ⟨MemGotC.mk9 (OwnM.nil9 _ _),by go_grown⟩
  ·rw [hok] at kM
   cases hA:allIt ch
   ·rw [if_neg (by simp),if_pos rfl,if_neg (by simp)]
    rw [hA] at kA
    go_enter Tryz.func10,Tryz.ntmps10
    go_wp2_with fail
    generalize ((w.alloc (.cells #[.slice a n cap] 33)).alloc (.cells #[.slice none 0 0] 33))=U at *
    refine (kM _ bw).mono ?_
    rintro e w1 ⟨rfl,hb⟩
    replace bw:=bel8 bw hb
    replace pR:=pR.below hb
    replace pM:=pM.below hb
    replace g0:=pM.cell 0
    simp only [List.getElem?_cons_zero] at g0
    clear hb kM
    go_wp2_with fail
    refine (kA _ bw).mono ?_
    rintro e w2 ⟨rfl,rfl⟩
    clear kA g0 hok hA
    have r0:=pR.cell 0
    have fr0:=pR.frozen 0
    have pZ:=pR.set 0 (.slice none 0 0)
    simp only [List.set_cons_zero] at pZ
    have z0:=pZ.cell 0
    simp only [List.getElem?_cons_zero] at z0 r0
    have bz:=bw.setCell (p:=⟨w.heap.size+1,0,none⟩) (show w.heap.size≤w.heap.size+1 by omega) (.slice none 0 0)
    clear pZ pR pM
    go_wp2
    refine bodyPost_ret (by simp [results,Tryz.results10,go_sem,z0];try rfl) rfl ?_
    first | exact ⟨MemGotC.mk9 (OwnM.nil9 _ _),bz⟩ | exact ⟨MemGotC.mk9 (OwnM.nil9 _ _),by go_grown⟩
   ·rw [if_pos ⟨by omega,rfl,rfl⟩,if_pos rfl,if_pos rfl]
    rw [hA] at kA
    go_enter Tryz.func10,Tryz.ntmps10
    go_wp2_with fail
    generalize ((w.alloc (.cells #[.slice a n cap] 33)).alloc (.cells #[.slice none 0 0] 33))=U at *
    refine (kM _ bw).mono ?_
    rintro e w1 ⟨rfl,hb⟩
    replace bw:=bel8 bw hb
    replace pR:=pR.below hb
    replace pM:=pM.below hb
    replace g0:=pM.cell 0
    simp only [List.getElem?_cons_zero] at g0
    clear hb kM
    have kK:=kept_is a n cap es ch a' n' c' w1 (h.below bw) hok (hC.below bw) (by omega) hwf
    clear hok hA
    go_wp2_with fail
    refine (kA _ bw).mono ?_
    rintro e w2 ⟨rfl,rfl⟩
    go_wp2_with fail
    refine kK.mono ?_
    rintro e w2 ⟨⟨v,rfl,hM⟩,hb⟩
    obtain ⟨va,vc,rfl⟩:=hM.slice9
    have hlow:=pR.lt
    replace bw:=bel8 bw hb
    replace pR:=pR.below hb
    have r0:=pR.cell 0
    have fr0:=pR.frozen 0
    have pZ:=pR.set 0 (.slice va (keepE es ch).length vc)
    simp only [List.set_cons_zero] at pZ
    have z0:=pZ.cell 0
    simp only [List.getElem?_cons_zero] at z0 r0
    have bz:=bw.setCell (p:=⟨w.heap.size+1,0,none⟩) (show w.heap.size≤w.heap.size+1 by omega) (.slice va (keepE es ch).length vc)
    have hM9:=(hM.low (p:=⟨w.heap.size+1,0,none⟩) (show w.heap.size+1<w1.heap.size from hlow) (.slice va (keepE es ch).length vc)).lower (show w.heap.size≤w1.heap.size by omega)
    clear pZ pR pM hM g0
    generalize (keepE es ch).length=kl at *
    go_wp2
    refine bodyPost_ret (by simp [results,Tryz.results10,go_sem,z0];try rfl) rfl ?_
    exact ⟨MemGotC.mk9 hM9,bz⟩
end Go.Proofs.YtgmhhegckcionaaGreatDoor
