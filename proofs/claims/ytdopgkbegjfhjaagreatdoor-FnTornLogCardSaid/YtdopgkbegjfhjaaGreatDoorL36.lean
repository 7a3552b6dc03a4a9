/-
  Joined: MrgB, DrwB, Drawn, Drawn2, ItsD, KeyB, EsO.
-/
import Derived.Test.YtdopgkbegjfhjaaGreatDoorL34
import Derived.Test.YtdopgkbegjfhjaaGreatDoorL35

namespace Go.Proofs.YtdopgkbegjfhjaaGreatDoor
set_option maxRecDepth 100000
set_option maxHeartbeats 16000000
open Go.RowKit
set_option linter.unusedVariables false
set_option linter.unusedSimpArgs false

def okBs (xs:List I3):Bool:=xs.all okB
def BugsOne (e:Ending) (w:World) (B:Nat) (zs:List I3):Prop:=∃ v,e=.returned v∧w.ownsRow B 112 3 v zs.length (flat zs)
theorem fits_put {zs:List I3} {x:I3} (h:∀ z ∈ zs,I3.fits z) (hx:I3.fits x):∀ z ∈ putB zs x,I3.fits z:=fun z hz=>by
 rcases mem_putB.1 hz with e | e
 ·exact h z e
 ·rw [e];exact hx
theorem fits_putAll {xs ys:List I3} (h:∀ z ∈ xs,I3.fits z) (k:∀ z ∈ ys,I3.fits z):∀ z ∈ putAll xs ys,I3.fits z:=fun z hz=>by
 rcases mem_putAll.1 hz with e | e
 ·exact h z e
 ·exact k z e
theorem putAll_snoc (out xs:List I3) {k:Nat} (hk:k<xs.length):putAll out (xs.take (k+1))=putB (putAll out (xs.take k)) (xs.getD k (0,0,0)):=by
 unfold putAll
 rw [List.take_add_one,List.foldl_append,List.getElem?_eq_getElem hk]
 simp [List.getD,List.getElem?_eq_getElem hk]
theorem getD_memB {xs:List I3} {k:Nat} (hk:k<xs.length):xs.getD k (0,0,0) ∈ xs:=by
 rw [List.getD,List.getElem?_eq_getElem hk,Option.getD_some]
 exact List.getElem_mem hk
def Under (w wr:World) (v:Value) (zs:List I3):Prop:=(∃ g c,v=.slice (some ⟨g,0,none⟩) zs.length c)∧wr.ownsRow w.heap.size 112 3 v zs.length (flat zs)∧(∀ z ∈ zs,I3.fits z)∧zs.length≤1000000

theorem l04Merge_is (a0:Option Addr) (n0 c0:Nat) (xs:List I3) (a1:Option Addr) (n1 c1:Nat) (ys:List I3) (w:World) (h0:Instrs w a0 n0 c0 xs) (h1:Instrs w a1 n1 c1 ys) (m0:n0≤400000) (m1:n1≤400000) :
  Calls Tryz.prog 60 #[.slice a0 n0 c0,.slice a1 n1 c1] w fun e w'=>BugsOne e w' w.heap.size (mergeB xs ys)∧Below w.heap.size w w':=by
 have l0:=h0.1
 have l1:=h1.1
 have f0:=h0.2.2.2.1
 have f1:=h1.2.2.2.1
 have q0:Under w (w.alloc (.cells #[] 112)) (.slice (some ⟨w.heap.size,0,none⟩) 0 0) []:=⟨⟨_,_,rfl⟩,own_emptyB w 112 3 w.heap.size (Nat.le_refl _),by simp,by simp⟩
 have bw0:Below w.heap.size w (w.alloc (.cells #[] 112)):=by go_grown
 go_enter Tryz.func60,Tryz.ntmps60
 go_wp2_with fail
 generalize w.alloc (.cells #[] 112)=W0 at *
 go_loopw [5,6] (fun so si wr=>∃ (k:Nat) (v:Value),v=so∧k≤n0∧si=.int .i64 k∧Under w wr v (putAll [] (xs.take k))∧Below w.heap.size w wr) (fun _ si _=>n0 - (intOf si).toNat)
 case atStart=>exact ⟨0,_,rfl,by omega,rfl,q0,bw0⟩
 case round =>
  clear q0 bw0
  obtain ⟨k,so,rfl,hk,rfl,⟨⟨g,c,rfl⟩,hq,hf,hz⟩,bw⟩:=hrel
  by_cases hlt:k<n0
  ·obtain ⟨zs,hzs⟩:∃ zs,zs=putAll [] (xs.take k):=⟨_,rfl⟩
   rw [← hzs] at hq hf hz
   try rw [← hzs]
   have hZ:=Instrs.of_owns hq rfl hf rfl
   obtain ⟨_,_,_,_,hcase⟩:=h0.below bw
   rcases hcase with e0 | ⟨b,off,rfl,hb,hc⟩
   ·omega
   obtain ⟨d0,d1,d2⟩:=hc k hlt
   clear hc hb
   obtain ⟨x,hx⟩:∃ x,x=xs.getD k (0,0,0):=⟨_,rfl⟩
   have hfx:I3.fits x:=by rw [hx];exact f0 _ (getD_memB (by omega))
   have hnew:putB zs x=putAll [] (xs.take (k+1)):=by rw [hzs,hx];exact (putAll_snoc [] xs (by omega)).symm
   rw [← hx] at d0 d1 d2
   have HN:Hid (putB zs x=putAll [] (xs.take (k+1))):=hnew
   have hzl:zs.length≤k:=by rw [hzs];have:=putAll_len (xs.take k) [];simp at this;omega
   clear hx hnew hzs
   have kP:=l04Put_is g 0 zs.length c zs x wr hZ (by omega)
   have hpl:=putB_len zs x
   have hpf:=fits_put hf hfx
   have hp0:0<(putB zs x).length:=List.length_pos_of_mem (mem_putB.2 (.inr rfl))
   generalize zs.length=m at *
   obtain ⟨x0,x1,x2⟩:=x
   unfold I3.val at kP
   simp only at d0 d1 d2 kP
   clear hZ hq
   have hlt':(k:Int)<(n0:Int):=by omega
   have hk0:(0:Int)≤(k:Int):=by omega
   go_wp2_with fail
   refine kP.mono ?_
   rintro e w1 ⟨⟨v1,rfl,hq1⟩,hb1⟩
   clear kP d0 d1 d2
   have bw1:=bel_trans bw hb1
   obtain ⟨g1,e1,rfl⟩:=own_someB hq1 hp0
   have hU:Under w w1 (.slice (some ⟨g1,0,none⟩) (putB zs (x0,x1,x2)).length e1) (putAll [] (xs.take (k+1))):=by
    rw [← HN.out]
    exact ⟨⟨_,_,rfl⟩,own_lowerB hq1 bw.size,hpf,by omega⟩
   generalize (putB zs (x0,x1,x2)).length=m1 at *
   clear hq1 hpf
   go_wp2
   go_roundw
   case rel=>exact ⟨k+1,_,rfl,by omega,by go_num,hU,bw1⟩
   case measure=>simp [intOf];omega
  ·obtain rfl:k=n0:=by omega
   have hU:Under w wr (.slice (some ⟨g,0,none⟩) (putAll [] (xs.take k)).length c) (putAll (putAll [] xs) (ys.take 0)):=by
    have e:xs.take k=xs:=List.take_of_length_le (by omega)
    rw [e] at hq hf hz ⊢
    exact ⟨⟨_,_,rfl⟩,hq,hf,hz⟩
   have hal:(putAll [] xs).length≤k:=by have:=putAll_len xs [];simp at this;omega
   have haf:∀ z ∈ putAll [] xs,I3.fits z:=fits_putAll (by simp) f0
   generalize (putAll [] (xs.take k)).length=m at *
   clear hq hf hz h0
   go_wp2_with fail
   go_loopw [5,7] (fun so si wr=>∃ (j:Nat) (v:Value),v=so∧j≤n1∧si=.int .i64 j∧Under w wr v (putAll (putAll [] xs) (ys.take j))∧Below w.heap.size w wr) (fun _ si _=>n1 - (intOf si).toNat)
   case atStart=>exact ⟨0,_,rfl,by omega,rfl,hU,bw⟩
   case round =>
    clear hU bw
    obtain ⟨j,so,rfl,hj,rfl,⟨⟨g,c,rfl⟩,hq,hf,hz⟩,bw⟩:=hrel
    by_cases hltj:j<n1
    ·obtain ⟨zs,hzs⟩:∃ zs,zs=putAll (putAll [] xs) (ys.take j):=⟨_,rfl⟩
     rw [← hzs] at hq hf hz
     try rw [← hzs]
     have hZ:=Instrs.of_owns hq rfl hf rfl
     obtain ⟨_,_,_,_,hcase⟩:=h1.below bw
     rcases hcase with e0 | ⟨b,off,rfl,hb,hc⟩
     ·omega
     obtain ⟨d0,d1,d2⟩:=hc j hltj
     clear hc hb
     obtain ⟨x,hx⟩:∃ x,x=ys.getD j (0,0,0):=⟨_,rfl⟩
     have hfx:I3.fits x:=by rw [hx];exact f1 _ (getD_memB (by omega))
     have hnew:putB zs x=putAll (putAll [] xs) (ys.take (j+1)):=by rw [hzs,hx];exact (putAll_snoc _ ys (by omega)).symm
     rw [← hx] at d0 d1 d2
     have HN:Hid (putB zs x=putAll (putAll [] xs) (ys.take (j+1))):=hnew
     have hzl:zs.length≤k+j:=by rw [hzs];have:=putAll_len (ys.take j) (putAll [] xs);simp at this;omega
     clear hx hnew hzs
     have kP:=l04Put_is g 0 zs.length c zs x _ hZ (by omega)
     have hpl:=putB_len zs x
     have hpf:=fits_put hf hfx
     have hp0:0<(putB zs x).length:=List.length_pos_of_mem (mem_putB.2 (.inr rfl))
     generalize zs.length=mm at *
     obtain ⟨x0,x1,x2⟩:=x
     unfold I3.val at kP
     simp only at d0 d1 d2 kP
     clear hZ hq
     have hlt':(j:Int)<(n1:Int):=by omega
     have hk0:(0:Int)≤(j:Int):=by omega
     go_wp2_with fail
     refine kP.mono ?_
     rintro e w1 ⟨⟨v1,rfl,hq1⟩,hb1⟩
     clear kP d0 d1 d2
     have bw1:=bel_trans bw hb1
     obtain ⟨g1,e1,rfl⟩:=own_someB hq1 hp0
     have hU:Under w w1 (.slice (some ⟨g1,0,none⟩) (putB zs (x0,x1,x2)).length e1) (putAll (putAll [] xs) (ys.take (j+1))):=by
      rw [← HN.out]
      exact ⟨⟨_,_,rfl⟩,own_lowerB hq1 bw.size,hpf,by omega⟩
     generalize (putB zs (x0,x1,x2)).length=m1 at *
     clear hq1 hpf
     go_wp2
     go_roundw
     case rel=>exact ⟨j+1,_,rfl,by omega,by go_num,hU,bw1⟩
     case measure=>simp [intOf];omega
    ·obtain rfl:j=n1:=by omega
     have e:ys.take j=ys:=List.take_of_length_le (by omega)
     rw [e] at hq hf hz
     try rw [e]
     obtain ⟨mm,hmm⟩:∃ mm,mm=(putAll (putAll [] xs) ys).length:=⟨_,rfl⟩
     rw [← hmm]
     have HQ:Hid (∀ e,e=.returned (.slice (some ⟨g,0,none⟩) mm c)→BugsOne e wr w.heap.size (mergeB xs ys)):=fun e he=>⟨_,he,by rw [hmm];exact hq⟩
     clear hq hmm hz
     go_wp2
     go_ret
     exact ⟨HQ.out _ rfl,bw⟩

theorem okBs_step {xs:List I3} {k:Nat} (hk:k<xs.length):okBs (xs.drop k)=(okB (xs.getD k (0,0,0)) && okBs (xs.drop (k+1))):=by
 unfold okBs
 rw [List.drop_eq_getElem_cons hk,List.all_cons,List.getD,List.getElem?_eq_getElem hk,Option.getD_some]
theorem bugsOK_is (a:Option Addr) (n cap:Nat) (xs:List I3) (w:World) (h:Instrs w a n cap xs) (hn:n≤1048576) :
  Calls Tryz.prog 133 #[.slice a n cap] w fun e w'=>e=.returned (.bool (okBs xs))∧Below w.heap.size w w':=by
 have hl:=h.1
 obtain ⟨r,hr⟩:∃ r,r=okBs xs:=⟨_,rfl⟩
 rw [← hr]
 have HR:Hid (r=okBs (xs.drop 0)):=by rw [Hid];simpa using hr
 clear hr
 go_enter Tryz.func133,Tryz.ntmps133
 go_wp2_with fail
 go_loopw [7] (fun si wr=>∃ k:Nat,k≤n∧si=.int .i64 k∧Hid (r=okBs (xs.drop k))∧Below w.heap.size w wr) (fun si _=>n - (intOf si).toNat)
 case atStart=>exact ⟨0,by omega,rfl,HR,Below.refl _ _⟩
 case round =>
  clear HR
  obtain ⟨k,hk,rfl,HR,bw⟩:=hrel
  by_cases hlt:k<n
  ·obtain ⟨_,_,_,_,hcase⟩:=h.below bw
   rcases hcase with e0 | ⟨b,off,rfl,hb,hc⟩
   ·omega
   obtain ⟨d0,d1,d2⟩:=hc k hlt
   clear hc hb
   have hst:=okBs_step (xs:=xs) (k:=k) (by omega)
   have kB:=implBugOK_is (xs.getD k (0,0,0))
   generalize xs.getD k (0,0,0)=x at *
   have HS:Hid (okBs (xs.drop k)=(okB x && okBs (xs.drop (k+1)))):=hst
   clear hst
   have hlt':(k:Int)<(n:Int):=by omega
   have hk0:(0:Int)≤(k:Int):=by omega
   cases hx:okB x
   ·have HF:Hid (r=false):=by rw [Hid,HR.out,HS.out,hx];rfl
    rw [hx] at kB
    clear hx HS HR
    obtain ⟨x0,x1,x2⟩:=x
    unfold I3.val at kB
    simp only at d0 d1 d2 kB
    go_wp2_with fail
    refine (kB _).mono ?_
    rintro e w1 ⟨rfl,hb1⟩
    have bw1:=bel_trans bw (bel_trans (by go_grown) hb1)
    clear hb1 d0 d1 d2 kB
    go_wp2
    go_ret
    exact ⟨by rw [HF.out];rfl,bw1⟩
   ·have HF:Hid (r=okBs (xs.drop (k+1))):=by rw [Hid,HR.out,HS.out,hx];rfl
    rw [hx] at kB
    clear hx HS HR
    obtain ⟨x0,x1,x2⟩:=x
    unfold I3.val at kB
    simp only at d0 d1 d2 kB
    go_wp2_with fail
    refine (kB _).mono ?_
    rintro e w1 ⟨rfl,hb1⟩
    have bw1:=bel_trans bw (bel_trans (by go_grown) hb1)
    clear hb1 d0 d1 d2 kB
    go_wp2
    go_roundw
    case rel=>exact ⟨k+1,by omega,by go_num,HF,bw1⟩
    case measure=>simp [intOf];omega
  ·obtain rfl:k=n:=by omega
   have HF:Hid (r=true):=by rw [Hid,HR.out,List.drop_of_length_le (by omega)];rfl
   clear HR
   go_wp2
   go_ret
   exact ⟨by rw [HF.out];rfl,bw⟩


theorem Blk.wentB {p g t:Nat} {w w':World} {cs:List Value} (h:Blk w g t cs) (hw:Went p w w') (hne:g≠p):Blk w' g t cs:=h.kept hw (fun e=>hne (by cases e;rfl))

theorem chance_any (p T:Nat) (a:Option Addr) (n cap:Nat) (k:Int) (w:World) (hS:Src w p (.slice a n cap) T) (hC:Code w p a n cap) (hT:T≤900000) (hk0:0≤k) (hk:k≤1000000) :
  Calls Tryz.prog 115 #[.pointer (some ⟨p,0,none⟩),.int .i64 k] w fun e w'=>(∃ b:Bool,Hid True∧e=.returned (.bool b))∧Src w' p (.slice a n cap) (T+3)∧Went p w w':=by
 go_enter Tryz.func115,Tryz.ntmps115
 go_wp2_with fail
 refine (next_any p T a n cap k _ hS hC (by omega) (by omega)).mono ?_
 rintro e w1 ⟨⟨v,hv,rfl⟩,hS1,hW⟩
 clear hS hC
 go_wp2
 go_ret
 exact ⟨⟨_,trivial,rfl⟩,hS1,hW⟩

theorem bug_any (p T:Nat) (a:Option Addr) (n cap:Nat) (w:World) (hS:Src w p (.slice a n cap) T) (hC:Code w p a n cap) (hT:T≤800000) :
  Calls Tryz.prog 87 #[.pointer (some ⟨p,0,none⟩)] w fun e w'=>(∃ x:I3,okB x=true∧e=.returned x.val)∧Src w' p (.slice a n cap) (T+12)∧Went p w w':=by
 have hpl:=hS.lt
 have hpB:p<w.heap.size:=hS.lt
 have pR:=Blk.new w 112 [.int .i64 0,.int .i64 0,.int .i64 0]
 replace hS:=hS.alloc (.cells #[.int .i64 0,.int .i64 0,.int .i64 0] 112)
 replace hC:=hC.below ((Below.refl p w).alloc (Nat.le_of_lt hpl) (.cells #[.int .i64 0,.int .i64 0,.int .i64 0] 112))
 have hWt:=(Went.refl p w).alloc (.cells #[.int .i64 0,.int .i64 0,.int .i64 0] 112)
 go_enter Tryz.func87,Tryz.ntmps87
 go_wp2_with fail
 generalize hwA:w.alloc (.cells #[.int .i64 0,.int .i64 0,.int .i64 0] 112)=wA at pR hS hC hWt
 replace pR:Blk wA w.heap.size 112 [.int .i64 0,.int .i64 0,.int .i64 0]:=by rw [← hwA];exact Blk.new w 112 [.int .i64 0,.int .i64 0,.int .i64 0]
 clear hwA
 refine (chance_any p T a n cap 4 _ hS hC (by omega) (by omega) (by omega)).mono ?_
 rintro e w1 ⟨⟨b,-,rfl⟩,hS1,hW1⟩
 have hpA:=hS.lt
 replace hC:=hC.went hW1 (Nat.le_of_lt hpA)
 replace hWt:=hWt.trans hW1
 replace pR:=pR.wentB hW1 (by omega)
 replace hS:=hS1
 clear hS1 hW1 hpA
 cases b
 ·go_wp2_with fail
  refine (next_any p (T+3) a n cap 2 _ hS hC (by omega) (by omega)).mono ?_
  rintro e w2 ⟨⟨v,hv,rfl⟩,hS1,hW1⟩
  have hpA:=hS.lt
  replace hC:=hC.went hW1 (Nat.le_of_lt hpA)
  replace hWt:=hWt.trans hW1
  replace pR:=pR.wentB hW1 (by omega)
  replace hS:=hS1
  clear hS1 hW1 hpA
  go_wp2_with fail
  refine (next_any p (T+3+3) a n cap 3 _ hS hC (by omega) (by omega)).mono ?_
  rintro e w3 ⟨⟨v2,hv2,rfl⟩,hS1,hW1⟩
  have hpA:=hS.lt
  replace hC:=hC.went hW1 (Nat.le_of_lt hpA)
  replace hWt:=hWt.trans hW1
  replace pR:=pR.wentB hW1 (by omega)
  replace hS:=hS1
  clear hS1 hW1 hpA
  go_wp2_with fail
  refine (next_any p (T+3+3+3) a n cap 4 _ hS hC (by omega) (by omega)).mono ?_
  rintro e w4 ⟨⟨v3,hv3,rfl⟩,hS1,hW1⟩
  replace hWt:=hWt.trans hW1
  replace pR:=pR.wentB hW1 (by omega)
  replace hS:=hS1
  clear hS1 hW1
  go_wp2_with (refine wpList_store_blk rfl 112 _ _ rfl w.heap.size [.int .i64 (12+v),.int .i64 v2,.int .i64 v3] rfl rfl pR (by kernel_rfl) rfl rfl ?_)
  intro w5 pR2 g2
  have hS5:=(hS.grown g2 (fun k e=>by cases e;omega)).mono (show _≤T+12 by omega)
  have hW5:=hWt.grown g2 (fun k e=>by cases e;omega)
  clear hS hWt g2 hC
  go_wp2_with fail
  refine bodyPost_ret (results_blk1 Tryz.results87 _ _ _ _ _ _ rfl pR2.out Tryz.underlying112 rfl (by kernel_rfl)) rfl ?_
  refine ⟨⟨(12+v,v2,v3),?_,rfl⟩,hS5,hW5⟩
  have h1:v=0∨v=1:=by omega
  have h2:v2=0∨v2=1∨v2=2:=by omega
  have h3:v3=0∨v3=1∨v3=2∨v3=3:=by omega
  rcases h1 with rfl | rfl<;>rcases h2 with rfl | rfl | rfl<;>rcases h3 with rfl | rfl | rfl | rfl<;>decide
 ·go_wp2_with (refine wpList_store_blk rfl 112 _ _ rfl w.heap.size [.int .i64 14,.int .i64 0,.int .i64 0] rfl rfl pR (by kernel_rfl) rfl rfl ?_)
  intro w5 pR2 g2
  have hS5:=(hS.grown g2 (fun k e=>by cases e;omega)).mono (show _≤T+12 by omega)
  have hW5:=hWt.grown g2 (fun k e=>by cases e;omega)
  clear hS hWt g2 hC
  go_wp2_with fail
  refine bodyPost_ret (results_blk1 Tryz.results87 _ _ _ _ _ _ rfl pR2.out Tryz.underlying112 rfl (by kernel_rfl)) rfl ?_
  exact ⟨⟨(14,0,0),by decide,rfl⟩,hS5,hW5⟩
theorem bugs_any (p T:Nat) (a:Option Addr) (n cap:Nat) (w:World) (hS:Src w p (.slice a n cap) T) (hC:Code w p a n cap) (hT:T≤700000) :
  Calls Tryz.prog 61 #[.pointer (some ⟨p,0,none⟩)] w fun e w'=>(∃ (v:Value) (zs:List I3),zs.length≤5∧(∀ z ∈ zs,okB z=true)∧e=.returned v∧w'.ownsRow w.heap.size 112 3 v zs.length (flat zs))∧Src w' p (.slice a n cap) (T+100)∧Went p w w':=by
 obtain ⟨i0,hi,hz0,hz1,hz2⟩:=info_parts info_bug
 have hp:=Nat.le_of_lt hS.lt
 have hpl:=hS.lt
 have hSB:=hS.alloc (.cells #[] 112)
 have hCB:=hC.went (World.grownBy_alloc w (.cells #[] 112) (some p)) hp
 have hO:(w.alloc (.cells #[] 112)).ownsRow w.heap.size 112 3 (.slice (some ⟨w.heap.size,0,none⟩) 0 0) 0 []:=own_emptyB w 112 3 w.heap.size (Nat.le_refl _)
 go_enter Tryz.func61,Tryz.ntmps61
 go_wp2_with fail
 refine (next_any p T a n cap 5 _ hSB hCB (by omega) (by omega)).mono ?_
 rintro e w1 ⟨⟨v1,hv1,rfl⟩,hS1,hW1⟩
 have hv8:v1<5:=by omega
 have hC1:=hCB.went hW1 (Nat.le_of_lt hSB.lt)
 have hO1:=owns_wn hO hW1 hpl
 have hWW:Went p w w1:=(World.grownBy_alloc w (.cells #[] 112) (some p):Went p w _).trans hW1
 clear hO hW1 hSB hCB hv1
 go_wp2
 go_loopw [3,4] (fun so si wr=>∃ (j l:Nat) (zs:List I3),j+l=v1∧zs.length=l∧(∀ z ∈ zs,okB z=true)∧si=.int .i64 j∧wr.ownsRow w.heap.size 112 3 so l (flat zs)∧Src wr p (.slice a n cap) (T+3+12*l)∧Code wr p a n cap∧Went p w wr) (fun _ si _=>(intOf si).toNat)
 case atStart=>exact ⟨v1,0,[],by omega,rfl,by simp,rfl,hO1,hS1,hC1,hWW⟩
 case round =>
  obtain ⟨j,l,zs,hjl,hzl,hz,rfl,hr,hSr,hCr,hW⟩:=hrel
  have HZ:Hid ((∀ z ∈ zs,okB z=true)∧zs.length=l∧j+l=v1):=⟨hz,hzl,hjl⟩
  have hl7:l≤5:=by omega
  have hj7:j≤5:=by omega
  clear hz
  by_cases hlt:0<j
  ·go_wp2_with fail
   refine (bug_any p (T+3+12*l) a n cap _ hSr hCr (by omega)).mono ?_
   rintro e w2 ⟨⟨⟨z0,z1,z2⟩,hz,rfl⟩,hS2,hW2⟩
   have HB:Hid (okB (z0,z1,z2)=true):=hz
   rw [show I3.val (z0,z1,z2)=.agg #[.int .i64 z0,.int .i64 z1,.int .i64 z2] from rfl]
   have hr1:=owns_wn hr hW2 hpl
   have hC2:=hCr.went hW2 (Nat.le_of_lt hSr.lt)
   have hWW2:=hW.trans hW2
   have hsz:=hWW2.size
   have pB:=Blk.new w2 112 [.int .i64 z0,.int .i64 z1,.int .i64 z2]
   have e0:=pB.cell 0
   have e1:=pB.cell 1
   have e2:=pB.cell 2
   clear hr hSr hCr hW hW2 hjl hzl hz pB
   go_wp2_with (at_builtin;refine wpList_append_own _ rfl _ _ 72 rfl w.heap.size 112 i0 (.agg #[.int .i64 0,.int .i64 0,.int .i64 0]) 3 24 Tryz.underlying72 hi hz0 hz1 hz2 rfl (by decide) _ _ _ rfl (hr1.alloc _) ⟨w2.heap.size,0,none⟩ 1 1 [.int .i64 z0,.int .i64 z1,.int .i64 z2] rfl rfl (three_at e0 e1 e2) (three_one _ _ _) ?c3 ?c4 ?c5 ?_)
   case c3=>unfold maxLen;omega
   case c4=>omega
   case c5=>simp;omega
   intro v' w3 hown' hgrow _
   have R:w3.ownsRow w.heap.size 112 3 v' (l+1) (flat (zs++[(z0,z1,z2)])):=by rw [flat_append];exact hown'
   have hS3:Src w3 p (.slice a n cap) (T+3+12*(l+1)):=((hS2.alloc _).grown hgrow (fun k hk=>by have:=(hr1.lt k hk).1;omega)).mono (by omega)
   have hW3:Went p w w3:=(hWW2.alloc _).grown hgrow (fun k hk=>(hr1.lt k hk).1)
   have hC3:Code w3 p a n cap:=hC2.below (((Below.refl p w2).alloc (Nat.le_of_lt hS2.lt) _).grown hgrow (by simp;have:=hS2.lt;omega) (fun k hk=>by have:=(hr1.lt k hk).1;omega))
   clear hown' hgrow hr1 hS2 hC2 hWW2 e0 e1 e2
   go_wp2
   go_roundw
   case rel =>
    refine ⟨j - 1,l+1,zs++[(z0,z1,z2)],by have:=HZ.out.2.2;omega,by simp [HZ.out.2.1],?_,by go_num,R,hS3,hC3,hW3⟩
    intro y hy
    rcases List.mem_append.1 hy with h | h
    ·exact HZ.out.1 y h
    ·simp at h;subst h;exact HB.out
   case measure=>simp [intOf];omega
  ·obtain rfl:j=0:=by omega
   rw [← hzl] at hr
   have HR:Hid (wr.ownsRow w.heap.size 112 3 u3 zs.length (flat zs)):=hr
   have hS':Src wr p (.slice a n cap) (T+100):=hSr.mono (by omega)
   clear hCr hr hSr hjl hzl
   go_wp2
   go_ret
   exact ⟨⟨_,zs,by rw [HZ.out.2.1];exact hl7,HZ.out.1,rfl,HR.out⟩,hS',hW⟩

theorem okBD_cases {x:I3} (h:okB x=true):x=(14,0,0)∨∃ k a b:Nat,(k=12∨k=13)∧a<3∧b<6∧x=((k:Int),(a:Int),(b:Int)):=by
 obtain ⟨c,a,b⟩:=x
 unfold okB at h
 simp only at h
 split at h
 ·rename_i e
  simp at h
  exact .inl (by rw [e,h.1,h.2])
 ·split at h
  ·rename_i e
   simp [inB_true] at h
   refine .inr ⟨c.toNat,a.toNat,b.toNat,by omega,by omega,by omega,?_⟩
   rw [Int.toNat_of_nonneg (by omega),Int.toNat_of_nonneg (by omega),Int.toNat_of_nonneg (by omega)]
  ·cases h
theorem okB_fits {x:I3} (h:okB x=true):I3.fits x:=by
 rcases okBD_cases h with rfl | ⟨k,a,b,hk,ha,hb,rfl⟩
 ·unfold I3.fits;decide
 ·have h2:a=0∨a=1∨a=2:=by omega
  have h3:b=0∨b=1∨b=2∨b=3∨b=4∨b=5:=by omega
  rcases hk with rfl | rfl<;>rcases h2 with rfl | rfl | rfl<;>rcases h3 with rfl | rfl | rfl | rfl | rfl | rfl<;>(unfold I3.fits;decide)


theorem owns_went {p base e size n:Nat} {v:Value} {xs:List Value} {w w':World} (h:w.ownsRow base e size v n xs) (hw:Went p w w') (hp:p<base):w'.ownsRow base e size v n xs:=
 h.kept hw (by
  rcases hv:v.ownBlock with _ | g
  ·exact .inl rfl
  ·right
   have:=(h.lt g hv).1
   intro e
   cases e
   omega)


theorem one_i64' (n:Int):∀ u ∈ [Value.int .i64 n],u.oneCell'=true:=by intro u hu;simp at hu;subst hu;rfl


theorem items_any (p T:Nat) (a:Option Addr) (n cap:Nat) (w:World) (hS:Src w p (.slice a n cap) T) (hC:Code w p a n cap) (hT:T≤700000) :
  Calls Tryz.prog 91 #[.pointer (some ⟨p,0,none⟩)] w fun e w'=>(∃ (v:Value) (zs:List Int),zs.length≤5∧(∀ z ∈ zs,itOk z=true)∧e=.returned v∧w'.ownsRow w.heap.size 3 1 v zs.length (zs.map (Value.int .i64)))∧Src w' p (.slice a n cap) (T+100)∧Went p w w':=by
 obtain ⟨i0,hi,hz0,hz1,hz2⟩:=info_parts info_int
 have hp:=Nat.le_of_lt hS.lt
 have hpl:=hS.lt
 have hSB:=hS.alloc (.cells #[] 3)
 have hCB:=hC.went (World.grownBy_alloc w (.cells #[] 3) (some p)) hp
 have hO:(w.alloc (.cells #[] 3)).ownsRow w.heap.size 3 1 (.slice (some ⟨w.heap.size,0,none⟩) 0 0) 0 []:=World.ownsRow_lit w #[] 0 (Nat.le_refl _) (by unfold maxLen;omega) rfl
 go_enter Tryz.func91,Tryz.ntmps91
 go_wp2_with fail
 refine (next_any p T a n cap 6 _ hSB hCB (by omega) (by omega)).mono ?_
 rintro e w1 ⟨⟨v1,hv1,rfl⟩,hS1,hW1⟩
 have hv8:v1<6:=by omega
 have hC1:=hCB.went hW1 (Nat.le_of_lt hSB.lt)
 have hO1:=owns_went hO hW1 hpl
 have hWW:Went p w w1:=(World.grownBy_alloc w (.cells #[] 3) (some p):Went p w _).trans hW1
 clear hO hW1 hSB hCB hv1
 go_wp2
 go_loopw [3,4] (fun so si wr=>∃ (j l:Nat) (zs:List Int),j+l=v1∧zs.length=l∧(∀ z ∈ zs,itOk z=true)∧si=.int .i64 j∧wr.ownsRow w.heap.size 3 1 so l (zs.map (Value.int .i64))∧Src wr p (.slice a n cap) (T+3+6*l)∧Code wr p a n cap∧Went p w wr) (fun _ si _=>(Go.RowKit.intOf si).toNat)
 case atStart=>exact ⟨v1,0,[],by omega,rfl,by simp,rfl,hO1,hS1,hC1,hWW⟩
 case round =>
  obtain ⟨j,l,zs,hjl,hzl,hz,rfl,hr,hSr,hCr,hW⟩:=hrel
  have HZ:Hid ((∀ z ∈ zs,itOk z=true)∧zs.length=l∧j+l=v1):=⟨hz,hzl,hjl⟩
  have hl7:l≤5:=by omega
  have hj7:j≤5:=by omega
  clear hz
  by_cases hlt:0<j
  ·go_wp2_with fail
   refine (next_any p (T+3+6*l) a n cap 3 _ hSr hCr (by omega) (by omega)).mono ?_
   rintro e wa ⟨⟨ka,hka,rfl⟩,hSa,hWa⟩
   have hCa:=hCr.went hWa (Nat.le_of_lt hSr.lt)
   have hka':ka<3:=by omega
   go_wp2_with fail
   refine (next_any p (T+3+6*l+3) a n cap 5 _ hSa hCa (by omega) (by omega)).mono ?_
   rintro e w2 ⟨⟨kb,hkb,rfl⟩,hS2,hWb⟩
   have hkb':kb<5:=by omega
   have hC2:=hCa.went hWb (Nat.le_of_lt hSa.lt)
   have hW2:=hWa.trans hWb
   have hr1:=owns_went hr hW2 hpl
   clear hSa hWa hWb hCa hka hkb
   have kIt:=l08Item_is (ka:Int) (kb:Int) w2 (inB8_true.2 (by omega)) (inB8_true.2 (by omega))
   go_wp2_with fail
   refine kIt.mono ?_
   rintro e w9 ⟨rfl,rfl⟩
   have hz:itOk (8*(ka:Int)+(kb:Int))=true:=by simp only [itOk,decide_eq_true_eq];omega
   clear kIt
   generalize 8*(ka:Int)+(kb:Int)=z at hz ⊢
   clear hka' hkb'
   have hWW2:=hW.trans hW2
   have hsz:=hWW2.size
   clear hr hSr hCr hW hW2 hjl hzl
   go_wp2_with (at_builtin;refine wpList_append_own _ rfl _ _ 40 rfl w.heap.size 3 i0 (.int .i64 0) 1 8 Tryz.underlying40 hi hz0 hz1 hz2 rfl (by decide) _ _ _ rfl (hr1.alloc _) ⟨w2.heap.size,0,none⟩ 1 1 [.int .i64 (z:Int)] rfl rfl (cell_one_new _ _ _) (one_i64' _) ?c3 ?c4 ?c5 ?_)
   case c3=>unfold maxLen;omega
   case c4=>omega
   case c5=>simp;omega
   intro v' w3 hown' hgrow _
   have R:w3.ownsRow w.heap.size 3 1 v' (l+1) ((zs++[(z:Int)]).map (Value.int .i64)):=by simpa using hown'
   have hS3:Src w3 p (.slice a n cap) (T+3+6*(l+1)):=((hS2.alloc _).grown hgrow (fun k hk=>by have:=(hr1.lt k hk).1;omega)).mono (by omega)
   have hW3:Went p w w3:=(hWW2.alloc _).grown hgrow (fun k hk=>(hr1.lt k hk).1)
   have hC3:Code w3 p a n cap:=hC2.below (((Below.refl p w2).alloc (Nat.le_of_lt hS2.lt) _).grown hgrow (by simp;have:=hS2.lt;omega) (fun k hk=>by have:=(hr1.lt k hk).1;omega))
   clear hown' hgrow hr1 hS2 hC2 hWW2
   go_wp2
   go_roundw
   case rel =>
    refine ⟨j - 1,l+1,zs++[(z:Int)],by have:=HZ.out.2.2;omega,by simp [HZ.out.2.1],?_,by go_num,R,hS3,hC3,hW3⟩
    intro y hy
    rcases List.mem_append.1 hy with h | h
    ·exact HZ.out.1 y h
    ·simp at h;rw [h];exact hz
   case measure=>simp [Go.RowKit.intOf];omega
  ·obtain rfl:j=0:=by omega
   rw [← hzl] at hr
   have HR:Hid (wr.ownsRow w.heap.size 3 1 u3 zs.length (zs.map (Value.int .i64))):=hr
   have hS':Src wr p (.slice a n cap) (T+100):=hSr.mono (by omega)
   clear hCr hr hSr hjl hzl
   go_wp2
   go_ret
   exact ⟨⟨_,zs,by rw [HZ.out.2.1];exact hl7,HZ.out.1,rfl,HR.out⟩,hS',hW⟩


theorem btV_str6 (xs:List Int) (h:∀ x ∈ xs,0≤x∧x≤255) (i:Nat) (hi:i<xs.length):btV (strOfNums xs) i=xs.getD i 0:=by
 have hx:=h xs[i] (List.getElem_mem hi)
 unfold btV
 simp [strOfNums,List.getD,List.getElem?_eq_getElem hi]
 omega
theorem keyT_size6 {m:V4} (h:shapeOk m=true):(keyT m).size=15:=by
 obtain ⟨l0,l1,l2,l3,_⟩:=shape_parts h
 unfold keyT
 rw [strOfNums_size,List.length_map]
 unfold allOf
 simp [l0,l1,l2,l3]
theorem key_back6 {m:V4} (h:shapeOk m=true):bytesV (keyT m)=m:=by
 obtain ⟨l0,l1,l2,l3,hd⟩:=shape_parts h
 have hb:∀ i,i<15→btV (keyT m) i - 48=(allOf m).getD i 0:=fun i hi=>by
  have hl:(allOf m).length=15:=by unfold allOf;simp [l0,l1,l2,l3]
  unfold keyT
  rw [btV_str6 _ (fun x hx=>by obtain ⟨z,hz,rfl⟩:=List.mem_map.1 hx;have:=hd z hz;omega) i (by rw [List.length_map];omega)]
  have e:((allOf m).map fun z=>48+z).getD i 0=48+(allOf m).getD i 0:=by
   have hi':i<(allOf m).length:=by omega
   simp [List.getD,List.getElem?_eq_getElem hi']
  rw [e]
  omega
 have b0:=hb 0 (by omega)
 have b1:=hb 1 (by omega)
 have b2:=hb 2 (by omega)
 have b3:=hb 3 (by omega)
 have b4:=hb 4 (by omega)
 have b5:=hb 5 (by omega)
 have b6:=hb 6 (by omega)
 have b7:=hb 7 (by omega)
 have b8:=hb 8 (by omega)
 have b9:=hb 9 (by omega)
 have b10:=hb 10 (by omega)
 have b11:=hb 11 (by omega)
 have b12:=hb 12 (by omega)
 have b13:=hb 13 (by omega)
 have b14:=hb 14 (by omega)
 clear hb hd l0 l1 l2 l3
 obtain ⟨p0,p1,p2,v0,v1,v2,v3,h0,h1,x0,y0,x1,y1,x2,y2,rfl⟩:=shape_lists h
 unfold bytesV partV fillL
 simp [List.range_succ,b0,b1,b2,b3,b4,b5,b6,b7,b8,b9,b10,b11,b12,b13,b14]
 simp [allOf]


theorem nil_of0 {n c m:Nat} {a:Option Addr} {P:Prop} (hz:a=none→c=0) (h:n≤c):a=none→n=0∧c=0:=fun ha=>⟨by have:=hz ha;omega,hz ha⟩

end Go.Proofs.YtdopgkbegjfhjaaGreatDoor
