/-
  Joined: MrgB, CatB.
-/
import Derived.Shelf.Spec.SlicesGrow
import Derived.Laws.AppendOwnNone
import Derived.Test.YtifoggpohlegmaaGreatDoorC18

namespace Go.Proofs.YtifoggpohlegmaaGreatDoor
set_option maxRecDepth 100000
set_option maxHeartbeats 16000000
open Go.RowKit
set_option linter.unusedVariables false
set_option linter.unusedSimpArgs false

def BugsOne (e:Ending) (w:World) (B:Nat) (zs:List I3):Prop:=∃ v,e=.returned v∧w.ownsRow B 64 3 v zs.length (flat zs)
theorem fits_put {zs:List I3} {x:I3} (h:∀ z ∈ zs,I3.fits z) (hx:I3.fits x):∀ z ∈ putB zs x,I3.fits z:=fun z hz=>by
 rcases mem_putB.1 hz with e | e
 ·exact h z e
 ·rw [e];exact hx
theorem fits_putAll {xs ys:List I3} (h:∀ z ∈ xs,I3.fits z) (k:∀ z ∈ ys,I3.fits z):∀ z ∈ putAll xs ys,I3.fits z:=fun z hz=>by
 rcases mem_putAll.1 hz with e | e
 ·exact h z e
 ·exact k z e
theorem putAll_snoc (out xs:List I3) {k:Nat} (hk:k<xs.length):putAll out (xs.take (k+1))=putB (putAll out (xs.take k)) (xs.getD k (0,0,0)):=by
 unfold putAll
 rw [List.take_add_one,List.foldl_append,List.getElem?_eq_getElem hk]
 simp [List.getD,List.getElem?_eq_getElem hk]
theorem getD_memB {xs:List I3} {k:Nat} (hk:k<xs.length):xs.getD k (0,0,0) ∈ xs:=by
 rw [List.getD,List.getElem?_eq_getElem hk,Option.getD_some]
 exact List.getElem_mem hk
def Under (w wr:World) (v:Value) (zs:List I3):Prop:=(∃ g c,v=.slice (some ⟨g,0,none⟩) zs.length c)∧wr.ownsRow w.heap.size 64 3 v zs.length (flat zs)∧(∀ z ∈ zs,I3.fits z)∧zs.length≤1000000

theorem l04Merge_is (a0:Option Addr) (n0 c0:Nat) (xs:List I3) (a1:Option Addr) (n1 c1:Nat) (ys:List I3) (w:World) (h0:Instrs w a0 n0 c0 xs) (h1:Instrs w a1 n1 c1 ys) (m0:n0≤400000) (m1:n1≤400000) :
  Calls Tryz.prog 135 #[.slice a0 n0 c0,.slice a1 n1 c1] w fun e w'=>BugsOne e w' w.heap.size (mergeB xs ys)∧Below w.heap.size w w':=by
 have l0:=h0.1
 have l1:=h1.1
 have f0:=h0.2.2.2.1
 have f1:=h1.2.2.2.1
 have q0:Under w (w.alloc (.cells #[] 64)) (.slice (some ⟨w.heap.size,0,none⟩) 0 0) []:=⟨⟨_,_,rfl⟩,own_emptyB w 64 3 w.heap.size (Nat.le_refl _),by simp,by simp⟩
 have bw0:Below w.heap.size w (w.alloc (.cells #[] 64)):=by go_grown
 go_enter Tryz.func135,Tryz.ntmps135
 go_wp2_with fail
 generalize w.alloc (.cells #[] 64)=W0 at *
 go_loopw [5,6] (fun so si wr=>∃ (k:Nat) (v:Value),v=so∧k≤n0∧si=.int .i64 k∧Under w wr v (putAll [] (xs.take k))∧Below w.heap.size w wr) (fun _ si _=>n0 - (intOf si).toNat)
 case atStart=>exact ⟨0,_,rfl,by omega,rfl,q0,bw0⟩
 case round =>
  clear q0 bw0
  obtain ⟨k,so,rfl,hk,rfl,⟨⟨g,c,rfl⟩,hq,hf,hz⟩,bw⟩:=hrel
  by_cases hlt:k<n0
  ·obtain ⟨zs,hzs⟩:∃ zs,zs=putAll [] (xs.take k):=⟨_,rfl⟩
   rw [← hzs] at hq hf hz
   try rw [← hzs]
   have hZ:=Instrs.of_owns hq rfl hf rfl
   obtain ⟨_,_,_,_,hcase⟩:=h0.below bw
   rcases hcase with e0 | ⟨b,off,rfl,hb,hc⟩
   ·omega
   obtain ⟨d0,d1,d2⟩:=hc k hlt
   clear hc hb
   obtain ⟨x,hx⟩:∃ x,x=xs.getD k (0,0,0):=⟨_,rfl⟩
   have hfx:I3.fits x:=by rw [hx];exact f0 _ (getD_memB (by omega))
   have hnew:putB zs x=putAll [] (xs.take (k+1)):=by rw [hzs,hx];exact (putAll_snoc [] xs (by omega)).symm
   rw [← hx] at d0 d1 d2
   have HN:Hid (putB zs x=putAll [] (xs.take (k+1))):=hnew
   have hzl:zs.length≤k:=by rw [hzs];have:=putAll_len (xs.take k) [];simp at this;omega
   clear hx hnew hzs
   have kP:=l04Put_is g 0 zs.length c zs x wr hZ (by omega)
   have hpl:=putB_len zs x
   have hpf:=fits_put hf hfx
   have hp0:0<(putB zs x).length:=List.length_pos_of_mem (mem_putB.2 (.inr rfl))
   generalize zs.length=m at *
   obtain ⟨x0,x1,x2⟩:=x
   unfold I3.val at kP
   simp only at d0 d1 d2 kP
   clear hZ hq
   have hlt':(k:Int)<(n0:Int):=by omega
   have hk0:(0:Int)≤(k:Int):=by omega
   go_wp2_with fail
   refine kP.mono ?_
   rintro e w1 ⟨⟨v1,rfl,hq1⟩,hb1⟩
   clear kP d0 d1 d2
   have bw1:=bel_trans bw hb1
   obtain ⟨g1,e1,rfl⟩:=own_someB hq1 hp0
   have hU:Under w w1 (.slice (some ⟨g1,0,none⟩) (putB zs (x0,x1,x2)).length e1) (putAll [] (xs.take (k+1))):=by
    rw [← HN.out]
    exact ⟨⟨_,_,rfl⟩,own_lowerB hq1 bw.size,hpf,by omega⟩
   generalize (putB zs (x0,x1,x2)).length=m1 at *
   clear hq1 hpf
   go_wp2
   go_roundw
   case rel=>exact ⟨k+1,_,rfl,by omega,by go_num,hU,bw1⟩
   case measure=>simp [intOf];omega
  ·obtain rfl:k=n0:=by omega
   have hU:Under w wr (.slice (some ⟨g,0,none⟩) (putAll [] (xs.take k)).length c) (putAll (putAll [] xs) (ys.take 0)):=by
    have e:xs.take k=xs:=List.take_of_length_le (by omega)
    rw [e] at hq hf hz ⊢
    exact ⟨⟨_,_,rfl⟩,hq,hf,hz⟩
   have hal:(putAll [] xs).length≤k:=by have:=putAll_len xs [];simp at this;omega
   have haf:∀ z ∈ putAll [] xs,I3.fits z:=fits_putAll (by simp) f0
   generalize (putAll [] (xs.take k)).length=m at *
   clear hq hf hz h0
   go_wp2_with fail
   go_loopw [5,7] (fun so si wr=>∃ (j:Nat) (v:Value),v=so∧j≤n1∧si=.int .i64 j∧Under w wr v (putAll (putAll [] xs) (ys.take j))∧Below w.heap.size w wr) (fun _ si _=>n1 - (intOf si).toNat)
   case atStart=>exact ⟨0,_,rfl,by omega,rfl,hU,bw⟩
   case round =>
    clear hU bw
    obtain ⟨j,so,rfl,hj,rfl,⟨⟨g,c,rfl⟩,hq,hf,hz⟩,bw⟩:=hrel
    by_cases hltj:j<n1
    ·obtain ⟨zs,hzs⟩:∃ zs,zs=putAll (putAll [] xs) (ys.take j):=⟨_,rfl⟩
     rw [← hzs] at hq hf hz
     try rw [← hzs]
     have hZ:=Instrs.of_owns hq rfl hf rfl
     obtain ⟨_,_,_,_,hcase⟩:=h1.below bw
     rcases hcase with e0 | ⟨b,off,rfl,hb,hc⟩
     ·omega
     obtain ⟨d0,d1,d2⟩:=hc j hltj
     clear hc hb
     obtain ⟨x,hx⟩:∃ x,x=ys.getD j (0,0,0):=⟨_,rfl⟩
     have hfx:I3.fits x:=by rw [hx];exact f1 _ (getD_memB (by omega))
     have hnew:putB zs x=putAll (putAll [] xs) (ys.take (j+1)):=by rw [hzs,hx];exact (putAll_snoc _ ys (by omega)).symm
     rw [← hx] at d0 d1 d2
     have HN:Hid (putB zs x=putAll (putAll [] xs) (ys.take (j+1))):=hnew
     have hzl:zs.length≤k+j:=by rw [hzs];have:=putAll_len (ys.take j) (putAll [] xs);simp at this;omega
     clear hx hnew hzs
     have kP:=l04Put_is g 0 zs.length c zs x _ hZ (by omega)
     have hpl:=putB_len zs x
     have hpf:=fits_put hf hfx
     have hp0:0<(putB zs x).length:=List.length_pos_of_mem (mem_putB.2 (.inr rfl))
     generalize zs.length=mm at *
     obtain ⟨x0,x1,x2⟩:=x
     unfold I3.val at kP
     simp only at d0 d1 d2 kP
     clear hZ hq
     have hlt':(j:Int)<(n1:Int):=by omega
     have hk0:(0:Int)≤(j:Int):=by omega
     go_wp2_with fail
     refine kP.mono ?_
     rintro e w1 ⟨⟨v1,rfl,hq1⟩,hb1⟩
     clear kP d0 d1 d2
     have bw1:=bel_trans bw hb1
     obtain ⟨g1,e1,rfl⟩:=own_someB hq1 hp0
     have hU:Under w w1 (.slice (some ⟨g1,0,none⟩) (putB zs (x0,x1,x2)).length e1) (putAll (putAll [] xs) (ys.take (j+1))):=by
      rw [← HN.out]
      exact ⟨⟨_,_,rfl⟩,own_lowerB hq1 bw.size,hpf,by omega⟩
     generalize (putB zs (x0,x1,x2)).length=m1 at *
     clear hq1 hpf
     go_wp2
     go_roundw
     case rel=>exact ⟨j+1,_,rfl,by omega,by go_num,hU,bw1⟩
     case measure=>simp [intOf];omega
    ·obtain rfl:j=n1:=by omega
     have e:ys.take j=ys:=List.take_of_length_le (by omega)
     rw [e] at hq hf hz
     try rw [e]
     obtain ⟨mm,hmm⟩:∃ mm,mm=(putAll (putAll [] xs) ys).length:=⟨_,rfl⟩
     rw [← hmm]
     have HQ:Hid (∀ e,e=.returned (.slice (some ⟨g,0,none⟩) mm c)→BugsOne e wr w.heap.size (mergeB xs ys)):=fun e he=>⟨_,he,by rw [hmm];exact hq⟩
     clear hq hmm hz
     go_wp2
     go_ret
     exact ⟨HQ.out _ rfl,bw⟩

open Go.RowKit Go.Shelf

def growBug_ren:Go.Shelf.Ren:=⟨fun | 4=>176 | n=>n,fun | 22=>34 | 25=>64 | 3=>3 | 4=>4 | 9=>9 | 20=>20 | 0=>0 | n=>n,fun | n=>n⟩
theorem growBug:Go.Proofs.Lays8.n4 Tryz.prog growBug_ren:={
 mixed:=by kernel_rfl
 f4:=⟨Tryz.f176.name,by decide,Tryz.func176.trans (congrArg some (by kernel_rfl))⟩
 t0:=Tryz.underlying0
 a0:=Tryz.isAgg0
 z0:=Tryz.sizeOf0
 v0:=Tryz.zeroValue0
 t3:=Tryz.underlying3
 a3:=Tryz.isAgg3
 z3:=Tryz.sizeOf3
 v3:=Tryz.zeroValue3
 t4:=Tryz.underlying4
 a4:=Tryz.isAgg4
 z4:=Tryz.sizeOf4
 v4:=Tryz.zeroValue4
 t9:=Tryz.underlying9
 a9:=Tryz.isAgg9
 z9:=Tryz.sizeOf9
 v9:=Tryz.zeroValue9
 t20:=Tryz.underlying20
 a20:=Tryz.isAgg20
 z20:=Tryz.sizeOf20
 v20:=Tryz.zeroValue20
 t22:=Tryz.underlying34
 a22:=Tryz.isAgg34
 z22:=Tryz.sizeOf34
 v22:=Tryz.zeroValue34 }

theorem own_sl {w:World} {B e s n:Nat} {v:Value} {cs:List Value} (h:w.ownsRow B e s v n cs):∃ a m c,v=.slice a m c:=by
 rcases h.2 with ⟨rfl,h0⟩ | ⟨g,cap,cur,hv,_⟩
 ·exact ⟨_,_,_,rfl⟩
 ·exact ⟨_,_,_,hv⟩
theorem growB_is (n:Nat) (w:World) (hn:n≤1000000) :
  Calls Tryz.prog 176 #[.slice none 0 0,.int .i64 n] w fun e w'=>(∃ v,e=.returned v∧(∃ a c,v=.slice a 0 c)∧w'.ownsRow w.heap.size 64 3 v 0 [])∧Below w.heap.size w w':=by
 obtain ⟨i0,hi,hz0,hz1,hz2⟩:=info_parts info_bug
 by_cases h0:n=0
 ·subst h0
  have k:=Any8.slices_Grow_room growBug none 0 0 0 w (Nat.le_refl _) (by omega) (by omega) (by omega)
  refine Calls.mono k ?_
  rintro e w' ⟨rfl,rfl⟩
  exact ⟨⟨_,rfl,⟨_,_,rfl⟩,World.ownsRow_nil _ _ _ _⟩,Below.refl _ _⟩
 ·have k:=Any8.slices_Grow_grow growBug i0 _ hi hz0 (by omega) none 0 0 n [] w (Nat.le_refl _) (by omega) (by rw [hz2];omega) (by omega) (by simp) (fun _=>rfl) (fun a h=>by cases h)
  refine Calls.mono k ?_
  rintro e w' ⟨rfl,rfl⟩
  have hG1:=grownCap_ge w (0+n) 0 64
  have hG2:=grownCap_le_maxLen w (0+n) 0 64 (by unfold maxLen;omega)
  refine ⟨⟨_,rfl,⟨_,_,rfl⟩,rfl,.inr ⟨w.heap.size,_,_,rfl,Nat.le_refl _,heap_alloc_new _ _,Nat.zero_le _,hG2,?_,by simp⟩⟩,(Below.refl _ _).trans (by go_grown)⟩
  have e3:(Value.agg #[.int .i64 0,.int .i64 0,.int .i64 0]).cells.size=3:=rfl
  simp only [Array.size_append,size_zeroCells,e3,List.size_toArray,List.length_nil]
  show 0+(0+n - 0)*3+(grownCap w (0+n) 0 64 - (0+n))*3=grownCap w (0+n) 0 64*3
  omega

theorem concat_is (g:Nat) (a0:Option Addr) (n0 c0:Nat) (xs:List I3) (a1:Option Addr) (n1 c1:Nat) (ys:List I3) (w:World) (h0:Instrs w a0 n0 c0 xs) (h1:Instrs w a1 n1 c1 ys) (m0:n0≤400000) (m1:n1≤400000)
  (z0:a0=none→c0=0) (z1:a1=none→c1=0) (p0:∀ a,a0=some a→a.spot=none) (p1:∀ a,a1=some a→a.spot=none) (d0:w.cell? ⟨g,0,none⟩=some (.slice a0 n0 c0)) (d1:w.cell? ⟨g,1,none⟩=some (.slice a1 n1 c1)) :
  Calls Tryz.prog 149 #[.slice (some ⟨g,0,none⟩) 2 2] w fun e w'=>(∃ v,e=.returned v∧(∃ a n c,v=.slice a n c)∧w'.ownsRow w.heap.size 64 3 v (n0+n1) (flat (xs++ys)))∧Below w.heap.size w w':=by
 obtain ⟨i0,hi,hz0,hz1,hz2⟩:=info_parts info_bug
 have l0:=h0.1
 have l1:=h1.1
 have H1:Hid (∀ W,Below w.heap.size w W→Instrs W a1 n1 c1 ys):=fun W hb=>h1.below hb
 have hgw:g<w.heap.size:=World.block_lt_of_cell? _ _ d0
 have kG:Hid (∀ (z:Int) (W:World),z=(n0:Int)+(n1:Int)→Calls Tryz.prog 176 #[.slice none 0 0,.int .i64 z] W fun e w'=>(∃ v,e=.returned v∧(∃ a c,v=.slice a 0 c)∧w'.ownsRow W.heap.size 64 3 v 0 [])∧Below W.heap.size W w'):=by
  intro z W hz
  obtain rfl:z=((n0+n1:Nat):Int):=by omega
  exact growB_is (n0+n1) W (by omega)

 have HF:Hid (flat (xs++ys)=flat xs++flat ys):=flat_append xs ys
 go_enter Tryz.func149,Tryz.ntmps149
 go_wp2_with fail
 refine wp_loop_rounds 3 ?_
 rw [rounds_succ]
 go_wp2
 rw [rounds_succ]
 go_wp2
 rw [rounds_succ]
 go_wp2_with fail
 refine (kG.out _ _ rfl).mono ?_
 rintro e w1 ⟨⟨v,rfl,⟨aG,cG,rfl⟩,hq⟩,bw⟩
 clear kG
 replace h0:=h0.below bw
 replace h1:=h1.below bw
 replace d0:=cells_kept bw _ _ d0
 replace d1:=cells_kept bw _ _ d1
 have hsz:=bw.size
 go_wp2_with fail
 refine wp_loop_rounds 3 ?_
 rw [rounds_succ]
 rcases a0 with _ | ⟨b0,o0,s0⟩
 ·obtain rfl:=z0 rfl
  obtain rfl:n0=0:=by have:=h0.2.1;omega
  obtain rfl:xs=[]:=List.length_eq_zero_iff.1 l0
  rcases a1 with _ | ⟨b1,o1,s1⟩
  ·obtain rfl:=z1 rfl
   obtain rfl:n1=0:=by have:=h1.2.1;omega
   obtain rfl:ys=[]:=List.length_eq_zero_iff.1 l1
   go_wp2_with (at_builtin;refine wpList_append_own_none rfl _ _ 34 rfl w.heap.size 64 i0 3 Tryz.underlying34 hi (.slice aG 0 cG) _ _ rfl hq rfl ?_)
   go_wp2_with fail
   rw [rounds_succ]
   go_wp2_with (at_builtin;refine wpList_append_own_none rfl _ _ 34 rfl w.heap.size 64 i0 3 Tryz.underlying34 hi (.slice aG 0 cG) _ _ rfl hq rfl ?_)
   go_wp2_with fail
   rw [rounds_succ]
   have HQ:Hid (∀ e:Ending,e=Ending.returned (.slice aG 0 cG)→∃ v,e=Ending.returned v∧(∃ a n c,v=Value.slice a n c)∧w1.ownsRow w.heap.size 64 3 v (0+0) (flat ([]++[]))):=fun e he=>⟨_,he,own_sl hq,by simpa [flat_append,flat] using hq⟩
   clear hq h0 h1 d0 d1
   go_wp2
   go_ret
   exact ⟨HQ.out _ rfl,bw⟩
  ·obtain rfl:s1=none:=p1 _ rfl
   go_wp2_with (at_builtin;refine wpList_append_own_none rfl _ _ 34 rfl w.heap.size 64 i0 3 Tryz.underlying34 hi (.slice aG 0 cG) _ _ rfl hq rfl ?_)
   go_wp2_with fail
   rw [rounds_succ]
   go_wp2_with (at_builtin;refine wpList_append_own _ rfl _ _ 34 rfl w.heap.size 64 i0 (.agg #[.int .i64 0,.int .i64 0,.int .i64 0]) 3 24 Tryz.underlying34 hi hz0 hz1 hz2 rfl (by decide) (.slice aG 0 cG) _ _ rfl hq ⟨b1,o1,none⟩ n1 c1 (flat ys) rfl (by rw [flat_length];omega) (instrs_news h1) (flat_one _) (by unfold maxLen;omega) (by omega) hsz ?_)
   intro v3 U3 q3 gr _
   replace d0:=cell_grownB gr d0 (fun e=>by have h9:=(hq.lt _ e.symm).1;have h8:=hgw;simp at h9;omega)
   replace d1:=cell_grownB gr d1 (fun e=>by have h9:=(hq.lt _ e.symm).1;have h8:=hgw;simp at h9;omega)
   replace bw:=bw.grown gr hsz (fun j hj=>(hq.lt j hj).1)
   replace h1:=H1.out _ bw
   replace hsz:=Nat.le_trans hsz gr.size
   clear gr
   go_wp2_with fail
   rw [rounds_succ]
   have HQ:Hid (∀ e:Ending,e=Ending.returned v3→∃ v,e=Ending.returned v∧(∃ a n c,v=Value.slice a n c)∧U3.ownsRow w.heap.size 64 3 v (0+n1) (flat ([]++ys))):=fun e he=>⟨_,he,own_sl q3,by simpa [flat_append,flat] using q3⟩
   clear q3 h0 h1 d0 d1
   go_wp2
   go_ret
   exact ⟨HQ.out _ rfl,bw⟩
 ·obtain rfl:s0=none:=p0 _ rfl
  rcases a1 with _ | ⟨b1,o1,s1⟩
  ·obtain rfl:=z1 rfl
   obtain rfl:n1=0:=by have:=h1.2.1;omega
   obtain rfl:ys=[]:=List.length_eq_zero_iff.1 l1
   go_wp2_with (at_builtin;refine wpList_append_own _ rfl _ _ 34 rfl w.heap.size 64 i0 (.agg #[.int .i64 0,.int .i64 0,.int .i64 0]) 3 24 Tryz.underlying34 hi hz0 hz1 hz2 rfl (by decide) (.slice aG 0 cG) _ _ rfl hq ⟨b0,o0,none⟩ n0 c0 (flat xs) rfl (by rw [flat_length];omega) (instrs_news h0) (flat_one _) (by unfold maxLen;omega) (by omega) hsz ?_)
   intro v2 U2 q2 gr _
   replace d0:=cell_grownB gr d0 (fun e=>by have h9:=(hq.lt _ e.symm).1;have h8:=hgw;simp at h9;omega)
   replace d1:=cell_grownB gr d1 (fun e=>by have h9:=(hq.lt _ e.symm).1;have h8:=hgw;simp at h9;omega)
   replace bw:=bw.grown gr hsz (fun j hj=>(hq.lt j hj).1)
   replace h1:=H1.out _ bw
   replace hsz:=Nat.le_trans hsz gr.size
   clear gr
   go_wp2_with fail
   rw [rounds_succ]
   go_wp2_with (at_builtin;refine wpList_append_own_none rfl _ _ 34 rfl w.heap.size 64 i0 3 Tryz.underlying34 hi v2 _ _ rfl q2 rfl ?_)
   go_wp2_with fail
   rw [rounds_succ]
   have HQ:Hid (∀ e:Ending,e=Ending.returned v2→∃ v,e=Ending.returned v∧(∃ a n c,v=Value.slice a n c)∧U2.ownsRow w.heap.size 64 3 v (n0+0) (flat (xs++[]))):=fun e he=>⟨_,he,own_sl q2,by simpa [flat_append,flat] using q2⟩
   clear q2 h0 h1 d0 d1
   go_wp2
   go_ret
   exact ⟨HQ.out _ rfl,bw⟩
  ·obtain rfl:s1=none:=p1 _ rfl
   go_wp2_with (at_builtin;refine wpList_append_own _ rfl _ _ 34 rfl w.heap.size 64 i0 (.agg #[.int .i64 0,.int .i64 0,.int .i64 0]) 3 24 Tryz.underlying34 hi hz0 hz1 hz2 rfl (by decide) (.slice aG 0 cG) _ _ rfl hq ⟨b0,o0,none⟩ n0 c0 (flat xs) rfl (by rw [flat_length];omega) (instrs_news h0) (flat_one _) (by unfold maxLen;omega) (by omega) hsz ?_)
   intro v2 U2 q2 gr _
   replace d0:=cell_grownB gr d0 (fun e=>by have h9:=(hq.lt _ e.symm).1;have h8:=hgw;simp at h9;omega)
   replace d1:=cell_grownB gr d1 (fun e=>by have h9:=(hq.lt _ e.symm).1;have h8:=hgw;simp at h9;omega)
   replace bw:=bw.grown gr hsz (fun j hj=>(hq.lt j hj).1)
   replace h1:=H1.out _ bw
   replace hsz:=Nat.le_trans hsz gr.size
   clear gr
   go_wp2_with fail
   rw [rounds_succ]
   go_wp2_with (at_builtin;refine wpList_append_own _ rfl _ _ 34 rfl w.heap.size 64 i0 (.agg #[.int .i64 0,.int .i64 0,.int .i64 0]) 3 24 Tryz.underlying34 hi hz0 hz1 hz2 rfl (by decide) v2 _ _ rfl q2 ⟨b1,o1,none⟩ n1 c1 (flat ys) rfl (by rw [flat_length];omega) (instrs_news h1) (flat_one _) (by unfold maxLen;omega) (by omega) hsz ?_)
   intro v3 U3 q3 gr _
   replace d0:=cell_grownB gr d0 (fun e=>by have h9:=(q2.lt _ e.symm).1;have h8:=hgw;simp at h9;omega)
   replace d1:=cell_grownB gr d1 (fun e=>by have h9:=(q2.lt _ e.symm).1;have h8:=hgw;simp at h9;omega)
   replace bw:=bw.grown gr hsz (fun j hj=>(q2.lt j hj).1)
   replace h1:=H1.out _ bw
   replace hsz:=Nat.le_trans hsz gr.size
   clear gr
   go_wp2_with fail
   rw [rounds_succ]
   have HQ:Hid (∀ e:Ending,e=Ending.returned v3→∃ v,e=Ending.returned v∧(∃ a n c,v=Value.slice a n c)∧U3.ownsRow w.heap.size 64 3 v (n0+n1) (flat (xs++ys))):=fun e he=>⟨_,he,own_sl q3,by simpa [flat_append,flat] using q3⟩
   clear q3 h0 h1 d0 d1
   go_wp2
   go_ret
   exact ⟨HQ.out _ rfl,bw⟩
end Go.Proofs.YtifoggpohlegmaaGreatDoor
