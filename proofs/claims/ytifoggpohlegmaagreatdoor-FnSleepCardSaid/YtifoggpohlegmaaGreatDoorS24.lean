/-
  Joined: SortL, CatB.
-/
import Derived.Shelf.SlSortCmp.NoneTotal
import Derived.Shelf.Spec.SlicesGrow
import Derived.Laws.AppendOwnNone
import Derived.Test.YtifoggpohlegmaaGreatDoorS14

namespace Go.Proofs.YtifoggpohlegmaaGreatDoor
set_option maxRecDepth 100000
set_option maxHeartbeats 16000000
open Go.RowKit Go.Shelf

def sortBug_ren:Go.Shelf.Ren:=⟨fun | 6=>150 | 15=>178 | 14=>177 | 28=>198 | 29=>199 | 20=>190 | 21=>191 | 22=>192 | 23=>193 | 24=>194 | 25=>195 | 26=>196 | 27=>197 | 46=>203 | 47=>204 | 48=>205 | 49=>206 | 50=>207 | 57=>217 | n=>n,fun | 22=>34 | 24=>64 | 25=>203 | 3=>3 | 39=>235 | 0=>0 | 53=>254 | 55=>256 | 4=>4 | 46=>248 | 45=>247 | 50=>120 | 5=>5 | 9=>9 | 66=>259 | 70=>263 | 76=>270 | 77=>73 | n=>n,fun | n=>n⟩
theorem sortBug:Go.Proofs.SlLaysF0.n6 Tryz.prog sortBug_ren:={
 mixed:=by kernel_rfl
 f6:=⟨Tryz.f150.name,by decide,Tryz.func150.trans (congrArg some (by kernel_rfl))⟩
 f14:=⟨Tryz.f177.name,by decide,Tryz.func177.trans (congrArg some (by kernel_rfl))⟩
 f15:=Tryz.func178.trans (congrArg some (by kernel_rfl))
 f20:=⟨Tryz.f190.name,by decide,Tryz.func190.trans (congrArg some (by kernel_rfl))⟩
 f21:=⟨Tryz.f191.name,by decide,Tryz.func191.trans (congrArg some (by kernel_rfl))⟩
 f22:=⟨Tryz.f192.name,by decide,Tryz.func192.trans (congrArg some (by kernel_rfl))⟩
 f23:=⟨Tryz.f193.name,by decide,Tryz.func193.trans (congrArg some (by kernel_rfl))⟩
 f24:=⟨Tryz.f194.name,by decide,Tryz.func194.trans (congrArg some (by kernel_rfl))⟩
 f25:=⟨Tryz.f195.name,by decide,Tryz.func195.trans (congrArg some (by kernel_rfl))⟩
 f26:=⟨Tryz.f196.name,by decide,Tryz.func196.trans (congrArg some (by kernel_rfl))⟩
 f27:=⟨Tryz.f197.name,by decide,Tryz.func197.trans (congrArg some (by kernel_rfl))⟩
 f28:=Tryz.func198.trans (congrArg some (by kernel_rfl))
 f29:=Tryz.func199.trans (congrArg some (by kernel_rfl))
 f46:=⟨Tryz.f203.name,by decide,Tryz.func203.trans (congrArg some (by kernel_rfl))⟩
 f47:=Tryz.func204.trans (congrArg some (by kernel_rfl))
 f48:=Tryz.func205.trans (congrArg some (by kernel_rfl))
 f49:=⟨Tryz.f206.name,by decide,Tryz.func206.trans (congrArg some (by kernel_rfl))⟩
 f50:=⟨Tryz.f207.name,by decide,Tryz.func207.trans (congrArg some (by kernel_rfl))⟩
 f57:=⟨Tryz.f217.name,by decide,Tryz.func217.trans (congrArg some (by kernel_rfl))⟩
 t0:=Tryz.underlying0
 a0:=Tryz.isAgg0
 z0:=Tryz.sizeOf0
 v0:=Tryz.zeroValue0
 t3:=Tryz.underlying3
 a3:=Tryz.isAgg3
 z3:=Tryz.sizeOf3
 v3:=Tryz.zeroValue3
 t4:=Tryz.underlying4
 a4:=Tryz.isAgg4
 z4:=Tryz.sizeOf4
 v4:=Tryz.zeroValue4
 t5:=Tryz.underlying5
 a5:=Tryz.isAgg5
 z5:=Tryz.sizeOf5
 v5:=Tryz.zeroValue5
 t9:=Tryz.underlying9
 a9:=Tryz.isAgg9
 z9:=Tryz.sizeOf9
 v9:=Tryz.zeroValue9
 t22:=Tryz.underlying34
 a22:=Tryz.isAgg34
 z22:=Tryz.sizeOf34
 v22:=Tryz.zeroValue34
 t25:=Tryz.underlying203
 a25:=Tryz.isAgg203
 z25:=Tryz.sizeOf203
 v25:=Tryz.zeroValue203
 t39:=Tryz.underlying235
 a39:=Tryz.isAgg235
 z39:=Tryz.sizeOf235
 v39:=Tryz.zeroValue235
 t45:=Tryz.underlying247
 a45:=Tryz.isAgg247
 z45:=Tryz.sizeOf247
 v45:=Tryz.zeroValue247
 t46:=Tryz.underlying248
 a46:=Tryz.isAgg248
 z46:=Tryz.sizeOf248
 v46:=Tryz.zeroValue248
 t50:=Tryz.underlying120
 a50:=Tryz.isAgg120
 z50:=Tryz.sizeOf120
 v50:=Tryz.zeroValue120
 t53:=Tryz.underlying254
 a53:=Tryz.isAgg254
 z53:=Tryz.sizeOf254
 v53:=Tryz.zeroValue254
 t55:=Tryz.underlying256
 a55:=Tryz.isAgg256
 z55:=Tryz.sizeOf256
 v55:=Tryz.zeroValue256
 t66:=Tryz.underlying259
 a66:=Tryz.isAgg259
 z66:=Tryz.sizeOf259
 v66:=Tryz.zeroValue259
 t70:=Tryz.underlying263
 a70:=Tryz.isAgg263
 z70:=Tryz.sizeOf263
 v70:=Tryz.zeroValue263
 t76:=Tryz.underlying270
 a76:=Tryz.isAgg270
 z76:=Tryz.sizeOf270
 v76:=Tryz.zeroValue270
 t77:=Tryz.underlying73
 a77:=Tryz.isAgg73
 z77:=Tryz.sizeOf73
 v77:=Tryz.zeroValue73 }

set_option linter.unusedVariables false
set_option linter.unusedSimpArgs false

def growBug_ren:Go.Shelf.Ren:=⟨fun | 4=>176 | n=>n,fun | 22=>34 | 25=>64 | 3=>3 | 4=>4 | 9=>9 | 20=>20 | 0=>0 | n=>n,fun | n=>n⟩
theorem growBug:Go.Proofs.Lays8.n4 Tryz.prog growBug_ren:={
 mixed:=by kernel_rfl
 f4:=⟨Tryz.f176.name,by decide,Tryz.func176.trans (congrArg some (by kernel_rfl))⟩
 t0:=Tryz.underlying0
 a0:=Tryz.isAgg0
 z0:=Tryz.sizeOf0
 v0:=Tryz.zeroValue0
 t3:=Tryz.underlying3
 a3:=Tryz.isAgg3
 z3:=Tryz.sizeOf3
 v3:=Tryz.zeroValue3
 t4:=Tryz.underlying4
 a4:=Tryz.isAgg4
 z4:=Tryz.sizeOf4
 v4:=Tryz.zeroValue4
 t9:=Tryz.underlying9
 a9:=Tryz.isAgg9
 z9:=Tryz.sizeOf9
 v9:=Tryz.zeroValue9
 t20:=Tryz.underlying20
 a20:=Tryz.isAgg20
 z20:=Tryz.sizeOf20
 v20:=Tryz.zeroValue20
 t22:=Tryz.underlying34
 a22:=Tryz.isAgg34
 z22:=Tryz.sizeOf34
 v22:=Tryz.zeroValue34 }

theorem own_sl {w:World} {B e s n:Nat} {v:Value} {cs:List Value} (h:w.ownsRow B e s v n cs):∃ a m c,v=.slice a m c:=by
 rcases h.2 with ⟨rfl,h0⟩ | ⟨g,cap,cur,hv,_⟩
 ·exact ⟨_,_,_,rfl⟩
 ·exact ⟨_,_,_,hv⟩
theorem growB_is (n:Nat) (w:World) (hn:n≤1000000) :
  Calls Tryz.prog 176 #[.slice none 0 0,.int .i64 n] w fun e w'=>(∃ v,e=.returned v∧(∃ a c,v=.slice a 0 c)∧w'.ownsRow w.heap.size 64 3 v 0 [])∧Below w.heap.size w w':=by
 obtain ⟨i0,hi,hz0,hz1,hz2⟩:=info_parts info_bug
 by_cases h0:n=0
 ·subst h0
  have k:=Any8.slices_Grow_room growBug none 0 0 0 w (Nat.le_refl _) (by omega) (by omega) (by omega)
  refine Calls.mono k ?_
  rintro e w' ⟨rfl,rfl⟩
  exact ⟨⟨_,rfl,⟨_,_,rfl⟩,World.ownsRow_nil _ _ _ _⟩,Below.refl _ _⟩
 ·have k:=Any8.slices_Grow_grow growBug i0 _ hi hz0 (by omega) none 0 0 n [] w (Nat.le_refl _) (by omega) (by rw [hz2];omega) (by omega) (by simp) (fun _=>rfl) (fun a h=>by cases h)
  refine Calls.mono k ?_
  rintro e w' ⟨rfl,rfl⟩
  have hG1:=grownCap_ge w (0+n) 0 64
  have hG2:=grownCap_le_maxLen w (0+n) 0 64 (by unfold maxLen;omega)
  refine ⟨⟨_,rfl,⟨_,_,rfl⟩,rfl,.inr ⟨w.heap.size,_,_,rfl,Nat.le_refl _,heap_alloc_new _ _,Nat.zero_le _,hG2,?_,by simp⟩⟩,(Below.refl _ _).trans (by go_grown)⟩
  have e3:(Value.agg #[.int .i64 0,.int .i64 0,.int .i64 0]).cells.size=3:=rfl
  simp only [Array.size_append,size_zeroCells,e3,List.size_toArray,List.length_nil]
  show 0+(0+n - 0)*3+(grownCap w (0+n) 0 64 - (0+n))*3=grownCap w (0+n) 0 64*3
  omega

theorem concat_is (g:Nat) (a0:Option Addr) (n0 c0:Nat) (xs:List I3) (a1:Option Addr) (n1 c1:Nat) (ys:List I3) (w:World) (h0:Instrs w a0 n0 c0 xs) (h1:Instrs w a1 n1 c1 ys) (m0:n0≤400000) (m1:n1≤400000)
  (z0:a0=none→c0=0) (z1:a1=none→c1=0) (p0:∀ a,a0=some a→a.spot=none) (p1:∀ a,a1=some a→a.spot=none) (d0:w.cell? ⟨g,0,none⟩=some (.slice a0 n0 c0)) (d1:w.cell? ⟨g,1,none⟩=some (.slice a1 n1 c1)) :
  Calls Tryz.prog 149 #[.slice (some ⟨g,0,none⟩) 2 2] w fun e w'=>(∃ v,e=.returned v∧(∃ a n c,v=.slice a n c)∧w'.ownsRow w.heap.size 64 3 v (n0+n1) (flat (xs++ys)))∧Below w.heap.size w w':=by
 obtain ⟨i0,hi,hz0,hz1,hz2⟩:=info_parts info_bug
 have l0:=h0.1
 have l1:=h1.1
 have H1:Hid (∀ W,Below w.heap.size w W→Instrs W a1 n1 c1 ys):=fun W hb=>h1.below hb
 have hgw:g<w.heap.size:=World.block_lt_of_cell? _ _ d0
 have kG:Hid (∀ (z:Int) (W:World),z=(n0:Int)+(n1:Int)→Calls Tryz.prog 176 #[.slice none 0 0,.int .i64 z] W fun e w'=>(∃ v,e=.returned v∧(∃ a c,v=.slice a 0 c)∧w'.ownsRow W.heap.size 64 3 v 0 [])∧Below W.heap.size W w'):=by
  intro z W hz
  obtain rfl:z=((n0+n1:Nat):Int):=by omega
  exact growB_is (n0+n1) W (by omega)

 have HF:Hid (flat (xs++ys)=flat xs++flat ys):=flat_append xs ys
 go_enter Tryz.func149,Tryz.ntmps149
 go_wp2_with fail
 refine wp_loop_rounds 3 ?_
 rw [rounds_succ]
 go_wp2
 rw [rounds_succ]
 go_wp2
 rw [rounds_succ]
 go_wp2_with fail
 refine (kG.out _ _ rfl).mono ?_
 rintro e w1 ⟨⟨v,rfl,⟨aG,cG,rfl⟩,hq⟩,bw⟩
 clear kG
 replace h0:=h0.below bw
 replace h1:=h1.below bw
 replace d0:=cells_kept bw _ _ d0
 replace d1:=cells_kept bw _ _ d1
 have hsz:=bw.size
 go_wp2_with fail
 refine wp_loop_rounds 3 ?_
 rw [rounds_succ]
 rcases a0 with _ | ⟨b0,o0,s0⟩
 ·obtain rfl:=z0 rfl
  obtain rfl:n0=0:=by have:=h0.2.1;omega
  obtain rfl:xs=[]:=List.length_eq_zero_iff.1 l0
  rcases a1 with _ | ⟨b1,o1,s1⟩
  ·obtain rfl:=z1 rfl
   obtain rfl:n1=0:=by have:=h1.2.1;omega
   obtain rfl:ys=[]:=List.length_eq_zero_iff.1 l1
   go_wp2_with (at_builtin;refine wpList_append_own_none rfl _ _ 34 rfl w.heap.size 64 i0 3 Tryz.underlying34 hi (.slice aG 0 cG) _ _ rfl hq rfl ?_)
   go_wp2_with fail
   rw [rounds_succ]
   go_wp2_with (at_builtin;refine wpList_append_own_none rfl _ _ 34 rfl w.heap.size 64 i0 3 Tryz.underlying34 hi (.slice aG 0 cG) _ _ rfl hq rfl ?_)
   go_wp2_with fail
   rw [rounds_succ]
   have HQ:Hid (∀ e:Ending,e=Ending.returned (.slice aG 0 cG)→∃ v,e=Ending.returned v∧(∃ a n c,v=Value.slice a n c)∧w1.ownsRow w.heap.size 64 3 v (0+0) (flat ([]++[]))):=fun e he=>⟨_,he,own_sl hq,by simpa [flat_append,flat] using hq⟩
   clear hq h0 h1 d0 d1
   go_wp2
   go_ret
   exact ⟨HQ.out _ rfl,bw⟩
  ·obtain rfl:s1=none:=p1 _ rfl
   go_wp2_with (at_builtin;refine wpList_append_own_none rfl _ _ 34 rfl w.heap.size 64 i0 3 Tryz.underlying34 hi (.slice aG 0 cG) _ _ rfl hq rfl ?_)
   go_wp2_with fail
   rw [rounds_succ]
   go_wp2_with (at_builtin;refine wpList_append_own _ rfl _ _ 34 rfl w.heap.size 64 i0 (.agg #[.int .i64 0,.int .i64 0,.int .i64 0]) 3 24 Tryz.underlying34 hi hz0 hz1 hz2 rfl (by decide) (.slice aG 0 cG) _ _ rfl hq ⟨b1,o1,none⟩ n1 c1 (flat ys) rfl (by rw [flat_length];omega) (instrs_news h1) (flat_one _) (by unfold maxLen;omega) (by omega) hsz ?_)
   intro v3 U3 q3 gr _
   replace d0:=cell_grownB gr d0 (fun e=>by have h9:=(hq.lt _ e.symm).1;have h8:=hgw;simp at h9;omega)
   replace d1:=cell_grownB gr d1 (fun e=>by have h9:=(hq.lt _ e.symm).1;have h8:=hgw;simp at h9;omega)
   replace bw:=bw.grown gr hsz (fun j hj=>(hq.lt j hj).1)
   replace h1:=H1.out _ bw
   replace hsz:=Nat.le_trans hsz gr.size
   clear gr
   go_wp2_with fail
   rw [rounds_succ]
   have HQ:Hid (∀ e:Ending,e=Ending.returned v3→∃ v,e=Ending.returned v∧(∃ a n c,v=Value.slice a n c)∧U3.ownsRow w.heap.size 64 3 v (0+n1) (flat ([]++ys))):=fun e he=>⟨_,he,own_sl q3,by simpa [flat_append,flat] using q3⟩
   clear q3 h0 h1 d0 d1
   go_wp2
   go_ret
   exact ⟨HQ.out _ rfl,bw⟩
 ·obtain rfl:s0=none:=p0 _ rfl
  rcases a1 with _ | ⟨b1,o1,s1⟩
  ·obtain rfl:=z1 rfl
   obtain rfl:n1=0:=by have:=h1.2.1;omega
   obtain rfl:ys=[]:=List.length_eq_zero_iff.1 l1
   go_wp2_with (at_builtin;refine wpList_append_own _ rfl _ _ 34 rfl w.heap.size 64 i0 (.agg #[.int .i64 0,.int .i64 0,.int .i64 0]) 3 24 Tryz.underlying34 hi hz0 hz1 hz2 rfl (by decide) (.slice aG 0 cG) _ _ rfl hq ⟨b0,o0,none⟩ n0 c0 (flat xs) rfl (by rw [flat_length];omega) (instrs_news h0) (flat_one _) (by unfold maxLen;omega) (by omega) hsz ?_)
   intro v2 U2 q2 gr _
   replace d0:=cell_grownB gr d0 (fun e=>by have h9:=(hq.lt _ e.symm).1;have h8:=hgw;simp at h9;omega)
   replace d1:=cell_grownB gr d1 (fun e=>by have h9:=(hq.lt _ e.symm).1;have h8:=hgw;simp at h9;omega)
   replace bw:=bw.grown gr hsz (fun j hj=>(hq.lt j hj).1)
   replace h1:=H1.out _ bw
   replace hsz:=Nat.le_trans hsz gr.size
   clear gr
   go_wp2_with fail
   rw [rounds_succ]
   go_wp2_with (at_builtin;refine wpList_append_own_none rfl _ _ 34 rfl w.heap.size 64 i0 3 Tryz.underlying34 hi v2 _ _ rfl q2 rfl ?_)
   go_wp2_with fail
   rw [rounds_succ]
   have HQ:Hid (∀ e:Ending,e=Ending.returned v2→∃ v,e=Ending.returned v∧(∃ a n c,v=Value.slice a n c)∧U2.ownsRow w.heap.size 64 3 v (n0+0) (flat (xs++[]))):=fun e he=>⟨_,he,own_sl q2,by simpa [flat_append,flat] using q2⟩
   clear q2 h0 h1 d0 d1
   go_wp2
   go_ret
   exact ⟨HQ.out _ rfl,bw⟩
  ·obtain rfl:s1=none:=p1 _ rfl
   go_wp2_with (at_builtin;refine wpList_append_own _ rfl _ _ 34 rfl w.heap.size 64 i0 (.agg #[.int .i64 0,.int .i64 0,.int .i64 0]) 3 24 Tryz.underlying34 hi hz0 hz1 hz2 rfl (by decide) (.slice aG 0 cG) _ _ rfl hq ⟨b0,o0,none⟩ n0 c0 (flat xs) rfl (by rw [flat_length];omega) (instrs_news h0) (flat_one _) (by unfold maxLen;omega) (by omega) hsz ?_)
   intro v2 U2 q2 gr _
   replace d0:=cell_grownB gr d0 (fun e=>by have h9:=(hq.lt _ e.symm).1;have h8:=hgw;simp at h9;omega)
   replace d1:=cell_grownB gr d1 (fun e=>by have h9:=(hq.lt _ e.symm).1;have h8:=hgw;simp at h9;omega)
   replace bw:=bw.grown gr hsz (fun j hj=>(hq.lt j hj).1)
   replace h1:=H1.out _ bw
   replace hsz:=Nat.le_trans hsz gr.size
   clear gr
   go_wp2_with fail
   rw [rounds_succ]
   go_wp2_with (at_builtin;refine wpList_append_own _ rfl _ _ 34 rfl w.heap.size 64 i0 (.agg #[.int .i64 0,.int .i64 0,.int .i64 0]) 3 24 Tryz.underlying34 hi hz0 hz1 hz2 rfl (by decide) v2 _ _ rfl q2 ⟨b1,o1,none⟩ n1 c1 (flat ys) rfl (by rw [flat_length];omega) (instrs_news h1) (flat_one _) (by unfold maxLen;omega) (by omega) hsz ?_)
   intro v3 U3 q3 gr _
   replace d0:=cell_grownB gr d0 (fun e=>by have h9:=(q2.lt _ e.symm).1;have h8:=hgw;simp at h9;omega)
   replace d1:=cell_grownB gr d1 (fun e=>by have h9:=(q2.lt _ e.symm).1;have h8:=hgw;simp at h9;omega)
   replace bw:=bw.grown gr hsz (fun j hj=>(q2.lt j hj).1)
   replace h1:=H1.out _ bw
   replace hsz:=Nat.le_trans hsz gr.size
   clear gr
   go_wp2_with fail
   rw [rounds_succ]
   have HQ:Hid (∀ e:Ending,e=Ending.returned v3→∃ v,e=Ending.returned v∧(∃ a n c,v=Value.slice a n c)∧U3.ownsRow w.heap.size 64 3 v (n0+n1) (flat (xs++ys))):=fun e he=>⟨_,he,own_sl q3,by simpa [flat_append,flat] using q3⟩
   clear q3 h0 h1 d0 d1
   go_wp2
   go_ret
   exact ⟨HQ.out _ rfl,bw⟩
end Go.Proofs.YtifoggpohlegmaaGreatDoor
