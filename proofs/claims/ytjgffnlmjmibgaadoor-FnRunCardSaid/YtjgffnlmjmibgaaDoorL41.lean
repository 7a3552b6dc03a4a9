/-
  Joined: SortL, CatB.
-/
import Derived.Shelf.SlSortCmp.NoneTotal
import Derived.Shelf.Spec.SlicesGrow
import Derived.Laws.AppendOwnNone
import Derived.Test.YtjgffnlmjmibgaaDoorL34

namespace Go.Proofs.YtjgffnlmjmibgaaDoor
set_option maxRecDepth 100000
set_option maxHeartbeats 16000000
open Go.RowKit Go.Shelf

def sortBug_ren:Go.Shelf.Ren:=⟨fun | 6=>103 | 15=>123 | 14=>122 | 28=>139 | 29=>140 | 20=>131 | 21=>132 | 22=>133 | 23=>134 | 24=>135 | 25=>136 | 26=>137 | 27=>138 | 46=>145 | 47=>146 | 48=>147 | 49=>148 | 50=>149 | 57=>151 | n=>n,fun | 22=>31 | 24=>40 | 25=>167 | 3=>3 | 39=>194 | 0=>0 | 53=>209 | 55=>211 | 4=>4 | 46=>203 | 45=>202 | 50=>198 | 5=>5 | 9=>9 | 66=>214 | 70=>218 | 76=>226 | 77=>55 | n=>n,fun | n=>n⟩
theorem sortBug:Go.Proofs.SlLaysF0.n6 Tryd.prog sortBug_ren:={
 mixed:=by kernel_rfl
 f6:=⟨Tryd.f103.name,by decide,Tryd.func103.trans (congrArg some (by kernel_rfl))⟩
 f14:=⟨Tryd.f122.name,by decide,Tryd.func122.trans (congrArg some (by kernel_rfl))⟩
 f15:=Tryd.func123.trans (congrArg some (by kernel_rfl))
 f20:=⟨Tryd.f131.name,by decide,Tryd.func131.trans (congrArg some (by kernel_rfl))⟩
 f21:=⟨Tryd.f132.name,by decide,Tryd.func132.trans (congrArg some (by kernel_rfl))⟩
 f22:=⟨Tryd.f133.name,by decide,Tryd.func133.trans (congrArg some (by kernel_rfl))⟩
 f23:=⟨Tryd.f134.name,by decide,Tryd.func134.trans (congrArg some (by kernel_rfl))⟩
 f24:=⟨Tryd.f135.name,by decide,Tryd.func135.trans (congrArg some (by kernel_rfl))⟩
 f25:=⟨Tryd.f136.name,by decide,Tryd.func136.trans (congrArg some (by kernel_rfl))⟩
 f26:=⟨Tryd.f137.name,by decide,Tryd.func137.trans (congrArg some (by kernel_rfl))⟩
 f27:=⟨Tryd.f138.name,by decide,Tryd.func138.trans (congrArg some (by kernel_rfl))⟩
 f28:=Tryd.func139.trans (congrArg some (by kernel_rfl))
 f29:=Tryd.func140.trans (congrArg some (by kernel_rfl))
 f46:=⟨Tryd.f145.name,by decide,Tryd.func145.trans (congrArg some (by kernel_rfl))⟩
 f47:=Tryd.func146.trans (congrArg some (by kernel_rfl))
 f48:=Tryd.func147.trans (congrArg some (by kernel_rfl))
 f49:=⟨Tryd.f148.name,by decide,Tryd.func148.trans (congrArg some (by kernel_rfl))⟩
 f50:=⟨Tryd.f149.name,by decide,Tryd.func149.trans (congrArg some (by kernel_rfl))⟩
 f57:=⟨Tryd.f151.name,by decide,Tryd.func151.trans (congrArg some (by kernel_rfl))⟩
 t0:=Tryd.underlying0
 a0:=Tryd.isAgg0
 z0:=Tryd.sizeOf0
 v0:=Tryd.zeroValue0
 t3:=Tryd.underlying3
 a3:=Tryd.isAgg3
 z3:=Tryd.sizeOf3
 v3:=Tryd.zeroValue3
 t4:=Tryd.underlying4
 a4:=Tryd.isAgg4
 z4:=Tryd.sizeOf4
 v4:=Tryd.zeroValue4
 t5:=Tryd.underlying5
 a5:=Tryd.isAgg5
 z5:=Tryd.sizeOf5
 v5:=Tryd.zeroValue5
 t9:=Tryd.underlying9
 a9:=Tryd.isAgg9
 z9:=Tryd.sizeOf9
 v9:=Tryd.zeroValue9
 t22:=Tryd.underlying31
 a22:=Tryd.isAgg31
 z22:=Tryd.sizeOf31
 v22:=Tryd.zeroValue31
 t25:=Tryd.underlying167
 a25:=Tryd.isAgg167
 z25:=Tryd.sizeOf167
 v25:=Tryd.zeroValue167
 t39:=Tryd.underlying194
 a39:=Tryd.isAgg194
 z39:=Tryd.sizeOf194
 v39:=Tryd.zeroValue194
 t45:=Tryd.underlying202
 a45:=Tryd.isAgg202
 z45:=Tryd.sizeOf202
 v45:=Tryd.zeroValue202
 t46:=Tryd.underlying203
 a46:=Tryd.isAgg203
 z46:=Tryd.sizeOf203
 v46:=Tryd.zeroValue203
 t50:=Tryd.underlying198
 a50:=Tryd.isAgg198
 z50:=Tryd.sizeOf198
 v50:=Tryd.zeroValue198
 t53:=Tryd.underlying209
 a53:=Tryd.isAgg209
 z53:=Tryd.sizeOf209
 v53:=Tryd.zeroValue209
 t55:=Tryd.underlying211
 a55:=Tryd.isAgg211
 z55:=Tryd.sizeOf211
 v55:=Tryd.zeroValue211
 t66:=Tryd.underlying214
 a66:=Tryd.isAgg214
 z66:=Tryd.sizeOf214
 v66:=Tryd.zeroValue214
 t70:=Tryd.underlying218
 a70:=Tryd.isAgg218
 z70:=Tryd.sizeOf218
 v70:=Tryd.zeroValue218
 t76:=Tryd.underlying226
 a76:=Tryd.isAgg226
 z76:=Tryd.sizeOf226
 v76:=Tryd.zeroValue226
 t77:=Tryd.underlying55
 a77:=Tryd.isAgg55
 z77:=Tryd.sizeOf55
 v77:=Tryd.zeroValue55 }

set_option linter.unusedVariables false
set_option linter.unusedSimpArgs false

def growBug_ren:Go.Shelf.Ren:=⟨fun | 4=>121 | n=>n,fun | 22=>31 | 25=>40 | 3=>3 | 4=>4 | 9=>9 | 20=>20 | 0=>0 | n=>n,fun | n=>n⟩
theorem growBug:Go.Proofs.Lays8.n4 Tryd.prog growBug_ren:={
 mixed:=by kernel_rfl
 f4:=⟨Tryd.f121.name,by decide,Tryd.func121.trans (congrArg some (by kernel_rfl))⟩
 t0:=Tryd.underlying0
 a0:=Tryd.isAgg0
 z0:=Tryd.sizeOf0
 v0:=Tryd.zeroValue0
 t3:=Tryd.underlying3
 a3:=Tryd.isAgg3
 z3:=Tryd.sizeOf3
 v3:=Tryd.zeroValue3
 t4:=Tryd.underlying4
 a4:=Tryd.isAgg4
 z4:=Tryd.sizeOf4
 v4:=Tryd.zeroValue4
 t9:=Tryd.underlying9
 a9:=Tryd.isAgg9
 z9:=Tryd.sizeOf9
 v9:=Tryd.zeroValue9
 t20:=Tryd.underlying20
 a20:=Tryd.isAgg20
 z20:=Tryd.sizeOf20
 v20:=Tryd.zeroValue20
 t22:=Tryd.underlying31
 a22:=Tryd.isAgg31
 z22:=Tryd.sizeOf31
 v22:=Tryd.zeroValue31 }

theorem own_sl {w:World} {B e s n:Nat} {v:Value} {cs:List Value} (h:w.ownsRow B e s v n cs):∃ a m c,v=.slice a m c:=by
 rcases h.2 with ⟨rfl,h0⟩ | ⟨g,cap,cur,hv,_⟩
 ·exact ⟨_,_,_,rfl⟩
 ·exact ⟨_,_,_,hv⟩
theorem growB_is (n:Nat) (w:World) (hn:n≤1000000) :
  Calls Tryd.prog 121 #[.slice none 0 0,.int .i64 n] w fun e w'=>(∃ v,e=.returned v∧(∃ a c,v=.slice a 0 c)∧w'.ownsRow w.heap.size 40 3 v 0 [])∧Below w.heap.size w w':=by
 obtain ⟨i0,hi,hz0,hz1,hz2⟩:=info_parts info_bug
 by_cases h0:n=0
 ·subst h0
  have k:=Any8.slices_Grow_room growBug none 0 0 0 w (Nat.le_refl _) (by omega) (by omega) (by omega)
  refine Calls.mono k ?_
  rintro e w' ⟨rfl,rfl⟩
  exact ⟨⟨_,rfl,⟨_,_,rfl⟩,World.ownsRow_nil _ _ _ _⟩,Below.refl _ _⟩
 ·have k:=Any8.slices_Grow_grow growBug i0 _ hi hz0 (by omega) none 0 0 n [] w (Nat.le_refl _) (by omega) (by rw [hz2];omega) (by omega) (by simp) (fun _=>rfl) (fun a h=>by cases h)
  refine Calls.mono k ?_
  rintro e w' ⟨rfl,rfl⟩
  have hG1:=grownCap_ge w (0+n) 0 40
  have hG2:=grownCap_le_maxLen w (0+n) 0 40 (by unfold maxLen;omega)
  refine ⟨⟨_,rfl,⟨_,_,rfl⟩,rfl,.inr ⟨w.heap.size,_,_,rfl,Nat.le_refl _,heap_alloc_new _ _,Nat.zero_le _,hG2,?_,by simp⟩⟩,(Below.refl _ _).trans (by go_grown)⟩
  have e3:(Value.agg #[.int .i64 0,.int .i64 0,.int .i64 0]).cells.size=3:=rfl
  simp only [Array.size_append,size_zeroCells,e3,List.size_toArray,List.length_nil]
  show 0+(0+n - 0)*3+(grownCap w (0+n) 0 40 - (0+n))*3=grownCap w (0+n) 0 40*3
  omega

theorem concat_is (g:Nat) (a0:Option Addr) (n0 c0:Nat) (xs:List I3) (a1:Option Addr) (n1 c1:Nat) (ys:List I3) (w:World) (h0:Instrs w a0 n0 c0 xs) (h1:Instrs w a1 n1 c1 ys) (m0:n0≤400000) (m1:n1≤400000)
  (z0:a0=none→c0=0) (z1:a1=none→c1=0) (p0:∀ a,a0=some a→a.spot=none) (p1:∀ a,a1=some a→a.spot=none) (d0:w.cell? ⟨g,0,none⟩=some (.slice a0 n0 c0)) (d1:w.cell? ⟨g,1,none⟩=some (.slice a1 n1 c1)) :
  Calls Tryd.prog 102 #[.slice (some ⟨g,0,none⟩) 2 2] w fun e w'=>(∃ v,e=.returned v∧(∃ a n c,v=.slice a n c)∧w'.ownsRow w.heap.size 40 3 v (n0+n1) (flat (xs++ys)))∧Below w.heap.size w w':=by
 obtain ⟨i0,hi,hz0,hz1,hz2⟩:=info_parts info_bug
 have l0:=h0.1
 have l1:=h1.1
 have H1:Hid (∀ W,Below w.heap.size w W→Instrs W a1 n1 c1 ys):=fun W hb=>h1.below hb
 have hgw:g<w.heap.size:=World.block_lt_of_cell? _ _ d0
 have kG:Hid (∀ (z:Int) (W:World),z=(n0:Int)+(n1:Int)→Calls Tryd.prog 121 #[.slice none 0 0,.int .i64 z] W fun e w'=>(∃ v,e=.returned v∧(∃ a c,v=.slice a 0 c)∧w'.ownsRow W.heap.size 40 3 v 0 [])∧Below W.heap.size W w'):=by
  intro z W hz
  obtain rfl:z=((n0+n1:Nat):Int):=by omega
  exact growB_is (n0+n1) W (by omega)

 have HF:Hid (flat (xs++ys)=flat xs++flat ys):=flat_append xs ys
 go_enter Tryd.func102,Tryd.ntmps102
 go_wp2_with fail
 refine wp_loop_rounds 3 ?_
 rw [rounds_succ]
 go_wp2
 rw [rounds_succ]
 go_wp2
 rw [rounds_succ]
 go_wp2_with fail
 refine (kG.out _ _ rfl).mono ?_
 rintro e w1 ⟨⟨v,rfl,⟨aG,cG,rfl⟩,hq⟩,bw⟩
 clear kG
 replace h0:=h0.below bw
 replace h1:=h1.below bw
 replace d0:=cells_kept bw _ _ d0
 replace d1:=cells_kept bw _ _ d1
 have hsz:=bw.size
 go_wp2_with fail
 refine wp_loop_rounds 3 ?_
 rw [rounds_succ]
 rcases a0 with _ | ⟨b0,o0,s0⟩
 ·obtain rfl:=z0 rfl
  obtain rfl:n0=0:=by have:=h0.2.1;omega
  obtain rfl:xs=[]:=List.length_eq_zero_iff.1 l0
  rcases a1 with _ | ⟨b1,o1,s1⟩
  ·obtain rfl:=z1 rfl
   obtain rfl:n1=0:=by have:=h1.2.1;omega
   obtain rfl:ys=[]:=List.length_eq_zero_iff.1 l1
   go_wp2_with (at_builtin;refine wpList_append_own_none rfl _ _ 31 rfl w.heap.size 40 i0 3 Tryd.underlying31 hi (.slice aG 0 cG) _ _ rfl hq rfl ?_)
   go_wp2_with fail
   rw [rounds_succ]
   go_wp2_with (at_builtin;refine wpList_append_own_none rfl _ _ 31 rfl w.heap.size 40 i0 3 Tryd.underlying31 hi (.slice aG 0 cG) _ _ rfl hq rfl ?_)
   go_wp2_with fail
   rw [rounds_succ]
   have HQ:Hid (∀ e:Ending,e=Ending.returned (.slice aG 0 cG)→∃ v,e=Ending.returned v∧(∃ a n c,v=Value.slice a n c)∧w1.ownsRow w.heap.size 40 3 v (0+0) (flat ([]++[]))):=fun e he=>⟨_,he,own_sl hq,by simpa [flat_append,flat] using hq⟩
   clear hq h0 h1 d0 d1
   go_wp2
   go_ret
   exact ⟨HQ.out _ rfl,bw⟩
  ·obtain rfl:s1=none:=p1 _ rfl
   go_wp2_with (at_builtin;refine wpList_append_own_none rfl _ _ 31 rfl w.heap.size 40 i0 3 Tryd.underlying31 hi (.slice aG 0 cG) _ _ rfl hq rfl ?_)
   go_wp2_with fail
   rw [rounds_succ]
   go_wp2_with (at_builtin;refine wpList_append_own _ rfl _ _ 31 rfl w.heap.size 40 i0 (.agg #[.int .i64 0,.int .i64 0,.int .i64 0]) 3 24 Tryd.underlying31 hi hz0 hz1 hz2 rfl (by decide) (.slice aG 0 cG) _ _ rfl hq ⟨b1,o1,none⟩ n1 c1 (flat ys) rfl (by rw [flat_length];omega) (instrs_news h1) (flat_one _) (by unfold maxLen;omega) (by omega) hsz ?_)
   intro v3 U3 q3 gr _
   replace d0:=cell_grownB gr d0 (fun e=>by have h9:=(hq.lt _ e.symm).1;have h8:=hgw;simp at h9;omega)
   replace d1:=cell_grownB gr d1 (fun e=>by have h9:=(hq.lt _ e.symm).1;have h8:=hgw;simp at h9;omega)
   replace bw:=bw.grown gr hsz (fun j hj=>(hq.lt j hj).1)
   replace h1:=H1.out _ bw
   replace hsz:=Nat.le_trans hsz gr.size
   clear gr
   go_wp2_with fail
   rw [rounds_succ]
   have HQ:Hid (∀ e:Ending,e=Ending.returned v3→∃ v,e=Ending.returned v∧(∃ a n c,v=Value.slice a n c)∧U3.ownsRow w.heap.size 40 3 v (0+n1) (flat ([]++ys))):=fun e he=>⟨_,he,own_sl q3,by simpa [flat_append,flat] using q3⟩
   clear q3 h0 h1 d0 d1
   go_wp2
   go_ret
   exact ⟨HQ.out _ rfl,bw⟩
 ·obtain rfl:s0=none:=p0 _ rfl
  rcases a1 with _ | ⟨b1,o1,s1⟩
  ·obtain rfl:=z1 rfl
   obtain rfl:n1=0:=by have:=h1.2.1;omega
   obtain rfl:ys=[]:=List.length_eq_zero_iff.1 l1
   go_wp2_with (at_builtin;refine wpList_append_own _ rfl _ _ 31 rfl w.heap.size 40 i0 (.agg #[.int .i64 0,.int .i64 0,.int .i64 0]) 3 24 Tryd.underlying31 hi hz0 hz1 hz2 rfl (by decide) (.slice aG 0 cG) _ _ rfl hq ⟨b0,o0,none⟩ n0 c0 (flat xs) rfl (by rw [flat_length];omega) (instrs_news h0) (flat_one _) (by unfold maxLen;omega) (by omega) hsz ?_)
   intro v2 U2 q2 gr _
   replace d0:=cell_grownB gr d0 (fun e=>by have h9:=(hq.lt _ e.symm).1;have h8:=hgw;simp at h9;omega)
   replace d1:=cell_grownB gr d1 (fun e=>by have h9:=(hq.lt _ e.symm).1;have h8:=hgw;simp at h9;omega)
   replace bw:=bw.grown gr hsz (fun j hj=>(hq.lt j hj).1)
   replace h1:=H1.out _ bw
   replace hsz:=Nat.le_trans hsz gr.size
   clear gr
   go_wp2_with fail
   rw [rounds_succ]
   go_wp2_with (at_builtin;refine wpList_append_own_none rfl _ _ 31 rfl w.heap.size 40 i0 3 Tryd.underlying31 hi v2 _ _ rfl q2 rfl ?_)
   go_wp2_with fail
   rw [rounds_succ]
   have HQ:Hid (∀ e:Ending,e=Ending.returned v2→∃ v,e=Ending.returned v∧(∃ a n c,v=Value.slice a n c)∧U2.ownsRow w.heap.size 40 3 v (n0+0) (flat (xs++[]))):=fun e he=>⟨_,he,own_sl q2,by simpa [flat_append,flat] using q2⟩
   clear q2 h0 h1 d0 d1
   go_wp2
   go_ret
   exact ⟨HQ.out _ rfl,bw⟩
  ·obtain rfl:s1=none:=p1 _ rfl
   go_wp2_with (at_builtin;refine wpList_append_own _ rfl _ _ 31 rfl w.heap.size 40 i0 (.agg #[.int .i64 0,.int .i64 0,.int .i64 0]) 3 24 Tryd.underlying31 hi hz0 hz1 hz2 rfl (by decide) (.slice aG 0 cG) _ _ rfl hq ⟨b0,o0,none⟩ n0 c0 (flat xs) rfl (by rw [flat_length];omega) (instrs_news h0) (flat_one _) (by unfold maxLen;omega) (by omega) hsz ?_)
   intro v2 U2 q2 gr _
   replace d0:=cell_grownB gr d0 (fun e=>by have h9:=(hq.lt _ e.symm).1;have h8:=hgw;simp at h9;omega)
   replace d1:=cell_grownB gr d1 (fun e=>by have h9:=(hq.lt _ e.symm).1;have h8:=hgw;simp at h9;omega)
   replace bw:=bw.grown gr hsz (fun j hj=>(hq.lt j hj).1)
   replace h1:=H1.out _ bw
   replace hsz:=Nat.le_trans hsz gr.size
   clear gr
   go_wp2_with fail
   rw [rounds_succ]
   go_wp2_with (at_builtin;refine wpList_append_own _ rfl _ _ 31 rfl w.heap.size 40 i0 (.agg #[.int .i64 0,.int .i64 0,.int .i64 0]) 3 24 Tryd.underlying31 hi hz0 hz1 hz2 rfl (by decide) v2 _ _ rfl q2 ⟨b1,o1,none⟩ n1 c1 (flat ys) rfl (by rw [flat_length];omega) (instrs_news h1) (flat_one _) (by unfold maxLen;omega) (by omega) hsz ?_)
   intro v3 U3 q3 gr _
   replace d0:=cell_grownB gr d0 (fun e=>by have h9:=(q2.lt _ e.symm).1;have h8:=hgw;simp at h9;omega)
   replace d1:=cell_grownB gr d1 (fun e=>by have h9:=(q2.lt _ e.symm).1;have h8:=hgw;simp at h9;omega)
   replace bw:=bw.grown gr hsz (fun j hj=>(q2.lt j hj).1)
   replace h1:=H1.out _ bw
   replace hsz:=Nat.le_trans hsz gr.size
   clear gr
   go_wp2_with fail
   rw [rounds_succ]
   have HQ:Hid (∀ e:Ending,e=Ending.returned v3→∃ v,e=Ending.returned v∧(∃ a n c,v=Value.slice a n c)∧U3.ownsRow w.heap.size 40 3 v (n0+n1) (flat (xs++ys))):=fun e he=>⟨_,he,own_sl q3,by simpa [flat_append,flat] using q3⟩
   clear q3 h0 h1 d0 d1
   go_wp2
   go_ret
   exact ⟨HQ.out _ rfl,bw⟩
end Go.Proofs.YtjgffnlmjmibgaaDoor
