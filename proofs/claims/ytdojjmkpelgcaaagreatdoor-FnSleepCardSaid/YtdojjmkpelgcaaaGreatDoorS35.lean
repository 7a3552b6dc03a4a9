/-
  Joined: CmpB, CatB.
-/
import Derived.Shelf.SlSortCmp.NoneTotal
import Derived.Shelf.Spec.SlicesGrow
import Derived.Laws.AppendOwnNone
import Derived.Test.YtdojjmkpelgcaaaGreatDoorS17
import Derived.Test.YtdojjmkpelgcaaaGreatDoorS18

namespace Go.Proofs.YtdojjmkpelgcaaaGreatDoor
set_option maxRecDepth 100000
open Go.RowKit Go.Sort
set_option linter.unusedVariables false
set_option linter.unusedSimpArgs false

def cmpI (a b:Int):Int:=if a<b then -1 else if b<a then 1 else 0
def orI (a b c:Int):Int:=if a≠0 then a else if b≠0 then b else c
def cmpB (x y:I3):Int:=orI (cmpI x.1 y.1) (cmpI x.2.1 y.2.1) (cmpI x.2.2 y.2.2)
theorem cmpB_lt (x y:I3):ltOf cmpB x y=ltB x y:=by
 unfold ltOf cmpB orI cmpI ltB
 by_cases a1:x.1<y.1
 ·simp [a1]
 by_cases a2:y.1<x.1
 ·have:¬ (x.1=y.1):=by omega
  simp [a1,a2,this]
 have a3:x.1=y.1:=by omega
 by_cases b1:x.2.1<y.2.1
 ·simp [a3,b1]
 by_cases b2:y.2.1<x.2.1
 ·have:¬ (x.2.1=y.2.1):=by omega
  simp [a3,b1,b2,this]
 have b3:x.2.1=y.2.1:=by omega
 by_cases c1:x.2.2<y.2.2
 ·simp [a3,b3,c1]
 by_cases c2:y.2.2<x.2.2
 ·simp [a3,b3,c1,c2]
 ·simp [a3,b3,c1,c2]
theorem cmpB_swo:SWO (ltOf cmpB) where
 irrefl x:=by rw [cmpB_lt];exact ltB_irrefl x
 trans x y z h1 h2:=by rw [cmpB_lt] at *;exact ltB_trans h1 h2
 ntrans x y z h1 h2:=by
  rw [cmpB_lt] at *
  cases h:ltB x z
  ·rfl
  ·cases k:ltB y x
   ·have:=ltB_total h1 k
    subst this
    rw [h] at h2
    cases h2
   ·have:=ltB_trans k h
    rw [this] at h2
    cases h2
theorem cmpB_total (x y:I3) (h:ltOf cmpB x y=false) (k:ltOf cmpB y x=false):x=y:=by
 rw [cmpB_lt] at h k
 exact ltB_total h k

set_option maxHeartbeats 1000000 in
theorem cmpCompare_is (a b:Int) (w:World):Calls Tryz.prog 161 #[.int .i64 a,.int .i64 b] w fun e w'=>e=.returned (.int .i64 (cmpI a b))∧w=w':=by
 have ha:(a != a)=false:=by simp
 have hb:(b != b)=false:=by simp
 unfold cmpI
 by_cases h1:a<b
 ·rw [if_pos h1]
  go_enter Tryz.func161,Tryz.ntmps161
  go_wp2
  go_ret
  exact ⟨rfl,rfl⟩
 ·rw [if_neg h1]
  by_cases h2:b<a
  ·rw [if_pos h2]
   go_enter Tryz.func161,Tryz.ntmps161
   go_wp2
   go_ret
   exact ⟨rfl,rfl⟩
  ·rw [if_neg h2]
   go_enter Tryz.func161,Tryz.ntmps161
   go_wp2
   go_ret
   exact ⟨rfl,rfl⟩

set_option maxHeartbeats 2000000 in
theorem cmpOr_is (g:Nat) (a b c:Int) (w:World) (h0:w.cell? ⟨g,0,none⟩=some (.int .i64 a)) (h1:w.cell? ⟨g,1,none⟩=some (.int .i64 b)) (h2:w.cell? ⟨g,2,none⟩=some (.int .i64 c)) :
  Calls Tryz.prog 160 #[.slice (some ⟨g,0,none⟩) 3 3] w fun e w'=>e=.returned (.int .i64 (orI a b c))∧w=w':=by
 unfold orI
 by_cases ha:a=0
 ·subst ha
  simp only [ne_eq,not_true_eq_false,if_false]
  by_cases hb:b=0
  ·subst hb
   simp only [ne_eq,not_true_eq_false,if_false]
   by_cases hc:c=0
   ·subst hc
    go_enter Tryz.func160,Tryz.ntmps160
    go_wp2
    refine wp_loop_rounds 4 ?_
    rw [rounds_succ]
    go_wp2
    rw [rounds_succ]
    go_wp2
    rw [rounds_succ]
    go_wp2
    rw [rounds_succ]
    go_wp2
    go_ret
    exact ⟨rfl,rfl⟩
   ·go_enter Tryz.func160,Tryz.ntmps160
    go_wp2
    refine wp_loop_rounds 3 ?_
    rw [rounds_succ]
    go_wp2
    rw [rounds_succ]
    go_wp2
    rw [rounds_succ]
    go_wp2
    go_ret
    exact ⟨rfl,rfl⟩
  ·simp only [ne_eq,hb,not_false_eq_true,if_true]
   go_enter Tryz.func160,Tryz.ntmps160
   go_wp2
   refine wp_loop_rounds 2 ?_
   rw [rounds_succ]
   go_wp2
   rw [rounds_succ]
   go_wp2
   go_ret
   exact ⟨rfl,rfl⟩
 ·simp only [ne_eq,ha,not_false_eq_true,if_true]
  go_enter Tryz.func160,Tryz.ntmps160
  go_wp2
  refine wp_loop_rounds 1 ?_
  rw [rounds_succ]
  go_wp2
  go_ret
  exact ⟨rfl,rfl⟩

set_option maxHeartbeats 4000000 in
theorem compareBugs_is (x y:I3) (w:World) :
  Calls Tryz.prog 130 #[.agg #[.int .i64 x.1,.int .i64 x.2.1,.int .i64 x.2.2],.agg #[.int .i64 y.1,.int .i64 y.2.1,.int .i64 y.2.2]] w fun e w'=>e=.returned (.int .i64 (cmpB x y))∧∃ q os,w'=grow (w.drewN q) os:=by
 obtain ⟨x0,x1,x2⟩:=x
 obtain ⟨y0,y1,y2⟩:=y
 unfold cmpB
 simp only
 have k0:=fun W=>cmpCompare_is x0 y0 W
 have k1:=fun W=>cmpCompare_is x1 y1 W
 have k2:=fun W=>cmpCompare_is x2 y2 W
 generalize cmpI x0 y0=p0 at *
 generalize cmpI x1 y1=p1 at *
 generalize cmpI x2 y2=p2 at *
 have HW:Hid (∃ q os,((w.alloc (.cells #[.int .i64 x0,.int .i64 x1,.int .i64 x2] 64)).alloc (.cells #[.int .i64 y0,.int .i64 y1,.int .i64 y2] 64)).drew.alloc (.cells #[.int .i64 p0,.int .i64 p1,.int .i64 p2] 3)=grow (w.drewN q) os):=⟨1,#[.cells #[.int .i64 x0,.int .i64 x1,.int .i64 x2] 64]++#[.cells #[.int .i64 y0,.int .i64 y1,.int .i64 y2] 64]++#[.cells #[.int .i64 p0,.int .i64 p1,.int .i64 p2] 3],by
  rw [alloc_eq_grow,alloc_eq_grow,alloc_eq_grow]
  simp only [grow,World.drew,World.drewN,Array.append_assoc]⟩
 have c0:((w.alloc (.cells #[.int .i64 x0,.int .i64 x1,.int .i64 x2] 64)).alloc (.cells #[.int .i64 y0,.int .i64 y1,.int .i64 y2] 64)).cell? ⟨w.heap.size,0,none⟩=some (.int .i64 x0):=by simp [go_sem]
 have c1:((w.alloc (.cells #[.int .i64 x0,.int .i64 x1,.int .i64 x2] 64)).alloc (.cells #[.int .i64 y0,.int .i64 y1,.int .i64 y2] 64)).cell? ⟨w.heap.size,1,none⟩=some (.int .i64 x1):=by simp [go_sem]
 have c2:((w.alloc (.cells #[.int .i64 x0,.int .i64 x1,.int .i64 x2] 64)).alloc (.cells #[.int .i64 y0,.int .i64 y1,.int .i64 y2] 64)).cell? ⟨w.heap.size,2,none⟩=some (.int .i64 x2):=by simp [go_sem]
 have e0:((w.alloc (.cells #[.int .i64 x0,.int .i64 x1,.int .i64 x2] 64)).alloc (.cells #[.int .i64 y0,.int .i64 y1,.int .i64 y2] 64)).cell? ⟨w.heap.size+1,0,none⟩=some (.int .i64 y0):=by simp [go_sem]
 have e1:((w.alloc (.cells #[.int .i64 x0,.int .i64 x1,.int .i64 x2] 64)).alloc (.cells #[.int .i64 y0,.int .i64 y1,.int .i64 y2] 64)).cell? ⟨w.heap.size+1,1,none⟩=some (.int .i64 y1):=by simp [go_sem]
 have e2:((w.alloc (.cells #[.int .i64 x0,.int .i64 x1,.int .i64 x2] 64)).alloc (.cells #[.int .i64 y0,.int .i64 y1,.int .i64 y2] 64)).cell? ⟨w.heap.size+1,2,none⟩=some (.int .i64 y2):=by simp [go_sem]
 go_enter Tryz.func130,Tryz.ntmps130
 go_wp2_with fail
 generalize ((w.alloc (.cells #[.int .i64 x0,.int .i64 x1,.int .i64 x2] 64)).alloc (.cells #[.int .i64 y0,.int .i64 y1,.int .i64 y2] 64))=W at *
 refine wp_region_held_drew (S:=(fun w'=>w'.cell? ⟨w.heap.size,0,none⟩=some (.int .i64 x0)∧w'.cell? ⟨w.heap.size,1,none⟩=some (.int .i64 x1)∧w'.cell? ⟨w.heap.size,2,none⟩=some (.int .i64 x2)∧w'.cell? ⟨w.heap.size+1,0,none⟩=some (.int .i64 y0)∧w'.cell? ⟨w.heap.size+1,1,none⟩=some (.int .i64 y1)∧w'.cell? ⟨w.heap.size+1,2,none⟩=some (.int .i64 y2))) (by kernel_rfl) ⟨c0,c1,c2,e0,e1,e2⟩ (fun hS0=>?_)
 refine tkm 0 5 (.pointer (some ⟨w.heap.size,0,none⟩)) ?_
 refine tkm 1 6 (.int .i64 x0) ?_
 refine tkm 2 7 (.pointer (some ⟨w.heap.size+1,0,none⟩)) ?_
 refine tkm 3 8 (.int .i64 y0) ?_
 refine tkm 5 10 (.pointer (some ⟨w.heap.size,1,none⟩)) ?_
 refine tkm 6 11 (.int .i64 x1) ?_
 refine tkm 7 12 (.pointer (some ⟨w.heap.size+1,1,none⟩)) ?_
 refine tkm 8 13 (.int .i64 y1) ?_
 refine tkm 10 15 (.pointer (some ⟨w.heap.size,2,none⟩)) ?_
 refine tkm 11 16 (.int .i64 x2) ?_
 refine tkm 12 17 (.pointer (some ⟨w.heap.size+1,2,none⟩)) ?_
 refine tkm 13 18 (.int .i64 y2) ?_
 refine tkr 4 9 (fun K hK=>?_)
 go_simp
 refine (k0 _).mono ?_
 rintro e w5 ⟨rfl,rfl⟩
 go_wp2_with fail
 refine hK.out _ _ ⟨c0,c1,c2,e0,e1,e2⟩ (fun hS1=>?_)
 clear hK
 try simp only [Act.put,tka,tkb,tkc]
 refine tkr 9 14 (fun K hK=>?_)
 go_simp
 refine (k1 _).mono ?_
 rintro e w6 ⟨rfl,rfl⟩
 go_wp2_with fail
 refine hK.out _ _ ⟨c0,c1,c2,e0,e1,e2⟩ (fun hS2=>?_)
 clear hK
 try simp only [Act.put,tka,tkb,tkc]
 refine tkr 14 19 (fun K hK=>?_)
 go_simp
 refine (k2 _).mono ?_
 rintro e w7 ⟨rfl,rfl⟩
 go_wp2_with fail
 refine hK.out _ _ ⟨c0,c1,c2,e0,e1,e2⟩ (fun hS3=>?_)
 clear hK
 try simp only [Act.put,tka,tkb,tkc]
 have f0:(W.drew.alloc (.cells #[.int .i64 p0,.int .i64 p1,.int .i64 p2] 3)).cell? ⟨W.heap.size,0,none⟩=some (.int .i64 p0):=by simp [go_sem]
 have f1:(W.drew.alloc (.cells #[.int .i64 p0,.int .i64 p1,.int .i64 p2] 3)).cell? ⟨W.heap.size,1,none⟩=some (.int .i64 p1):=by simp [go_sem]
 have f2:(W.drew.alloc (.cells #[.int .i64 p0,.int .i64 p1,.int .i64 p2] 3)).cell? ⟨W.heap.size,2,none⟩=some (.int .i64 p2):=by simp [go_sem]
 have hal:Below W.heap.size W (W.drew.alloc (.cells #[.int .i64 p0,.int .i64 p1,.int .i64 p2] 3)):=by go_grown
 refine tkr 15 20 (fun K hK=>?_)
 go_simp
 refine hK.out _ _ ⟨cells_kept hal _ _ c0,cells_kept hal _ _ c1,cells_kept hal _ _ c2,cells_kept hal _ _ e0,cells_kept hal _ _ e1,cells_kept hal _ _ e2⟩ (fun hSa=>?_)
 clear hK
 try simp only [Act.put,tka,tkb,tkc]
 refine tkr 16 21 (fun K hK=>?_)
 go_simp
 refine (cmpOr_is W.heap.size p0 p1 p2 _ f0 f1 f2).mono ?_
 rintro e w9 ⟨rfl,rfl⟩
 go_wp2_with fail
 refine hK.out _ _ hSa (fun hSb=>?_)
 clear hK
 try simp only [Act.put,tka,tkb,tkc]
 refine tkm 17 4 (.int .i64 (orI p0 p1 p2)) ?_
 refine wpAnyH_done (by kernel_rfl) ?_ _
 clear hSa hSb c0 c1 c2 e0 e1 e2 f0 f1 f2 k0 k1 k2
 go_wp2
 go_ret
 exact ⟨rfl,HW.out⟩

open Go.RowKit Go.Shelf

def growBug_ren:Go.Shelf.Ren:=⟨fun | 4=>157 | n=>n,fun | 22=>34 | 25=>64 | 3=>3 | 4=>4 | 9=>9 | 20=>20 | 0=>0 | n=>n,fun | n=>n⟩
theorem growBug:Go.Proofs.Lays8.n4 Tryz.prog growBug_ren:={
 mixed:=by kernel_rfl
 f4:=⟨Tryz.f157.name,by decide,Tryz.func157.trans (congrArg some (by kernel_rfl))⟩
 t0:=Tryz.underlying0
 a0:=Tryz.isAgg0
 z0:=Tryz.sizeOf0
 v0:=Tryz.zeroValue0
 t3:=Tryz.underlying3
 a3:=Tryz.isAgg3
 z3:=Tryz.sizeOf3
 v3:=Tryz.zeroValue3
 t4:=Tryz.underlying4
 a4:=Tryz.isAgg4
 z4:=Tryz.sizeOf4
 v4:=Tryz.zeroValue4
 t9:=Tryz.underlying9
 a9:=Tryz.isAgg9
 z9:=Tryz.sizeOf9
 v9:=Tryz.zeroValue9
 t20:=Tryz.underlying20
 a20:=Tryz.isAgg20
 z20:=Tryz.sizeOf20
 v20:=Tryz.zeroValue20
 t22:=Tryz.underlying34
 a22:=Tryz.isAgg34
 z22:=Tryz.sizeOf34
 v22:=Tryz.zeroValue34 }

theorem own_sl {w:World} {B e s n:Nat} {v:Value} {cs:List Value} (h:w.ownsRow B e s v n cs):∃ a m c,v=.slice a m c:=by
 rcases h.2 with ⟨rfl,h0⟩ | ⟨g,cap,cur,hv,_⟩
 ·exact ⟨_,_,_,rfl⟩
 ·exact ⟨_,_,_,hv⟩
theorem growB_is (n:Nat) (w:World) (hn:n≤1000000) :
  Calls Tryz.prog 157 #[.slice none 0 0,.int .i64 n] w fun e w'=>(∃ v,e=.returned v∧(∃ a c,v=.slice a 0 c)∧w'.ownsRow w.heap.size 64 3 v 0 [])∧Below w.heap.size w w':=by
 obtain ⟨i0,hi,hz0,hz1,hz2⟩:=info_parts info_bug
 by_cases h0:n=0
 ·subst h0
  have k:=Any8.slices_Grow_room growBug none 0 0 0 w (Nat.le_refl _) (by omega) (by omega) (by omega)
  refine Calls.mono k ?_
  rintro e w' ⟨rfl,rfl⟩
  exact ⟨⟨_,rfl,⟨_,_,rfl⟩,World.ownsRow_nil _ _ _ _⟩,Below.refl _ _⟩
 ·have k:=Any8.slices_Grow_grow growBug i0 _ hi hz0 (by omega) none 0 0 n [] w (Nat.le_refl _) (by omega) (by rw [hz2];omega) (by omega) (by simp) (fun _=>rfl) (fun a h=>by cases h)
  refine Calls.mono k ?_
  rintro e w' ⟨rfl,rfl⟩
  have hG1:=grownCap_ge w (0+n) 0 64
  have hG2:=grownCap_le_maxLen w (0+n) 0 64 (by unfold maxLen;omega)
  refine ⟨⟨_,rfl,⟨_,_,rfl⟩,rfl,.inr ⟨w.heap.size,_,_,rfl,Nat.le_refl _,heap_alloc_new _ _,Nat.zero_le _,hG2,?_,by simp⟩⟩,(Below.refl _ _).trans (by go_grown)⟩
  have e3:(Value.agg #[.int .i64 0,.int .i64 0,.int .i64 0]).cells.size=3:=rfl
  simp only [Array.size_append,size_zeroCells,e3,List.size_toArray,List.length_nil]
  show 0+(0+n - 0)*3+(grownCap w (0+n) 0 64 - (0+n))*3=grownCap w (0+n) 0 64*3
  omega

set_option maxHeartbeats 4000000 in
theorem concat_is (g:Nat) (a0:Option Addr) (n0 c0:Nat) (xs:List I3) (a1:Option Addr) (n1 c1:Nat) (ys:List I3) (w:World) (h0:Instrs w a0 n0 c0 xs) (h1:Instrs w a1 n1 c1 ys) (m0:n0≤400000) (m1:n1≤400000)
  (z0:a0=none→c0=0) (z1:a1=none→c1=0) (p0:∀ a,a0=some a→a.spot=none) (p1:∀ a,a1=some a→a.spot=none) (d0:w.cell? ⟨g,0,none⟩=some (.slice a0 n0 c0)) (d1:w.cell? ⟨g,1,none⟩=some (.slice a1 n1 c1)) :
  Calls Tryz.prog 128 #[.slice (some ⟨g,0,none⟩) 2 2] w fun e w'=>(∃ v,e=.returned v∧(∃ a n c,v=.slice a n c)∧w'.ownsRow w.heap.size 64 3 v (n0+n1) (flat (xs++ys)))∧Below w.heap.size w w':=by
 obtain ⟨i0,hi,hz0,hz1,hz2⟩:=info_parts info_bug
 have l0:=h0.1
 have l1:=h1.1
 have H1:Hid (∀ W,Below w.heap.size w W→Instrs W a1 n1 c1 ys):=fun W hb=>h1.below hb
 have hgw:g<w.heap.size:=World.block_lt_of_cell? _ _ d0
 have kG:Hid (∀ (z:Int) (W:World),z=(n0:Int)+(n1:Int)→Calls Tryz.prog 157 #[.slice none 0 0,.int .i64 z] W fun e w'=>(∃ v,e=.returned v∧(∃ a c,v=.slice a 0 c)∧w'.ownsRow W.heap.size 64 3 v 0 [])∧Below W.heap.size W w'):=by
  intro z W hz
  obtain rfl:z=((n0+n1:Nat):Int):=by omega
  exact growB_is (n0+n1) W (by omega)

 have HF:Hid (flat (xs++ys)=flat xs++flat ys):=flat_append xs ys
 go_enter Tryz.func128,Tryz.ntmps128
 go_wp2_with fail
 refine wp_loop_rounds 3 ?_
 rw [rounds_succ]
 go_wp2
 rw [rounds_succ]
 go_wp2
 rw [rounds_succ]
 go_wp2_with fail
 refine (kG.out _ _ rfl).mono ?_
 rintro e w1 ⟨⟨v,rfl,⟨aG,cG,rfl⟩,hq⟩,bw⟩
 clear kG
 replace h0:=h0.below bw
 replace h1:=h1.below bw
 replace d0:=cells_kept bw _ _ d0
 replace d1:=cells_kept bw _ _ d1
 have hsz:=bw.size
 go_wp2_with fail
 refine wp_loop_rounds 3 ?_
 rw [rounds_succ]
 rcases a0 with _ | ⟨b0,o0,s0⟩
 ·obtain rfl:=z0 rfl
  obtain rfl:n0=0:=by have:=h0.2.1;omega
  obtain rfl:xs=[]:=List.length_eq_zero_iff.1 l0
  rcases a1 with _ | ⟨b1,o1,s1⟩
  ·obtain rfl:=z1 rfl
   obtain rfl:n1=0:=by have:=h1.2.1;omega
   obtain rfl:ys=[]:=List.length_eq_zero_iff.1 l1
   go_wp2_with (at_builtin;refine wpList_append_own_none rfl _ _ 34 rfl w.heap.size 64 i0 3 Tryz.underlying34 hi (.slice aG 0 cG) _ _ rfl hq rfl ?_)
   go_wp2_with fail
   rw [rounds_succ]
   go_wp2_with (at_builtin;refine wpList_append_own_none rfl _ _ 34 rfl w.heap.size 64 i0 3 Tryz.underlying34 hi (.slice aG 0 cG) _ _ rfl hq rfl ?_)
   go_wp2_with fail
   rw [rounds_succ]
   have HQ:Hid (∀ e:Ending,e=Ending.returned (.slice aG 0 cG)→∃ v,e=Ending.returned v∧(∃ a n c,v=Value.slice a n c)∧w1.ownsRow w.heap.size 64 3 v (0+0) (flat ([]++[]))):=fun e he=>⟨_,he,own_sl hq,by simpa [flat_append,flat] using hq⟩
   clear hq h0 h1 d0 d1
   go_wp2
   go_ret
   exact ⟨HQ.out _ rfl,bw⟩
  ·obtain rfl:s1=none:=p1 _ rfl
   go_wp2_with (at_builtin;refine wpList_append_own_none rfl _ _ 34 rfl w.heap.size 64 i0 3 Tryz.underlying34 hi (.slice aG 0 cG) _ _ rfl hq rfl ?_)
   go_wp2_with fail
   rw [rounds_succ]
   go_wp2_with (at_builtin;refine wpList_append_own _ rfl _ _ 34 rfl w.heap.size 64 i0 (.agg #[.int .i64 0,.int .i64 0,.int .i64 0]) 3 24 Tryz.underlying34 hi hz0 hz1 hz2 rfl (by decide) (.slice aG 0 cG) _ _ rfl hq ⟨b1,o1,none⟩ n1 c1 (flat ys) rfl (by rw [flat_length];omega) (instrs_news h1) (flat_one _) (by unfold maxLen;omega) (by omega) hsz ?_)
   intro v3 U3 q3 gr _
   replace d0:=cell_grownB gr d0 (fun e=>by have h9:=(hq.lt _ e.symm).1;have h8:=hgw;simp at h9;omega)
   replace d1:=cell_grownB gr d1 (fun e=>by have h9:=(hq.lt _ e.symm).1;have h8:=hgw;simp at h9;omega)
   replace bw:=bw.grown gr hsz (fun j hj=>(hq.lt j hj).1)
   replace h1:=H1.out _ bw
   replace hsz:=Nat.le_trans hsz gr.size
   clear gr
   go_wp2_with fail
   rw [rounds_succ]
   have HQ:Hid (∀ e:Ending,e=Ending.returned v3→∃ v,e=Ending.returned v∧(∃ a n c,v=Value.slice a n c)∧U3.ownsRow w.heap.size 64 3 v (0+n1) (flat ([]++ys))):=fun e he=>⟨_,he,own_sl q3,by simpa [flat_append,flat] using q3⟩
   clear q3 h0 h1 d0 d1
   go_wp2
   go_ret
   exact ⟨HQ.out _ rfl,bw⟩
 ·obtain rfl:s0=none:=p0 _ rfl
  rcases a1 with _ | ⟨b1,o1,s1⟩
  ·obtain rfl:=z1 rfl
   obtain rfl:n1=0:=by have:=h1.2.1;omega
   obtain rfl:ys=[]:=List.length_eq_zero_iff.1 l1
   go_wp2_with (at_builtin;refine wpList_append_own _ rfl _ _ 34 rfl w.heap.size 64 i0 (.agg #[.int .i64 0,.int .i64 0,.int .i64 0]) 3 24 Tryz.underlying34 hi hz0 hz1 hz2 rfl (by decide) (.slice aG 0 cG) _ _ rfl hq ⟨b0,o0,none⟩ n0 c0 (flat xs) rfl (by rw [flat_length];omega) (instrs_news h0) (flat_one _) (by unfold maxLen;omega) (by omega) hsz ?_)
   intro v2 U2 q2 gr _
   replace d0:=cell_grownB gr d0 (fun e=>by have h9:=(hq.lt _ e.symm).1;have h8:=hgw;simp at h9;omega)
   replace d1:=cell_grownB gr d1 (fun e=>by have h9:=(hq.lt _ e.symm).1;have h8:=hgw;simp at h9;omega)
   replace bw:=bw.grown gr hsz (fun j hj=>(hq.lt j hj).1)
   replace h1:=H1.out _ bw
   replace hsz:=Nat.le_trans hsz gr.size
   clear gr
   go_wp2_with fail
   rw [rounds_succ]
   go_wp2_with (at_builtin;refine wpList_append_own_none rfl _ _ 34 rfl w.heap.size 64 i0 3 Tryz.underlying34 hi v2 _ _ rfl q2 rfl ?_)
   go_wp2_with fail
   rw [rounds_succ]
   have HQ:Hid (∀ e:Ending,e=Ending.returned v2→∃ v,e=Ending.returned v∧(∃ a n c,v=Value.slice a n c)∧U2.ownsRow w.heap.size 64 3 v (n0+0) (flat (xs++[]))):=fun e he=>⟨_,he,own_sl q2,by simpa [flat_append,flat] using q2⟩
   clear q2 h0 h1 d0 d1
   go_wp2
   go_ret
   exact ⟨HQ.out _ rfl,bw⟩
  ·obtain rfl:s1=none:=p1 _ rfl
   go_wp2_with (at_builtin;refine wpList_append_own _ rfl _ _ 34 rfl w.heap.size 64 i0 (.agg #[.int .i64 0,.int .i64 0,.int .i64 0]) 3 24 Tryz.underlying34 hi hz0 hz1 hz2 rfl (by decide) (.slice aG 0 cG) _ _ rfl hq ⟨b0,o0,none⟩ n0 c0 (flat xs) rfl (by rw [flat_length];omega) (instrs_news h0) (flat_one _) (by unfold maxLen;omega) (by omega) hsz ?_)
   intro v2 U2 q2 gr _
   replace d0:=cell_grownB gr d0 (fun e=>by have h9:=(hq.lt _ e.symm).1;have h8:=hgw;simp at h9;omega)
   replace d1:=cell_grownB gr d1 (fun e=>by have h9:=(hq.lt _ e.symm).1;have h8:=hgw;simp at h9;omega)
   replace bw:=bw.grown gr hsz (fun j hj=>(hq.lt j hj).1)
   replace h1:=H1.out _ bw
   replace hsz:=Nat.le_trans hsz gr.size
   clear gr
   go_wp2_with fail
   rw [rounds_succ]
   go_wp2_with (at_builtin;refine wpList_append_own _ rfl _ _ 34 rfl w.heap.size 64 i0 (.agg #[.int .i64 0,.int .i64 0,.int .i64 0]) 3 24 Tryz.underlying34 hi hz0 hz1 hz2 rfl (by decide) v2 _ _ rfl q2 ⟨b1,o1,none⟩ n1 c1 (flat ys) rfl (by rw [flat_length];omega) (instrs_news h1) (flat_one _) (by unfold maxLen;omega) (by omega) hsz ?_)
   intro v3 U3 q3 gr _
   replace d0:=cell_grownB gr d0 (fun e=>by have h9:=(q2.lt _ e.symm).1;have h8:=hgw;simp at h9;omega)
   replace d1:=cell_grownB gr d1 (fun e=>by have h9:=(q2.lt _ e.symm).1;have h8:=hgw;simp at h9;omega)
   replace bw:=bw.grown gr hsz (fun j hj=>(q2.lt j hj).1)
   replace h1:=H1.out _ bw
   replace hsz:=Nat.le_trans hsz gr.size
   clear gr
   go_wp2_with fail
   rw [rounds_succ]
   have HQ:Hid (∀ e:Ending,e=Ending.returned v3→∃ v,e=Ending.returned v∧(∃ a n c,v=Value.slice a n c)∧U3.ownsRow w.heap.size 64 3 v (n0+n1) (flat (xs++ys))):=fun e he=>⟨_,he,own_sl q3,by simpa [flat_append,flat] using q3⟩
   clear q3 h0 h1 d0 d1
   go_wp2
   go_ret
   exact ⟨HQ.out _ rfl,bw⟩
end Go.Proofs.YtdojjmkpelgcaaaGreatDoor
