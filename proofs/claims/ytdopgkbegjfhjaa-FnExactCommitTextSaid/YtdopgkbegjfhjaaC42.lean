/-
  Joined: CmpB.
-/
import Derived.Shelf.SlSortCmp.Insertion
import Derived.Test.YtdopgkbegjfhjaaC08
import Derived.Test.YtdopgkbegjfhjaaC11

namespace Go.Proofs.Ytdopgkbegjfhjaa
set_option maxRecDepth 100000
set_option maxHeartbeats 16000000
open Go.RowKit Go.Sort
set_option linter.unusedVariables false
set_option linter.unusedSimpArgs false

def cmpI (a b:Int):Int:=if a<b then -1 else if b<a then 1 else 0
def orI (a b c:Int):Int:=if a≠0 then a else if b≠0 then b else c
def cmpB (x y:I3):Int:=orI (cmpI x.1 y.1) (cmpI x.2.1 y.2.1) (cmpI x.2.2 y.2.2)
theorem cmpB_lt (x y:I3):ltOf cmpB x y=ltB x y:=by
 unfold ltOf cmpB orI cmpI ltB
 by_cases a1:x.1<y.1
 ·simp [a1]
 by_cases a2:y.1<x.1
 ·have:¬ (x.1=y.1):=by omega
  simp [a1,a2,this]
 have a3:x.1=y.1:=by omega
 by_cases b1:x.2.1<y.2.1
 ·simp [a3,b1]
 by_cases b2:y.2.1<x.2.1
 ·have:¬ (x.2.1=y.2.1):=by omega
  simp [a3,b1,b2,this]
 have b3:x.2.1=y.2.1:=by omega
 by_cases c1:x.2.2<y.2.2
 ·simp [a3,b3,c1]
 by_cases c2:y.2.2<x.2.2
 ·simp [a3,b3,c1,c2]
 ·simp [a3,b3,c1,c2]
theorem cmpCompare_is (a b:Int) (w:World):Calls Try.prog 28 #[.int .i64 a,.int .i64 b] w fun e w'=>e=.returned (.int .i64 (cmpI a b))∧w=w':=by
 have ha:(a != a)=false:=by simp
 have hb:(b != b)=false:=by simp
 unfold cmpI
 by_cases h1:a<b
 ·rw [if_pos h1]
  go_enter Try.func28,Try.ntmps28
  go_wp2
  go_ret
  exact ⟨rfl,rfl⟩
 ·rw [if_neg h1]
  by_cases h2:b<a
  ·rw [if_pos h2]
   go_enter Try.func28,Try.ntmps28
   go_wp2
   go_ret
   exact ⟨rfl,rfl⟩
  ·rw [if_neg h2]
   go_enter Try.func28,Try.ntmps28
   go_wp2
   go_ret
   exact ⟨rfl,rfl⟩

theorem cmpOr_is (g:Nat) (a b c:Int) (w:World) (h0:w.cell? ⟨g,0,none⟩=some (.int .i64 a)) (h1:w.cell? ⟨g,1,none⟩=some (.int .i64 b)) (h2:w.cell? ⟨g,2,none⟩=some (.int .i64 c)) :
  Calls Try.prog 27 #[.slice (some ⟨g,0,none⟩) 3 3] w fun e w'=>e=.returned (.int .i64 (orI a b c))∧w=w':=by
 unfold orI
 by_cases ha:a=0
 ·subst ha
  simp only [ne_eq,not_true_eq_false,if_false]
  by_cases hb:b=0
  ·subst hb
   simp only [ne_eq,not_true_eq_false,if_false]
   by_cases hc:c=0
   ·subst hc
    go_enter Try.func27,Try.ntmps27
    go_wp2
    refine wp_loop_rounds 4 ?_
    rw [rounds_succ]
    go_wp2
    rw [rounds_succ]
    go_wp2
    rw [rounds_succ]
    go_wp2
    rw [rounds_succ]
    go_wp2
    go_ret
    exact ⟨rfl,rfl⟩
   ·go_enter Try.func27,Try.ntmps27
    go_wp2
    refine wp_loop_rounds 3 ?_
    rw [rounds_succ]
    go_wp2
    rw [rounds_succ]
    go_wp2
    rw [rounds_succ]
    go_wp2
    go_ret
    exact ⟨rfl,rfl⟩
  ·simp only [ne_eq,hb,not_false_eq_true,if_true]
   go_enter Try.func27,Try.ntmps27
   go_wp2
   refine wp_loop_rounds 2 ?_
   rw [rounds_succ]
   go_wp2
   rw [rounds_succ]
   go_wp2
   go_ret
   exact ⟨rfl,rfl⟩
 ·simp only [ne_eq,ha,not_false_eq_true,if_true]
  go_enter Try.func27,Try.ntmps27
  go_wp2
  refine wp_loop_rounds 1 ?_
  rw [rounds_succ]
  go_wp2
  go_ret
  exact ⟨rfl,rfl⟩

theorem compareBugs_is (x y:I3) (w:World) :
  Calls Try.prog 21 #[.agg #[.int .i64 x.1,.int .i64 x.2.1,.int .i64 x.2.2],.agg #[.int .i64 y.1,.int .i64 y.2.1,.int .i64 y.2.2]] w fun e w'=>e=.returned (.int .i64 (cmpB x y))∧∃ q os,w'=grow (w.drewN q) os:=by
 obtain ⟨x0,x1,x2⟩:=x
 obtain ⟨y0,y1,y2⟩:=y
 unfold cmpB
 simp only
 have k0:=fun W=>cmpCompare_is x0 y0 W
 have k1:=fun W=>cmpCompare_is x1 y1 W
 have k2:=fun W=>cmpCompare_is x2 y2 W
 generalize cmpI x0 y0=p0 at *
 generalize cmpI x1 y1=p1 at *
 generalize cmpI x2 y2=p2 at *
 have HW:Hid (∃ q os,((w.alloc (.cells #[.int .i64 x0,.int .i64 x1,.int .i64 x2] 33)).alloc (.cells #[.int .i64 y0,.int .i64 y1,.int .i64 y2] 33)).drew.alloc (.cells #[.int .i64 p0,.int .i64 p1,.int .i64 p2] 3)=grow (w.drewN q) os):=⟨1,#[.cells #[.int .i64 x0,.int .i64 x1,.int .i64 x2] 33]++#[.cells #[.int .i64 y0,.int .i64 y1,.int .i64 y2] 33]++#[.cells #[.int .i64 p0,.int .i64 p1,.int .i64 p2] 3],by
  rw [alloc_eq_grow,alloc_eq_grow,alloc_eq_grow]
  simp only [grow,World.drew,World.drewN,Array.append_assoc]⟩
 have c0:((w.alloc (.cells #[.int .i64 x0,.int .i64 x1,.int .i64 x2] 33)).alloc (.cells #[.int .i64 y0,.int .i64 y1,.int .i64 y2] 33)).cell? ⟨w.heap.size,0,none⟩=some (.int .i64 x0):=by simp [go_sem]
 have c1:((w.alloc (.cells #[.int .i64 x0,.int .i64 x1,.int .i64 x2] 33)).alloc (.cells #[.int .i64 y0,.int .i64 y1,.int .i64 y2] 33)).cell? ⟨w.heap.size,1,none⟩=some (.int .i64 x1):=by simp [go_sem]
 have c2:((w.alloc (.cells #[.int .i64 x0,.int .i64 x1,.int .i64 x2] 33)).alloc (.cells #[.int .i64 y0,.int .i64 y1,.int .i64 y2] 33)).cell? ⟨w.heap.size,2,none⟩=some (.int .i64 x2):=by simp [go_sem]
 have e0:((w.alloc (.cells #[.int .i64 x0,.int .i64 x1,.int .i64 x2] 33)).alloc (.cells #[.int .i64 y0,.int .i64 y1,.int .i64 y2] 33)).cell? ⟨w.heap.size+1,0,none⟩=some (.int .i64 y0):=by simp [go_sem]
 have e1:((w.alloc (.cells #[.int .i64 x0,.int .i64 x1,.int .i64 x2] 33)).alloc (.cells #[.int .i64 y0,.int .i64 y1,.int .i64 y2] 33)).cell? ⟨w.heap.size+1,1,none⟩=some (.int .i64 y1):=by simp [go_sem]
 have e2:((w.alloc (.cells #[.int .i64 x0,.int .i64 x1,.int .i64 x2] 33)).alloc (.cells #[.int .i64 y0,.int .i64 y1,.int .i64 y2] 33)).cell? ⟨w.heap.size+1,2,none⟩=some (.int .i64 y2):=by simp [go_sem]
 go_enter Try.func21,Try.ntmps21
 go_wp2_with fail
 generalize ((w.alloc (.cells #[.int .i64 x0,.int .i64 x1,.int .i64 x2] 33)).alloc (.cells #[.int .i64 y0,.int .i64 y1,.int .i64 y2] 33))=W at *
 refine wp_region_held_drew (S:=(fun w'=>w'.cell? ⟨w.heap.size,0,none⟩=some (.int .i64 x0)∧w'.cell? ⟨w.heap.size,1,none⟩=some (.int .i64 x1)∧w'.cell? ⟨w.heap.size,2,none⟩=some (.int .i64 x2)∧w'.cell? ⟨w.heap.size+1,0,none⟩=some (.int .i64 y0)∧w'.cell? ⟨w.heap.size+1,1,none⟩=some (.int .i64 y1)∧w'.cell? ⟨w.heap.size+1,2,none⟩=some (.int .i64 y2))) (by kernel_rfl) ⟨c0,c1,c2,e0,e1,e2⟩ (fun hS0=>?_)
 refine tkm 0 5 (.pointer (some ⟨w.heap.size,0,none⟩)) ?_
 refine tkm 1 6 (.int .i64 x0) ?_
 refine tkm 2 7 (.pointer (some ⟨w.heap.size+1,0,none⟩)) ?_
 refine tkm 3 8 (.int .i64 y0) ?_
 refine tkm 5 10 (.pointer (some ⟨w.heap.size,1,none⟩)) ?_
 refine tkm 6 11 (.int .i64 x1) ?_
 refine tkm 7 12 (.pointer (some ⟨w.heap.size+1,1,none⟩)) ?_
 refine tkm 8 13 (.int .i64 y1) ?_
 refine tkm 10 15 (.pointer (some ⟨w.heap.size,2,none⟩)) ?_
 refine tkm 11 16 (.int .i64 x2) ?_
 refine tkm 12 17 (.pointer (some ⟨w.heap.size+1,2,none⟩)) ?_
 refine tkm 13 18 (.int .i64 y2) ?_
 refine tkr 4 9 (fun K hK=>?_)
 go_simp
 refine (k0 _).mono ?_
 rintro e w5 ⟨rfl,rfl⟩
 go_wp2_with fail
 refine hK.out _ _ ⟨c0,c1,c2,e0,e1,e2⟩ (fun hS1=>?_)
 clear hK
 try simp only [Act.put,tka,tkb,tkc]
 refine tkr 9 14 (fun K hK=>?_)
 go_simp
 refine (k1 _).mono ?_
 rintro e w6 ⟨rfl,rfl⟩
 go_wp2_with fail
 refine hK.out _ _ ⟨c0,c1,c2,e0,e1,e2⟩ (fun hS2=>?_)
 clear hK
 try simp only [Act.put,tka,tkb,tkc]
 refine tkr 14 19 (fun K hK=>?_)
 go_simp
 refine (k2 _).mono ?_
 rintro e w7 ⟨rfl,rfl⟩
 go_wp2_with fail
 refine hK.out _ _ ⟨c0,c1,c2,e0,e1,e2⟩ (fun hS3=>?_)
 clear hK
 try simp only [Act.put,tka,tkb,tkc]
 have f0:(W.drew.alloc (.cells #[.int .i64 p0,.int .i64 p1,.int .i64 p2] 3)).cell? ⟨W.heap.size,0,none⟩=some (.int .i64 p0):=by simp [go_sem]
 have f1:(W.drew.alloc (.cells #[.int .i64 p0,.int .i64 p1,.int .i64 p2] 3)).cell? ⟨W.heap.size,1,none⟩=some (.int .i64 p1):=by simp [go_sem]
 have f2:(W.drew.alloc (.cells #[.int .i64 p0,.int .i64 p1,.int .i64 p2] 3)).cell? ⟨W.heap.size,2,none⟩=some (.int .i64 p2):=by simp [go_sem]
 have hal:Below W.heap.size W (W.drew.alloc (.cells #[.int .i64 p0,.int .i64 p1,.int .i64 p2] 3)):=by go_grown
 refine tkr 15 20 (fun K hK=>?_)
 go_simp
 refine hK.out _ _ ⟨cells_kept hal _ _ c0,cells_kept hal _ _ c1,cells_kept hal _ _ c2,cells_kept hal _ _ e0,cells_kept hal _ _ e1,cells_kept hal _ _ e2⟩ (fun hSa=>?_)
 clear hK
 try simp only [Act.put,tka,tkb,tkc]
 refine tkr 16 21 (fun K hK=>?_)
 go_simp
 refine (cmpOr_is W.heap.size p0 p1 p2 _ f0 f1 f2).mono ?_
 rintro e w9 ⟨rfl,rfl⟩
 go_wp2_with fail
 refine hK.out _ _ hSa (fun hSb=>?_)
 clear hK
 try simp only [Act.put,tka,tkb,tkc]
 refine tkm 17 4 (.int .i64 (orI p0 p1 p2)) ?_
 refine wpAnyH_done (by kernel_rfl) ?_ _
 clear hSa hSb c0 c1 c2 e0 e1 e2 f0 f1 f2 k0 k1 k2
 go_wp2
 go_ret
 exact ⟨rfl,HW.out⟩
end Go.Proofs.Ytdopgkbegjfhjaa
