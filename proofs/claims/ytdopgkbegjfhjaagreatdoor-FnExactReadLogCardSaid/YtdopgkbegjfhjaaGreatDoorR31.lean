/-
  Joined: BonJ, RecN, CmpB.
-/
import Derived.Laws.StructEq
import Derived.Shelf.SlSortCmp.Insertion
import Derived.Test.YtdopgkbegjfhjaaGreatDoorR30

namespace Go.Proofs.YtdopgkbegjfhjaaGreatDoor
set_option maxRecDepth 100000
set_option maxHeartbeats 16000000
open Go.RowKit
set_option linter.unusedVariables false
set_option linter.unusedSimpArgs false

theorem bugsOf_any (a:Option Addr) (n c:Nat) (ys:List Int) (m q9:Nat) (w:World) (h:Ints .i64 w a n c ys) (hn:n=3*m+q9) (h9:q9<3) (hm:m≤2000) :
  Calls Tryz.prog 105 #[.slice a n c] w fun e w'=>RowB e w' w.heap.size (triples ys)∧Below w.heap.size w w':=by
 obtain ⟨i0,hi,hz0,hz1,hz2⟩:=info_bug9
 have htl:(triples ys).length=m:=triples_len9 m q9 ys (by rw [h.1,hn]) h9
 have hyl:ys.length=3*m+q9:=by rw [h.1,hn]
 have HG:Hid (∀ i,i<m→(triples ys).getD i (0,0,0)=(ys.getD (3*i) 0,ys.getD (3*i+1) 0,ys.getD (3*i+2) 0)):=fun i hi=>triples_get9 m q9 ys i hyl h9 hi
 go_enter Tryz.func105,Tryz.ntmps105
 go_wp2
 go_loopw [0,3] (fun s0 sv wr=>∃ (k ln:Nat) (a':Option Addr) (c':Nat),k≤m∧ln≤3*(m - k)+q9∧3*(m - k)+q9≤ln∧s0=.slice a' ln c'∧Ints .i64 w a' ln c' (ys.drop (3*k))∧wr.ownsRow w.heap.size 112 3 sv k (flat ((triples ys).take k))∧Below w.heap.size w wr) (fun s0 _ _=>slLen s0)
 case atStart=>exact ⟨0,n,a,c,by omega,by omega,by omega,rfl,by simpa using h,by simpa [flat] using World.ownsRow_nil _ _ _ _,Below.refl _ _⟩
 case round =>
  obtain ⟨k,ln,a',c',hk,hl1,hl2,rfl,hI,hr,hb⟩:=hrel
  by_cases hlt:k<m
  ·have hI0:=hI
   obtain ⟨e1,e2,e3,hcase⟩:=hI
   rcases hcase with h0 | ⟨b,off,rfl,hbl,hc⟩
   ·omega
   have d0:=hc 0 (by omega)
   have d1:=hc 1 (by omega)
   have d2:=hc 2 (by omega)
   rw [← hb.cell (p:=⟨b,_,none⟩) hbl] at d0 d1 d2
   obtain ⟨a2,hsl,hI2⟩:=slice_l hI0 (lo:=3) (by omega)
   have hgt:=HG.out k hlt
   have t0:(ys.drop (3*k)).getD 0 0=((triples ys).getD k (0,0,0)).1:=by rw [hgt];simp [List.getD]
   have t1:(ys.drop (3*k)).getD 1 0=((triples ys).getD k (0,0,0)).2.1:=by rw [hgt];simp [List.getD]
   have t2:(ys.drop (3*k)).getD 2 0=((triples ys).getD k (0,0,0)).2.2:=by rw [hgt];simp [List.getD]
   rw [t0] at d0
   rw [t1] at d1
   rw [t2] at d2
   have hst:Hid (flat ((triples ys).take (k+1))=flat ((triples ys).take k)++((triples ys).getD k (0,0,0)).cells):=flat_take_succ (by omega)
   have hI3:Ints .i64 w a2 (ln - 3) (c' - 3) (ys.drop (3*(k+1))):=by
    have:(ys.drop (3*k)).drop 3=ys.drop (3*(k+1)):=by rw [List.drop_drop];congr 1
    rw [← this];exact hI2
   have hsl3:∀ W,(Instr.slice 40 (.slice (some ⟨b,off,none⟩) ln c') (some (.int .i64 3)) none none).run Tryz.prog W=.ok (.slice a2 (ln - 3) (c' - 3)) W:=fun W=>hsl W
   clear hgt t0 t1 t2 hc hI0 hI2 hsl
   rw [Nat.add_zero] at d0
   generalize (triples ys).getD k (0,0,0)=x at d0 d1 d2 hst
   have hge:(3:Int)≤(ln:Int):=by omega
   have hp0:(0:Int)<(ln:Int):=by omega
   have hp1:(1:Int)<(ln:Int):=by omega
   have hp2:(2:Int)<(ln:Int):=by omega
   have hq0:0<ln:=by omega
   have hq1:1<ln:=by omega
   have hq2:2<ln:=by omega
   have hm1:k+1≤maxLen:=by unfold maxLen;omega
   have hm2:(k+1)*24≤140737488355328:=by omega
   have hm3:w.heap.size≤(wr.alloc (.cells #[.int .i64 x.1,.int .i64 x.2.1,.int .i64 x.2.2] 112)).drew.heap.size:=by have:=hb.size;simp;omega
   have hbis:=hb.size
   go_wp2_with fail
   go_region_held3 (fun w'=>w'.cell? ⟨b,off,none⟩=some (.int .i64 x.1)∧w'.cell? ⟨b,off+1,none⟩=some (.int .i64 x.2.1)∧w'.cell? ⟨b,off+2,none⟩=some (.int .i64 x.2.2)) (first | (exact ⟨d0,d1,d2⟩) | (exact ⟨q1,q2,q3⟩) | go_keep)
    (first | (refine step_append_mine rfl _ _ 72 rfl w.heap.size 112 i0 (.agg #[.int .i64 0,.int .i64 0,.int .i64 0]) 3 24 Tryz.underlying72 hi hz0 hz1 hz2 rfl (by decide) _ k (flat ((triples ys).take k)) rfl (own_dr (hr.alloc _)) ⟨wr.heap.size,0,none⟩ 1 1 [.int .i64 x.1,.int .i64 x.2.1,.int .i64 x.2.2] rfl rfl (three_dr wr _ _ _ _) (three_i64 _ _ _) hm1 hm2 hm3 ?_;intro v3 w3 hown3 hgrow3;have hB3:=below_app3 hbis hr hgrow3;have q1:=cells_lo3 hB3 hbl d0;have q2:=cells_lo3 hB3 hbl d1;have q3:=cells_lo3 hB3 hbl d2))
   have hr3:w3.ownsRow w.heap.size 112 3 v3 (k+1) (flat ((triples ys).take (k+1))):=by rw [hst.out];exact hown3
   have hb3:Below w.heap.size w w3:=hb.trans hB3
   clear hown3 hgrow3 hB3 q1 q2 q3 d0 d1 d2 hr hb hm1 hm2 hm3 hbis hst
   go_wp2
   go_roundw
   case rel=>exact ⟨k+1,ln - 3,a2,c' - 3,by omega,by omega,by omega,rfl,hI3,hr3,hb3⟩
   case measure=>simp [slLen];omega
  ·obtain rfl:k=m:=by omega
   have hge:¬ (3:Int)≤(ln:Int):=by omega
   rw [show (triples ys).take k=triples ys by rw [← htl,List.take_length]] at hr
   rw [← htl] at hr
   go_wp2
   go_ret
   exact ⟨RowB.mk9 hr,hb⟩


def comC (xs:List I3):ByteArray × Int:=if 4096<xs.length then (⟨#[]⟩,2) else if riseB xs=true∧xs.length≤30 then (strOfNums (packL (unT xs)),0) else (⟨#[]⟩,1)
def ResC (r:ByteArray × Int):Ending:=.returned (.tuple #[.string r.1,.int .i64 r.2])
theorem okB_num {x:I3} (h:okB x=true):(0≤x.1∧x.1≤999999999)∧(0≤x.2.1∧x.2.1≤999999999)∧(0≤x.2.2∧x.2.2≤999999999):=by
 obtain ⟨p,q,r⟩:=x
 unfold okB at h
 simp only at h ⊢
 split at h
 ·simp at h;omega
 ·split at h
  ·unfold inB at h;simp at h;omega
  ·cases h
theorem unT_rise {xs:List I3} (h:riseB xs=true):allOk (unT xs):=by
 have h9:∀ ys:List I3,(∀ x ∈ ys,okB x=true)→allOk (unT ys):=by
  intro ys
  induction ys with
  | nil=>intro _ z hz;cases hz
  | cons y ys ih =>
   intro hy z hz
   obtain ⟨h1,h2,h3⟩:=okB_num (hy y List.mem_cons_self)
   simp only [unT,List.mem_cons] at hz
   rcases hz with rfl | rfl | rfl | hz
   ·exact h1
   ·exact h2
   ·exact h3
   ·exact ih (fun x hx=>hy x (List.mem_cons_of_mem _ hx)) z hz
 refine h9 xs (fun x hx=>?_)
 unfold riseB at h
 rw [List.all_eq_true] at h
 obtain ⟨i,hi,rfl⟩:=List.getElem_of_mem hx
 have:=h i (List.mem_range.2 hi)
 simp only [bStep,Bool.and_eq_true] at this
 have h1:=this.1
 rwa [List.getD,List.getElem?_eq_getElem hi,Option.getD_some] at h1

open Go.RowKit Go.Sort

def cmpI (a b:Int):Int:=if a<b then -1 else if b<a then 1 else 0
def orI (a b c:Int):Int:=if a≠0 then a else if b≠0 then b else c
def cmpB (x y:I3):Int:=orI (cmpI x.1 y.1) (cmpI x.2.1 y.2.1) (cmpI x.2.2 y.2.2)
theorem cmpB_lt (x y:I3):ltOf cmpB x y=ltB x y:=by
 unfold ltOf cmpB orI cmpI ltB
 by_cases a1:x.1<y.1
 ·simp [a1]
 by_cases a2:y.1<x.1
 ·have:¬ (x.1=y.1):=by omega
  simp [a1,a2,this]
 have a3:x.1=y.1:=by omega
 by_cases b1:x.2.1<y.2.1
 ·simp [a3,b1]
 by_cases b2:y.2.1<x.2.1
 ·have:¬ (x.2.1=y.2.1):=by omega
  simp [a3,b1,b2,this]
 have b3:x.2.1=y.2.1:=by omega
 by_cases c1:x.2.2<y.2.2
 ·simp [a3,b3,c1]
 by_cases c2:y.2.2<x.2.2
 ·simp [a3,b3,c1,c2]
 ·simp [a3,b3,c1,c2]
theorem cmpCompare_is (a b:Int) (w:World):Calls Tryz.prog 132 #[.int .i64 a,.int .i64 b] w fun e w'=>e=.returned (.int .i64 (cmpI a b))∧w=w':=by
 have ha:(a != a)=false:=by simp
 have hb:(b != b)=false:=by simp
 unfold cmpI
 by_cases h1:a<b
 ·rw [if_pos h1]
  go_enter Tryz.func132,Tryz.ntmps132
  go_wp2
  go_ret
  exact ⟨rfl,rfl⟩
 ·rw [if_neg h1]
  by_cases h2:b<a
  ·rw [if_pos h2]
   go_enter Tryz.func132,Tryz.ntmps132
   go_wp2
   go_ret
   exact ⟨rfl,rfl⟩
  ·rw [if_neg h2]
   go_enter Tryz.func132,Tryz.ntmps132
   go_wp2
   go_ret
   exact ⟨rfl,rfl⟩

theorem cmpOr_is (g:Nat) (a b c:Int) (w:World) (h0:w.cell? ⟨g,0,none⟩=some (.int .i64 a)) (h1:w.cell? ⟨g,1,none⟩=some (.int .i64 b)) (h2:w.cell? ⟨g,2,none⟩=some (.int .i64 c)) :
  Calls Tryz.prog 160 #[.slice (some ⟨g,0,none⟩) 3 3] w fun e w'=>e=.returned (.int .i64 (orI a b c))∧w=w':=by
 unfold orI
 by_cases ha:a=0
 ·subst ha
  simp only [ne_eq,not_true_eq_false,if_false]
  by_cases hb:b=0
  ·subst hb
   simp only [ne_eq,not_true_eq_false,if_false]
   by_cases hc:c=0
   ·subst hc
    go_enter Tryz.func160,Tryz.ntmps160
    go_wp2
    refine wp_loop_rounds 4 ?_
    rw [rounds_succ]
    go_wp2
    rw [rounds_succ]
    go_wp2
    rw [rounds_succ]
    go_wp2
    rw [rounds_succ]
    go_wp2
    go_ret
    exact ⟨rfl,rfl⟩
   ·go_enter Tryz.func160,Tryz.ntmps160
    go_wp2
    refine wp_loop_rounds 3 ?_
    rw [rounds_succ]
    go_wp2
    rw [rounds_succ]
    go_wp2
    rw [rounds_succ]
    go_wp2
    go_ret
    exact ⟨rfl,rfl⟩
  ·simp only [ne_eq,hb,not_false_eq_true,if_true]
   go_enter Tryz.func160,Tryz.ntmps160
   go_wp2
   refine wp_loop_rounds 2 ?_
   rw [rounds_succ]
   go_wp2
   rw [rounds_succ]
   go_wp2
   go_ret
   exact ⟨rfl,rfl⟩
 ·simp only [ne_eq,ha,not_false_eq_true,if_true]
  go_enter Tryz.func160,Tryz.ntmps160
  go_wp2
  refine wp_loop_rounds 1 ?_
  rw [rounds_succ]
  go_wp2
  go_ret
  exact ⟨rfl,rfl⟩

theorem compareBugs_is (x y:I3) (w:World) :
  Calls Tryz.prog 135 #[.agg #[.int .i64 x.1,.int .i64 x.2.1,.int .i64 x.2.2],.agg #[.int .i64 y.1,.int .i64 y.2.1,.int .i64 y.2.2]] w fun e w'=>e=.returned (.int .i64 (cmpB x y))∧∃ q os,w'=grow (w.drewN q) os:=by
 obtain ⟨x0,x1,x2⟩:=x
 obtain ⟨y0,y1,y2⟩:=y
 unfold cmpB
 simp only
 have k0:=fun W=>cmpCompare_is x0 y0 W
 have k1:=fun W=>cmpCompare_is x1 y1 W
 have k2:=fun W=>cmpCompare_is x2 y2 W
 generalize cmpI x0 y0=p0 at *
 generalize cmpI x1 y1=p1 at *
 generalize cmpI x2 y2=p2 at *
 have HW:Hid (∃ q os,((w.alloc (.cells #[.int .i64 x0,.int .i64 x1,.int .i64 x2] 112)).alloc (.cells #[.int .i64 y0,.int .i64 y1,.int .i64 y2] 112)).drew.alloc (.cells #[.int .i64 p0,.int .i64 p1,.int .i64 p2] 3)=grow (w.drewN q) os):=⟨1,#[.cells #[.int .i64 x0,.int .i64 x1,.int .i64 x2] 112]++#[.cells #[.int .i64 y0,.int .i64 y1,.int .i64 y2] 112]++#[.cells #[.int .i64 p0,.int .i64 p1,.int .i64 p2] 3],by
  rw [alloc_eq_grow,alloc_eq_grow,alloc_eq_grow]
  simp only [grow,World.drew,World.drewN,Array.append_assoc]⟩
 have c0:((w.alloc (.cells #[.int .i64 x0,.int .i64 x1,.int .i64 x2] 112)).alloc (.cells #[.int .i64 y0,.int .i64 y1,.int .i64 y2] 112)).cell? ⟨w.heap.size,0,none⟩=some (.int .i64 x0):=by simp [go_sem]
 have c1:((w.alloc (.cells #[.int .i64 x0,.int .i64 x1,.int .i64 x2] 112)).alloc (.cells #[.int .i64 y0,.int .i64 y1,.int .i64 y2] 112)).cell? ⟨w.heap.size,1,none⟩=some (.int .i64 x1):=by simp [go_sem]
 have c2:((w.alloc (.cells #[.int .i64 x0,.int .i64 x1,.int .i64 x2] 112)).alloc (.cells #[.int .i64 y0,.int .i64 y1,.int .i64 y2] 112)).cell? ⟨w.heap.size,2,none⟩=some (.int .i64 x2):=by simp [go_sem]
 have e0:((w.alloc (.cells #[.int .i64 x0,.int .i64 x1,.int .i64 x2] 112)).alloc (.cells #[.int .i64 y0,.int .i64 y1,.int .i64 y2] 112)).cell? ⟨w.heap.size+1,0,none⟩=some (.int .i64 y0):=by simp [go_sem]
 have e1:((w.alloc (.cells #[.int .i64 x0,.int .i64 x1,.int .i64 x2] 112)).alloc (.cells #[.int .i64 y0,.int .i64 y1,.int .i64 y2] 112)).cell? ⟨w.heap.size+1,1,none⟩=some (.int .i64 y1):=by simp [go_sem]
 have e2:((w.alloc (.cells #[.int .i64 x0,.int .i64 x1,.int .i64 x2] 112)).alloc (.cells #[.int .i64 y0,.int .i64 y1,.int .i64 y2] 112)).cell? ⟨w.heap.size+1,2,none⟩=some (.int .i64 y2):=by simp [go_sem]
 go_enter Tryz.func135,Tryz.ntmps135
 go_wp2_with fail
 generalize ((w.alloc (.cells #[.int .i64 x0,.int .i64 x1,.int .i64 x2] 112)).alloc (.cells #[.int .i64 y0,.int .i64 y1,.int .i64 y2] 112))=W at *
 refine wp_region_held_drew (S:=(fun w'=>w'.cell? ⟨w.heap.size,0,none⟩=some (.int .i64 x0)∧w'.cell? ⟨w.heap.size,1,none⟩=some (.int .i64 x1)∧w'.cell? ⟨w.heap.size,2,none⟩=some (.int .i64 x2)∧w'.cell? ⟨w.heap.size+1,0,none⟩=some (.int .i64 y0)∧w'.cell? ⟨w.heap.size+1,1,none⟩=some (.int .i64 y1)∧w'.cell? ⟨w.heap.size+1,2,none⟩=some (.int .i64 y2))) (by kernel_rfl) ⟨c0,c1,c2,e0,e1,e2⟩ (fun hS0=>?_)
 refine tkm 0 5 (.pointer (some ⟨w.heap.size,0,none⟩)) ?_
 refine tkm 1 6 (.int .i64 x0) ?_
 refine tkm 2 7 (.pointer (some ⟨w.heap.size+1,0,none⟩)) ?_
 refine tkm 3 8 (.int .i64 y0) ?_
 refine tkm 5 10 (.pointer (some ⟨w.heap.size,1,none⟩)) ?_
 refine tkm 6 11 (.int .i64 x1) ?_
 refine tkm 7 12 (.pointer (some ⟨w.heap.size+1,1,none⟩)) ?_
 refine tkm 8 13 (.int .i64 y1) ?_
 refine tkm 10 15 (.pointer (some ⟨w.heap.size,2,none⟩)) ?_
 refine tkm 11 16 (.int .i64 x2) ?_
 refine tkm 12 17 (.pointer (some ⟨w.heap.size+1,2,none⟩)) ?_
 refine tkm 13 18 (.int .i64 y2) ?_
 refine tkr 4 9 (fun K hK=>?_)
 go_simp
 refine (k0 _).mono ?_
 rintro e w5 ⟨rfl,rfl⟩
 go_wp2_with fail
 refine hK.out _ _ ⟨c0,c1,c2,e0,e1,e2⟩ (fun hS1=>?_)
 clear hK
 try simp only [Act.put,tka,tkb,tkc]
 refine tkr 9 14 (fun K hK=>?_)
 go_simp
 refine (k1 _).mono ?_
 rintro e w6 ⟨rfl,rfl⟩
 go_wp2_with fail
 refine hK.out _ _ ⟨c0,c1,c2,e0,e1,e2⟩ (fun hS2=>?_)
 clear hK
 try simp only [Act.put,tka,tkb,tkc]
 refine tkr 14 19 (fun K hK=>?_)
 go_simp
 refine (k2 _).mono ?_
 rintro e w7 ⟨rfl,rfl⟩
 go_wp2_with fail
 refine hK.out _ _ ⟨c0,c1,c2,e0,e1,e2⟩ (fun hS3=>?_)
 clear hK
 try simp only [Act.put,tka,tkb,tkc]
 have f0:(W.drew.alloc (.cells #[.int .i64 p0,.int .i64 p1,.int .i64 p2] 3)).cell? ⟨W.heap.size,0,none⟩=some (.int .i64 p0):=by simp [go_sem]
 have f1:(W.drew.alloc (.cells #[.int .i64 p0,.int .i64 p1,.int .i64 p2] 3)).cell? ⟨W.heap.size,1,none⟩=some (.int .i64 p1):=by simp [go_sem]
 have f2:(W.drew.alloc (.cells #[.int .i64 p0,.int .i64 p1,.int .i64 p2] 3)).cell? ⟨W.heap.size,2,none⟩=some (.int .i64 p2):=by simp [go_sem]
 have hal:Below W.heap.size W (W.drew.alloc (.cells #[.int .i64 p0,.int .i64 p1,.int .i64 p2] 3)):=by go_grown
 refine tkr 15 20 (fun K hK=>?_)
 go_simp
 refine hK.out _ _ ⟨cells_kept hal _ _ c0,cells_kept hal _ _ c1,cells_kept hal _ _ c2,cells_kept hal _ _ e0,cells_kept hal _ _ e1,cells_kept hal _ _ e2⟩ (fun hSa=>?_)
 clear hK
 try simp only [Act.put,tka,tkb,tkc]
 refine tkr 16 21 (fun K hK=>?_)
 go_simp
 refine (cmpOr_is W.heap.size p0 p1 p2 _ f0 f1 f2).mono ?_
 rintro e w9 ⟨rfl,rfl⟩
 go_wp2_with fail
 refine hK.out _ _ hSa (fun hSb=>?_)
 clear hK
 try simp only [Act.put,tka,tkb,tkc]
 refine tkm 17 4 (.int .i64 (orI p0 p1 p2)) ?_
 refine wpAnyH_done (by kernel_rfl) ?_ _
 clear hSa hSb c0 c1 c2 e0 e1 e2 f0 f1 f2 k0 k1 k2
 go_wp2
 go_ret
 exact ⟨rfl,HW.out⟩
end Go.Proofs.YtdopgkbegjfhjaaGreatDoor
