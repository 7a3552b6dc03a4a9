/-
  Joined: SlpP, SaI.
-/
import Derived.Test.YtifoggpohlegmaaGreatDoorS21
import Derived.Test.YtifoggpohlegmaaGreatDoorS31

namespace Go.Proofs.YtifoggpohlegmaaGreatDoor
set_option maxRecDepth 100000
set_option maxHeartbeats 16000000
set_option linter.unusedVariables false

def stillM (rows:List (List I3)) (m:V4) (Z:List Int) (k:Int):List Int:=Z.filter fun j=>!depM (eventM rows m k.toNat) (eventM rows m j.toNat)
abbrev St7:=List I3 × Nat × Nat
def slpL (rows:List (List I3)) (m:V4) (rec:V4→List Int→St7→St7):List Int→List Int→St7→St7
 | [],_,st=>st
 | k::ks,Z,st=>if k ∈ Z then slpL rows m rec ks Z st else slpL rows m rec ks (Z++[k]) (rec (goM rows m k).1 (stillM rows m Z k) (st.1++ownM rows m k,st.2))
def inSt (rows:List (List I3)) (m:V4) (st:St7):St7:=(st.1++deadM rows m,st.2.1+(if enabM rows m 3=[] then 1 else 0),st.2.2+1)
def visI (rows:List (List I3)):Nat→V4→List Int→St7→St7
 | 0,_,_,st=>st
 | f+1,m,Z,st=>if 5000<st.2.2+1 then (st.1,st.2.1,st.2.2+1) else slpL rows m (visI rows f) (enabM rows m 3) Z (inSt rows m st)
def schL (rows:List (List I3)) (m:V4) (rec:V4→List Int→St7→St7 × Bool):List Int→List Int→St7→St7 × Bool
 | [],_,o=>(o,true)
 | k::ks,Z,o=>if k ∈ Z then schL rows m rec ks Z o else
   if (rec (goM rows m k).1 (stillM rows m Z k) (mergeB o.1 (foundM rows m k),o.2)).2 then schL rows m rec ks (Z++[k]) (rec (goM rows m k).1 (stillM rows m Z k) (mergeB o.1 (foundM rows m k),o.2)).1
   else ((rec (goM rows m k).1 (stillM rows m Z k) (mergeB o.1 (foundM rows m k),o.2)).1,false)
def schS (rows:List (List I3)):Nat→V4→List Int→St7→St7 × Bool
 | 0,_,_,o=>(o,true)
 | f+1,m,Z,o=>if 5000<o.2.2+1 then ((o.1,o.2.1,o.2.2+1),false) else schL rows m (schS rows f) (enabM rows m 3) Z (o.1,o.2.1+(if enabM rows m 3=[] then 1 else 0),o.2.2+1)

theorem slpL_skip {rows:List (List I3)} {m:V4} {rec:V4→List Int→St7→St7} {k:Int} {ks Z:List Int} {st:St7} (h:k ∈ Z):slpL rows m rec (k::ks) Z st=slpL rows m rec ks Z st:=by
 rw [slpL,if_pos h]
theorem slpL_go {rows:List (List I3)} {m:V4} {rec:V4→List Int→St7→St7} {k:Int} {ks Z:List Int} {st:St7} (h:k ∉ Z):slpL rows m rec (k::ks) Z st=slpL rows m rec ks (Z++[k]) (rec (goM rows m k).1 (stillM rows m Z k) (st.1++ownM rows m k,st.2)):=by
 rw [slpL,if_neg h]
theorem schL_skip {rows:List (List I3)} {m:V4} {rec:V4→List Int→St7→St7 × Bool} {k:Int} {ks Z:List Int} {o:St7} (h:k ∈ Z):schL rows m rec (k::ks) Z o=schL rows m rec ks Z o:=by
 rw [schL,if_pos h]
theorem schL_go {rows:List (List I3)} {m:V4} {rec:V4→List Int→St7→St7 × Bool} {k:Int} {ks Z:List Int} {o:St7} (h:k ∉ Z):schL rows m rec (k::ks) Z o =
  if (rec (goM rows m k).1 (stillM rows m Z k) (mergeB o.1 (foundM rows m k),o.2)).2 then schL rows m rec ks (Z++[k]) (rec (goM rows m k).1 (stillM rows m Z k) (mergeB o.1 (foundM rows m k),o.2)).1
  else ((rec (goM rows m k).1 (stillM rows m Z k) (mergeB o.1 (foundM rows m k),o.2)).1,false):=by
 rw [schL,if_neg h]

theorem slpL_mono {rows:List (List I3)} {m:V4} {rec:V4→List Int→St7→St7} (hr:∀ m Z st,st.2.2≤(rec m Z st).2.2):∀ (ks Z:List Int) (st:St7),st.2.2≤(slpL rows m rec ks Z st).2.2
 | [],_,st=>Nat.le_refl _
 | k::ks,Z,st=>by
  by_cases h:k ∈ Z
  ·rw [slpL_skip h];exact slpL_mono hr ks Z st
  ·rw [slpL_go h]
   exact Nat.le_trans (hr _ _ (st.1++ownM rows m k,st.2)) (slpL_mono hr ks _ _)
theorem visI_mono (rows:List (List I3)):∀ (f:Nat) (m:V4) (Z:List Int) (st:St7),st.2.2≤(visI rows f m Z st).2.2
 | 0,_,_,_=>Nat.le_refl _
 | f+1,m,Z,st=>by
  rw [visI]
  split
  ·exact Nat.le_succ _
  ·exact Nat.le_trans (Nat.le_succ _) (slpL_mono (visI_mono rows f) _ _ (inSt rows m st))

theorem enab_le3 (rows:List (List I3)) (m:V4):(enabM rows m 3).length≤3:=by
 have h:∀ n,(enabM rows m n).length≤n:=fun n=>by
  induction n with
  | zero=>exact Nat.le_refl _
  | succ n ih =>
   rw [enabM]
   split
   ·rw [List.length_append];simp;omega
   ·omega
 exact h 3
def roomT:Nat→Nat
 | 0=>0
 | f+1=>1+3*roomT f
theorem slpL_room {rows:List (List I3)} {m:V4} {rec:V4→List Int→St7→St7} {T:Nat} (hr:∀ m Z st,(rec m Z st).2.2≤st.2.2+T):∀ (ks Z:List Int) (st:St7),(slpL rows m rec ks Z st).2.2≤st.2.2+ks.length*T
 | [],_,st=>by simp [slpL]
 | k::ks,Z,st=>by
  have e:(ks.length+1)*T=ks.length*T+T:=Nat.succ_mul _ _
  rw [List.length_cons,e]
  by_cases h:k ∈ Z
  ·rw [slpL_skip h]
   have:=slpL_room (rows:=rows) (m:=m) hr ks Z st
   omega
  ·rw [slpL_go h]
   have a:=hr (goM rows m k).1 (stillM rows m Z k) (st.1++ownM rows m k,st.2)
   have b:=slpL_room (rows:=rows) (m:=m) hr ks (Z++[k]) (rec (goM rows m k).1 (stillM rows m Z k) (st.1++ownM rows m k,st.2))
   simp only at a
   omega
theorem visI_room (rows:List (List I3)):∀ (f:Nat) (m:V4) (Z:List Int) (st:St7),(visI rows f m Z st).2.2≤st.2.2+roomT f
 | 0,_,_,_=>Nat.le_refl _
 | f+1,m,Z,st=>by
  rw [visI]
  split
  ·simp only [roomT];omega
  ·have a:=slpL_room (rows:=rows) (m:=m) (visI_room rows f) (enabM rows m 3) Z (inSt rows m st)
   have b:=enab_le3 rows m
   have c:(enabM rows m 3).length*roomT f≤3*roomT f:=Nat.mul_le_mul_right _ b
   have d:(inSt rows m st).2.2=st.2.2+1:=rfl
   rw [d] at a
   simp only [roomT]
   omega
theorem own_le1 (rows:List (List I3)) (m:V4) (k:Int):(ownM rows m k).length≤1:=by unfold ownM;split<;>simp
theorem dead_le1 (rows:List (List I3)) (m:V4):(deadM rows m).length≤1:=by unfold deadM;split<;>simp
theorem slpL_size {rows:List (List I3)} {m:V4} {rec:V4→List Int→St7→St7} (hr:∀ m Z st c,st.1.length+c≤4*st.2.2→st.2.1≤st.2.2→(rec m Z st).1.length+c≤4*(rec m Z st).2.2∧(rec m Z st).2.1≤(rec m Z st).2.2) :
  ∀ (ks Z:List Int) (st:St7) (c:Nat),st.1.length+ks.length+c≤4*st.2.2→st.2.1≤st.2.2→(slpL rows m rec ks Z st).1.length+c≤4*(slpL rows m rec ks Z st).2.2∧(slpL rows m rec ks Z st).2.1≤(slpL rows m rec ks Z st).2.2
 | [],_,st,c,h,h'=>⟨by simp only [slpL];simp at h;omega,h'⟩
 | k::ks,Z,st,c,h,h'=>by
  rw [List.length_cons] at h
  by_cases hk:k ∈ Z
  ·rw [slpL_skip hk]
   exact slpL_size hr ks Z st c (by omega) h'
  ·rw [slpL_go hk]
   have o:=own_le1 rows m k
   obtain ⟨a,b⟩:=hr (goM rows m k).1 (stillM rows m Z k) (st.1++ownM rows m k,st.2) (ks.length+c) (by rw [List.length_append];simp only;omega) h'
   exact slpL_size hr ks _ _ c (by omega) b
theorem visI_size (rows:List (List I3)):∀ (f:Nat) (m:V4) (Z:List Int) (st:St7) (c:Nat),st.1.length+c≤4*st.2.2→st.2.1≤st.2.2→(visI rows f m Z st).1.length+c≤4*(visI rows f m Z st).2.2∧(visI rows f m Z st).2.1≤(visI rows f m Z st).2.2
 | 0,_,_,st,c,h,h'=>⟨h,h'⟩
 | f+1,m,Z,st,c,h,h'=>by
  rw [visI]
  split
  ·exact ⟨by simp only;omega,by simp only;omega⟩
  ·have b:=enab_le3 rows m
   have d:=dead_le1 rows m
   refine slpL_size (visI_size rows f) _ _ _ c ?_ ?_
   ·unfold inSt;rw [List.length_append];simp only;omega
   ·unfold inSt;simp only;split<;>omega

def Out7 (st:St7) (o:St7 × Bool):Prop:=(o.2=true→st.2=o.1.2∧Rises o.1.1∧(∀ x,x ∈ o.1.1↔x ∈ st.1)∧st.2.2≤5000)∧(o.2=false→5000<st.2.2)
theorem schL_vis {rows:List (List I3)} {m:V4} {f:Nat} (hp:progOk rows=true) (hs:shapeOk m=true) (hf:leftN rows m≤f)
  (ih:∀ m Z (st o:St7),shapeOk m=true→leftN rows m<f→st.2=o.2→Rises o.1→(∀ x,x ∈ o.1↔x ∈ st.1∨x ∈ deadM rows m)→Out7 (visI rows f m Z st) (schS rows f m Z o)) :
  ∀ (ks Z:List Int) (st o:St7),(∀ k ∈ ks,haltM rows m k=0)→st.2=o.2→Rises o.1→(∀ x,x ∈ o.1↔x ∈ st.1)→st.2.2≤5000→Out7 (slpL rows m (visI rows f) ks Z st) (schL rows m (schS rows f) ks Z o)
 | [],Z,st,o,_,h1,h2,h3,h4=>⟨fun _=>⟨h1,h2,h3,h4⟩,fun h=>by simp [schL] at h⟩
 | k::ks,Z,st,o,hk,h1,h2,h3,h4=>by
  have hk':∀ j ∈ ks,haltM rows m j=0:=fun j hj=>hk j (List.mem_cons_of_mem _ hj)
  by_cases hz:k ∈ Z
  ·rw [slpL_skip hz,schL_skip hz]
   exact schL_vis hp hs hf ih ks Z st o hk' h1 h2 h3 h4
  ·rw [slpL_go hz,schL_go hz]
   have h0:=hk k (List.mem_cons_self ..)
   have hl:=left_step hp hs h0
   obtain ⟨a,b⟩:=ih (goM rows m k).1 (stillM rows m Z k) (st.1++ownM rows m k,st.2) (mergeB o.1 (foundM rows m k),o.2) (goM_shape hp hs h0) (by omega) h1 (mergeB_rises _ _) (fun x=>by
    rw [mem_mergeB,mem_found,h3,List.mem_append,or_assoc])
   generalize visI rows f (goM rows m k).1 (stillM rows m Z k) (st.1++ownM rows m k,st.2)=s' at *
   generalize schS rows f (goM rows m k).1 (stillM rows m Z k) (mergeB o.1 (foundM rows m k),o.2)=o' at *
   obtain ⟨o',ok⟩:=o'
   cases ok
   ·refine ⟨fun h=>by simp at h,fun _=>?_⟩
    exact Nat.lt_of_lt_of_le (b rfl) (slpL_mono (visI_mono rows f) _ _ _)
   ·obtain ⟨c1,c2,c3,c4⟩:=a rfl
    simp only [if_true]
    exact schL_vis hp hs hf ih ks _ _ _ hk' c1 c2 c3 c4
theorem sch_vis {rows:List (List I3)} (hp:progOk rows=true):∀ (f:Nat) (m:V4) (Z:List Int) (st o:St7),shapeOk m=true→leftN rows m<f→st.2=o.2→Rises o.1→(∀ x,x ∈ o.1↔x ∈ st.1∨x ∈ deadM rows m)→Out7 (visI rows f m Z st) (schS rows f m Z o)
 | 0,_,_,_,_,_,h,_,_,_=>absurd h (Nat.not_lt_zero _)
 | f+1,m,Z,st,o,hs,hf,h1,h2,h3=>by
  rw [visI,schS,← h1]
  by_cases h:5000<st.2.2+1
  ·rw [if_pos h,if_pos h]
   exact ⟨fun q=>by simp at q,fun _=>h⟩
  ·rw [if_neg h,if_neg h]
   refine schL_vis hp hs (by omega) (sch_vis hp f) _ _ _ _ (fun k hk=>enab_halt hk) rfl h2 (fun x=>?_) (by unfold inSt;simp only;omega)
   unfold inSt
   rw [h3,List.mem_append]
theorem left_18 {rows:List (List I3)} (hp:progOk rows=true) (m:V4):leftN rows m≤18:=by
 obtain ⟨h1,h2⟩:=progOk_parts hp
 have h:∀ k,(codeM rows k).length≤6:=fun k=>by
  unfold codeM
  rcases Nat.lt_or_ge k rows.length with hk | hk
  ·simp only [List.getD,List.getElem?_eq_getElem hk,Option.getD_some]
   exact (h2 _ (List.getElem_mem hk)).1
  ·simp [List.getD,List.getElem?_eq_none hk]
 unfold leftN remM
 have a:=h 0;have b:=h 1;have c:=h 2
 omega
def slpS (rows:List (List I3)):St7:=visI rows 19 zeroV [] ([],0,0)
def slpO (rows:List (List I3)):St7 × Bool:=schS rows 19 zeroV [] (deadM rows zeroV,0,0)
theorem dead_rises (rows:List (List I3)) (m:V4):Rises (deadM rows m):=by
 unfold deadM
 split
 ·exact List.pairwise_singleton _ _
 ·exact List.Pairwise.nil
theorem slp_same {rows:List (List I3)} (hp:progOk rows=true):Out7 (slpS rows) (slpO rows):=
 sch_vis hp 19 zeroV [] _ _ zero_shape (by have:=left_18 hp zeroV;omega) rfl (dead_rises _ _) (fun x=>by simp)
theorem slp_ok {rows:List (List I3)} (hp:progOk rows=true):(slpO rows).2=decide ((slpS rows).2.2≤5000):=by
 obtain ⟨a,b⟩:=slp_same hp
 cases h:(slpO rows).2
 ·have:=b h
  simp;omega
 ·have:=(a h).2.2.2
  simp [this]
theorem slp_bugs {rows:List (List I3)} (hp:progOk rows=true) (h:(slpS rows).2.2≤5000):(slpO rows).1=(mergeB (slpS rows).1 [],(slpS rows).2):=by
 obtain ⟨a,b⟩:=slp_same hp
 have ho:(slpO rows).2=true:=by rw [slp_ok hp];simp [h]
 obtain ⟨c1,c2,c3,c4⟩:=a ho
 have e:(slpO rows).1.1=mergeB (slpS rows).1 []:=c2.same (mergeB_rises _ _) (fun x=>by rw [c3,mem_mergeB];simp)
 rw [c1,← e]

open Go.RowKit
set_option linter.unusedSimpArgs false

def RowGot7 (e:Ending) (w:World) (B:Nat) (ks:List Int):Prop:=∃ v,e=.returned v∧w.ownsRow B 3 1 v ks.length (ks.map (Value.int .i64))
def SlpOk (rows:List (List I3)) (m:V4) (Z:List Int):Prop:=∀ j ∈ Z,∃ q:Nat,j=q∧q<3∧doneM rows m q=false

theorem wakes_is {w:World} {g bx ev:Nat} {cs:Sl × Sl × Sl} {rows:List (List I3)} {m:V4} (h:MachAt w g cs rows m) (hp:progOk rows=true) (hs:shapeOk m=true) (cB:w.cell? ⟨bx,0,none⟩=some (.pointer (some ⟨g,0,none⟩))) (x0 x1 x2 x3:Int)
  (c0:w.cell? ⟨ev,0,none⟩=some (.int .i64 x0)) (c1:w.cell? ⟨ev,1,none⟩=some (.int .i64 x1)) (c2:w.cell? ⟨ev,2,none⟩=some (.int .i64 x2)) (c3:w.cell? ⟨ev,3,none⟩=some (.int .i64 x3)) {j:Nat} (hj:j<3) (hd:doneM rows m j=false) :
  Calls Tryz.prog 147 #[.int .i64 j,.pointer (some ⟨bx,0,none⟩),.pointer (some ⟨ev,0,none⟩)] w fun e w'=>e=.returned (.bool (depM (eventM rows m j) (x0,x1,x2,x3)))∧Below w.heap.size w w':=by
 have kE:=fun (W:World) (b:Below w.heap.size w W)=>event_is (h.below b) hp hs hj hd
 generalize eventM rows m j=y at *
 obtain ⟨y0,y1,y2,y3⟩:=y
 have kD:=fun (W:World)=>implDepends_is (y0,y1,y2,y3) (x0,x1,x2,x3) W
 unfold I4.val at kD
 simp only at kD kE
 have bd:Below w.heap.size w w.drew:=by go_grown
 clear h
 go_enter Tryz.func147,Tryz.ntmps147
 go_wp2_with fail
 refine wp_region_held_drew (S:=(fun w'=>w'.cell? ⟨bx,0,none⟩=some (.pointer (some ⟨g,0,none⟩))∧w'.cell? ⟨ev,0,none⟩=some (.int .i64 x0)∧w'.cell? ⟨ev,1,none⟩=some (.int .i64 x1)∧w'.cell? ⟨ev,2,none⟩=some (.int .i64 x2)∧w'.cell? ⟨ev,3,none⟩=some (.int .i64 x3))) (by kernel_rfl) ⟨cB,c0,c1,c2,c3⟩ (fun hS0=>?_)
 refine tkm 0 5 (.pointer (some ⟨g,0,none⟩)) ?_
 refine tkm 1 6 (.int .i64 (j:Int)) ?_
 refine tkm 3 8 (.agg #[.int .i64 x0,.int .i64 x1,.int .i64 x2,.int .i64 x3]) ?_
 refine tkr 2 7 (fun K hK=>?_)
 go_simp
 refine (kE _ bd).mono ?_
 rintro e w1 ⟨rfl,hb1⟩
 go_wp2_with fail
 refine hK.out _ _ ?_ (fun hS1=>?_)
 ·exact ⟨cells_kept hb1 _ _ hS0.1,cells_kept hb1 _ _ hS0.2.1,cells_kept hb1 _ _ hS0.2.2.1,cells_kept hb1 _ _ hS0.2.2.2.1,cells_kept hb1 _ _ hS0.2.2.2.2⟩
 clear hK
 refine tkr 4 9 (fun K hK=>?_)
 go_simp
 refine (kD _).mono ?_
 rintro e w2 ⟨rfl,hb2⟩
 go_wp2_with fail
 refine hK.out _ _ ?_ (fun hS2=>?_)
 ·exact ⟨cells_kept hb2 _ _ hS1.1,cells_kept hb2 _ _ hS1.2.1,cells_kept hb2 _ _ hS1.2.2.1,cells_kept hb2 _ _ hS1.2.2.2.1,cells_kept hb2 _ _ hS1.2.2.2.2⟩
 clear hK
 refine tkm 5 4 (.bool (depM (y0,y1,y2,y3) (x0,x1,x2,x3))) ?_
 refine wpAnyH_done (by kernel_rfl) ?_ _
 go_wp2
 go_ret
 exact ⟨rfl,bel_trans bd (bel_trans hb1 hb2)⟩

theorem stillAsleep_is {w:World} {g:Nat} {cs:Sl × Sl × Sl} {rows:List (List I3)} {m:V4} (h:MachAt w g cs rows m) (hp:progOk rows=true) (hs:shapeOk m=true) {k:Nat} (hk:k<3) (hd:doneM rows m k=false) (la:Option Addr) (n c:Nat) (Z:List Int) (hL:Ints .i64 w la n c Z) (hn:n≤4096) (hZ:SlpOk rows m Z) :
  Calls Tryz.prog 94 #[.pointer (some ⟨g,0,none⟩),.slice la n c,.int .i64 k] w fun e w'=>RowGot7 e w' w.heap.size (stillM rows m Z k)∧Below w.heap.size w w':=by
 obtain ⟨i1,hi,hz3,hz4,hz5⟩:=info_parts info_int
 have hll:=hL.1
 have eS:stillM rows m Z (k:Int)=Z.filter (fun z=>!(fun j:Int=>depM (eventM rows m j.toNat) (eventM rows m k)) z):=by
  unfold stillM
  rw [Int.toNat_natCast]
  congr 1
  funext j
  rw [depM_symm]
 rw [eS]
 clear eS
 have kE:=fun (W:World) (b:Below w.heap.size w W)=>event_is (h.below b) hp hs hk hd
 have kW:=fun (W:World) (b:Below w.heap.size w W) (bx ev:Nat) cB x0 x1 x2 x3 c0 c1 c2 c3 (q:Nat) (hq:q<3) hdq=>wakes_is (bx:=bx) (ev:=ev) (h.below b) hp hs cB x0 x1 x2 x3 c0 c1 c2 c3 (j:=q) hq hdq
 have hM:=h.1.lt
 clear h hd hp
 generalize eventM rows m k=y at *
 obtain ⟨y0,y1,y2,y3⟩:=y
 simp only at kE
 have pB:=Blk.new w 168 [.pointer (some ⟨g,0,none⟩)]
 have bw:Below w.heap.size w (w.alloc (.cells #[.pointer (some ⟨g,0,none⟩)] 168)):=by go_grown
 have hsz:(w.alloc (.cells #[.pointer (some ⟨g,0,none⟩)] 168)).heap.size=w.heap.size+1:=by simp
 replace hL:=hL.below bw
 go_enter Tryz.func94,Tryz.ntmps94
 go_wp2_with (at_make;refine wpList_make_full _ rfl _ _ 27 rfl w.heap.size 3 i1 (.int .i64 0) 1 Tryz.underlying27 hi hz3 hz4 _ _ _ _ n rfl rfl rfl rfl ?b2 ?b3 ?b4 ?_)
 case b2=>first | omega | (rw [hz5];omega)
 case b3=>unfold maxLen;omega
 case b4=>simp
 intro W1 hown hgrow
 generalize (w.alloc (.cells #[.pointer (some ⟨g,0,none⟩)] 168))=W0 at *
 obtain ⟨g1,hg1⟩:∃ g1,g1=w.heap.size+1:=⟨_,rfl⟩
 rw [← hg1] at hown hsz ⊢
 have hg1w:W0.heap.size≤g1:=by omega
 obtain ⟨bx,hbx⟩:∃ bx,bx=w.heap.size:=⟨_,rfl⟩
 have hbw:w.heap.size≤bx:=by omega
 rw [← hbx] at pB
 have b1:Below W0.heap.size W0 W1:=⟨hgrow.os,hgrow.tape,hgrow.output,hgrow.size,fun k hk=>hgrow.block k hk (by simp)⟩
 replace hL:=hL.below b1
 clear hgrow
 have hne:bx≠g1:=by omega
 have hbg:w.heap.size≤g1:=by omega
 try rw [← hbx]
 clear hbx hsz hg1
 have HO:Hid (∃ cur:List Value,cur.length=n∧W1.heap[g1]?=some (.cells cur.toArray 3 (0,0))∧∀ (W:World) (cs:List Value),cs.length=n→W.heap[g1]?=some (.cells cs.toArray 3 (0,0))→W.ownsRow w.heap.size 3 1 (.slice (some ⟨g1,0,none⟩) n n) n cs):=by
  rcases hown.2 with ⟨hv,_⟩ | ⟨g',cap',cur,hv,hB,hg,hn9,hc9,hsz9,ht9⟩
  ·cases hv
  ·cases hv
   refine ⟨cur.toList,by simpa using hsz9,by simpa using hg,fun W cs hcs hW=>⟨by omega,.inr ⟨g1,n,cs.toArray,rfl,hbg,hW,Nat.le_refl _,hc9,by simp [hcs],?_⟩⟩⟩
   simp [hcs]
   exact List.take_of_length_le (by omega)
 clear hown
 obtain ⟨cur,hcl,hcur,HOW⟩:=HO.out
 have HOW:Hid _:=HOW
 clear HO
 have hcs1:(Z.map (Value.int .i64)).length=Nat.min n n:=by rw [List.length_map,hll];exact (Nat.min_self n).symm
 have HP:Hid (0<(Z.map (Value.int .i64)).length→(some (⟨g1,0,none⟩:Addr))=some ⟨g1,0,none⟩∧∃ ad,la=some ad∧∀ j v,(Z.map (Value.int .i64))[j]?=some v→W1.cell? (ad.add j)=some v):=by
  intro hpos
  rw [List.length_map] at hpos
  obtain ⟨_,_,_,hcase⟩:=hL
  rcases hcase with e0 | ⟨b,off,rfl,hb,hc⟩
  ·omega
  ·refine ⟨rfl,_,rfl,fun j v hj=>?_⟩
   rw [List.getElem?_map] at hj
   obtain ⟨z,hz,rfl⟩:=Option.map_eq_some_iff.1 hj
   have hjl:=(List.getElem?_eq_some_iff.1 hz).1
   have h9:=hc j (by omega)
   rw [List.getD,hz,Option.getD_some] at h9
   by_cases e0:j=0
   ·subst e0;simpa [Addr.add] using h9
   ·simpa [Addr.add,e0] using h9
 go_wp2_with (refine wpList_copy_splice rfl _ _ 27 27 rfl 3 Tryz.underlying27 (by kernel_rfl) _ _ _ _ _ _ rfl rfl g1 0 cur 3 hcur (Z.map (Value.int .i64)) hcs1 HP.out (by rw [List.length_map];omega) (fun v hv=>by obtain ⟨z,_,rfl⟩:=List.mem_map.1 hv;rfl) W0.heap.size W0 b1 hg1w ?_)
 intro W2 HC b2
 have hC:=HC.out
 have hsp:splice cur 0 (Z.map (Value.int .i64))=Z.map (Value.int .i64):=by
  unfold splice
  rw [List.drop_of_length_le (by rw [List.length_map];omega)]
  simp
 rw [hsp] at hC
 have Q:=HOW.out W2 _ (by rw [List.length_map];exact hll) hC
 replace bw:=bel_trans bw b2
 replace pB:=pB.below b2
 clear HC hC hsp hcur hcl HOW cur b1 b2 hL hcs1
 have cB:W2.cell? ⟨bx,0,none⟩=some (.pointer (some ⟨g,0,none⟩)):=by simpa using pB.cell 0
 have kEx:=kE W2 bw
 clear kE
 go_wp2_with fail
 refine kEx.mono ?_
 rintro e W3 ⟨rfl,hb3⟩
 replace bw:=bel_trans bw hb3
 replace pB:=pB.below hb3
 have Q3:=owns_below Q hb3
 clear cB kEx Q hb3
 have b4:Below W3.heap.size W3 (W3.alloc (.cells #[.int .i64 0,.int .i64 0,.int .i64 0,.int .i64 0] 38)):=by go_grown
 have pE:=Blk.new W3 38 [.int .i64 0,.int .i64 0,.int .i64 0,.int .i64 0]
 have hb9:=pB.lt
 have hg9:=(Q3.lt g1 rfl).2
 obtain ⟨ev,hev⟩:∃ ev,ev=W3.heap.size:=⟨_,rfl⟩
 rw [← hev] at pE hb9 hg9
 have hwe:w.heap.size≤ev:=by rw [hev];exact bw.size
 have HV:Hid (ev=W3.heap.size):=hev
 clear hev
 go_wp2_with (rw [← HV.out];refine wpList_store_blk rfl 38 _ _ rfl ev [.int .i64 y0,.int .i64 y1,.int .i64 y2,.int .i64 y3] rfl rfl pE (by kernel_rfl) rfl rfl ?_)
 intro W4 pE4 g4
 have Q4:=(owns_below Q3 b4).kept g4 (.inr (by simp [Value.ownBlock];omega))
 have pB4:=(pB.below b4).kept g4 (by simp;omega)
 have bw4:=(bel_trans bw b4).grown g4 (Nat.le_trans bw.size b4.size) (fun x hx=>by cases hx;exact hwe)
 have pE5:=pE4.out
 clear pE g4 b4 Q3 pB bw pE4
 have eg:∀ args w,(callFunc 147 args).run Tryz.prog w=.ok (.enter 147 args) w:=enters_of Tryz.func147 (by kernel_rfl) rfl
 have hA:Asks7 147 #[.pointer (some ⟨bx,0,none⟩),.pointer (some ⟨ev,0,none⟩)] (fun j:Int=>depM (eventM rows m j.toNat) (y0,y1,y2,y3)) W4 g1 Z:=fun W gW j hj=>by
  obtain ⟨q,rfl,hq3,hqd⟩:=hZ j hj
  have bW:=bw4.grown gW bw4.size (fun x hx=>by cases hx;exact hbg)
  have pBW:=pB4.kept gW (by simp;omega)
  have pEW:=pE5.kept gW (by simp;omega)
  simp only [Int.toNat_natCast]
  exact kW W bW bx ev (by simpa using pBW.cell 0) y0 y1 y2 y3 (by simpa using pEW.cell 0) (by simpa using pEW.cell 1) (by simpa using pEW.cell 2) (by simpa using pEW.cell 3) q hq3 hqd
 obtain ⟨R,hR⟩:∃ R,R=Z.filter (fun z=>!depM (eventM rows m z.toNat) (y0,y1,y2,y3)):=⟨_,rfl⟩
 have kD:Calls Tryz.prog 148 #[.slice (some ⟨g1,0,none⟩) n n,.func (.func 147) #[] #[.pointer (some ⟨bx,0,none⟩),.pointer (some ⟨ev,0,none⟩)]] W4 fun e w'=>Del7 e W4 w' w.heap.size g1 n R:=by
  rw [hR]
  exact deleteFunc_is 147 #[.pointer (some ⟨bx,0,none⟩),.pointer (some ⟨ev,0,none⟩)] (fun j:Int=>depM (eventM rows m j.toNat) (y0,y1,y2,y3)) eg w.heap.size g1 n n Z W4 Q4 hll (by omega) hA
 have HR:Hid (R=Z.filter (fun z=>!depM (eventM rows m z.toNat) (y0,y1,y2,y3))):=hR
 clear hA eg kW Q4 pB4 pE5 hZ hR
 go_wp2_with fail
 refine kD.mono ?_
 rintro e W5 ⟨rfl,Q5,g5⟩
 have bw5:=bw4.grown g5 bw4.size (fun x hx=>by cases hx;exact hbg)
 clear kD g5 bw4
 go_wp2
 go_ret
 exact ⟨⟨.slice (some ⟨g1,0,none⟩) R.length n,rfl,by rw [← HR.out];exact Q5⟩,bw5⟩
end Go.Proofs.YtifoggpohlegmaaGreatDoor
