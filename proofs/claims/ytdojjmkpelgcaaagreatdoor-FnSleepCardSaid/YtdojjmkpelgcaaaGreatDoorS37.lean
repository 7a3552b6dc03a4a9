/-
  Joined: SrtB, RpG, EvC, CmtQ, FulQ, Rw3.
-/
import Derived.Deep.MidRow
import Derived.Test.YtdojjmkpelgcaaaGreatDoorS30
import Derived.Test.YtdojjmkpelgcaaaGreatDoorS32
import Derived.Test.YtdojjmkpelgcaaaGreatDoorS34
import Derived.Test.YtdojjmkpelgcaaaGreatDoorS35
import Derived.Test.YtdojjmkpelgcaaaGreatDoorS36

namespace Go.Proofs.YtdojjmkpelgcaaaGreatDoor
set_option maxRecDepth 100000
open Go.RowKit Go.Sort Go.Shelf
set_option linter.unusedVariables false
set_option linter.unusedSimpArgs false

theorem flatK_flat (xs:List I3):(flatK I3.cells 3 xs.toArray).toList=flat xs:=by
 apply List.ext_getElem?
 intro t
 by_cases h:t<xs.length*3
 ·have hq:t / 3<xs.length:=by omega
  have hl:t<(flatK I3.cells 3 xs.toArray).toList.length:=by simp;omega
  have e1:(flatK I3.cells 3 xs.toArray).toList[t]?=some ((I3.cells xs.toArray[t / 3]!)[t % 3]!):=by
   rw [List.getElem?_eq_getElem hl,Array.getElem_toList,← getElem!_pos (flatK I3.cells 3 xs.toArray) t (by simpa using h),get_flatK _ _ _ _ (by simpa using h)]
  rw [e1]
  obtain ⟨f0,f1,f2⟩:=flat_at hq
  have ex:xs.toArray[t / 3]! = xs.getD (t / 3) (0,0,0):=by
   rw [getElem!_pos _ _ (by simpa using hq)]
   simp [List.getD,List.getElem?_eq_getElem hq]
  rw [ex]
  generalize xs.getD (t / 3) (0,0,0)=x at *
  have hr:t % 3=0∨t % 3=1∨t % 3=2:=by omega
  rcases hr with hr | hr | hr
  ·have e:t / 3*3=t:=by omega
   rw [e] at f0
   rw [f0,hr]
   rfl
  ·have e:t / 3*3+1=t:=by omega
   rw [e] at f1
   rw [f1,hr]
   rfl
  ·have e:t / 3*3+2=t:=by omega
   rw [e] at f2
   rw [f2,hr]
   rfl
 ·rw [List.getElem?_eq_none (by simp;omega),List.getElem?_eq_none (by rw [flat_length];omega)]
theorem holds_own {w:World} {B g n cap:Nat} {xs:List I3} (h:w.ownsRow B 64 3 (.slice (some ⟨g,0,none⟩) n cap) n (flat xs)) (hl:xs.length=n):HoldsK I3.cells 3 w g 0 xs.toArray:=by
 intro t ht
 rw [size_flatK] at ht
 have ht':t<n*3:=by simpa [hl] using ht
 refine ⟨?_,by rw [Nat.zero_add];exact h.frozenAt t⟩
 rw [Nat.zero_add,h.cellAt t ht',← flatK_flat,getElem!_pos _ _ (by rw [size_flatK];exact ht)]
 simp [ht]
theorem sort_owns {w:World} {B g n cap m:Nat} {xs ys:List I3} {os:Array Obj} (h:w.ownsRow B 64 3 (.slice (some ⟨g,0,none⟩) n cap) n (flat xs)) (hx:xs.length=n) (hy:ys.length=n) :
  (sortWorldK I3.cells 3 w g 0 m ys.toArray os).ownsRow B 64 3 (.slice (some ⟨g,0,none⟩) n cap) n (flat ys)∧w.grownBy (sortWorldK I3.cells 3 w g 0 m ys.toArray os) (some g):=by
 rcases h.2 with ⟨hv,_⟩ | ⟨g',cap',cur,hv,hB,hg,hn,hc,hsz,ht⟩
 ·cases hv
 cases hv
 have hgl:g<w.heap.size:=(Array.getElem?_eq_some_iff.1 hg).1
 refine ⟨⟨by rw [flat_length];omega,.inr ⟨g,cap,putCells id 0 (flatK I3.cells 3 ys.toArray) cur,rfl,hB,?_,hn,hc,?_,?_⟩⟩,⟨rfl,rfl,rfl,?_,?_⟩⟩
 ·show (((Sort.ahead w m).heap.modify g _)++os)[g]?=_
  rw [Array.getElem?_append_left (by simpa [Sort.ahead] using hgl),Array.getElem?_modify]
  simp [Sort.ahead,hg,onCells]
 ·simpa [putCells] using hsz
 ·have hfk:=flatK_flat ys
  have hfs:(flatK I3.cells 3 ys.toArray).size=n*3:=by simp [hy]
  apply List.ext_getElem?
  intro t
  by_cases h3:t<n*3
  ·rw [List.getElem?_take_of_lt h3,← hfk]
   have hcz:t<cur.size:=by rw [hsz];have:=Nat.mul_le_mul_right 3 hn;omega
   simp only [putCells,Array.getElem?_toList,Array.getElem?_mapIdx,Array.getElem?_eq_getElem hcz,Option.map_some]
   rw [if_pos ⟨Nat.zero_le _,by omega⟩,getElem!_pos _ _ (by omega),Array.getElem?_eq_getElem (by omega)]
   simp
  ·rw [List.getElem?_eq_none (by rw [List.length_take];omega),List.getElem?_eq_none (by rw [flat_length];omega)]
 ·show w.heap.size≤(((Sort.ahead w m).heap.modify g _)++os).size
  simp [Sort.ahead]
 ·intro k hk hne
  show (((Sort.ahead w m).heap.modify g _)++os)[k]?=_
  rw [Array.getElem?_append_left (by simpa [Sort.ahead] using hk),Array.getElem?_modify]
  have:g≠k:=fun e=>hne (by rw [e])
  simp [Sort.ahead,this]

def srtB (l:List I3):List I3:=l.mergeSort fun x y=>!(ltOf cmpB) y x
theorem srtB_len (l:List I3):(srtB l).length=l.length:=by unfold srtB;simp
theorem srtB_mem {l:List I3} {x:I3}:x ∈ srtB l↔x ∈ l:=by unfold srtB;exact (List.mergeSort_perm l _).mem_iff
theorem srtB_pair (l:List I3):(srtB l).Pairwise fun a b=>ltB b a=false:=by
 have h:=List.pairwise_mergeSort (le:=fun x y=>!(ltOf cmpB) y x) (fun a b c h1 h2=>by
  simp only [Bool.not_eq_true',cmpB_lt] at *
  cases k:ltB c a
  ·rfl
  ·cases k2:ltB c b
   ·cases k3:ltB b c
    ·have:=ltB_total k2 k3
     subst this
     rw [h1] at k
     cases k
    ·have:=ltB_trans k3 k
     rw [this] at h1
     cases h1
   ·rw [k2] at h2
    cases h2) (fun a b=>by
  simp only [cmpB_lt,Bool.or_eq_true,Bool.not_eq_true']
  cases k:ltB b a
  ·exact .inl rfl
  ·exact .inr (ltB_asymm k)) l
 exact h.imp fun {a b} h=>by simpa [cmpB_lt] using h
theorem srtB_once (xs ys:List I3):onceB (srtB (xs++ys))=mergeB xs ys:=once_merge (srtB_pair _) fun x=>by rw [srtB_mem,List.mem_append]
theorem once_short:∀ {l:List I3},l.length<2→onceB l=l
 | [],_=>rfl
 | [x],_=>rfl
 | x::y::l,h=>by simp at h;omega

theorem isAggB:∀ w,(isAgg 64).run Tryz.prog w=.ok true w:=Tryz.isAgg64
theorem sizeOfB:∀ w,(Go.sizeOf 64).run Tryz.prog w=.ok 3 w:=Tryz.sizeOf64
theorem compare_lays (blk off size:Nat) (w:World):CmpLays Tryz.prog 130 #[] I3.cells 3 cmpB blk off size w:=fun _ _ _ _ x y=>compareBugs_is x y _
theorem sortFunc_is (B g n cap:Nat) (xs:List I3) (w:World) (h:w.ownsRow B 64 3 (.slice (some ⟨g,0,none⟩) n cap) n (flat xs)) (hl:xs.length=n) (hn:n≤1000000) :
  Calls Tryz.prog 129 #[.slice (some ⟨g,0,none⟩) n cap,.func (.func 130) #[] #[]] w fun e w'=>e=.returned (.tuple #[])∧w'.ownsRow B 64 3 (.slice (some ⟨g,0,none⟩) n cap) n (flat (srtB xs))∧w.grownBy w' (some g):=by
 have eg:∀ args w,(callFunc 130 args).run Tryz.prog w=.ok (.enter 130 args) w:=enters_of Tryz.func130 (by kernel_rfl) rfl
 have k:=AnyQ.slices_SortFunc_total sortBug 3 isAggB sizeOfB I3.cells (fun _=>rfl) (fun x v hv=>by unfold I3.cells at hv;simp at hv;rcases hv with rfl | rfl | rfl<;>rfl) cmpB cmpB_swo 130 #[] g 0 cap xs.toArray w eg (compare_lays g 0 _ w) (holds_own h hl) ((h.lt g rfl).2) (by simp;omega) cmpB_total
 have e:xs.toArray.size=n:=by simpa using hl
 rw [e] at k
 refine Calls.mono k ?_
 rintro e' w' ⟨rfl,m,os,rfl⟩
 exact ⟨rfl,sort_owns (ys:=srtB xs) h hl (by rw [srtB_len];exact hl)⟩
theorem sortFunc_none (a:Option Addr) (cap:Nat) (w:World) :
  Calls Tryz.prog 129 #[.slice a 0 cap,.func (.func 130) #[] #[]] w fun e w'=>e=.returned (.tuple #[])∧w=w':=by
 have k:=AnyF.slices_SortFunc_none sortBug a cap (.func (.func 130) #[] #[]) w
 refine Calls.mono k ?_
 rintro e' w' ⟨rfl,rfl⟩
 exact ⟨rfl,rfl⟩

def GoodS (a:Option Addr) (c:Nat):Prop:=(a=none→c=0)∧∀ x,a=some x→x.spot=none
set_option maxHeartbeats 4000000 in
theorem mergedBugs_is (a0:Option Addr) (n0 c0:Nat) (xs:List I3) (a1:Option Addr) (n1 c1:Nat) (ys:List I3) (w:World) (h0:Instrs w a0 n0 c0 xs) (h1:Instrs w a1 n1 c1 ys) (m0:n0≤400000) (m1:n1≤400000) (z0:GoodS a0 c0) (z1:GoodS a1 c1) :
  Calls Tryz.prog 81 #[.slice a0 n0 c0,.slice a1 n1 c1] w fun e w'=>BugsOne e w' w.heap.size (mergeB xs ys)∧Below w.heap.size w w':=by
 have l0:=h0.1
 have l1:=h1.1
 have bw:Below w.heap.size w (w.alloc (.cells #[.slice a0 n0 c0,.slice a1 n1 c1] 34)):=by go_grown
 have d0:(w.alloc (.cells #[.slice a0 n0 c0,.slice a1 n1 c1] 34)).cell? ⟨w.heap.size,0,none⟩=some (.slice a0 n0 c0):=by simp [go_sem]
 have d1:(w.alloc (.cells #[.slice a0 n0 c0,.slice a1 n1 c1] 34)).cell? ⟨w.heap.size,1,none⟩=some (.slice a1 n1 c1):=by simp [go_sem]
 go_enter Tryz.func81,Tryz.ntmps81
 go_wp2_with fail
 generalize w.alloc (.cells #[.slice a0 n0 c0,.slice a1 n1 c1] 34)=W at *
 refine (concat_is w.heap.size a0 n0 c0 xs a1 n1 c1 ys W (h0.below bw) (h1.below bw) m0 m1 z0.1 z1.1 z0.2 z1.2 d0 d1).mono ?_
 rintro e w1 ⟨⟨v,rfl,_,hq⟩,hb1⟩
 have hB:w.heap.size≤W.heap.size:=bw.size
 replace bw:=bel_trans bw hb1
 have hln:(xs++ys).length=n0+n1:=by rw [List.length_append];omega
 have HM:Hid (onceB (srtB (xs++ys))=mergeB xs ys):=srtB_once xs ys
 clear d0 d1 h0 h1 z0 z1 hb1
 generalize xs++ys=zs at *
 by_cases hz:n0+n1=0
 ·obtain ⟨a,c,rfl⟩:∃ a c,v=.slice a 0 c:=by
   rcases hq.2 with ⟨rfl,h9⟩ | ⟨g,cap,cur,hv,_⟩
   ·exact ⟨_,_,rfl⟩
   ·exact ⟨_,_,by rw [hv,hz]⟩
  have hzs:zs=[]:=List.length_eq_zero_iff.1 (by omega)
  have HR:Hid (∀ e,e=.returned (.slice a 0 c)→BugsOne e w1 w.heap.size (mergeB xs ys)):=fun e he=>by
   rw [← HM.out,hzs]
   refine ⟨_,he,?_⟩
   have e9:onceB (srtB [])=[]:=by simp [srtB,onceB]
   rw [e9]
   rw [hz,hzs] at hq
   exact own_lowerB hq hB
  clear hq HM
  go_wp2_with fail
  refine (sortFunc_none a c _).mono ?_
  rintro e w2 ⟨rfl,rfl⟩
  go_wp2_with fail
  refine (compact_few a 0 c _ (by omega)).mono ?_
  rintro e w2 ⟨rfl,rfl⟩
  go_wp2
  go_ret
  exact ⟨HR.out _ rfl,bw⟩
 ·obtain ⟨g,c,rfl⟩:=own_someB hq (by omega)
  have kS:=sortFunc_is _ g (n0+n1) c zs w1 hq hln (by omega)
  have hsl:(srtB zs).length=n0+n1:=by rw [srtB_len];exact hln
  have hnb:n0+n1≤1000000:=by omega
  generalize n0+n1=n at *
  go_wp2_with fail
  refine kS.mono ?_
  rintro e w2 ⟨rfl,hq2,g2⟩
  have hg:=(hq.lt g rfl).1
  replace bw:=bw.grown g2 bw.size (fun k hk=>by cases hk;omega)
  clear kS hq
  by_cases hn2:n<2
  ·have HR:Hid (∀ e,e=.returned (.slice (some ⟨g,0,none⟩) n c)→BugsOne e w2 w.heap.size (mergeB xs ys)):=fun e he=>by
    rw [← HM.out,once_short (by omega)]
    exact ⟨_,he,by rw [hsl];exact own_lowerB hq2 hB⟩
   clear hq2 HM g2
   go_wp2_with fail
   refine (compact_few _ n c _ (by omega)).mono ?_
   rintro e w3 ⟨rfl,rfl⟩
   go_wp2
   go_ret
   exact ⟨HR.out _ rfl,bw⟩
  ·have kC:=compact_is _ g n c (srtB zs) w2 hq2 hsl (by omega) (by omega)
   clear hq2 g2
   go_wp2_with fail
   refine kC.mono ?_
   rintro e w3 ⟨m,rfl,hq3,g3⟩
   clear kC
   have bw3:=bw.grown g3 bw.size (fun k hk=>by cases hk;omega)
   have HR:Hid (∀ e,e=.returned (.slice (some ⟨g,0,none⟩) m c)→BugsOne e w3 w.heap.size (mergeB xs ys)):=fun e he=>by
    rw [← HM.out]
    exact ⟨_,he,own_lowerB hq3 hB⟩
   clear hq3 g3 HM bw
   go_wp2
   go_ret
   exact ⟨HR.out _ rfl,bw3⟩

open Go.RowKit

theorem bugs_sliceR {w:World} {B:Nat} {v:Value} {xs:List I3} (h:w.ownsRow B 64 3 v xs.length (flat xs)) (hf:∀ x ∈ xs,I3.fits x):∃ a cap,v=.slice a xs.length cap∧Instrs w a xs.length cap xs∧GoodS a cap:=by
 rcases h.2 with ⟨rfl,h0⟩ | ⟨g,cap,cur,hv,_⟩
 ·exact ⟨none,0,by rw [h0],⟨rfl,by omega,by unfold maxLen;omega,hf,.inl h0⟩,fun _=>rfl,fun x hx=>by cases hx⟩
 ·subst hv
  exact ⟨_,_,rfl,Instrs.of_owns h rfl hf rfl,(fun h=>by cases h),fun x hx=>by cases hx;rfl⟩


def evsM (rows:List (List I3)):V4→List Int→List I4
 | _,[]=>[]
 | m,k::ks=>eventM rows m k.toNat::evsM rows (goM rows m k).1 ks


theorem goM_natC (rows:List (List I3)) (m:V4) (k:Nat):goM rows m (k:Int)=stepM m (insM rows m k) k:=by unfold goM;rw [Int.toNat_natCast]
theorem done_other {rows:List (List I3)} {m:V4} {x:I3} {k l:Nat} (h:k≠l):doneM rows (stepM m x k).1 l=doneM rows m l:=by unfold doneM;rw [stepM_other m x (Ne.symm h)]
theorem ins_other {rows:List (List I3)} {m:V4} {x:I3} {k l:Nat} (h:k≠l):insM rows (stepM m x k).1 l=insM rows m l:=by unfold insM;rw [stepM_other m x (Ne.symm h)]
theorem event_other {rows:List (List I3)} {m:V4} {x:I3} {k l:Nat} (h:k≠l):eventM rows (stepM m x k).1 l=eventM rows m l:=by unfold eventM;rw [ins_other h,stepM_other m x (Ne.symm h)]
theorem lock_other {m:V4} {x y:I3} {k:Nat} (hx:okI x=true) (hy:okI y=true) (hc:¬ clashI x y):atLock (stepM m x k).1 y=atLock m y:=by
 unfold atLock
 by_cases h5:y.1=5
 ·rw [step_parts]
  simp only
  rw [lk_kept hy hx (clash_symm hc) (.inl h5)]
 ·simp [h5]
theorem dep_clash {rows:List (List I3)} {m:V4} {k l:Nat} (hd:depM (eventM rows m k) (eventM rows m l)=false):k≠l∧¬ clashI (insM rows m k) (insM rows m l):=by
 unfold depM eventM at hd
 simp only [Bool.or_eq_false_iff,decide_eq_false_iff_not] at hd
 obtain ⟨h1,h2⟩:=hd
 refine ⟨fun e=>h1 (by rw [e]),?_⟩
 rintro ⟨a,b,c⟩
 have e1:decide (0≤objM (insM rows m k))=true:=by simp [a]
 have e2:decide (objM (insM rows m k)=objM (insM rows m l))=true:=by simp [b]
 have e3:(decide ((insM rows m k).1=1) && decide ((insM rows m l).1=1))=false:=by
  cases e:(decide ((insM rows m k).1=1) && decide ((insM rows m l).1=1))
  ·rfl
  ·simp only [Bool.and_eq_true,decide_eq_true_eq] at e
   exact absurd e c
 rw [e1,e2,e3] at h2
 cases h2
theorem halt_go {rows:List (List I3)} {m:V4} {k:Nat} (hk:k<3) (hc:canM rows m k=true):haltM rows m (k:Int)=0:=by
 have hd:=(can_parts hc).1
 unfold haltM
 rw [if_pos (by omega),Int.toNat_natCast]
 simp [hd,hc]
theorem go_commute {rows:List (List I3)} {m:V4} {k l:Nat} (hp:progOk rows=true) (hs:shapeOk m=true) (h1:haltM rows m (k:Int)=0) (h2:haltM rows (goM rows m (k:Int)).1 (l:Int)=0) (hd:depM (eventM rows m k) (eventM rows (goM rows m (k:Int)).1 l)=false) :
  haltM rows m (l:Int)=0∧haltM rows (goM rows m (l:Int)).1 (k:Int)=0∧(goM rows (goM rows m (l:Int)).1 (k:Int)).1=(goM rows (goM rows m (k:Int)).1 (l:Int)).1∧eventM rows m l=eventM rows (goM rows m (k:Int)).1 l∧eventM rows (goM rows m (l:Int)).1 k=eventM rows m k:=by
 obtain ⟨a0,a1,a2,a3⟩:=halt_can h1
 obtain ⟨b0,b1,b2,b3⟩:=halt_can h2
 rw [Int.toNat_natCast] at a2 a3 b2 b3
 have hk:k<3:=by omega
 have hl:l<3:=by omega
 simp only [goM_natC] at *
 have hkl:k≠l:=fun e=>by
  subst e
  unfold depM eventM at hd
  simp at hd
 rw [event_other hkl] at hd
 obtain ⟨_,hc⟩:=dep_clash hd
 rw [done_other hkl] at b2
 obtain ⟨_,_,_,_,ox⟩:=at_ins hp hs hk a2
 obtain ⟨_,_,_,_,oy⟩:=at_ins hp hs hl b2
 have c1:canM rows m l=true:=by
  unfold canM at b3 ⊢
  rw [done_other hkl,ins_other hkl,lock_other ox oy hc] at b3
  exact b3
 have c2:canM rows (stepM m (insM rows m l) l).1 k=true:=by
  unfold canM at a3 ⊢
  rw [done_other (Ne.symm hkl),ins_other (Ne.symm hkl),lock_other oy ox (clash_symm hc)]
  exact a3
 refine ⟨halt_go hl c1,halt_go hk c2,?_,(event_other hkl).symm,event_other (Ne.symm hkl)⟩
 rw [ins_other hkl,ins_other (Ne.symm hkl)]
 exact (step_commute hkl ox oy hc).symm
theorem runI_fs (rows:List (List I3)):∀ (ks:List Int) (m:V4) (fs fs':List I3),(runI rows m fs ks).1=(runI rows m fs' ks).1∧(runI rows m fs ks).2.2=(runI rows m fs' ks).2.2
 | [],m,fs,fs'=>⟨rfl,rfl⟩
 | k::ks,m,fs,fs'=>by
  have e:∀ f,runI rows m f (k::ks)=if haltM rows m k=0 then runI rows (goM rows m k).1 (f++ownM rows m k) ks else (m,f,haltM rows m k):=fun f=>rfl
  rw [e,e]
  split
  ·exact runI_fs rows ks _ _ _
  ·exact ⟨rfl,rfl⟩
theorem runI_cons {rows:List (List I3)} {m:V4} {fs:List I3} {k:Int} {ks:List Int} (h:(runI rows m fs (k::ks)).2.2=0):haltM rows m k=0∧runI rows m fs (k::ks)=runI rows (goM rows m k).1 (fs++ownM rows m k) ks:=by
 have e:runI rows m fs (k::ks)=if haltM rows m k=0 then runI rows (goM rows m k).1 (fs++ownM rows m k) ks else (m,fs,haltM rows m k):=rfl
 by_cases hz:haltM rows m k=0
 ·rw [if_pos hz] at e
  exact ⟨hz,e⟩
 ·rw [e,if_neg hz] at h
  exact absurd h hz
theorem runI_yes {rows:List (List I3)} {m:V4} {fs:List I3} {k:Int} {ks:List Int} (hz:haltM rows m k=0):runI rows m fs (k::ks)=runI rows (goM rows m k).1 (fs++ownM rows m k) ks:=by
 show (if haltM rows m k=0 then _ else _)=_
 rw [if_pos hz]
theorem run_swap {rows:List (List I3)} {m:V4} {fs:List I3} {k l:Int} {ks:List Int} (hp:progOk rows=true) (hs:shapeOk m=true) (h:(runI rows m fs (k::l::ks)).2.2=0) (hd:depM (eventM rows m k.toNat) (eventM rows (goM rows m k).1 l.toNat)=false) :
  (runI rows m fs (l::k::ks)).1=(runI rows m fs (k::l::ks)).1∧(runI rows m fs (l::k::ks)).2.2=0∧evsM rows m (l::k::ks)=eventM rows (goM rows m k).1 l.toNat::eventM rows m k.toNat::evsM rows (goM rows (goM rows m k).1 l).1 ks:=by
 obtain ⟨h1,e1⟩:=runI_cons h
 rw [e1] at h ⊢
 obtain ⟨h2,e2⟩:=runI_cons h
 rw [e2] at h ⊢
 obtain ⟨a0,a1,_,_⟩:=halt_can h1
 obtain ⟨b0,b1,_,_⟩:=halt_can h2
 obtain ⟨k',rfl⟩:∃ k':Nat,k=k':=⟨k.toNat,by omega⟩
 obtain ⟨l',rfl⟩:∃ l':Nat,l=l':=⟨l.toNat,by omega⟩
 simp only [Int.toNat_natCast] at hd ⊢
 obtain ⟨g1,g2,g3,g4,g5⟩:=go_commute hp hs h1 h2 hd
 rw [runI_yes g1,runI_yes g2,g3]
 obtain ⟨f1,f2⟩:=runI_fs rows ks (goM rows (goM rows m (k':Int)).1 (l':Int)).1 (fs++ownM rows m (l':Int)++ownM rows (goM rows m (l':Int)).1 (k':Int)) (fs++ownM rows m (k':Int)++ownM rows (goM rows m (k':Int)).1 (l':Int))
 refine ⟨f1,f2.trans h,?_⟩
 show eventM rows m (l':Int).toNat::eventM rows (goM rows m (l':Int)).1 (k':Int).toNat::evsM rows (goM rows (goM rows m (l':Int)).1 (k':Int)).1 ks=_
 rw [Int.toNat_natCast,Int.toNat_natCast,g3,g4,g5]
theorem run_app {rows:List (List I3)}:∀ (pre ks:List Int) (m:V4) (fs:List I3),(runI rows m fs pre).2.2=0→runI rows m fs (pre++ks)=runI rows (runI rows m fs pre).1 (runI rows m fs pre).2.1 ks∧evsM rows m (pre++ks)=evsM rows m pre++evsM rows (runI rows m fs pre).1 ks
 | [],ks,m,fs,_=>⟨rfl,rfl⟩
 | k::pre,ks,m,fs,h=>by
  obtain ⟨h1,e1⟩:=runI_cons h
  rw [e1] at h ⊢
  obtain ⟨i1,i2⟩:=run_app pre ks _ _ h
  rw [List.cons_append,runI_yes h1,i1]
  refine ⟨rfl,?_⟩
  show eventM rows m k.toNat::evsM rows (goM rows m k).1 (pre++ks)=eventM rows m k.toNat::(evsM rows (goM rows m k).1 pre++_)
  rw [i2]


def nxM (rows:List (List I3)) (m:V4):List (Int × V4):=(enabM rows m 3).map fun k=>(k,(goM rows m k).1)
theorem nxM_mem {rows:List (List I3)} {m:V4} {t:Int × V4} (h:t ∈ nxM rows m):haltM rows m t.1=0∧t.2=(goM rows m t.1).1:=by
 unfold nxM at h
 obtain ⟨k,hk,rfl⟩:=List.mem_map.1 h
 obtain ⟨i,hi,hie⟩:=List.getElem_of_mem hk
 obtain ⟨k',e,h3,hc⟩:=enab_at hi
 have e2:(enabM rows m 3).getD i 0=k:=by simp [List.getD,hi,hie]
 rw [e2] at e
 subst e
 exact ⟨halt_go h3 hc,rfl⟩
theorem nxM_of {rows:List (List I3)} {m:V4} {k:Int} (h:haltM rows m k=0):(k,(goM rows m k).1) ∈ nxM rows m:=by
 obtain ⟨h0,h2,hd,hc⟩:=halt_can h
 obtain ⟨q,rfl⟩:∃ q:Nat,k=q:=⟨k.toNat,by omega⟩
 rw [Int.toNat_natCast] at hc
 exact List.mem_map.2 ⟨(q:Int),(mem_enab 3).2 ⟨by omega,hc⟩,rfl⟩
theorem nxM_shape {rows:List (List I3)} {m:V4} (hp:progOk rows=true) (hs:shapeOk m=true) {t:Int × V4} (h:t ∈ nxM rows m):shapeOk t.2=true:=by
 obtain ⟨h1,h2⟩:=nxM_mem h
 rw [h2]
 exact goM_shape hp hs h1
def fullS (rows:List (List I3)):List (Rec6 V4):=srch (nxM rows) 2000 0 [(zeroV,0,0)]
def Shaped (S:List (Rec6 V4)):Prop:=∀ r ∈ S,shapeOk r.1=true
theorem putS_shaped {i:Nat} {S:List (Rec6 V4)} {t:Int × V4} (h:Shaped S) (ht:shapeOk t.2=true):Shaped (putS i S t):=by
 unfold putS
 split
 ·exact h
 ·intro r hr
  rcases List.mem_append.1 hr with hr | hr
  ·exact h r hr
  ·simp at hr
   subst hr
   exact ht
theorem onS_shaped {i:Nat}:∀ (ts:List (Int × V4)) (S:List (Rec6 V4)),Shaped S→(∀ t ∈ ts,shapeOk t.2=true)→Shaped (onS i S ts)
 | [],S,h,_=>h
 | t::ts,S,h,ht=>onS_shaped ts _ (putS_shaped h (ht t (by simp))) (fun u hu=>ht u (by simp [hu]))
theorem srch_shaped {rows:List (List I3)} (hp:progOk rows=true):∀ (f i:Nat) (S:List (Rec6 V4)),Shaped S→Shaped (srch (nxM rows) f i S)
 | 0,_,S,h=>h
 | f+1,i,S,h=>by
  unfold srch
  split
  ·exact h
  ·rename_i r hr
   exact srch_shaped hp f (i+1) _ (onS_shaped _ S h (fun t ht=>nxM_shape hp (h r (List.mem_of_getElem? hr)) ht))
theorem fullS_shaped {rows:List (List I3)} (hp:progOk rows=true):Shaped (fullS rows):=srch_shaped hp _ _ _ (fun r hr=>by simp at hr;subst hr;exact zero_shape)
theorem fullS_head (rows:List (List I3)):(fullS rows)[0]?=some (zeroV,0,0):=by
 obtain ⟨r,hr⟩:=srch_pre (nxM rows) 2000 0 [(zeroV,0,0)]
 unfold fullS
 rw [← hr]
 rfl
theorem fullS_came (rows:List (List I3)):Came (nxM rows) (fullS rows):=srch_came _ _ _ (fun j r hj hr=>by
 match j,hj with
 | j+1,_=>simp at hr)
theorem fullS_nodup (rows:List (List I3)):((fullS rows).map (·.1)).Nodup:=srch_nodup _ _ _ (by simp)
theorem fullS_closed {rows:List (List I3)} (h:(fullS rows).length≤2000):∀ r ∈ fullS rows,∀ t ∈ nxM rows r.1,t.2 ∈ (fullS rows).map (·.1):=
 srch_closed 2000 0 _ (fun j r hj=>by omega) (by omega) (by unfold fullS at h;omega)
def pathS (S:List (Rec6 V4)):Nat→Nat→List Int
 | 0,_=>[]
 | f+1,j=>if j=0 then [] else match S[j]? with
  | none=>[]
  | some r=>pathS S f r.2.1++[r.2.2]
theorem path_run {rows:List (List I3)} {S:List (Rec6 V4)} (hC:Came (nxM rows) S) (h0:S[0]?=some (zeroV,0,0)):∀ (f j:Nat) (r:Rec6 V4),j≤f→S[j]?=some r →
  (runI rows zeroV [] (pathS S f j)).1=r.1∧(runI rows zeroV [] (pathS S f j)).2.2=0∧(pathS S f j).length≤j
 | 0,j,r,hj,hr=>by
  obtain rfl:j=0:=by omega
  rw [h0] at hr
  cases hr
  exact ⟨rfl,rfl,Nat.le_refl _⟩
 | f+1,j,r,hj,hr=>by
  by_cases e:j=0
  ·subst e
   rw [h0] at hr
   cases hr
   exact ⟨rfl,rfl,Nat.le_refl _⟩
  ·obtain ⟨h1,q,h2,h3⟩:=hC j r (by omega) hr
   have hp9:pathS S (f+1) j=pathS S f r.2.1++[r.2.2]:=by
    show (if j=0 then [] else match S[j]? with | none=>[] | some r=>pathS S f r.2.1++[r.2.2])=_
    rw [if_neg e,hr]
   obtain ⟨i1,i2,i3⟩:=path_run hC h0 f r.2.1 q (by omega) h2
   obtain ⟨n1,n2⟩:=nxM_mem h3
   simp only at n1 n2
   have ha:=(run_app (rows:=rows) (pathS S f r.2.1) [r.2.2] zeroV [] i2).1
   rw [i1] at ha
   have hg:runI rows q.1 (runI rows zeroV [] (pathS S f r.2.1)).2.1 [r.2.2]=((goM rows q.1 r.2.2).1,(runI rows zeroV [] (pathS S f r.2.1)).2.1++ownM rows q.1 r.2.2,0):=by
    show (if haltM rows q.1 r.2.2=0 then _ else _)=_
    rw [if_pos n1]
    rfl
   rw [hp9,ha,hg]
   refine ⟨n2.symm,rfl,?_⟩
   rw [List.length_append]
   simp
   omega


def Ap3 (v u:Value):Prop:=∀ g,v.ownBlock=some g→u.ownBlock≠some g
theorem Ap3.symm {v u:Value} (h:Ap3 v u):Ap3 u v:=fun g hg h2=>h g h2 hg
theorem Ap3.or {v u:Value} (h:Ap3 v u):v.ownBlock=none∨v.ownBlock≠u.ownBlock:=by
 cases e:v.ownBlock with
 | none=>exact .inl rfl
 | some g=>exact .inr fun e2=>h g e e2.symm
theorem Ap3.types {w:World} {B B' e e' s s' n n':Nat} {v v':Value} {xs xs':List Value} (h:w.ownsRow B e s v n xs) (h':w.ownsRow B' e' s' v' n' xs') (he:e≠e'):Ap3 v v':=fun g hg h2=>by
 rcases owns_ne h h' he with h3 | h3
 ·rw [h3] at hg;cases hg
 ·exact h3 (hg.trans h2.symm)
theorem own_lt3 {w:World} {B e s n:Nat} {v:Value} {xs:List Value} (h:w.ownsRow B e s v n xs) {g:Nat} (hg:v.ownBlock=some g):B≤g∧g<w.heap.size:=by
 rcases h.2 with ⟨rfl,_⟩ | ⟨g',cap,cur,rfl,hb,hgg,_⟩
 ·simp [Value.ownBlock] at hg
 ·simp [Value.ownBlock] at hg
  subst hg
  refine ⟨hb,?_⟩
  rcases Nat.lt_or_ge g' w.heap.size with h1 | h1
  ·exact h1
  ·rw [Array.getElem?_eq_none h1] at hgg;cases hgg
theorem Ap3.fresh {w w':World} {B e e' s s' n n' B':Nat} {v v':Value} {xs xs':List Value} (h:w.ownsRow B e s v n xs) (h':w'.ownsRow B' e' s' v' n' xs') (hB:w.heap.size≤B'):Ap3 v v':=fun g hg h2=>by
 have h1:=(own_lt3 h hg).2
 have h3:=(own_lt3 h' h2).1
 omega
theorem Ap3.moved {w:World} {B e s n:Nat} {v u u':Value} {xs:List Value} (h:w.ownsRow B e s v n xs) (ha:Ap3 v u) (hu:u'.ownBlock=u.ownBlock∨u'.ownBlock=some w.heap.size):Ap3 v u':=fun g hg h2=>by
 rcases hu with hu | hu
 ·exact ha g hg (hu▸h2)
 ·have h1:=(own_lt3 h hg).2
  rw [hu] at h2
  cases h2
  omega

structure Tri (w:World) (B:Nat) (v1 v2 v3:Value) (ts:List ByteArray) (fs bs:List Int):Prop where
 ks:w.ownsRow B 9 1 v1 ts.length (ts.map Value.string)
 fr:w.ownsRow B 3 1 v2 fs.length (fs.map (Value.int .i64))
 bw:w.ownsRow B 3 1 v3 bs.length (bs.map (Value.int .i64))
 ap:Ap3 v2 v3
theorem Tri.below {w w':World} {B:Nat} {v1 v2 v3:Value} {ts:List ByteArray} {fs bs:List Int} (h:Tri w B v1 v2 v3 ts fs bs) (hb:Below w.heap.size w w'):Tri w' B v1 v2 v3 ts fs bs:=
 ⟨owns_below h.ks hb,owns_below h.fr hb,owns_below h.bw hb,h.ap⟩
theorem Tri.a12 {w:World} {B:Nat} {v1 v2 v3:Value} {ts:List ByteArray} {fs bs:List Int} (h:Tri w B v1 v2 v3 ts fs bs):Ap3 v1 v2:=Ap3.types h.ks h.fr (by decide)
theorem Tri.a13 {w:World} {B:Nat} {v1 v2 v3:Value} {ts:List ByteArray} {fs bs:List Int} (h:Tri w B v1 v2 v3 ts fs bs):Ap3 v1 v3:=Ap3.types h.ks h.bw (by decide)
theorem Tri.put1 {w w':World} {B:Nat} {v1 v2 v3 u:Value} {ts ts':List ByteArray} {fs bs:List Int} (h:Tri w B v1 v2 v3 ts fs bs) (hu:w'.ownsRow B 9 1 u ts'.length (ts'.map Value.string)) (hg:w.grownBy w' v1.ownBlock):Tri w' B u v2 v3 ts' fs bs:=
 ⟨hu,World.ownsRow.kept h.fr hg h.a12.symm.or,World.ownsRow.kept h.bw hg h.a13.symm.or,h.ap⟩
theorem Tri.put2 {w w':World} {B:Nat} {v1 v2 v3 u:Value} {ts:List ByteArray} {fs fs' bs:List Int} (h:Tri w B v1 v2 v3 ts fs bs) (hu:w'.ownsRow B 3 1 u fs'.length (fs'.map (Value.int .i64))) (hg:w.grownBy w' v2.ownBlock) (ha:u.ownBlock=v2.ownBlock∨u.ownBlock=some w.heap.size):Tri w' B v1 u v3 ts fs' bs:=
 ⟨World.ownsRow.kept h.ks hg h.a12.or,hu,World.ownsRow.kept h.bw hg h.ap.symm.or,(Ap3.moved h.bw h.ap.symm ha).symm⟩
theorem Tri.put3 {w w':World} {B:Nat} {v1 v2 v3 u:Value} {ts:List ByteArray} {fs bs bs':List Int} (h:Tri w B v1 v2 v3 ts fs bs) (hu:w'.ownsRow B 3 1 u bs'.length (bs'.map (Value.int .i64))) (hg:w.grownBy w' v3.ownBlock) (ha:u.ownBlock=v3.ownBlock∨u.ownBlock=some w.heap.size):Tri w' B v1 v2 u ts fs bs':=
 ⟨World.ownsRow.kept h.ks hg h.a13.or,World.ownsRow.kept h.fr hg h.ap.or,hu,Ap3.moved h.fr h.ap ha⟩

structure Off3 (wi w:World) (v1 v2 v3 u1 u2 u3:Value):Prop where
 size:wi.heap.size≤w.heap.size
 keep:∀ k,k<wi.heap.size→v1.ownBlock≠some k→v2.ownBlock≠some k→v3.ownBlock≠some k→w.heap[k]?=wi.heap[k]?
 at1:u1.ownBlock=v1.ownBlock∨∃ g,wi.heap.size≤g∧u1.ownBlock=some g
 at2:u2.ownBlock=v2.ownBlock∨∃ g,wi.heap.size≤g∧u2.ownBlock=some g
 at3:u3.ownBlock=v3.ownBlock∨∃ g,wi.heap.size≤g∧u3.ownBlock=some g
theorem Off3.refl (w:World) (v1 v2 v3:Value):Off3 w w v1 v2 v3 v1 v2 v3:=⟨Nat.le_refl _,fun _ _ _ _ _=>rfl,.inl rfl,.inl rfl,.inl rfl⟩
theorem Off3.below {wi w w':World} {v1 v2 v3 u1 u2 u3:Value} (h:Off3 wi w v1 v2 v3 u1 u2 u3) (hb:Below w.heap.size w w'):Off3 wi w' v1 v2 v3 u1 u2 u3:=
 ⟨Nat.le_trans h.size hb.size,fun k hk a b c=>(hb.block k (Nat.lt_of_lt_of_le hk h.size)).trans (h.keep k hk a b c),h.at1,h.at2,h.at3⟩
theorem moved3 {wi w:World} {u v u':Value} (h:u.ownBlock=v.ownBlock∨∃ g,wi.heap.size≤g∧u.ownBlock=some g) (hs:wi.heap.size≤w.heap.size) (ha:u'.ownBlock=u.ownBlock∨u'.ownBlock=some w.heap.size):u'.ownBlock=v.ownBlock∨∃ g,wi.heap.size≤g∧u'.ownBlock=some g:=by
 rcases ha with ha | ha
 ·rw [ha];exact h
 ·exact .inr ⟨_,hs,ha⟩
theorem kept3 {wi:World} {u v:Value} (h:u.ownBlock=v.ownBlock∨∃ g,wi.heap.size≤g∧u.ownBlock=some g) {k:Nat} (hk:k<wi.heap.size) (hv:v.ownBlock≠some k):some k≠u.ownBlock:=by
 rcases h with h | ⟨g,hg,h⟩
 ·rw [h];exact fun e=>hv e.symm
 ·rw [h];intro e;cases e;omega
theorem Off3.put1 {wi w w':World} {v1 v2 v3 u1 u2 u3 u:Value} (h:Off3 wi w v1 v2 v3 u1 u2 u3) (hg:w.grownBy w' u1.ownBlock) (ha:u.ownBlock=u1.ownBlock∨u.ownBlock=some w.heap.size):Off3 wi w' v1 v2 v3 u u2 u3:=
 ⟨Nat.le_trans h.size hg.size,fun k hk a b c=>(hg.block k (Nat.lt_of_lt_of_le hk h.size) (kept3 h.at1 hk a)).trans (h.keep k hk a b c),moved3 h.at1 h.size ha,h.at2,h.at3⟩
theorem Off3.put2 {wi w w':World} {v1 v2 v3 u1 u2 u3 u:Value} (h:Off3 wi w v1 v2 v3 u1 u2 u3) (hg:w.grownBy w' u2.ownBlock) (ha:u.ownBlock=u2.ownBlock∨u.ownBlock=some w.heap.size):Off3 wi w' v1 v2 v3 u1 u u3:=
 ⟨Nat.le_trans h.size hg.size,fun k hk a b c=>(hg.block k (Nat.lt_of_lt_of_le hk h.size) (kept3 h.at2 hk b)).trans (h.keep k hk a b c),h.at1,moved3 h.at2 h.size ha,h.at3⟩
theorem Off3.put3 {wi w w':World} {v1 v2 v3 u1 u2 u3 u:Value} (h:Off3 wi w v1 v2 v3 u1 u2 u3) (hg:w.grownBy w' u3.ownBlock) (ha:u.ownBlock=u3.ownBlock∨u.ownBlock=some w.heap.size):Off3 wi w' v1 v2 v3 u1 u2 u:=
 ⟨Nat.le_trans h.size hg.size,fun k hk a b c=>(hg.block k (Nat.lt_of_lt_of_le hk h.size) (kept3 h.at3 hk c)).trans (h.keep k hk a b c),h.at1,h.at2,moved3 h.at3 h.size ha⟩
theorem Off3.row {wi w:World} {v1 v2 v3 u1 u2 u3:Value} (h:Off3 wi w v1 v2 v3 u1 u2 u3) {B e s n:Nat} {v:Value} {xs:List Value} (ho:wi.ownsRow B e s v n xs) (a1:Ap3 v v1) (a2:Ap3 v v2) (a3:Ap3 v v3):w.ownsRow B e s v n xs:=by
 have hlt:=fun g hg=>(own_lt3 ho (g:=g) hg).2
 refine ⟨ho.1,?_⟩
 rcases ho.2 with hn | ⟨g,cap,cur,rfl,hb,hgg,rest⟩
 ·exact .inl hn
 ·exact .inr ⟨g,cap,cur,rfl,hb,(h.keep g (hlt g rfl) (a1 g rfl) (a2 g rfl) (a3 g rfl)).trans hgg,rest⟩

/-! The rows that go with the list of states. -/
def keysL (S:List (Rec6 V4)):List ByteArray:=S.map fun r=>keyT r.1
def fromL:List (Rec6 V4)→List Int
 | []=>[]
 | _::S=>-1::S.map fun r=>(r.2.1:Int)
def byL:List (Rec6 V4)→List Int
 | []=>[]
 | _::S=>-1::S.map fun r=>r.2.2
theorem keysL_len (S:List (Rec6 V4)):(keysL S).length=S.length:=by simp [keysL]
theorem fromL_len (S:List (Rec6 V4)):(fromL S).length=S.length:=by cases S<;>simp [fromL]
theorem byL_len (S:List (Rec6 V4)):(byL S).length=S.length:=by cases S<;>simp [byL]
theorem keysL_app (S:List (Rec6 V4)) (r:Rec6 V4):keysL (S++[r])=keysL S++[keyT r.1]:=by simp [keysL]
theorem fromL_app {S:List (Rec6 V4)} (h:S≠[]) (r:Rec6 V4):fromL (S++[r])=fromL S++[(r.2.1:Int)]:=by
 cases S with
 | nil=>exact absurd rfl h
 | cons a S=>simp [fromL]
theorem byL_app {S:List (Rec6 V4)} (h:S≠[]) (r:Rec6 V4):byL (S++[r])=byL S++[r.2.2]:=by
 cases S with
 | nil=>exact absurd rfl h
 | cons a S=>simp [byL]
end Go.Proofs.YtdojjmkpelgcaaaGreatDoor
