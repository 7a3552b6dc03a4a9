/-
  Joined: SrtB, Kit8.
-/
import Derived.Lib.Hide
import Derived.Test.YtifoggpohlegmaaGreatDoorA22
import Derived.Test.YtifoggpohlegmaaGreatDoorA23

namespace Go.Proofs.YtifoggpohlegmaaGreatDoor
set_option maxRecDepth 100000
set_option maxHeartbeats 16000000
open Go.RowKit Go.Sort Go.Shelf
set_option linter.unusedVariables false
set_option linter.unusedSimpArgs false

theorem flatK_flat (xs:List I3):(flatK I3.cells 3 xs.toArray).toList=flat xs:=by
 apply List.ext_getElem?
 intro t
 by_cases h:t<xs.length*3
 ·have hq:t / 3<xs.length:=by omega
  have hl:t<(flatK I3.cells 3 xs.toArray).toList.length:=by simp;omega
  have e1:(flatK I3.cells 3 xs.toArray).toList[t]?=some ((I3.cells xs.toArray[t / 3]!)[t % 3]!):=by
   rw [List.getElem?_eq_getElem hl,Array.getElem_toList,← getElem!_pos (flatK I3.cells 3 xs.toArray) t (by simpa using h),get_flatK _ _ _ _ (by simpa using h)]
  rw [e1]
  obtain ⟨f0,f1,f2⟩:=flat_at hq
  have ex:xs.toArray[t / 3]! = xs.getD (t / 3) (0,0,0):=by
   rw [getElem!_pos _ _ (by simpa using hq)]
   simp [List.getD,List.getElem?_eq_getElem hq]
  rw [ex]
  generalize xs.getD (t / 3) (0,0,0)=x at *
  have hr:t % 3=0∨t % 3=1∨t % 3=2:=by omega
  rcases hr with hr | hr | hr
  ·have e:t / 3*3=t:=by omega
   rw [e] at f0
   rw [f0,hr]
   rfl
  ·have e:t / 3*3+1=t:=by omega
   rw [e] at f1
   rw [f1,hr]
   rfl
  ·have e:t / 3*3+2=t:=by omega
   rw [e] at f2
   rw [f2,hr]
   rfl
 ·rw [List.getElem?_eq_none (by simp;omega),List.getElem?_eq_none (by rw [flat_length];omega)]
theorem holds_own {w:World} {B g n cap:Nat} {xs:List I3} (h:w.ownsRow B 64 3 (.slice (some ⟨g,0,none⟩) n cap) n (flat xs)) (hl:xs.length=n):HoldsK I3.cells 3 w g 0 xs.toArray:=by
 intro t ht
 rw [size_flatK] at ht
 have ht':t<n*3:=by simpa [hl] using ht
 refine ⟨?_,by rw [Nat.zero_add];exact h.frozenAt t⟩
 rw [Nat.zero_add,h.cellAt t ht',← flatK_flat,getElem!_pos _ _ (by rw [size_flatK];exact ht)]
 simp [ht]
theorem sort_owns {w:World} {B g n cap m:Nat} {xs ys:List I3} {os:Array Obj} (h:w.ownsRow B 64 3 (.slice (some ⟨g,0,none⟩) n cap) n (flat xs)) (hx:xs.length=n) (hy:ys.length=n) :
  (sortWorldK I3.cells 3 w g 0 m ys.toArray os).ownsRow B 64 3 (.slice (some ⟨g,0,none⟩) n cap) n (flat ys)∧w.grownBy (sortWorldK I3.cells 3 w g 0 m ys.toArray os) (some g):=by
 rcases h.2 with ⟨hv,_⟩ | ⟨g',cap',cur,hv,hB,hg,hn,hc,hsz,ht⟩
 ·cases hv
 cases hv
 have hgl:g<w.heap.size:=(Array.getElem?_eq_some_iff.1 hg).1
 refine ⟨⟨by rw [flat_length];omega,.inr ⟨g,cap,putCells id 0 (flatK I3.cells 3 ys.toArray) cur,rfl,hB,?_,hn,hc,?_,?_⟩⟩,⟨rfl,rfl,rfl,?_,?_⟩⟩
 ·show (((Sort.ahead w m).heap.modify g _)++os)[g]?=_
  rw [Array.getElem?_append_left (by simpa [Sort.ahead] using hgl),Array.getElem?_modify]
  simp [Sort.ahead,hg,onCells]
 ·simpa [putCells] using hsz
 ·have hfk:=flatK_flat ys
  have hfs:(flatK I3.cells 3 ys.toArray).size=n*3:=by simp [hy]
  apply List.ext_getElem?
  intro t
  by_cases h3:t<n*3
  ·rw [List.getElem?_take_of_lt h3,← hfk]
   have hcz:t<cur.size:=by rw [hsz];have:=Nat.mul_le_mul_right 3 hn;omega
   simp only [putCells,Array.getElem?_toList,Array.getElem?_mapIdx,Array.getElem?_eq_getElem hcz,Option.map_some]
   rw [if_pos ⟨Nat.zero_le _,by omega⟩,getElem!_pos _ _ (by omega),Array.getElem?_eq_getElem (by omega)]
   simp
  ·rw [List.getElem?_eq_none (by rw [List.length_take];omega),List.getElem?_eq_none (by rw [flat_length];omega)]
 ·show w.heap.size≤(((Sort.ahead w m).heap.modify g _)++os).size
  simp [Sort.ahead]
 ·intro k hk hne
  show (((Sort.ahead w m).heap.modify g _)++os)[k]?=_
  rw [Array.getElem?_append_left (by simpa [Sort.ahead] using hk),Array.getElem?_modify]
  have:g≠k:=fun e=>hne (by rw [e])
  simp [Sort.ahead,this]

def srtB (l:List I3):List I3:=l.mergeSort fun x y=>!(ltOf cmpB) y x
theorem srtB_len (l:List I3):(srtB l).length=l.length:=by unfold srtB;simp
theorem srtB_mem {l:List I3} {x:I3}:x ∈ srtB l↔x ∈ l:=by unfold srtB;exact (List.mergeSort_perm l _).mem_iff
theorem srtB_pair (l:List I3):(srtB l).Pairwise fun a b=>ltB b a=false:=by
 have h:=List.pairwise_mergeSort (le:=fun x y=>!(ltOf cmpB) y x) (fun a b c h1 h2=>by
  simp only [Bool.not_eq_true',cmpB_lt] at *
  cases k:ltB c a
  ·rfl
  ·cases k2:ltB c b
   ·cases k3:ltB b c
    ·have:=ltB_total k2 k3
     subst this
     rw [h1] at k
     cases k
    ·have:=ltB_trans k3 k
     rw [this] at h1
     cases h1
   ·rw [k2] at h2
    cases h2) (fun a b=>by
  simp only [cmpB_lt,Bool.or_eq_true,Bool.not_eq_true']
  cases k:ltB b a
  ·exact .inl rfl
  ·exact .inr (ltB_asymm k)) l
 exact h.imp fun {a b} h=>by simpa [cmpB_lt] using h
theorem srtB_once (xs ys:List I3):onceB (srtB (xs++ys))=mergeB xs ys:=once_merge (srtB_pair _) fun x=>by rw [srtB_mem,List.mem_append]
theorem once_short:∀ {l:List I3},l.length<2→onceB l=l
 | [],_=>rfl
 | [x],_=>rfl
 | x::y::l,h=>by simp at h;omega

theorem isAggB:∀ w,(isAgg 64).run Tryz.prog w=.ok true w:=Tryz.isAgg64
theorem sizeOfB:∀ w,(Go.sizeOf 64).run Tryz.prog w=.ok 3 w:=Tryz.sizeOf64
theorem compare_lays (blk off size:Nat) (w:World):CmpLays Tryz.prog 151 #[] I3.cells 3 cmpB blk off size w:=fun _ _ _ _ x y=>compareBugs_is x y _
theorem sortFunc_is (B g n cap:Nat) (xs:List I3) (w:World) (h:w.ownsRow B 64 3 (.slice (some ⟨g,0,none⟩) n cap) n (flat xs)) (hl:xs.length=n) (hn:n≤1000000) :
  Calls Tryz.prog 150 #[.slice (some ⟨g,0,none⟩) n cap,.func (.func 151) #[] #[]] w fun e w'=>e=.returned (.tuple #[])∧w'.ownsRow B 64 3 (.slice (some ⟨g,0,none⟩) n cap) n (flat (srtB xs))∧w.grownBy w' (some g):=by
 have eg:∀ args w,(callFunc 151 args).run Tryz.prog w=.ok (.enter 151 args) w:=enters_of Tryz.func151 (by kernel_rfl) rfl
 have k:=AnyQ.slices_SortFunc_total sortBug 3 isAggB sizeOfB I3.cells (fun _=>rfl) (fun x v hv=>by unfold I3.cells at hv;simp at hv;rcases hv with rfl | rfl | rfl<;>rfl) cmpB cmpB_swo 151 #[] g 0 cap xs.toArray w eg (compare_lays g 0 _ w) (holds_own h hl) ((h.lt g rfl).2) (by simp;omega) cmpB_total
 have e:xs.toArray.size=n:=by simpa using hl
 rw [e] at k
 refine Calls.mono k ?_
 rintro e' w' ⟨rfl,m,os,rfl⟩
 exact ⟨rfl,sort_owns (ys:=srtB xs) h hl (by rw [srtB_len];exact hl)⟩
theorem sortFunc_none (a:Option Addr) (cap:Nat) (w:World) :
  Calls Tryz.prog 150 #[.slice a 0 cap,.func (.func 151) #[] #[]] w fun e w'=>e=.returned (.tuple #[])∧w=w':=by
 have k:=AnyF.slices_SortFunc_none sortBug a cap (.func (.func 151) #[] #[]) w
 refine Calls.mono k ?_
 rintro e' w' ⟨rfl,rfl⟩
 exact ⟨rfl,rfl⟩

def GoodS (a:Option Addr) (c:Nat):Prop:=(a=none→c=0)∧∀ x,a=some x→x.spot=none
theorem mergedBugs_is (a0:Option Addr) (n0 c0:Nat) (xs:List I3) (a1:Option Addr) (n1 c1:Nat) (ys:List I3) (w:World) (h0:Instrs w a0 n0 c0 xs) (h1:Instrs w a1 n1 c1 ys) (m0:n0≤400000) (m1:n1≤400000) (z0:GoodS a0 c0) (z1:GoodS a1 c1) :
  Calls Tryz.prog 95 #[.slice a0 n0 c0,.slice a1 n1 c1] w fun e w'=>BugsOne e w' w.heap.size (mergeB xs ys)∧Below w.heap.size w w':=by
 have l0:=h0.1
 have l1:=h1.1
 have bw:Below w.heap.size w (w.alloc (.cells #[.slice a0 n0 c0,.slice a1 n1 c1] 34)):=by go_grown
 have d0:(w.alloc (.cells #[.slice a0 n0 c0,.slice a1 n1 c1] 34)).cell? ⟨w.heap.size,0,none⟩=some (.slice a0 n0 c0):=by simp [go_sem]
 have d1:(w.alloc (.cells #[.slice a0 n0 c0,.slice a1 n1 c1] 34)).cell? ⟨w.heap.size,1,none⟩=some (.slice a1 n1 c1):=by simp [go_sem]
 go_enter Tryz.func95,Tryz.ntmps95
 go_wp2_with fail
 generalize w.alloc (.cells #[.slice a0 n0 c0,.slice a1 n1 c1] 34)=W at *
 refine (concat_is w.heap.size a0 n0 c0 xs a1 n1 c1 ys W (h0.below bw) (h1.below bw) m0 m1 z0.1 z1.1 z0.2 z1.2 d0 d1).mono ?_
 rintro e w1 ⟨⟨v,rfl,_,hq⟩,hb1⟩
 have hB:w.heap.size≤W.heap.size:=bw.size
 replace bw:=bel_trans bw hb1
 have hln:(xs++ys).length=n0+n1:=by rw [List.length_append];omega
 have HM:Hid (onceB (srtB (xs++ys))=mergeB xs ys):=srtB_once xs ys
 clear d0 d1 h0 h1 z0 z1 hb1
 generalize xs++ys=zs at *
 by_cases hz:n0+n1=0
 ·obtain ⟨a,c,rfl⟩:∃ a c,v=.slice a 0 c:=by
   rcases hq.2 with ⟨rfl,h9⟩ | ⟨g,cap,cur,hv,_⟩
   ·exact ⟨_,_,rfl⟩
   ·exact ⟨_,_,by rw [hv,hz]⟩
  have hzs:zs=[]:=List.length_eq_zero_iff.1 (by omega)
  have HR:Hid (∀ e,e=.returned (.slice a 0 c)→BugsOne e w1 w.heap.size (mergeB xs ys)):=fun e he=>by
   rw [← HM.out,hzs]
   refine ⟨_,he,?_⟩
   have e9:onceB (srtB [])=[]:=by simp [srtB,onceB]
   rw [e9]
   rw [hz,hzs] at hq
   exact own_lowerB hq hB
  clear hq HM
  go_wp2_with fail
  refine (sortFunc_none a c _).mono ?_
  rintro e w2 ⟨rfl,rfl⟩
  go_wp2_with fail
  refine (compact_few a 0 c _ (by omega)).mono ?_
  rintro e w2 ⟨rfl,rfl⟩
  go_wp2
  go_ret
  exact ⟨HR.out _ rfl,bw⟩
 ·obtain ⟨g,c,rfl⟩:=own_someB hq (by omega)
  have kS:=sortFunc_is _ g (n0+n1) c zs w1 hq hln (by omega)
  have hsl:(srtB zs).length=n0+n1:=by rw [srtB_len];exact hln
  have hnb:n0+n1≤1000000:=by omega
  generalize n0+n1=n at *
  go_wp2_with fail
  refine kS.mono ?_
  rintro e w2 ⟨rfl,hq2,g2⟩
  have hg:=(hq.lt g rfl).1
  replace bw:=bw.grown g2 bw.size (fun k hk=>by cases hk;omega)
  clear kS hq
  by_cases hn2:n<2
  ·have HR:Hid (∀ e,e=.returned (.slice (some ⟨g,0,none⟩) n c)→BugsOne e w2 w.heap.size (mergeB xs ys)):=fun e he=>by
    rw [← HM.out,once_short (by omega)]
    exact ⟨_,he,by rw [hsl];exact own_lowerB hq2 hB⟩
   clear hq2 HM g2
   go_wp2_with fail
   refine (compact_few _ n c _ (by omega)).mono ?_
   rintro e w3 ⟨rfl,rfl⟩
   go_wp2
   go_ret
   exact ⟨HR.out _ rfl,bw⟩
  ·have kC:=compact_is _ g n c (srtB zs) w2 hq2 hsl (by omega) (by omega)
   clear hq2 g2
   go_wp2_with fail
   refine kC.mono ?_
   rintro e w3 ⟨m,rfl,hq3,g3⟩
   clear kC
   have bw3:=bw.grown g3 bw.size (fun k hk=>by cases hk;omega)
   have HR:Hid (∀ e,e=.returned (.slice (some ⟨g,0,none⟩) m c)→BugsOne e w3 w.heap.size (mergeB xs ys)):=fun e he=>by
    rw [← HM.out]
    exact ⟨_,he,own_lowerB hq3 hB⟩
   clear hq3 g3 HM bw
   go_wp2
   go_ret
   exact ⟨HR.out _ rfl,bw3⟩

open Go.RowKit

theorem bel8 {a b c:World} (h:Below a.heap.size a b) (k:Below b.heap.size b c):Below a.heap.size a c:=h.trans (k.mono h.size)
end Go.Proofs.YtifoggpohlegmaaGreatDoor
