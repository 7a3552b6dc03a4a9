/-
  Joined: SrtB, Kit8, DedI, EvC, CmtQ, FulQ, FulB, FulD, Rw3, KeyB, SrcP, SpcP, SpcH.
-/
import Derived.Lib.Hide
import Derived.Stop.Asserts
import Derived.Recover
import Derived.Deep.MidRow
import Derived.Maps.OwnSet
import Derived.Test.YtgmhhegckcionaaGreatDoorP18
import Derived.Test.YtgmhhegckcionaaGreatDoorP21
import Derived.Test.YtgmhhegckcionaaGreatDoorP22

namespace Go.Proofs.YtgmhhegckcionaaGreatDoor
set_option maxRecDepth 100000
set_option maxHeartbeats 16000000
open Go.RowKit Go.Sort Go.Shelf
set_option linter.unusedVariables false
set_option linter.unusedSimpArgs false

theorem flatK_flat (xs:List I3):(flatK I3.cells 3 xs.toArray).toList=flat xs:=by
 apply List.ext_getElem?
 intro t
 by_cases h:t<xs.length*3
 ·have hq:t / 3<xs.length:=by omega
  have hl:t<(flatK I3.cells 3 xs.toArray).toList.length:=by simp;omega
  have e1:(flatK I3.cells 3 xs.toArray).toList[t]?=some ((I3.cells xs.toArray[t / 3]!)[t % 3]!):=by
   rw [List.getElem?_eq_getElem hl,Array.getElem_toList,← getElem!_pos (flatK I3.cells 3 xs.toArray) t (by simpa using h),get_flatK _ _ _ _ (by simpa using h)]
  rw [e1]
  obtain ⟨f0,f1,f2⟩:=flat_at hq
  have ex:xs.toArray[t / 3]! = xs.getD (t / 3) (0,0,0):=by
   rw [getElem!_pos _ _ (by simpa using hq)]
   simp [List.getD,List.getElem?_eq_getElem hq]
  rw [ex]
  generalize xs.getD (t / 3) (0,0,0)=x at *
  have hr:t % 3=0∨t % 3=1∨t % 3=2:=by omega
  rcases hr with hr | hr | hr
  ·have e:t / 3*3=t:=by omega
   rw [e] at f0
   rw [f0,hr]
   rfl
  ·have e:t / 3*3+1=t:=by omega
   rw [e] at f1
   rw [f1,hr]
   rfl
  ·have e:t / 3*3+2=t:=by omega
   rw [e] at f2
   rw [f2,hr]
   rfl
 ·rw [List.getElem?_eq_none (by simp;omega),List.getElem?_eq_none (by rw [flat_length];omega)]
theorem holds_own {w:World} {B g n cap:Nat} {xs:List I3} (h:w.ownsRow B 103 3 (.slice (some ⟨g,0,none⟩) n cap) n (flat xs)) (hl:xs.length=n):HoldsK I3.cells 3 w g 0 xs.toArray:=by
 intro t ht
 rw [size_flatK] at ht
 have ht':t<n*3:=by simpa [hl] using ht
 refine ⟨?_,by rw [Nat.zero_add];exact h.frozenAt t⟩
 rw [Nat.zero_add,h.cellAt t ht',← flatK_flat,getElem!_pos _ _ (by rw [size_flatK];exact ht)]
 simp [ht]
theorem sort_owns {w:World} {B g n cap m:Nat} {xs ys:List I3} {os:Array Obj} (h:w.ownsRow B 103 3 (.slice (some ⟨g,0,none⟩) n cap) n (flat xs)) (hx:xs.length=n) (hy:ys.length=n) :
  (sortWorldK I3.cells 3 w g 0 m ys.toArray os).ownsRow B 103 3 (.slice (some ⟨g,0,none⟩) n cap) n (flat ys)∧w.grownBy (sortWorldK I3.cells 3 w g 0 m ys.toArray os) (some g):=by
 rcases h.2 with ⟨hv,_⟩ | ⟨g',cap',cur,hv,hB,hg,hn,hc,hsz,ht⟩
 ·cases hv
 cases hv
 have hgl:g<w.heap.size:=(Array.getElem?_eq_some_iff.1 hg).1
 refine ⟨⟨by rw [flat_length];omega,.inr ⟨g,cap,putCells id 0 (flatK I3.cells 3 ys.toArray) cur,rfl,hB,?_,hn,hc,?_,?_⟩⟩,⟨rfl,rfl,rfl,?_,?_⟩⟩
 ·show (((Sort.ahead w m).heap.modify g _)++os)[g]?=_
  rw [Array.getElem?_append_left (by simpa [Sort.ahead] using hgl),Array.getElem?_modify]
  simp [Sort.ahead,hg,onCells]
 ·simpa [putCells] using hsz
 ·have hfk:=flatK_flat ys
  have hfs:(flatK I3.cells 3 ys.toArray).size=n*3:=by simp [hy]
  apply List.ext_getElem?
  intro t
  by_cases h3:t<n*3
  ·rw [List.getElem?_take_of_lt h3,← hfk]
   have hcz:t<cur.size:=by rw [hsz];have:=Nat.mul_le_mul_right 3 hn;omega
   simp only [putCells,Array.getElem?_toList,Array.getElem?_mapIdx,Array.getElem?_eq_getElem hcz,Option.map_some]
   rw [if_pos ⟨Nat.zero_le _,by omega⟩,getElem!_pos _ _ (by omega),Array.getElem?_eq_getElem (by omega)]
   simp
  ·rw [List.getElem?_eq_none (by rw [List.length_take];omega),List.getElem?_eq_none (by rw [flat_length];omega)]
 ·show w.heap.size≤(((Sort.ahead w m).heap.modify g _)++os).size
  simp [Sort.ahead]
 ·intro k hk hne
  show (((Sort.ahead w m).heap.modify g _)++os)[k]?=_
  rw [Array.getElem?_append_left (by simpa [Sort.ahead] using hk),Array.getElem?_modify]
  have:g≠k:=fun e=>hne (by rw [e])
  simp [Sort.ahead,this]

def srtB (l:List I3):List I3:=l.mergeSort fun x y=>!(ltOf cmpB) y x
theorem srtB_len (l:List I3):(srtB l).length=l.length:=by unfold srtB;simp
theorem srtB_mem {l:List I3} {x:I3}:x ∈ srtB l↔x ∈ l:=by unfold srtB;exact (List.mergeSort_perm l _).mem_iff
theorem srtB_pair (l:List I3):(srtB l).Pairwise fun a b=>ltB b a=false:=by
 have h:=List.pairwise_mergeSort (le:=fun x y=>!(ltOf cmpB) y x) (fun a b c h1 h2=>by
  simp only [Bool.not_eq_true',cmpB_lt] at *
  cases k:ltB c a
  ·rfl
  ·cases k2:ltB c b
   ·cases k3:ltB b c
    ·have:=ltB_total k2 k3
     subst this
     rw [h1] at k
     cases k
    ·have:=ltB_trans k3 k
     rw [this] at h1
     cases h1
   ·rw [k2] at h2
    cases h2) (fun a b=>by
  simp only [cmpB_lt,Bool.or_eq_true,Bool.not_eq_true']
  cases k:ltB b a
  ·exact .inl rfl
  ·exact .inr (ltB_asymm k)) l
 exact h.imp fun {a b} h=>by simpa [cmpB_lt] using h
theorem srtB_once (xs ys:List I3):onceB (srtB (xs++ys))=mergeB xs ys:=once_merge (srtB_pair _) fun x=>by rw [srtB_mem,List.mem_append]
theorem once_short:∀ {l:List I3},l.length<2→onceB l=l
 | [],_=>rfl
 | [x],_=>rfl
 | x::y::l,h=>by simp at h;omega

theorem isAggB:∀ w,(isAgg 103).run Tryz.prog w=.ok true w:=Tryz.isAgg103
theorem sizeOfB:∀ w,(Go.sizeOf 103).run Tryz.prog w=.ok 3 w:=Tryz.sizeOf103
theorem compare_lays (blk off size:Nat) (w:World):CmpLays Tryz.prog 113 #[] I3.cells 3 cmpB blk off size w:=fun _ _ _ _ x y=>compareBugs_is x y _
theorem sortFunc_is (B g n cap:Nat) (xs:List I3) (w:World) (h:w.ownsRow B 103 3 (.slice (some ⟨g,0,none⟩) n cap) n (flat xs)) (hl:xs.length=n) (hn:n≤1000000) :
  Calls Tryz.prog 128 #[.slice (some ⟨g,0,none⟩) n cap,.func (.func 113) #[] #[]] w fun e w'=>e=.returned (.tuple #[])∧w'.ownsRow B 103 3 (.slice (some ⟨g,0,none⟩) n cap) n (flat (srtB xs))∧w.grownBy w' (some g):=by
 have eg:∀ args w,(callFunc 113 args).run Tryz.prog w=.ok (.enter 113 args) w:=enters_of Tryz.func113 (by kernel_rfl) rfl
 have k:=AnyQ.slices_SortFunc_total sortBug 3 isAggB sizeOfB I3.cells (fun _=>rfl) (fun x v hv=>by unfold I3.cells at hv;simp at hv;rcases hv with rfl | rfl | rfl<;>rfl) cmpB cmpB_swo 113 #[] g 0 cap xs.toArray w eg (compare_lays g 0 _ w) (holds_own h hl) ((h.lt g rfl).2) (by simp;omega) cmpB_total
 have e:xs.toArray.size=n:=by simpa using hl
 rw [e] at k
 refine Calls.mono k ?_
 rintro e' w' ⟨rfl,m,os,rfl⟩
 exact ⟨rfl,sort_owns (ys:=srtB xs) h hl (by rw [srtB_len];exact hl)⟩
theorem sortFunc_none (a:Option Addr) (cap:Nat) (w:World) :
  Calls Tryz.prog 128 #[.slice a 0 cap,.func (.func 113) #[] #[]] w fun e w'=>e=.returned (.tuple #[])∧w=w':=by
 have k:=AnyF.slices_SortFunc_none sortBug a cap (.func (.func 113) #[] #[]) w
 refine Calls.mono k ?_
 rintro e' w' ⟨rfl,rfl⟩
 exact ⟨rfl,rfl⟩

def GoodS (a:Option Addr) (c:Nat):Prop:=(a=none→c=0)∧∀ x,a=some x→x.spot=none
theorem mergedBugs_is (a0:Option Addr) (n0 c0:Nat) (xs:List I3) (a1:Option Addr) (n1 c1:Nat) (ys:List I3) (w:World) (h0:Instrs w a0 n0 c0 xs) (h1:Instrs w a1 n1 c1 ys) (m0:n0≤400000) (m1:n1≤400000) (z0:GoodS a0 c0) (z1:GoodS a1 c1) :
  Calls Tryz.prog 83 #[.slice a0 n0 c0,.slice a1 n1 c1] w fun e w'=>BugsOne e w' w.heap.size (mergeB xs ys)∧Below w.heap.size w w':=by
 have l0:=h0.1
 have l1:=h1.1
 have bw:Below w.heap.size w (w.alloc (.cells #[.slice a0 n0 c0,.slice a1 n1 c1] 28)):=by go_grown
 have d0:(w.alloc (.cells #[.slice a0 n0 c0,.slice a1 n1 c1] 28)).cell? ⟨w.heap.size,0,none⟩=some (.slice a0 n0 c0):=by simp [go_sem]
 have d1:(w.alloc (.cells #[.slice a0 n0 c0,.slice a1 n1 c1] 28)).cell? ⟨w.heap.size,1,none⟩=some (.slice a1 n1 c1):=by simp [go_sem]
 go_enter Tryz.func83,Tryz.ntmps83
 go_wp2_with fail
 generalize w.alloc (.cells #[.slice a0 n0 c0,.slice a1 n1 c1] 28)=W at *
 refine (concat_is w.heap.size a0 n0 c0 xs a1 n1 c1 ys W (h0.below bw) (h1.below bw) m0 m1 z0.1 z1.1 z0.2 z1.2 d0 d1).mono ?_
 rintro e w1 ⟨⟨v,rfl,_,hq⟩,hb1⟩
 have hB:w.heap.size≤W.heap.size:=bw.size
 replace bw:=bel_trans bw hb1
 have hln:(xs++ys).length=n0+n1:=by rw [List.length_append];omega
 have HM:Hid (onceB (srtB (xs++ys))=mergeB xs ys):=srtB_once xs ys
 clear d0 d1 h0 h1 z0 z1 hb1
 generalize xs++ys=zs at *
 by_cases hz:n0+n1=0
 ·obtain ⟨a,c,rfl⟩:∃ a c,v=.slice a 0 c:=by
   rcases hq.2 with ⟨rfl,h9⟩ | ⟨g,cap,cur,hv,_⟩
   ·exact ⟨_,_,rfl⟩
   ·exact ⟨_,_,by rw [hv,hz]⟩
  have hzs:zs=[]:=List.length_eq_zero_iff.1 (by omega)
  have HR:Hid (∀ e,e=.returned (.slice a 0 c)→BugsOne e w1 w.heap.size (mergeB xs ys)):=fun e he=>by
   rw [← HM.out,hzs]
   refine ⟨_,he,?_⟩
   have e9:onceB (srtB [])=[]:=by simp [srtB,onceB]
   rw [e9]
   rw [hz,hzs] at hq
   exact own_lowerB hq hB
  clear hq HM
  go_wp2_with fail
  refine (sortFunc_none a c _).mono ?_
  rintro e w2 ⟨rfl,rfl⟩
  go_wp2_with fail
  refine (compact_few a 0 c _ (by omega)).mono ?_
  rintro e w2 ⟨rfl,rfl⟩
  go_wp2
  go_ret
  exact ⟨HR.out _ rfl,bw⟩
 ·obtain ⟨g,c,rfl⟩:=own_someB hq (by omega)
  have kS:=sortFunc_is _ g (n0+n1) c zs w1 hq hln (by omega)
  have hsl:(srtB zs).length=n0+n1:=by rw [srtB_len];exact hln
  have hnb:n0+n1≤1000000:=by omega
  generalize n0+n1=n at *
  go_wp2_with fail
  refine kS.mono ?_
  rintro e w2 ⟨rfl,hq2,g2⟩
  have hg:=(hq.lt g rfl).1
  replace bw:=bw.grown g2 bw.size (fun k hk=>by cases hk;omega)
  clear kS hq
  by_cases hn2:n<2
  ·have HR:Hid (∀ e,e=.returned (.slice (some ⟨g,0,none⟩) n c)→BugsOne e w2 w.heap.size (mergeB xs ys)):=fun e he=>by
    rw [← HM.out,once_short (by omega)]
    exact ⟨_,he,by rw [hsl];exact own_lowerB hq2 hB⟩
   clear hq2 HM g2
   go_wp2_with fail
   refine (compact_few _ n c _ (by omega)).mono ?_
   rintro e w3 ⟨rfl,rfl⟩
   go_wp2
   go_ret
   exact ⟨HR.out _ rfl,bw⟩
  ·have kC:=compact_is _ g n c (srtB zs) w2 hq2 hsl (by omega) (by omega)
   clear hq2 g2
   go_wp2_with fail
   refine kC.mono ?_
   rintro e w3 ⟨m,rfl,hq3,g3⟩
   clear kC
   have bw3:=bw.grown g3 bw.size (fun k hk=>by cases hk;omega)
   have HR:Hid (∀ e,e=.returned (.slice (some ⟨g,0,none⟩) m c)→BugsOne e w3 w.heap.size (mergeB xs ys)):=fun e he=>by
    rw [← HM.out]
    exact ⟨_,he,own_lowerB hq3 hB⟩
   clear hq3 g3 HM bw
   go_wp2
   go_ret
   exact ⟨HR.out _ rfl,bw3⟩

open Go.RowKit

def RowGot (e:Ending) (w':World) (B:Nat) (xs:List Int):Prop:=∃ v,e=.returned v∧w'.ownsRow B 3 1 v xs.length (xs.map (Value.int .i64))
theorem bel8 {a b c:World} (h:Below a.heap.size a b) (k:Below b.heap.size b c):Below a.heap.size a c:=h.trans (k.mono h.size)
theorem drew8 {a b:World} (h:Below a.heap.size a b) (d:Nat):Below a.heap.size a (b.drewN d):=h.trans ⟨rfl,rfl,rfl,Nat.le_refl _,fun _ _=>rfl⟩
theorem owns8 {B e k n:Nat} {v:Value} {xs:List Value} {w w':World} (h:w.ownsRow B e k v n xs) (hb:Below w.heap.size w w'):w'.ownsRow B e k v n xs:=
 h.kept (row:=none) ⟨hb.os,hb.tape,hb.output,hb.size,fun i hi _=>hb.block i hi⟩ (by cases v.ownBlock<;>simp)
theorem cell8 {w w':World} (h:Below w.heap.size w w') {p:Addr} {v:Value} (hv:w.cell? p=some v):w'.cell? p=some v:=by
 rw [h.cell (World.block_lt_of_cell? _ _ hv)]
 exact hv
theorem grown8 {w w':World} {row:Option Nat} (g:w.grownBy w' row) {p:Addr} {v:Value} (hc:w.cell? p=some v) (hne:some p.block≠row):w'.cell? p=some v:=by
 have hl:=World.block_lt_of_cell? _ _ hc
 rw [← hc]
 unfold World.cell?
 rw [g.block p.block hl hne]
theorem lower8 {w:World} {B B' e s n:Nat} {v:Value} {cs:List Value} (h:w.ownsRow B e s v n cs) (hB:B'≤B):w.ownsRow B' e s v n cs:=by
 refine ⟨h.1,?_⟩
 rcases h.2 with h0 | ⟨g,cap,cur,hv,hg,rest⟩
 ·exact .inl h0
 ·exact .inr ⟨g,cap,cur,hv,by omega,rest⟩
theorem some8 {w:World} {B e s n:Nat} {v:Value} {cs:List Value} (h:w.ownsRow B e s v n cs) (hn:0<n):∃ g c,v=.slice (some ⟨g,0,none⟩) n c:=by
 rcases h.2 with ⟨rfl,h0⟩ | ⟨g,cap,cur,hv,_⟩
 ·omega
 ·exact ⟨g,cap,hv⟩
theorem slice8 {w:World} {B e s n:Nat} {v:Value} {cs:List Value} (h:w.ownsRow B e s v n cs):∃ a c,v=.slice a n c:=by
 rcases h.2 with ⟨rfl,h0⟩ | ⟨g,cap,cur,hv,_⟩
 ·subst h0;exact ⟨none,0,rfl⟩
 ·exact ⟨some ⟨g,0,none⟩,cap,hv⟩
theorem empty8 (w:World) (t s B:Nat) (hB:B≤w.heap.size):(w.alloc (.cells #[] t)).ownsRow B t s (.slice (some ⟨w.heap.size,0,none⟩) 0 0) 0 []:=World.ownsRow_lit w #[] 0 hB (by unfold maxLen;omega) (by simp)
theorem ints8 {w:World} {B n c:Nat} {a:Option Addr} {xs:List Int} (h:w.ownsRow B 3 1 (.slice a n c) n (xs.map (Value.int .i64))):Ints .i64 w a n c xs:=by
 rcases h.2 with ⟨e,h0⟩ | ⟨b,cc,cur,e,h1,h2,h3,h4⟩
 ·cases e
  have hl:=h.1
  exact ⟨by simpa using hl,Nat.le_refl _,by unfold maxLen;omega,.inl rfl⟩
 ·cases e
  exact Ints.of_owns h
theorem news8 {w:World} {b off n c:Nat} {xs:List Int} (h:Ints .i64 w (some ⟨b,off,none⟩) n c xs):∀ j u,(xs.map (Value.int .i64))[j]?=some u→w.cell? ((⟨b,off,none⟩:Addr).add j)=some u:=by
 intro j u hj
 obtain ⟨hl,_,_,hcase⟩:=h
 have hjl:j<xs.length:=by simpa using (List.getElem?_eq_some_iff.1 hj).1
 rcases hcase with h0 | ⟨b',off',he,hb,hc⟩
 ·omega
 ·cases he
  have:=hc j (by omega)
  have e:(⟨b,off,none⟩:Addr).add j=⟨b,off+j,none⟩:=by unfold Addr.add;split<;>simp_all
  rw [e,this]
  simp [List.getElem?_eq_getElem hjl] at hj
  simp [List.getD,List.getElem?_eq_getElem hjl,hj]
theorem one8 (xs:List Int):∀ u ∈ xs.map (Value.int .i64),u.oneCell'=true:=by
 intro u hu
 obtain ⟨x,_,rfl⟩:=List.mem_map.1 hu
 rfl


def RowD (e:Ending) (w':World) (B:Nat) (xs:List I3):Prop:=∃ v,e=.returned v∧w'.ownsRow B 103 3 v xs.length (flat xs)
theorem deadlock_of {w:World} {p:Addr} {b:Bool} (k:Calls Tryz.prog 159 #[.pointer (some p)] w fun e w'=>e=.returned (.bool b)∧Below w.heap.size w w') :
  Calls Tryz.prog 126 #[.pointer (some p)] w fun e w'=>RowD e w' w.heap.size (if b then [(14,0,0)] else [])∧Below w.heap.size w w':=by
 cases b
 ·go_enter Tryz.func126,Tryz.ntmps126
  go_wp2_with fail
  refine k.mono ?_
  rintro e w1 ⟨rfl,hb⟩
  go_wp2
  go_ret
  exact ⟨⟨_,rfl,World.ownsRow_nil _ _ _ _⟩,hb⟩
 ·go_enter Tryz.func126,Tryz.ntmps126
  go_wp2_with fail
  refine k.mono ?_
  rintro e w1 ⟨rfl,hb⟩
  have q:=World.ownsRow_lit (e:=103) (base:=w.heap.size) (size:=3) w1 #[.int .i64 14,.int .i64 0,.int .i64 0] 1 hb.size (by unfold maxLen;omega) rfl
  have HD:Hid (RowD (.returned (.slice (some ⟨w1.heap.size,0,none⟩) 1 1)) (w1.alloc (.cells #[.int .i64 14,.int .i64 0,.int .i64 0] 103)) w.heap.size [(14,0,0)]):=⟨_,rfl,q⟩
  clear q
  go_wp2
  go_ret
  exact ⟨HD.out,bel8 hb (by go_grown)⟩


def evsM (rows:List (List I3)):V4→List Int→List I4
 | _,[]=>[]
 | m,k::ks=>eventM rows m k.toNat::evsM rows (goM rows m k).1 ks


theorem goM_natC (rows:List (List I3)) (m:V4) (k:Nat):goM rows m (k:Int)=stepM m (insM rows m k) k:=by unfold goM;rw [Int.toNat_natCast]
theorem halt_go {rows:List (List I3)} {m:V4} {k:Nat} (hk:k<3) (hc:canM rows m k=true):haltM rows m (k:Int)=0:=by
 have hd:=(can_parts hc).1
 unfold haltM
 rw [if_pos (by omega),Int.toNat_natCast]
 simp [hd,hc]
theorem runI_cons {rows:List (List I3)} {m:V4} {fs:List I3} {k:Int} {ks:List Int} (h:(runI rows m fs (k::ks)).2.2=0):haltM rows m k=0∧runI rows m fs (k::ks)=runI rows (goM rows m k).1 (fs++ownM rows m k) ks:=by
 have e:runI rows m fs (k::ks)=if haltM rows m k=0 then runI rows (goM rows m k).1 (fs++ownM rows m k) ks else (m,fs,haltM rows m k):=rfl
 by_cases hz:haltM rows m k=0
 ·rw [if_pos hz] at e
  exact ⟨hz,e⟩
 ·rw [e,if_neg hz] at h
  exact absurd h hz
theorem runI_yes {rows:List (List I3)} {m:V4} {fs:List I3} {k:Int} {ks:List Int} (hz:haltM rows m k=0):runI rows m fs (k::ks)=runI rows (goM rows m k).1 (fs++ownM rows m k) ks:=by
 show (if haltM rows m k=0 then _ else _)=_
 rw [if_pos hz]
theorem run_app {rows:List (List I3)}:∀ (pre ks:List Int) (m:V4) (fs:List I3),(runI rows m fs pre).2.2=0→runI rows m fs (pre++ks)=runI rows (runI rows m fs pre).1 (runI rows m fs pre).2.1 ks∧evsM rows m (pre++ks)=evsM rows m pre++evsM rows (runI rows m fs pre).1 ks
 | [],ks,m,fs,_=>⟨rfl,rfl⟩
 | k::pre,ks,m,fs,h=>by
  obtain ⟨h1,e1⟩:=runI_cons h
  rw [e1] at h ⊢
  obtain ⟨i1,i2⟩:=run_app pre ks _ _ h
  rw [List.cons_append,runI_yes h1,i1]
  refine ⟨rfl,?_⟩
  show eventM rows m k.toNat::evsM rows (goM rows m k).1 (pre++ks)=eventM rows m k.toNat::(evsM rows (goM rows m k).1 pre++_)
  rw [i2]


def nxM (rows:List (List I3)) (m:V4):List (Int × V4):=(enabM rows m 3).map fun k=>(k,(goM rows m k).1)
theorem nxM_mem {rows:List (List I3)} {m:V4} {t:Int × V4} (h:t ∈ nxM rows m):haltM rows m t.1=0∧t.2=(goM rows m t.1).1:=by
 unfold nxM at h
 obtain ⟨k,hk,rfl⟩:=List.mem_map.1 h
 obtain ⟨i,hi,hie⟩:=List.getElem_of_mem hk
 obtain ⟨k',e,h3,hc⟩:=enab_at hi
 have e2:(enabM rows m 3).getD i 0=k:=by simp [List.getD,hi,hie]
 rw [e2] at e
 subst e
 exact ⟨halt_go h3 hc,rfl⟩
theorem nxM_of {rows:List (List I3)} {m:V4} {k:Int} (h:haltM rows m k=0):(k,(goM rows m k).1) ∈ nxM rows m:=by
 obtain ⟨h0,h2,hd,hc⟩:=halt_can h
 obtain ⟨q,rfl⟩:∃ q:Nat,k=q:=⟨k.toNat,by omega⟩
 rw [Int.toNat_natCast] at hc
 exact List.mem_map.2 ⟨(q:Int),(mem_enab 3).2 ⟨by omega,hc⟩,rfl⟩
theorem nxM_shape {rows:List (List I3)} {m:V4} (hp:progOk rows=true) (hs:shapeOk m=true) {t:Int × V4} (h:t ∈ nxM rows m):shapeOk t.2=true:=by
 obtain ⟨h1,h2⟩:=nxM_mem h
 rw [h2]
 exact goM_shape hp hs h1
def fullS (rows:List (List I3)):List (Rec6 V4):=srch (nxM rows) 2000 0 [(zeroV,0,0)]
def Shaped (S:List (Rec6 V4)):Prop:=∀ r ∈ S,shapeOk r.1=true
theorem putS_shaped {i:Nat} {S:List (Rec6 V4)} {t:Int × V4} (h:Shaped S) (ht:shapeOk t.2=true):Shaped (putS i S t):=by
 unfold putS
 split
 ·exact h
 ·intro r hr
  rcases List.mem_append.1 hr with hr | hr
  ·exact h r hr
  ·simp at hr
   subst hr
   exact ht
theorem onS_shaped {i:Nat}:∀ (ts:List (Int × V4)) (S:List (Rec6 V4)),Shaped S→(∀ t ∈ ts,shapeOk t.2=true)→Shaped (onS i S ts)
 | [],S,h,_=>h
 | t::ts,S,h,ht=>onS_shaped ts _ (putS_shaped h (ht t (by simp))) (fun u hu=>ht u (by simp [hu]))
theorem srch_shaped {rows:List (List I3)} (hp:progOk rows=true):∀ (f i:Nat) (S:List (Rec6 V4)),Shaped S→Shaped (srch (nxM rows) f i S)
 | 0,_,S,h=>h
 | f+1,i,S,h=>by
  unfold srch
  split
  ·exact h
  ·rename_i r hr
   exact srch_shaped hp f (i+1) _ (onS_shaped _ S h (fun t ht=>nxM_shape hp (h r (List.mem_of_getElem? hr)) ht))
theorem fullS_shaped {rows:List (List I3)} (hp:progOk rows=true):Shaped (fullS rows):=srch_shaped hp _ _ _ (fun r hr=>by simp at hr;subst hr;exact zero_shape)
theorem fullS_head (rows:List (List I3)):(fullS rows)[0]?=some (zeroV,0,0):=by
 obtain ⟨r,hr⟩:=srch_pre (nxM rows) 2000 0 [(zeroV,0,0)]
 unfold fullS
 rw [← hr]
 rfl
theorem fullS_came (rows:List (List I3)):Came (nxM rows) (fullS rows):=srch_came _ _ _ (fun j r hj hr=>by
 match j,hj with
 | j+1,_=>simp at hr)
theorem fullS_nodup (rows:List (List I3)):((fullS rows).map (·.1)).Nodup:=srch_nodup _ _ _ (by simp)
theorem fullS_closed {rows:List (List I3)} (h:(fullS rows).length≤2000):∀ r ∈ fullS rows,∀ t ∈ nxM rows r.1,t.2 ∈ (fullS rows).map (·.1):=
 srch_closed 2000 0 _ (fun j r hj=>by omega) (by omega) (by unfold fullS at h;omega)
def pathS (S:List (Rec6 V4)):Nat→Nat→List Int
 | 0,_=>[]
 | f+1,j=>if j=0 then [] else match S[j]? with
  | none=>[]
  | some r=>pathS S f r.2.1++[r.2.2]
theorem path_run {rows:List (List I3)} {S:List (Rec6 V4)} (hC:Came (nxM rows) S) (h0:S[0]?=some (zeroV,0,0)):∀ (f j:Nat) (r:Rec6 V4),j≤f→S[j]?=some r →
  (runI rows zeroV [] (pathS S f j)).1=r.1∧(runI rows zeroV [] (pathS S f j)).2.2=0∧(pathS S f j).length≤j
 | 0,j,r,hj,hr=>by
  obtain rfl:j=0:=by omega
  rw [h0] at hr
  cases hr
  exact ⟨rfl,rfl,Nat.le_refl _⟩
 | f+1,j,r,hj,hr=>by
  by_cases e:j=0
  ·subst e
   rw [h0] at hr
   cases hr
   exact ⟨rfl,rfl,Nat.le_refl _⟩
  ·obtain ⟨h1,q,h2,h3⟩:=hC j r (by omega) hr
   have hp9:pathS S (f+1) j=pathS S f r.2.1++[r.2.2]:=by
    show (if j=0 then [] else match S[j]? with | none=>[] | some r=>pathS S f r.2.1++[r.2.2])=_
    rw [if_neg e,hr]
   obtain ⟨i1,i2,i3⟩:=path_run hC h0 f r.2.1 q (by omega) h2
   obtain ⟨n1,n2⟩:=nxM_mem h3
   simp only at n1 n2
   have ha:=(run_app (rows:=rows) (pathS S f r.2.1) [r.2.2] zeroV [] i2).1
   rw [i1] at ha
   have hg:runI rows q.1 (runI rows zeroV [] (pathS S f r.2.1)).2.1 [r.2.2]=((goM rows q.1 r.2.2).1,(runI rows zeroV [] (pathS S f r.2.1)).2.1++ownM rows q.1 r.2.2,0):=by
    show (if haltM rows q.1 r.2.2=0 then _ else _)=_
    rw [if_pos n1]
    rfl
   rw [hp9,ha,hg]
   refine ⟨n2.symm,rfl,?_⟩
   rw [List.length_append]
   simp
   omega


theorem nodup_le {α:Type} [DecidableEq α]:∀ (l t:List α),l.Nodup→(∀ x ∈ l,x ∈ t)→l.length≤t.length
 | [],t,_,_=>Nat.zero_le _
 | x::l,t,hn,hs=>by
  have hn':=List.nodup_cons.1 hn
  have hx:x ∈ t:=hs x (by simp)
  have ih:=nodup_le l (t.erase x) hn'.2 (fun y hy=>by
   have hy':y ∈ t:=hs y (by simp [hy])
   have hne:y≠x:=fun e=>hn'.1 (e▸hy)
   exact (List.mem_erase_of_ne hne).2 hy')
  rw [List.length_erase_of_mem hx] at ih
  have:0<t.length:=List.length_pos_of_mem hx
  simp only [List.length_cons]
  omega
def treeN:Nat→Nat→Nat→Nat→Nat
 | 0,_,_,_=>1
 | f+1,a,b,c=>1+(if a=0 then 0 else treeN f (a - 1) b c)+(if b=0 then 0 else treeN f a (b - 1) c)+(if c=0 then 0 else treeN f a b (c - 1))
theorem treeN_mono:∀ (f a b c a' b' c':Nat),a≤a'→b≤b'→c≤c'→treeN f a b c≤treeN f a' b' c'
 | 0,_,_,_,_,_,_,_,_,_=>Nat.le_refl _
 | f+1,a,b,c,a',b',c',h1,h2,h3=>by
  have i1:=treeN_mono f (a - 1) b c (a' - 1) b' c' (by omega) h2 h3
  have i2:=treeN_mono f a (b - 1) c a' (b' - 1) c' h1 (by omega) h3
  have i3:=treeN_mono f a b (c - 1) a' b' (c' - 1) h1 h2 (by omega)
  show 1+(if a=0 then 0 else treeN f (a - 1) b c)+(if b=0 then 0 else treeN f a (b - 1) c)+(if c=0 then 0 else treeN f a b (c - 1))≤1+(if a'=0 then 0 else treeN f (a' - 1) b' c')+(if b'=0 then 0 else treeN f a' (b' - 1) c')+(if c'=0 then 0 else treeN f a' b' (c' - 1))
  have k1:(if a=0 then 0 else treeN f (a - 1) b c)≤(if a'=0 then 0 else treeN f (a' - 1) b' c'):=by
   by_cases e:a=0
   ·rw [if_pos e];exact Nat.zero_le _
   ·rw [if_neg e,if_neg (by omega)];exact i1
  have k2:(if b=0 then 0 else treeN f a (b - 1) c)≤(if b'=0 then 0 else treeN f a' (b' - 1) c'):=by
   by_cases e:b=0
   ·rw [if_pos e];exact Nat.zero_le _
   ·rw [if_neg e,if_neg (by omega)];exact i2
  have k3:(if c=0 then 0 else treeN f a b (c - 1))≤(if c'=0 then 0 else treeN f a' b' (c' - 1)):=by
   by_cases e:c=0
   ·rw [if_pos e];exact Nat.zero_le _
   ·rw [if_neg e,if_neg (by omega)];exact i3
  omega
theorem treeN_332:treeN 8 3 3 2=1749:=by decide
def treeM (rows:List (List I3)):Nat→V4→List V4
 | 0,m=>[m]
 | f+1,m=>m::(nxM rows m).flatMap fun t=>treeM rows f t.2
def remM (rows:List (List I3)) (m:V4) (k:Nat):Nat:=(codeM rows k).length - (m.1.getD k 0).toNat
theorem rem_step {rows:List (List I3)} {m:V4} (hp:progOk rows=true) (hs:shapeOk m=true) {k:Nat} (hk:k<3) (hd:doneM rows m k=false) :
  remM rows (goM rows m k).1 k+1≤remM rows m k∧∀ j,j≠k→remM rows (goM rows m k).1 j=remM rows m j:=by
 have h1:=stepM_own hp hs hk hd
 have hb:=shape_bounds hs
 have hpc:=getD_in hb.1 (by omega) k
 have hlt:m.1.getD k 0<(codeM rows k).length:=by
  unfold doneM at hd
  rw [decide_eq_false_iff_not] at hd
  omega
 rw [goM_natC]
 refine ⟨?_,fun j hj=>?_⟩
 ·unfold remM
  omega
 ·unfold remM
  rw [stepM_other m _ hj]
theorem enab_three {rows:List (List I3)} {m:V4} (F:Int→Nat):((enabM rows m 3).map F).sum=(if canM rows m 0 then F 0 else 0)+(if canM rows m 1 then F 1 else 0)+(if canM rows m 2 then F 2 else 0):=by
 have e:enabM rows m 3=(if canM rows m 2 then (if canM rows m 1 then (if canM rows m 0 then []++[(0:Int)] else [])++[(1:Int)] else (if canM rows m 0 then []++[(0:Int)] else []))++[(2:Int)] else (if canM rows m 1 then (if canM rows m 0 then []++[(0:Int)] else [])++[(1:Int)] else (if canM rows m 0 then []++[(0:Int)] else []))):=rfl
 rw [e]
 cases canM rows m 0<;>cases canM rows m 1<;>cases canM rows m 2<;>simp<;>omega
theorem treeM_len {rows:List (List I3)} (hp:progOk rows=true):∀ (f:Nat) (m:V4),shapeOk m=true→(treeM rows f m).length≤treeN f (remM rows m 0) (remM rows m 1) (remM rows m 2)
 | 0,m,_=>Nat.le_refl _
 | f+1,m,hs=>by
  have key:∀ k:Nat,k<3→canM rows m k=true→(treeM rows f (goM rows m (k:Int)).1).length≤treeN f (remM rows (goM rows m (k:Int)).1 0) (remM rows (goM rows m (k:Int)).1 1) (remM rows (goM rows m (k:Int)).1 2)∧doneM rows m k=false:=fun k hk hc=>by
   have hd:doneM rows m k=false:=by
    unfold canM at hc
    simp at hc
    exact hc.1
   exact ⟨treeM_len hp f _ (goM_shape hp hs (halt_go hk hc)),hd⟩
  have hl:(treeM rows (f+1) m).length=1+((enabM rows m 3).map fun k=>(treeM rows f (goM rows m k).1).length).sum:=by
   show ((m::(nxM rows m).flatMap fun t=>treeM rows f t.2)).length=_
   rw [List.length_cons,List.length_flatMap]
   unfold nxM
   rw [List.map_map]
   simp only [Function.comp_def]
   omega
  rw [hl,enab_three fun k=>(treeM rows f (goM rows m k).1).length]
  have b0:(if canM rows m 0 then (treeM rows f (goM rows m 0).1).length else 0)≤(if remM rows m 0=0 then 0 else treeN f (remM rows m 0 - 1) (remM rows m 1) (remM rows m 2)):=by
   by_cases hc:canM rows m 0=true
   ·obtain ⟨k1,hd⟩:=key 0 (by omega) hc
    obtain ⟨r1,r2⟩:=rem_step hp hs (show 0<3 by omega) hd
    rw [if_pos hc,if_neg (by omega)]
    refine Nat.le_trans k1 (treeN_mono f _ _ _ _ _ _ ?_ ?_ ?_)
    ·have:remM rows (goM rows m ((0:Nat):Int)).1 0+1≤remM rows m 0:=r1
     omega
    ·exact Nat.le_of_eq (r2 1 (by omega))
    ·exact Nat.le_of_eq (r2 2 (by omega))
   ·rw [if_neg hc];exact Nat.zero_le _
  have b1:(if canM rows m 1 then (treeM rows f (goM rows m 1).1).length else 0)≤(if remM rows m 1=0 then 0 else treeN f (remM rows m 0) (remM rows m 1 - 1) (remM rows m 2)):=by
   by_cases hc:canM rows m 1=true
   ·obtain ⟨k1,hd⟩:=key 1 (by omega) hc
    obtain ⟨r1,r2⟩:=rem_step hp hs (show 1<3 by omega) hd
    rw [if_pos hc,if_neg (by omega)]
    refine Nat.le_trans k1 (treeN_mono f _ _ _ _ _ _ ?_ ?_ ?_)
    ·exact Nat.le_of_eq (r2 0 (by omega))
    ·have:remM rows (goM rows m ((1:Nat):Int)).1 1+1≤remM rows m 1:=r1
     omega
    ·exact Nat.le_of_eq (r2 2 (by omega))
   ·rw [if_neg hc];exact Nat.zero_le _
  have b2:(if canM rows m 2 then (treeM rows f (goM rows m 2).1).length else 0)≤(if remM rows m 2=0 then 0 else treeN f (remM rows m 0) (remM rows m 1) (remM rows m 2 - 1)):=by
   by_cases hc:canM rows m 2=true
   ·obtain ⟨k1,hd⟩:=key 2 (by omega) hc
    obtain ⟨r1,r2⟩:=rem_step hp hs (show 2<3 by omega) hd
    rw [if_pos hc,if_neg (by omega)]
    refine Nat.le_trans k1 (treeN_mono f _ _ _ _ _ _ ?_ ?_ ?_)
    ·exact Nat.le_of_eq (r2 0 (by omega))
    ·exact Nat.le_of_eq (r2 1 (by omega))
    ·have:remM rows (goM rows m ((2:Nat):Int)).1 2+1≤remM rows m 2:=r1
     omega
   ·rw [if_neg hc];exact Nat.zero_le _
  show _≤1+(if remM rows m 0=0 then 0 else treeN f (remM rows m 0 - 1) (remM rows m 1) (remM rows m 2))+(if remM rows m 1=0 then 0 else treeN f (remM rows m 0) (remM rows m 1 - 1) (remM rows m 2))+(if remM rows m 2=0 then 0 else treeN f (remM rows m 0) (remM rows m 1) (remM rows m 2 - 1))
  omega
theorem tree_run {rows:List (List I3)}:∀ (f:Nat) (ks:List Int) (m:V4) (fs:List I3),ks.length≤f→(runI rows m fs ks).2.2=0→(runI rows m fs ks).1 ∈ treeM rows f m
 | 0,[],m,fs,_,_=>by simp [treeM,runI]
 | 0,k::ks,m,fs,h,_=>by simp at h
 | f+1,[],m,fs,_,_=>by simp [treeM,runI]
 | f+1,k::ks,m,fs,h,hz=>by
  obtain ⟨hh,he⟩:=runI_cons hz
  rw [he] at hz ⊢
  have ih:=tree_run f ks _ _ (by simpa using h) hz
  show _ ∈ m::(nxM rows m).flatMap fun t=>treeM rows f t.2
  exact List.mem_cons_of_mem _ (List.mem_flatMap.2 ⟨_,nxM_of hh,ih⟩)
theorem run_len {rows:List (List I3)} (hp:progOk rows=true):∀ (ks:List Int) (m:V4) (fs:List I3),shapeOk m=true→(runI rows m fs ks).2.2=0→ks.length≤remM rows m 0+remM rows m 1+remM rows m 2
 | [],_,_,_,_=>Nat.zero_le _
 | k::ks,m,fs,hs,hz=>by
  obtain ⟨hh,he⟩:=runI_cons hz
  rw [he] at hz
  have ih:=run_len hp ks _ _ (goM_shape hp hs hh) hz
  obtain ⟨h0,h2,hd,hc⟩:=halt_can hh
  obtain ⟨q,rfl⟩:∃ q:Nat,k=q:=⟨k.toNat,by omega⟩
  rw [Int.toNat_natCast] at hd
  obtain ⟨r1,r2⟩:=rem_step hp hs (show q<3 by omega) hd
  have hq:q=0∨q=1∨q=2:=by omega
  simp only [List.length_cons]
  rcases hq with rfl | rfl | rfl
  ·have a:=r2 1 (by omega);have b:=r2 2 (by omega);omega
  ·have a:=r2 0 (by omega);have b:=r2 2 (by omega);omega
  ·have a:=r2 0 (by omega);have b:=r2 1 (by omega);omega
theorem small_room {rows:List (List I3)} (hp:progOk rows=true) (h0:(codeM rows 0).length≤3) (h1:(codeM rows 1).length≤3) (h2:(codeM rows 2).length≤2):(fullS rows).length≤1749:=by
 have hz:∀ k,remM rows zeroV k≤(codeM rows k).length:=fun k=>by unfold remM;omega
 have hl:=treeM_len hp 8 zeroV zero_shape
 have hm:=treeN_mono 8 _ _ _ 3 3 2 (Nat.le_trans (hz 0) h0) (Nat.le_trans (hz 1) h1) (Nat.le_trans (hz 2) h2)
 rw [treeN_332] at hm
 have hn:=nodup_le ((fullS rows).map (·.1)) (treeM rows 8 zeroV) (fullS_nodup rows) (fun x hx=>by
  obtain ⟨r,hr,rfl⟩:=List.mem_map.1 hx
  obtain ⟨j,hj,hje⟩:=List.getElem_of_mem hr
  obtain ⟨p1,p2,p3⟩:=path_run (fullS_came rows) (fullS_head rows) j j r (Nat.le_refl _) (by rw [List.getElem?_eq_getElem hj,hje])
  have hlen:=run_len hp _ zeroV [] zero_shape p2
  have a:=hz 0
  have b:=hz 1
  have c:=hz 2
  have:=tree_run 8 _ zeroV [] (show (pathS (fullS rows) j j).length≤8 by omega) p2
  rw [p1] at this
  exact this)
 rw [List.length_map] at hn
 omega


def capN (n:Nat):Nat:=Nat.min n 1000000
def cntF (rows:List (List I3)):Nat→V4→Nat
 | 0,_=>1
 | f+1,m=>if enabM rows m 3=[] then 1 else capN ((enabM rows m 3).map fun k=>cntF rows f (goM rows m k).1).sum
def leftN (rows:List (List I3)) (m:V4):Nat:=remM rows m 0+remM rows m 1+remM rows m 2
def cntM (rows:List (List I3)) (m:V4):Nat:=cntF rows (leftN rows m) m
theorem left_step {rows:List (List I3)} {m:V4} (hp:progOk rows=true) (hs:shapeOk m=true) {k:Int} (h:haltM rows m k=0):leftN rows (goM rows m k).1+1≤leftN rows m:=by
 obtain ⟨h0,h2,hd,hc⟩:=halt_can h
 obtain ⟨q,rfl⟩:∃ q:Nat,k=q:=⟨k.toNat,by omega⟩
 rw [Int.toNat_natCast] at hd
 obtain ⟨r1,r2⟩:=rem_step hp hs (show q<3 by omega) hd
 unfold leftN
 have hq:q=0∨q=1∨q=2:=by omega
 rcases hq with rfl | rfl | rfl
 ·have a:=r2 1 (by omega);have b:=r2 2 (by omega);omega
 ·have a:=r2 0 (by omega);have b:=r2 2 (by omega);omega
 ·have a:=r2 0 (by omega);have b:=r2 1 (by omega);omega
theorem enab_halt {rows:List (List I3)} {m:V4} {k:Int} (h:k ∈ enabM rows m 3):haltM rows m k=0:=(nxM_mem (t:=(k,(goM rows m k).1)) (List.mem_map.2 ⟨k,h,rfl⟩)).1
theorem enab_none {rows:List (List I3)} {m:V4} (hp:progOk rows=true) (hs:shapeOk m=true) (h:leftN rows m=0):enabM rows m 3=[]:=by
 rw [List.eq_nil_iff_forall_not_mem]
 intro k hk
 have:=left_step hp hs (enab_halt hk)
 omega


def Ap3 (v u:Value):Prop:=∀ g,v.ownBlock=some g→u.ownBlock≠some g
theorem Ap3.symm {v u:Value} (h:Ap3 v u):Ap3 u v:=fun g hg h2=>h g h2 hg
theorem Ap3.or {v u:Value} (h:Ap3 v u):v.ownBlock=none∨v.ownBlock≠u.ownBlock:=by
 cases e:v.ownBlock with
 | none=>exact .inl rfl
 | some g=>exact .inr fun e2=>h g e e2.symm
theorem Ap3.types {w:World} {B B' e e' s s' n n':Nat} {v v':Value} {xs xs':List Value} (h:w.ownsRow B e s v n xs) (h':w.ownsRow B' e' s' v' n' xs') (he:e≠e'):Ap3 v v':=fun g hg h2=>by
 rcases owns_ne h h' he with h3 | h3
 ·rw [h3] at hg;cases hg
 ·exact h3 (hg.trans h2.symm)
theorem own_lt3 {w:World} {B e s n:Nat} {v:Value} {xs:List Value} (h:w.ownsRow B e s v n xs) {g:Nat} (hg:v.ownBlock=some g):B≤g∧g<w.heap.size:=by
 rcases h.2 with ⟨rfl,_⟩ | ⟨g',cap,cur,rfl,hb,hgg,_⟩
 ·simp [Value.ownBlock] at hg
 ·simp [Value.ownBlock] at hg
  subst hg
  refine ⟨hb,?_⟩
  rcases Nat.lt_or_ge g' w.heap.size with h1 | h1
  ·exact h1
  ·rw [Array.getElem?_eq_none h1] at hgg;cases hgg
structure Tri (w:World) (B:Nat) (v1 v2 v3:Value) (ts:List ByteArray) (fs bs:List Int):Prop where
 ks:w.ownsRow B 9 1 v1 ts.length (ts.map Value.string)
 fr:w.ownsRow B 3 1 v2 fs.length (fs.map (Value.int .i64))
 bw:w.ownsRow B 3 1 v3 bs.length (bs.map (Value.int .i64))
 ap:Ap3 v2 v3
theorem Tri.below {w w':World} {B:Nat} {v1 v2 v3:Value} {ts:List ByteArray} {fs bs:List Int} (h:Tri w B v1 v2 v3 ts fs bs) (hb:Below w.heap.size w w'):Tri w' B v1 v2 v3 ts fs bs:=
 ⟨owns_below h.ks hb,owns_below h.fr hb,owns_below h.bw hb,h.ap⟩
structure Off3 (wi w:World) (v1 v2 v3 u1 u2 u3:Value):Prop where
 size:wi.heap.size≤w.heap.size
 keep:∀ k,k<wi.heap.size→v1.ownBlock≠some k→v2.ownBlock≠some k→v3.ownBlock≠some k→w.heap[k]?=wi.heap[k]?
 at1:u1.ownBlock=v1.ownBlock∨∃ g,wi.heap.size≤g∧u1.ownBlock=some g
 at2:u2.ownBlock=v2.ownBlock∨∃ g,wi.heap.size≤g∧u2.ownBlock=some g
 at3:u3.ownBlock=v3.ownBlock∨∃ g,wi.heap.size≤g∧u3.ownBlock=some g
theorem Off3.refl (w:World) (v1 v2 v3:Value):Off3 w w v1 v2 v3 v1 v2 v3:=⟨Nat.le_refl _,fun _ _ _ _ _=>rfl,.inl rfl,.inl rfl,.inl rfl⟩
theorem Off3.below {wi w w':World} {v1 v2 v3 u1 u2 u3:Value} (h:Off3 wi w v1 v2 v3 u1 u2 u3) (hb:Below w.heap.size w w'):Off3 wi w' v1 v2 v3 u1 u2 u3:=
 ⟨Nat.le_trans h.size hb.size,fun k hk a b c=>(hb.block k (Nat.lt_of_lt_of_le hk h.size)).trans (h.keep k hk a b c),h.at1,h.at2,h.at3⟩
theorem Off3.row {wi w:World} {v1 v2 v3 u1 u2 u3:Value} (h:Off3 wi w v1 v2 v3 u1 u2 u3) {B e s n:Nat} {v:Value} {xs:List Value} (ho:wi.ownsRow B e s v n xs) (a1:Ap3 v v1) (a2:Ap3 v v2) (a3:Ap3 v v3):w.ownsRow B e s v n xs:=by
 have hlt:=fun g hg=>(own_lt3 ho (g:=g) hg).2
 refine ⟨ho.1,?_⟩
 rcases ho.2 with hn | ⟨g,cap,cur,rfl,hb,hgg,rest⟩
 ·exact .inl hn
 ·exact .inr ⟨g,cap,cur,rfl,hb,(h.keep g (hlt g rfl) (a1 g rfl) (a2 g rfl) (a3 g rfl)).trans hgg,rest⟩

/-! The rows that go with the list of states. -/
def keysL (S:List (Rec6 V4)):List ByteArray:=S.map fun r=>keyT r.1
theorem keysL_app (S:List (Rec6 V4)) (r:Rec6 V4):keysL (S++[r])=keysL S++[keyT r.1]:=by simp [keysL]


theorem btV_str6 (xs:List Int) (h:∀ x ∈ xs,0≤x∧x≤255) (i:Nat) (hi:i<xs.length):btV (strOfNums xs) i=xs.getD i 0:=by
 have hx:=h xs[i] (List.getElem_mem hi)
 unfold btV
 simp [strOfNums,List.getD,List.getElem?_eq_getElem hi]
 omega
theorem keyT_size6 {m:V4} (h:shapeOk m=true):(keyT m).size=15:=by
 obtain ⟨l0,l1,l2,l3,_⟩:=shape_parts h
 unfold keyT
 rw [strOfNums_size,List.length_map]
 unfold allOf
 simp [l0,l1,l2,l3]
theorem key_back6 {m:V4} (h:shapeOk m=true):bytesV (keyT m)=m:=by
 obtain ⟨l0,l1,l2,l3,hd⟩:=shape_parts h
 have hb:∀ i,i<15→btV (keyT m) i - 48=(allOf m).getD i 0:=fun i hi=>by
  have hl:(allOf m).length=15:=by unfold allOf;simp [l0,l1,l2,l3]
  unfold keyT
  rw [btV_str6 _ (fun x hx=>by obtain ⟨z,hz,rfl⟩:=List.mem_map.1 hx;have:=hd z hz;omega) i (by rw [List.length_map];omega)]
  have e:((allOf m).map fun z=>48+z).getD i 0=48+(allOf m).getD i 0:=by
   have hi':i<(allOf m).length:=by omega
   simp [List.getD,List.getElem?_eq_getElem hi']
  rw [e]
  omega
 have b0:=hb 0 (by omega)
 have b1:=hb 1 (by omega)
 have b2:=hb 2 (by omega)
 have b3:=hb 3 (by omega)
 have b4:=hb 4 (by omega)
 have b5:=hb 5 (by omega)
 have b6:=hb 6 (by omega)
 have b7:=hb 7 (by omega)
 have b8:=hb 8 (by omega)
 have b9:=hb 9 (by omega)
 have b10:=hb 10 (by omega)
 have b11:=hb 11 (by omega)
 have b12:=hb 12 (by omega)
 have b13:=hb 13 (by omega)
 have b14:=hb 14 (by omega)
 clear hb hd l0 l1 l2 l3
 obtain ⟨p0,p1,p2,v0,v1,v2,v3,h0,h1,x0,y0,x1,y1,x2,y2,rfl⟩:=shape_lists h
 unfold bytesV partV fillL
 simp [List.range_succ,b0,b1,b2,b3,b4,b5,b6,b7,b8,b9,b10,b11,b12,b13,b14]
 simp [allOf]
theorem key_inj6 {m q:V4} (h:shapeOk m=true) (h':shapeOk q=true) (e:keyT m=keyT q):m=q:=by rw [← key_back6 h,e,key_back6 h']


structure Out6 (rows:List (List I3)) (i:Nat) (S:List (Rec6 V4)):Prop where
 at9:i≤S.length
 pos:S≠[]
 len:S.length≤2000
 shp:Shaped S
 run:srch (nxM rows) (2000 - i) i S=fullS rows
structure In6 (rows:List (List I3)) (i j:Nat) (m:V4) (S:List (Rec6 V4)):Prop where
 at9:i<S.length
 len:S.length≤2000
 shp:Shaped S
 run:srch (nxM rows) (1999 - i) (i+1) (onS i S ((nxM rows m).drop j))=fullS rows
theorem Out6.go {rows:List (List I3)} {i:Nat} {S:List (Rec6 V4)} (h:Out6 rows i S) (hi:i<S.length):In6 rows i 0 (S[i]'hi).1 S:=by
 refine ⟨hi,h.len,h.shp,?_⟩
 have e:=h.run
 have hl:=h.len
 rw [show 2000 - i=(1999 - i)+1 by omega,srch_go hi] at e
 exact e


def ixS:List (Rec6 V4)→V4→Nat
 | [],_=>0
 | r::S,x=>if r.1=x then 0 else ixS S x+1
theorem ixS_app:∀ {S:List (Rec6 V4)} {x:V4} (T:List (Rec6 V4)),x ∈ S.map (·.1)→ixS (S++T) x=ixS S x
 | [],_,_,h=>by simp at h
 | r::S,x,T,h=>by
  show (if r.1=x then 0 else ixS (S++T) x+1)=if r.1=x then 0 else ixS S x+1
  split
  ·rfl
  ·rename_i hne
   have h2:x ∈ S.map (·.1):=by
    rcases List.mem_cons.1 (by simpa using h:x ∈ r.1::S.map (·.1)) with h3 | h3
    ·exact absurd h3.symm hne
    ·exact h3
   rw [ixS_app T h2]
theorem ixS_new:∀ {S:List (Rec6 V4)} {x:V4} (i:Nat) (k:Int),x ∉ S.map (·.1)→ixS (S++[(x,i,k)]) x=S.length
 | [],x,i,k,_=>by simp [ixS]
 | r::S,x,i,k,h=>by
  have h1:r.1≠x:=fun e=>h (by simp [e])
  have h2:x ∉ S.map (·.1):=fun e=>h (by simpa using Or.inr e)
  show (if r.1=x then 0 else ixS (S++[(x,i,k)]) x+1)=_
  rw [if_neg h1,ixS_new i k h2]
  rfl
def mvOf (rows:List (List I3)) (S:List (Rec6 V4)) (m:V4) (k:Int):I4:=((goM rows m k).2,k,m.1.getD k.toNat 0,(ixS S (goM rows m k).1:Int))
def mvsOf (rows:List (List I3)) (S:List (Rec6 V4)) (m:V4):List I4:=(enabM rows m 3).map (mvOf rows S m)
structure NumD (D:DataW Unit) (S:List (Rec6 V4)):Prop where
 has:∀ t:ByteArray,Maps.has D (.string t.data.toList)=true↔t ∈ keysL S
 at9:∀ x,x ∈ S.map (·.1)→∀ z,D.atKey (.string (keyT x).data.toList) z=.lit (.int .i64 (ixS S x))
theorem lit_ne {s t:ByteArray} (h:s≠t):(Lit.string s.data.toList)≠Lit.string t.data.toList:=fun e=>by
 injection e with e
 exact h (ByteArray.ext (Array.ext' e))
theorem NumD.put {D:DataW Unit} {S:List (Rec6 V4)} (h:NumD D S) (hm:Maps.IsMap D) (hS:Shaped S) {x:V4} (hx:shapeOk x=true) (hn:x ∉ S.map (·.1)) (i:Nat) (k:Int) :
  NumD (D.put (.string (keyT x).data.toList) (.lit (.int .i64 S.length))) (S++[(x,i,k)]):=by
 have hkl:WideAt.IsKeyLit (.string (keyT x).data.toList):=trivial
 refine ⟨fun t=>?_,fun y hy z=>?_⟩
 ·rw [keysL_app]
  by_cases e:t=keyT x
  ·subst e
   rw [Maps.has_put_same hm hkl]
   simp
  ·rw [Maps.has_put_other (lit_ne e),h.has]
   simp [e]
 ·by_cases e:y=x
  ·subst e
   rw [Maps.atKey_put_same hm hkl,ixS_new i k hn]
  ·have hy2:y ∈ S.map (·.1):=by
    rcases List.mem_append.1 (by simpa using hy:y ∈ S.map (·.1)++[x]) with h3 | h3
    ·exact h3
    ·exact absurd (by simpa using h3) e
   obtain ⟨r,hr,rfl⟩:=List.mem_map.1 hy2
   have hk:keyT r.1≠keyT x:=fun e2=>e (key_inj6 (hS r hr) hx e2)
   rw [Maps.atKey_put_other (lit_ne hk),h.at9 _ hy2,ixS_app _ hy2]

/-! The records of states: 22 cells each. -/
def rcC (cs:Sl × Sl × Sl) (r:Rec6 V4) (mv:Value):List Value:=.string (keyT r.1)::(machCells cs.1.val cs.2.1.val cs.2.2.val r.1++[.int .i64 r.2.1,.int .i64 r.2.2,mv])
theorem rcC_len (cs:Sl × Sl × Sl) (r:Rec6 V4) (mv:Value):(rcC cs r mv).length=22:=rfl
def rcF (cs:Sl × Sl × Sl) (L:List (Rec6 V4 × Value)):List Value:=L.flatMap fun x=>rcC cs x.1 x.2
theorem rcF_at (cs:Sl × Sl × Sl):∀ (L:List (Rec6 V4 × Value)) (i j:Nat) (x:Rec6 V4 × Value),L[i]?=some x→j<22→(rcF cs L)[i*22+j]?=(rcC cs x.1 x.2)[j]?
 | [],_,_,_,h,_=>by simp at h
 | y::L,0,j,x,h,hj=>by
  simp at h
  subst h
  show (rcC cs y.1 y.2++rcF cs L)[0*22+j]?=_
  rw [List.getElem?_append_left (by rw [rcC_len];omega)]
  congr 1
  omega
 | y::L,i+1,j,x,h,hj=>by
  have ih:=rcF_at cs L i j x (by simpa using h) hj
  show (rcC cs y.1 y.2++rcF cs L)[(i+1)*22+j]?=_
  rw [List.getElem?_append_right (by rw [rcC_len];omega),rcC_len,← ih]
  congr 1
  omega


structure SpcD (w:World) (B nb:Nat) (vs:Value) (cs:Sl × Sl × Sl) (M:V4→List I4) (L:List (Rec6 V4 × Value)) (d:Nat):Prop where
 row:w.ownsRow B 101 22 vs L.length (rcF cs L)
 map:∃ D:DataW Unit,w.ownsMap Tryz.prog 9 (plainElem Tryz.prog 3) nb L.length D∧NumD D (L.map (·.1))
 mvs:∀ i r mv,i<d→L[i]?=some (r,mv)→w.ownsRow B 194 4 mv (M r.1).length (flat4 (M r.1))
 nil:∀ i r mv,d≤i→L[i]?=some (r,mv)→mv=.slice none 0 0
 low:B≤nb
structure KeptS (w w':World) (X nb:Nat) (vs:Value):Prop where
 os:w'.os=w.os
 tape:w'.tape=w.tape
 output:w'.output=w.output
 size:w.heap.size≤w'.heap.size
 block:∀ k,k<w.heap.size→k≠X→k≠nb→vs.ownBlock≠some k→w'.heap[k]?=w.heap[k]?
def MovedS (w:World) (vs vs':Value):Prop:=vs'.ownBlock=vs.ownBlock∨∃ g,w.heap.size≤g∧vs'.ownBlock=some g
theorem MovedS.refl (w:World) (vs:Value):MovedS w vs vs:=.inl rfl
theorem MovedS.trans {w w':World} {a b c:Value} (h:MovedS w a b) (hs:w.heap.size≤w'.heap.size) (k:MovedS w' b c):MovedS w a c:=by
 rcases k with k | ⟨g,hg,k⟩
 ·unfold MovedS
  rw [k]
  exact h
 ·exact .inr ⟨g,Nat.le_trans hs hg,k⟩
theorem KeptS.refl (w:World) (X nb:Nat) (vs:Value):KeptS w w X nb vs:=⟨rfl,rfl,rfl,Nat.le_refl _,fun _ _ _ _ _=>rfl⟩
theorem KeptS.trans {a b c:World} {X nb:Nat} {v v':Value} (h:KeptS a b X nb v) (hm:MovedS a v v') (k:KeptS b c X nb v'):KeptS a c X nb v:=
 ⟨k.os.trans h.os,k.tape.trans h.tape,k.output.trans h.output,Nat.le_trans h.size k.size,fun j hj h1 h2 h3=>(k.block j (Nat.lt_of_lt_of_le hj h.size) h1 h2 (fun e=>by
  rcases hm with hm | ⟨g,hg,hm⟩
  ·exact h3 (hm▸e)
  ·rw [hm] at e;cases e;omega)).trans (h.block j hj h1 h2 h3)⟩
theorem KeptS.below {a b:World} {X nb B:Nat} {v:Value} (h:KeptS a b X nb v) (hX:B≤X) (hn:B≤nb) (hv:∀ k,v.ownBlock=some k→B≤k) (hB:B≤a.heap.size):Below B a b:=
 ⟨h.os,h.tape,h.output,h.size,fun k hk=>h.block k (by omega) (by omega) (by omega) (fun e=>by have:=hv k e;omega)⟩
theorem map_blk {w:World} {nb n g t:Nat} {D:DataW Unit} {cs:List Value} (h:w.ownsMap Tryz.prog 9 (plainElem Tryz.prog 3) nb n D) (hB:Blk w g t cs):g≠nb:=by
 rintro rfl
 obtain ⟨es,clock,hb,_⟩:=h
 unfold Blk at hB
 rw [hb] at hB
 simp at hB
theorem map_own {w:World} {nb n B e s k:Nat} {v:Value} {xs:List Value} {D:DataW Unit} (h:w.ownsMap Tryz.prog 9 (plainElem Tryz.prog 3) nb n D) (ho:w.ownsRow B e s v k xs):v.ownBlock≠some nb:=by
 intro e2
 obtain ⟨es,clock,hb,_⟩:=h
 rcases ho.2 with ⟨rfl,_⟩ | ⟨g,cap,cur,rfl,_,hg,_⟩
 ·simp [Value.ownBlock] at e2
 ·simp [Value.ownBlock] at e2
  subst e2
  rw [hb] at hg
  simp at hg
section
variable {w w' : World} {B X nb d : Nat} {vs : Value} {cs : Sl × Sl × Sl} {M : V4 → List I4} {L : List (Rec6 V4 × Value)}
theorem SpcD.below (h:SpcD w B nb vs cs M L d) (hb:Below w.heap.size w w'):SpcD w' B nb vs cs M L d:=by
 obtain ⟨D,hm,hn⟩:=h.map
 exact ⟨owns_below h.row hb,⟨D,hm.kept (row:=none) ⟨hb.os,hb.tape,hb.output,hb.size,fun k hk _=>hb.block k hk⟩ (by simp),hn⟩,fun i r mv hi hr=>owns_below (h.mvs i r mv hi hr) hb,h.nil,h.low⟩
theorem SpcD.grown {g t:Nat} {cs':List Value} (h:SpcD w B nb vs cs M L d) (hg:w.grownBy w' (some g)) (hB:Blk w g t cs') (h1:101≠t) (h2:194≠t):SpcD w' B nb vs cs M L d:=by
 obtain ⟨D,hm,hn⟩:=h.map
 refine ⟨h.row.kept hg (.inr (own_ne_blk9 h.row hB h1)),⟨D,hm.kept hg (fun e=>map_blk hm hB (by cases e;rfl)),hn⟩,fun i r mv hi hr=>?_,h.nil,h.low⟩
 have:=h.mvs i r mv hi hr
 exact this.kept hg (.inr (own_ne_blk9 this hB h2))
theorem KeptS.row (k:KeptS w w' X nb vs) (h:SpcD w B nb vs cs M L d) {t:Nat} {cs':List Value} (hX:Blk w X t cs') {B' e s n:Nat} {v:Value} {xs:List Value} (ho:w.ownsRow B' e s v n xs) (h1:e≠101) (h2:e≠t):w'.ownsRow B' e s v n xs:=by
 obtain ⟨D,hm,_⟩:=h.map
 have hlt:=fun g hg=>(own_lt3 ho (g:=g) hg).2
 have hnX:=own_ne_blk9 ho hX h2
 have hnm:=map_own hm ho
 have hap:=Ap3.types ho h.row h1
 refine ⟨ho.1,?_⟩
 rcases ho.2 with hn | ⟨g,cap,cur,rfl,hb,hgg,rest⟩
 ·exact .inl hn
 ·refine .inr ⟨g,cap,cur,rfl,hb,(k.block g (hlt g rfl) (fun e=>hnX (by rw [← e];rfl)) (fun e=>hnm (by rw [← e];rfl)) (hap g rfl)).trans hgg,rest⟩
theorem KeptS.blk (k:KeptS w w' X nb vs) (h:SpcD w B nb vs cs M L d) {t:Nat} {cs':List Value} (hX:Blk w X t cs') {g e:Nat} {xs:List Value} (p:Blk w g e xs) (h1:101≠e) (h2:t≠e):Blk w' g e xs:=by
 obtain ⟨D,hm,_⟩:=h.map
 exact (k.block g p.lt (fun e2=>blk_ne hX p h2 e2.symm) (map_blk hm p) (own_ne_blk9 h.row p h1)).trans p
theorem SpcD.at9 (h:SpcD w B nb vs cs M L d) {i:Nat} {r:Rec6 V4} {mv:Value} (hr:L[i]?=some (r,mv)):∃ g c,vs=.slice (some ⟨g,0,none⟩) L.length c∧g<w.heap.size∧w.rangeAt g (i*22) (rcC cs r mv):=by
 have hl:=(List.getElem?_eq_some_iff.1 hr).1
 rcases h.row.2 with ⟨_,h0⟩ | ⟨g,c,cur,hv,_⟩
 ·omega
 ·refine ⟨g,c,hv,(own_lt3 h.row (by rw [hv];rfl)).2,fun j v hj=>?_⟩
  have hj2:j<22:=(List.getElem?_eq_some_iff.1 hj).1
  have h9:=h.row
  rw [hv] at h9
  rw [h9.cellAt (i*22+j) (by omega),rcF_at cs L i j _ hr hj2]
  exact hj
end
end Go.Proofs.YtgmhhegckcionaaGreatDoor
