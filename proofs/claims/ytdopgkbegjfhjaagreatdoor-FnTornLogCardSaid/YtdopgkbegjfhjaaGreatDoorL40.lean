/-
  Joined: RisI, EokI, TxeI.
-/
import Derived.Shelf.Small.Strs
import Derived.Test.YtdopgkbegjfhjaaGreatDoorL13
import Derived.Test.YtdopgkbegjfhjaaGreatDoorL37
import Derived.Test.YtdopgkbegjfhjaaGreatDoorL39

namespace Go.Proofs.YtdopgkbegjfhjaaGreatDoor
set_option maxRecDepth 100000
set_option maxHeartbeats 16000000
open Go.RowKit Go.Sort
set_option linter.unusedVariables false
set_option linter.unusedSimpArgs false

theorem cmpCompare9 (x y:Int) (w:World):Calls Tryz.prog 132 #[.int .i64 x,.int .i64 y] w fun e w'=>e=.returned (.int .i64 (cmpI x y))∧Below w.heap.size w w':=by
 refine (cmpCompare_is x y w).mono ?_
 rintro e w' ⟨rfl,rfl⟩
 exact ⟨rfl,Below.refl _ _⟩
theorem compareBugs9 (x y:I3) (w:World):Calls Tryz.prog 135 #[.agg #[.int .i64 x.1,.int .i64 x.2.1,.int .i64 x.2.2],.agg #[.int .i64 y.1,.int .i64 y.2.1,.int .i64 y.2.2]] w fun e w'=>e=.returned (.int .i64 (cmpB x y))∧Below w.heap.size w w':=by
 refine (compareBugs_is x y w).mono ?_
 rintro e w' ⟨rfl,q,os,rfl⟩
 refine ⟨rfl,rfl,rfl,rfl,?_,fun k hk=>?_⟩
 ·simp [grow,World.drewN]
 ·simp only [grow,World.drewN]
  rw [Array.getElem?_append_left hk]
theorem cmpI_lt (x y:Int):cmpI x y<0↔decide (x<y)=true:=by
 unfold cmpI
 by_cases h1:x<y
 ·simp [h1]
 ·by_cases h2:y<x
  ·simp [h1,h2]
  ·simp [h1,h2]
theorem cmpB_lt9 (x y:I3):cmpB x y<0↔ltB x y=true:=by
 rw [← cmpB_lt x y]
 unfold ltOf
 simp
def stI (xs:List Int) (i:Nat):Bool:=decide (i=0) || (decide ((xs.getD (i - 1) 0)<(xs.getD i 0)))
def upI (xs:List Int):Bool:=(List.range xs.length).all (stI xs)
theorem risesI_is (a:Option Addr) (n cap:Nat) (xs:List Int) (w:World) (h:Ints .i64 w a n cap xs) :
  Calls Tryz.prog 131 #[.slice a n cap,.func (.func 132) #[] #[]] w fun e w'=>e=.returned (.bool (upI xs))∧Below w.heap.size w w':=by
 obtain ⟨r,hr⟩:∃ r,r=upI xs:=⟨_,rfl⟩
 rw [← hr]
 have HR:Hid (r=upI xs):=hr
 clear hr
 have hl:=h.1
 have hnm:n≤maxLen:=Nat.le_trans h.2.1 h.2.2.1
 unfold maxLen at hnm
 go_enter Tryz.func131,Tryz.ntmps131
 go_wp2_with fail
 go_loopw [5] (fun si wr=>∃ k:Nat,1≤k∧(k≤n∨k=1)∧si=.int .i64 k∧Hid (∀ i,i<k→stI xs i=true)∧Below w.heap.size w wr) (fun si _=>n - (intOf si).toNat)
 case atStart => exact ⟨1, by omega, .inr rfl, rfl, (fun i hi => by obtain rfl : i = 0 := by omega
                                                                    rfl),Below.refl _ _⟩
 case round =>
  obtain ⟨k,hk1,hk,rfl,HK,bw⟩:=hrel
  by_cases hlt:k<n
  ·obtain ⟨m,rfl⟩:∃ m,k=m+1:=⟨k - 1,by omega⟩
   have bd:Below w.heap.size w wr.drew:=bel8 bw (by go_grown)
   obtain ⟨_,_,_,hcase⟩:=h.below bd
   rcases hcase with e0 | ⟨b,off,rfl,hb,hc⟩
   ·omega
   have x0:=hc m (by omega)
   have y0:=hc (m+1) hlt
   have hst:stI xs (m+1)=decide (xs.getD m 0<xs.getD (m+1) 0):=by unfold stI;simp
   have kC:=fun W=>cmpCompare9 (xs.getD m 0) (xs.getD (m+1) 0) W
   have hcl:=cmpI_lt (xs.getD m 0) (xs.getD (m+1) 0)
   generalize cmpI (xs.getD m 0) (xs.getD (m+1) 0)=c at *
   generalize xs.getD m 0=x at *
   generalize xs.getD (m+1) 0=y at *
   have hlt2:((m+1:Nat):Int)<(n:Int):=by omega
   have hm0:(0:Int)≤(m:Int):=by omega
   have HC:Hid (c<0↔decide (x<y)=true):=hcl
   have HT:Hid (stI xs (m+1)=decide (x<y)):=hst
   clear hcl hst hc hb
   generalize decide (x<y)=lt at *
   by_cases hneg:c<0
   ·have HK2:Hid (∀ i,i<m+1+1→stI xs i=true):=fun i hi=>by
     by_cases e:i=m+1
     ·rw [e,HT.out];exact HC.out.1 hneg
     ·exact HK.out i (by omega)
    clear HK HC HT
    have hng:¬ (0:Int)≤c:=by omega
    have hge:decide ((0:Int)≤c)=false:=by simp;omega
    clear hneg
    go_wp2_with fail
    refine wp_region_held_drew (S:=(fun w'=>w'.cell? ⟨b,off+m,none⟩=some (.int .i64 x)∧w'.cell? ⟨b,off+(m+1),none⟩=some (.int .i64 y))) (by kernel_rfl) ⟨x0,y0⟩ (fun hS0=>?_)
    refine tkv 0 12 (.func (.func 132) #[] #[]) ?_
    refine tkv 1 13 (.slice (some ⟨b,off,none⟩) n cap) ?_
    refine tkv 2 14 (.int .i64 ((m+1:Nat):Int)) ?_
    refine tkv 3 15 (.int .i64 (m:Int)) ?_
    refine tkv 4 16 (.pointer (some ⟨b,off+m,none⟩)) ?_
    refine tkv 5 17 (.int .i64 x) ?_
    refine tkv 6 18 (.slice (some ⟨b,off,none⟩) n cap) ?_
    refine tkv 7 19 (.int .i64 ((m+1:Nat):Int)) ?_
    refine tkv 8 20 (.pointer (some ⟨b,off+(m+1),none⟩)) ?_
    refine tkv 9 21 (.int .i64 y) ?_
    refine tkr 10 22 (fun K hK=>?_)
    go_simp
    refine (kC _).mono ?_
    rintro e w5 ⟨rfl,hb5⟩
    go_wp2_with fail
    refine hK.out _ _ ?_ (fun hS5=>?_)
    ·exact ⟨cells_kept hb5 _ _ hS0.1,cells_kept hb5 _ _ hS0.2⟩
    clear hK
    refine tkv 11 23 (.bool false) ?_
    refine wpAnyH_done (by kernel_rfl) ?_ _
    replace bw:=bel8 bd hb5
    clear hS0 hS5 hb5 bd x0 y0
    go_wp2
    go_roundw
    case rel=>exact ⟨m+1+1,by omega,.inl (by omega),by go_num,HK2,bw⟩
    case measure=>simp [intOf];omega
   ·have HF:Hid (r=false):=by
     rw [Hid,HR.out]
     refine allR_false (k:=m+1) (by omega) ?_
     rw [HT.out]
     cases hq:lt
     ·rfl
     ·exact absurd (HC.out.2 hq) hneg
    clear HK HC HT
    have hpo:(0:Int)≤c:=by omega
    have hge:decide ((0:Int)≤c)=true:=by simp;omega
    clear hneg
    go_wp2_with fail
    refine wp_region_held_drew (S:=(fun w'=>w'.cell? ⟨b,off+m,none⟩=some (.int .i64 x)∧w'.cell? ⟨b,off+(m+1),none⟩=some (.int .i64 y))) (by kernel_rfl) ⟨x0,y0⟩ (fun hS0=>?_)
    refine tkv 0 12 (.func (.func 132) #[] #[]) ?_
    refine tkv 1 13 (.slice (some ⟨b,off,none⟩) n cap) ?_
    refine tkv 2 14 (.int .i64 ((m+1:Nat):Int)) ?_
    refine tkv 3 15 (.int .i64 (m:Int)) ?_
    refine tkv 4 16 (.pointer (some ⟨b,off+m,none⟩)) ?_
    refine tkv 5 17 (.int .i64 x) ?_
    refine tkv 6 18 (.slice (some ⟨b,off,none⟩) n cap) ?_
    refine tkv 7 19 (.int .i64 ((m+1:Nat):Int)) ?_
    refine tkv 8 20 (.pointer (some ⟨b,off+(m+1),none⟩)) ?_
    refine tkv 9 21 (.int .i64 y) ?_
    refine tkr 10 22 (fun K hK=>?_)
    go_simp
    refine (kC _).mono ?_
    rintro e w5 ⟨rfl,hb5⟩
    go_wp2_with fail
    refine hK.out _ _ ?_ (fun hS5=>?_)
    ·exact ⟨cells_kept hb5 _ _ hS0.1,cells_kept hb5 _ _ hS0.2⟩
    clear hK
    refine tkv 11 23 (.bool true) ?_
    refine wpAnyH_done (by kernel_rfl) ?_ _
    replace bw:=bel8 bd hb5
    clear hS0 hS5 hb5 bd x0 y0
    go_wp2
    go_ret
    exact ⟨by rw [HF.out];rfl,bw⟩
  ·have HF:Hid (r=true):=by
    rw [Hid,HR.out]
    exact allR_true fun i hi=>HK.out i (by omega)
   have hlt2:¬ (k:Int)<(n:Int):=by omega
   clear HK
   go_wp2
   go_ret
   exact ⟨by rw [HF.out];rfl,bw⟩
def stB (xs:List I3) (i:Nat):Bool:=decide (i=0) || (ltB (xs.getD (i - 1) (0,0,0)) (xs.getD i (0,0,0)))
def upB (xs:List I3):Bool:=(List.range xs.length).all (stB xs)
theorem risesB_is (a:Option Addr) (n cap:Nat) (xs:List I3) (w:World) (h:Instrs w a n cap xs) :
  Calls Tryz.prog 134 #[.slice a n cap,.func (.func 135) #[] #[]] w fun e w'=>e=.returned (.bool (upB xs))∧Below w.heap.size w w':=by
 obtain ⟨r,hr⟩:∃ r,r=upB xs:=⟨_,rfl⟩
 rw [← hr]
 have HR:Hid (r=upB xs):=hr
 clear hr
 have hl:=h.1
 have hnm:n≤maxLen:=Nat.le_trans h.2.1 h.2.2.1
 unfold maxLen at hnm
 go_enter Tryz.func134,Tryz.ntmps134
 go_wp2_with fail
 go_loopw [5] (fun si wr=>∃ k:Nat,1≤k∧(k≤n∨k=1)∧si=.int .i64 k∧Hid (∀ i,i<k→stB xs i=true)∧Below w.heap.size w wr) (fun si _=>n - (intOf si).toNat)
 case atStart => exact ⟨1, by omega, .inr rfl, rfl, (fun i hi => by obtain rfl : i = 0 := by omega
                                                                    rfl),Below.refl _ _⟩
 case round =>
  obtain ⟨k,hk1,hk,rfl,HK,bw⟩:=hrel
  by_cases hlt:k<n
  ·obtain ⟨m,rfl⟩:∃ m,k=m+1:=⟨k - 1,by omega⟩
   have bd:Below w.heap.size w wr.drew:=bel8 bw (by go_grown)
   obtain ⟨_,_,_,_,hcase⟩:=h.below bd
   rcases hcase with e0 | ⟨b,off,rfl,hb,hc⟩
   ·omega
   obtain ⟨x0,x1,x2⟩:=hc m (by omega)
   obtain ⟨y0,y1,y2⟩:=hc (m+1) hlt
   have hst:stB xs (m+1)=ltB (xs.getD m (0,0,0)) (xs.getD (m+1) (0,0,0)):=by unfold stB;simp
   have kC:=fun W=>compareBugs9 (xs.getD m (0,0,0)) (xs.getD (m+1) (0,0,0)) W
   have hcl:=cmpB_lt9 (xs.getD m (0,0,0)) (xs.getD (m+1) (0,0,0))
   generalize cmpB (xs.getD m (0,0,0)) (xs.getD (m+1) (0,0,0))=c at *
   generalize xs.getD m (0,0,0)=x at *
   generalize xs.getD (m+1) (0,0,0)=y at *
   generalize ltB x y=lt at *
   obtain ⟨p0,p1,p2⟩:=x
   obtain ⟨q0,q1,q2⟩:=y
   simp only at x0 x1 x2 y0 y1 y2 kC
   have hlt2:((m+1:Nat):Int)<(n:Int):=by omega
   have hm0:(0:Int)≤(m:Int):=by omega
   have HC:Hid (c<0↔lt=true):=hcl
   have HT:Hid (stB xs (m+1)=lt):=hst
   clear hcl hst hc hb
   skip
   by_cases hneg:c<0
   ·have HK2:Hid (∀ i,i<m+1+1→stB xs i=true):=fun i hi=>by
     by_cases e:i=m+1
     ·rw [e,HT.out];exact HC.out.1 hneg
     ·exact HK.out i (by omega)
    clear HK HC HT
    have hng:¬ (0:Int)≤c:=by omega
    have hge:decide ((0:Int)≤c)=false:=by simp;omega
    clear hneg
    go_wp2_with fail
    refine wp_region_held_drew (S:=(fun w'=>w'.cell? ⟨b,off+m*3,none⟩=some (.int .i64 p0)∧w'.cell? ⟨b,off+m*3+1,none⟩=some (.int .i64 p1)∧w'.cell? ⟨b,off+m*3+2,none⟩=some (.int .i64 p2)∧w'.cell? ⟨b,off+(m+1)*3,none⟩=some (.int .i64 q0)∧w'.cell? ⟨b,off+(m+1)*3+1,none⟩=some (.int .i64 q1)∧w'.cell? ⟨b,off+(m+1)*3+2,none⟩=some (.int .i64 q2))) (by kernel_rfl) ⟨x0,x1,x2,y0,y1,y2⟩ (fun hS0=>?_)
    refine tkv 0 12 (.func (.func 135) #[] #[]) ?_
    refine tkv 1 13 (.slice (some ⟨b,off,none⟩) n cap) ?_
    refine tkv 2 14 (.int .i64 ((m+1:Nat):Int)) ?_
    refine tkv 3 15 (.int .i64 (m:Int)) ?_
    refine tkv 4 16 (.pointer (some ⟨b,off+m*3,none⟩)) ?_
    refine tkv 5 17 (.agg #[.int .i64 p0,.int .i64 p1,.int .i64 p2]) ?_
    refine tkv 6 18 (.slice (some ⟨b,off,none⟩) n cap) ?_
    refine tkv 7 19 (.int .i64 ((m+1:Nat):Int)) ?_
    refine tkv 8 20 (.pointer (some ⟨b,off+(m+1)*3,none⟩)) ?_
    refine tkv 9 21 (.agg #[.int .i64 q0,.int .i64 q1,.int .i64 q2]) ?_
    refine tkr 10 22 (fun K hK=>?_)
    go_simp
    refine (kC _).mono ?_
    rintro e w5 ⟨rfl,hb5⟩
    go_wp2_with fail
    refine hK.out _ _ ?_ (fun hS5=>?_)
    ·exact ⟨cells_kept hb5 _ _ hS0.1,cells_kept hb5 _ _ hS0.2.1,cells_kept hb5 _ _ hS0.2.2.1,cells_kept hb5 _ _ hS0.2.2.2.1,cells_kept hb5 _ _ hS0.2.2.2.2.1,cells_kept hb5 _ _ hS0.2.2.2.2.2⟩
    clear hK
    refine tkv 11 23 (.bool false) ?_
    refine wpAnyH_done (by kernel_rfl) ?_ _
    replace bw:=bel8 bd hb5
    clear hS0 hS5 hb5 bd x0 x1 x2 y0 y1 y2
    go_wp2
    go_roundw
    case rel=>exact ⟨m+1+1,by omega,.inl (by omega),by go_num,HK2,bw⟩
    case measure=>simp [intOf];omega
   ·have HF:Hid (r=false):=by
     rw [Hid,HR.out]
     refine allR_false (k:=m+1) (by omega) ?_
     rw [HT.out]
     cases hq:lt
     ·rfl
     ·exact absurd (HC.out.2 hq) hneg
    clear HK HC HT
    have hpo:(0:Int)≤c:=by omega
    have hge:decide ((0:Int)≤c)=true:=by simp;omega
    clear hneg
    go_wp2_with fail
    refine wp_region_held_drew (S:=(fun w'=>w'.cell? ⟨b,off+m*3,none⟩=some (.int .i64 p0)∧w'.cell? ⟨b,off+m*3+1,none⟩=some (.int .i64 p1)∧w'.cell? ⟨b,off+m*3+2,none⟩=some (.int .i64 p2)∧w'.cell? ⟨b,off+(m+1)*3,none⟩=some (.int .i64 q0)∧w'.cell? ⟨b,off+(m+1)*3+1,none⟩=some (.int .i64 q1)∧w'.cell? ⟨b,off+(m+1)*3+2,none⟩=some (.int .i64 q2))) (by kernel_rfl) ⟨x0,x1,x2,y0,y1,y2⟩ (fun hS0=>?_)
    refine tkv 0 12 (.func (.func 135) #[] #[]) ?_
    refine tkv 1 13 (.slice (some ⟨b,off,none⟩) n cap) ?_
    refine tkv 2 14 (.int .i64 ((m+1:Nat):Int)) ?_
    refine tkv 3 15 (.int .i64 (m:Int)) ?_
    refine tkv 4 16 (.pointer (some ⟨b,off+m*3,none⟩)) ?_
    refine tkv 5 17 (.agg #[.int .i64 p0,.int .i64 p1,.int .i64 p2]) ?_
    refine tkv 6 18 (.slice (some ⟨b,off,none⟩) n cap) ?_
    refine tkv 7 19 (.int .i64 ((m+1:Nat):Int)) ?_
    refine tkv 8 20 (.pointer (some ⟨b,off+(m+1)*3,none⟩)) ?_
    refine tkv 9 21 (.agg #[.int .i64 q0,.int .i64 q1,.int .i64 q2]) ?_
    refine tkr 10 22 (fun K hK=>?_)
    go_simp
    refine (kC _).mono ?_
    rintro e w5 ⟨rfl,hb5⟩
    go_wp2_with fail
    refine hK.out _ _ ?_ (fun hS5=>?_)
    ·exact ⟨cells_kept hb5 _ _ hS0.1,cells_kept hb5 _ _ hS0.2.1,cells_kept hb5 _ _ hS0.2.2.1,cells_kept hb5 _ _ hS0.2.2.2.1,cells_kept hb5 _ _ hS0.2.2.2.2.1,cells_kept hb5 _ _ hS0.2.2.2.2.2⟩
    clear hK
    refine tkv 11 23 (.bool true) ?_
    refine wpAnyH_done (by kernel_rfl) ?_ _
    replace bw:=bel8 bd hb5
    clear hS0 hS5 hb5 bd x0 x1 x2 y0 y1 y2
    go_wp2
    go_ret
    exact ⟨by rw [HF.out];rfl,bw⟩
  ·have HF:Hid (r=true):=by
    rw [Hid,HR.out]
    exact allR_true fun i hi=>HK.out i (by omega)
   have hlt2:¬ (k:Int)<(n:Int):=by omega
   clear HK
   go_wp2
   go_ret
   exact ⟨by rw [HF.out];rfl,bw⟩

open Go.RowKit

theorem riseB_split (xs:List I3):riseB xs=(okBs xs && upB xs):=by
 rw [Bool.eq_iff_iff]
 simp only [riseB,okBs,upB,Bool.and_eq_true,List.all_eq_true,List.mem_range,bStep,stB]
 constructor
 ·intro h
  refine ⟨fun x hx=>?_,fun i hi=>(h i hi).2⟩
  obtain ⟨t,ht,rfl⟩:=List.getElem_of_mem hx
  have:=(h t ht).1
  simpa [List.getD,List.getElem?_eq_getElem ht] using this
 ·rintro ⟨h1,h2⟩ i hi
  exact ⟨h1 _ (by simp [List.getD,List.getElem?_eq_getElem hi]),h2 i hi⟩
theorem riseI_split (xs:List Int):riseI xs=(allIt xs && upI xs):=by
 rw [Bool.eq_iff_iff]
 simp only [riseI,allIt,upI,Bool.and_eq_true,List.all_eq_true,List.mem_range,iStep,stI]
 constructor
 ·intro h
  refine ⟨fun x hx=>?_,fun i hi=>(h i hi).2⟩
  obtain ⟨t,ht,rfl⟩:=List.getElem_of_mem hx
  have:=(h t ht).1
  simpa [List.getD,List.getElem?_eq_getElem ht] using this
 ·rintro ⟨h1,h2⟩ i hi
  exact ⟨h1 _ (by simp [List.getD,List.getElem?_eq_getElem hi]),h2 i hi⟩
theorem itemsOK9 (a:Option Addr) (n cap:Nat) (Z:List Int) (w:World) (h:Ints .i64 w a n cap Z) (hw:wfs Z) :
  Calls Tryz.prog 130 #[.slice a n cap] w fun e w'=>e=.returned (.bool (allIt Z))∧w=w':=by
 have hl:=h.1
 have hn:n≤maxLen:=Nat.le_trans h.2.1 h.2.2.1
 unfold maxLen at hn
 obtain ⟨r,hr⟩:∃ r,r=allIt Z:=⟨_,rfl⟩
 rw [← hr]
 have HR:Hid (r=allIt (Z.drop 0)):=by rw [Hid];simpa using hr
 clear hr
 go_enter Tryz.func130,Tryz.ntmps130
 go_wp2_with fail
 go_loopw [7] (fun si wr=>∃ k:Nat,k≤n∧si=.int .i64 k∧Hid (r=allIt (Z.drop k))∧w=wr) (fun si _=>n - (Go.RowKit.intOf si).toNat)
 case atStart=>exact ⟨0,by omega,rfl,HR,rfl⟩
 case round =>
  clear HR
  obtain ⟨k,hk,rfl,HR,rfl⟩:=hrel
  by_cases hlt:k<n
  ·have hm:=allIt_drop (xs:=Z) (k:=k) (by omega)
   have hx:=hw (Z.getD k 0) (by simp [List.getD,List.getElem?_eq_getElem (show k<Z.length by omega)])
   obtain ⟨_,_,_,hcase⟩:=h
   rcases hcase with e0 | ⟨b,off,rfl,hb,hc⟩
   ·omega
   have d0:=hc k hlt
   clear hc hb
   generalize Z.getD k 0=x at d0 hm hx
   have kO:=isItem_is x (in_wf8 hx)
   clear hx
   have HM:Hid (allIt (Z.drop k)=(itOk x && allIt (Z.drop (k+1)))):=hm
   clear hm
   have hlt':(k:Int)<(n:Int):=by omega
   have hk0:(0:Int)≤(k:Int):=by omega
   cases hE:itOk x
   ·rw [hE] at kO
    have HF:Hid (r=false):=by rw [Hid,HR.out,HM.out,hE];rfl
    clear HM HR hE
    go_wp2_with fail
    refine (kO _).mono ?_
    rintro e w1 ⟨rfl,rfl⟩
    go_wp2
    go_ret
    exact ⟨by rw [HF.out];rfl,rfl⟩
   ·rw [hE] at kO
    have HF:Hid (r=allIt (Z.drop (k+1))):=by rw [Hid,HR.out,HM.out,hE];rfl
    clear HM HR hE
    go_wp2_with fail
    refine (kO _).mono ?_
    rintro e w1 ⟨rfl,rfl⟩
    go_wp2
    go_roundw
    case rel=>exact ⟨k+1,by omega,by go_num,HF,by first | rfl | trivial⟩
    case measure=>simp [Go.RowKit.intOf];omega
  ·obtain rfl:k=n:=by omega
   have HF:Hid (r=true):=by rw [Hid,HR.out,List.drop_of_length_le (by omega)];rfl
   clear HR
   go_wp2
   go_ret
   exact ⟨by rw [HF.out];rfl,rfl⟩

theorem implVmOf_long9 (s:ByteArray) (w:World) (hs:s.size≤maxLen) (h:65536<s.size) :
  Calls Tryz.prog 129 #[.string s] w fun e w'=>e=.returned (.tuple #[.agg #[.slice none 0 0,.slice none 0 0,.slice none 0 0,.slice none 0 0],.int .i64 2])∧Below w.heap.size w w':=by
 unfold maxLen at hs
 have h2:(65536:Int)<(s.size:Int):=by omega
 go_enter Tryz.func129,Tryz.ntmps129
 go_wp2
 refine bodyPost_ret (results_blk2 Tryz.results129 _ _ _ _ _ _ rfl (Blk.new w 123 [.slice none 0 0,.slice none 0 0,.slice none 0 0,.slice none 0 0]) Tryz.underlying123 rfl (by kernel_rfl)) rfl ?_
 exact ⟨rfl,by go_grown⟩
def KeyC (s:ByteArray) (c:Int):Prop:=(keyOk9 s=true∧c=0)∨(keyOk9 s=false∧(c=2∨c=3))
theorem implVmOf_any (s:ByteArray) (w:World) (hs:s.size≤maxLen) (hV:VmShape w) :
  Calls Tryz.prog 129 #[.string s] w fun e w'=>(∃ z c,KeyC s c∧VmGot e w' w.heap.size z c)∧Below w.heap.size w w':=by
 by_cases hl:65536<s.size
 ·refine (implVmOf_long9 s w hs hl).mono ?_
  rintro e w' ⟨rfl,hb⟩
  have e9:keyOk9 s=false:=by unfold keyOk9;rw [decide_eq_false (by omega)];rfl
  exact ⟨⟨_,2,.inr ⟨e9,.inl rfl⟩,VmGot.mk9 ((none,0,0),(none,0,0),(none,0,0),(none,0,0)) rfl (ownV_nil _ _)⟩,hb⟩
 ·refine (implVmOf_is s w (by omega) hV).mono ?_
  rintro e w' ⟨hg,hb⟩
  refine ⟨⟨_,_,?_,hg⟩,hb⟩
  unfold KeyC vmOfC keyOk9
  rw [if_neg hl]
  by_cases h15:s.size=15
  ·rw [if_neg (fun h=>h h15),decide_eq_true h15,Bool.true_and]
   cases shapeOk (bytesV s)
   ·exact .inr ⟨rfl,.inr rfl⟩
   ·exact .inl ⟨rfl,rfl⟩
  ·rw [if_pos h15,decide_eq_false h15,Bool.false_and]
   exact .inr ⟨rfl,.inr rfl⟩

theorem entryBugsOK_is (a:Option Addr) (n cap:Nat) (xs:List I3) (w:World) (h:Instrs w a n cap xs) :
  Calls Tryz.prog 100 #[.slice a n cap] w fun e w'=>e=.returned (.bool (decide (xs.length≤30) && riseB xs))∧Below w.heap.size w w':=by
 rw [riseB_split]
 have hl:=h.1
 have kR:=fun W (hb:Below w.heap.size w W)=>risesB_is a n cap xs W (h.below hb)
 rw [hl]
 by_cases h30:n≤30
 ·have kB:=bugsOK_is a n cap xs w h (by omega)
  rw [decide_eq_true h30,Bool.true_and]
  have h3:(n:Int)≤30:=by omega
  generalize upB xs=u at *
  cases hO:okBs xs
  ·rw [hO] at kB
   rw [Bool.false_and]
   clear hO
   go_enter Tryz.func100,Tryz.ntmps100
   go_wp2_with fail
   refine kB.mono ?_
   rintro e w1 ⟨rfl,hb⟩
   go_wp2
   go_ret
   exact ⟨rfl,hb⟩
  ·rw [hO] at kB
   rw [Bool.true_and]
   clear hO
   go_enter Tryz.func100,Tryz.ntmps100
   go_wp2_with fail
   refine kB.mono ?_
   rintro e w1 ⟨rfl,hb⟩
   go_wp2_with fail
   refine (kR _ hb).mono ?_
   rintro e w2 ⟨rfl,hb2⟩
   replace hb:=bel8 hb hb2
   go_wp2
   go_ret
   exact ⟨rfl,hb⟩
 ·rw [decide_eq_false h30,Bool.false_and]
  have h3:¬ (n:Int)≤30:=by omega
  clear kR
  go_enter Tryz.func100,Tryz.ntmps100
  go_wp2
  go_ret
  exact ⟨rfl,Below.refl _ _⟩

theorem implEntryOK_is (e:E3) (s:Sl2) (w:World) (h:Emem w s e) (hV:VmShape w) :
  Calls Tryz.prog 98 #[entV e.1 s] w fun x w'=>x=.returned (.bool (entOk e))∧Below w.heap.size w w':=by
 obtain ⟨⟨hk,_⟩,hB,hF,hfw⟩:=h
 obtain ⟨ek,eb,ez⟩:=e
 obtain ⟨⟨a1,n1,c1⟩,⟨a2,n2,c2⟩⟩:=s
 unfold entV
 simp only at *
 have bw:Below w.heap.size w (w.alloc (.cells #[.string ek,.slice a1 n1 c1,.slice a2 n2 c2] 74)):=by go_grown
 have kK:=implVmOf_any ek _ hk (hV.below bw)
 have kR:=fun W (hb:Below w.heap.size w W)=>entryBugsOK_is a1 n1 c1 eb W (hB.below hb)
 have kI:=fun W (hb:Below w.heap.size w W)=>itemsOK9 a2 n2 c2 ez W (hF.below hb) hfw
 have kU:=fun W (hb:Below w.heap.size w W)=>risesI_is a2 n2 c2 ez W (hF.below hb)
 have pA:Blk (w.alloc (.cells #[.string ek,.slice a1 n1 c1,.slice a2 n2 c2] 74)) w.heap.size 74 [.string ek,.slice a1 n1 c1,.slice a2 n2 c2]:=blkAt _ _ _ rfl
 obtain ⟨fin,hfin⟩:∃ fin,fin=entOk (ek,eb,ez):=⟨_,rfl⟩
 rw [← hfin]
 have HF:Hid (fin=(keyOk9 ek && (decide (eb.length≤30) && riseB eb) && (allIt ez && upI ez))):=by
  rw [Hid,hfin,entOk]
  simp only
  rw [riseI_split]
  cases keyOk9 ek<;>cases riseB eb<;>cases allIt ez<;>cases upI ez<;>simp
 clear hfin hB hF hfw hV
 generalize (decide (eb.length≤30) && riseB eb)=rb at *
 generalize allIt ez=ai at *
 generalize upI ez=ui at *
 go_enter Tryz.func98,Tryz.ntmps98
 go_wp2_with fail
 refine kK.mono ?_
 rintro x w1 ⟨⟨z,c,hc,⟨⟨t0a,t0n,t0c⟩,⟨t1a,t1n,t1c⟩,⟨t2a,t2n,t2c⟩,⟨t3a,t3n,t3c⟩⟩,rfl,_⟩,hb⟩
 have ut:S4.val ((t0a,t0n,t0c),(t1a,t1n,t1c),(t2a,t2n,t2c),(t3a,t3n,t3c))=.agg #[.slice t0a t0n t0c,.slice t1a t1n t1c,.slice t2a t2n t2c,.slice t3a t3n t3c]:=rfl
 rw [ut]
 clear ut kK
 have bA:Below w1.heap.size w1 (w1.alloc (.cells #[.slice t0a t0n t0c,.slice t1a t1n t1c,.slice t2a t2n t2c,.slice t3a t3n t3c] 123)):=by go_grown
 replace bw:=bel8 bw (bel8 hb bA)
 replace pA:=pA.below (bel8 hb bA)
 clear hb bA
 have y1:=pA.cell 1
 simp only [List.getElem?_cons_zero,List.getElem?_cons_succ] at y1
 rcases hc with ⟨hK,rfl⟩ | ⟨hK,hc⟩
 ·rw [hK,Bool.true_and] at HF
  clear hK
  go_wp2_with fail
  generalize (w1.alloc (.cells #[.slice t0a t0n t0c,.slice t1a t1n t1c,.slice t2a t2n t2c,.slice t3a t3n t3c] 123))=U at *
  refine (kR _ bw).mono ?_
  rintro x w2 ⟨rfl,hb⟩
  replace bw:=bel8 bw hb
  replace pA:=pA.below hb
  clear hb kR y1
  have y2:=pA.cell 2
  simp only [List.getElem?_cons_zero,List.getElem?_cons_succ] at y2
  cases rb
  ·have HR:Hid (fin=false):=HF.out
   clear HF kI kU
   go_wp2
   go_ret
   exact ⟨by rw [HR.out];rfl,bw⟩
  ·rw [Bool.true_and] at HF
   go_wp2_with fail
   refine (kI _ bw).mono ?_
   rintro x w3 ⟨rfl,rfl⟩
   cases ai
   ·have HR:Hid (fin=false):=HF.out
    clear HF kI kU
    go_wp2
    go_ret
    exact ⟨by rw [HR.out];rfl,bw⟩
   ·rw [Bool.true_and] at HF
    go_wp2_with fail
    refine (kU _ bw).mono ?_
    rintro x w4 ⟨rfl,hb⟩
    replace bw:=bel8 bw hb
    clear hb kI kU y2 pA
    go_wp2
    go_ret
    exact ⟨by rw [HF.out];rfl,bw⟩
 ·have HR:Hid (fin=false):=by rw [Hid,HF.out,hK];rfl
  clear HF hK kR kI kU
  rcases hc with rfl | rfl
  ·go_wp2
   go_ret
   exact ⟨by rw [HR.out];rfl,bw⟩
  ·go_wp2
   go_ret
   exact ⟨by rw [HR.out];rfl,bw⟩


theorem own_no9 {w:World} {B n:Nat} {a:Option Addr} {m c:Nat} {xs:List Int} (h:w.ownsRow B 3 1 (.slice a m c) n (xs.map (Value.int .i64))):a=none→m=0∧c=0:=by
 rcases h.2 with ⟨hv,h0⟩ | ⟨g,cap,cur,hv,_⟩
 ·injection hv with e1 e2 e3
  exact fun _=>⟨e2,e3⟩
 ·injection hv with e1 e2 e3
  intro ha
  rw [ha] at e1
  cases e1

theorem numbersOfBugs_is (a:Option Addr) (n cap:Nat) (xs:List I3) (w:World) (h:Instrs w a n cap xs) (hn:n≤30) :
  Calls Tryz.prog 99 #[.slice a n cap] w fun e w'=>RowGot e w' w.heap.size (rowNums xs)∧Below w.heap.size w w':=by
 obtain ⟨i1,hi1,hz10,hz11,hz12⟩:=info_parts info_int
 have hl:=h.1
 go_enter Tryz.func99,Tryz.ntmps99
 go_wp2_with fail
 go_loopw [3,8] (fun so si wr=>∃ (k:Nat) (va:Option Addr) (vn vc:Nat),k≤n∧si=.int .i64 k∧so=.slice va vn vc∧wr.ownsRow w.heap.size 3 1 (.slice va vn vc) (rowNums (xs.take k)).length ((rowNums (xs.take k)).map (Value.int .i64))∧Below w.heap.size w wr) (fun _ si _=>n - (intOf si).toNat)
 case atStart=>exact ⟨0,none,0,0,by omega,rfl,rfl,by simpa [rowNums] using World.ownsRow_nil _ _ _ _,Below.refl _ _⟩
 case round =>
  obtain ⟨k,xa,xn,xc,hk,rfl,rfl,ho,bw⟩:=hrel
  by_cases hlt:k<n
  ·obtain ⟨_,_,_,_,hcase⟩:=h.below bw
   rcases hcase with e0 | ⟨b,off,rfl,hb,hc⟩
   ·omega
   obtain ⟨x0,x1,x2⟩:=hc k hlt
   clear hc hb
   have hst:=rowNums_step (xs:=xs) (k:=k) (by omega)
   have hrl:(rowNums (xs.take k)).length≤90:=by rw [rowNums_length,List.length_take];omega
   generalize rowNums (xs.take k)=R at *
   generalize xs.getD k (0,0,0)=x at *
   obtain ⟨p0,p1,p2⟩:=x
   simp only at x0 x1 x2 hst
   have HS:Hid (rowNums (xs.take (k+1))=R++[p0,p1,p2]):=hst
   clear hst
   have hlt':(k:Int)<(n:Int):=by omega
   have hk0:(0:Int)≤(k:Int):=by omega
   have hb2:Below wr.heap.size wr ((wr.alloc (.cells #[.int .i64 p0,.int .i64 p1,.int .i64 p2] 112)).alloc (.cells #[.int .i64 p0,.int .i64 p1,.int .i64 p2] 3)):=by go_grown
   have ho2:=owns8 ho hb2
   have hs2:=bw.size
   have hs3:w.heap.size≤((wr.alloc (.cells #[.int .i64 p0,.int .i64 p1,.int .i64 p2] 112)).alloc (.cells #[.int .i64 p0,.int .i64 p1,.int .i64 p2] 3)).heap.size:=by have:=hb2.size;omega
   have hnw:∀ ad,some (⟨wr.heap.size+1,0,none⟩:Addr)=some ad→∀ j u,([p0,p1,p2].map (Value.int .i64))[j]?=some u→((wr.alloc (.cells #[.int .i64 p0,.int .i64 p1,.int .i64 p2] 112)).alloc (.cells #[.int .i64 p0,.int .i64 p1,.int .i64 p2] 3)).cell? (ad.add j)=some u:=by
    have h9:=news_new9 (wr.alloc (.cells #[.int .i64 p0,.int .i64 p1,.int .i64 p2] 112)) [.int .i64 p0,.int .i64 p1,.int .i64 p2] 3
    have e9:(wr.alloc (.cells #[.int .i64 p0,.int .i64 p1,.int .i64 p2] 112)).heap.size=wr.heap.size+1:=by simp
    rw [e9] at h9
    exact h9
   go_wp2_with (at_builtin;refine wpList_app9 rfl _ _ 40 rfl w.heap.size 3 i1 (.int .i64 0) 1 8 Tryz.underlying40 hi1 hz10 hz11 hz12 rfl (by decide) _ _ _ rfl ho2 _ 3 3 rfl (fun h9=>by cases h9) ([p0,p1,p2].map (Value.int .i64)) (by simp) hnw (one8 _) (by unfold maxLen;omega) (by omega) hs3 ?_)
   intro v3 w3 hown hgrow _
   have q3:w3.ownsRow w.heap.size 3 1 v3 (R++[p0,p1,p2]).length ((R++[p0,p1,p2]).map (Value.int .i64)):=by rw [List.map_append,List.length_append];exact hown
   obtain ⟨va9,vc9,rfl⟩:=slice8 q3
   have hgB:∀ g,(Value.ownBlock (.slice xa xn xc))=some g→w.heap.size≤g:=fun g hg=>(ho2.lt g hg).1
   have b3:Below w.heap.size w w3:=(bel8 bw hb2).grown hgrow hs3 (fun g hg=>hgB g hg)
   clear ho ho2 hs2 hs3 hown hgrow hgB hb2 hnw x0 x1 x2
   go_wp2
   go_roundw
   case rel=>exact ⟨k+1,_,_,_,by omega,by go_num,rfl,by rw [HS.out];exact q3,b3⟩
   case measure=>simp [intOf];omega
  ·obtain rfl:k=n:=by omega
   have e9:rowNums (xs.take k)=rowNums xs:=by rw [List.take_of_length_le (by omega)]
   rw [e9] at ho
   clear e9
   go_wp2
   go_ret
   exact ⟨⟨_,rfl,ho⟩,bw⟩

def etxT (e:E3):ByteArray:=if entOk e=true then txtE e else ⟨#[]⟩
def etxC (e:E3):Int:=if entOk e=true then 0 else 1

theorem implEntryText_is (e:E3) (s:Sl2) (w:World) (h:Emem w s e) (hV:VmShape w) :
  Calls Tryz.prog 72 #[entV e.1 s] w fun x w'=>x=.returned (.tuple #[.string (etxT e),.int .i64 (etxC e)])∧Below w.heap.size w w':=by
 obtain ⟨i1,hi1,hz10,hz11,hz12⟩:=info_parts info_int
 have kE:=fun W (hb:Below w.heap.size w W)=>implEntryOK_is e s W (h.below hb) (hV.below hb)
 clear hV
 unfold etxT etxC
 have hl1:=h.2.1.1
 have hl2:=h.2.2.1.1
 have hc1:=h.2.1.2.1
 have hc2:=h.2.2.1.2.1
 obtain ⟨⟨_,z1,z2⟩,hB,hF,hfw⟩:=h
 obtain ⟨ek,eb,ez⟩:=e
 obtain ⟨⟨a1,n1,c1⟩,⟨a2,n2,c2⟩⟩:=s
 unfold entV
 simp only at *
 have bw:Below w.heap.size w (w.alloc (.cells #[.string ek,.slice a1 n1 c1,.slice a2 n2 c2] 74)):=by go_grown
 have pX:Blk (w.alloc (.cells #[.string ek,.slice a1 n1 c1,.slice a2 n2 c2] 74)) w.heap.size 74 [.string ek,.slice a1 n1 c1,.slice a2 n2 c2]:=blkAt _ _ _ rfl
 unfold entV at kE
 simp only at kE
 cases hok:entOk (ek,eb,ez)
 ·rw [if_neg (by simp),if_neg (by simp)]
  rw [hok] at kE
  clear hok
  go_enter Tryz.func72,Tryz.ntmps72
  go_wp2_with fail
  refine (kE _ bw).mono ?_
  rintro e w1 ⟨rfl,hb⟩
  replace bw:=bel8 bw hb
  go_wp2
  go_ret2
  exact ⟨rfl,bw⟩
 ·rw [if_pos rfl,if_pos rfl]
  rw [hok] at kE
  have hb30:n1≤30:=by have:=entOk_bugs hok;simp only at this;omega
  have hf23:n2≤23:=by have:=entOk_foot hok;simp only at this;omega
  have hk15:ek.size=15:=entOk_key hok
  have hk16:ek.size≤15:=by omega
  have HOK:=txtN_ok hok
  have HLN:=txtN_len hok
  have hrl:(rowNums eb).length≤90:=by rw [rowNums_length];omega
  have no2:=nil_of0 (m:=0) (P:=True) z2 hc2
  have kN:=fun W (hb:Below w.heap.size w W)=>numbersOfBugs_is a1 n1 c1 eb W (hB.below hb) hb30
  obtain ⟨tn,htn⟩:∃ tn,tn=txtN (ek,eb,ez):=⟨_,rfl⟩
  obtain ⟨R7,hR7⟩:∃ R7,R7=(n1:Int)::rowNums eb:=⟨_,rfl⟩
  obtain ⟨L7,hL7⟩:∃ L7,L7=1+(rowNums eb).length:=⟨_,rfl⟩
  obtain ⟨L8,hL8⟩:∃ L8,L8=L7+n2:=⟨_,rfl⟩
  have HT:Hid (tn=R7++ez):=by rw [Hid,htn,hR7,txtN];simp only;rw [hl1]
  have HL8b:L8=tn.length:=by rw [HT.out,List.length_append,hR7,List.length_cons];omega
  have HL8m:L8≤114:=by rw [HL8b,htn];exact HLN
  have hL7m:L7≤91:=by omega
  obtain ⟨tx,htx⟩:∃ tx,tx=strOfNums (packL tn):=⟨_,rfl⟩
  have hts:tx.size≤575:=by rw [htx];have:=packL_size (zs:=tn);omega
  have HX:Hid (txtE (ek,eb,ez)=ek++tx):=by rw [Hid,txtE,htx,htn]
  have kP:∀ ma mc W,Ints .i64 W ma L8 mc tn→Calls Tryz.prog 97 #[.slice ma L8 mc] W fun e w'=>e=.returned (.tuple #[.string tx,.int .i64 0])∧Below W.heap.size W w':=fun ma mc W hI=>(implPackList_any ma L8 mc tn W hI (by omega)).mono (fun e w' h9=>by
   rcases h9.1 with ⟨_,h8⟩ | ⟨h8,_⟩
   ·exact ⟨by rw [h8,htx],h9.2⟩
   ·exact absurd (htn▸HOK) h8)
  obtain ⟨fx,hfx⟩:∃ fx,fx=txtE (ek,eb,ez):=⟨_,rfl⟩
  rw [← hfx]
  rw [← hfx] at HX
  have HR:Hid (R7=(n1:Int)::rowNums eb):=hR7
  have HL7:Hid (L7=1+(rowNums eb).length):=hL7
  replace HL8:Hid (L8=L7+n2):=hL8
  clear hok htn hR7 hL7 hL8 HL8b htx hfx HOK HLN hk15 hB z1 z2 hc1 hc2
  go_enter Tryz.func72,Tryz.ntmps72
  go_wp2_with fail
  refine (kE _ bw).mono ?_
  rintro e W ⟨rfl,hb⟩
  replace bw:=bel8 bw hb
  replace pX:=pX.below hb
  clear hb kE
  obtain ⟨B,hBq⟩:∃ B,B=W.heap.size:=⟨_,rfl⟩
  have hBw:w.heap.size<B:=by have:=pX.lt;omega
  have hBw2:w.heap.size≤B:=by omega
  have HBS:B≤W.drew.heap.size:=by simp;omega
  clear hBq
  go_wp2_with fail
  refine wp_region_held_drew (S:=(fun w'=>w'.cell? ⟨w.heap.size,0,none⟩=some (.string ek)∧w'.cell? ⟨w.heap.size,1,none⟩=some (.slice a1 n1 c1)∧w'.cell? ⟨w.heap.size,2,none⟩=some (.slice a2 n2 c2))) (by kernel_rfl) ⟨pX.cell 0,pX.cell 1,pX.cell 2⟩ (fun hS0=>?_)
  refine tkv 0 10 (.pointer (some ⟨w.heap.size,1,none⟩)) ?_
  refine tkv 1 11 (.slice a1 n1 c1) ?_
  refine tkv 2 12 (.int .i64 (n1:Int)) ?_
  refine tkv 4 14 (.pointer (some ⟨w.heap.size,1,none⟩)) ?_
  refine tkv 5 15 (.slice a1 n1 c1) ?_
  replace bw:=bel8 bw (show Below W.heap.size W W.drew by go_grown)
  replace pX:=pX.below (show Below W.heap.size W W.drew by go_grown)
  refine wpAnyH_ready (rs:=[3,6]) (by kernel_rfl) (by simp) ?_
  refine AllReadyH.cons (o:=⟨some 13,_,_,_,_,_⟩) rfl (fun K hK=>?_) (AllReadyH.cons (o:=⟨some 16,_,_,_,_,_⟩) rfl (fun K hK=>?_) AllReadyH.nil)
  ·skip
   have hbb:Below W.drew.heap.size W.drew (W.drew.alloc (.cells #[.int .i64 (n1:Int)] 3)):=by go_grown
   have q3:(W.drew.alloc (.cells #[.int .i64 (n1:Int)] 3)).ownsRow B 3 1 (.slice (some ⟨W.drew.heap.size,0,none⟩) 1 1) 1 ([(n1:Int)].map (Value.int .i64)):=World.ownsRow_lit W.drew #[.int .i64 (n1:Int)] 1 HBS (by unfold maxLen;omega) (by simp)
   have e9:(W.drew.alloc (.cells #[.int .i64 (n1:Int)] 3))=(W.alloc (.cells #[.int .i64 (n1:Int)] 3)).drew:=rfl
   rw [e9] at hbb q3
   clear e9
   go_simp
   refine hK.out _ _ ?_ (fun hS3=>?_)
   ·exact ⟨cells_kept hbb _ _ hS0.1,cells_kept hbb _ _ hS0.2.1,cells_kept hbb _ _ hS0.2.2⟩
   clear hK
   try simp only [Act.put,tka,tkb,tkc]
   replace bw:=bel8 bw hbb
   replace pX:=pX.below hbb
   have HB3:=hbb.size
   clear hbb
   have kN:=kN _ bw
   generalize (W.alloc (.cells #[.int .i64 (n1:Int)] 3)).drew=V1 at *
   refine tkr 6 16 (fun K hK=>?_)
   go_simp
   refine (kN).mono ?_
   rintro e V2 ⟨⟨v6,rfl,q6⟩,hb6⟩
   go_wp2_with fail
   refine hK.out _ _ ?_ (fun hS6=>?_)
   ·exact ⟨cells_kept hb6 _ _ hS3.1,cells_kept hb6 _ _ hS3.2.1,cells_kept hb6 _ _ hS3.2.2⟩
   clear hK
   obtain ⟨va6,vc6,rfl⟩:=slice8 q6
   replace bw:=bel8 bw hb6
   replace pX:=pX.below hb6
   replace q3:=owns8 q3 hb6
   have HB6:=hb6.size
   clear hb6 kN
   refine tkr 7 17 (fun K hK=>?_)
   refine step_app9 rfl _ _ 40 rfl B 3 i1 (.int .i64 0) 1 8 Tryz.underlying40 hi1 hz10 hz11 hz12 rfl (by decide) _ _ _ rfl q3 _ _ _ rfl (own_no9 q6) ((rowNums eb).map (Value.int .i64)) (by rw [List.length_map,Nat.mul_one]) (fun ad ha=>by subst ha;exact newsI9 (ints8 q6)) (one8 _) (by unfold maxLen;omega) (by omega) (by omega) ?_
   intro v7 W7 hown hgrow _
   have HB7:=hgrow.size
   have q7:W7.ownsRow B 3 1 v7 L7 (R7.map (Value.int .i64)):=by
    have e1:R7.map (Value.int .i64)=[(n1:Int)].map (Value.int .i64)++(rowNums eb).map (Value.int .i64):=by rw [← List.map_append,HR.out];rfl
    rw [e1,HL7.out]
    exact hown
   have hgB:∀ g,(Value.ownBlock (.slice (some ⟨W.drew.heap.size,0,none⟩) 1 1))=some g→B≤g:=fun g hg=>(q3.lt g hg).1
   replace bw:=bw.grown hgrow (by omega) (fun g hg=>by have:=hgB g hg;omega)
   replace pX:=pX.kept hgrow (fun e9=>by have:=hgB _ e9;omega)
   go_simp
   refine hK.out _ _ ?_ (fun hS7=>?_)
   ·exact ⟨pX.cell 0,pX.cell 1,pX.cell 2⟩
   clear hK
   try simp only [Act.put,tka,tkb,tkc]
   obtain ⟨la,lc,rfl⟩:=slice8 q7
   clear hown hgrow hgB q3 q6
   refine tkv 8 4 (.slice la L7 lc) ?_
   refine wpAnyH_done (by kernel_rfl) ?_ _
   clear hS0 hS3 hS6 hS7
   have b7s:=bw.size
   have y2:=pX.cell 2
   simp only [List.getElem?_cons_zero,List.getElem?_cons_succ] at y2
   have hB7:B≤W7.heap.size:=by omega
   go_wp2_with (at_builtin;refine wpList_app9 rfl _ _ 40 rfl B 3 i1 (.int .i64 0) 1 8 Tryz.underlying40 hi1 hz10 hz11 hz12 rfl (by decide) _ _ _ rfl q7 a2 n2 c2 rfl no2 (ez.map (Value.int .i64)) (by rw [List.length_map,Nat.mul_one];exact hl2) (fun ad ha=>by subst ha;exact newsI9 (hF.below bw)) (one8 ez) (by unfold maxLen;omega) (by omega) hB7 ?_)
   intro v8 W8 hown hgrow _
   have q8:W8.ownsRow B 3 1 v8 L8 (tn.map (Value.int .i64)):=by
    have e1:tn.map (Value.int .i64)=R7.map (Value.int .i64)++ez.map (Value.int .i64):=by rw [← List.map_append,HT.out]
    rw [e1,HL8.out]
    exact hown
   have hgB:∀ g,(Value.ownBlock (.slice la L7 lc))=some g→B≤g:=fun g hg=>(q7.lt g hg).1
   replace bw:=bw.grown hgrow (by omega) (fun g hg=>by have:=hgB g hg;omega)
   replace pX:=pX.kept hgrow (fun e9=>by have:=hgB _ e9;omega)
   obtain ⟨ma,mc,rfl⟩:=slice8 q8
   have hI:=ints8 q8
   clear hown hgrow hgB q7 q8 y2 b7s hB7
   go_wp2_with fail
   refine (kP ma mc W8 hI).mono ?_
   rintro e W9 ⟨rfl,hb⟩
   replace bw:=bel8 bw hb
   replace pX:=pX.below hb
   clear hb hI
   have y0:=pX.cell 0
   simp only [List.getElem?_cons_zero] at y0
   clear pX
   go_wp2
   go_ret2
   exact ⟨by rw [HX.out];rfl,bw⟩
  ·skip
   go_simp
   refine (kN _ bw).mono ?_
   rintro e V1 ⟨⟨v6,rfl,q6⟩,hb6⟩
   obtain ⟨va6,vc6,rfl⟩:=slice8 q6
   go_wp2_with fail
   refine hK.out _ _ ?_ (fun hS6=>?_)
   ·exact ⟨cells_kept hb6 _ _ hS0.1,cells_kept hb6 _ _ hS0.2.1,cells_kept hb6 _ _ hS0.2.2⟩
   clear hK
   replace bw:=bel8 bw hb6
   replace pX:=pX.below hb6
   have HB6:=hb6.size
   replace HBS:=Nat.le_trans HBS HB6
   clear hb6 kN
   refine tkr 3 13 (fun K hK=>?_)
   have hbb:Below V1.heap.size V1 (V1.alloc (.cells #[.int .i64 (n1:Int)] 3)):=by go_grown
   have q3:(V1.alloc (.cells #[.int .i64 (n1:Int)] 3)).ownsRow B 3 1 (.slice (some ⟨V1.heap.size,0,none⟩) 1 1) 1 ([(n1:Int)].map (Value.int .i64)):=World.ownsRow_lit V1 #[.int .i64 (n1:Int)] 1 HBS (by unfold maxLen;omega) (by simp)
   go_simp
   refine hK.out _ _ ?_ (fun hS3=>?_)
   ·exact ⟨cells_kept hbb _ _ hS6.1,cells_kept hbb _ _ hS6.2.1,cells_kept hbb _ _ hS6.2.2⟩
   clear hK
   try simp only [Act.put,tka,tkb,tkc]
   replace bw:=bel8 bw hbb
   replace pX:=pX.below hbb
   replace q6:=owns8 q6 hbb
   have HB3:=hbb.size
   clear hbb
   refine tkr 7 17 (fun K hK=>?_)
   refine step_app9 rfl _ _ 40 rfl B 3 i1 (.int .i64 0) 1 8 Tryz.underlying40 hi1 hz10 hz11 hz12 rfl (by decide) _ _ _ rfl q3 _ _ _ rfl (own_no9 q6) ((rowNums eb).map (Value.int .i64)) (by rw [List.length_map,Nat.mul_one]) (fun ad ha=>by subst ha;exact newsI9 (ints8 q6)) (one8 _) (by unfold maxLen;omega) (by omega) (by omega) ?_
   intro v7 W7 hown hgrow _
   have HB7:=hgrow.size
   have q7:W7.ownsRow B 3 1 v7 L7 (R7.map (Value.int .i64)):=by
    have e1:R7.map (Value.int .i64)=[(n1:Int)].map (Value.int .i64)++(rowNums eb).map (Value.int .i64):=by rw [← List.map_append,HR.out];rfl
    rw [e1,HL7.out]
    exact hown
   have hgB:∀ g,(Value.ownBlock (.slice (some ⟨V1.heap.size,0,none⟩) 1 1))=some g→B≤g:=fun g hg=>(q3.lt g hg).1
   replace bw:=bw.grown hgrow (by omega) (fun g hg=>by have:=hgB g hg;omega)
   replace pX:=pX.kept hgrow (fun e9=>by have:=hgB _ e9;omega)
   go_simp
   refine hK.out _ _ ?_ (fun hS7=>?_)
   ·exact ⟨pX.cell 0,pX.cell 1,pX.cell 2⟩
   clear hK
   try simp only [Act.put,tka,tkb,tkc]
   obtain ⟨la,lc,rfl⟩:=slice8 q7
   clear hown hgrow hgB q3 q6
   refine tkv 8 4 (.slice la L7 lc) ?_
   refine wpAnyH_done (by kernel_rfl) ?_ _
   clear hS0 hS3 hS6 hS7
   have b7s:=bw.size
   have y2:=pX.cell 2
   simp only [List.getElem?_cons_zero,List.getElem?_cons_succ] at y2
   have hB7:B≤W7.heap.size:=by omega
   go_wp2_with (at_builtin;refine wpList_app9 rfl _ _ 40 rfl B 3 i1 (.int .i64 0) 1 8 Tryz.underlying40 hi1 hz10 hz11 hz12 rfl (by decide) _ _ _ rfl q7 a2 n2 c2 rfl no2 (ez.map (Value.int .i64)) (by rw [List.length_map,Nat.mul_one];exact hl2) (fun ad ha=>by subst ha;exact newsI9 (hF.below bw)) (one8 ez) (by unfold maxLen;omega) (by omega) hB7 ?_)
   intro v8 W8 hown hgrow _
   have q8:W8.ownsRow B 3 1 v8 L8 (tn.map (Value.int .i64)):=by
    have e1:tn.map (Value.int .i64)=R7.map (Value.int .i64)++ez.map (Value.int .i64):=by rw [← List.map_append,HT.out]
    rw [e1,HL8.out]
    exact hown
   have hgB:∀ g,(Value.ownBlock (.slice la L7 lc))=some g→B≤g:=fun g hg=>(q7.lt g hg).1
   replace bw:=bw.grown hgrow (by omega) (fun g hg=>by have:=hgB g hg;omega)
   replace pX:=pX.kept hgrow (fun e9=>by have:=hgB _ e9;omega)
   obtain ⟨ma,mc,rfl⟩:=slice8 q8
   have hI:=ints8 q8
   clear hown hgrow hgB q7 q8 y2 b7s hB7
   go_wp2_with fail
   refine (kP ma mc W8 hI).mono ?_
   rintro e W9 ⟨rfl,hb⟩
   replace bw:=bel8 bw hb
   replace pX:=pX.below hb
   clear hb hI
   have y0:=pX.cell 0
   simp only [List.getElem?_cons_zero] at y0
   clear pX
   go_wp2
   go_ret2
   exact ⟨by rw [HX.out];rfl,bw⟩
end Go.Proofs.YtdopgkbegjfhjaaGreatDoor
