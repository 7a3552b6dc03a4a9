/-
  Joined: RisI.
-/
import Derived.Shelf.Small.Strs
import Derived.Test.YtdopgkbegjfhjaaGreatDoorR27
import Derived.Test.YtdopgkbegjfhjaaGreatDoorR31

namespace Go.Proofs.YtdopgkbegjfhjaaGreatDoor
set_option maxRecDepth 100000
set_option maxHeartbeats 16000000
open Go.RowKit Go.Sort
set_option linter.unusedVariables false
set_option linter.unusedSimpArgs false

theorem cmpCompare9 (x y:Int) (w:World):Calls Tryz.prog 132 #[.int .i64 x,.int .i64 y] w fun e w'=>e=.returned (.int .i64 (cmpI x y))∧Below w.heap.size w w':=by
 refine (cmpCompare_is x y w).mono ?_
 rintro e w' ⟨rfl,rfl⟩
 exact ⟨rfl,Below.refl _ _⟩
theorem compareBugs9 (x y:I3) (w:World):Calls Tryz.prog 135 #[.agg #[.int .i64 x.1,.int .i64 x.2.1,.int .i64 x.2.2],.agg #[.int .i64 y.1,.int .i64 y.2.1,.int .i64 y.2.2]] w fun e w'=>e=.returned (.int .i64 (cmpB x y))∧Below w.heap.size w w':=by
 refine (compareBugs_is x y w).mono ?_
 rintro e w' ⟨rfl,q,os,rfl⟩
 refine ⟨rfl,rfl,rfl,rfl,?_,fun k hk=>?_⟩
 ·simp [grow,World.drewN]
 ·simp only [grow,World.drewN]
  rw [Array.getElem?_append_left hk]
theorem cmpI_lt (x y:Int):cmpI x y<0↔decide (x<y)=true:=by
 unfold cmpI
 by_cases h1:x<y
 ·simp [h1]
 ·by_cases h2:y<x
  ·simp [h1,h2]
  ·simp [h1,h2]
theorem cmpB_lt9 (x y:I3):cmpB x y<0↔ltB x y=true:=by
 rw [← cmpB_lt x y]
 unfold ltOf
 simp
def stI (xs:List Int) (i:Nat):Bool:=decide (i=0) || (decide ((xs.getD (i - 1) 0)<(xs.getD i 0)))
def upI (xs:List Int):Bool:=(List.range xs.length).all (stI xs)
theorem risesI_is (a:Option Addr) (n cap:Nat) (xs:List Int) (w:World) (h:Ints .i64 w a n cap xs) :
  Calls Tryz.prog 131 #[.slice a n cap,.func (.func 132) #[] #[]] w fun e w'=>e=.returned (.bool (upI xs))∧Below w.heap.size w w':=by
 obtain ⟨r,hr⟩:∃ r,r=upI xs:=⟨_,rfl⟩
 rw [← hr]
 have HR:Hid (r=upI xs):=hr
 clear hr
 have hl:=h.1
 have hnm:n≤maxLen:=Nat.le_trans h.2.1 h.2.2.1
 unfold maxLen at hnm
 go_enter Tryz.func131,Tryz.ntmps131
 go_wp2_with fail
 go_loopw [5] (fun si wr=>∃ k:Nat,1≤k∧(k≤n∨k=1)∧si=.int .i64 k∧Hid (∀ i,i<k→stI xs i=true)∧Below w.heap.size w wr) (fun si _=>n - (intOf si).toNat)
 case atStart => exact ⟨1, by omega, .inr rfl, rfl, (fun i hi => by obtain rfl : i = 0 := by omega
                                                                    rfl),Below.refl _ _⟩
 case round =>
  obtain ⟨k,hk1,hk,rfl,HK,bw⟩:=hrel
  by_cases hlt:k<n
  ·obtain ⟨m,rfl⟩:∃ m,k=m+1:=⟨k - 1,by omega⟩
   have bd:Below w.heap.size w wr.drew:=bel8 bw (by go_grown)
   obtain ⟨_,_,_,hcase⟩:=h.below bd
   rcases hcase with e0 | ⟨b,off,rfl,hb,hc⟩
   ·omega
   have x0:=hc m (by omega)
   have y0:=hc (m+1) hlt
   have hst:stI xs (m+1)=decide (xs.getD m 0<xs.getD (m+1) 0):=by unfold stI;simp
   have kC:=fun W=>cmpCompare9 (xs.getD m 0) (xs.getD (m+1) 0) W
   have hcl:=cmpI_lt (xs.getD m 0) (xs.getD (m+1) 0)
   generalize cmpI (xs.getD m 0) (xs.getD (m+1) 0)=c at *
   generalize xs.getD m 0=x at *
   generalize xs.getD (m+1) 0=y at *
   have hlt2:((m+1:Nat):Int)<(n:Int):=by omega
   have hm0:(0:Int)≤(m:Int):=by omega
   have HC:Hid (c<0↔decide (x<y)=true):=hcl
   have HT:Hid (stI xs (m+1)=decide (x<y)):=hst
   clear hcl hst hc hb
   generalize decide (x<y)=lt at *
   by_cases hneg:c<0
   ·have HK2:Hid (∀ i,i<m+1+1→stI xs i=true):=fun i hi=>by
     by_cases e:i=m+1
     ·rw [e,HT.out];exact HC.out.1 hneg
     ·exact HK.out i (by omega)
    clear HK HC HT
    have hng:¬ (0:Int)≤c:=by omega
    have hge:decide ((0:Int)≤c)=false:=by simp;omega
    clear hneg
    go_wp2_with fail
    refine wp_region_held_drew (S:=(fun w'=>w'.cell? ⟨b,off+m,none⟩=some (.int .i64 x)∧w'.cell? ⟨b,off+(m+1),none⟩=some (.int .i64 y))) (by kernel_rfl) ⟨x0,y0⟩ (fun hS0=>?_)
    refine tkv 0 12 (.func (.func 132) #[] #[]) ?_
    refine tkv 1 13 (.slice (some ⟨b,off,none⟩) n cap) ?_
    refine tkv 2 14 (.int .i64 ((m+1:Nat):Int)) ?_
    refine tkv 3 15 (.int .i64 (m:Int)) ?_
    refine tkv 4 16 (.pointer (some ⟨b,off+m,none⟩)) ?_
    refine tkv 5 17 (.int .i64 x) ?_
    refine tkv 6 18 (.slice (some ⟨b,off,none⟩) n cap) ?_
    refine tkv 7 19 (.int .i64 ((m+1:Nat):Int)) ?_
    refine tkv 8 20 (.pointer (some ⟨b,off+(m+1),none⟩)) ?_
    refine tkv 9 21 (.int .i64 y) ?_
    refine tkr 10 22 (fun K hK=>?_)
    go_simp
    refine (kC _).mono ?_
    rintro e w5 ⟨rfl,hb5⟩
    go_wp2_with fail
    refine hK.out _ _ ?_ (fun hS5=>?_)
    ·exact ⟨cells_kept hb5 _ _ hS0.1,cells_kept hb5 _ _ hS0.2⟩
    clear hK
    refine tkv 11 23 (.bool false) ?_
    refine wpAnyH_done (by kernel_rfl) ?_ _
    replace bw:=bel8 bd hb5
    clear hS0 hS5 hb5 bd x0 y0
    go_wp2
    go_roundw
    case rel=>exact ⟨m+1+1,by omega,.inl (by omega),by go_num,HK2,bw⟩
    case measure=>simp [intOf];omega
   ·have HF:Hid (r=false):=by
     rw [Hid,HR.out]
     refine allR_false (k:=m+1) (by omega) ?_
     rw [HT.out]
     cases hq:lt
     ·rfl
     ·exact absurd (HC.out.2 hq) hneg
    clear HK HC HT
    have hpo:(0:Int)≤c:=by omega
    have hge:decide ((0:Int)≤c)=true:=by simp;omega
    clear hneg
    go_wp2_with fail
    refine wp_region_held_drew (S:=(fun w'=>w'.cell? ⟨b,off+m,none⟩=some (.int .i64 x)∧w'.cell? ⟨b,off+(m+1),none⟩=some (.int .i64 y))) (by kernel_rfl) ⟨x0,y0⟩ (fun hS0=>?_)
    refine tkv 0 12 (.func (.func 132) #[] #[]) ?_
    refine tkv 1 13 (.slice (some ⟨b,off,none⟩) n cap) ?_
    refine tkv 2 14 (.int .i64 ((m+1:Nat):Int)) ?_
    refine tkv 3 15 (.int .i64 (m:Int)) ?_
    refine tkv 4 16 (.pointer (some ⟨b,off+m,none⟩)) ?_
    refine tkv 5 17 (.int .i64 x) ?_
    refine tkv 6 18 (.slice (some ⟨b,off,none⟩) n cap) ?_
    refine tkv 7 19 (.int .i64 ((m+1:Nat):Int)) ?_
    refine tkv 8 20 (.pointer (some ⟨b,off+(m+1),none⟩)) ?_
    refine tkv 9 21 (.int .i64 y) ?_
    refine tkr 10 22 (fun K hK=>?_)
    go_simp
    refine (kC _).mono ?_
    rintro e w5 ⟨rfl,hb5⟩
    go_wp2_with fail
    refine hK.out _ _ ?_ (fun hS5=>?_)
    ·exact ⟨cells_kept hb5 _ _ hS0.1,cells_kept hb5 _ _ hS0.2⟩
    clear hK
    refine tkv 11 23 (.bool true) ?_
    refine wpAnyH_done (by kernel_rfl) ?_ _
    replace bw:=bel8 bd hb5
    clear hS0 hS5 hb5 bd x0 y0
    go_wp2
    go_ret
    exact ⟨by rw [HF.out];rfl,bw⟩
  ·have HF:Hid (r=true):=by
    rw [Hid,HR.out]
    exact allR_true fun i hi=>HK.out i (by omega)
   have hlt2:¬ (k:Int)<(n:Int):=by omega
   clear HK
   go_wp2
   go_ret
   exact ⟨by rw [HF.out];rfl,bw⟩
def stB (xs:List I3) (i:Nat):Bool:=decide (i=0) || (ltB (xs.getD (i - 1) (0,0,0)) (xs.getD i (0,0,0)))
def upB (xs:List I3):Bool:=(List.range xs.length).all (stB xs)
theorem risesB_is (a:Option Addr) (n cap:Nat) (xs:List I3) (w:World) (h:Instrs w a n cap xs) :
  Calls Tryz.prog 134 #[.slice a n cap,.func (.func 135) #[] #[]] w fun e w'=>e=.returned (.bool (upB xs))∧Below w.heap.size w w':=by
 obtain ⟨r,hr⟩:∃ r,r=upB xs:=⟨_,rfl⟩
 rw [← hr]
 have HR:Hid (r=upB xs):=hr
 clear hr
 have hl:=h.1
 have hnm:n≤maxLen:=Nat.le_trans h.2.1 h.2.2.1
 unfold maxLen at hnm
 go_enter Tryz.func134,Tryz.ntmps134
 go_wp2_with fail
 go_loopw [5] (fun si wr=>∃ k:Nat,1≤k∧(k≤n∨k=1)∧si=.int .i64 k∧Hid (∀ i,i<k→stB xs i=true)∧Below w.heap.size w wr) (fun si _=>n - (intOf si).toNat)
 case atStart => exact ⟨1, by omega, .inr rfl, rfl, (fun i hi => by obtain rfl : i = 0 := by omega
                                                                    rfl),Below.refl _ _⟩
 case round =>
  obtain ⟨k,hk1,hk,rfl,HK,bw⟩:=hrel
  by_cases hlt:k<n
  ·obtain ⟨m,rfl⟩:∃ m,k=m+1:=⟨k - 1,by omega⟩
   have bd:Below w.heap.size w wr.drew:=bel8 bw (by go_grown)
   obtain ⟨_,_,_,_,hcase⟩:=h.below bd
   rcases hcase with e0 | ⟨b,off,rfl,hb,hc⟩
   ·omega
   obtain ⟨x0,x1,x2⟩:=hc m (by omega)
   obtain ⟨y0,y1,y2⟩:=hc (m+1) hlt
   have hst:stB xs (m+1)=ltB (xs.getD m (0,0,0)) (xs.getD (m+1) (0,0,0)):=by unfold stB;simp
   have kC:=fun W=>compareBugs9 (xs.getD m (0,0,0)) (xs.getD (m+1) (0,0,0)) W
   have hcl:=cmpB_lt9 (xs.getD m (0,0,0)) (xs.getD (m+1) (0,0,0))
   generalize cmpB (xs.getD m (0,0,0)) (xs.getD (m+1) (0,0,0))=c at *
   generalize xs.getD m (0,0,0)=x at *
   generalize xs.getD (m+1) (0,0,0)=y at *
   generalize ltB x y=lt at *
   obtain ⟨p0,p1,p2⟩:=x
   obtain ⟨q0,q1,q2⟩:=y
   simp only at x0 x1 x2 y0 y1 y2 kC
   have hlt2:((m+1:Nat):Int)<(n:Int):=by omega
   have hm0:(0:Int)≤(m:Int):=by omega
   have HC:Hid (c<0↔lt=true):=hcl
   have HT:Hid (stB xs (m+1)=lt):=hst
   clear hcl hst hc hb
   skip
   by_cases hneg:c<0
   ·have HK2:Hid (∀ i,i<m+1+1→stB xs i=true):=fun i hi=>by
     by_cases e:i=m+1
     ·rw [e,HT.out];exact HC.out.1 hneg
     ·exact HK.out i (by omega)
    clear HK HC HT
    have hng:¬ (0:Int)≤c:=by omega
    have hge:decide ((0:Int)≤c)=false:=by simp;omega
    clear hneg
    go_wp2_with fail
    refine wp_region_held_drew (S:=(fun w'=>w'.cell? ⟨b,off+m*3,none⟩=some (.int .i64 p0)∧w'.cell? ⟨b,off+m*3+1,none⟩=some (.int .i64 p1)∧w'.cell? ⟨b,off+m*3+2,none⟩=some (.int .i64 p2)∧w'.cell? ⟨b,off+(m+1)*3,none⟩=some (.int .i64 q0)∧w'.cell? ⟨b,off+(m+1)*3+1,none⟩=some (.int .i64 q1)∧w'.cell? ⟨b,off+(m+1)*3+2,none⟩=some (.int .i64 q2))) (by kernel_rfl) ⟨x0,x1,x2,y0,y1,y2⟩ (fun hS0=>?_)
    refine tkv 0 12 (.func (.func 135) #[] #[]) ?_
    refine tkv 1 13 (.slice (some ⟨b,off,none⟩) n cap) ?_
    refine tkv 2 14 (.int .i64 ((m+1:Nat):Int)) ?_
    refine tkv 3 15 (.int .i64 (m:Int)) ?_
    refine tkv 4 16 (.pointer (some ⟨b,off+m*3,none⟩)) ?_
    refine tkv 5 17 (.agg #[.int .i64 p0,.int .i64 p1,.int .i64 p2]) ?_
    refine tkv 6 18 (.slice (some ⟨b,off,none⟩) n cap) ?_
    refine tkv 7 19 (.int .i64 ((m+1:Nat):Int)) ?_
    refine tkv 8 20 (.pointer (some ⟨b,off+(m+1)*3,none⟩)) ?_
    refine tkv 9 21 (.agg #[.int .i64 q0,.int .i64 q1,.int .i64 q2]) ?_
    refine tkr 10 22 (fun K hK=>?_)
    go_simp
    refine (kC _).mono ?_
    rintro e w5 ⟨rfl,hb5⟩
    go_wp2_with fail
    refine hK.out _ _ ?_ (fun hS5=>?_)
    ·exact ⟨cells_kept hb5 _ _ hS0.1,cells_kept hb5 _ _ hS0.2.1,cells_kept hb5 _ _ hS0.2.2.1,cells_kept hb5 _ _ hS0.2.2.2.1,cells_kept hb5 _ _ hS0.2.2.2.2.1,cells_kept hb5 _ _ hS0.2.2.2.2.2⟩
    clear hK
    refine tkv 11 23 (.bool false) ?_
    refine wpAnyH_done (by kernel_rfl) ?_ _
    replace bw:=bel8 bd hb5
    clear hS0 hS5 hb5 bd x0 x1 x2 y0 y1 y2
    go_wp2
    go_roundw
    case rel=>exact ⟨m+1+1,by omega,.inl (by omega),by go_num,HK2,bw⟩
    case measure=>simp [intOf];omega
   ·have HF:Hid (r=false):=by
     rw [Hid,HR.out]
     refine allR_false (k:=m+1) (by omega) ?_
     rw [HT.out]
     cases hq:lt
     ·rfl
     ·exact absurd (HC.out.2 hq) hneg
    clear HK HC HT
    have hpo:(0:Int)≤c:=by omega
    have hge:decide ((0:Int)≤c)=true:=by simp;omega
    clear hneg
    go_wp2_with fail
    refine wp_region_held_drew (S:=(fun w'=>w'.cell? ⟨b,off+m*3,none⟩=some (.int .i64 p0)∧w'.cell? ⟨b,off+m*3+1,none⟩=some (.int .i64 p1)∧w'.cell? ⟨b,off+m*3+2,none⟩=some (.int .i64 p2)∧w'.cell? ⟨b,off+(m+1)*3,none⟩=some (.int .i64 q0)∧w'.cell? ⟨b,off+(m+1)*3+1,none⟩=some (.int .i64 q1)∧w'.cell? ⟨b,off+(m+1)*3+2,none⟩=some (.int .i64 q2))) (by kernel_rfl) ⟨x0,x1,x2,y0,y1,y2⟩ (fun hS0=>?_)
    refine tkv 0 12 (.func (.func 135) #[] #[]) ?_
    refine tkv 1 13 (.slice (some ⟨b,off,none⟩) n cap) ?_
    refine tkv 2 14 (.int .i64 ((m+1:Nat):Int)) ?_
    refine tkv 3 15 (.int .i64 (m:Int)) ?_
    refine tkv 4 16 (.pointer (some ⟨b,off+m*3,none⟩)) ?_
    refine tkv 5 17 (.agg #[.int .i64 p0,.int .i64 p1,.int .i64 p2]) ?_
    refine tkv 6 18 (.slice (some ⟨b,off,none⟩) n cap) ?_
    refine tkv 7 19 (.int .i64 ((m+1:Nat):Int)) ?_
    refine tkv 8 20 (.pointer (some ⟨b,off+(m+1)*3,none⟩)) ?_
    refine tkv 9 21 (.agg #[.int .i64 q0,.int .i64 q1,.int .i64 q2]) ?_
    refine tkr 10 22 (fun K hK=>?_)
    go_simp
    refine (kC _).mono ?_
    rintro e w5 ⟨rfl,hb5⟩
    go_wp2_with fail
    refine hK.out _ _ ?_ (fun hS5=>?_)
    ·exact ⟨cells_kept hb5 _ _ hS0.1,cells_kept hb5 _ _ hS0.2.1,cells_kept hb5 _ _ hS0.2.2.1,cells_kept hb5 _ _ hS0.2.2.2.1,cells_kept hb5 _ _ hS0.2.2.2.2.1,cells_kept hb5 _ _ hS0.2.2.2.2.2⟩
    clear hK
    refine tkv 11 23 (.bool true) ?_
    refine wpAnyH_done (by kernel_rfl) ?_ _
    replace bw:=bel8 bd hb5
    clear hS0 hS5 hb5 bd x0 x1 x2 y0 y1 y2
    go_wp2
    go_ret
    exact ⟨by rw [HF.out];rfl,bw⟩
  ·have HF:Hid (r=true):=by
    rw [Hid,HR.out]
    exact allR_true fun i hi=>HK.out i (by omega)
   have hlt2:¬ (k:Int)<(n:Int):=by omega
   clear HK
   go_wp2
   go_ret
   exact ⟨by rw [HF.out];rfl,bw⟩
end Go.Proofs.YtdopgkbegjfhjaaGreatDoor
