/-
  Joined: RisI.
-/
import Derived.Maps.OwnSet
import Derived.Maps.OwnOps
import Derived.Maps.Own
import Derived.Shelf.SlIterI.Nil
import Derived.Shelf.SortM.Plain
import Derived.Shelf.SortM.SortNone
import Derived.Shelf.Small.Strs
import Derived.Test.YtdopgkbegjfhjaaC19
import Derived.Test.YtdopgkbegjfhjaaC20
import Derived.Test.YtdopgkbegjfhjaaC26
import Derived.Test.YtdopgkbegjfhjaaC41
import Derived.Test.YtdopgkbegjfhjaaC42

namespace Go.Proofs.Ytdopgkbegjfhjaa
set_option maxRecDepth 100000
set_option maxHeartbeats 16000000
open Go.RowKit Go.Sort
set_option linter.unusedVariables false
set_option linter.unusedSimpArgs false

theorem compareBugs9 (x y:I3) (w:World):Calls Try.prog 21 #[.agg #[.int .i64 x.1,.int .i64 x.2.1,.int .i64 x.2.2],.agg #[.int .i64 y.1,.int .i64 y.2.1,.int .i64 y.2.2]] w fun e w'=>e=.returned (.int .i64 (cmpB x y))∧Below w.heap.size w w':=by
 refine (compareBugs_is x y w).mono ?_
 rintro e w' ⟨rfl,q,os,rfl⟩
 refine ⟨rfl,rfl,rfl,rfl,?_,fun k hk=>?_⟩
 ·simp [grow,World.drewN]
 ·simp only [grow,World.drewN]
  rw [Array.getElem?_append_left hk]
theorem cmpB_lt9 (x y:I3):cmpB x y<0↔ltB x y=true:=by
 rw [← cmpB_lt x y]
 unfold ltOf
 simp
def stB (xs:List I3) (i:Nat):Bool:=decide (i=0) || (ltB (xs.getD (i - 1) (0,0,0)) (xs.getD i (0,0,0)))
def upB (xs:List I3):Bool:=(List.range xs.length).all (stB xs)
theorem risesB_is (a:Option Addr) (n cap:Nat) (xs:List I3) (w:World) (h:Instrs w a n cap xs) :
  Calls Try.prog 20 #[.slice a n cap,.func (.func 21) #[] #[]] w fun e w'=>e=.returned (.bool (upB xs))∧Below w.heap.size w w':=by
 obtain ⟨r,hr⟩:∃ r,r=upB xs:=⟨_,rfl⟩
 rw [← hr]
 have HR:Hid (r=upB xs):=hr
 clear hr
 have hl:=h.1
 have hnm:n≤maxLen:=Nat.le_trans h.2.1 h.2.2.1
 unfold maxLen at hnm
 go_enter Try.func20,Try.ntmps20
 go_wp2_with fail
 go_loopw [5] (fun si wr=>∃ k:Nat,1≤k∧(k≤n∨k=1)∧si=.int .i64 k∧Hid (∀ i,i<k→stB xs i=true)∧Below w.heap.size w wr) (fun si _=>n - (intOf si).toNat)
 case atStart => exact ⟨1, by omega, .inr rfl, rfl, (fun i hi => by obtain rfl : i = 0 := by omega
                                                                    rfl),Below.refl _ _⟩
 case round =>
  obtain ⟨k,hk1,hk,rfl,HK,bw⟩:=hrel
  by_cases hlt:k<n
  ·obtain ⟨m,rfl⟩:∃ m,k=m+1:=⟨k - 1,by omega⟩
   have bd:Below w.heap.size w wr.drew:=bel8 bw (by go_grown)
   obtain ⟨_,_,_,_,hcase⟩:=h.below bd
   rcases hcase with e0 | ⟨b,off,rfl,hb,hc⟩
   ·omega
   obtain ⟨x0,x1,x2⟩:=hc m (by omega)
   obtain ⟨y0,y1,y2⟩:=hc (m+1) hlt
   have hst:stB xs (m+1)=ltB (xs.getD m (0,0,0)) (xs.getD (m+1) (0,0,0)):=by unfold stB;simp
   have kC:=fun W=>compareBugs9 (xs.getD m (0,0,0)) (xs.getD (m+1) (0,0,0)) W
   have hcl:=cmpB_lt9 (xs.getD m (0,0,0)) (xs.getD (m+1) (0,0,0))
   generalize cmpB (xs.getD m (0,0,0)) (xs.getD (m+1) (0,0,0))=c at *
   generalize xs.getD m (0,0,0)=x at *
   generalize xs.getD (m+1) (0,0,0)=y at *
   generalize ltB x y=lt at *
   obtain ⟨p0,p1,p2⟩:=x
   obtain ⟨q0,q1,q2⟩:=y
   simp only at x0 x1 x2 y0 y1 y2 kC
   have hlt2:((m+1:Nat):Int)<(n:Int):=by omega
   have hm0:(0:Int)≤(m:Int):=by omega
   have HC:Hid (c<0↔lt=true):=hcl
   have HT:Hid (stB xs (m+1)=lt):=hst
   clear hcl hst hc hb
   skip
   by_cases hneg:c<0
   ·have HK2:Hid (∀ i,i<m+1+1→stB xs i=true):=fun i hi=>by
     by_cases e:i=m+1
     ·rw [e,HT.out];exact HC.out.1 hneg
     ·exact HK.out i (by omega)
    clear HK HC HT
    have hng:¬ (0:Int)≤c:=by omega
    have hge:decide ((0:Int)≤c)=false:=by simp;omega
    clear hneg
    go_wp2_with fail
    refine wp_region_held_drew (S:=(fun w'=>w'.cell? ⟨b,off+m*3,none⟩=some (.int .i64 p0)∧w'.cell? ⟨b,off+m*3+1,none⟩=some (.int .i64 p1)∧w'.cell? ⟨b,off+m*3+2,none⟩=some (.int .i64 p2)∧w'.cell? ⟨b,off+(m+1)*3,none⟩=some (.int .i64 q0)∧w'.cell? ⟨b,off+(m+1)*3+1,none⟩=some (.int .i64 q1)∧w'.cell? ⟨b,off+(m+1)*3+2,none⟩=some (.int .i64 q2))) (by kernel_rfl) ⟨x0,x1,x2,y0,y1,y2⟩ (fun hS0=>?_)
    refine tkv 0 12 (.func (.func 21) #[] #[]) ?_
    refine tkv 1 13 (.slice (some ⟨b,off,none⟩) n cap) ?_
    refine tkv 2 14 (.int .i64 ((m+1:Nat):Int)) ?_
    refine tkv 3 15 (.int .i64 (m:Int)) ?_
    refine tkv 4 16 (.pointer (some ⟨b,off+m*3,none⟩)) ?_
    refine tkv 5 17 (.agg #[.int .i64 p0,.int .i64 p1,.int .i64 p2]) ?_
    refine tkv 6 18 (.slice (some ⟨b,off,none⟩) n cap) ?_
    refine tkv 7 19 (.int .i64 ((m+1:Nat):Int)) ?_
    refine tkv 8 20 (.pointer (some ⟨b,off+(m+1)*3,none⟩)) ?_
    refine tkv 9 21 (.agg #[.int .i64 q0,.int .i64 q1,.int .i64 q2]) ?_
    refine tkr 10 22 (fun K hK=>?_)
    go_simp
    refine (kC _).mono ?_
    rintro e w5 ⟨rfl,hb5⟩
    go_wp2_with fail
    refine hK.out _ _ ?_ (fun hS5=>?_)
    ·exact ⟨cells_kept hb5 _ _ hS0.1,cells_kept hb5 _ _ hS0.2.1,cells_kept hb5 _ _ hS0.2.2.1,cells_kept hb5 _ _ hS0.2.2.2.1,cells_kept hb5 _ _ hS0.2.2.2.2.1,cells_kept hb5 _ _ hS0.2.2.2.2.2⟩
    clear hK
    refine tkv 11 23 (.bool false) ?_
    refine wpAnyH_done (by kernel_rfl) ?_ _
    replace bw:=bel8 bd hb5
    clear hS0 hS5 hb5 bd x0 x1 x2 y0 y1 y2
    go_wp2
    go_roundw
    case rel=>exact ⟨m+1+1,by omega,.inl (by omega),by go_num,HK2,bw⟩
    case measure=>simp [intOf];omega
   ·have HF:Hid (r=false):=by
     rw [Hid,HR.out]
     refine allR_false (k:=m+1) (by omega) ?_
     rw [HT.out]
     cases hq:lt
     ·rfl
     ·exact absurd (HC.out.2 hq) hneg
    clear HK HC HT
    have hpo:(0:Int)≤c:=by omega
    have hge:decide ((0:Int)≤c)=true:=by simp;omega
    clear hneg
    go_wp2_with fail
    refine wp_region_held_drew (S:=(fun w'=>w'.cell? ⟨b,off+m*3,none⟩=some (.int .i64 p0)∧w'.cell? ⟨b,off+m*3+1,none⟩=some (.int .i64 p1)∧w'.cell? ⟨b,off+m*3+2,none⟩=some (.int .i64 p2)∧w'.cell? ⟨b,off+(m+1)*3,none⟩=some (.int .i64 q0)∧w'.cell? ⟨b,off+(m+1)*3+1,none⟩=some (.int .i64 q1)∧w'.cell? ⟨b,off+(m+1)*3+2,none⟩=some (.int .i64 q2))) (by kernel_rfl) ⟨x0,x1,x2,y0,y1,y2⟩ (fun hS0=>?_)
    refine tkv 0 12 (.func (.func 21) #[] #[]) ?_
    refine tkv 1 13 (.slice (some ⟨b,off,none⟩) n cap) ?_
    refine tkv 2 14 (.int .i64 ((m+1:Nat):Int)) ?_
    refine tkv 3 15 (.int .i64 (m:Int)) ?_
    refine tkv 4 16 (.pointer (some ⟨b,off+m*3,none⟩)) ?_
    refine tkv 5 17 (.agg #[.int .i64 p0,.int .i64 p1,.int .i64 p2]) ?_
    refine tkv 6 18 (.slice (some ⟨b,off,none⟩) n cap) ?_
    refine tkv 7 19 (.int .i64 ((m+1:Nat):Int)) ?_
    refine tkv 8 20 (.pointer (some ⟨b,off+(m+1)*3,none⟩)) ?_
    refine tkv 9 21 (.agg #[.int .i64 q0,.int .i64 q1,.int .i64 q2]) ?_
    refine tkr 10 22 (fun K hK=>?_)
    go_simp
    refine (kC _).mono ?_
    rintro e w5 ⟨rfl,hb5⟩
    go_wp2_with fail
    refine hK.out _ _ ?_ (fun hS5=>?_)
    ·exact ⟨cells_kept hb5 _ _ hS0.1,cells_kept hb5 _ _ hS0.2.1,cells_kept hb5 _ _ hS0.2.2.1,cells_kept hb5 _ _ hS0.2.2.2.1,cells_kept hb5 _ _ hS0.2.2.2.2.1,cells_kept hb5 _ _ hS0.2.2.2.2.2⟩
    clear hK
    refine tkv 11 23 (.bool true) ?_
    refine wpAnyH_done (by kernel_rfl) ?_ _
    replace bw:=bel8 bd hb5
    clear hS0 hS5 hb5 bd x0 x1 x2 y0 y1 y2
    go_wp2
    go_ret
    exact ⟨by rw [HF.out];rfl,bw⟩
  ·have HF:Hid (r=true):=by
    rw [Hid,HR.out]
    exact allR_true fun i hi=>HK.out i (by omega)
   have hlt2:¬ (k:Int)<(n:Int):=by omega
   clear HK
   go_wp2
   go_ret
   exact ⟨by rw [HF.out];rfl,bw⟩
end Go.Proofs.Ytdopgkbegjfhjaa
