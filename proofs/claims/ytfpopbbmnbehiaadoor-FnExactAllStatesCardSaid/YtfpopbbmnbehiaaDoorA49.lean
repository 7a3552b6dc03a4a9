/-
  Joined: MarkS, MarkS2.
-/
import Derived.Test.YtfpopbbmnbehiaaDoorA48

namespace Go.Proofs.YtfpopbbmnbehiaaDoor
set_option maxRecDepth 100000
set_option maxHeartbeats 16000000
open Go.RowKit

def mkTS:Nat→List ByteArray→Nat→List ByteArray
 | _,xs,0=>xs
 | _,[],_+1=>[]
 | k,_::xs,j+1=>markB k::mkTS (k+1) xs j
theorem mkTS_len:∀ (k:Nat) (xs:List ByteArray) (j:Nat),(mkTS k xs j).length=xs.length
 | _,xs,0=>by simp [mkTS]
 | _,[],_+1=>by simp [mkTS]
 | k,_::xs,j+1=>by simp [mkTS,mkTS_len]
theorem mkTS_set:∀ (k:Nat) (xs:List ByteArray) (j:Nat),j<xs.length→(mkTS k xs j).set j (markB (k+j))=mkTS k xs (j+1)
 | _,[],j,h=>by simp at h
 | k,x::xs,0,_=>by simp [mkTS]
 | k,x::xs,j+1,h=>by
  have ih:=mkTS_set (k+1) xs j (by simpa using h)
  have e:k+(j+1)=k+1+j:=by omega
  rw [e]
  simp only [mkTS,List.set_cons_succ,ih]
theorem mkTS_get:∀ (k:Nat) (xs:List ByteArray) (j i:Nat),i<j→j≤xs.length→(mkTS k xs j).getD i ByteArray.empty=markB (k+i)
 | _,xs,0,i,h,_=>by omega
 | _,[],j+1,i,_,h=>by simp at h
 | k,x::xs,j+1,0,_,_=>by simp [mkTS]
 | k,x::xs,j+1,i+1,h,hl=>by
  have ih:=mkTS_get (k+1) xs j i (by omega) (by simpa using hl)
  have e:k+(i+1)=k+1+i:=by omega
  rw [e,← ih]
  simp [mkTS]

theorem markStringS_own (base g n cap k:Nat) (xs:List ByteArray) (w:World) (hk0:0<k) (hk:k≤100000000) (hn:n≤1048576) (ho:w.ownsRow base 9 1 (.slice (some ⟨g,0,none⟩) n cap) n (xs.map Value.string)) :
  Calls Tryd.prog 14 #[.slice (some ⟨g,0,none⟩) n cap,.int .i64 k] w fun e w'=>e=.returned (.int .i64 (k+n)) ∧
   w'.ownsRow base 9 1 (.slice (some ⟨g,0,none⟩) n cap) n ((mkTS k xs n).map Value.string)∧Below base w w':=by
 have hlen:xs.length=n:=by simpa using ho.1
 have hbg:=(ho.lt g rfl).1
 go_enter Tryd.func14,Tryd.ntmps14
 go_wp2
 go_loopw [1,5] (fun sk si wr=>∃ j m:Nat,j≤n∧Hid (m=k+j)∧si=.int .i64 j∧sk=.int .i64 m∧wr.ownsRow base 9 1 (.slice (some ⟨g,0,none⟩) n cap) n ((mkTS k xs j).map Value.string)∧Below base w wr) (fun _ si _=>n - (intOf si).toNat)
 case atStart=>exact ⟨0,k,by omega,rfl,rfl,rfl,by simpa [mkTS] using ho,Below.refl _ _⟩
 case round =>
  obtain ⟨j,m,hj,hm,rfl,rfl,hr,hbel⟩:=hrel
  by_cases hlt:j<n
  ·have hlt2:(j:Int)<(n:Int):=by omega
   have hj0:(0:Int)≤(j:Int):=by omega
   have hm0:0<m:=by have:=hm.out;omega
   have hm1:m≤1000000000:=by have:=hm.out;omega
   have hset:=mkTS_set k xs j (by omega)
   rw [← hm.out] at hset
   have hsz:=(hr.lt g rfl).2
   go_wp2_with fail
   refine (markText_is m _ hm0 hm1).mono ?_
   rintro e w1 ⟨rfl,hb1⟩
   have hr1:=owns_below hr hb1
   have hbel1:Below base w w1:=hbel.trans (hb1.mono (by omega))
   clear hr hbel hb1
   have hf:=hr1.frozenAt j
   have hst:=(hr1.stored j (.string (markB m))).1
   rw [← List.map_set,hset] at hst
   obtain ⟨u,hu⟩:∃ u,w1.cell? ⟨g,j,none⟩=some u:=by
    have:=hr1.cellAt j (by omega)
    rw [this]
    exact ⟨_,List.getElem?_eq_getElem (by simp [mkTS_len];omega)⟩
   have hb2:Below base w (w1.setCell ⟨g,j,none⟩ (.string (markB m))):=hbel1.setCell hbg _
   clear hr1 ho hset hbel1
   generalize markB m=tx at hst hb2
   go_wp2
   go_roundw
   case rel=>exact ⟨j+1,m+1,by omega,by have:=hm.out;rw [Hid];omega,by go_num,by go_num,hst,hb2⟩
   case measure=>simp [intOf];omega
  ·obtain rfl:j=n:=by omega
   go_wp2
   go_ret
   refine ⟨?_,hr,hbel⟩
   rw [hm.out]
   simp

theorem markStringS_none (a:Option Addr) (cap:Nat) (k:Int) (w:World) :
  Calls Tryd.prog 14 #[.slice a 0 cap,.int .i64 k] w fun e w'=>e=.returned (.int .i64 k)∧w=w':=by
 go_enter Tryd.func14,Tryd.ntmps14
 go_wp2
 refine wp_loop_rounds 1 ?_
 rw [rounds_succ]
 go_wp2
 go_ret
 exact ⟨rfl,rfl⟩

theorem markStringS_any (base:Nat) (a:Option Addr) (n cap k:Nat) (xs:List ByteArray) (w:World) (hk0:0<k) (hk:k≤100000000) (hn:n≤1048576) (h:OwnT base w a n cap xs) :
  Calls Tryd.prog 14 #[.slice a n cap,.int .i64 k] w fun e w'=>e=.returned (.int .i64 (k+n))∧OwnT base w' a n cap (mkTS k xs n)∧Below base w w':=by
 obtain ⟨h1,h2,h3,h4⟩:=h
 rcases h4 with rfl | ⟨g,rfl,h4⟩
 ·refine (markStringS_none a cap k w).mono ?_
  rintro e w' ⟨rfl,rfl⟩
  exact ⟨by simp,⟨by rw [mkTS_len];exact h1,h2,h3,.inl rfl⟩,Below.refl _ _⟩
 ·refine (markStringS_own base g n cap k xs w hk0 hk hn h4).mono ?_
  rintro e w' ⟨rfl,ho,hb⟩
  exact ⟨rfl,⟨by rw [mkTS_len];exact h1,h2,h3,.inr ⟨g,rfl,ho⟩⟩,hb⟩

theorem heldStringS_yes (a:Option Addr) (n cap k:Nat) (zs:List ByteArray) (w:World) (hk0:0<k) (hk:k≤100000000) (hn:n≤1048576) (h:Strs w a n cap zs) (hm:∀ i,i<n→zs.getD i ByteArray.empty=markB (k+i)) :
  Calls Tryd.prog 15 #[.slice a n cap,.int .i64 k] w fun e w'=>e=.returned (.int .i64 (k+n))∧Below w.heap.size w w':=by
 obtain ⟨hl,hlc,hcm,hcase⟩:=h
 unfold maxLen at hcm
 by_cases h0:n=0
 ·subst h0
  go_enter Tryd.func15,Tryd.ntmps15
  go_wp2
  refine wp_loop_rounds 1 ?_
  rw [rounds_succ]
  go_wp2
  go_ret
  exact ⟨by simp,Below.refl _ _⟩
 ·rcases hcase with h0' | ⟨b,off,rfl,hblt,hcell⟩
  ·exact absurd h0' h0
  go_enter Tryd.func15,Tryd.ntmps15
  go_wp2
  go_loopw [1,5] (fun sk si wr=>∃ j m:Nat,j≤n∧Hid (m=k+j)∧si=.int .i64 j∧sk=.int .i64 m∧Below w.heap.size w wr) (fun _ si _=>n - (intOf si).toNat)
  case atStart=>exact ⟨0,k,by omega,rfl,rfl,rfl,Below.refl _ _⟩
  case round =>
   obtain ⟨j,m,hj,hmj,rfl,rfl,hbel⟩:=hrel
   by_cases hlt:j<n
   ·have hc:=hcell j hlt
    rw [hm j hlt,← hmj.out] at hc
    rw [← hbel.cell (p:=⟨b,_,none⟩) hblt] at hc
    have hlt2:(j:Int)<(n:Int):=by omega
    have hj0:(0:Int)≤(j:Int):=by omega
    have hm0:0<m:=by have:=hmj.out;omega
    have hm1:m≤1000000000:=by have:=hmj.out;omega
    have K:=fun W=>markText_is m W hm0 hm1
    generalize markB m=tx at hc K
    have hxx:(tx.toList != tx.toList)=false:=by simp
    have hxy:(tx.toList == tx.toList)=true:=by simp
    clear hcell hm
    go_wp2_with fail
    go_region_held3 (fun w'=>w'.cell? ⟨b,off+j,none⟩=some (.string tx)) (first | (exact hc) | (apply cells_kept (by assumption);assumption) | go_keep)
     (first | (go_at_call 34;refine (K _).mono ?_;rintro e w1 ⟨rfl,hb1⟩))
    have hbel1:Below w.heap.size w w1:=bel_trans hbel (bel_trans (by go_grown) hb1)
    go_wp2
    go_roundw
    case rel=>exact ⟨j+1,m+1,by omega,by have:=hmj.out;rw [Hid];omega,by go_num,by go_num,hbel1⟩
    case measure=>simp [intOf];omega
   ·obtain rfl:j=n:=by omega
    go_wp2
    go_ret
    refine ⟨?_,hbel⟩
    rw [hmj.out]
    simp


theorem OwnProg.but {t:TypeId} {w w':World} {B:Nat} {v:Value} {rows:List (List I3)} (h:OwnProg w B v rows) (hk:KeptBut t w w') (h1:67≠t) (h2:103≠t):OwnProg w' B v rows:=by
 obtain ⟨vs,a1,a2,a3,a4⟩:=h
 exact ⟨vs,hk.owns a1 h1,a2,fun i hi=>hk.owns (a3 i hi) h2,a4⟩
end Go.Proofs.YtfpopbbmnbehiaaDoor
