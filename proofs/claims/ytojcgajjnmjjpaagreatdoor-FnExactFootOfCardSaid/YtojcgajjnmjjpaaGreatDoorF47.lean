/-
  Joined: Vm1, SizeB.
-/
import Derived.Test.YtojcgajjnmjjpaaGreatDoorF46

namespace Go.Proofs.YtojcgajjnmjjpaaGreatDoor
set_option maxRecDepth 100000
open Go.RowKit

set_option maxHeartbeats 1000000 in
theorem szIntS_less (a:Option Addr) (len cap:Nat) (left:Int) (w:World) (hl:len≤maxLen) (h0:0≤left) (h1:left≤2 ^ 20) :
  Calls Tryz.prog 62 #[.slice a len cap,.int .i64 left] w fun e w'=>e=.returned (.int .i64 (less left len))∧w=w':=by
 unfold maxLen at hl
 unfold less
 go_enter Tryz.func62,Tryz.ntmps62
 by_cases h:left - len<0
 ·rw [if_pos h]
  go_wp2
  go_ret
  exact ⟨rfl,rfl⟩
 ·rw [if_neg h]
  go_wp2
  go_ret
  exact ⟨rfl,rfl⟩
theorem szIntS_neg (a:Option Addr) (len cap:Nat) (left:Int) (w:World) (hl:len≤maxLen) (h0:0≤left) (h1:left≤2 ^ 20) (h:left - len<0) :
  Calls Tryz.prog 62 #[.slice a len cap,.int .i64 left] w fun e w'=>e=.returned (.int .i64 (-1))∧w=w':=by
 have:=szIntS_less a len cap left w hl h0 h1
 unfold less at this
 rwa [if_pos h] at this
theorem szIntS_pos (a:Option Addr) (len cap:Nat) (left:Int) (w:World) (hl:len≤maxLen) (h0:0≤left) (h1:left≤2 ^ 20) (h:0≤left - len) :
  Calls Tryz.prog 62 #[.slice a len cap,.int .i64 left] w fun e w'=>e=.returned (.int .i64 (left - len))∧w=w':=by
 have:=szIntS_less a len cap left w hl h0 h1
 unfold less at this
 rwa [if_neg (by omega)] at this

def SzV (s:S4) (left r:Int):Prop:=r=-1∨(0≤r∧r≤left∧(s.1.2.1:Int)≤left∧(s.2.1.2.1:Int)≤left∧(s.2.2.1.2.1:Int)≤left∧(s.2.2.2.2.1:Int)≤left)

set_option maxHeartbeats 2000000 in
theorem szVm_any (s:S4) (m:V4) (left:Int) (w:World) (h:Vmem w s m) (h0:0≤left) (h1:left≤2 ^ 20) :
  Calls Tryz.prog 19 #[s.val,.int .i64 left] w fun e w'=>(∃ r,e=.returned (.int .i64 r)∧SzV s left r)∧Below w.heap.size w w':=by
 have q0:=Nat.le_trans h.1.1.2.1 h.1.1.2.2.1
 have q1:=Nat.le_trans h.2.1.1.2.1 h.2.1.1.2.2.1
 have q2:=Nat.le_trans h.2.2.1.1.2.1 h.2.2.1.1.2.2.1
 have q3:=Nat.le_trans h.2.2.2.1.2.1 h.2.2.2.1.2.2.1
 clear h
 obtain ⟨⟨a0,n0,c0⟩,⟨a1,n1,c1⟩,⟨a2,n2,c2⟩,⟨a3,n3,c3⟩⟩:=s
 unfold S4.val
 simp only at q0 q1 q2 q3 ⊢
 have hb:Below w.heap.size w (w.alloc (.cells #[.slice a0 n0 c0,.slice a1 n1 c1,.slice a2 n2 c2,.slice a3 n3 c3] 49)):=by go_grown
 by_cases g0:left - n0<0
 ·go_enter Tryz.func19,Tryz.ntmps19
  go_wp2_with fail
  refine (szIntS_neg a0 n0 c0 (left) _ q0 (by omega) (by omega) g0).mono ?_
  rintro e w1 ⟨rfl,rfl⟩
  go_wp2
  go_ret
  exact ⟨⟨_,rfl,.inl rfl⟩,hb⟩
 by_cases g1:left - n0 - n1<0
 ·go_enter Tryz.func19,Tryz.ntmps19
  go_wp2_with fail
  refine (szIntS_pos a0 n0 c0 (left) _ q0 (by omega) (by omega) (by omega)).mono ?_
  rintro e w1 ⟨rfl,rfl⟩
  go_wp2_with fail
  refine (szIntS_neg a1 n1 c1 (left - n0) _ q1 (by omega) (by omega) g1).mono ?_
  rintro e w1 ⟨rfl,rfl⟩
  go_wp2
  go_ret
  exact ⟨⟨_,rfl,.inl rfl⟩,hb⟩
 by_cases g2:left - n0 - n1 - n2<0
 ·go_enter Tryz.func19,Tryz.ntmps19
  go_wp2_with fail
  refine (szIntS_pos a0 n0 c0 (left) _ q0 (by omega) (by omega) (by omega)).mono ?_
  rintro e w1 ⟨rfl,rfl⟩
  go_wp2_with fail
  refine (szIntS_pos a1 n1 c1 (left - n0) _ q1 (by omega) (by omega) (by omega)).mono ?_
  rintro e w1 ⟨rfl,rfl⟩
  go_wp2_with fail
  refine (szIntS_neg a2 n2 c2 (left - n0 - n1) _ q2 (by omega) (by omega) g2).mono ?_
  rintro e w1 ⟨rfl,rfl⟩
  go_wp2
  go_ret
  exact ⟨⟨_,rfl,.inl rfl⟩,hb⟩
 by_cases g3:left - n0 - n1 - n2 - n3<0
 ·go_enter Tryz.func19,Tryz.ntmps19
  go_wp2_with fail
  refine (szIntS_pos a0 n0 c0 (left) _ q0 (by omega) (by omega) (by omega)).mono ?_
  rintro e w1 ⟨rfl,rfl⟩
  go_wp2_with fail
  refine (szIntS_pos a1 n1 c1 (left - n0) _ q1 (by omega) (by omega) (by omega)).mono ?_
  rintro e w1 ⟨rfl,rfl⟩
  go_wp2_with fail
  refine (szIntS_pos a2 n2 c2 (left - n0 - n1) _ q2 (by omega) (by omega) (by omega)).mono ?_
  rintro e w1 ⟨rfl,rfl⟩
  go_wp2_with fail
  refine (szIntS_neg a3 n3 c3 (left - n0 - n1 - n2) _ q3 (by omega) (by omega) g3).mono ?_
  rintro e w1 ⟨rfl,rfl⟩
  go_wp2
  go_ret
  exact ⟨⟨_,rfl,.inl rfl⟩,hb⟩
 go_enter Tryz.func19,Tryz.ntmps19
 go_wp2_with fail
 refine (szIntS_pos a0 n0 c0 (left) _ q0 (by omega) (by omega) (by omega)).mono ?_
 rintro e w1 ⟨rfl,rfl⟩
 go_wp2_with fail
 refine (szIntS_pos a1 n1 c1 (left - n0) _ q1 (by omega) (by omega) (by omega)).mono ?_
 rintro e w1 ⟨rfl,rfl⟩
 go_wp2_with fail
 refine (szIntS_pos a2 n2 c2 (left - n0 - n1) _ q2 (by omega) (by omega) (by omega)).mono ?_
 rintro e w1 ⟨rfl,rfl⟩
 go_wp2_with fail
 refine (szIntS_pos a3 n3 c3 (left - n0 - n1 - n2) _ q3 (by omega) (by omega) (by omega)).mono ?_
 rintro e w1 ⟨rfl,rfl⟩
 go_wp2
 go_ret
 exact ⟨⟨_,rfl,.inr ⟨by omega,by omega,by simp only;omega,by simp only;omega,by simp only;omega,by simp only;omega⟩⟩,hb⟩

set_option maxHeartbeats 2000000 in
theorem eqVm_same (s s':S4) (m:V4) (w:World) (h:Vmem w s m) (h':Vmem w s' m) :
  Calls Tryz.prog 24 #[s.val,s'.val] w fun e w'=>e=.returned (.bool true)∧Below w.heap.size w w':=by
 obtain ⟨⟨i0,_⟩,⟨i1,_⟩,⟨i2,_⟩,⟨i3,_⟩⟩:=h
 obtain ⟨⟨j0,_⟩,⟨j1,_⟩,⟨j2,_⟩,⟨j3,_⟩⟩:=h'
 obtain ⟨⟨a0,n0,c0⟩,⟨a1,n1,c1⟩,⟨a2,n2,c2⟩,⟨a3,n3,c3⟩⟩:=s
 obtain ⟨⟨b0,k0,d0⟩,⟨b1,k1,d1⟩,⟨b2,k2,d2⟩,⟨b3,k3,d3⟩⟩:=s'
 obtain ⟨m0,m1,m2,m3⟩:=m
 unfold S4.val
 simp only at i0 i1 i2 i3 j0 j1 j2 j3 ⊢
 obtain rfl:k0=n0:=j0.1.symm.trans i0.1
 obtain rfl:k1=n1:=j1.1.symm.trans i1.1
 obtain rfl:k2=n2:=j2.1.symm.trans i2.1
 obtain rfl:k3=n3:=j3.1.symm.trans i3.1
 have hb0:Below w.heap.size w ((w.alloc (.cells #[.slice a0 k0 c0,.slice a1 k1 c1,.slice a2 k2 c2,.slice a3 k3 c3] 37)).alloc (.cells #[.slice b0 k0 d0,.slice b1 k1 d1,.slice b2 k2 d2,.slice b3 k3 d3] 37)):=by go_grown
 have hw:∀ j v,[Value.slice a0 k0 c0,.slice a1 k1 c1,.slice a2 k2 c2,.slice a3 k3 c3][j]?=some v→((w.alloc (.cells #[.slice a0 k0 c0,.slice a1 k1 c1,.slice a2 k2 c2,.slice a3 k3 c3] 37)).alloc (.cells #[.slice b0 k0 d0,.slice b1 k1 d1,.slice b2 k2 d2,.slice b3 k3 d3] 37)).cell? ⟨w.heap.size,j,none⟩=some v:=by
  intro j v hj
  match j,hj with
  | 0,hj=>simp at hj;subst hj;simp [go_sem]
  | 1,hj=>simp at hj;subst hj;simp [go_sem]
  | 2,hj=>simp at hj;subst hj;simp [go_sem]
  | 3,hj=>simp at hj;subst hj;simp [go_sem]
  | (j+4),hj=>simp at hj
 have hw':∀ j v,[Value.slice b0 k0 d0,.slice b1 k1 d1,.slice b2 k2 d2,.slice b3 k3 d3][j]?=some v→((w.alloc (.cells #[.slice a0 k0 c0,.slice a1 k1 c1,.slice a2 k2 c2,.slice a3 k3 c3] 37)).alloc (.cells #[.slice b0 k0 d0,.slice b1 k1 d1,.slice b2 k2 d2,.slice b3 k3 d3] 37)).cell? ⟨w.heap.size+1,j,none⟩=some v:=by
  intro j v hj
  match j,hj with
  | 0,hj=>simp at hj;subst hj;simp [go_sem]
  | 1,hj=>simp at hj;subst hj;simp [go_sem]
  | 2,hj=>simp at hj;subst hj;simp [go_sem]
  | 3,hj=>simp at hj;subst hj;simp [go_sem]
  | (j+4),hj=>simp at hj
 have u0:=hw 0 _ rfl
 have u1:=hw 1 _ rfl
 have u2:=hw 2 _ rfl
 have u3:=hw 3 _ rfl
 have v0:=hw' 0 _ rfl
 have v1:=hw' 1 _ rfl
 have v2:=hw' 2 _ rfl
 have v3:=hw' 3 _ rfl
 clear hw hw'
 go_enter Tryz.func24,Tryz.ntmps24
 go_wp2_with fail
 generalize (w.alloc (.cells #[.slice a0 k0 c0,.slice a1 k1 c1,.slice a2 k2 c2,.slice a3 k3 c3] 37)).alloc (.cells #[.slice b0 k0 d0,.slice b1 k1 d1,.slice b2 k2 d2,.slice b3 k3 d3] 37)=W at *
 replace i0:=i0.below hb0
 replace i1:=i1.below hb0
 replace i2:=i2.below hb0
 replace i3:=i3.below hb0
 replace j0:=j0.below hb0
 replace j1:=j1.below hb0
 replace j2:=j2.below hb0
 replace j3:=j3.below hb0
 refine (eqIntS_same a0 b0 k0 c0 d0 m0 _ i0 j0).mono ?_
 rintro e w1 ⟨rfl,d,rfl⟩
 replace hb0:Below w.heap.size w (W.drewN d):=⟨hb0.os,hb0.tape,hb0.output,hb0.size,hb0.block⟩
 replace i1:Ints .i64 (W.drewN d) a1 k1 c1 m1:=i1
 replace j1:Ints .i64 (W.drewN d) b1 k1 d1 m1:=j1
 replace u1:(W.drewN d).cell? ⟨w.heap.size,1,none⟩=some (.slice a1 k1 c1):=u1
 replace v1:(W.drewN d).cell? ⟨w.heap.size+1,1,none⟩=some (.slice b1 k1 d1):=v1
 replace i2:Ints .i64 (W.drewN d) a2 k2 c2 m2:=i2
 replace j2:Ints .i64 (W.drewN d) b2 k2 d2 m2:=j2
 replace u2:(W.drewN d).cell? ⟨w.heap.size,2,none⟩=some (.slice a2 k2 c2):=u2
 replace v2:(W.drewN d).cell? ⟨w.heap.size+1,2,none⟩=some (.slice b2 k2 d2):=v2
 replace i3:Ints .i64 (W.drewN d) a3 k3 c3 m3:=i3
 replace j3:Ints .i64 (W.drewN d) b3 k3 d3 m3:=j3
 replace u3:(W.drewN d).cell? ⟨w.heap.size,3,none⟩=some (.slice a3 k3 c3):=u3
 replace v3:(W.drewN d).cell? ⟨w.heap.size+1,3,none⟩=some (.slice b3 k3 d3):=v3
 clear i0 j0 u0 v0
 generalize W.drewN d=W at *
 go_wp2_with fail
 refine (eqIntS_same a1 b1 k1 c1 d1 m1 _ i1 j1).mono ?_
 rintro e w1 ⟨rfl,d,rfl⟩
 replace hb0:Below w.heap.size w (W.drewN d):=⟨hb0.os,hb0.tape,hb0.output,hb0.size,hb0.block⟩
 replace i2:Ints .i64 (W.drewN d) a2 k2 c2 m2:=i2
 replace j2:Ints .i64 (W.drewN d) b2 k2 d2 m2:=j2
 replace u2:(W.drewN d).cell? ⟨w.heap.size,2,none⟩=some (.slice a2 k2 c2):=u2
 replace v2:(W.drewN d).cell? ⟨w.heap.size+1,2,none⟩=some (.slice b2 k2 d2):=v2
 replace i3:Ints .i64 (W.drewN d) a3 k3 c3 m3:=i3
 replace j3:Ints .i64 (W.drewN d) b3 k3 d3 m3:=j3
 replace u3:(W.drewN d).cell? ⟨w.heap.size,3,none⟩=some (.slice a3 k3 c3):=u3
 replace v3:(W.drewN d).cell? ⟨w.heap.size+1,3,none⟩=some (.slice b3 k3 d3):=v3
 clear i1 j1 u1 v1
 generalize W.drewN d=W at *
 go_wp2_with fail
 refine (eqIntS_same a2 b2 k2 c2 d2 m2 _ i2 j2).mono ?_
 rintro e w1 ⟨rfl,d,rfl⟩
 replace hb0:Below w.heap.size w (W.drewN d):=⟨hb0.os,hb0.tape,hb0.output,hb0.size,hb0.block⟩
 replace i3:Ints .i64 (W.drewN d) a3 k3 c3 m3:=i3
 replace j3:Ints .i64 (W.drewN d) b3 k3 d3 m3:=j3
 replace u3:(W.drewN d).cell? ⟨w.heap.size,3,none⟩=some (.slice a3 k3 c3):=u3
 replace v3:(W.drewN d).cell? ⟨w.heap.size+1,3,none⟩=some (.slice b3 k3 d3):=v3
 clear i2 j2 u2 v2
 generalize W.drewN d=W at *
 go_wp2_with fail
 refine (eqIntS_same a3 b3 k3 c3 d3 m3 _ i3 j3).mono ?_
 rintro e w1 ⟨rfl,d,rfl⟩
 replace hb0:Below w.heap.size w (W.drewN d):=⟨hb0.os,hb0.tape,hb0.output,hb0.size,hb0.block⟩
 clear i3 j3 u3 v3
 generalize W.drewN d=W at *
 go_wp2
 go_ret
 exact ⟨rfl,hb0⟩


theorem lessAll_each:∀ (rows:List (List I3)) (left:Int),0≤lessAll left rows→0≤left→∀ r ∈ rows,(r.length:Int)≤left
 | [],_,_,_,r,hr=>by cases hr
 | x::xs,left,h,h0,r,hr=>by
  unfold lessAll at h
  split at h
  ·omega
  ·rcases List.mem_cons.1 hr with rfl | hr
   ·omega
   ·have:=lessAll_each xs (left - x.length) h (by omega) r hr
    omega

theorem getD_length_le {rows:List (List I3)} {n:Nat} (h:∀ r ∈ rows,r.length≤n) (t:Nat):(rows.getD t []).length≤n:=by
 by_cases ht:t<rows.length
 ·have:rows.getD t []=rows[t]:=by simp [List.getD,ht]
  rw [this]
  exact h _ (List.getElem_mem ht)
 ·have:rows.getD t []=[]:=by simp [List.getD,List.getElem?_eq_none (Nat.le_of_not_lt ht)]
  rw [this]
  exact Nat.zero_le _

theorem size_bounds {rows:List (List I3)} {left:Int} (hm:left≤1048576) (h:0≤sizeLeft left rows) (h0:0≤left):rows.length≤1048576∧∀ t,(rows.getD t []).length≤1048576:=by
 unfold sizeLeft at h
 split at h
 ·omega
 ·refine ⟨by omega,fun t=>getD_length_le (fun r hr=>?_) t⟩
  have:=lessAll_each rows _ h (by omega) r hr
  omega

end Go.Proofs.YtojcgajjnmjjpaaGreatDoor
