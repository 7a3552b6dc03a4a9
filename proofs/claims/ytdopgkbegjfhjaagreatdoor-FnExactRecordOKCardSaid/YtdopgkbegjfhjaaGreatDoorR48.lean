/-
  Joined: RecM.
-/
import Derived.Test.YtdopgkbegjfhjaaGreatDoorR44

namespace Go.Proofs.YtdopgkbegjfhjaaGreatDoor
set_option maxRecDepth 100000
set_option maxHeartbeats 16000000
open Go.RowKit
set_option linter.unusedVariables false
set_option linter.unusedSimpArgs false

theorem markRecordS_own (base g n cap k:Nat) (rs:List R2) (w:World) (hk0:0<k) (hk:k≤1000000) (hn:n≤1048576) (hl:rs.length=n) (ho:w.ownsRow base 24 2 (.slice (some ⟨g,0,none⟩) n cap) n (flatR rs)) :
  Calls Tryz.prog 30 #[.slice (some ⟨g,0,none⟩) n cap,.int .i64 k] w fun e w'=>e=.returned (.int .i64 ((k+n*2:Nat):Int)) ∧
   w'.ownsRow base 24 2 (.slice (some ⟨g,0,none⟩) n cap) n (flatR (mkR k rs n))∧Below base w w':=by
 have hbg:=(ho.lt g rfl).1
 go_enter Tryz.func30,Tryz.ntmps30
 go_wp2
 go_loopw [1,5] (fun sk si wr=>∃ j m:Nat,j≤n∧Hid (m=k+j*2)∧si=.int .i64 j∧sk=.int .i64 m∧wr.ownsRow base 24 2 (.slice (some ⟨g,0,none⟩) n cap) n (flatR (mkR k rs j))∧Below base w wr) (fun _ si _=>n - (intOf si).toNat)
 case atStart=>exact ⟨0,k,by omega,rfl,rfl,rfl,by simpa [mkR] using ho,Below.refl _ _⟩
 case round =>
  obtain ⟨j,m,hj,hm,rfl,rfl,hr,hbel⟩:=hrel
  by_cases hlt:j<n
  ·have hlt2:(j:Int)<(n:Int):=by omega
   have hj0:(0:Int)≤(j:Int):=by omega
   have hm0:0<m+1:=by omega
   have hm1:m+1≤1000000000:=by have:=hm.out;omega
   have hset:=mkR_set k rs j (by omega)
   rw [← hm.out] at hset
   have hlen:(flatR (mkR k rs j)).length=n*2:=by rw [flatR_length,mkR_len,hl]
   have f0:=hr.frozenAt (j*2)
   obtain ⟨u0,hu0⟩:∃ u,wr.cell? ⟨g,j*2,none⟩=some u:=⟨_,by rw [hr.cellAt _ (by omega)];exact List.getElem?_eq_getElem (by omega)⟩
   have R1:=(hr.stored (j*2) (.int .i64 (m:Int))).1
   have b1:Below base w (wr.setCell ⟨g,j*2,none⟩ (.int .i64 (m:Int))):=hbel.setCell hbg _
   have q1:IntKind.i64.wrap ((m:Int)+1)=((m+1:Nat):Int):=by rw [IntWalk.i64_in _ ⟨by omega,by omega⟩];rfl
   clear hr hbel
   go_wp2_with fail
   generalize wr.setCell ⟨g,j*2,none⟩ (.int .i64 (m:Int))=W1 at *
   clear f0 hu0
   try rw [show ((m:Int)+1)=((m+1:Nat):Int) from rfl]
   refine (markText_is (m+1) _ hm0 hm1).mono ?_
   rintro e w1 ⟨rfl,hb1⟩
   have hsz:=(R1.lt g rfl).2
   have R2:=owns_below R1 hb1
   have b2:Below base w w1:=b1.trans (hb1.mono (by omega))
   clear R1 hb1 b1
   have f1:=R2.frozenAt (j*2+1)
   obtain ⟨u1,hu1⟩:∃ u,w1.cell? ⟨g,j*2+1,none⟩=some u:=⟨_,by rw [R2.cellAt _ (by omega)];exact List.getElem?_eq_getElem (by rw [List.length_set];omega)⟩
   have R3:=(R2.stored (j*2+1) (.string (markB (m+1)))).1
   rw [hset] at R3
   have b3:Below base w (w1.setCell ⟨g,j*2+1,none⟩ (.string (markB (m+1)))):=b2.setCell hbg _
   clear R2 b2 hset
   generalize markB (m+1)=tx at R3 b3
   go_wp2
   go_roundw
   case rel=>exact ⟨j+1,m+2,by omega,by have:=hm.out;rw [Hid];omega,by go_num,by go_num,R3,b3⟩
   case measure=>simp [intOf];omega
  ·obtain rfl:j=n:=by omega
   go_wp2
   go_ret
   refine ⟨?_,hr,hbel⟩
   rw [hm.out]
   rfl

theorem markRecordS_none (k:Int) (w:World):Calls Tryz.prog 30 #[.slice none 0 0,.int .i64 k] w fun e w'=>e=.returned (.int .i64 k)∧w=w':=by
 go_enter Tryz.func30,Tryz.ntmps30
 go_wp2
 refine wp_loop_rounds 1 ?_
 rw [rounds_succ]
 go_wp2
 go_ret
 exact ⟨rfl,rfl⟩

theorem markRecordS_any (base:Nat) (v:Value) (k:Nat) (rs:List R2) (w:World) (hk0:0<k) (hk:k≤1000000) (hn:rs.length≤1048576) (ho:OwnR w base v rs) :
  Calls Tryz.prog 30 #[v,.int .i64 k] w fun e w'=>e=.returned (.int .i64 ((k+rs.length*2:Nat):Int)) ∧
   OwnR w' base v (mkR k rs rs.length)∧Below base w w':=by
 rcases id ho.2 with ⟨rfl,h0⟩ | ⟨g,cap,cur,rfl,_⟩
 ·obtain rfl:rs=[]:=List.eq_nil_of_length_eq_zero h0
  refine (markRecordS_none k w).mono ?_
  rintro e w' ⟨rfl,rfl⟩
  exact ⟨by simp,ho,Below.refl _ _⟩
 ·refine (markRecordS_own base g _ cap k rs w hk0 hk hn rfl ho).mono ?_
  rintro e w' ⟨rfl,h,b⟩
  refine ⟨rfl,?_,b⟩
  unfold OwnR
  rw [mkR_len]
  exact h

theorem heldRecordS_own (base g n cap k:Nat) (rs:List R2) (w:World) (hk0:0<k) (hk:k≤1000000) (hn:n≤1048576) (hl:rs.length=n) (ho:w.ownsRow base 24 2 (.slice (some ⟨g,0,none⟩) n cap) n (flatR (mkR k rs n))) :
  Calls Tryz.prog 31 #[.slice (some ⟨g,0,none⟩) n cap,.int .i64 k] w fun e w'=>e=.returned (.int .i64 ((k+n*2:Nat):Int))∧Below w.heap.size w w':=by
 have hsz:=(ho.lt g rfl).2
 go_enter Tryz.func31,Tryz.ntmps31
 go_wp2
 go_loopw [1,5] (fun sk si wr=>∃ j m:Nat,j≤n∧Hid (m=k+j*2)∧si=.int .i64 j∧sk=.int .i64 m∧Below w.heap.size w wr) (fun _ si _=>n - (intOf si).toNat)
 case atStart=>exact ⟨0,k,by omega,rfl,rfl,rfl,Below.refl _ _⟩
 case round =>
  obtain ⟨j,m,hj,hm,rfl,rfl,hbel⟩:=hrel
  by_cases hlt:j<n
  ·have hlt2:(j:Int)<(n:Int):=by omega
   have hj0:(0:Int)≤(j:Int):=by omega
   have hm0:0<m+1:=by omega
   have hm1:m+1≤1000000000:=by have:=hm.out;omega
   obtain ⟨a0,a1⟩:=flatR_at (rs:=mkR k rs n) (t:=j) (by rw [mkR_len];omega)
   rw [mkR_get k rs n j hlt (by omega),← hm.out] at a0 a1
   have c0:wr.cell? ⟨g,j*2,none⟩=some (.int .i64 (m:Int)):=by rw [hbel.cell (p:=⟨g,_,none⟩) hsz,ho.cellAt _ (by omega)];exact a0
   have c1:wr.cell? ⟨g,j*2+1,none⟩=some (.string (markB (m+1))):=by rw [hbel.cell (p:=⟨g,_,none⟩) hsz,ho.cellAt _ (by omega)];exact a1
   have n0:((m:Int) != (m:Int))=false:=by simp
   have q1:IntKind.i64.wrap ((m:Int)+1)=((m+1:Nat):Int):=by rw [IntWalk.i64_in _ ⟨by omega,by omega⟩];rfl
   have K:=fun W=>markText_is (m+1) W hm0 hm1
   generalize markB (m+1)=tx at c1 K
   have hxx:(tx.toList != tx.toList)=false:=by simp
   have hxy:(tx.toList == tx.toList)=true:=by simp
   clear a0 a1 ho
   go_wp2_with fail
   clear c0
   try rw [show ((m:Int)+1)=((m+1:Nat):Int) from rfl]
   go_region_held3 (fun w'=>w'.cell? ⟨g,j*2+1,none⟩=some (.string tx)) (first | (exact c1) | (apply cellsD2 (by assumption);assumption) | go_keep)
    (first | (go_at_call 55;refine (K _).mono ?_;rintro e w1 ⟨rfl,hb1⟩))
   have hbel1:Below w.heap.size w w1:=belD hbel (belD (by go_grown) hb1)
   go_wp2
   go_roundw
   case rel=>exact ⟨j+1,m+2,by omega,by have:=hm.out;rw [Hid];omega,by go_num,by go_num,hbel1⟩
   case measure=>simp [intOf];omega
  ·obtain rfl:j=n:=by omega
   go_wp2
   go_ret
   refine ⟨?_,hbel⟩
   rw [hm.out]
   rfl

theorem heldRecordS_none (k:Int) (w:World):Calls Tryz.prog 31 #[.slice none 0 0,.int .i64 k] w fun e w'=>e=.returned (.int .i64 k)∧w=w':=by
 go_enter Tryz.func31,Tryz.ntmps31
 go_wp2
 refine wp_loop_rounds 1 ?_
 rw [rounds_succ]
 go_wp2
 go_ret
 exact ⟨rfl,rfl⟩

theorem heldRecordS_any (base:Nat) (v:Value) (k:Nat) (rs:List R2) (w:World) (hk0:0<k) (hk:k≤1000000) (hn:rs.length≤1048576) (ho:OwnR w base v (mkR k rs rs.length)) :
  Calls Tryz.prog 31 #[v,.int .i64 k] w fun e w'=>e=.returned (.int .i64 ((k+rs.length*2:Nat):Int))∧Below w.heap.size w w':=by
 unfold OwnR at ho
 rw [mkR_len] at ho
 rcases id ho.2 with ⟨rfl,h0⟩ | ⟨g,cap,cur,rfl,_⟩
 ·obtain rfl:rs=[]:=List.eq_nil_of_length_eq_zero h0
  refine (heldRecordS_none k w).mono ?_
  rintro e w' ⟨rfl,rfl⟩
  exact ⟨by simp,Below.refl _ _⟩
 ·exact heldRecordS_own base g _ cap k rs w hk0 hk hn rfl ho
end Go.Proofs.YtdopgkbegjfhjaaGreatDoor
