/-
  Joined: VmOKI.
-/
import Derived.Test.YtjgffnlmjmibgaaDoorK13

namespace Go.Proofs.YtjgffnlmjmibgaaDoor
set_option maxRecDepth 100000
set_option maxHeartbeats 16000000
open Go.RowKit

theorem implVmOK_is (a:Option Addr) (len cap:Nat) (rows:List (List I3)) (s:S4) (m:V4) (w:World) (hC:Codes w a len cap rows) (h:Vmem w s m) (hV:VmShape w) :
  Calls Tryd.prog 90 #[.agg #[.slice a len cap],s.val] w fun e w'=>e=.returned (.bool (progOk rows && shapeOk m))∧Below w.heap.size w w':=by
 have kP:=implProgramOK_is a len cap rows
 have kS:=right_is s m
 generalize progOk rows=x at *
 generalize shapeOk m=y at *
 obtain ⟨⟨a0,n0,c0⟩,⟨a1,n1,c1⟩,⟨a2,n2,c2⟩,⟨a3,n3,c3⟩⟩:=s
 unfold S4.val at kS ⊢
 simp only at kS ⊢
 have hu:Hid (∀ W,Below w.heap.size w W→Vmem W ((a0,n0,c0),(a1,n1,c1),(a2,n2,c2),(a3,n3,c3)) m):=fun W hb=>h.below hb
 have bw:Below w.heap.size w ((w.alloc (.cells #[.slice a len cap] 25)).alloc (.cells #[.slice a0 n0 c0,.slice a1 n1 c1,.slice a2 n2 c2,.slice a3 n3 c3] 30)):=by go_grown
 have cS:∀ j v,[Value.slice a0 n0 c0,.slice a1 n1 c1,.slice a2 n2 c2,.slice a3 n3 c3][j]?=some v→((w.alloc (.cells #[.slice a len cap] 25)).alloc (.cells #[.slice a0 n0 c0,.slice a1 n1 c1,.slice a2 n2 c2,.slice a3 n3 c3] 30)).cell? ⟨w.heap.size+1,j,none⟩=some v:=by
  intro j v hj
  match j,hj with
  | 0,hj=>simp at hj;subst hj;simp [go_sem]
  | 1,hj=>simp at hj;subst hj;simp [go_sem]
  | 2,hj=>simp at hj;subst hj;simp [go_sem]
  | 3,hj=>simp at hj;subst hj;simp [go_sem]
  | (j+4),hj=>simp at hj
 have s0:=cS 0 _ rfl
 have s1:=cS 1 _ rfl
 have s2:=cS 2 _ rfl
 have s3:=cS 3 _ rfl
 clear cS
 go_enter Tryd.func90,Tryd.ntmps90
 go_wp2_with fail
 refine (kP _ (hC.below bw)).mono ?_
 rintro e w1 ⟨rfl,hb⟩
 replace bw:=bel_trans bw hb
 replace s0:=cells_kept hb _ _ s0
 replace s1:=cells_kept hb _ _ s1
 replace s2:=cells_kept hb _ _ s2
 replace s3:=cells_kept hb _ _ s3
 clear hb hC kP
 cases x
 ·go_wp2
  go_ret
  exact ⟨rfl,bw⟩
 go_wp2_with fail
 refine (kS _ (hu.out _ bw) (hV.below bw)).mono ?_
 rintro e w2 ⟨rfl,hb⟩
 replace bw:=bel_trans bw hb
 cases y
 ·go_wp2
  go_ret
  exact ⟨rfl,bw⟩
 go_wp2
 go_ret
 exact ⟨rfl,bw⟩
end Go.Proofs.YtjgffnlmjmibgaaDoor
