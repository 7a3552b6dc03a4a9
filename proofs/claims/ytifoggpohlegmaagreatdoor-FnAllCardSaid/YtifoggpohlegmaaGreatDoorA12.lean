/-
  Joined: StepQ, EnabA, StepPl, Src.
-/
import Derived.Test.YtifoggpohlegmaaGreatDoorA11

namespace Go.Proofs.YtifoggpohlegmaaGreatDoor
set_option maxRecDepth 100000
set_option maxHeartbeats 16000000
open Go.RowKit
set_option linter.unusedSimpArgs false
set_option linter.unusedVariables false

theorem okI_parts {x:I3} (h:okI x=true) :
  (∃ a q:Nat,x=(1,(a:Int),(q:Int))∧a<2∧q<4)∨(∃ q a:Nat,x=(2,(q:Int),(a:Int))∧q<4∧a<2)∨(∃ (a:Nat) (z:Int),x=(3,(a:Int),z)∧a<2)∨(∃ (a:Nat) (z:Int),x=(4,(a:Int),z)∧a<2∧0≤z∧z≤9) ∨
  (∃ (a:Nat) (z:Int),x=(5,(a:Int),z)∧a<2)∨(∃ (a:Nat) (z:Int),x=(6,(a:Int),z)∧a<2)∨(∃ (a:Nat) (z:Int),x=(7,(a:Int),z)∧a<2∧1≤z∧z≤6)∨(∃ (a:Nat) (z:Int),x=(8,(a:Int),z)∧a<2):=by
 obtain ⟨o,a,b⟩:=x
 unfold okI at h
 simp only at h
 rcases op_cases (o,a,b) with e | e | e | e | e | e | e | e | e<;>simp only at e
 ·subst e
  simp [inB_true] at h
  exact .inl ⟨a.toNat,b.toNat,by rw [show ((a.toNat:Nat):Int)=a by omega,show ((b.toNat:Nat):Int)=b by omega],by omega,by omega⟩
 ·subst e
  simp [inB_true] at h
  exact .inr (.inl ⟨a.toNat,b.toNat,by rw [show ((a.toNat:Nat):Int)=a by omega,show ((b.toNat:Nat):Int)=b by omega],by omega,by omega⟩)
 ·subst e
  simp [inB_true] at h
  exact .inr (.inr (.inl ⟨a.toNat,b,by rw [show ((a.toNat:Nat):Int)=a by omega],by omega⟩))
 ·subst e
  simp [inB_true] at h
  exact .inr (.inr (.inr (.inl ⟨a.toNat,b,by rw [show ((a.toNat:Nat):Int)=a by omega],by omega,by omega,by omega⟩)))
 ·subst e
  simp [inB_true] at h
  exact .inr (.inr (.inr (.inr (.inl ⟨a.toNat,b,by rw [show ((a.toNat:Nat):Int)=a by omega],by omega⟩))))
 ·subst e
  simp [inB_true] at h
  exact .inr (.inr (.inr (.inr (.inr (.inl ⟨a.toNat,b,by rw [show ((a.toNat:Nat):Int)=a by omega],by omega⟩)))))
 ·subst e
  simp [inB_true] at h
  exact .inr (.inr (.inr (.inr (.inr (.inr (.inl ⟨a.toNat,b,by rw [show ((a.toNat:Nat):Int)=a by omega],by omega,by omega,by omega⟩))))))
 ·subst e
  simp [inB_true] at h
  exact .inr (.inr (.inr (.inr (.inr (.inr (.inr ⟨a.toNat,b,by rw [show ((a.toNat:Nat):Int)=a by omega],by omega⟩))))))
 ·obtain ⟨e1,e2,e3,e4,e5,e6,e7,e8⟩:=e
  simp [e1,e2,e3,e4,e5,e6,e7,e8] at h
section
variable (m : V4) (k a q : Nat) (z : Int)
theorem stepM_1:stepM m (1,(a:Int),(q:Int)) k=((m.1.set k (m.1.getD k 0+1),m.2.1,m.2.2.1,m.2.2.2.set (k*2+a) (m.2.1.getD q 0)),0):=rfl
theorem stepM_2:stepM m (2,(q:Int),(a:Int)) k=((m.1.set k (m.1.getD k 0+1),m.2.1.set q (m.2.2.2.getD (k*2+a) 0),m.2.2.1,m.2.2.2),0):=rfl
theorem stepM_3:stepM m (3,(a:Int),z) k=((m.1.set k (m.1.getD k 0+1),m.2.1,m.2.2.1,m.2.2.2.set (k*2+a) z),0):=rfl
theorem stepM_4:stepM m (4,(a:Int),z) k=((m.1.set k (m.1.getD k 0+1),m.2.1,m.2.2.1,m.2.2.2.set (k*2+a) ((m.2.2.2.getD (k*2+a) 0+z) % 10)),0):=rfl
theorem stepM_5:stepM m (5,(a:Int),z) k=((m.1.set k (m.1.getD k 0+1),m.2.1,m.2.2.1.set a ((k:Int)+1),m.2.2.2),0):=rfl
theorem stepM_6:stepM m (6,(a:Int),z) k=if m.2.2.1.getD a 0=(k:Int)+1 then ((m.1.set k (m.1.getD k 0+1),m.2.1,m.2.2.1.set a 0,m.2.2.2),0) else ((m.1.set k (m.1.getD k 0+1),m.2),13):=rfl
theorem stepM_7:stepM m (7,(a:Int),z) k=if m.2.2.2.getD (k*2+a) 0=0 then ((m.1.set k (m.1.getD k 0+1),m.2),0) else ((m.1.set k z,m.2),0):=rfl
theorem stepM_8:stepM m (8,(a:Int),z) k=if m.2.2.2.getD (k*2+a) 0=z then ((m.1.set k (m.1.getD k 0+1),m.2),0) else ((m.1.set k (m.1.getD k 0+1),m.2),12):=rfl
end

theorem step_is {w:World} {g:Nat} {cs:Sl × Sl × Sl} {rows:List (List I3)} {m:V4} (h:MachAt w g cs rows m) (hp:progOk rows=true) (hs:shapeOk m=true) {k:Nat} (hk:k<3) (hd:doneM rows m k=false) :
  Calls Tryz.prog 76 #[.pointer (some ⟨g,0,none⟩),.int .i64 k] w fun e w'=>e=.returned (.int .i64 (stepM m (insM rows m k) k).2)∧Blk w' g 89 (machCells cs.1.val cs.2.1.val cs.2.2.val (stepM m (insM rows m k) k).1)∧w.grownBy w' (some g):=by
 obtain ⟨p,ep,hlt,hi,hok⟩:=at_ins hp hs hk hd
 have hl6:=(codeM_len hp hk).1
 have e0:=h.code hk
 have e1:=h.pc hk
 rw [ep] at e1
 obtain ⟨b,off,ea,hpn,q0,q1,q2⟩:=ins_at (h.2 k hk) hlt
 rw [← hi] at q0 q1 q2
 rw [ea] at e0
 have hL:=LenOk.of hs
 have hr9:=(shape_bounds hs).2.2.2
 generalize insM rows m k=x at *
 rcases okI_parts hok with ⟨a,q,rfl,ha,hq⟩ | ⟨q,a,rfl,hq,ha⟩ | ⟨a,z,rfl,ha⟩ | ⟨a,z,rfl,ha,hz⟩ | ⟨a,z,rfl,ha⟩ | ⟨a,z,rfl,ha⟩ | ⟨a,z,rfl,ha,hz⟩ | ⟨a,z,rfl,ha⟩<;>simp only at q0 q1 q2
 ·rw [stepM_1,ep]
  exact step_load g k p b off _ _ a q _ cs m w hk hpn (by omega) hL h.1 (.inr trivial) e0 e1 q0 q1 q2 ha hq rfl
 ·rw [stepM_2,ep]
  exact step_store g k p b off _ _ a q _ cs m w hk hpn (by omega) hL h.1 (.inr trivial) e0 e1 q0 q1 q2 ha hq rfl
 ·rw [stepM_3,ep]
  exact step_set g k p b off _ _ a z cs m w hk hpn (by omega) hL h.1 (.inr trivial) e0 e1 q0 q1 q2 ha
 ·rw [stepM_4,ep]
  exact step_add g k p b off _ _ a z _ _ cs m w hk hpn (by omega) hL h.1 (.inr trivial) e0 e1 q0 q1 q2 ha rfl hz (getD_in hr9 (by decide) _) rfl
 ·rw [stepM_5,ep]
  exact step_lock g k p b off _ _ a z cs m w hk hpn (by omega) hL h.1 (.inr trivial) e0 e1 q0 q1 q2 ha
 ·rw [stepM_6,ep]
  by_cases hv:m.2.2.1.getD a 0=(k:Int)+1
  ·rw [if_pos hv]
   exact step_unlock_yes g k p b off _ _ a z cs m w hk hpn (by omega) hL h.1 (.inr trivial) e0 e1 q0 q1 q2 ha hv
  ·rw [if_neg hv]
   exact step_unlock_no g k p b off _ _ a z cs m w hk hpn (by omega) hL h.1 (.inr trivial) e0 e1 q0 q1 q2 ha hv
 ·rw [stepM_7,ep]
  by_cases hv:m.2.2.2.getD (k*2+a) 0=0
  ·rw [if_pos hv]
   exact step_stay g k p b off _ _ a z cs m w hk hpn (by omega) hL h.1 (.inr trivial) e0 e1 q0 q1 q2 ha hv
  ·rw [if_neg hv]
   exact step_jump g k p b off _ _ a z _ cs m w hk hpn (by omega) hL h.1 (.inr trivial) e0 e1 q0 q1 q2 ha rfl hv
 ·rw [stepM_8,ep]
  by_cases hv:m.2.2.2.getD (k*2+a) 0=z
  ·rw [if_pos hv]
   exact step_assert_yes g k p b off _ _ a z cs m w hk hpn (by omega) hL h.1 (.inr trivial) e0 e1 q0 q1 q2 ha hv
  ·rw [if_neg hv]
   exact step_assert_no g k p b off _ _ a z _ cs m w hk hpn (by omega) hL h.1 (.inr trivial) e0 e1 q0 q1 q2 ha rfl hv

theorem l03Step_is {w:World} {a9:Option Addr} {len cap:Nat} {cs:Sl × Sl × Sl} {rows:List (List I3)} {s:S4} {m:V4} (hl:len=3) (hR:RowsAt w a9 cs rows) (h:Vmem w s m) (hp:progOk rows=true) (hs:shapeOk m=true) {k:Nat} (hk:k<3) (hd:doneM rows m k=false) :
  Calls Tryz.prog 99 #[.agg #[.slice a9 len cap],s.val,.int .i64 k] w fun e w'=>VmGot e w' w.heap.size (stepM m (insM rows m k) k).1 (stepM m (insM rows m k) k).2∧Below w.heap.size w w':=by
 obtain ⟨p,ep,hlt,hi,hok⟩:=at_ins hp hs hk hd
 have hl6:=(codeM_len hp hk).1
 obtain ⟨b,off,rfl,_,hrow⟩:=hR
 obtain ⟨e0,hI⟩:=hrow k hk
 have hM:=h
 obtain ⟨⟨j0,_⟩,⟨j1,_⟩,⟨j2,_⟩,⟨j3,_⟩⟩:=h
 obtain ⟨l0,l1,l2,l3,_⟩:=shape_parts hs
 obtain ⟨⟨a0,n0,c0⟩,⟨a1,n1,c1⟩,⟨a2,n2,c2⟩,⟨a3,n3,c3⟩⟩:=s
 simp only at j0 j1 j2 j3
 obtain ⟨rfl,b0,o0,rfl⟩:=some_of_ints j0 l0 (by decide)
 obtain ⟨rfl,b1,o1,rfl⟩:=some_of_ints j1 l1 (by decide)
 obtain ⟨rfl,b2,o2,rfl⟩:=some_of_ints j2 l2 (by decide)
 obtain ⟨rfl,b3,o3,rfl⟩:=some_of_ints j3 l3 (by decide)
 have e1:=ints_at9 j0 (t:=k) hk
 rw [ep] at e1
 obtain ⟨cb,co,ea,hpn,q0,q1,q2⟩:=ins_at hI hlt
 rw [← hi] at q0 q1 q2
 rw [ea] at e0
 have hr9:=(shape_bounds hs).2.2.2
 have hriA:∀ a:Nat,(k:Int)*2+(a:Int)=((k*2+a:Nat):Int):=fun a=>by omega
 have hr6A:∀ a:Nat,a<2→k*2+a<6:=fun a ha=>by omega
 generalize insM rows m k=x at *
 rcases okI_parts hok with ⟨a,q,rfl,ha,hq⟩ | ⟨q,a,rfl,hq,ha⟩ | ⟨a,z,rfl,ha⟩ | ⟨a,z,rfl,ha,hz⟩ | ⟨a,z,rfl,ha⟩ | ⟨a,z,rfl,ha⟩ | ⟨a,z,rfl,ha,hz⟩ | ⟨a,z,rfl,ha⟩<;>simp only at q0 q1 q2
 ·rw [stepM_1,ep]
  exact lstep_load b off len cap b0 o0 c0 b1 o1 c1 b2 o2 c2 b3 o3 c3 k cb co _ _ p a q (k*2+a) _ m w hk hl hpn (by omega) hs hM ep e0 e1 q0 q1 q2 (hr6A a ha) (hriA a) hq rfl
 ·rw [stepM_2,ep]
  exact lstep_store b off len cap b0 o0 c0 b1 o1 c1 b2 o2 c2 b3 o3 c3 k cb co _ _ p a q (k*2+a) _ m w hk hl hpn (by omega) hs hM ep e0 e1 q0 q1 q2 (hr6A a ha) (hriA a) hq rfl
 ·rw [stepM_3,ep]
  exact lstep_set b off len cap b0 o0 c0 b1 o1 c1 b2 o2 c2 b3 o3 c3 k cb co _ _ p a (k*2+a) z m w hk hl hpn (by omega) hs hM ep e0 e1 q0 q1 q2 (hr6A a ha) (hriA a)
 ·rw [stepM_4,ep]
  exact lstep_add b off len cap b0 o0 c0 b1 o1 c1 b2 o2 c2 b3 o3 c3 k cb co _ _ p a (k*2+a) z _ _ m w hk hl hpn (by omega) hs hM ep e0 e1 q0 q1 q2 (hr6A a ha) (hriA a) rfl hz (getD_in hr9 (by decide) _) rfl
 ·rw [stepM_5,ep]
  exact lstep_lock b off len cap b0 o0 c0 b1 o1 c1 b2 o2 c2 b3 o3 c3 k cb co _ _ p a z m w hk hl hpn (by omega) hs hM ep e0 e1 q0 q1 q2 ha
 ·rw [stepM_6,ep]
  by_cases hv:m.2.2.1.getD a 0=(k:Int)+1
  ·rw [if_pos hv]
   exact lstep_unlock_yes b off len cap b0 o0 c0 b1 o1 c1 b2 o2 c2 b3 o3 c3 k cb co _ _ p a z m w hk hl hpn (by omega) hs hM ep e0 e1 q0 q1 q2 ha hv
  ·rw [if_neg hv]
   exact lstep_unlock_no b off len cap b0 o0 c0 b1 o1 c1 b2 o2 c2 b3 o3 c3 k cb co _ _ p a z _ m w hk hl hpn (by omega) hs hM ep e0 e1 q0 q1 q2 ha rfl hv
 ·rw [stepM_7,ep]
  by_cases hv:m.2.2.2.getD (k*2+a) 0=0
  ·rw [if_pos hv]
   exact lstep_stay b off len cap b0 o0 c0 b1 o1 c1 b2 o2 c2 b3 o3 c3 k cb co _ _ p a (k*2+a) z m w hk hl hpn (by omega) hs hM ep e0 e1 q0 q1 q2 (hr6A a ha) (hriA a) hv
  ·rw [if_neg hv]
   exact lstep_jump b off len cap b0 o0 c0 b1 o1 c1 b2 o2 c2 b3 o3 c3 k cb co _ _ p a (k*2+a) z _ m w hk hl hpn (by omega) hs hM ep e0 e1 q0 q1 q2 (hr6A a ha) (hriA a) rfl hv
 ·rw [stepM_8,ep]
  by_cases hv:m.2.2.2.getD (k*2+a) 0=z
  ·rw [if_pos hv]
   exact lstep_assert_yes b off len cap b0 o0 c0 b1 o1 c1 b2 o2 c2 b3 o3 c3 k cb co _ _ p a (k*2+a) z m w hk hl hpn (by omega) hs hM ep e0 e1 q0 q1 q2 (hr6A a ha) (hriA a) hv
  ·rw [if_neg hv]
   exact lstep_assert_no b off len cap b0 o0 c0 b1 o1 c1 b2 o2 c2 b3 o3 c3 k cb co _ _ p a (k*2+a) z _ m w hk hl hpn (by omega) hs hM ep e0 e1 q0 q1 q2 (hr6A a ha) (hriA a) rfl hv


def VmGot3 (e:Ending) (w:World) (B:Nat) (z:V4) (f c:Int):Prop:=∃ t:S4,e=.returned (.tuple #[t.val,.int .i64 f,.int .i64 c])∧OwnV w B t z
theorem VmGot3.mk9 {e:Ending} {w:World} {B:Nat} {z:V4} {f c:Int} (t:S4) (h:e=.returned (.tuple #[t.val,.int .i64 f,.int .i64 c])) (hO:OwnV w B t z):VmGot3 e w B z f c:=⟨t,h,hO⟩

theorem implStepVm_bad (a:Option Addr) (len cap:Nat) (rows:List (List I3)) (s:S4) (m:V4) (k:Int) (w:World) (hC:Codes w a len cap rows) (h:Vmem w s m) (hV:VmShape w) (hok:(progOk rows && shapeOk m)=false) :
  Calls Tryz.prog 29 #[.agg #[.slice a len cap],s.val,.int .i64 k] w fun e w'=>VmGot3 e w' w.heap.size ([],[],[],[]) 0 1∧Below w.heap.size w w':=by
 have hM:=fun (W:World) (hb:Below w.heap.size w W)=>h.below hb
 have kM:=fun w hC h hV=>threadAt_bad a len cap rows s m k w hC h hV hok
 obtain ⟨⟨a0,n0,c0⟩,⟨a1,n1,c1⟩,⟨a2,n2,c2⟩,⟨a3,n3,c3⟩⟩:=s
 have uA:S4.val ((a0,n0,c0),(a1,n1,c1),(a2,n2,c2),(a3,n3,c3))=.agg #[.slice a0 n0 c0,.slice a1 n1 c1,.slice a2 n2 c2,.slice a3 n3 c3]:=rfl
 rw [uA] at kM ⊢
 clear uA h
 have bw:Below w.heap.size w (((w.alloc (.cells #[.slice a len cap] 25)).alloc (.cells #[.slice a0 n0 c0,.slice a1 n1 c1,.slice a2 n2 c2,.slice a3 n3 c3] 33)).alloc (.cells #[.slice none 0 0,.slice none 0 0,.slice none 0 0,.slice none 0 0] 33)):=by go_grown
 have pR:Blk (((w.alloc (.cells #[.slice a len cap] 25)).alloc (.cells #[.slice a0 n0 c0,.slice a1 n1 c1,.slice a2 n2 c2,.slice a3 n3 c3] 33)).alloc (.cells #[.slice none 0 0,.slice none 0 0,.slice none 0 0,.slice none 0 0] 33)) (w.heap.size+1+1) 33 [.slice none 0 0,.slice none 0 0,.slice none 0 0,.slice none 0 0]:=blkAt _ _ _ (by simp)
 go_enter Tryz.func29,Tryz.ntmps29
 go_wp2_with fail
 refine (kM _ (hC.below bw) (hM _ bw) (hV.below bw)).mono ?_
 rintro e w1 ⟨rfl,hb⟩
 replace bw:=bel_trans bw hb
 replace pR:=pR.below hb
 have hlR:=pR.lt
 have hg1:w.heap.size<w1.heap.size:=Nat.lt_of_lt_of_le (by simp;omega) hb.size
 clear hb kM hM hV hC
 have pN:=Blk.new w1 89 [.slice none 0 0,.int .i64 0,.int .i64 0,.int .i64 0,.slice none 0 0,.int .i64 0,.int .i64 0,.int .i64 0,.slice none 0 0,.int .i64 0,.int .i64 0,.int .i64 0,.int .i64 0,.int .i64 0,.int .i64 0,.int .i64 0,.int .i64 0,.int .i64 0]
 have bN:Below w1.heap.size w1 (w1.alloc (.cells #[.slice none 0 0,.int .i64 0,.int .i64 0,.int .i64 0,.slice none 0 0,.int .i64 0,.int .i64 0,.int .i64 0,.slice none 0 0,.int .i64 0,.int .i64 0,.int .i64 0,.int .i64 0,.int .i64 0,.int .i64 0,.int .i64 0,.int .i64 0,.int .i64 0] 89)):=by go_grown
 go_wp2_with (refine wpList_store_blk rfl 89 _ _ rfl w1.heap.size [.slice none 0 0,.int .i64 0,.int .i64 0,.int .i64 0,.slice none 0 0,.int .i64 0,.int .i64 0,.int .i64 0,.slice none 0 0,.int .i64 0,.int .i64 0,.int .i64 0,.int .i64 0,.int .i64 0,.int .i64 0,.int .i64 0,.int .i64 0,.int .i64 0] rfl rfl pN (by kernel_rfl) rfl rfl ?_)
 intro w2 pM g2
 replace pR:=(pR.below bN).kept g2 (by simp;omega)
 replace bw:=(bel_trans bw bN).grown g2 (by simp;omega) (fun x hx=>by cases hx;omega)
 clear g2 bN pN
 generalize w1.heap.size=gM at *
 go_wp2_with (refine wpList_store_blk rfl 33 _ _ rfl (w.heap.size+1+1) [.slice none 0 0,.slice none 0 0,.slice none 0 0,.slice none 0 0] rfl rfl pR (by kernel_rfl) rfl rfl ?_)
 intro w3 pR9 g3
 replace bw:=bw.grown g3 bw.size (fun x hx=>by cases hx;omega)
 clear g3 pR pM
 go_wp2_with fail
 refine bodyPost_ret (results_blk3 Tryz.results29 _ _ _ _ _ _ rfl pR9.out Tryz.underlying33 rfl (by kernel_rfl)) rfl ?_
 exact ⟨VmGot3.mk9 ((none,0,0),(none,0,0),(none,0,0),(none,0,0)) rfl (ownV_nil _ _),bw⟩

theorem implStepVm_range (a:Option Addr) (len cap:Nat) (rows:List (List I3)) (s:S4) (m:V4) (k:Int) (w:World) (hC:Codes w a len cap rows) (h:Vmem w s m) (hV:VmShape w) (hp:progOk rows=true) (hs:shapeOk m=true) (hk:k<0∨3≤k) :
  Calls Tryz.prog 29 #[.agg #[.slice a len cap],s.val,.int .i64 k] w fun e w'=>VmGot3 e w' w.heap.size ([],[],[],[]) 0 4∧Below w.heap.size w w':=by
 have hM:=fun (W:World) (hb:Below w.heap.size w W)=>h.below hb
 have kM:=fun w hC h hV=>threadAt_range a len cap rows s m k w hC h hV hp hs hk
 obtain ⟨⟨a0,n0,c0⟩,⟨a1,n1,c1⟩,⟨a2,n2,c2⟩,⟨a3,n3,c3⟩⟩:=s
 have uA:S4.val ((a0,n0,c0),(a1,n1,c1),(a2,n2,c2),(a3,n3,c3))=.agg #[.slice a0 n0 c0,.slice a1 n1 c1,.slice a2 n2 c2,.slice a3 n3 c3]:=rfl
 rw [uA] at kM ⊢
 clear uA h
 have bw:Below w.heap.size w (((w.alloc (.cells #[.slice a len cap] 25)).alloc (.cells #[.slice a0 n0 c0,.slice a1 n1 c1,.slice a2 n2 c2,.slice a3 n3 c3] 33)).alloc (.cells #[.slice none 0 0,.slice none 0 0,.slice none 0 0,.slice none 0 0] 33)):=by go_grown
 have pR:Blk (((w.alloc (.cells #[.slice a len cap] 25)).alloc (.cells #[.slice a0 n0 c0,.slice a1 n1 c1,.slice a2 n2 c2,.slice a3 n3 c3] 33)).alloc (.cells #[.slice none 0 0,.slice none 0 0,.slice none 0 0,.slice none 0 0] 33)) (w.heap.size+1+1) 33 [.slice none 0 0,.slice none 0 0,.slice none 0 0,.slice none 0 0]:=blkAt _ _ _ (by simp)
 go_enter Tryz.func29,Tryz.ntmps29
 go_wp2_with fail
 refine (kM _ (hC.below bw) (hM _ bw) (hV.below bw)).mono ?_
 rintro e w1 ⟨rfl,hb⟩
 replace bw:=bel_trans bw hb
 replace pR:=pR.below hb
 have hlR:=pR.lt
 have hg1:w.heap.size<w1.heap.size:=Nat.lt_of_lt_of_le (by simp;omega) hb.size
 clear hb kM hM hV hC
 have pN:=Blk.new w1 89 [.slice none 0 0,.int .i64 0,.int .i64 0,.int .i64 0,.slice none 0 0,.int .i64 0,.int .i64 0,.int .i64 0,.slice none 0 0,.int .i64 0,.int .i64 0,.int .i64 0,.int .i64 0,.int .i64 0,.int .i64 0,.int .i64 0,.int .i64 0,.int .i64 0]
 have bN:Below w1.heap.size w1 (w1.alloc (.cells #[.slice none 0 0,.int .i64 0,.int .i64 0,.int .i64 0,.slice none 0 0,.int .i64 0,.int .i64 0,.int .i64 0,.slice none 0 0,.int .i64 0,.int .i64 0,.int .i64 0,.int .i64 0,.int .i64 0,.int .i64 0,.int .i64 0,.int .i64 0,.int .i64 0] 89)):=by go_grown
 go_wp2_with (refine wpList_store_blk rfl 89 _ _ rfl w1.heap.size [.slice none 0 0,.int .i64 0,.int .i64 0,.int .i64 0,.slice none 0 0,.int .i64 0,.int .i64 0,.int .i64 0,.slice none 0 0,.int .i64 0,.int .i64 0,.int .i64 0,.int .i64 0,.int .i64 0,.int .i64 0,.int .i64 0,.int .i64 0,.int .i64 0] rfl rfl pN (by kernel_rfl) rfl rfl ?_)
 intro w2 pM g2
 replace pR:=(pR.below bN).kept g2 (by simp;omega)
 replace bw:=(bel_trans bw bN).grown g2 (by simp;omega) (fun x hx=>by cases hx;omega)
 clear g2 bN pN
 generalize w1.heap.size=gM at *
 go_wp2_with (refine wpList_store_blk rfl 33 _ _ rfl (w.heap.size+1+1) [.slice none 0 0,.slice none 0 0,.slice none 0 0,.slice none 0 0] rfl rfl pR (by kernel_rfl) rfl rfl ?_)
 intro w3 pR9 g3
 replace bw:=bw.grown g3 bw.size (fun x hx=>by cases hx;omega)
 clear g3 pR pM
 go_wp2_with fail
 refine bodyPost_ret (results_blk3 Tryz.results29 _ _ _ _ _ _ rfl pR9.out Tryz.underlying33 rfl (by kernel_rfl)) rfl ?_
 exact ⟨VmGot3.mk9 ((none,0,0),(none,0,0),(none,0,0),(none,0,0)) rfl (ownV_nil _ _),bw⟩

theorem implStepVm_done (a:Option Addr) (len cap:Nat) (rows:List (List I3)) (s:S4) (m:V4) (k:Nat) (w:World) (hC:Codes w a len cap rows) (h:Vmem w s m) (hV:VmShape w) (hp:progOk rows=true) (hs:shapeOk m=true) (hk:k<3) (hd:doneM rows m k=true) :
  Calls Tryz.prog 29 #[.agg #[.slice a len cap],s.val,.int .i64 k] w fun e w'=>VmGot3 e w' w.heap.size m 0 10∧Below w.heap.size w w':=by
 obtain ⟨-,cs,hR⟩:=hC.rowsAt hp
 have hM:=fun (W:World) (hb:Below w.heap.size w W)=>h.below hb
 have kM:=fun w hC h hV hR=>threadAt_ok a len cap rows s m k w hC h hV hp hs hk cs hR
 obtain ⟨⟨a0,n0,c0⟩,⟨a1,n1,c1⟩,⟨a2,n2,c2⟩,⟨a3,n3,c3⟩⟩:=s
 have uA:S4.val ((a0,n0,c0),(a1,n1,c1),(a2,n2,c2),(a3,n3,c3))=.agg #[.slice a0 n0 c0,.slice a1 n1 c1,.slice a2 n2 c2,.slice a3 n3 c3]:=rfl
 rw [uA] at kM ⊢
 clear uA h
 have bw:Below w.heap.size w (((w.alloc (.cells #[.slice a len cap] 25)).alloc (.cells #[.slice a0 n0 c0,.slice a1 n1 c1,.slice a2 n2 c2,.slice a3 n3 c3] 33)).alloc (.cells #[.slice none 0 0,.slice none 0 0,.slice none 0 0,.slice none 0 0] 33)):=by go_grown
 have pR:Blk (((w.alloc (.cells #[.slice a len cap] 25)).alloc (.cells #[.slice a0 n0 c0,.slice a1 n1 c1,.slice a2 n2 c2,.slice a3 n3 c3] 33)).alloc (.cells #[.slice none 0 0,.slice none 0 0,.slice none 0 0,.slice none 0 0] 33)) (w.heap.size+1+1) 33 [.slice none 0 0,.slice none 0 0,.slice none 0 0,.slice none 0 0]:=blkAt _ _ _ (by simp)
 go_enter Tryz.func29,Tryz.ntmps29
 go_wp2_with fail
 refine (kM _ (hC.below bw) (hM _ bw) (hV.below bw) (hR.below bw)).mono ?_
 rintro e w1 ⟨rfl,hb⟩
 replace bw:=bel_trans bw hb
 replace pR:=pR.below hb
 have hlR:=pR.lt
 have hg1:w.heap.size<w1.heap.size:=Nat.lt_of_lt_of_le (by simp;omega) hb.size
 clear hb kM hM hV hC
 have pN:=Blk.new w1 89 [.slice none 0 0,.int .i64 0,.int .i64 0,.int .i64 0,.slice none 0 0,.int .i64 0,.int .i64 0,.int .i64 0,.slice none 0 0,.int .i64 0,.int .i64 0,.int .i64 0,.int .i64 0,.int .i64 0,.int .i64 0,.int .i64 0,.int .i64 0,.int .i64 0]
 have bN:Below w1.heap.size w1 (w1.alloc (.cells #[.slice none 0 0,.int .i64 0,.int .i64 0,.int .i64 0,.slice none 0 0,.int .i64 0,.int .i64 0,.int .i64 0,.slice none 0 0,.int .i64 0,.int .i64 0,.int .i64 0,.int .i64 0,.int .i64 0,.int .i64 0,.int .i64 0,.int .i64 0,.int .i64 0] 89)):=by go_grown
 go_wp2_with (refine wpList_store_blk rfl 89 _ _ rfl w1.heap.size (machCells cs.1.val cs.2.1.val cs.2.2.val m) rfl rfl pN (by kernel_rfl) rfl rfl ?_)
 intro w2 pM g2
 replace pR:=(pR.below bN).kept g2 (by simp;omega)
 replace bw:=(bel_trans bw bN).grown g2 (by simp;omega) (fun x hx=>by cases hx;omega)
 clear g2 bN pN
 generalize w1.heap.size=gM at *
 have hMA:=(hR.below bw).mach pM.out
 have kD:=doneT_is hMA hk
 rw [hd] at kD
 have hk3:(k:Int)<3:=by omega
 go_wp2_with fail
 refine kD.mono ?_
 rintro e w3 ⟨rfl,d,rfl⟩
 replace bw:Below w.heap.size w (w2.drewN d):=bel_trans bw (below_dN _)
 replace pR:=pR.below (below_dN (w:=w2) d)
 have pM3:=pM.out.below (below_dN (w:=w2) d)
 clear pM hMA kD
 go_wp2_with fail
 refine (state_is (cs:=cs) pM3 hs).mono ?_
 rintro e w7 ⟨⟨⟨⟨t0a,t0n,t0c⟩,⟨t1a,t1n,t1c⟩,⟨t2a,t2n,t2c⟩,⟨t3a,t3n,t3c⟩⟩,rfl,hO⟩,hb⟩
 replace hO:=hO.lower9 bw.size
 have uR:S4.val ((t0a,t0n,t0c),(t1a,t1n,t1c),(t2a,t2n,t2c),(t3a,t3n,t3c))=.agg #[.slice t0a t0n t0c,.slice t1a t1n t1c,.slice t2a t2n t2c,.slice t3a t3n t3c]:=rfl
 rw [uR]
 clear uR
 replace pR:=pR.below hb
 replace bw:=bel_trans bw hb
 clear hb pM3
 go_wp2_with (refine wpList_store_blk rfl 33 _ _ rfl (w.heap.size+1+1) [.slice t0a t0n t0c,.slice t1a t1n t1c,.slice t2a t2n t2c,.slice t3a t3n t3c] rfl rfl pR (by kernel_rfl) rfl rfl ?_)
 intro w8 pR9 g3
 replace bw:=bw.grown g3 bw.size (fun x hx=>by cases hx;omega)
 replace hO:=hO.kept9 g3 pR (by decide)
 clear g3 pR
 go_wp2_with fail
 refine bodyPost_ret (results_blk3 Tryz.results29 _ _ _ _ _ _ rfl pR9.out Tryz.underlying33 rfl (by kernel_rfl)) rfl ?_
 exact ⟨VmGot3.mk9 ((t0a,t0n,t0c),(t1a,t1n,t1c),(t2a,t2n,t2c),(t3a,t3n,t3c)) rfl hO,bw⟩

theorem implStepVm_wait (a:Option Addr) (len cap:Nat) (rows:List (List I3)) (s:S4) (m:V4) (k:Nat) (w:World) (hC:Codes w a len cap rows) (h:Vmem w s m) (hV:VmShape w) (hp:progOk rows=true) (hs:shapeOk m=true) (hk:k<3) (hd:doneM rows m k=false) (hw:waitM rows m k=true) :
  Calls Tryz.prog 29 #[.agg #[.slice a len cap],s.val,.int .i64 k] w fun e w'=>VmGot3 e w' w.heap.size m 0 11∧Below w.heap.size w w':=by
 obtain ⟨-,cs,hR⟩:=hC.rowsAt hp
 have hM:=fun (W:World) (hb:Below w.heap.size w W)=>h.below hb
 have kM:=fun w hC h hV hR=>threadAt_ok a len cap rows s m k w hC h hV hp hs hk cs hR
 obtain ⟨⟨a0,n0,c0⟩,⟨a1,n1,c1⟩,⟨a2,n2,c2⟩,⟨a3,n3,c3⟩⟩:=s
 have uA:S4.val ((a0,n0,c0),(a1,n1,c1),(a2,n2,c2),(a3,n3,c3))=.agg #[.slice a0 n0 c0,.slice a1 n1 c1,.slice a2 n2 c2,.slice a3 n3 c3]:=rfl
 rw [uA] at kM ⊢
 clear uA h
 have bw:Below w.heap.size w (((w.alloc (.cells #[.slice a len cap] 25)).alloc (.cells #[.slice a0 n0 c0,.slice a1 n1 c1,.slice a2 n2 c2,.slice a3 n3 c3] 33)).alloc (.cells #[.slice none 0 0,.slice none 0 0,.slice none 0 0,.slice none 0 0] 33)):=by go_grown
 have pR:Blk (((w.alloc (.cells #[.slice a len cap] 25)).alloc (.cells #[.slice a0 n0 c0,.slice a1 n1 c1,.slice a2 n2 c2,.slice a3 n3 c3] 33)).alloc (.cells #[.slice none 0 0,.slice none 0 0,.slice none 0 0,.slice none 0 0] 33)) (w.heap.size+1+1) 33 [.slice none 0 0,.slice none 0 0,.slice none 0 0,.slice none 0 0]:=blkAt _ _ _ (by simp)
 go_enter Tryz.func29,Tryz.ntmps29
 go_wp2_with fail
 refine (kM _ (hC.below bw) (hM _ bw) (hV.below bw) (hR.below bw)).mono ?_
 rintro e w1 ⟨rfl,hb⟩
 replace bw:=bel_trans bw hb
 replace pR:=pR.below hb
 have hlR:=pR.lt
 have hg1:w.heap.size<w1.heap.size:=Nat.lt_of_lt_of_le (by simp;omega) hb.size
 clear hb kM hM hV hC
 have pN:=Blk.new w1 89 [.slice none 0 0,.int .i64 0,.int .i64 0,.int .i64 0,.slice none 0 0,.int .i64 0,.int .i64 0,.int .i64 0,.slice none 0 0,.int .i64 0,.int .i64 0,.int .i64 0,.int .i64 0,.int .i64 0,.int .i64 0,.int .i64 0,.int .i64 0,.int .i64 0]
 have bN:Below w1.heap.size w1 (w1.alloc (.cells #[.slice none 0 0,.int .i64 0,.int .i64 0,.int .i64 0,.slice none 0 0,.int .i64 0,.int .i64 0,.int .i64 0,.slice none 0 0,.int .i64 0,.int .i64 0,.int .i64 0,.int .i64 0,.int .i64 0,.int .i64 0,.int .i64 0,.int .i64 0,.int .i64 0] 89)):=by go_grown
 go_wp2_with (refine wpList_store_blk rfl 89 _ _ rfl w1.heap.size (machCells cs.1.val cs.2.1.val cs.2.2.val m) rfl rfl pN (by kernel_rfl) rfl rfl ?_)
 intro w2 pM g2
 replace pR:=(pR.below bN).kept g2 (by simp;omega)
 replace bw:=(bel_trans bw bN).grown g2 (by simp;omega) (fun x hx=>by cases hx;omega)
 clear g2 bN pN
 generalize w1.heap.size=gM at *
 have hMA:=(hR.below bw).mach pM.out
 have kD:=doneT_is hMA hk
 rw [hd] at kD
 have hk3:(k:Int)<3:=by omega
 go_wp2_with fail
 refine kD.mono ?_
 rintro e w3 ⟨rfl,d,rfl⟩
 replace bw:Below w.heap.size w (w2.drewN d):=bel_trans bw (below_dN _)
 replace pR:=pR.below (below_dN (w:=w2) d)
 have pM3:=pM.out.below (below_dN (w:=w2) d)
 clear pM hMA kD
 have kW:=waits_is ((hR.below bw).mach pM3) hp hs hk
 rw [hw] at kW
 go_wp2_with fail
 refine kW.mono ?_
 rintro e w4 ⟨rfl,hb⟩
 replace pR:=pR.below hb
 replace pM3:=pM3.below hb
 replace bw:=bel_trans bw hb
 clear hb kW
 go_wp2_with fail
 refine (state_is (cs:=cs) pM3 hs).mono ?_
 rintro e w7 ⟨⟨⟨⟨t0a,t0n,t0c⟩,⟨t1a,t1n,t1c⟩,⟨t2a,t2n,t2c⟩,⟨t3a,t3n,t3c⟩⟩,rfl,hO⟩,hb⟩
 replace hO:=hO.lower9 bw.size
 have uR:S4.val ((t0a,t0n,t0c),(t1a,t1n,t1c),(t2a,t2n,t2c),(t3a,t3n,t3c))=.agg #[.slice t0a t0n t0c,.slice t1a t1n t1c,.slice t2a t2n t2c,.slice t3a t3n t3c]:=rfl
 rw [uR]
 clear uR
 replace pR:=pR.below hb
 replace bw:=bel_trans bw hb
 clear hb pM3
 go_wp2_with (refine wpList_store_blk rfl 33 _ _ rfl (w.heap.size+1+1) [.slice t0a t0n t0c,.slice t1a t1n t1c,.slice t2a t2n t2c,.slice t3a t3n t3c] rfl rfl pR (by kernel_rfl) rfl rfl ?_)
 intro w8 pR9 g3
 replace bw:=bw.grown g3 bw.size (fun x hx=>by cases hx;omega)
 replace hO:=hO.kept9 g3 pR (by decide)
 clear g3 pR
 go_wp2_with fail
 refine bodyPost_ret (results_blk3 Tryz.results29 _ _ _ _ _ _ rfl pR9.out Tryz.underlying33 rfl (by kernel_rfl)) rfl ?_
 exact ⟨VmGot3.mk9 ((t0a,t0n,t0c),(t1a,t1n,t1c),(t2a,t2n,t2c),(t3a,t3n,t3c)) rfl hO,bw⟩

theorem implStepVm_step (a:Option Addr) (len cap:Nat) (rows:List (List I3)) (s:S4) (m:V4) (k:Nat) (w:World) (hC:Codes w a len cap rows) (h:Vmem w s m) (hV:VmShape w) (hp:progOk rows=true) (hs:shapeOk m=true) (hk:k<3) (hd:doneM rows m k=false) (hw:waitM rows m k=false) (z:V4) (f:Int) (hz:stepM m (insM rows m k) k=(z,f)) (hsz:shapeOk z=true) :
  Calls Tryz.prog 29 #[.agg #[.slice a len cap],s.val,.int .i64 k] w fun e w'=>VmGot3 e w' w.heap.size z f 0∧Below w.heap.size w w':=by
 obtain ⟨-,cs,hR⟩:=hC.rowsAt hp
 have hM:=fun (W:World) (hb:Below w.heap.size w W)=>h.below hb
 have kM:=fun w hC h hV hR=>threadAt_ok a len cap rows s m k w hC h hV hp hs hk cs hR
 obtain ⟨⟨a0,n0,c0⟩,⟨a1,n1,c1⟩,⟨a2,n2,c2⟩,⟨a3,n3,c3⟩⟩:=s
 have uA:S4.val ((a0,n0,c0),(a1,n1,c1),(a2,n2,c2),(a3,n3,c3))=.agg #[.slice a0 n0 c0,.slice a1 n1 c1,.slice a2 n2 c2,.slice a3 n3 c3]:=rfl
 rw [uA] at kM ⊢
 clear uA h
 have bw:Below w.heap.size w (((w.alloc (.cells #[.slice a len cap] 25)).alloc (.cells #[.slice a0 n0 c0,.slice a1 n1 c1,.slice a2 n2 c2,.slice a3 n3 c3] 33)).alloc (.cells #[.slice none 0 0,.slice none 0 0,.slice none 0 0,.slice none 0 0] 33)):=by go_grown
 have pR:Blk (((w.alloc (.cells #[.slice a len cap] 25)).alloc (.cells #[.slice a0 n0 c0,.slice a1 n1 c1,.slice a2 n2 c2,.slice a3 n3 c3] 33)).alloc (.cells #[.slice none 0 0,.slice none 0 0,.slice none 0 0,.slice none 0 0] 33)) (w.heap.size+1+1) 33 [.slice none 0 0,.slice none 0 0,.slice none 0 0,.slice none 0 0]:=blkAt _ _ _ (by simp)
 go_enter Tryz.func29,Tryz.ntmps29
 go_wp2_with fail
 refine (kM _ (hC.below bw) (hM _ bw) (hV.below bw) (hR.below bw)).mono ?_
 rintro e w1 ⟨rfl,hb⟩
 replace bw:=bel_trans bw hb
 replace pR:=pR.below hb
 have hlR:=pR.lt
 have hg1:w.heap.size<w1.heap.size:=Nat.lt_of_lt_of_le (by simp;omega) hb.size
 clear hb kM hM hV hC
 have pN:=Blk.new w1 89 [.slice none 0 0,.int .i64 0,.int .i64 0,.int .i64 0,.slice none 0 0,.int .i64 0,.int .i64 0,.int .i64 0,.slice none 0 0,.int .i64 0,.int .i64 0,.int .i64 0,.int .i64 0,.int .i64 0,.int .i64 0,.int .i64 0,.int .i64 0,.int .i64 0]
 have bN:Below w1.heap.size w1 (w1.alloc (.cells #[.slice none 0 0,.int .i64 0,.int .i64 0,.int .i64 0,.slice none 0 0,.int .i64 0,.int .i64 0,.int .i64 0,.slice none 0 0,.int .i64 0,.int .i64 0,.int .i64 0,.int .i64 0,.int .i64 0,.int .i64 0,.int .i64 0,.int .i64 0,.int .i64 0] 89)):=by go_grown
 go_wp2_with (refine wpList_store_blk rfl 89 _ _ rfl w1.heap.size (machCells cs.1.val cs.2.1.val cs.2.2.val m) rfl rfl pN (by kernel_rfl) rfl rfl ?_)
 intro w2 pM g2
 replace pR:=(pR.below bN).kept g2 (by simp;omega)
 replace bw:=(bel_trans bw bN).grown g2 (by simp;omega) (fun x hx=>by cases hx;omega)
 clear g2 bN pN
 generalize w1.heap.size=gM at *
 have hMA:=(hR.below bw).mach pM.out
 have kD:=doneT_is hMA hk
 rw [hd] at kD
 have hk3:(k:Int)<3:=by omega
 go_wp2_with fail
 refine kD.mono ?_
 rintro e w3 ⟨rfl,d,rfl⟩
 replace bw:Below w.heap.size w (w2.drewN d):=bel_trans bw (below_dN _)
 replace pR:=pR.below (below_dN (w:=w2) d)
 have pM3:=pM.out.below (below_dN (w:=w2) d)
 clear pM hMA kD
 have kW:=waits_is ((hR.below bw).mach pM3) hp hs hk
 rw [hw] at kW
 go_wp2_with fail
 refine kW.mono ?_
 rintro e w4 ⟨rfl,hb⟩
 replace pR:=pR.below hb
 replace pM3:=pM3.below hb
 replace bw:=bel_trans bw hb
 clear hb kW
 have kP:=step_is ((hR.below bw).mach pM3) hp hs hk hd
 rw [hz] at kP
 simp only at kP
 go_wp2_with fail
 refine kP.mono ?_
 rintro e w5 ⟨rfl,pM5,g5⟩
 replace pR:=pR.kept g5 (by simp;omega)
 replace bw:=bw.grown g5 bw.size (fun x hx=>by cases hx;omega)
 clear g5 kP pM3
 go_wp2_with fail
 refine (state_is (cs:=cs) pM5 hsz).mono ?_
 rintro e w7 ⟨⟨⟨⟨t0a,t0n,t0c⟩,⟨t1a,t1n,t1c⟩,⟨t2a,t2n,t2c⟩,⟨t3a,t3n,t3c⟩⟩,rfl,hO⟩,hb⟩
 replace hO:=hO.lower9 bw.size
 have uR:S4.val ((t0a,t0n,t0c),(t1a,t1n,t1c),(t2a,t2n,t2c),(t3a,t3n,t3c))=.agg #[.slice t0a t0n t0c,.slice t1a t1n t1c,.slice t2a t2n t2c,.slice t3a t3n t3c]:=rfl
 rw [uR]
 clear uR
 replace pR:=pR.below hb
 replace bw:=bel_trans bw hb
 clear hb pM5
 go_wp2_with (refine wpList_store_blk rfl 33 _ _ rfl (w.heap.size+1+1) [.slice t0a t0n t0c,.slice t1a t1n t1c,.slice t2a t2n t2c,.slice t3a t3n t3c] rfl rfl pR (by kernel_rfl) rfl rfl ?_)
 intro w8 pR9 g3
 replace bw:=bw.grown g3 bw.size (fun x hx=>by cases hx;omega)
 replace hO:=hO.kept9 g3 pR (by decide)
 clear g3 pR
 go_wp2_with fail
 refine bodyPost_ret (results_blk3 Tryz.results29 _ _ _ _ _ _ rfl pR9.out Tryz.underlying33 rfl (by kernel_rfl)) rfl ?_
 exact ⟨VmGot3.mk9 ((t0a,t0n,t0c),(t1a,t1n,t1c),(t2a,t2n,t2c),(t3a,t3n,t3c)) rfl hO,bw⟩



def stepZ (rows:List (List I3)) (m:V4) (k:Int):V4:=
 if progOk rows && shapeOk m then (if 0≤k∧k<3 then (if canM rows m k.toNat then (stepM m (insM rows m k.toNat) k.toNat).1 else m) else ([],[],[],[])) else ([],[],[],[])
def stepF (rows:List (List I3)) (m:V4) (k:Int):Int:=
 if progOk rows && shapeOk m then (if 0≤k∧k<3 then (if canM rows m k.toNat then (stepM m (insM rows m k.toNat) k.toNat).2 else 0) else 0) else 0
def stepC (rows:List (List I3)) (m:V4) (k:Int):Int:=
 if progOk rows && shapeOk m then (if 0≤k∧k<3 then (if canM rows m k.toNat then 0 else if doneM rows m k.toNat then 10 else 11) else 4) else 1

theorem allIn_set {zs:List Int} {n hi v:Int} (h:allIn zs n hi=true) (k:Nat) (h0:0≤v) (h1:v≤hi):allIn (zs.set k v) n hi=true:=by
 obtain ⟨hl,ha⟩:=allIn_parts h
 unfold allIn
 simp only [Bool.and_eq_true,List.all_eq_true,decide_eq_true_eq,List.length_set]
 exact ⟨fun z hz=>by rcases List.mem_or_eq_of_mem_set hz with q | q;exact ha z q;subst q;exact ⟨h0,h1⟩,hl⟩
theorem shape_step {rows:List (List I3)} {m:V4} (hp:progOk rows=true) (hs:shapeOk m=true) {k:Nat} (hk:k<3) (hd:doneM rows m k=false):shapeOk (stepM m (insM rows m k) k).1=true:=by
 obtain ⟨p,ep,hlt,hi,hok⟩:=at_ins hp hs hk hd
 have hl6:=(codeM_len hp hk).1
 obtain ⟨b0,b1,b2,b3⟩:=shape_bounds hs
 have hs':=hs
 unfold shapeOk at hs'
 simp only [Bool.and_eq_true] at hs'
 obtain ⟨s0,s1,s2,s3⟩:=hs'
 have hpc:allIn (m.1.set k (m.1.getD k 0+1)) 3 6=true:=allIn_set s0 k (by omega) (by omega)
 have g1:=fun j=>getD_in b1 (by decide) j
 have g3:=fun j=>getD_in b3 (by decide) j
 generalize insM rows m k=x at *
 obtain ⟨o,y,v⟩:=x
 unfold okI at hok
 simp only at hok
 unfold shapeOk
 rcases op_cases (o,y,v) with e | e | e | e | e | e | e | e | e<;>simp only at e
 ·subst e
  simp [inB_true] at hok
  simp only [stepM,if_true,Bool.and_eq_true]
  exact ⟨hpc,s1,s2,allIn_set s3 _ (g1 _).1 (g1 _).2⟩
 ·subst e
  simp [inB_true] at hok
  simp [stepM]
  exact ⟨hpc,allIn_set s1 _ (g3 _).1 (g3 _).2,s2,s3⟩
 ·subst e
  simp [inB_true] at hok
  simp [stepM]
  exact ⟨hpc,s1,s2,allIn_set s3 _ (by omega) (by omega)⟩
 ·subst e
  simp [inB_true] at hok
  simp [stepM]
  exact ⟨hpc,s1,s2,allIn_set s3 _ (by omega) (by omega)⟩
 ·subst e
  simp [inB_true] at hok
  simp [stepM]
  exact ⟨hpc,s1,allIn_set s2 _ (by omega) (by omega),s3⟩
 ·subst e
  simp [inB_true] at hok
  simp [stepM]
  split
  ·exact ⟨hpc,s1,allIn_set s2 _ (by omega) (by omega),s3⟩
  ·exact ⟨hpc,s1,s2,s3⟩
 ·subst e
  simp [inB_true] at hok
  simp [stepM]
  split
  ·exact ⟨hpc,s1,s2,s3⟩
  ·exact ⟨allIn_set s0 _ (by omega) (by omega),s1,s2,s3⟩
 ·subst e
  simp [inB_true] at hok
  simp [stepM]
  split<;>exact ⟨hpc,s1,s2,s3⟩
 ·obtain ⟨e1,e2,e3,e4,e5,e6,e7,e8⟩:=e
  simp [e1,e2,e3,e4,e5,e6,e7,e8] at hok
theorem can_parts {rows:List (List I3)} {m:V4} {k:Nat} (h:canM rows m k=true):doneM rows m k=false∧waitM rows m k=false:=by
 unfold canM at h
 unfold waitM
 simp at h
 simp [h]
theorem wait_parts {rows:List (List I3)} {m:V4} {k:Nat} (h:canM rows m k=false) (hd:doneM rows m k=false):waitM rows m k=true:=by
 unfold canM at h
 unfold waitM
 simp [hd] at h
 simp [hd,h]

theorem implStepVm_is (a:Option Addr) (len cap:Nat) (rows:List (List I3)) (s:S4) (m:V4) (k:Int) (w:World) (hC:Codes w a len cap rows) (h:Vmem w s m) (hV:VmShape w) :
  Calls Tryz.prog 29 #[.agg #[.slice a len cap],s.val,.int .i64 k] w fun e w'=>VmGot3 e w' w.heap.size (stepZ rows m k) (stepF rows m k) (stepC rows m k)∧Below w.heap.size w w':=by
 unfold stepZ stepF stepC
 cases hok:(progOk rows && shapeOk m)
 ·exact implStepVm_bad a len cap rows s m k w hC h hV hok
 ·obtain ⟨hp,hs⟩:=both_ok hok
  by_cases hk:0≤k∧k<3
  ·obtain ⟨n,rfl⟩:∃ n:Nat,k=n:=⟨k.toNat,by omega⟩
   have hn:n<3:=by omega
   simp only [hk,if_true,Int.toNat_natCast,and_self]
   by_cases hc:canM rows m n=true
   ·simp only [hc,if_true]
    exact implStepVm_step a len cap rows s m n w hC h hV hp hs hn (can_parts hc).1 (can_parts hc).2 _ _ rfl (shape_step hp hs hn (can_parts hc).1)
   ·by_cases hd:doneM rows m n=true
    ·simp only [hc,hd,if_true,if_false]
     exact implStepVm_done a len cap rows s m n w hC h hV hp hs hn hd
    ·simp only [hc,hd,if_false]
     exact implStepVm_wait a len cap rows s m n w hC h hV hp hs hn (by simpa using hd) (wait_parts (by simpa using hc) (by simpa using hd))
  ·simp only [hk,if_true,if_false]
   exact implStepVm_range a len cap rows s m k w hC h hV hp hs (by omega)

theorem shape_fits9 {z:V4} (h:shapeOk z=true):V4.fits z∧z.1.length≤1048576∧z.2.1.length≤1048576∧z.2.2.1.length≤1048576∧z.2.2.2.length≤1048576:=by
 obtain ⟨l0,l1,l2,l3,_⟩:=shape_parts h
 obtain ⟨b0,b1,b2,b3⟩:=shape_bounds h
 exact ⟨⟨fun x hx=>fits_small (by have:=b0 x hx;omega) (by have:=b0 x hx;omega),fun x hx=>fits_small (by have:=b1 x hx;omega) (by have:=b1 x hx;omega),fun x hx=>fits_small (by have:=b2 x hx;omega) (by have:=b2 x hx;omega),fun x hx=>fits_small (by have:=b3 x hx;omega) (by have:=b3 x hx;omega)⟩,by omega,by omega,by omega,by omega⟩


def enabA (rows:List (List I3)) (m:V4):List Int:=if progOk rows && shapeOk m then enabM rows m 3 else []
theorem implEnabledOf_is (a:Option Addr) (len cap:Nat) (rows:List (List I3)) (s:S4) (m:V4) (w:World) (hC:Codes w a len cap rows) (h:Vmem w s m) (hV:VmShape w) :
  Calls Tryz.prog 28 #[.agg #[.slice a len cap],s.val] w fun e w'=>(∃ t:Sl,e=.returned (.tuple #[.slice t.1 t.2.1 t.2.2,.int .i64 (stuckC rows m)])∧OwnI w' w.heap.size t (enabA rows m))∧Below w.heap.size w w':=by
 unfold stuckC enabA
 cases hok:(progOk rows && shapeOk m)
 ·refine (implEnabledOf_bad a len cap rows s m w hC h hV hok).mono ?_
  rintro e w' ⟨rfl,hb⟩
  exact ⟨⟨(none,0,0),rfl,World.ownsRow_nil _ _ _ _⟩,hb⟩
 ·obtain ⟨hp,hs⟩:=both_ok hok
  exact implEnabledOf_ok a len cap rows s m w hC h hV hp hs


theorem getD_set_ne {l:List Int} {k i:Nat} {v:Int} (h:i≠k):(l.set k v).getD i 0=l.getD i 0:=by
 simp [List.getD,List.getElem?_set_ne (Ne.symm h)]
theorem stepM_other (m:V4) (x:I3) {k i:Nat} (h:i≠k):(stepM m x k).1.1.getD i 0=m.1.getD i 0:=by
 unfold stepM
 repeat' split
 all_goals exact getD_set_ne h

theorem okFrom_leads {n:Nat}:∀ (xs:List I3) (j i:Nat),okFrom n j xs=true→i<xs.length→leads (xs.getD i (0,0,0)) ((j:Int)+(i:Int)) (n:Int)=true
 | [],_,_,_,h=>by simp at h
 | x::xs,j,i,h,hi=>by
  have h':=h
  simp only [okFrom,Bool.and_eq_true] at h'
  match i,hi with
  | 0,_ =>
   have:=h'.1.2
   simpa using this
  | i+1,hi =>
   have:=okFrom_leads xs (j+1) i h'.2 (by simpa using hi)
   rw [List.getD_cons_succ]
   have e:((j+1:Nat):Int)+(i:Int)=(j:Int)+((i+1:Nat):Int):=by omega
   rw [e] at this
   exact this
theorem ins_leads {rows:List (List I3)} {m:V4} (hp:progOk rows=true) (hs:shapeOk m=true) {k:Nat} (hk:k<3) (hd:doneM rows m k=false) (h7:(insM rows m k).1=7):m.1.getD k 0<(insM rows m k).2.2:=by
 obtain ⟨p,ep,hlt,hi,hok⟩:=at_ins hp hs hk hd
 have hrow:codeOk (codeM rows k)=true:=by
  unfold progOk at hp
  simp only [Bool.and_eq_true,decide_eq_true_eq,List.all_eq_true] at hp
  refine hp.2 _ ?_
  have hk':k<rows.length:=by have:=hp.1;omega
  unfold codeM
  rw [List.getD,List.getElem?_eq_getElem hk',Option.getD_some]
  exact List.getElem_mem hk'
 unfold codeOk at hrow
 simp only [Bool.and_eq_true] at hrow
 have hl:=okFrom_leads _ 0 p hrow.2 hlt
 rw [← hi] at hl
 unfold leads at hl
 rw [if_pos h7,inB_true] at hl
 omega
theorem getD_set_eq {l:List Int} {k:Nat} {v:Int} (h:k<l.length):(l.set k v).getD k 0=v:=by
 simp [List.getD,List.getElem?_set_self h]
theorem stepM_own {rows:List (List I3)} {m:V4} (hp:progOk rows=true) (hs:shapeOk m=true) {k:Nat} (hk:k<3) (hd:doneM rows m k=false):m.1.getD k 0<(stepM m (insM rows m k) k).1.1.getD k 0:=by
 have hl:=ins_leads hp hs hk hd
 have hk':k<m.1.length:=by have:=(shape_parts hs).1;omega
 generalize insM rows m k=x at hl
 have e1:=getD_set_eq (l:=m.1) (v:=m.1.getD k 0+1) hk'
 unfold stepM
 repeat' split
 all_goals first
  | (simp only [e1];omega)
  | (have:=hl (by assumption);simp only [getD_set_eq hk'];omega)

theorem mem_enab {rows:List (List I3)} {m:V4} {k:Nat}:∀ n,((k:Int) ∈ enabM rows m n)↔k<n∧canM rows m k=true
 | 0=>by simp [enabM]
 | n+1=>by
  have ih:=mem_enab (rows:=rows) (m:=m) (k:=k) n
  unfold enabM
  split
  ·rename_i h
   simp only [List.mem_append,List.mem_singleton,ih]
   constructor
   ·rintro (⟨h1,h2⟩ | h1)
    ·exact ⟨by omega,h2⟩
    ·obtain rfl:k=n:=by omega
     exact ⟨by omega,h⟩
   ·rintro ⟨h1,h2⟩
    by_cases e:k=n
    ·exact .inr (by omega)
    ·exact .inl ⟨by omega,h2⟩
  ·rename_i h
   rw [ih]
   constructor
   ·rintro ⟨h1,h2⟩
    exact ⟨by omega,h2⟩
   ·rintro ⟨h1,h2⟩
    refine ⟨?_,h2⟩
    by_cases e:k=n
    ·subst e
     exact absurd h2 h
    ·omega
theorem enab_at {rows:List (List I3)} {m:V4} {i:Nat} (hi:i<(enabM rows m 3).length):∃ k:Nat,(enabM rows m 3).getD i 0=k∧k<3∧canM rows m k=true:=by
 have hm:(enabM rows m 3)[i] ∈ enabM rows m 3:=List.getElem_mem hi
 have hall:∀ n,∀ z ∈ enabM rows m n,∃ k:Nat,z=k:=by
  intro n
  induction n with
  | zero=>intro z hz;simp [enabM] at hz
  | succ n ih =>
   intro z hz
   unfold enabM at hz
   split at hz
   ·rcases List.mem_append.1 hz with h | h
    ·exact ih z h
    ·exact ⟨n,by simpa using h⟩
   ·exact ih z hz
 obtain ⟨k,hk⟩:=hall 3 _ hm
 rw [hk] at hm
 obtain ⟨h1,h2⟩:=(mem_enab 3).1 hm
 refine ⟨k,?_,h1,h2⟩
 rw [List.getD,List.getElem?_eq_getElem hi,Option.getD_some,hk]


def Src (w:World) (p:Nat) (c:Value) (T:Nat):Prop:=∃ m sd:Nat,w.heap[p]?=some (.cells #[c,.int .i64 m,.int .i64 sd] 157 (0,0))∧m≤T∧sd≤2147483647
def Code (w:World) (p:Nat) (a:Option Addr) (n cap:Nat):Prop:=∃ zs:List Int,Ints .u8 w a n cap zs∧(∀ z ∈ zs,0≤z∧z≤255)∧n≤1048576∧∀ x,a=some x→n≠0→x.block<p

theorem src_cells {w:World} {p:Nat} {c x y:Value} {t:TypeId} (h:w.heap[p]?=some (.cells #[c,x,y] t (0,0))) :
  w.cell? ⟨p,0,none⟩=some c∧w.cell? ⟨p,1,none⟩=some x∧w.cell? ⟨p,2,none⟩=some y∧w.frozen? ⟨p,1,none⟩=false∧w.frozen? ⟨p,2,none⟩=false:=
 ⟨by rw [cell_of_row w p 0 _ _ _ h];rfl,by rw [cell_of_row w p 1 _ _ _ h];rfl,by rw [cell_of_row w p 2 _ _ _ h];rfl,frozen_of_row w p 1 _ _ h,frozen_of_row w p 2 _ _ h⟩

def Stepped (p:Nat) (w w':World):Prop:=Below p w w'∧w'.heap.size=w.heap.size∧∀ k,k≠p→w'.heap[k]?=w.heap[k]?

theorem byte_any (p T:Nat) (a:Option Addr) (n cap:Nat) (w:World) (hS:Src w p (.slice a n cap) T) (hC:Code w p a n cap) (hT:T≤1000000) :
  Calls Tryz.prog 166 #[.pointer (some ⟨p,0,none⟩)] w fun e w'=>(∃ v:Nat,v≤255∧e=.returned (.int .i64 v))∧Src w' p (.slice a n cap) (T+1)∧Stepped p w w':=by
 obtain ⟨m,sd,hh,hm,hsd⟩:=hS
 obtain ⟨c0,c1,c2,f1,f2⟩:=src_cells hh
 obtain ⟨zs,⟨hl,hlc,hcm,hcase⟩,hz,hn,hbelow⟩:=hC
 unfold maxLen at hcm
 by_cases hin:m+1≤n
 ·rcases hcase with h0 | ⟨b,off,rfl,hblt,hcell⟩
  ·omega
  have hbp:b<p:=hbelow _ rfl (by omega)
  have hbp':¬ b=p:=by omega
  have hcz:=hcell m (by omega)
  have hzz:=hz _ (show zs.getD m 0 ∈ zs by simp [List.getElem?_eq_getElem (show m<zs.length by omega)])
  generalize zs.getD m 0=z at hcz hzz
  obtain ⟨z1,z2⟩:=hzz
  have hml:(m:Int)+1≤(n:Int):=by omega
  have hml2:(m:Int)<(n:Int):=by omega
  have hd1:decide ((m:Int)+1≤(n:Int))=true:=by simp;omega
  clear hcell hz hbelow hl
  go_enter Tryz.func166,Tryz.ntmps166
  go_wp2
  have hh1:=heap_setCell_same w p 1 _ _ (.int .i64 ((m:Int)+1)) hh
  have hoth1:∀ k,k≠p→(w.setCell ⟨p,1,none⟩ (.int .i64 ((m:Int)+1))).heap[k]?=w.heap[k]?:=fun k hk=>heap_setCell_other w ⟨p,1,none⟩ k _ hk
  have hbel1:Below p w (w.setCell ⟨p,1,none⟩ (.int .i64 ((m:Int)+1))):=Below.setCell (Below.refl p w) (p:=⟨p,1,none⟩) (Nat.le_refl p) _
  have hsz1:(w.setCell ⟨p,1,none⟩ (.int .i64 ((m:Int)+1))).heap.size=w.heap.size:=by simp [World.setCell]
  obtain ⟨W1,hW1⟩:∃ W1,W1=w.setCell ⟨p,1,none⟩ (.int .i64 ((m:Int)+1)):=⟨_,rfl⟩
  rw [← hW1] at hh1 hoth1 hbel1 hsz1
  rw [← hW1]
  have hh1':W1.heap[p]?=some (.cells #[.slice (some ⟨b,off,none⟩) n cap,.int .i64 ((m:Int)+1),.int .i64 sd] 157 (0,0)):=hh1
  obtain ⟨d0,d1,d2,g1,g2⟩:=src_cells hh1'
  have hcz1:W1.cell? ⟨b,off+m,none⟩=some (.int .u8 z):=by rw [hbel1.cell (p:=⟨b,off+m,none⟩) hbp];exact hcz
  have H1:Hid ((∀ k,k≠p→W1.heap[k]?=w.heap[k]?)∧Below p w W1∧W1.heap.size=w.heap.size∧W1.heap[p]?=some (.cells #[.slice (some ⟨b,off,none⟩) n cap,.int .i64 ((m:Int)+1),.int .i64 sd] 157 (0,0))):=⟨hoth1,hbel1,hsz1,hh1'⟩
  clear hW1 hh1 hh1' hoth1 hbel1 hsz1 c0 c1 c2 f1 f2 hcz hh
  have q1:IntKind.i64.wrap ((sd:Int)*31)=(sd:Int)*31:=IntWalk.i64_in _ ⟨by omega,by omega⟩
  have q2:IntKind.i64.wrap ((m:Int)+1 - 1)=(m:Int):=by rw [IntWalk.i64_in _ ⟨by omega,by omega⟩];omega
  have q3:IntKind.i64.wrap z=z:=IntWalk.i64_in _ ⟨by omega,by omega⟩
  have q4:IntKind.i64.wrap ((sd:Int)*31+z)=(sd:Int)*31+z:=IntWalk.i64_in _ ⟨by omega,by omega⟩
  have q5:IntKind.i64.wrap ((sd:Int)*31+z+7)=(sd:Int)*31+z+7:=IntWalk.i64_in _ ⟨by omega,by omega⟩
  have q6:((sd:Int)*31+z+7).tmod 2147483648=((sd:Int)*31+z+7) % 2147483648:=Int.tmod_eq_emod_of_nonneg (by omega)
  go_quiet (fail)
  go_wp2
  go_region
  go_wp2
  clear q1 q4 q5 q6 d2 d0 d1 g1 g2
  have H2:Hid (∀ W2,W2=(W1.drewN (nq+1)).setCell ⟨p,2,none⟩ (.int .i64 (((sd:Int)*31+z+7) % 2147483648))→Src W2 p (.slice (some ⟨b,off,none⟩) n cap) (T+1)∧Stepped p w W2∧W2.cell? ⟨p,0,none⟩=some (.slice (some ⟨b,off,none⟩) n cap)∧W2.cell? ⟨p,1,none⟩=some (.int .i64 ((m:Int)+1))∧W2.cell? ⟨b,off+m,none⟩=some (.int .u8 z)):=by
   intro W2 hW2
   obtain ⟨ho,hbe,hsz,hhp⟩:=H1.out
   have hhp':(W1.drewN (nq+1)).heap[p]?=some (.cells #[.slice (some ⟨b,off,none⟩) n cap,.int .i64 ((m:Int)+1),.int .i64 sd] 157 (0,0)):=hhp
   have h2:=heap_setCell_same (W1.drewN (nq+1)) p 2 _ _ (.int .i64 (((sd:Int)*31+z+7) % 2147483648)) hhp'
   rw [← hW2] at h2
   have h2':W2.heap[p]?=some (.cells #[.slice (some ⟨b,off,none⟩) n cap,.int .i64 ((m+1:Nat):Int),.int .i64 ((((sd:Int)*31+z+7) % 2147483648).toNat:Nat)] 157 (0,0)):=by
    rw [h2,Int.toNat_of_nonneg (by omega)]
    rfl
   have hob:∀ k,k≠p→W2.heap[k]?=w.heap[k]?:=fun k hk=>by
    rw [hW2,heap_setCell_other _ ⟨p,2,none⟩ k _ hk]
    exact ho k hk
   have hbe2:Below p w W2:=by
    rw [hW2]
    exact Below.setCell (below_drewN hbe _) (p:=⟨p,2,none⟩) (Nat.le_refl p) _
   obtain ⟨e0,e1,_⟩:=src_cells h2'
   refine ⟨⟨m+1,_,h2',by omega,by omega⟩,⟨hbe2,by rw [hW2];simp [World.setCell];exact hsz,hob⟩,e0,e1,?_⟩
   rw [hW2,World.cell?_of_block (w:=W1) (by rw [heap_setCell_other _ ⟨p,2,none⟩ b _ hbp'];rfl)]
   exact hcz1
  obtain ⟨W2,hW2⟩:∃ W2,W2=(W1.drewN (nq+1)).setCell ⟨p,2,none⟩ (.int .i64 (((sd:Int)*31+z+7) % 2147483648)):=⟨_,rfl⟩
  obtain ⟨hSrc,hStep,e0,e1,e2⟩:=H2.out W2 hW2
  rw [← hW2]
  have HSrc:Hid (Src W2 p (.slice (some ⟨b,off,none⟩) n cap) (T+1)):=hSrc
  have HStep:Hid (Stepped p w W2):=hStep
  clear hW2 H2 H1 hcz1 hSrc hStep
  go_quiet (fail)
  go_wp2
  go_ret
  exact ⟨⟨z.toNat,by omega,by rw [Int.toNat_of_nonneg z1];rfl⟩,HSrc.out,⟨below_drewN HStep.out.1 _,HStep.out.2.1,HStep.out.2.2⟩⟩
 ·have hml:¬ (m:Int)+1≤(n:Int):=by omega
  clear hcase hz hbelow hl
  go_enter Tryz.func166,Tryz.ntmps166
  go_wp2
  have hh1:=heap_setCell_same w p 1 _ _ (.int .i64 ((m:Int)+1)) hh
  have hoth1:∀ k,k≠p→(w.setCell ⟨p,1,none⟩ (.int .i64 ((m:Int)+1))).heap[k]?=w.heap[k]?:=fun k hk=>heap_setCell_other w ⟨p,1,none⟩ k _ hk
  have hbel1:Below p w (w.setCell ⟨p,1,none⟩ (.int .i64 ((m:Int)+1))):=Below.setCell (Below.refl p w) (p:=⟨p,1,none⟩) (Nat.le_refl p) _
  have hsz1:(w.setCell ⟨p,1,none⟩ (.int .i64 ((m:Int)+1))).heap.size=w.heap.size:=by simp [World.setCell]
  obtain ⟨W1,hW1⟩:∃ W1,W1=w.setCell ⟨p,1,none⟩ (.int .i64 ((m:Int)+1)):=⟨_,rfl⟩
  rw [← hW1] at hh1 hoth1 hbel1 hsz1
  rw [← hW1]
  have hh1':W1.heap[p]?=some (.cells #[.slice a n cap,.int .i64 ((m:Int)+1),.int .i64 sd] 157 (0,0)):=hh1
  obtain ⟨d0,d1,d2,g1,g2⟩:=src_cells hh1'
  have H1:Hid ((∀ k,k≠p→W1.heap[k]?=w.heap[k]?)∧Below p w W1∧W1.heap.size=w.heap.size∧W1.heap[p]?=some (.cells #[.slice a n cap,.int .i64 ((m:Int)+1),.int .i64 sd] 157 (0,0))):=⟨hoth1,hbel1,hsz1,hh1'⟩
  clear hW1 hh1 hh1' hoth1 hbel1 hsz1 c0 c1 c2 f1 f2 hh
  go_quiet (fail)
  by_cases hbig:3000<m+1
  ·have hbig':(3000:Int)<(m:Int)+1:=by omega
   go_wp2
   go_ret
   obtain ⟨ho,hbe,hsz,hhp⟩:=H1.out
   refine ⟨⟨0,by omega,rfl⟩,⟨m+1,sd,?_,by omega,hsd⟩,below_drewN hbe _,hsz,ho⟩
   exact hhp
  ·have hbig':¬ (3000:Int)<(m:Int)+1:=by omega
   go_wp2
   go_ret
   obtain ⟨ho,hbe,hsz,hhp⟩:=H1.out
   have hhp':(W1.drewN nq).heap[p]?=some (.cells #[.slice a n cap,.int .i64 ((m:Int)+1),.int .i64 sd] 157 (0,0)):=hhp
   have h2:=heap_setCell_same (W1.drewN nq) p 2 _ _ (.int .i64 (((sd:Int)*1103515245+12345) % 2147483648)) hhp'
   refine ⟨⟨((((sd:Int)*1103515245+12345) % 2147483648) / 65536 % 256).toNat,by omega,by rw [Int.toNat_of_nonneg (by omega)];rfl⟩,⟨m+1,(((sd:Int)*1103515245+12345) % 2147483648).toNat,?_,by omega,by omega⟩,?_,?_,?_⟩
   ·rw [h2,Int.toNat_of_nonneg (by omega)];rfl
   ·exact Below.setCell (below_drewN hbe _) (p:=⟨p,2,none⟩) (Nat.le_refl p) _
   ·simp [World.setCell];exact hsz
   ·intro k hk
    rw [heap_setCell_other _ ⟨p,2,none⟩ k _ hk]
    exact ho k hk
end Go.Proofs.YtifoggpohlegmaaGreatDoor
