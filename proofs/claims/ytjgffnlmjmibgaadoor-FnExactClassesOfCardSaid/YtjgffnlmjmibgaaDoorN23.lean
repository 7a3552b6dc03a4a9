/-
  Joined: StepQ.
-/
import Derived.Test.YtjgffnlmjmibgaaDoorN20
import Derived.Test.YtjgffnlmjmibgaaDoorN21

namespace Go.Proofs.YtjgffnlmjmibgaaDoor
set_option maxRecDepth 100000
set_option maxHeartbeats 16000000
open Go.RowKit
set_option linter.unusedSimpArgs false
set_option linter.unusedVariables false

theorem okI_parts {x:I3} (h:okI x=true) :
  (∃ a q:Nat,x=(1,(a:Int),(q:Int))∧a<2∧q<4)∨(∃ q a:Nat,x=(2,(q:Int),(a:Int))∧q<4∧a<2)∨(∃ (a:Nat) (z:Int),x=(3,(a:Int),z)∧a<2)∨(∃ (a:Nat) (z:Int),x=(4,(a:Int),z)∧a<2∧0≤z∧z≤9) ∨
  (∃ (a:Nat) (z:Int),x=(5,(a:Int),z)∧a<2)∨(∃ (a:Nat) (z:Int),x=(6,(a:Int),z)∧a<2)∨(∃ (a:Nat) (z:Int),x=(7,(a:Int),z)∧a<2∧1≤z∧z≤6)∨(∃ (a:Nat) (z:Int),x=(8,(a:Int),z)∧a<2):=by
 obtain ⟨o,a,b⟩:=x
 unfold okI at h
 simp only at h
 rcases op_cases (o,a,b) with e | e | e | e | e | e | e | e | e<;>simp only at e
 ·subst e
  simp [inB_true] at h
  exact .inl ⟨a.toNat,b.toNat,by rw [show ((a.toNat:Nat):Int)=a by omega,show ((b.toNat:Nat):Int)=b by omega],by omega,by omega⟩
 ·subst e
  simp [inB_true] at h
  exact .inr (.inl ⟨a.toNat,b.toNat,by rw [show ((a.toNat:Nat):Int)=a by omega,show ((b.toNat:Nat):Int)=b by omega],by omega,by omega⟩)
 ·subst e
  simp [inB_true] at h
  exact .inr (.inr (.inl ⟨a.toNat,b,by rw [show ((a.toNat:Nat):Int)=a by omega],by omega⟩))
 ·subst e
  simp [inB_true] at h
  exact .inr (.inr (.inr (.inl ⟨a.toNat,b,by rw [show ((a.toNat:Nat):Int)=a by omega],by omega,by omega,by omega⟩)))
 ·subst e
  simp [inB_true] at h
  exact .inr (.inr (.inr (.inr (.inl ⟨a.toNat,b,by rw [show ((a.toNat:Nat):Int)=a by omega],by omega⟩))))
 ·subst e
  simp [inB_true] at h
  exact .inr (.inr (.inr (.inr (.inr (.inl ⟨a.toNat,b,by rw [show ((a.toNat:Nat):Int)=a by omega],by omega⟩)))))
 ·subst e
  simp [inB_true] at h
  exact .inr (.inr (.inr (.inr (.inr (.inr (.inl ⟨a.toNat,b,by rw [show ((a.toNat:Nat):Int)=a by omega],by omega,by omega,by omega⟩))))))
 ·subst e
  simp [inB_true] at h
  exact .inr (.inr (.inr (.inr (.inr (.inr (.inr ⟨a.toNat,b,by rw [show ((a.toNat:Nat):Int)=a by omega],by omega⟩))))))
 ·obtain ⟨e1,e2,e3,e4,e5,e6,e7,e8⟩:=e
  simp [e1,e2,e3,e4,e5,e6,e7,e8] at h
section
variable (m : V4) (k a q : Nat) (z : Int)
theorem stepM_1:stepM m (1,(a:Int),(q:Int)) k=((m.1.set k (m.1.getD k 0+1),m.2.1,m.2.2.1,m.2.2.2.set (k*2+a) (m.2.1.getD q 0)),0):=rfl
theorem stepM_2:stepM m (2,(q:Int),(a:Int)) k=((m.1.set k (m.1.getD k 0+1),m.2.1.set q (m.2.2.2.getD (k*2+a) 0),m.2.2.1,m.2.2.2),0):=rfl
theorem stepM_3:stepM m (3,(a:Int),z) k=((m.1.set k (m.1.getD k 0+1),m.2.1,m.2.2.1,m.2.2.2.set (k*2+a) z),0):=rfl
theorem stepM_4:stepM m (4,(a:Int),z) k=((m.1.set k (m.1.getD k 0+1),m.2.1,m.2.2.1,m.2.2.2.set (k*2+a) ((m.2.2.2.getD (k*2+a) 0+z) % 10)),0):=rfl
theorem stepM_5:stepM m (5,(a:Int),z) k=((m.1.set k (m.1.getD k 0+1),m.2.1,m.2.2.1.set a ((k:Int)+1),m.2.2.2),0):=rfl
theorem stepM_6:stepM m (6,(a:Int),z) k=if m.2.2.1.getD a 0=(k:Int)+1 then ((m.1.set k (m.1.getD k 0+1),m.2.1,m.2.2.1.set a 0,m.2.2.2),0) else ((m.1.set k (m.1.getD k 0+1),m.2),13):=rfl
theorem stepM_7:stepM m (7,(a:Int),z) k=if m.2.2.2.getD (k*2+a) 0=0 then ((m.1.set k (m.1.getD k 0+1),m.2),0) else ((m.1.set k z,m.2),0):=rfl
theorem stepM_8:stepM m (8,(a:Int),z) k=if m.2.2.2.getD (k*2+a) 0=z then ((m.1.set k (m.1.getD k 0+1),m.2),0) else ((m.1.set k (m.1.getD k 0+1),m.2),12):=rfl
end

theorem step_is {w:World} {g:Nat} {cs:Sl × Sl × Sl} {rows:List (List I3)} {m:V4} (h:MachAt w g cs rows m) (hp:progOk rows=true) (hs:shapeOk m=true) {k:Nat} (hk:k<3) (hd:doneM rows m k=false) :
  Calls Tryd.prog 36 #[.pointer (some ⟨g,0,none⟩),.int .i64 k] w fun e w'=>e=.returned (.int .i64 (stepM m (insM rows m k) k).2)∧Blk w' g 69 (machCells cs.1.val cs.2.1.val cs.2.2.val (stepM m (insM rows m k) k).1)∧w.grownBy w' (some g):=by
 obtain ⟨p,ep,hlt,hi,hok⟩:=at_ins hp hs hk hd
 have hl6:=(codeM_len hp hk).1
 have e0:=h.code hk
 have e1:=h.pc hk
 rw [ep] at e1
 obtain ⟨b,off,ea,hpn,q0,q1,q2⟩:=ins_at (h.2 k hk) hlt
 rw [← hi] at q0 q1 q2
 rw [ea] at e0
 have hL:=LenOk.of hs
 have hr9:=(shape_bounds hs).2.2.2
 generalize insM rows m k=x at *
 rcases okI_parts hok with ⟨a,q,rfl,ha,hq⟩ | ⟨q,a,rfl,hq,ha⟩ | ⟨a,z,rfl,ha⟩ | ⟨a,z,rfl,ha,hz⟩ | ⟨a,z,rfl,ha⟩ | ⟨a,z,rfl,ha⟩ | ⟨a,z,rfl,ha,hz⟩ | ⟨a,z,rfl,ha⟩<;>simp only at q0 q1 q2
 ·rw [stepM_1,ep]
  exact step_load g k p b off _ _ a q _ cs m w hk hpn (by omega) hL h.1 (.inr trivial) e0 e1 q0 q1 q2 ha hq rfl
 ·rw [stepM_2,ep]
  exact step_store g k p b off _ _ a q _ cs m w hk hpn (by omega) hL h.1 (.inr trivial) e0 e1 q0 q1 q2 ha hq rfl
 ·rw [stepM_3,ep]
  exact step_set g k p b off _ _ a z cs m w hk hpn (by omega) hL h.1 (.inr trivial) e0 e1 q0 q1 q2 ha
 ·rw [stepM_4,ep]
  exact step_add g k p b off _ _ a z _ _ cs m w hk hpn (by omega) hL h.1 (.inr trivial) e0 e1 q0 q1 q2 ha rfl hz (getD_in hr9 (by decide) _) rfl
 ·rw [stepM_5,ep]
  exact step_lock g k p b off _ _ a z cs m w hk hpn (by omega) hL h.1 (.inr trivial) e0 e1 q0 q1 q2 ha
 ·rw [stepM_6,ep]
  by_cases hv:m.2.2.1.getD a 0=(k:Int)+1
  ·rw [if_pos hv]
   exact step_unlock_yes g k p b off _ _ a z cs m w hk hpn (by omega) hL h.1 (.inr trivial) e0 e1 q0 q1 q2 ha hv
  ·rw [if_neg hv]
   exact step_unlock_no g k p b off _ _ a z cs m w hk hpn (by omega) hL h.1 (.inr trivial) e0 e1 q0 q1 q2 ha hv
 ·rw [stepM_7,ep]
  by_cases hv:m.2.2.2.getD (k*2+a) 0=0
  ·rw [if_pos hv]
   exact step_stay g k p b off _ _ a z cs m w hk hpn (by omega) hL h.1 (.inr trivial) e0 e1 q0 q1 q2 ha hv
  ·rw [if_neg hv]
   exact step_jump g k p b off _ _ a z _ cs m w hk hpn (by omega) hL h.1 (.inr trivial) e0 e1 q0 q1 q2 ha rfl hv
 ·rw [stepM_8,ep]
  by_cases hv:m.2.2.2.getD (k*2+a) 0=z
  ·rw [if_pos hv]
   exact step_assert_yes g k p b off _ _ a z cs m w hk hpn (by omega) hL h.1 (.inr trivial) e0 e1 q0 q1 q2 ha hv
  ·rw [if_neg hv]
   exact step_assert_no g k p b off _ _ a z _ cs m w hk hpn (by omega) hL h.1 (.inr trivial) e0 e1 q0 q1 q2 ha rfl hv

theorem l03Step_is {w:World} {a9:Option Addr} {len cap:Nat} {cs:Sl × Sl × Sl} {rows:List (List I3)} {s:S4} {m:V4} (hl:len=3) (hR:RowsAt w a9 cs rows) (h:Vmem w s m) (hp:progOk rows=true) (hs:shapeOk m=true) {k:Nat} (hk:k<3) (hd:doneM rows m k=false) :
  Calls Tryd.prog 58 #[.agg #[.slice a9 len cap],s.val,.int .i64 k] w fun e w'=>VmGot e w' w.heap.size (stepM m (insM rows m k) k).1 (stepM m (insM rows m k) k).2∧Below w.heap.size w w':=by
 obtain ⟨p,ep,hlt,hi,hok⟩:=at_ins hp hs hk hd
 have hl6:=(codeM_len hp hk).1
 obtain ⟨b,off,rfl,_,hrow⟩:=hR
 obtain ⟨e0,hI⟩:=hrow k hk
 have hM:=h
 obtain ⟨⟨j0,_⟩,⟨j1,_⟩,⟨j2,_⟩,⟨j3,_⟩⟩:=h
 obtain ⟨l0,l1,l2,l3,_⟩:=shape_parts hs
 obtain ⟨⟨a0,n0,c0⟩,⟨a1,n1,c1⟩,⟨a2,n2,c2⟩,⟨a3,n3,c3⟩⟩:=s
 simp only at j0 j1 j2 j3
 obtain ⟨rfl,b0,o0,rfl⟩:=some_of_ints j0 l0 (by decide)
 obtain ⟨rfl,b1,o1,rfl⟩:=some_of_ints j1 l1 (by decide)
 obtain ⟨rfl,b2,o2,rfl⟩:=some_of_ints j2 l2 (by decide)
 obtain ⟨rfl,b3,o3,rfl⟩:=some_of_ints j3 l3 (by decide)
 have e1:=ints_at9 j0 (t:=k) hk
 rw [ep] at e1
 obtain ⟨cb,co,ea,hpn,q0,q1,q2⟩:=ins_at hI hlt
 rw [← hi] at q0 q1 q2
 rw [ea] at e0
 have hr9:=(shape_bounds hs).2.2.2
 have hriA:∀ a:Nat,(k:Int)*2+(a:Int)=((k*2+a:Nat):Int):=fun a=>by omega
 have hr6A:∀ a:Nat,a<2→k*2+a<6:=fun a ha=>by omega
 generalize insM rows m k=x at *
 rcases okI_parts hok with ⟨a,q,rfl,ha,hq⟩ | ⟨q,a,rfl,hq,ha⟩ | ⟨a,z,rfl,ha⟩ | ⟨a,z,rfl,ha,hz⟩ | ⟨a,z,rfl,ha⟩ | ⟨a,z,rfl,ha⟩ | ⟨a,z,rfl,ha,hz⟩ | ⟨a,z,rfl,ha⟩<;>simp only at q0 q1 q2
 ·rw [stepM_1,ep]
  exact lstep_load b off len cap b0 o0 c0 b1 o1 c1 b2 o2 c2 b3 o3 c3 k cb co _ _ p a q (k*2+a) _ m w hk hl hpn (by omega) hs hM ep e0 e1 q0 q1 q2 (hr6A a ha) (hriA a) hq rfl
 ·rw [stepM_2,ep]
  exact lstep_store b off len cap b0 o0 c0 b1 o1 c1 b2 o2 c2 b3 o3 c3 k cb co _ _ p a q (k*2+a) _ m w hk hl hpn (by omega) hs hM ep e0 e1 q0 q1 q2 (hr6A a ha) (hriA a) hq rfl
 ·rw [stepM_3,ep]
  exact lstep_set b off len cap b0 o0 c0 b1 o1 c1 b2 o2 c2 b3 o3 c3 k cb co _ _ p a (k*2+a) z m w hk hl hpn (by omega) hs hM ep e0 e1 q0 q1 q2 (hr6A a ha) (hriA a)
 ·rw [stepM_4,ep]
  exact lstep_add b off len cap b0 o0 c0 b1 o1 c1 b2 o2 c2 b3 o3 c3 k cb co _ _ p a (k*2+a) z _ _ m w hk hl hpn (by omega) hs hM ep e0 e1 q0 q1 q2 (hr6A a ha) (hriA a) rfl hz (getD_in hr9 (by decide) _) rfl
 ·rw [stepM_5,ep]
  exact lstep_lock b off len cap b0 o0 c0 b1 o1 c1 b2 o2 c2 b3 o3 c3 k cb co _ _ p a z m w hk hl hpn (by omega) hs hM ep e0 e1 q0 q1 q2 ha
 ·rw [stepM_6,ep]
  by_cases hv:m.2.2.1.getD a 0=(k:Int)+1
  ·rw [if_pos hv]
   exact lstep_unlock_yes b off len cap b0 o0 c0 b1 o1 c1 b2 o2 c2 b3 o3 c3 k cb co _ _ p a z m w hk hl hpn (by omega) hs hM ep e0 e1 q0 q1 q2 ha hv
  ·rw [if_neg hv]
   exact lstep_unlock_no b off len cap b0 o0 c0 b1 o1 c1 b2 o2 c2 b3 o3 c3 k cb co _ _ p a z _ m w hk hl hpn (by omega) hs hM ep e0 e1 q0 q1 q2 ha rfl hv
 ·rw [stepM_7,ep]
  by_cases hv:m.2.2.2.getD (k*2+a) 0=0
  ·rw [if_pos hv]
   exact lstep_stay b off len cap b0 o0 c0 b1 o1 c1 b2 o2 c2 b3 o3 c3 k cb co _ _ p a (k*2+a) z m w hk hl hpn (by omega) hs hM ep e0 e1 q0 q1 q2 (hr6A a ha) (hriA a) hv
  ·rw [if_neg hv]
   exact lstep_jump b off len cap b0 o0 c0 b1 o1 c1 b2 o2 c2 b3 o3 c3 k cb co _ _ p a (k*2+a) z _ m w hk hl hpn (by omega) hs hM ep e0 e1 q0 q1 q2 (hr6A a ha) (hriA a) rfl hv
 ·rw [stepM_8,ep]
  by_cases hv:m.2.2.2.getD (k*2+a) 0=z
  ·rw [if_pos hv]
   exact lstep_assert_yes b off len cap b0 o0 c0 b1 o1 c1 b2 o2 c2 b3 o3 c3 k cb co _ _ p a (k*2+a) z m w hk hl hpn (by omega) hs hM ep e0 e1 q0 q1 q2 (hr6A a ha) (hriA a) hv
  ·rw [if_neg hv]
   exact lstep_assert_no b off len cap b0 o0 c0 b1 o1 c1 b2 o2 c2 b3 o3 c3 k cb co _ _ p a (k*2+a) z _ m w hk hl hpn (by omega) hs hM ep e0 e1 q0 q1 q2 (hr6A a ha) (hriA a) rfl hv




theorem allIn_set {zs:List Int} {n hi v:Int} (h:allIn zs n hi=true) (k:Nat) (h0:0≤v) (h1:v≤hi):allIn (zs.set k v) n hi=true:=by
 obtain ⟨hl,ha⟩:=allIn_parts h
 unfold allIn
 simp only [Bool.and_eq_true,List.all_eq_true,decide_eq_true_eq,List.length_set]
 exact ⟨fun z hz=>by rcases List.mem_or_eq_of_mem_set hz with q | q;exact ha z q;subst q;exact ⟨h0,h1⟩,hl⟩
theorem shape_step {rows:List (List I3)} {m:V4} (hp:progOk rows=true) (hs:shapeOk m=true) {k:Nat} (hk:k<3) (hd:doneM rows m k=false):shapeOk (stepM m (insM rows m k) k).1=true:=by
 obtain ⟨p,ep,hlt,hi,hok⟩:=at_ins hp hs hk hd
 have hl6:=(codeM_len hp hk).1
 obtain ⟨b0,b1,b2,b3⟩:=shape_bounds hs
 have hs':=hs
 unfold shapeOk at hs'
 simp only [Bool.and_eq_true] at hs'
 obtain ⟨s0,s1,s2,s3⟩:=hs'
 have hpc:allIn (m.1.set k (m.1.getD k 0+1)) 3 6=true:=allIn_set s0 k (by omega) (by omega)
 have g1:=fun j=>getD_in b1 (by decide) j
 have g3:=fun j=>getD_in b3 (by decide) j
 generalize insM rows m k=x at *
 obtain ⟨o,y,v⟩:=x
 unfold okI at hok
 simp only at hok
 unfold shapeOk
 rcases op_cases (o,y,v) with e | e | e | e | e | e | e | e | e<;>simp only at e
 ·subst e
  simp [inB_true] at hok
  simp only [stepM,if_true,Bool.and_eq_true]
  exact ⟨hpc,s1,s2,allIn_set s3 _ (g1 _).1 (g1 _).2⟩
 ·subst e
  simp [inB_true] at hok
  simp [stepM]
  exact ⟨hpc,allIn_set s1 _ (g3 _).1 (g3 _).2,s2,s3⟩
 ·subst e
  simp [inB_true] at hok
  simp [stepM]
  exact ⟨hpc,s1,s2,allIn_set s3 _ (by omega) (by omega)⟩
 ·subst e
  simp [inB_true] at hok
  simp [stepM]
  exact ⟨hpc,s1,s2,allIn_set s3 _ (by omega) (by omega)⟩
 ·subst e
  simp [inB_true] at hok
  simp [stepM]
  exact ⟨hpc,s1,allIn_set s2 _ (by omega) (by omega),s3⟩
 ·subst e
  simp [inB_true] at hok
  simp [stepM]
  split
  ·exact ⟨hpc,s1,allIn_set s2 _ (by omega) (by omega),s3⟩
  ·exact ⟨hpc,s1,s2,s3⟩
 ·subst e
  simp [inB_true] at hok
  simp [stepM]
  split
  ·exact ⟨hpc,s1,s2,s3⟩
  ·exact ⟨allIn_set s0 _ (by omega) (by omega),s1,s2,s3⟩
 ·subst e
  simp [inB_true] at hok
  simp [stepM]
  split<;>exact ⟨hpc,s1,s2,s3⟩
 ·obtain ⟨e1,e2,e3,e4,e5,e6,e7,e8⟩:=e
  simp [e1,e2,e3,e4,e5,e6,e7,e8] at hok
theorem can_parts {rows:List (List I3)} {m:V4} {k:Nat} (h:canM rows m k=true):doneM rows m k=false∧waitM rows m k=false:=by
 unfold canM at h
 unfold waitM
 simp at h
 simp [h]
theorem shape_fits9 {z:V4} (h:shapeOk z=true):V4.fits z∧z.1.length≤1048576∧z.2.1.length≤1048576∧z.2.2.1.length≤1048576∧z.2.2.2.length≤1048576:=by
 obtain ⟨l0,l1,l2,l3,_⟩:=shape_parts h
 obtain ⟨b0,b1,b2,b3⟩:=shape_bounds h
 exact ⟨⟨fun x hx=>fits_small (by have:=b0 x hx;omega) (by have:=b0 x hx;omega),fun x hx=>fits_small (by have:=b1 x hx;omega) (by have:=b1 x hx;omega),fun x hx=>fits_small (by have:=b2 x hx;omega) (by have:=b2 x hx;omega),fun x hx=>fits_small (by have:=b3 x hx;omega) (by have:=b3 x hx;omega)⟩,by omega,by omega,by omega,by omega⟩
end Go.Proofs.YtjgffnlmjmibgaaDoor
