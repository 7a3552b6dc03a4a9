/-
  Joined: StepQ, StepPl, RunPl, RunQ, VmDraw, MrgB, FndS, Schd.
-/
import Derived.Test.YtmhlokahmblboaaGreatDoorK13
import Derived.Test.YtmhlokahmblboaaGreatDoorK15
import Derived.Test.YtmhlokahmblboaaGreatDoorK22
import Derived.Test.YtmhlokahmblboaaGreatDoorK23

namespace Go.Proofs.YtmhlokahmblboaaGreatDoor
set_option maxRecDepth 100000
set_option maxHeartbeats 16000000
open Go.RowKit
set_option linter.unusedSimpArgs false
set_option linter.unusedVariables false

theorem Sg {x:I3} (h:okI x=true) :
  (∃ a q:Nat,x=(1,(a:Int),(q:Int))∧a<2∧q<4)∨(∃ q a:Nat,x=(2,(q:Int),(a:Int))∧q<4∧a<2)∨(∃ (a:Nat) (z:Int),x=(3,(a:Int),z)∧a<2)∨(∃ (a:Nat) (z:Int),x=(4,(a:Int),z)∧a<2∧0≤z∧z≤9) ∨
  (∃ (a:Nat) (z:Int),x=(5,(a:Int),z)∧a<2)∨(∃ (a:Nat) (z:Int),x=(6,(a:Int),z)∧a<2)∨(∃ (a:Nat) (z:Int),x=(7,(a:Int),z)∧a<2∧1≤z∧z≤6)∨(∃ (a:Nat) (z:Int),x=(8,(a:Int),z)∧a<2):=by
 obtain ⟨o,a,b⟩:=x
 unfold okI at h
 simp only at h
 rcases Wi (o,a,b) with e | e | e | e | e | e | e | e | e<;>simp only at e
 ·subst e
  simp [ZA] at h
  exact .inl ⟨a.toNat,b.toNat,by rw [show ((a.toNat:Nat):Int)=a by omega,show ((b.toNat:Nat):Int)=b by omega],by omega,by omega⟩
 ·subst e
  simp [ZA] at h
  exact .inr (.inl ⟨a.toNat,b.toNat,by rw [show ((a.toNat:Nat):Int)=a by omega,show ((b.toNat:Nat):Int)=b by omega],by omega,by omega⟩)
 ·subst e
  simp [ZA] at h
  exact .inr (.inr (.inl ⟨a.toNat,b,by rw [show ((a.toNat:Nat):Int)=a by omega],by omega⟩))
 ·subst e
  simp [ZA] at h
  exact .inr (.inr (.inr (.inl ⟨a.toNat,b,by rw [show ((a.toNat:Nat):Int)=a by omega],by omega,by omega,by omega⟩)))
 ·subst e
  simp [ZA] at h
  exact .inr (.inr (.inr (.inr (.inl ⟨a.toNat,b,by rw [show ((a.toNat:Nat):Int)=a by omega],by omega⟩))))
 ·subst e
  simp [ZA] at h
  exact .inr (.inr (.inr (.inr (.inr (.inl ⟨a.toNat,b,by rw [show ((a.toNat:Nat):Int)=a by omega],by omega⟩)))))
 ·subst e
  simp [ZA] at h
  exact .inr (.inr (.inr (.inr (.inr (.inr (.inl ⟨a.toNat,b,by rw [show ((a.toNat:Nat):Int)=a by omega],by omega,by omega,by omega⟩))))))
 ·subst e
  simp [ZA] at h
  exact .inr (.inr (.inr (.inr (.inr (.inr (.inr ⟨a.toNat,b,by rw [show ((a.toNat:Nat):Int)=a by omega],by omega⟩))))))
 obtain ⟨e1,e2,e3,e4,e5,e6,e7,e8⟩:=e
 simp [e1,e2,e3,e4,e5,e6,e7,e8] at h
section
variable (m : V4) (k a q : Nat) (z : Int)
theorem LK:ZC m (1,(a:Int),(q:Int)) k=((m.1.set k (m.1.getD k 0+1),m.2.1,m.2.2.1,m.2.2.2.set (k*2+a) (m.2.1.getD q 0)),0):=rfl
theorem LL:ZC m (2,(q:Int),(a:Int)) k=((m.1.set k (m.1.getD k 0+1),m.2.1.set q (m.2.2.2.getD (k*2+a) 0),m.2.2.1,m.2.2.2),0):=rfl
theorem LM:ZC m (3,(a:Int),z) k=((m.1.set k (m.1.getD k 0+1),m.2.1,m.2.2.1,m.2.2.2.set (k*2+a) z),0):=rfl
theorem LN:ZC m (4,(a:Int),z) k=((m.1.set k (m.1.getD k 0+1),m.2.1,m.2.2.1,m.2.2.2.set (k*2+a) ((m.2.2.2.getD (k*2+a) 0+z) % 10)),0):=rfl
theorem LO:ZC m (5,(a:Int),z) k=((m.1.set k (m.1.getD k 0+1),m.2.1,m.2.2.1.set a ((k:Int)+1),m.2.2.2),0):=rfl
theorem LP:ZC m (6,(a:Int),z) k=if m.2.2.1.getD a 0=(k:Int)+1 then ((m.1.set k (m.1.getD k 0+1),m.2.1,m.2.2.1.set a 0,m.2.2.2),0) else ((m.1.set k (m.1.getD k 0+1),m.2),13):=rfl
theorem LQ:ZC m (7,(a:Int),z) k=if m.2.2.2.getD (k*2+a) 0=0 then ((m.1.set k (m.1.getD k 0+1),m.2),0) else ((m.1.set k z,m.2),0):=rfl
theorem LR:ZC m (8,(a:Int),z) k=if m.2.2.2.getD (k*2+a) 0=z then ((m.1.set k (m.1.getD k 0+1),m.2),0) else ((m.1.set k (m.1.getD k 0+1),m.2),12):=rfl
end

theorem LS {w:World} {g:Nat} {cs:Sl × Sl × Sl} {rows:List (List I3)} {m:V4} (h:Yj w g cs rows m) (hp:Zn rows=true) (hs:Zk m=true) {k:Nat} (hk:k<3) (hd:Z1 rows m k=false) :
  Calls Tryz.prog 69 #[.pointer (some ⟨g,0,none⟩),.int .i64 k] w fun e w'=>e=.returned (.int .i64 (ZC m (Yq rows m k) k).2)∧Blk w' g 69 (Zf cs.1.val cs.2.1.val cs.2.2.val (ZC m (Yq rows m k) k).1)∧w.grownBy w' (some g):=by
 obtain ⟨p,ep,hlt,hi,hok⟩:=X0 hp hs hk hd
 have hl6:=(Wx hp hk).1
 have e0:=h.code hk
 have e1:=h.pc hk
 rw [ep] at e1
 obtain ⟨b,off,ea,hpn,q0,q1,q2⟩:=T9 (h.2 k hk) hlt
 rw [← hi] at q0 q1 q2
 rw [ea] at e0
 have hL:=Yx.of hs
 have hr9:=(Yi hs).2.2.2
 generalize Yq rows m k=x at *
 rcases Sg hok with ⟨a,q,rfl,ha,hq⟩ | ⟨q,a,rfl,hq,ha⟩ | ⟨a,z,rfl,ha⟩ | ⟨a,z,rfl,ha,hz⟩ | ⟨a,z,rfl,ha⟩ | ⟨a,z,rfl,ha⟩ | ⟨a,z,rfl,ha,hz⟩ | ⟨a,z,rfl,ha⟩<;>simp only at q0 q1 q2
 ·rw [LK,ep]
  exact Jk g k p b off _ _ a q _ cs m w hk hpn (by omega) hL h.1 (.inr trivial) e0 e1 q0 q1 q2 ha hq rfl
 ·rw [LL,ep]
  exact M6 g k p b off _ _ a q _ cs m w hk hpn (by omega) hL h.1 (.inr trivial) e0 e1 q0 q1 q2 ha hq rfl
 ·rw [LM,ep]
  exact Gz g k p b off _ _ a z cs m w hk hpn (by omega) hL h.1 (.inr trivial) e0 e1 q0 q1 q2 ha
 ·rw [LN,ep]
  exact Gy g k p b off _ _ a z _ _ cs m w hk hpn (by omega) hL h.1 (.inr trivial) e0 e1 q0 q1 q2 ha rfl hz (Xn hr9 (by decide) _) rfl
 ·rw [LO,ep]
  exact Jl g k p b off _ _ a z cs m w hk hpn (by omega) hL h.1 (.inr trivial) e0 e1 q0 q1 q2 ha
 ·rw [LP,ep]
  by_cases hv:m.2.2.1.getD a 0=(k:Int)+1
  ·rw [if_pos hv]
   exact SU g k p b off _ _ a z cs m w hk hpn (by omega) hL h.1 (.inr trivial) e0 e1 q0 q1 q2 ha hv
  rw [if_neg hv]
  exact Qf g k p b off _ _ a z cs m w hk hpn (by omega) hL h.1 (.inr trivial) e0 e1 q0 q1 q2 ha hv
 ·rw [LQ,ep]
  by_cases hv:m.2.2.2.getD (k*2+a) 0=0
  ·rw [if_pos hv]
   exact Jm g k p b off _ _ a z cs m w hk hpn (by omega) hL h.1 (.inr trivial) e0 e1 q0 q1 q2 ha hv
  rw [if_neg hv]
  exact Jj g k p b off _ _ a z _ cs m w hk hpn (by omega) hL h.1 (.inr trivial) e0 e1 q0 q1 q2 ha rfl hv
 rw [LR,ep]
 by_cases hv:m.2.2.2.getD (k*2+a) 0=z
 ·rw [if_pos hv]
  exact ST g k p b off _ _ a z cs m w hk hpn (by omega) hL h.1 (.inr trivial) e0 e1 q0 q1 q2 ha hv
 rw [if_neg hv]
 exact Qd g k p b off _ _ a z _ cs m w hk hpn (by omega) hL h.1 (.inr trivial) e0 e1 q0 q1 q2 ha rfl hv

theorem WJ {w:World} {a9:Option Addr} {len cap:Nat} {cs:Sl × Sl × Sl} {rows:List (List I3)} {s:S4} {m:V4} (hl:len=3) (hR:Z6 w a9 cs rows) (h:Yk w s m) (hp:Zn rows=true) (hs:Zk m=true) {k:Nat} (hk:k<3) (hd:Z1 rows m k=false) :
  Calls Tryz.prog 79 #[.agg #[.slice a9 len cap],s.val,.int .i64 k] w fun e w'=>Xa e w' w.heap.size (ZC m (Yq rows m k) k).1 (ZC m (Yq rows m k) k).2∧Below w.heap.size w w':=by
 obtain ⟨p,ep,hlt,hi,hok⟩:=X0 hp hs hk hd
 have hl6:=(Wx hp hk).1
 obtain ⟨b,off,rfl,_,hrow⟩:=hR
 obtain ⟨e0,hI⟩:=hrow k hk
 have hM:=h
 obtain ⟨⟨j0,_⟩,⟨j1,_⟩,⟨j2,_⟩,⟨j3,_⟩⟩:=h
 obtain ⟨l0,l1,l2,l3,_⟩:=ZT hs
 obtain ⟨⟨a0,n0,c0⟩,⟨a1,n1,c1⟩,⟨a2,n2,c2⟩,⟨a3,n3,c3⟩⟩:=s
 simp only at j0 j1 j2 j3
 obtain ⟨rfl,b0,o0,rfl⟩:=Zw j0 l0 (by decide)
 obtain ⟨rfl,b1,o1,rfl⟩:=Zw j1 l1 (by decide)
 obtain ⟨rfl,b2,o2,rfl⟩:=Zw j2 l2 (by decide)
 obtain ⟨rfl,b3,o3,rfl⟩:=Zw j3 l3 (by decide)
 have e1:=Yz j0 (t:=k) hk
 rw [ep] at e1
 obtain ⟨cb,co,ea,hpn,q0,q1,q2⟩:=T9 hI hlt
 rw [← hi] at q0 q1 q2
 rw [ea] at e0
 have hr9:=(Yi hs).2.2.2
 have hriA:∀ a:Nat,(k:Int)*2+(a:Int)=((k*2+a:Nat):Int):=fun a=>by omega
 have hr6A:∀ a:Nat,a<2→k*2+a<6:=fun a ha=>by omega
 generalize Yq rows m k=x at *
 rcases Sg hok with ⟨a,q,rfl,ha,hq⟩ | ⟨q,a,rfl,hq,ha⟩ | ⟨a,z,rfl,ha⟩ | ⟨a,z,rfl,ha,hz⟩ | ⟨a,z,rfl,ha⟩ | ⟨a,z,rfl,ha⟩ | ⟨a,z,rfl,ha,hz⟩ | ⟨a,z,rfl,ha⟩<;>simp only at q0 q1 q2
 ·rw [LK,ep]
  exact MJ b off len cap b0 o0 c0 b1 o1 c1 b2 o2 c2 b3 o3 c3 k cb co _ _ p a q (k*2+a) _ m w hk hl hpn (by omega) hs hM ep e0 e1 q0 q1 q2 (hr6A a ha) (hriA a) hq rfl
 ·rw [LL,ep]
  exact NK b off len cap b0 o0 c0 b1 o1 c1 b2 o2 c2 b3 o3 c3 k cb co _ _ p a q (k*2+a) _ m w hk hl hpn (by omega) hs hM ep e0 e1 q0 q1 q2 (hr6A a ha) (hriA a) hq rfl
 ·rw [LM,ep]
  exact KS b off len cap b0 o0 c0 b1 o1 c1 b2 o2 c2 b3 o3 c3 k cb co _ _ p a (k*2+a) z m w hk hl hpn (by omega) hs hM ep e0 e1 q0 q1 q2 (hr6A a ha) (hriA a)
 ·rw [LN,ep]
  exact KR b off len cap b0 o0 c0 b1 o1 c1 b2 o2 c2 b3 o3 c3 k cb co _ _ p a (k*2+a) z _ _ m w hk hl hpn (by omega) hs hM ep e0 e1 q0 q1 q2 (hr6A a ha) (hriA a) rfl hz (Xn hr9 (by decide) _) rfl
 ·rw [LO,ep]
  exact MK b off len cap b0 o0 c0 b1 o1 c1 b2 o2 c2 b3 o3 c3 k cb co _ _ p a z m w hk hl hpn (by omega) hs hM ep e0 e1 q0 q1 q2 ha
 ·rw [LP,ep]
  by_cases hv:m.2.2.1.getD a 0=(k:Int)+1
  ·rw [if_pos hv]
   exact Sd b off len cap b0 o0 c0 b1 o1 c1 b2 o2 c2 b3 o3 c3 k cb co _ _ p a z m w hk hl hpn (by omega) hs hM ep e0 e1 q0 q1 q2 ha hv
  rw [if_neg hv]
  exact SS b off len cap b0 o0 c0 b1 o1 c1 b2 o2 c2 b3 o3 c3 k cb co _ _ p a z _ m w hk hl hpn (by omega) hs hM ep e0 e1 q0 q1 q2 ha rfl hv
 ·rw [LQ,ep]
  by_cases hv:m.2.2.2.getD (k*2+a) 0=0
  ·rw [if_pos hv]
   exact ML b off len cap b0 o0 c0 b1 o1 c1 b2 o2 c2 b3 o3 c3 k cb co _ _ p a (k*2+a) z m w hk hl hpn (by omega) hs hM ep e0 e1 q0 q1 q2 (hr6A a ha) (hriA a) hv
  rw [if_neg hv]
  exact MI b off len cap b0 o0 c0 b1 o1 c1 b2 o2 c2 b3 o3 c3 k cb co _ _ p a (k*2+a) z _ m w hk hl hpn (by omega) hs hM ep e0 e1 q0 q1 q2 (hr6A a ha) (hriA a) rfl hv
 rw [LR,ep]
 by_cases hv:m.2.2.2.getD (k*2+a) 0=z
 ·rw [if_pos hv]
  exact Sc b off len cap b0 o0 c0 b1 o1 c1 b2 o2 c2 b3 o3 c3 k cb co _ _ p a (k*2+a) z m w hk hl hpn (by omega) hs hM ep e0 e1 q0 q1 q2 (hr6A a ha) (hriA a) hv
 rw [if_neg hv]
 exact SR b off len cap b0 o0 c0 b1 o1 c1 b2 o2 c2 b3 o3 c3 k cb co _ _ p a (k*2+a) z _ m w hk hl hpn (by omega) hs hM ep e0 e1 q0 q1 q2 (hr6A a ha) (hriA a) rfl hv




theorem XB {zs:List Int} {n hi v:Int} (h:YO zs n hi=true) (k:Nat) (h0:0≤v) (h1:v≤hi):YO (zs.set k v) n hi=true:=by
 obtain ⟨hl,ha⟩:=YP h
 unfold YO
 simp only [Bool.and_eq_true,List.all_eq_true,decide_eq_true_eq,List.length_set]
 exact ⟨fun z hz=>by rcases List.mem_or_eq_of_mem_set hz with q | q;exact ha z q;subst q;exact ⟨h0,h1⟩,hl⟩
theorem R5 {rows:List (List I3)} {m:V4} (hp:Zn rows=true) (hs:Zk m=true) {k:Nat} (hk:k<3) (hd:Z1 rows m k=false):Zk (ZC m (Yq rows m k) k).1=true:=by
 obtain ⟨p,ep,hlt,hi,hok⟩:=X0 hp hs hk hd
 have hl6:=(Wx hp hk).1
 obtain ⟨b0,b1,b2,b3⟩:=Yi hs
 have hs':=hs
 unfold Zk at hs'
 simp only [Bool.and_eq_true] at hs'
 obtain ⟨s0,s1,s2,s3⟩:=hs'
 have hpc:YO (m.1.set k (m.1.getD k 0+1)) 3 6=true:=XB s0 k (by omega) (by omega)
 have g1:=fun j=>Xn b1 (by decide) j
 have g3:=fun j=>Xn b3 (by decide) j
 generalize Yq rows m k=x at *
 obtain ⟨o,y,v⟩:=x
 unfold okI at hok
 simp only at hok
 unfold Zk
 rcases Wi (o,y,v) with e | e | e | e | e | e | e | e | e<;>simp only at e
 ·subst e
  simp [ZA] at hok
  simp only [ZC,if_true,Bool.and_eq_true]
  exact ⟨hpc,s1,s2,XB s3 _ (g1 _).1 (g1 _).2⟩
 ·subst e
  simp [ZA] at hok
  simp [ZC]
  exact ⟨hpc,XB s1 _ (g3 _).1 (g3 _).2,s2,s3⟩
 ·subst e
  simp [ZA] at hok
  simp [ZC]
  exact ⟨hpc,s1,s2,XB s3 _ (by omega) (by omega)⟩
 ·subst e
  simp [ZA] at hok
  simp [ZC]
  exact ⟨hpc,s1,s2,XB s3 _ (by omega) (by omega)⟩
 ·subst e
  simp [ZA] at hok
  simp [ZC]
  exact ⟨hpc,s1,XB s2 _ (by omega) (by omega),s3⟩
 ·subst e
  simp [ZA] at hok
  simp [ZC]
  split
  ·exact ⟨hpc,s1,XB s2 _ (by omega) (by omega),s3⟩
  exact ⟨hpc,s1,s2,s3⟩
 ·subst e
  simp [ZA] at hok
  simp [ZC]
  split
  ·exact ⟨hpc,s1,s2,s3⟩
  exact ⟨XB s0 _ (by omega) (by omega),s1,s2,s3⟩
 ·subst e
  simp [ZA] at hok
  simp [ZC]
  split<;>exact ⟨hpc,s1,s2,s3⟩
 obtain ⟨e1,e2,e3,e4,e5,e6,e7,e8⟩:=e
 simp [e1,e2,e3,e4,e5,e6,e7,e8] at hok
theorem L7 {rows:List (List I3)} {m:V4} {k:Nat} (h:YA rows m k=true):Z1 rows m k=false∧Qm rows m k=false:=by
 unfold YA at h
 unfold Qm
 simp at h
 simp [h]
theorem ZO {z:V4} (h:Zk z=true):V4.fits z∧z.1.length≤1048576∧z.2.1.length≤1048576∧z.2.2.1.length≤1048576∧z.2.2.2.length≤1048576:=by
 obtain ⟨l0,l1,l2,l3,_⟩:=ZT h
 obtain ⟨b0,b1,b2,b3⟩:=Yi h
 exact ⟨⟨fun x hx=>Yf (by have:=b0 x hx;omega) (by have:=b0 x hx;omega),fun x hx=>Yf (by have:=b1 x hx;omega) (by have:=b1 x hx;omega),fun x hx=>Yf (by have:=b2 x hx;omega) (by have:=b2 x hx;omega),fun x hx=>Yf (by have:=b3 x hx;omega) (by have:=b3 x hx;omega)⟩,by omega,by omega,by omega,by omega⟩


theorem XD {l:List Int} {k i:Nat} {v:Int} (h:i≠k):(l.set k v).getD i 0=l.getD i 0:=by
 simp [List.getD,List.getElem?_set_ne (Ne.symm h)]
theorem XH (m:V4) (x:I3) {k i:Nat} (h:i≠k):(ZC m x k).1.1.getD i 0=m.1.getD i 0:=by
 unfold ZC
 repeat' split
 all_goals exact XD h

theorem Ty {n:Nat}:∀ (xs:List I3) (j i:Nat),Z2 n j xs=true→i<xs.length→Wn (xs.getD i (0,0,0)) ((j:Int)+(i:Int)) (n:Int)=true
 | [],_,_,_,h=>by simp at h
 | x::xs,j,i,h,hi=>by
  have h':=h
  simp only [Z2,Bool.and_eq_true] at h'
  match i,hi with
  | 0,_ =>
   have:=h'.1.2
   simpa using this
  | i+1,hi =>
   have:=Ty xs (j+1) i h'.2 (by simpa using hi)
   rw [List.getD_cons_succ]
   have e:((j+1:Nat):Int)+(i:Int)=(j:Int)+((i+1:Nat):Int):=by omega
   rw [e] at this
   exact this
theorem Kr {rows:List (List I3)} {m:V4} (hp:Zn rows=true) (hs:Zk m=true) {k:Nat} (hk:k<3) (hd:Z1 rows m k=false) (h7:(Yq rows m k).1=7):m.1.getD k 0<(Yq rows m k).2.2:=by
 obtain ⟨p,ep,hlt,hi,hok⟩:=X0 hp hs hk hd
 have hrow:ZN (Yn rows k)=true:=by
  unfold Zn at hp
  simp only [Bool.and_eq_true,decide_eq_true_eq,List.all_eq_true] at hp
  refine hp.2 _ ?_
  have hk':k<rows.length:=by have:=hp.1;omega
  unfold Yn
  rw [List.getD,List.getElem?_eq_getElem hk',Option.getD_some]
  exact List.getElem_mem hk'
 unfold ZN at hrow
 simp only [Bool.and_eq_true] at hrow
 have hl:=Ty _ 0 p hrow.2 hlt
 rw [← hi] at hl
 unfold Wn at hl
 rw [if_pos h7,ZA] at hl
 omega
theorem SD {l:List Int} {k:Nat} {v:Int} (h:k<l.length):(l.set k v).getD k 0=v:=by
 simp [List.getD,List.getElem?_set_self h]
theorem Pb {rows:List (List I3)} {m:V4} (hp:Zn rows=true) (hs:Zk m=true) {k:Nat} (hk:k<3) (hd:Z1 rows m k=false):m.1.getD k 0<(ZC m (Yq rows m k) k).1.1.getD k 0:=by
 have hl:=Kr hp hs hk hd
 have hk':k<m.1.length:=by have:=(ZT hs).1;omega
 generalize Yq rows m k=x at hl
 have e1:=SD (l:=m.1) (v:=m.1.getD k 0+1) hk'
 unfold ZC
 repeat' split
 all_goals first
  | (simp only [e1];omega)
  | (have:=hl (by assumption);simp only [SD hk'];omega)

theorem Tw {rows:List (List I3)} {m:V4} {k:Nat}:∀ n,((k:Int) ∈ Zj rows m n)↔k<n∧YA rows m k=true
 | 0=>by simp [Zj]
 | n+1=>by
  have ih:=Tw (rows:=rows) (m:=m) (k:=k) n
  unfold Zj
  split
  ·rename_i h
   simp only [List.mem_append,List.mem_singleton,ih]
   constructor
   ·rintro (⟨h1,h2⟩ | h1)
    ·exact ⟨by omega,h2⟩
    obtain rfl:k=n:=by omega
    exact ⟨by omega,h⟩
   rintro ⟨h1,h2⟩
   by_cases e:k=n
   ·exact .inr (by omega)
   exact .inl ⟨by omega,h2⟩
  rename_i h
  rw [ih]
  constructor
  ·rintro ⟨h1,h2⟩
   exact ⟨by omega,h2⟩
  rintro ⟨h1,h2⟩
  refine ⟨?_,h2⟩
  by_cases e:k=n
  ·subst e
   exact absurd h2 h
  omega
theorem GS {rows:List (List I3)} {m:V4} {i:Nat} (hi:i<(Zj rows m 3).length):∃ k:Nat,(Zj rows m 3).getD i 0=k∧k<3∧YA rows m k=true:=by
 have hm:(Zj rows m 3)[i] ∈ Zj rows m 3:=List.getElem_mem hi
 have hall:∀ n,∀ z ∈ Zj rows m n,∃ k:Nat,z=k:=by
  intro n
  induction n with
  | zero=>intro z hz;simp [Zj] at hz
  | succ n ih =>
   intro z hz
   unfold Zj at hz
   split at hz
   ·rcases List.mem_append.1 hz with h | h
    ·exact ih z h
    exact ⟨n,by simpa using h⟩
   exact ih z hz
 obtain ⟨k,hk⟩:=hall 3 _ hm
 rw [hk] at hm
 obtain ⟨h1,h2⟩:=(Tw 3).1 hm
 refine ⟨k,?_,h1,h2⟩
 rw [List.getD,List.getElem?_eq_getElem hi,Option.getD_some,hk]


def Zv (rows:List (List I3)) (m:V4) (k:Int):Int:=
 if 0≤k∧k≤2 then (if Z1 rows m k.toNat then 10 else if YA rows m k.toNat then 0 else 11) else 4
def goM (rows:List (List I3)) (m:V4) (k:Int):V4 × Int:=ZC m (Yq rows m k.toNat) k.toNat
def Yr (rows:List (List I3)) (m:V4) (k:Int):List I3:=if (goM rows m k).2=0 then [] else [((goM rows m k).2,k,m.1.getD k.toNat 0)]
def XS (rows:List (List I3)) (m:V4):List I3:=if Xh rows m then [(14,0,0)] else []
def X2 (rows:List (List I3)) (m:V4) (k:Int):List I3:=if Xh rows (goM rows m k).1 then YL (Yr rows m k) (14,0,0) else Yr rows m k

def ZE (rows:List (List I3)):V4→List I3→List Int→V4 × List I3 × Int
 | m,fs,[]=>(m,fs,0)
 | m,fs,k::ks=>if Zv rows m k=0 then ZE rows (goM rows m k).1 (fs++Yr rows m k) ks else (m,fs,Zv rows m k)
def VN (rows:List (List I3)):V4→List I3→List Int→V4 × List I3 × Int
 | m,out,[]=>(m,out,0)
 | m,out,k::ks=>if Zv rows m k=0 then VN rows (goM rows m k).1 (Yg out (X2 rows m k)) ks else (m,out,Zv rows m k)

theorem ZX {rows:List (List I3)} {m:V4} {k:Int} (h:Zv rows m k=0):0≤k∧k≤2∧Z1 rows m k.toNat=false∧YA rows m k.toNat=true:=by
 unfold Zv at h
 split at h
 ·rename_i hk
  cases hd:Z1 rows m k.toNat
  ·cases hc:YA rows m k.toNat
   ·rw [hd,hc] at h;simp at h
   exact ⟨hk.1,hk.2,rfl,rfl⟩
  rw [hd] at h;simp at h
 cases h
theorem UG {rows:List (List I3)} {m:V4} {k:Nat} (hk:k<3) (h:YA rows m k=true):Xh rows m=false:=by
 have hm:(k:Int) ∈ Zj rows m 3:=(Tw 3).2 ⟨hk,h⟩
 unfold Xh
 have hne:¬ (Zj rows m 3=[]):=fun e=>by rw [e] at hm;simp at hm
 simp [hne]
theorem KV {rows:List (List I3)} {m:V4} {k:Int} {x:I3}:x ∈ X2 rows m k↔x ∈ Yr rows m k∨x ∈ XS rows (goM rows m k).1:=by
 unfold X2 XS
 cases Xh rows (goM rows m k).1
 ·simp
 simp only [if_true,Wg,List.mem_singleton]
theorem N8 {rows:List (List I3)}:∀ (ks:List Int) (m:V4) (fs out:List I3),out=Yg fs (XS rows m) →
  (VN rows m out ks).1=(ZE rows m fs ks).1∧(VN rows m out ks).2.2=(ZE rows m fs ks).2.2∧(VN rows m out ks).2.1=Yg (ZE rows m fs ks).2.1 (XS rows (ZE rows m fs ks).1)
 | [],m,fs,out,h=>⟨rfl,rfl,h⟩
 | k::ks,m,fs,out,h=>by
  by_cases hz:Zv rows m k=0
  ·obtain ⟨h0,h2,_,hc⟩:=ZX hz
   have hst:=UG (rows:=rows) (m:=m) (k:=k.toNat) (by omega) hc
   have hd:XS rows m=[]:=by unfold XS;rw [hst];rfl
   have e1:VN rows m out (k::ks)=VN rows (goM rows m k).1 (Yg out (X2 rows m k)) ks:=by
    show (if Zv rows m k=0 then _ else _)=_
    rw [if_pos hz]
   have e2:ZE rows m fs (k::ks)=ZE rows (goM rows m k).1 (fs++Yr rows m k) ks:=by
    show (if Zv rows m k=0 then _ else _)=_
    rw [if_pos hz]
   rw [e1,e2]
   refine N8 ks _ _ _ ((VH _ _).same (VH _ _) fun x=>?_)
   rw [WL,WL,h,WL,hd,KV,List.mem_append]
   simp only [List.not_mem_nil,or_false,or_assoc]
  have e1:VN rows m out (k::ks)=(m,out,Zv rows m k):=by
   show (if Zv rows m k=0 then _ else _)=_
   rw [if_neg hz]
  have e2:ZE rows m fs (k::ks)=(m,fs,Zv rows m k):=by
   show (if Zv rows m k=0 then _ else _)=_
   rw [if_neg hz]
  rw [e1,e2]
  exact ⟨rfl,rfl,h⟩


theorem M5 (m:V4) (x:I3) (k:Nat):(ZC m x k).2=0∨(ZC m x k).2=12∨(ZC m x k).2=13:=by
 unfold ZC
 repeat' split
 all_goals simp
theorem Ly {rows:List (List I3)} {m:V4} {k:Int} (hp:Zn rows=true) (hs:Zk m=true) (hz:Zv rows m k=0):∀ x ∈ Yr rows m k,okB x=true:=by
 obtain ⟨h0,h2,hd,hc⟩:=ZX hz
 obtain ⟨q,rfl⟩:∃ q:Nat,k=q:=⟨k.toNat,by omega⟩
 rw [Int.toNat_natCast] at hd
 have hq:q<3:=by omega
 obtain ⟨p,ep,hlt,_,_⟩:=X0 hp hs hq hd
 have hl6:=(Wx hp hq).1
 have hf:=M5 m (Yq rows m q) q
 intro x hx
 unfold Yr goM at hx
 rw [Int.toNat_natCast] at hx
 split at hx
 ·simp at hx
 rename_i h9
 simp only [List.mem_singleton] at hx
 subst hx
 unfold okB
 simp only
 have h12:(ZC m (Yq rows m q) q).2=12∨(ZC m (Yq rows m q) q).2=13:=by omega
 rw [if_neg (by omega),if_pos h12,ep]
 rw [Bool.and_eq_true]
 exact ⟨ZA.2 (by omega),ZA.2 (by omega)⟩
theorem ZV {rows:List (List I3)} {m:V4} {k:Int} (hp:Zn rows=true) (hs:Zk m=true) (hz:Zv rows m k=0):Zk (goM rows m k).1=true:=by
 obtain ⟨h0,h2,hd,hc⟩:=ZX hz
 exact R5 hp hs (by omega) hd
theorem Xp {x:I3} (h:okB x=true):I3.fits x:=by
 unfold okB at h
 split at h
 ·rename_i h1
  simp only [Bool.and_eq_true,decide_eq_true_eq] at h
  exact ⟨Yf (by omega) (by omega),Yf (by omega) (by omega),Yf (by omega) (by omega)⟩
 split at h
 ·rename_i h1
  rw [Bool.and_eq_true] at h
  have a:=ZA.1 h.1
  have b:=ZA.1 h.2
  exact ⟨Yf (by omega) (by omega),Yf (by omega) (by omega),Yf (by omega) (by omega)⟩
 cases h
theorem JT (rows:List (List I3)) (m:V4):∀ x ∈ XS rows m,okB x=true:=by
 unfold XS
 split
 ·intro x hx
  simp only [List.mem_singleton] at hx
  subst hx
  rfl
 simp


theorem ZP.lowerB {B B':Nat} {w:World} {s:S4} {m:V4} (h:ZP w B s m) (hB:B'≤B):ZP w B' s m:=⟨⟨XF h.1.1 hB,XF h.1.2.1 hB,XF h.1.2.2.1 hB,XF h.1.2.2.2 hB⟩,h.2⟩
theorem ZH:Zk Zl=true:=by decide
def vmC (t:S4):List Value:=[.slice t.1.1 t.1.2.1 t.1.2.2,.slice t.2.1.1 t.2.1.2.1 t.2.1.2.2,.slice t.2.2.1.1 t.2.2.1.2.1 t.2.2.1.2.2,.slice t.2.2.2.1 t.2.2.2.2.1 t.2.2.2.2.2]
theorem Zt {P:Program} {ops:Array Oper} {o:Oper} {a:Act} {w:World} {K:Act→World→Prop} {Q:Exit→Act→World→Prop} {E:Prop} (hgd:o.guard=none) (ty:TypeId) (x y:Operand) (ho:o.op=.store ty x y) (g:Nat) (vs:List Value) (hx:a.eval x=.pointer (some ⟨g,0,none⟩)) (hy:a.eval y=.agg vs.toArray) {t:Nat} {cs:List Value} (hB:Blk w g t cs)
  (hi:(P.info? ty).map (·.size)=some vs.length) (hl:cs.length=vs.length) (h1:vs.all (·.oneCell')=true)
  (h:∀ w',Hid (Blk w' g t vs)→w.grownBy w' (some g)→K (a.put o.dst undef) w'):if Region.wanted o (yielded ops a.tmps)=true then Oper.wp P o a w K Q else E:=by
 have hw:Region.wanted o (yielded ops a.tmps)=true:=by simp [Region.wanted,hgd]
 rw [if_pos hw]
 exact wp_store_row ty x y ho g vs.toArray hx hy t cs.toArray hB (by simpa using hi) (by simpa using hl) (by simpa using h1) (h _ (Rm vs hB) (VC _ _ _))


def Ui (e:Ending) (w:World) (B:Nat) (zs:List I3):Prop:=∃ v,e=.returned v∧w.ownsRow B 90 3 v zs.length (Zr zs)
theorem Nk {zs:List I3} {x:I3} (h:∀ z ∈ zs,I3.fits z) (hx:I3.fits x):∀ z ∈ YL zs x,I3.fits z:=fun z hz=>by
 rcases Wg.1 hz with e | e
 ·exact h z e
 rw [e];exact hx
theorem Nl {xs ys:List I3} (h:∀ z ∈ xs,I3.fits z) (k:∀ z ∈ ys,I3.fits z):∀ z ∈ putAll xs ys,I3.fits z:=fun z hz=>by
 rcases VG.1 hz with e | e
 ·exact h z e
 exact k z e
theorem SL (out xs:List I3) {k:Nat} (hk:k<xs.length):putAll out (xs.take (k+1))=YL (putAll out (xs.take k)) (xs.getD k (0,0,0)):=by
 unfold putAll
 rw [List.take_add_one,List.foldl_append,List.getElem?_eq_getElem hk]
 simp [List.getD,List.getElem?_eq_getElem hk]
theorem QJ {xs:List I3} {k:Nat} (hk:k<xs.length):xs.getD k (0,0,0) ∈ xs:=by
 rw [List.getD,List.getElem?_eq_getElem hk,Option.getD_some]
 exact List.getElem_mem hk
def Qv (w wr:World) (v:Value) (zs:List I3):Prop:=(∃ g c,v=.slice (some ⟨g,0,none⟩) zs.length c)∧wr.ownsRow w.heap.size 90 3 v zs.length (Zr zs)∧(∀ z ∈ zs,I3.fits z)∧zs.length≤1000000

theorem SF (a0:Option Addr) (n0 c0:Nat) (xs:List I3) (a1:Option Addr) (n1 c1:Nat) (ys:List I3) (w:World) (h0:ZK w a0 n0 c0 xs) (h1:ZK w a1 n1 c1 ys) (m0:n0≤400000) (m1:n1≤400000) :
  Calls Tryz.prog 150 #[.slice a0 n0 c0,.slice a1 n1 c1] w fun e w'=>Ui e w' w.heap.size (Yg xs ys)∧Below w.heap.size w w':=by
 have l0:=h0.1
 have l1:=h1.1
 have f0:=h0.2.2.2.1
 have f1:=h1.2.2.2.1
 have q0:Qv w (w.alloc (.cells #[] 90)) (.slice (some ⟨w.heap.size,0,none⟩) 0 0) []:=⟨⟨_,_,rfl⟩,Yv w 90 3 w.heap.size (Nat.le_refl _),by simp,by simp⟩
 have bw0:Below w.heap.size w (w.alloc (.cells #[] 90)):=by go_grown
 go_enter Tryz.func150,Tryz.ntmps150
 go_wp2_with fail
 generalize w.alloc (.cells #[] 90)=W0 at *
 go_loopw [5,6] (fun so si wr=>∃ (k:Nat) (v:Value),v=so∧k≤n0∧si=.int .i64 k∧Qv w wr v (putAll [] (xs.take k))∧Below w.heap.size w wr) (fun _ si _=>n0 - (intOf si).toNat)
 case atStart=>exact ⟨0,_,rfl,by omega,rfl,q0,bw0⟩
 case round =>
  clear q0 bw0
  obtain ⟨k,so,rfl,hk,rfl,⟨⟨g,c,rfl⟩,hq,hf,hz⟩,bw⟩:=hrel
  by_cases hlt:k<n0
  ·obtain ⟨zs,hzs⟩:∃ zs,zs=putAll [] (xs.take k):=⟨_,rfl⟩
   rw [← hzs] at hq hf hz
   try rw [← hzs]
   have hZ:=ZK.of_owns hq rfl hf rfl
   obtain ⟨_,_,_,_,hcase⟩:=h0.below bw
   rcases hcase with e0 | ⟨b,off,rfl,hb,hc⟩
   ·omega
   obtain ⟨d0,d1,d2⟩:=hc k hlt
   clear hc hb
   obtain ⟨x,hx⟩:∃ x,x=xs.getD k (0,0,0):=⟨_,rfl⟩
   have hfx:I3.fits x:=by rw [hx];exact f0 _ (QJ (by omega))
   have hnew:YL zs x=putAll [] (xs.take (k+1)):=by rw [hzs,hx];exact (SL [] xs (by omega)).symm
   rw [← hx] at d0 d1 d2
   have HN:Hid (YL zs x=putAll [] (xs.take (k+1))):=hnew
   have hzl:zs.length≤k:=by rw [hzs];have:=X6 (xs.take k) [];simp at this;omega
   clear hx hnew hzs
   have kP:=Uu g 0 zs.length c zs x wr hZ (by omega)
   have hpl:=TN zs x
   have hpf:=Nk hf hfx
   have hp0:0<(YL zs x).length:=List.length_pos_of_mem (Wg.2 (.inr rfl))
   generalize zs.length=m at *
   obtain ⟨x0,x1,x2⟩:=x
   unfold I3.val at kP
   simp only at d0 d1 d2 kP
   clear hZ hq
   have hlt':(k:Int)<(n0:Int):=by omega
   have hk0:(0:Int)≤(k:Int):=by omega
   go_wp2_with fail
   refine kP.mono ?_
   rintro e w1 ⟨⟨v1,rfl,hq1⟩,hb1⟩
   clear kP d0 d1 d2
   have bw1:=Zb bw hb1
   obtain ⟨g1,e1,rfl⟩:=X5 hq1 hp0
   have hU:Qv w w1 (.slice (some ⟨g1,0,none⟩) (YL zs (x0,x1,x2)).length e1) (putAll [] (xs.take (k+1))):=by
    rw [← HN.out]
    exact ⟨⟨_,_,rfl⟩,ZY hq1 bw.size,hpf,by omega⟩
   generalize (YL zs (x0,x1,x2)).length=m1 at *
   clear hq1 hpf
   go_wp2
   go_roundw
   case rel=>exact ⟨k+1,_,rfl,by omega,by go_num,hU,bw1⟩
   case measure=>simp [intOf];omega
  obtain rfl:k=n0:=by omega
  have hU:Qv w wr (.slice (some ⟨g,0,none⟩) (putAll [] (xs.take k)).length c) (putAll (putAll [] xs) (ys.take 0)):=by
   have e:xs.take k=xs:=List.take_of_length_le (by omega)
   rw [e] at hq hf hz ⊢
   exact ⟨⟨_,_,rfl⟩,hq,hf,hz⟩
  have hal:(putAll [] xs).length≤k:=by have:=X6 xs [];simp at this;omega
  have haf:∀ z ∈ putAll [] xs,I3.fits z:=Nl (by simp) f0
  generalize (putAll [] (xs.take k)).length=m at *
  clear hq hf hz h0
  go_wp2_with fail
  go_loopw [5,7] (fun so si wr=>∃ (j:Nat) (v:Value),v=so∧j≤n1∧si=.int .i64 j∧Qv w wr v (putAll (putAll [] xs) (ys.take j))∧Below w.heap.size w wr) (fun _ si _=>n1 - (intOf si).toNat)
  case atStart=>exact ⟨0,_,rfl,by omega,rfl,hU,bw⟩
  case round =>
   clear hU bw
   obtain ⟨j,so,rfl,hj,rfl,⟨⟨g,c,rfl⟩,hq,hf,hz⟩,bw⟩:=hrel
   by_cases hltj:j<n1
   ·obtain ⟨zs,hzs⟩:∃ zs,zs=putAll (putAll [] xs) (ys.take j):=⟨_,rfl⟩
    rw [← hzs] at hq hf hz
    try rw [← hzs]
    have hZ:=ZK.of_owns hq rfl hf rfl
    obtain ⟨_,_,_,_,hcase⟩:=h1.below bw
    rcases hcase with e0 | ⟨b,off,rfl,hb,hc⟩
    ·omega
    obtain ⟨d0,d1,d2⟩:=hc j hltj
    clear hc hb
    obtain ⟨x,hx⟩:∃ x,x=ys.getD j (0,0,0):=⟨_,rfl⟩
    have hfx:I3.fits x:=by rw [hx];exact f1 _ (QJ (by omega))
    have hnew:YL zs x=putAll (putAll [] xs) (ys.take (j+1)):=by rw [hzs,hx];exact (SL _ ys (by omega)).symm
    rw [← hx] at d0 d1 d2
    have HN:Hid (YL zs x=putAll (putAll [] xs) (ys.take (j+1))):=hnew
    have hzl:zs.length≤k+j:=by rw [hzs];have:=X6 (ys.take j) (putAll [] xs);simp at this;omega
    clear hx hnew hzs
    have kP:=Uu g 0 zs.length c zs x _ hZ (by omega)
    have hpl:=TN zs x
    have hpf:=Nk hf hfx
    have hp0:0<(YL zs x).length:=List.length_pos_of_mem (Wg.2 (.inr rfl))
    generalize zs.length=mm at *
    obtain ⟨x0,x1,x2⟩:=x
    unfold I3.val at kP
    simp only at d0 d1 d2 kP
    clear hZ hq
    have hlt':(j:Int)<(n1:Int):=by omega
    have hk0:(0:Int)≤(j:Int):=by omega
    go_wp2_with fail
    refine kP.mono ?_
    rintro e w1 ⟨⟨v1,rfl,hq1⟩,hb1⟩
    clear kP d0 d1 d2
    have bw1:=Zb bw hb1
    obtain ⟨g1,e1,rfl⟩:=X5 hq1 hp0
    have hU:Qv w w1 (.slice (some ⟨g1,0,none⟩) (YL zs (x0,x1,x2)).length e1) (putAll (putAll [] xs) (ys.take (j+1))):=by
     rw [← HN.out]
     exact ⟨⟨_,_,rfl⟩,ZY hq1 bw.size,hpf,by omega⟩
    generalize (YL zs (x0,x1,x2)).length=m1 at *
    clear hq1 hpf
    go_wp2
    go_roundw
    case rel=>exact ⟨j+1,_,rfl,by omega,by go_num,hU,bw1⟩
    case measure=>simp [intOf];omega
   obtain rfl:j=n1:=by omega
   have e:ys.take j=ys:=List.take_of_length_le (by omega)
   rw [e] at hq hf hz
   try rw [e]
   obtain ⟨mm,hmm⟩:∃ mm,mm=(putAll (putAll [] xs) ys).length:=⟨_,rfl⟩
   rw [← hmm]
   have HQ:Hid (∀ e,e=.returned (.slice (some ⟨g,0,none⟩) mm c)→Ui e wr w.heap.size (Yg xs ys)):=fun e he=>⟨_,he,by rw [hmm];exact hq⟩
   clear hq hmm hz
   go_wp2
   go_ret
   exact ⟨HQ.out _ rfl,bw⟩


def Jy (e:Ending) (w:World) (B:Nat) (z:V4) (fs:List I3):Prop:=∃ (t:S4) (v:Value),e=.returned (.tuple #[t.val,v])∧ZP w B t z∧w.ownsRow B 90 3 v fs.length (Zr fs)
theorem ZI {w:World} {B e s n g t:Nat} {v:Value} {xs cs:List Value} (h:w.ownsRow B e s v n xs) (hB:Blk w g t cs) (he:e≠t):v.ownBlock=none∨v.ownBlock≠some g:=.inr (Z4 h hB he)
theorem TM {B e s n:Nat} {v:Value} {xs:List Value} {w w':World} (h:w.ownsRow B e s v n xs) (hb:Below w.heap.size w w'):w'.ownsRow B e s v n xs:=by
 refine h.kept (w':=w') (row:=none) ⟨hb.os,hb.tape,hb.output,hb.size,fun k hk _=>hb.block k hk⟩ ?_
 cases v.ownBlock with
 | none=>exact .inl rfl
 | some x=>exact .inr (by simp)
theorem Wq (rows:List (List I3)) (m:V4) (k:Nat):goM rows m (k:Int)=ZC m (Yq rows m k) k:=by unfold goM;rw [Int.toNat_natCast]
theorem Ji (m:V4) (x:I3) (k:Nat):(ZC m x k).2=0∨(ZC m x k).2=12∨(ZC m x k).2=13:=by
 unfold ZC
 repeat' split
 all_goals simp
theorem RH {w:World} {B g n c:Nat} {xs:List I3} (h:w.ownsRow B 90 3 (.slice (some ⟨g,0,none⟩) n c) n (Zr xs)) (hl:xs.length=n) (hf:∀ x ∈ xs,I3.fits x):ZK w (some ⟨g,0,none⟩) n c xs:=ZK.of_owns h hl hf rfl

theorem NB {w:World} {a9:Option Addr} {cap:Nat} {cs:Sl × Sl × Sl} {rows:List (List I3)} {s:S4} {m:V4} (hR:Z6 w a9 cs rows) (h:Yk w s m) (hp:Zn rows=true) (hs:Zk m=true) {k:Nat} (hk:k<3) (hd:Z1 rows m k=false) :
  Calls Tryz.prog 181 #[.agg #[.slice a9 3 cap],s.val,.int .i64 k] w fun e w'=>Jy e w' w.heap.size (goM rows m k).1 (X2 rows m k)∧Below w.heap.size w w':=by
 obtain ⟨i0,hi,hz0,hz1,hz2⟩:=info_parts VW
 have kP:=fun (W:World) (hR:Z6 W a9 cs rows) (h:Yk W s m)=>WJ (cap:=cap) rfl hR h hp hs hk hd
 have hsz:=R5 hp hs hk hd
 obtain ⟨fin,hfin⟩:∃ fin,fin=X2 rows m k:=⟨_,rfl⟩
 rw [← hfin,Wq]
 unfold X2 Yr at hfin
 rw [Wq,Int.toNat_natCast] at hfin
 have hf9:=Ji m (Yq rows m k) k
 generalize ZC m (Yq rows m k) k=zf at *
 obtain ⟨z,f⟩:=zf
 simp only at kP hsz hfin hf9 ⊢
 have fz:=(ZO hsz).1
 have kU:=fun (W:World) (hR:Z6 W a9 cs rows) (t:S4) (h:Yk W t z)=>SE a9 3 cap rows t z cs W rfl hR h hp hsz
 obtain ⟨own,hown⟩:∃ own:List I3,own=if f=0 then [] else [(f,(k:Int),m.1.getD k 0)]:=⟨_,rfl⟩
 rw [← hown] at hfin
 have HFin:Hid (fin=if Xh rows z then YL own (14,0,0) else own):=hfin
 have HOwn:Hid (own=if f=0 then [] else [(f,(k:Int),m.1.getD k 0)]):=hown
 clear hfin hown
 obtain ⟨b,off,rfl,hbl,hrow⟩:=id hR
 clear hbl hrow
 have hM:=h
 obtain ⟨⟨j0,_⟩,_⟩:=h
 obtain ⟨l0,_⟩:=ZT hs
 have hpc9:=Xn (Yi hs).1 (by decide) k
 obtain ⟨⟨a0,n0,c0⟩,⟨a1,n1,c1⟩,⟨a2,n2,c2⟩,⟨a3,n3,c3⟩⟩:=s
 simp only at j0
 obtain ⟨rfl,b0,o0,rfl⟩:=Zw j0 l0 (by decide)
 have r1:=Yz j0 (t:=k) hk
 have uA:S4.val ((some ⟨b0,o0,none⟩,3,c0),(a1,n1,c1),(a2,n2,c2),(a3,n3,c3))=.agg #[.slice (some ⟨b0,o0,none⟩) 3 c0,.slice a1 n1 c1,.slice a2 n2 c2,.slice a3 n3 c3]:=rfl
 rw [uA] at kP ⊢
 clear uA j0 l0 hp hs hd
 generalize m.1.getD k 0=pc at *
 have hk3:(k:Int)<3:=by omega
 have bw:Below w.heap.size w (((w.alloc (.cells #[.slice (some ⟨b,off,none⟩) 3 cap] 25)).alloc (.cells #[.slice (some ⟨b0,o0,none⟩) 3 c0,.slice a1 n1 c1,.slice a2 n2 c2,.slice a3 n3 c3] 74)).alloc (.cells #[.slice none 0 0,.slice none 0 0,.slice none 0 0,.slice none 0 0] 74)):=by go_grown
 have pP:Blk (((w.alloc (.cells #[.slice (some ⟨b,off,none⟩) 3 cap] 25)).alloc (.cells #[.slice (some ⟨b0,o0,none⟩) 3 c0,.slice a1 n1 c1,.slice a2 n2 c2,.slice a3 n3 c3] 74)).alloc (.cells #[.slice none 0 0,.slice none 0 0,.slice none 0 0,.slice none 0 0] 74)) w.heap.size 25 [.slice (some ⟨b,off,none⟩) 3 cap]:=Zq _ (Zq _ (Zo _ _ _ rfl))
 have pS:Blk (((w.alloc (.cells #[.slice (some ⟨b,off,none⟩) 3 cap] 25)).alloc (.cells #[.slice (some ⟨b0,o0,none⟩) 3 c0,.slice a1 n1 c1,.slice a2 n2 c2,.slice a3 n3 c3] 74)).alloc (.cells #[.slice none 0 0,.slice none 0 0,.slice none 0 0,.slice none 0 0] 74)) (w.heap.size+1) 74 [.slice (some ⟨b0,o0,none⟩) 3 c0,.slice a1 n1 c1,.slice a2 n2 c2,.slice a3 n3 c3]:=Zq _ (Zo _ _ _ (by simp))
 have pR:Blk (((w.alloc (.cells #[.slice (some ⟨b,off,none⟩) 3 cap] 25)).alloc (.cells #[.slice (some ⟨b0,o0,none⟩) 3 c0,.slice a1 n1 c1,.slice a2 n2 c2,.slice a3 n3 c3] 74)).alloc (.cells #[.slice none 0 0,.slice none 0 0,.slice none 0 0,.slice none 0 0] 74)) (w.heap.size+2) 74 [.slice none 0 0,.slice none 0 0,.slice none 0 0,.slice none 0 0]:=Zo _ _ _ (by simp)
 have hW1:w.heap.size+3≤(((w.alloc (.cells #[.slice (some ⟨b,off,none⟩) 3 cap] 25)).alloc (.cells #[.slice (some ⟨b0,o0,none⟩) 3 c0,.slice a1 n1 c1,.slice a2 n2 c2,.slice a3 n3 c3] 74)).alloc (.cells #[.slice none 0 0,.slice none 0 0,.slice none 0 0,.slice none 0 0] 74)).heap.size:=by simp
 go_enter Tryz.func181,Tryz.ntmps181
 go_wp2_with fail
 generalize (((w.alloc (.cells #[.slice (some ⟨b,off,none⟩) 3 cap] 25)).alloc (.cells #[.slice (some ⟨b0,o0,none⟩) 3 c0,.slice a1 n1 c1,.slice a2 n2 c2,.slice a3 n3 c3] 74)).alloc (.cells #[.slice none 0 0,.slice none 0 0,.slice none 0 0,.slice none 0 0] 74))=W1 at *
 have kPx:=kP W1 (hR.below bw) (hM.below bw)
 go_wp2_with (first | refine Zc rfl 25 _ rfl w.heap.size rfl pP _ Tryz.underlying25 rfl (by kernel_rfl) ?_ | refine Zc rfl 74 _ rfl (w.heap.size+1) rfl pS _ Tryz.underlying74 rfl (by kernel_rfl) ?_)
 refine kPx.mono ?_
 rintro e w2 ⟨⟨⟨⟨t0a,t0n,t0c⟩,⟨t1a,t1n,t1c⟩,⟨t2a,t2n,t2c⟩,⟨t3a,t3n,t3c⟩⟩,rfl,hO⟩,hb⟩
 replace hO:=hO.lowerB (B':=w.heap.size+3) hW1
 replace bw:=Zb bw hb
 replace pP:=pP.below hb
 replace pS:=pS.below hb
 replace pR:=pR.below hb
 have hsz2:w.heap.size+3≤w2.heap.size:=Nat.le_trans hW1 hb.size
 clear hb kPx kP hW1
 have ha:Below w2.heap.size w2 ((w2.alloc (.cells #[.slice t0a t0n t0c,.slice t1a t1n t1c,.slice t2a t2n t2c,.slice t3a t3n t3c] 74)).alloc (.cells #[] 90)):=by go_grown
 have pX:Blk ((w2.alloc (.cells #[.slice t0a t0n t0c,.slice t1a t1n t1c,.slice t2a t2n t2c,.slice t3a t3n t3c] 74)).alloc (.cells #[] 90)) w2.heap.size 74 [.slice t0a t0n t0c,.slice t1a t1n t1c,.slice t2a t2n t2c,.slice t3a t3n t3c]:=Zq _ (Zo _ _ _ rfl)
 have oO:((w2.alloc (.cells #[.slice t0a t0n t0c,.slice t1a t1n t1c,.slice t2a t2n t2c,.slice t3a t3n t3c] 74)).alloc (.cells #[] 90)).ownsRow w.heap.size 90 3 (.slice (some ⟨w2.heap.size+1,0,none⟩) 0 0) 0 []:=by
  have h9:=Yv (w2.alloc (.cells #[.slice t0a t0n t0c,.slice t1a t1n t1c,.slice t2a t2n t2c,.slice t3a t3n t3c] 74)) 90 3 w.heap.size (by simp;omega)
  simpa using h9
 replace bw:=Zb bw ha
 replace hO:=hO.below ha
 replace pP:=pP.below ha
 replace pS:=pS.below ha
 replace pR:=pR.below ha
 replace r1:=Za bw _ _ r1
 have uX:S4.val ((t0a,t0n,t0c),(t1a,t1n,t1c),(t2a,t2n,t2c),(t3a,t3n,t3c))=.agg #[.slice t0a t0n t0c,.slice t1a t1n t1c,.slice t2a t2n t2c,.slice t3a t3n t3c]:=rfl
 rw [uX]
 clear ha hsz
 by_cases hf:f=0
 focus
  subst hf
  have HO2:Hid (own=[]):=by rw [Hid,HOwn.out];rfl
  have hfit:∀ x ∈ ([]:List I3),I3.fits x:=by simp
  have kUx:=kU _ (hR.below bw) _ (hO.mem fz)
  rw [uX] at kUx
  clear HOwn hf9 pS r1 hM hR kU uX
  cases hst:Xh rows z
  focus
   rw [hst] at kUx
   have HF:Hid (fin=[]):=by rw [Hid,HFin.out,hst,HO2.out];rfl
   clear hst HFin HO2
   go_wp2_with (first | refine Zc rfl 25 _ rfl w.heap.size rfl pP _ Tryz.underlying25 rfl (by kernel_rfl) ?_ | refine Zc rfl 74 _ rfl w2.heap.size rfl pX _ Tryz.underlying74 rfl (by kernel_rfl) ?_)
   refine kUx.mono ?_
   rintro e u1 ⟨rfl,hb⟩
   replace bw:=Zb bw hb
   replace hO:=hO.below hb
   replace oO:=TM oO hb
   replace pP:=pP.below hb
   replace pR:=pR.below hb
   replace pX:=pX.below hb
   clear hb
   clear kUx
   have q3:u1.ownsRow w.heap.size 90 3 (.slice (some ⟨(w2.heap.size+1),0,none⟩) 0 0) fin.length (Zr fin):=by rw [HF.out];exact oO
   clear oO HF
  rotate_left
  focus
   rw [hst] at kUx
   have HF:Hid (fin=YL [] (14,0,0)):=by rw [Hid,HFin.out,hst,HO2.out];rfl
   clear hst HFin HO2
   go_wp2_with (first | refine Zc rfl 25 _ rfl w.heap.size rfl pP _ Tryz.underlying25 rfl (by kernel_rfl) ?_ | refine Zc rfl 74 _ rfl w2.heap.size rfl pX _ Tryz.underlying74 rfl (by kernel_rfl) ?_)
   refine kUx.mono ?_
   rintro e u1 ⟨rfl,hb⟩
   replace bw:=Zb bw hb
   replace hO:=hO.below hb
   replace oO:=TM oO hb
   replace pP:=pP.below hb
   replace pR:=pR.below hb
   replace pX:=pX.below hb
   clear hb
   clear kUx
   have kPut:=Uu (w2.heap.size+1) 0 0 0 [] (14,0,0) u1 (RH oO rfl hfit) (by decide)
   unfold I3.val at kPut
   simp only at kPut
   go_wp2_with fail
   refine kPut.mono ?_
   rintro e u3 ⟨⟨v3,rfl,q3⟩,hb⟩
   replace q3:=ZY (B':=w.heap.size) q3 bw.size
   rw [← HF.out] at q3
   replace bw:=Zb bw hb
   replace hO:=hO.below hb
   replace pP:=pP.below hb
   replace pR:=pR.below hb
   replace pX:=pX.below hb
   clear hb
   clear kPut oO HF
 rotate_left 2
 focus
  have hfn:(f != 0)=true:=by simp [hf]
  have HO2:Hid (own=[(f,(k:Int),pc)]):=by rw [Hid,HOwn.out,if_neg hf]
  have hfit:∀ x ∈ [(f,(k:Int),pc)],I3.fits x:=fun x hx=>by
   simp only [List.mem_singleton] at hx
   subst hx
   simp only [I3.fits]
   exact ⟨Yf (by omega) (by omega),Yf (by omega) (by omega),Yf (by omega) (by omega)⟩
  have cS0:((w2.alloc (.cells #[.slice t0a t0n t0c,.slice t1a t1n t1c,.slice t2a t2n t2c,.slice t3a t3n t3c] 74)).alloc (.cells #[] 90)).cell? ⟨w.heap.size+1,0,none⟩=some (.slice (some ⟨b0,o0,none⟩) 3 c0):=by simpa using pS.cell 0
  clear HOwn hf9 hM hf pS
  go_wp2_with (at_builtin;refine wpList_append_own _ rfl _ _ 29 rfl w.heap.size 90 i0 (.agg #[.int .i64 0,.int .i64 0,.int .i64 0]) 3 24 Tryz.underlying29 hi hz0 hz1 hz2 rfl (by decide) _ _ _ rfl (oO.alloc _) ⟨w2.heap.size+1+1,0,none⟩ 1 1 [.int .i64 f,.int .i64 (k:Int),.int .i64 pc] rfl rfl ?c1 (Vs _ _ _) ?c3 ?c4 ?c5 ?_)
  case c1=>simpa using WD ((w2.alloc (.cells #[.slice t0a t0n t0c,.slice t1a t1n t1c,.slice t2a t2n t2c,.slice t3a t3n t3c] 74)).alloc (.cells #[] 90)) (.int .i64 f) (.int .i64 (k:Int)) (.int .i64 pc) 90
  case c3=>unfold maxLen;omega
  case c4=>omega
  case c5=>simp;omega
  intro v9 U q9 g9 _
  have ha:Below ((w2.alloc (.cells #[.slice t0a t0n t0c,.slice t1a t1n t1c,.slice t2a t2n t2c,.slice t3a t3n t3c] 74)).alloc (.cells #[] 90)).heap.size ((w2.alloc (.cells #[.slice t0a t0n t0c,.slice t1a t1n t1c,.slice t2a t2n t2c,.slice t3a t3n t3c] 74)).alloc (.cells #[] 90)) (((w2.alloc (.cells #[.slice t0a t0n t0c,.slice t1a t1n t1c,.slice t2a t2n t2c,.slice t3a t3n t3c] 74)).alloc (.cells #[] 90)).alloc (.cells #[.int .i64 f,.int .i64 (k:Int),.int .i64 pc] 90)):=by go_grown
  have pE:Blk (((w2.alloc (.cells #[.slice t0a t0n t0c,.slice t1a t1n t1c,.slice t2a t2n t2c,.slice t3a t3n t3c] 74)).alloc (.cells #[] 90)).alloc (.cells #[.int .i64 f,.int .i64 (k:Int),.int .i64 pc] 90)) (w2.heap.size+1) 90 []:=Zq _ (Zo _ _ _ (by simp))
  have n0:(some (w2.heap.size+1):Option Nat)≠some w.heap.size:=by simp;omega
  have n1:(some (w2.heap.size+1):Option Nat)≠some (w.heap.size+2):=by simp;omega
  have n2:(some (w2.heap.size+1):Option Nat)≠some w2.heap.size:=by simp
  replace g9:(((w2.alloc (.cells #[.slice t0a t0n t0c,.slice t1a t1n t1c,.slice t2a t2n t2c,.slice t3a t3n t3c] 74)).alloc (.cells #[] 90)).alloc (.cells #[.int .i64 f,.int .i64 (k:Int),.int .i64 pc] 90)).grownBy U (some (w2.heap.size+1)):=g9
  replace pP:=(pP.below ha).kept g9 n0
  replace pR:=(pR.below ha).kept g9 n1
  replace pX:=(pX.below ha).kept g9 n2
  replace hO:=(hO.below ha).kept9 g9 pE (by decide)
  replace bw:=(Zb bw ha).grown g9 (Zb bw ha).size (fun j hj=>by cases hj;omega)
  obtain ⟨og,oc,rfl⟩:=X5 q9 (by omega)
  have oO2:U.ownsRow w.heap.size 90 3 (.slice (some ⟨og,0,none⟩) 1 oc) 1 (Zr [(f,(k:Int),pc)]):=q9
  clear oO q9 g9 ha pE n0 n1 n2 r1 cS0
  have oO:=oO2
  clear oO2
  have kUx:=kU _ (hR.below bw) _ (hO.mem fz)
  rw [uX] at kUx
  clear hR kU uX
  cases hst:Xh rows z
  focus
   rw [hst] at kUx
   have HF:Hid (fin=[(f,(k:Int),pc)]):=by rw [Hid,HFin.out,hst,HO2.out];rfl
   clear hst HFin HO2
   go_wp2_with (first | refine Zc rfl 25 _ rfl w.heap.size rfl pP _ Tryz.underlying25 rfl (by kernel_rfl) ?_ | refine Zc rfl 74 _ rfl w2.heap.size rfl pX _ Tryz.underlying74 rfl (by kernel_rfl) ?_)
   refine kUx.mono ?_
   rintro e u1 ⟨rfl,hb⟩
   replace bw:=Zb bw hb
   replace hO:=hO.below hb
   replace oO:=TM oO hb
   replace pP:=pP.below hb
   replace pR:=pR.below hb
   replace pX:=pX.below hb
   clear hb
   clear kUx
   have q3:u1.ownsRow w.heap.size 90 3 (.slice (some ⟨og,0,none⟩) 1 oc) fin.length (Zr fin):=by rw [HF.out];exact oO
   clear oO HF
  rotate_left
  focus
   rw [hst] at kUx
   have HF:Hid (fin=YL [(f,(k:Int),pc)] (14,0,0)):=by rw [Hid,HFin.out,hst,HO2.out];rfl
   clear hst HFin HO2
   go_wp2_with (first | refine Zc rfl 25 _ rfl w.heap.size rfl pP _ Tryz.underlying25 rfl (by kernel_rfl) ?_ | refine Zc rfl 74 _ rfl w2.heap.size rfl pX _ Tryz.underlying74 rfl (by kernel_rfl) ?_)
   refine kUx.mono ?_
   rintro e u1 ⟨rfl,hb⟩
   replace bw:=Zb bw hb
   replace hO:=hO.below hb
   replace oO:=TM oO hb
   replace pP:=pP.below hb
   replace pR:=pR.below hb
   replace pX:=pX.below hb
   clear hb
   clear kUx
   have kPut:=Uu og 0 1 oc [(f,(k:Int),pc)] (14,0,0) u1 (RH oO rfl hfit) (by decide)
   unfold I3.val at kPut
   simp only at kPut
   go_wp2_with fail
   refine kPut.mono ?_
   rintro e u3 ⟨⟨v3,rfl,q3⟩,hb⟩
   replace q3:=ZY (B':=w.heap.size) q3 bw.size
   rw [← HF.out] at q3
   replace bw:=Zb bw hb
   replace hO:=hO.below hb
   replace pP:=pP.below hb
   replace pR:=pR.below hb
   replace pX:=pX.below hb
   clear hb
   clear kPut oO HF
 all_goals
  go_wp2_with (first | refine Zc rfl 74 _ rfl w2.heap.size rfl pX _ Tryz.underlying74 rfl (by kernel_rfl) ?_ | refine Zd rfl 74 _ _ rfl (w.heap.size+2) [.slice t0a t0n t0c,.slice t1a t1n t1c,.slice t2a t2n t2c,.slice t3a t3n t3c] rfl rfl pR (by kernel_rfl) rfl rfl ?_)
  intro u2 pR2 g2
  have q2:=q3.kept g2 (ZI q3 pR (by decide))
  clear q3
  have hO2:=(hO.kept9 g2 pR (by decide)).lowerB (B':=w.heap.size) (by omega)
  have bw2:=bw.grown g2 bw.size (fun k e=>by cases e;omega)
  clear g2 hO bw
  go_wp2_with fail
  refine bodyPost_ret (ZF Tryz.results181 _ _ _ _ _ _ rfl pR2.out Tryz.underlying74 rfl (by kernel_rfl)) rfl ?_
  exact ⟨⟨((t0a,t0n,t0c),(t1a,t1n,t1c),(t2a,t2n,t2c),(t3a,t3n,t3c)),_,rfl,hO2,q2⟩,bw2⟩


def VU (rows:List (List I3)) (ks:List Int) (m:V4):Prop:=(ZE rows Zl [] ks).2.2=0∧(ZE rows Zl [] ks).1=m
theorem Sj (rows:List (List I3)) (k:Int):∀ (ks:List Int) (m:V4) (fs:List I3),(ZE rows m fs ks).2.2=0→ZE rows m fs (ks++[k])=ZE rows (ZE rows m fs ks).1 (ZE rows m fs ks).2.1 [k]
 | [],m,fs,_=>rfl
 | j::ks,m,fs,h=>by
  by_cases hz:Zv rows m j=0
  ·have e1:∀ l,ZE rows m fs (j::l)=ZE rows (goM rows m j).1 (fs++Yr rows m j) l:=fun l=>by
    show (if Zv rows m j=0 then _ else _)=_
    rw [if_pos hz]
   rw [e1] at h
   rw [List.cons_append,e1,e1]
   exact Sj rows k ks _ _ h
  have e1:ZE rows m fs (j::ks)=(m,fs,Zv rows m j):=by
   show (if Zv rows m j=0 then _ else _)=_
   rw [if_neg hz]
  rw [e1] at h
  exact absurd h hz
end Go.Proofs.YtmhlokahmblboaaGreatDoor
