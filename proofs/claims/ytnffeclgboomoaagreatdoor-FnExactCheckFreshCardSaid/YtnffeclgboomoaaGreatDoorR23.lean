/-
  Joined: StepQ, StepPl, Take, VmDraw, BugPl, MrgA.
-/
import Derived.Laws.RangeString
import Derived.Laws.RangeAny
import Derived.Laws.Bits
import Derived.Lib.FieldsP
import Derived.Test.YtnffeclgboomoaaGreatDoorR19
import Derived.Test.YtnffeclgboomoaaGreatDoorR20
import Derived.Test.YtnffeclgboomoaaGreatDoorR21

namespace Go.Proofs.YtnffeclgboomoaaGreatDoor
set_option maxRecDepth 100000
set_option maxHeartbeats 16000000
open Go.RowKit
set_option linter.unusedSimpArgs false
set_option linter.unusedVariables false

theorem QO {x:I3} (h:okI x=true) :
  (∃ a q:Nat,x=(1,(a:Int),(q:Int))∧a<2∧q<4)∨(∃ q a:Nat,x=(2,(q:Int),(a:Int))∧q<4∧a<2)∨(∃ (a:Nat) (z:Int),x=(3,(a:Int),z)∧a<2)∨(∃ (a:Nat) (z:Int),x=(4,(a:Int),z)∧a<2∧0≤z∧z≤9) ∨
  (∃ (a:Nat) (z:Int),x=(5,(a:Int),z)∧a<2)∨(∃ (a:Nat) (z:Int),x=(6,(a:Int),z)∧a<2)∨(∃ (a:Nat) (z:Int),x=(7,(a:Int),z)∧a<2∧1≤z∧z≤6)∨(∃ (a:Nat) (z:Int),x=(8,(a:Int),z)∧a<2):=by
 obtain ⟨o,a,b⟩:=x
 unfold okI at h
 simp only at h
 rcases VX (o,a,b) with e | e | e | e | e | e | e | e | e<;>simp only at e
 ·subst e
  simp [ZC] at h
  exact .inl ⟨a.toNat,b.toNat,by rw [show ((a.toNat:Nat):Int)=a by omega,show ((b.toNat:Nat):Int)=b by omega],by omega,by omega⟩
 ·subst e
  simp [ZC] at h
  exact .inr (.inl ⟨a.toNat,b.toNat,by rw [show ((a.toNat:Nat):Int)=a by omega,show ((b.toNat:Nat):Int)=b by omega],by omega,by omega⟩)
 ·subst e
  simp [ZC] at h
  exact .inr (.inr (.inl ⟨a.toNat,b,by rw [show ((a.toNat:Nat):Int)=a by omega],by omega⟩))
 ·subst e
  simp [ZC] at h
  exact .inr (.inr (.inr (.inl ⟨a.toNat,b,by rw [show ((a.toNat:Nat):Int)=a by omega],by omega,by omega,by omega⟩)))
 ·subst e
  simp [ZC] at h
  exact .inr (.inr (.inr (.inr (.inl ⟨a.toNat,b,by rw [show ((a.toNat:Nat):Int)=a by omega],by omega⟩))))
 ·subst e
  simp [ZC] at h
  exact .inr (.inr (.inr (.inr (.inr (.inl ⟨a.toNat,b,by rw [show ((a.toNat:Nat):Int)=a by omega],by omega⟩)))))
 ·subst e
  simp [ZC] at h
  exact .inr (.inr (.inr (.inr (.inr (.inr (.inl ⟨a.toNat,b,by rw [show ((a.toNat:Nat):Int)=a by omega],by omega,by omega,by omega⟩))))))
 ·subst e
  simp [ZC] at h
  exact .inr (.inr (.inr (.inr (.inr (.inr (.inr ⟨a.toNat,b,by rw [show ((a.toNat:Nat):Int)=a by omega],by omega⟩))))))
 obtain ⟨e1,e2,e3,e4,e5,e6,e7,e8⟩:=e
 simp [e1,e2,e3,e4,e5,e6,e7,e8] at h
section
variable (m : V4) (k a q : Nat) (z : Int)
theorem Lk:ZJ m (1,(a:Int),(q:Int)) k=((m.1.set k (m.1.getD k 0+1),m.2.1,m.2.2.1,m.2.2.2.set (k*2+a) (m.2.1.getD q 0)),0):=rfl
theorem Ll:ZJ m (2,(q:Int),(a:Int)) k=((m.1.set k (m.1.getD k 0+1),m.2.1.set q (m.2.2.2.getD (k*2+a) 0),m.2.2.1,m.2.2.2),0):=rfl
theorem Lm:ZJ m (3,(a:Int),z) k=((m.1.set k (m.1.getD k 0+1),m.2.1,m.2.2.1,m.2.2.2.set (k*2+a) z),0):=rfl
theorem Ln:ZJ m (4,(a:Int),z) k=((m.1.set k (m.1.getD k 0+1),m.2.1,m.2.2.1,m.2.2.2.set (k*2+a) ((m.2.2.2.getD (k*2+a) 0+z) % 10)),0):=rfl
theorem Lo:ZJ m (5,(a:Int),z) k=((m.1.set k (m.1.getD k 0+1),m.2.1,m.2.2.1.set a ((k:Int)+1),m.2.2.2),0):=rfl
theorem Lp:ZJ m (6,(a:Int),z) k=if m.2.2.1.getD a 0=(k:Int)+1 then ((m.1.set k (m.1.getD k 0+1),m.2.1,m.2.2.1.set a 0,m.2.2.2),0) else ((m.1.set k (m.1.getD k 0+1),m.2),13):=rfl
theorem Lq:ZJ m (7,(a:Int),z) k=if m.2.2.2.getD (k*2+a) 0=0 then ((m.1.set k (m.1.getD k 0+1),m.2),0) else ((m.1.set k z,m.2),0):=rfl
theorem Lr:ZJ m (8,(a:Int),z) k=if m.2.2.2.getD (k*2+a) 0=z then ((m.1.set k (m.1.getD k 0+1),m.2),0) else ((m.1.set k (m.1.getD k 0+1),m.2),12):=rfl
end

theorem H0 {w:World} {g:Nat} {cs:Sl × Sl × Sl} {rows:List (List I3)} {m:V4} (h:Yz w g cs rows m) (hp:Zq rows=true) (hs:Zh m=true) {k:Nat} (hk:k<3) (hd:Yt rows m k=false) :
  Calls Tryz.prog 212 #[.pointer (some ⟨g,0,none⟩),.int .i64 k] w fun e w'=>e=.returned (.int .i64 (ZJ m (Xk rows m k) k).2)∧Blk w' g 122 (Zk cs.1.val cs.2.1.val cs.2.2.val (ZJ m (Xk rows m k) k).1)∧w.grownBy w' (some g):=by
 obtain ⟨p,ep,hlt,hi,hok⟩:=VJ hp hs hk hd
 have hl6:=(Wv hp hk).1
 have e0:=h.code hk
 have e1:=h.pc hk
 rw [ep] at e1
 obtain ⟨b,off,ea,hpn,q0,q1,q2⟩:=Pn (h.2 k hk) hlt
 rw [← hi] at q0 q1 q2
 rw [ea] at e0
 have hL:=Yn.of hs
 have hr9:=(Ys hs).2.2.2
 generalize Xk rows m k=x at *
 rcases QO hok with ⟨a,q,rfl,ha,hq⟩ | ⟨q,a,rfl,hq,ha⟩ | ⟨a,z,rfl,ha⟩ | ⟨a,z,rfl,ha,hz⟩ | ⟨a,z,rfl,ha⟩ | ⟨a,z,rfl,ha⟩ | ⟨a,z,rfl,ha,hz⟩ | ⟨a,z,rfl,ha⟩<;>simp only at q0 q1 q2
 ·rw [Lk,ep]
  exact KN g k p b off _ _ a q _ cs m w hk hpn (by omega) hL h.1 (.inr trivial) e0 e1 q0 q1 q2 ha hq rfl
 ·rw [Ll,ep]
  exact ME g k p b off _ _ a q _ cs m w hk hpn (by omega) hL h.1 (.inr trivial) e0 e1 q0 q1 q2 ha hq rfl
 ·rw [Lm,ep]
  exact JS g k p b off _ _ a z cs m w hk hpn (by omega) hL h.1 (.inr trivial) e0 e1 q0 q1 q2 ha
 ·rw [Ln,ep]
  exact JR g k p b off _ _ a z _ _ cs m w hk hpn (by omega) hL h.1 (.inr trivial) e0 e1 q0 q1 q2 ha rfl hz (Vp hr9 (by decide) _) rfl
 ·rw [Lo,ep]
  exact KO g k p b off _ _ a z cs m w hk hpn (by omega) hL h.1 (.inr trivial) e0 e1 q0 q1 q2 ha
 ·rw [Lp,ep]
  by_cases hv:m.2.2.1.getD a 0=(k:Int)+1
  ·rw [if_pos hv]
   exact SH g k p b off _ _ a z cs m w hk hpn (by omega) hL h.1 (.inr trivial) e0 e1 q0 q1 q2 ha hv
  rw [if_neg hv]
  exact RL g k p b off _ _ a z cs m w hk hpn (by omega) hL h.1 (.inr trivial) e0 e1 q0 q1 q2 ha hv
 ·rw [Lq,ep]
  by_cases hv:m.2.2.2.getD (k*2+a) 0=0
  ·rw [if_pos hv]
   exact KP g k p b off _ _ a z cs m w hk hpn (by omega) hL h.1 (.inr trivial) e0 e1 q0 q1 q2 ha hv
  rw [if_neg hv]
  exact KL g k p b off _ _ a z _ cs m w hk hpn (by omega) hL h.1 (.inr trivial) e0 e1 q0 q1 q2 ha rfl hv
 rw [Lr,ep]
 by_cases hv:m.2.2.2.getD (k*2+a) 0=z
 ·rw [if_pos hv]
  exact SG g k p b off _ _ a z cs m w hk hpn (by omega) hL h.1 (.inr trivial) e0 e1 q0 q1 q2 ha hv
 rw [if_neg hv]
 exact RK g k p b off _ _ a z _ cs m w hk hpn (by omega) hL h.1 (.inr trivial) e0 e1 q0 q1 q2 ha rfl hv

theorem Rk {w:World} {a9:Option Addr} {len cap:Nat} {cs:Sl × Sl × Sl} {rows:List (List I3)} {s:S4} {m:V4} (hl:len=3) (hR:Yd w a9 cs rows) (h:Yx w s m) (hp:Zq rows=true) (hs:Zh m=true) {k:Nat} (hk:k<3) (hd:Yt rows m k=false) :
  Calls Tryz.prog 171 #[.agg #[.slice a9 len cap],s.val,.int .i64 k] w fun e w'=>Yo e w' w.heap.size (ZJ m (Xk rows m k) k).1 (ZJ m (Xk rows m k) k).2∧Below w.heap.size w w':=by
 obtain ⟨p,ep,hlt,hi,hok⟩:=VJ hp hs hk hd
 have hl6:=(Wv hp hk).1
 obtain ⟨b,off,rfl,_,hrow⟩:=hR
 obtain ⟨e0,hI⟩:=hrow k hk
 have hM:=h
 obtain ⟨⟨j0,_⟩,⟨j1,_⟩,⟨j2,_⟩,⟨j3,_⟩⟩:=h
 obtain ⟨l0,l1,l2,l3,_⟩:=ZQ hs
 obtain ⟨⟨a0,n0,c0⟩,⟨a1,n1,c1⟩,⟨a2,n2,c2⟩,⟨a3,n3,c3⟩⟩:=s
 simp only at j0 j1 j2 j3
 obtain ⟨rfl,b0,o0,rfl⟩:=Zw j0 l0 (by decide)
 obtain ⟨rfl,b1,o1,rfl⟩:=Zw j1 l1 (by decide)
 obtain ⟨rfl,b2,o2,rfl⟩:=Zw j2 l2 (by decide)
 obtain ⟨rfl,b3,o3,rfl⟩:=Zw j3 l3 (by decide)
 have e1:=Yv j0 (t:=k) hk
 rw [ep] at e1
 obtain ⟨cb,co,ea,hpn,q0,q1,q2⟩:=Pn hI hlt
 rw [← hi] at q0 q1 q2
 rw [ea] at e0
 have hr9:=(Ys hs).2.2.2
 have hriA:∀ a:Nat,(k:Int)*2+(a:Int)=((k*2+a:Nat):Int):=fun a=>by omega
 have hr6A:∀ a:Nat,a<2→k*2+a<6:=fun a ha=>by omega
 generalize Xk rows m k=x at *
 rcases QO hok with ⟨a,q,rfl,ha,hq⟩ | ⟨q,a,rfl,hq,ha⟩ | ⟨a,z,rfl,ha⟩ | ⟨a,z,rfl,ha,hz⟩ | ⟨a,z,rfl,ha⟩ | ⟨a,z,rfl,ha⟩ | ⟨a,z,rfl,ha,hz⟩ | ⟨a,z,rfl,ha⟩<;>simp only at q0 q1 q2
 ·rw [Lk,ep]
  exact Mp b off len cap b0 o0 c0 b1 o1 c1 b2 o2 c2 b3 o3 c3 k cb co _ _ p a q (k*2+a) _ m w hk hl hpn (by omega) hs hM ep e0 e1 q0 q1 q2 (hr6A a ha) (hriA a) hq rfl
 ·rw [Ll,ep]
  exact Ni b off len cap b0 o0 c0 b1 o1 c1 b2 o2 c2 b3 o3 c3 k cb co _ _ p a q (k*2+a) _ m w hk hl hpn (by omega) hs hM ep e0 e1 q0 q1 q2 (hr6A a ha) (hriA a) hq rfl
 ·rw [Lm,ep]
  exact Ki b off len cap b0 o0 c0 b1 o1 c1 b2 o2 c2 b3 o3 c3 k cb co _ _ p a (k*2+a) z m w hk hl hpn (by omega) hs hM ep e0 e1 q0 q1 q2 (hr6A a ha) (hriA a)
 ·rw [Ln,ep]
  exact Kh b off len cap b0 o0 c0 b1 o1 c1 b2 o2 c2 b3 o3 c3 k cb co _ _ p a (k*2+a) z _ _ m w hk hl hpn (by omega) hs hM ep e0 e1 q0 q1 q2 (hr6A a ha) (hriA a) rfl hz (Vp hr9 (by decide) _) rfl
 ·rw [Lo,ep]
  exact Mq b off len cap b0 o0 c0 b1 o1 c1 b2 o2 c2 b3 o3 c3 k cb co _ _ p a z m w hk hl hpn (by omega) hs hM ep e0 e1 q0 q1 q2 ha
 ·rw [Lp,ep]
  by_cases hv:m.2.2.1.getD a 0=(k:Int)+1
  ·rw [if_pos hv]
   exact TR b off len cap b0 o0 c0 b1 o1 c1 b2 o2 c2 b3 o3 c3 k cb co _ _ p a z m w hk hl hpn (by omega) hs hM ep e0 e1 q0 q1 q2 ha hv
  rw [if_neg hv]
  exact SC b off len cap b0 o0 c0 b1 o1 c1 b2 o2 c2 b3 o3 c3 k cb co _ _ p a z _ m w hk hl hpn (by omega) hs hM ep e0 e1 q0 q1 q2 ha rfl hv
 ·rw [Lq,ep]
  by_cases hv:m.2.2.2.getD (k*2+a) 0=0
  ·rw [if_pos hv]
   exact Mr b off len cap b0 o0 c0 b1 o1 c1 b2 o2 c2 b3 o3 c3 k cb co _ _ p a (k*2+a) z m w hk hl hpn (by omega) hs hM ep e0 e1 q0 q1 q2 (hr6A a ha) (hriA a) hv
  rw [if_neg hv]
  exact Mo b off len cap b0 o0 c0 b1 o1 c1 b2 o2 c2 b3 o3 c3 k cb co _ _ p a (k*2+a) z _ m w hk hl hpn (by omega) hs hM ep e0 e1 q0 q1 q2 (hr6A a ha) (hriA a) rfl hv
 rw [Lr,ep]
 by_cases hv:m.2.2.2.getD (k*2+a) 0=z
 ·rw [if_pos hv]
  exact TQ b off len cap b0 o0 c0 b1 o1 c1 b2 o2 c2 b3 o3 c3 k cb co _ _ p a (k*2+a) z m w hk hl hpn (by omega) hs hM ep e0 e1 q0 q1 q2 (hr6A a ha) (hriA a) hv
 rw [if_neg hv]
 exact SB b off len cap b0 o0 c0 b1 o1 c1 b2 o2 c2 b3 o3 c3 k cb co _ _ p a (k*2+a) z _ m w hk hl hpn (by omega) hs hM ep e0 e1 q0 q1 q2 (hr6A a ha) (hriA a) rfl hv




theorem Xy {zs:List Int} {n hi v:Int} (h:Xa zs n hi=true) (k:Nat) (h0:0≤v) (h1:v≤hi):Xa (zs.set k v) n hi=true:=by
 obtain ⟨hl,ha⟩:=YE h
 unfold Xa
 simp only [Bool.and_eq_true,List.all_eq_true,decide_eq_true_eq,List.length_set]
 exact ⟨fun z hz=>by rcases List.mem_or_eq_of_mem_set hz with q | q;exact ha z q;subst q;exact ⟨h0,h1⟩,hl⟩
theorem RI {rows:List (List I3)} {m:V4} (hp:Zq rows=true) (hs:Zh m=true) {k:Nat} (hk:k<3) (hd:Yt rows m k=false):Zh (ZJ m (Xk rows m k) k).1=true:=by
 obtain ⟨p,ep,hlt,hi,hok⟩:=VJ hp hs hk hd
 have hl6:=(Wv hp hk).1
 obtain ⟨b0,b1,b2,b3⟩:=Ys hs
 have hs':=hs
 unfold Zh at hs'
 simp only [Bool.and_eq_true] at hs'
 obtain ⟨s0,s1,s2,s3⟩:=hs'
 have hpc:Xa (m.1.set k (m.1.getD k 0+1)) 3 6=true:=Xy s0 k (by omega) (by omega)
 have g1:=fun j=>Vp b1 (by decide) j
 have g3:=fun j=>Vp b3 (by decide) j
 generalize Xk rows m k=x at *
 obtain ⟨o,y,v⟩:=x
 unfold okI at hok
 simp only at hok
 unfold Zh
 rcases VX (o,y,v) with e | e | e | e | e | e | e | e | e<;>simp only at e
 ·subst e
  simp [ZC] at hok
  simp only [ZJ,if_true,Bool.and_eq_true]
  exact ⟨hpc,s1,s2,Xy s3 _ (g1 _).1 (g1 _).2⟩
 ·subst e
  simp [ZC] at hok
  simp [ZJ]
  exact ⟨hpc,Xy s1 _ (g3 _).1 (g3 _).2,s2,s3⟩
 ·subst e
  simp [ZC] at hok
  simp [ZJ]
  exact ⟨hpc,s1,s2,Xy s3 _ (by omega) (by omega)⟩
 ·subst e
  simp [ZC] at hok
  simp [ZJ]
  exact ⟨hpc,s1,s2,Xy s3 _ (by omega) (by omega)⟩
 ·subst e
  simp [ZC] at hok
  simp [ZJ]
  exact ⟨hpc,s1,Xy s2 _ (by omega) (by omega),s3⟩
 ·subst e
  simp [ZC] at hok
  simp [ZJ]
  split
  ·exact ⟨hpc,s1,Xy s2 _ (by omega) (by omega),s3⟩
  exact ⟨hpc,s1,s2,s3⟩
 ·subst e
  simp [ZC] at hok
  simp [ZJ]
  split
  ·exact ⟨hpc,s1,s2,s3⟩
  exact ⟨Xy s0 _ (by omega) (by omega),s1,s2,s3⟩
 ·subst e
  simp [ZC] at hok
  simp [ZJ]
  split<;>exact ⟨hpc,s1,s2,s3⟩
 obtain ⟨e1,e2,e3,e4,e5,e6,e7,e8⟩:=e
 simp [e1,e2,e3,e4,e5,e6,e7,e8] at hok
theorem LB {rows:List (List I3)} {m:V4} {k:Nat} (h:Vb rows m k=true):Yt rows m k=false∧RZ rows m k=false:=by
 unfold Vb at h
 unfold RZ
 simp at h
 simp [h]
theorem YT {z:V4} (h:Zh z=true):V4.fits z∧z.1.length≤1048576∧z.2.1.length≤1048576∧z.2.2.1.length≤1048576∧z.2.2.2.length≤1048576:=by
 obtain ⟨l0,l1,l2,l3,_⟩:=ZQ h
 obtain ⟨b0,b1,b2,b3⟩:=Ys h
 exact ⟨⟨fun x hx=>Z9 (by have:=b0 x hx;omega) (by have:=b0 x hx;omega),fun x hx=>Z9 (by have:=b1 x hx;omega) (by have:=b1 x hx;omega),fun x hx=>Z9 (by have:=b2 x hx;omega) (by have:=b2 x hx;omega),fun x hx=>Z9 (by have:=b3 x hx;omega) (by have:=b3 x hx;omega)⟩,by omega,by omega,by omega,by omega⟩


theorem PY {l:List Int} {k i:Nat} {v:Int} (h:i≠k):(l.set k v).getD i 0=l.getD i 0:=by
 simp [List.getD,List.getElem?_set_ne (Ne.symm h)]
theorem NM (m:V4) (x:I3) {k i:Nat} (h:i≠k):(ZJ m x k).1.1.getD i 0=m.1.getD i 0:=by
 unfold ZJ
 repeat' split
 all_goals exact PY h

theorem Tc {n:Nat}:∀ (xs:List I3) (j i:Nat),Yr n j xs=true→i<xs.length→VB (xs.getD i (0,0,0)) ((j:Int)+(i:Int)) (n:Int)=true
 | [],_,_,_,h=>by simp at h
 | x::xs,j,i,h,hi=>by
  have h':=h
  simp only [Yr,Bool.and_eq_true] at h'
  match i,hi with
  | 0,_ =>
   have:=h'.1.2
   simpa using this
  | i+1,hi =>
   have:=Tc xs (j+1) i h'.2 (by simpa using hi)
   rw [List.getD_cons_succ]
   have e:((j+1:Nat):Int)+(i:Int)=(j:Int)+((i+1:Nat):Int):=by omega
   rw [e] at this
   exact this
theorem LL {rows:List (List I3)} {m:V4} (hp:Zq rows=true) (hs:Zh m=true) {k:Nat} (hk:k<3) (hd:Yt rows m k=false) (h7:(Xk rows m k).1=7):m.1.getD k 0<(Xk rows m k).2.2:=by
 obtain ⟨p,ep,hlt,hi,hok⟩:=VJ hp hs hk hd
 have hrow:Ye (Xq rows k)=true:=by
  unfold Zq at hp
  simp only [Bool.and_eq_true,decide_eq_true_eq,List.all_eq_true] at hp
  refine hp.2 _ ?_
  have hk':k<rows.length:=by have:=hp.1;omega
  unfold Xq
  rw [List.getD,List.getElem?_eq_getElem hk',Option.getD_some]
  exact List.getElem_mem hk'
 unfold Ye at hrow
 simp only [Bool.and_eq_true] at hrow
 have hl:=Tc _ 0 p hrow.2 hlt
 rw [← hi] at hl
 unfold VB at hl
 rw [if_pos h7,ZC] at hl
 omega
theorem Sb {l:List Int} {k:Nat} {v:Int} (h:k<l.length):(l.set k v).getD k 0=v:=by
 simp [List.getD,List.getElem?_set_self h]
theorem KJ {rows:List (List I3)} {m:V4} (hp:Zq rows=true) (hs:Zh m=true) {k:Nat} (hk:k<3) (hd:Yt rows m k=false):m.1.getD k 0<(ZJ m (Xk rows m k) k).1.1.getD k 0:=by
 have hl:=LL hp hs hk hd
 have hk':k<m.1.length:=by have:=(ZQ hs).1;omega
 generalize Xk rows m k=x at hl
 have e1:=Sb (l:=m.1) (v:=m.1.getD k 0+1) hk'
 unfold ZJ
 repeat' split
 all_goals first
  | (simp only [e1];omega)
  | (have:=hl (by assumption);simp only [Sb hk'];omega)

theorem Nm {rows:List (List I3)} {m:V4} {k:Nat}:∀ n,((k:Int) ∈ Zv rows m n)↔k<n∧Vb rows m k=true
 | 0=>by simp [Zv]
 | n+1=>by
  have ih:=Nm (rows:=rows) (m:=m) (k:=k) n
  unfold Zv
  split
  ·rename_i h
   simp only [List.mem_append,List.mem_singleton,ih]
   constructor
   ·rintro (⟨h1,h2⟩ | h1)
    ·exact ⟨by omega,h2⟩
    obtain rfl:k=n:=by omega
    exact ⟨by omega,h⟩
   rintro ⟨h1,h2⟩
   by_cases e:k=n
   ·exact .inr (by omega)
   exact .inl ⟨by omega,h2⟩
  rename_i h
  rw [ih]
  constructor
  ·rintro ⟨h1,h2⟩
   exact ⟨by omega,h2⟩
  rintro ⟨h1,h2⟩
  refine ⟨?_,h2⟩
  by_cases e:k=n
  ·subst e
   exact absurd h2 h
  omega
theorem J7 {rows:List (List I3)} {m:V4} {i:Nat} (hi:i<(Zv rows m 3).length):∃ k:Nat,(Zv rows m 3).getD i 0=k∧k<3∧Vb rows m k=true:=by
 have hm:(Zv rows m 3)[i] ∈ Zv rows m 3:=List.getElem_mem hi
 have hall:∀ n,∀ z ∈ Zv rows m n,∃ k:Nat,z=k:=by
  intro n
  induction n with
  | zero=>intro z hz;simp [Zv] at hz
  | succ n ih =>
   intro z hz
   unfold Zv at hz
   split at hz
   ·rcases List.mem_append.1 hz with h | h
    ·exact ih z h
    exact ⟨n,by simpa using h⟩
   exact ih z hz
 obtain ⟨k,hk⟩:=hall 3 _ hm
 rw [hk] at hm
 obtain ⟨h1,h2⟩:=(Nm 3).1 hm
 refine ⟨k,?_,h1,h2⟩
 rw [List.getD,List.getElem?_eq_getElem hi,Option.getD_some,hk]


def bt (s:ByteArray) (k:Nat):Nat:=if h:k<s.size then (s[k]'h).toNat else 0
def val (s:ByteArray) (p:Nat):Nat→Nat
 | 0=>0
 | 1=>bt s p % 128
 | 2=>bt s p % 128+bt s (p+1) % 128*128
 | 3=>bt s p % 128+bt s (p+1) % 128*128+bt s (p+2) % 128*16384
 | 4=>bt s p % 128+bt s (p+1) % 128*128+bt s (p+2) % 128*16384+bt s (p+3) % 128*2097152
 | _=>bt s p % 128+bt s (p+1) % 128*128+bt s (p+2) % 128*16384+bt s (p+3) % 128*2097152+bt s (p+4) % 128*268435456

def hv (s:ByteArray) (p k:Nat):Nat→Nat
 | 0=>0
 | j+1=>hv s p k j*128+bt s (p+k - 1 - j) % 128


theorem ZY.lowerB {B B':Nat} {w:World} {s:S4} {m:V4} (h:ZY w B s m) (hB:B'≤B):ZY w B' s m:=⟨⟨Xm h.1.1 hB,Xm h.1.2.1 hB,Xm h.1.2.2.1 hB,Xm h.1.2.2.2 hB⟩,h.2⟩
theorem ZW:Zh ZF=true:=by decide
theorem Xu {P:Program} {ops:Array Oper} {o:Oper} {a:Act} {w:World} {K:Act→World→Prop} {Q:Exit→Act→World→Prop} {E:Prop} (hgd:o.guard=none) (ty:TypeId) (x y:Operand) (ho:o.op=.store ty x y) (g:Nat) (vs:List Value) (hx:a.eval x=.pointer (some ⟨g,0,none⟩)) (hy:a.eval y=.agg vs.toArray) {t:Nat} {cs:List Value} (hB:Blk w g t cs)
  (hi:(P.info? ty).map (·.size)=some vs.length) (hl:cs.length=vs.length) (h1:vs.all (·.oneCell')=true)
  (h:∀ w',Hid (Blk w' g t vs)→w.grownBy w' (some g)→K (a.put o.dst undef) w'):if Region.wanted o (yielded ops a.tmps)=true then Oper.wp P o a w K Q else E:=by
 have hw:Region.wanted o (yielded ops a.tmps)=true:=by simp [Region.wanted,hgd]
 rw [if_pos hw]
 exact wp_store_row ty x y ho g vs.toArray hx hy t cs.toArray hB (by simpa using hi) (by simpa using hl) (by simpa using h1) (h _ (Us vs hB) (Wo _ _ _))


def ltB (a b:I3):Bool:=decide (a.1<b.1∨(a.1=b.1∧(a.2.1<b.2.1∨(a.2.1=b.2.1∧a.2.2<b.2.2))))
theorem SR {a b:I3}:ltB a b=true↔a.1<b.1∨(a.1=b.1∧(a.2.1<b.2.1∨(a.2.1=b.2.1∧a.2.2<b.2.2))):=by simp [ltB]
theorem Vs (a:I3):ltB a a=false:=by
 cases h:ltB a a
 ·rfl
 rw [SR] at h;omega
theorem Vf {a b c:I3} (h:ltB a b=true) (k:ltB b c=true):ltB a c=true:=by
 rw [SR] at *;omega
theorem QJ {a b:I3} (h:ltB a b=true):ltB b a=false:=by
 cases k:ltB b a
 ·rfl
 rw [SR] at h k;omega
theorem Wx {a b:I3} (h:ltB a b=false) (k:ltB b a=false):a=b:=by
 obtain ⟨a0,a1,a2⟩:=a
 obtain ⟨b0,b1,b2⟩:=b
 have h':¬ ltB (a0,a1,a2) (b0,b1,b2)=true:=by simp [h]
 have k':¬ ltB (b0,b1,b2) (a0,a1,a2)=true:=by simp [k]
 rw [SR] at h' k'
 simp only at h' k'
 have e0:a0=b0:=by omega
 have e1:a1=b1:=by omega
 have e2:a2=b2:=by omega
 rw [e0,e1,e2]

def YL (l:List I3):Prop:=l.Pairwise fun a b=>ltB a b=true
theorem YL.same:∀ {l k:List I3},YL l→YL k→(∀ x,x ∈ l↔x ∈ k)→l=k
 | [],[],_,_,_=>rfl
 | [],b::k,_,_,h=>by have:=(h b).2 (by simp);simp at this
 | a::l,[],_,_,h=>by have:=(h a).1 (by simp);simp at this
 | a::l,b::k,hl,hk,h=>by
  have hl':=List.pairwise_cons.1 hl
  have hk':=List.pairwise_cons.1 hk
  have e:a=b:=by
   rcases List.mem_cons.1 ((h a).1 (by simp)) with e | e
   ·exact e
   rcases List.mem_cons.1 ((h b).2 (by simp)) with e' | e'
   ·exact e'.symm
   have h1:=hk'.1 a e
   have h2:=hl'.1 b e'
   rw [QJ h1] at h2
   cases h2
  subst e
  rw [YL.same hl'.2 hk'.2 (fun x=>?_)]
  constructor
  ·intro hx
   rcases List.mem_cons.1 ((h x).1 (List.mem_cons_of_mem _ hx)) with e | e
   ·subst e
    have:=hl'.1 x hx
    rw [Vs] at this
    cases this
   exact e
  intro hx
  rcases List.mem_cons.1 ((h x).2 (List.mem_cons_of_mem _ hx)) with e | e
  ·subst e
   have:=hk'.1 x hx
   rw [Vs] at this
   cases this
  exact e

def YB:List I3→I3→List I3
 | [],b=>[b]
 | x::xs,b=>if ltB x b then x::YB xs b else if x=b then x::xs else b::x::xs
theorem Wf {x b:I3}:∀ {l:List I3},x ∈ YB l b↔x ∈ l∨x=b
 | []=>by simp [YB]
 | y::l=>by
  have ih:=Wf (x:=x) (b:=b) (l:=l)
  unfold YB
  split
  ·simp [ih,or_assoc]
  split
  ·rename_i h
   subst h
   simp
   intro e
   exact .inl e
  simp
  constructor
  ·rintro (h | h | h)
   ·exact .inr h
   ·exact .inl (.inl h)
   exact .inl (.inr h)
  rintro ((h | h) | h)
  ·exact .inr (.inl h)
  ·exact .inr (.inr h)
  exact .inl h
theorem YL.put {b:I3}:∀ {l:List I3},YL l→YL (YB l b)
 | [],_=>by simp [YB,YL]
 | y::l,h=>by
  have h':=List.pairwise_cons.1 h
  unfold YB
  split
  ·rename_i hy
   refine List.pairwise_cons.2 ⟨fun z hz=>?_,YL.put h'.2⟩
   rcases Wf.1 hz with e | e
   ·exact h'.1 z e
   rw [e];exact hy
  rename_i hy
  split
  ·exact h
  rename_i hne
  have hby:ltB b y=true:=by
   cases k:ltB b y
   ·exact absurd (Wx (by simpa using hy) k) hne
   rfl
  refine List.pairwise_cons.2 ⟨fun z hz=>?_,h⟩
  rcases List.mem_cons.1 hz with e | e
  ·rw [e];exact hby
  exact Vf hby (h'.1 z e)
def putAll (out l:List I3):List I3:=l.foldl YB out
theorem Vt {x:I3}:∀ {l out:List I3},x ∈ putAll out l↔x ∈ out∨x ∈ l
 | [],out=>by simp [putAll]
 | y::l,out=>by
  have ih:=Vt (x:=x) (l:=l) (out:=YB out y)
  unfold putAll at *
  rw [List.foldl_cons,ih,Wf]
  simp [or_assoc]
theorem YL.putAll {l:List I3}:∀ {out:List I3},YL out→YL (putAll out l):=by
 induction l with
 | nil=>intro out h;exact h
 | cons y l ih=>intro out h;exact ih h.put
def ZL (a b:List I3):List I3:=putAll (putAll [] a) b
theorem Xl (a b:List I3):YL (ZL a b):=YL.putAll (YL.putAll List.Pairwise.nil)
theorem Xd {x:I3} {a b:List I3}:x ∈ ZL a b↔x ∈ a∨x ∈ b:=by
 unfold ZL
 rw [Vt,Vt]
 simp
theorem Tp (l:List I3) (b:I3):(YB l b).length≤l.length+1:=by
 induction l with
 | nil=>simp [YB]
 | cons y l ih =>
  unfold YB
  split
  ·simp;omega
  split<;>simp
theorem XV:∀ (l out:List I3),(putAll out l).length≤out.length+l.length
 | [],out=>by simp [putAll]
 | y::l,out=>by
  have:=XV l (YB out y)
  have h2:=Tp out y
  unfold putAll at *
  simp only [List.foldl_cons,List.length_cons]
  omega
theorem Mu (a b:List I3):(ZL a b).length≤a.length+b.length:=by
 have h1:=XV a []
 have h2:=XV b (putAll [] a)
 simp at h1
 unfold ZL
 omega
def ZT:List I3→List I3
 | []=>[]
 | [x]=>[x]
 | x::y::l=>if x=y then ZT (y::l) else x::ZT (y::l)
theorem Ry:∀ (x:I3) (l:List I3),∃ t,ZT (x::l)=x::t
 | x,[]=>⟨[],rfl⟩
 | x,y::l=>by
  unfold ZT
  split
  ·rename_i h
   subst h
   exact Ry x l
  exact ⟨_,rfl⟩
theorem TS {z:I3}:∀ {l:List I3},z ∈ ZT l↔z ∈ l
 | []=>by simp [ZT]
 | [x]=>by simp [ZT]
 | x::y::l=>by
  have ih:=TS (z:=z) (l:=y::l)
  unfold ZT
  split
  ·rename_i h
   subst h
   rw [ih]
   simp
  simp only [List.mem_cons] at ih ⊢
  rw [ih]
theorem Sr:∀ {l:List I3},(l.Pairwise fun a b=>ltB b a=false)→YL (ZT l)
 | [],_=>List.Pairwise.nil
 | [x],_=>by simp [ZT,YL]
 | x::y::l,h=>by
  have h':=List.pairwise_cons.1 h
  have ih:=Sr h'.2
  unfold ZT
  split
  ·exact ih
  rename_i hne
  refine List.pairwise_cons.2 ⟨fun z hz=>?_,ih⟩
  have hz':=TS.1 hz
  have hxy:ltB x y=true:=by
   cases k:ltB x y
   ·exact absurd (Wx k (h'.1 y (by simp))) hne
   rfl
  rcases List.mem_cons.1 hz' with e | e
  ·rw [e];exact hxy
  have h2:=(List.pairwise_cons.1 h'.2).1 z e
  cases k:ltB x z
  ·have hzx:=h'.1 z hz'
   have e2:=Wx k hzx
   subst e2
   rw [h2] at hxy
   cases hxy
  rfl
theorem Mx {a b l:List I3} (hs:l.Pairwise fun a b=>ltB b a=false) (hm:∀ x,x ∈ l↔x ∈ a∨x ∈ b):ZT l=ZL a b:=
 (Sr hs).same (Xl a b) fun x=>by rw [TS,hm,Xd]


theorem Mi (x y:I3) (w:World):Calls Tryz.prog 194 #[x.val,y.val] w fun e w'=>e=.returned (.bool (ltB x y))∧Below w.heap.size w w':=by
 obtain ⟨a0,a1,a2⟩:=x
 obtain ⟨b0,b1,b2⟩:=y
 unfold I3.val
 by_cases h0:a0=b0
 ·subst h0
  by_cases h1:a1=b1
  ·subst h1
   have e:ltB (a0,a1,a2) (a0,a1,b2)=decide (a2<b2):=by simp [ltB]
   rw [e]
   clear e
   go_enter Tryz.func194,Tryz.ntmps194
   go_wp2
   go_ret
   exact ⟨rfl,by go_grown⟩
  have e:ltB (a0,a1,a2) (a0,b1,b2)=decide (a1<b1):=by simp [ltB,h1]
  rw [e]
  clear e
  go_enter Tryz.func194,Tryz.ntmps194
  go_wp2
  go_ret
  exact ⟨rfl,by go_grown⟩
 have e:ltB (a0,a1,a2) (b0,b1,b2)=decide (a0<b0):=by simp [ltB,h0]
 rw [e]
 clear e
 go_enter Tryz.func194,Tryz.ntmps194
 go_wp2
 go_ret
 exact ⟨rfl,by go_grown⟩

def Wd:List I3→I3→Nat
 | [],_=>0
 | x::xs,b=>if ltB x b then Wd xs b+1 else 0
theorem Ng:∀ (xs:List I3) (b:I3),Wd xs b≤xs.length
 | [],_=>Nat.le_refl _
 | x::xs,b=>by
  have:=Ng xs b
  unfold Wd
  split<;>simp<;>omega
theorem QF:∀ (xs:List I3) (b:I3) (k:Nat),k<Wd xs b→ltB (xs.getD k (0,0,0)) b=true
 | [],_,k,h=>by simp [Wd] at h
 | x::xs,b,k,h=>by
  unfold Wd at h
  split at h
  ·rename_i hx
   match k,h with
   | 0,_=>simpa using hx
   | k+1,h=>rw [List.getD_cons_succ];exact QF xs b k (by omega)
  omega
theorem Nh:∀ (xs:List I3) (b:I3),Wd xs b<xs.length→ltB (xs.getD (Wd xs b) (0,0,0)) b=false
 | [],_,h=>by simp [Wd] at h
 | x::xs,b,h=>by
  unfold Wd at h ⊢
  split
  ·rename_i hx
   rw [if_pos hx] at h
   rw [List.getD_cons_succ]
   exact Nh xs b (by simpa using h)
  rename_i hx
  simpa using hx
theorem QR:∀ (xs:List I3) (b:I3),YB xs b=if Wd xs b<xs.length∧xs.getD (Wd xs b) (0,0,0)=b then xs else (xs.take (Wd xs b)++[b])++xs.drop (Wd xs b)
 | [],b=>by simp [YB,Wd]
 | x::xs,b=>by
  have ih:=QR xs b
  unfold YB Wd
  split
  ·rename_i hx
   rw [ih]
   simp only [List.getD_cons_succ,List.length_cons,Nat.add_lt_add_iff_right,List.take_succ_cons,List.drop_succ_cons,List.cons_append]
   split<;>simp
  simp only [List.getD_cons_zero,List.length_cons,List.take_zero,List.drop_zero,List.nil_append,Nat.zero_lt_succ,true_and]
  split<;>simp

theorem WJ {w:World} {b off len cap hi:Nat} {xs:List I3} (h:Zm w (some ⟨b,off,none⟩) len cap xs) (h2:hi≤len) :
  (∀ W,(Instr.slice 28 (.slice (some ⟨b,off,none⟩) len cap) none (some (.int .i64 (hi:Int))) none).run Tryz.prog W=.ok (.slice (some ⟨b,off,none⟩) hi cap) W)∧Zm w (some ⟨b,off,none⟩) hi cap (xs.take hi):=by
 obtain ⟨hl,hlc,hcm,hf,hcase⟩:=h
 have hhc:(hi:Int)≤(cap:Int):=by omega
 refine ⟨fun W=>?_,by rw [List.length_take];omega,by omega,by omega,fun x hx=>hf x (List.mem_of_mem_take hx),?_⟩
 ·go_simp
 rcases hcase with h0 | ⟨b',off',he,hb,hc⟩
 ·exact .inl (by omega)
 cases he
 refine .inr ⟨b,off,rfl,hb,fun t ht=>?_⟩
 have:=hc t (by omega)
 have e:(xs.take hi).getD t (0,0,0)=xs.getD t (0,0,0):=by simp [List.getD,List.getElem?_take,ht]
 rw [e]
 exact this
theorem JD {w:World} {b off len cap lo:Nat} {xs:List I3} (h:Zm w (some ⟨b,off,none⟩) len cap xs) (h1:lo≤len) :
  ∃ o2,(∀ W,(Instr.slice 28 (.slice (some ⟨b,off,none⟩) len cap) (some (.int .i64 (lo:Int))) none none).run Tryz.prog W=.ok (.slice (some ⟨b,o2,none⟩) (len - lo) (cap - lo)) W)∧Zm w (some ⟨b,o2,none⟩) (len - lo) (cap - lo) (xs.drop lo):=by
 obtain ⟨hl,hlc,hcm,hf,hcase⟩:=h
 have hlh:(lo:Int)≤(len:Int):=by omega
 by_cases hz:cap - lo=0
 ·refine ⟨off,fun W=>?_,by rw [List.length_drop];omega,by omega,by omega,fun x hx=>hf x (List.mem_of_mem_drop hx),.inl (by omega)⟩
  go_simp
  omega
 refine ⟨off+lo*3,fun W=>?_,by rw [List.length_drop];omega,by omega,by omega,fun x hx=>hf x (List.mem_of_mem_drop hx),?_⟩
 ·go_simp
  omega
 rcases hcase with h0 | ⟨b',off',he,hb,hc⟩
 ·exact .inl (by omega)
 cases he
 refine .inr ⟨b,off+lo*3,rfl,hb,fun t ht=>?_⟩
 have:=hc (lo+t) (by omega)
 have e:(xs.drop lo).getD t (0,0,0)=xs.getD (lo+t) (0,0,0):=by simp [List.getD]
 rw [e,show off+lo*3+t*3=off+(lo+t)*3 by omega]
 exact this
theorem ZI {w:World} {b off len cap:Nat} {xs:List I3} (h:Zm w (some ⟨b,off,none⟩) len cap xs):∀ j u,(Zl xs)[j]?=some u→w.cell? ((⟨b,off,none⟩:Addr).add j)=some u:=by
 intro j u hj
 obtain ⟨hl,_,_,_,hcase⟩:=h
 have hjl:j<xs.length*3:=by
  have:=(List.getElem?_eq_some_iff.1 hj).1
  rwa [Zo] at this
 have hA:(⟨b,off,none⟩:Addr).add j=⟨b,off+j,none⟩:=by unfold Addr.add;split<;>simp_all
 rw [hA]
 rcases hcase with h0 | ⟨b',off',he,hb,hc⟩
 ·omega
 cases he
 have hq:j / 3<xs.length:=by omega
 obtain ⟨f0,f1,f2⟩:=SO hq
 obtain ⟨c0,c1,c2⟩:=hc (j / 3) (by omega)
 have hr:j % 3=0∨j % 3=1∨j % 3=2:=by omega
 rcases hr with hr | hr | hr
 ·have e:j / 3*3=j:=by omega
  rw [e] at f0
  rw [f0] at hj
  cases hj
  rw [show off+j=off+j / 3*3 by omega]
  exact c0
 ·have e:j / 3*3+1=j:=by omega
  rw [e] at f1
  rw [f1] at hj
  cases hj
  rw [show off+j=off+j / 3*3+1 by omega]
  exact c1
 have e:j / 3*3+2=j:=by omega
 rw [e] at f2
 rw [f2] at hj
 cases hj
 rw [show off+j=off+j / 3*3+2 by omega]
 exact c2
theorem ZV (xs:List I3):∀ u ∈ Zl xs,u.oneCell'=true:=by
 intro u hu
 obtain ⟨x,hx,hu⟩:=List.mem_flatMap.1 hu
 unfold I3.cells at hu
 simp at hu
 rcases hu with rfl | rfl | rfl<;>rfl
theorem Yb (xs ys:List I3):Zl (xs++ys)=Zl xs++Zl ys:=by simp [Zl]
end Go.Proofs.YtnffeclgboomoaaGreatDoor
