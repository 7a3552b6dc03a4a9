/-
  Joined: StepQ, StepPl, Take.
-/
import Derived.Laws.RangeString
import Derived.Laws.RangeAny
import Derived.Laws.Bits
import Derived.Test.YtmhlokahmblboaaGreatDoorQ19
import Derived.Test.YtmhlokahmblboaaGreatDoorQ20

namespace Go.Proofs.YtmhlokahmblboaaGreatDoor
set_option maxRecDepth 100000
set_option maxHeartbeats 16000000
open Go.RowKit
set_option linter.unusedSimpArgs false
set_option linter.unusedVariables false

theorem Pd {x:I3} (h:okI x=true) :
  (∃ a q:Nat,x=(1,(a:Int),(q:Int))∧a<2∧q<4)∨(∃ q a:Nat,x=(2,(q:Int),(a:Int))∧q<4∧a<2)∨(∃ (a:Nat) (z:Int),x=(3,(a:Int),z)∧a<2)∨(∃ (a:Nat) (z:Int),x=(4,(a:Int),z)∧a<2∧0≤z∧z≤9) ∨
  (∃ (a:Nat) (z:Int),x=(5,(a:Int),z)∧a<2)∨(∃ (a:Nat) (z:Int),x=(6,(a:Int),z)∧a<2)∨(∃ (a:Nat) (z:Int),x=(7,(a:Int),z)∧a<2∧1≤z∧z≤6)∨(∃ (a:Nat) (z:Int),x=(8,(a:Int),z)∧a<2):=by
 obtain ⟨o,a,b⟩:=x
 unfold okI at h
 simp only at h
 rcases VZ (o,a,b) with e | e | e | e | e | e | e | e | e<;>simp only at e
 ·subst e
  simp [Zv] at h
  exact .inl ⟨a.toNat,b.toNat,by rw [show ((a.toNat:Nat):Int)=a by omega,show ((b.toNat:Nat):Int)=b by omega],by omega,by omega⟩
 ·subst e
  simp [Zv] at h
  exact .inr (.inl ⟨a.toNat,b.toNat,by rw [show ((a.toNat:Nat):Int)=a by omega,show ((b.toNat:Nat):Int)=b by omega],by omega,by omega⟩)
 ·subst e
  simp [Zv] at h
  exact .inr (.inr (.inl ⟨a.toNat,b,by rw [show ((a.toNat:Nat):Int)=a by omega],by omega⟩))
 ·subst e
  simp [Zv] at h
  exact .inr (.inr (.inr (.inl ⟨a.toNat,b,by rw [show ((a.toNat:Nat):Int)=a by omega],by omega,by omega,by omega⟩)))
 ·subst e
  simp [Zv] at h
  exact .inr (.inr (.inr (.inr (.inl ⟨a.toNat,b,by rw [show ((a.toNat:Nat):Int)=a by omega],by omega⟩))))
 ·subst e
  simp [Zv] at h
  exact .inr (.inr (.inr (.inr (.inr (.inl ⟨a.toNat,b,by rw [show ((a.toNat:Nat):Int)=a by omega],by omega⟩)))))
 ·subst e
  simp [Zv] at h
  exact .inr (.inr (.inr (.inr (.inr (.inr (.inl ⟨a.toNat,b,by rw [show ((a.toNat:Nat):Int)=a by omega],by omega,by omega,by omega⟩))))))
 ·subst e
  simp [Zv] at h
  exact .inr (.inr (.inr (.inr (.inr (.inr (.inr ⟨a.toNat,b,by rw [show ((a.toNat:Nat):Int)=a by omega],by omega⟩))))))
 obtain ⟨e1,e2,e3,e4,e5,e6,e7,e8⟩:=e
 simp [e1,e2,e3,e4,e5,e6,e7,e8] at h
section
variable (m : V4) (k a q : Nat) (z : Int)
theorem L1:ZE m (1,(a:Int),(q:Int)) k=((m.1.set k (m.1.getD k 0+1),m.2.1,m.2.2.1,m.2.2.2.set (k*2+a) (m.2.1.getD q 0)),0):=rfl
theorem L3:ZE m (2,(q:Int),(a:Int)) k=((m.1.set k (m.1.getD k 0+1),m.2.1.set q (m.2.2.2.getD (k*2+a) 0),m.2.2.1,m.2.2.2),0):=rfl
theorem L4:ZE m (3,(a:Int),z) k=((m.1.set k (m.1.getD k 0+1),m.2.1,m.2.2.1,m.2.2.2.set (k*2+a) z),0):=rfl
theorem L5:ZE m (4,(a:Int),z) k=((m.1.set k (m.1.getD k 0+1),m.2.1,m.2.2.1,m.2.2.2.set (k*2+a) ((m.2.2.2.getD (k*2+a) 0+z) % 10)),0):=rfl
theorem L6:ZE m (5,(a:Int),z) k=((m.1.set k (m.1.getD k 0+1),m.2.1,m.2.2.1.set a ((k:Int)+1),m.2.2.2),0):=rfl
theorem L7:ZE m (6,(a:Int),z) k=if m.2.2.1.getD a 0=(k:Int)+1 then ((m.1.set k (m.1.getD k 0+1),m.2.1,m.2.2.1.set a 0,m.2.2.2),0) else ((m.1.set k (m.1.getD k 0+1),m.2),13):=rfl
theorem L8:ZE m (7,(a:Int),z) k=if m.2.2.2.getD (k*2+a) 0=0 then ((m.1.set k (m.1.getD k 0+1),m.2),0) else ((m.1.set k z,m.2),0):=rfl
theorem L9:ZE m (8,(a:Int),z) k=if m.2.2.2.getD (k*2+a) 0=z then ((m.1.set k (m.1.getD k 0+1),m.2),0) else ((m.1.set k (m.1.getD k 0+1),m.2),12):=rfl
end

theorem GT {w:World} {g:Nat} {cs:Sl × Sl × Sl} {rows:List (List I3)} {m:V4} (h:YB w g cs rows m) (hp:Zq rows=true) (hs:Ze m=true) {k:Nat} (hk:k<3) (hd:Ys rows m k=false) :
  Calls Tryz.prog 69 #[.pointer (some ⟨g,0,none⟩),.int .i64 k] w fun e w'=>e=.returned (.int .i64 (ZE m (Xj rows m k) k).2)∧Blk w' g 69 (Zi cs.1.val cs.2.1.val cs.2.2.val (ZE m (Xj rows m k) k).1)∧w.grownBy w' (some g):=by
 obtain ⟨p,ep,hlt,hi,hok⟩:=VO hp hs hk hd
 have hl6:=(WC hp hk).1
 have e0:=h.code hk
 have e1:=h.pc hk
 rw [ep] at e1
 obtain ⟨b,off,ea,hpn,q0,q1,q2⟩:=PO (h.2 k hk) hlt
 rw [← hi] at q0 q1 q2
 rw [ea] at e0
 have hL:=Yj.of hs
 have hr9:=(Yq hs).2.2.2
 generalize Xj rows m k=x at *
 rcases Pd hok with ⟨a,q,rfl,ha,hq⟩ | ⟨q,a,rfl,hq,ha⟩ | ⟨a,z,rfl,ha⟩ | ⟨a,z,rfl,ha,hz⟩ | ⟨a,z,rfl,ha⟩ | ⟨a,z,rfl,ha⟩ | ⟨a,z,rfl,ha,hz⟩ | ⟨a,z,rfl,ha⟩<;>simp only at q0 q1 q2
 ·rw [L1,ep]
  exact Jv g k p b off _ _ a q _ cs m w hk hpn (by omega) hL h.1 (.inr trivial) e0 e1 q0 q1 q2 ha hq rfl
 ·rw [L3,ep]
  exact Le g k p b off _ _ a q _ cs m w hk hpn (by omega) hL h.1 (.inr trivial) e0 e1 q0 q1 q2 ha hq rfl
 ·rw [L4,ep]
  exact Gb g k p b off _ _ a z cs m w hk hpn (by omega) hL h.1 (.inr trivial) e0 e1 q0 q1 q2 ha
 ·rw [L5,ep]
  exact H9 g k p b off _ _ a z _ _ cs m w hk hpn (by omega) hL h.1 (.inr trivial) e0 e1 q0 q1 q2 ha rfl hz (Vv hr9 (by decide) _) rfl
 ·rw [L6,ep]
  exact Jw g k p b off _ _ a z cs m w hk hpn (by omega) hL h.1 (.inr trivial) e0 e1 q0 q1 q2 ha
 ·rw [L7,ep]
  by_cases hv:m.2.2.1.getD a 0=(k:Int)+1
  ·rw [if_pos hv]
   exact SR g k p b off _ _ a z cs m w hk hpn (by omega) hL h.1 (.inr trivial) e0 e1 q0 q1 q2 ha hv
  rw [if_neg hv]
  exact R4 g k p b off _ _ a z cs m w hk hpn (by omega) hL h.1 (.inr trivial) e0 e1 q0 q1 q2 ha hv
 ·rw [L8,ep]
  by_cases hv:m.2.2.2.getD (k*2+a) 0=0
  ·rw [if_pos hv]
   exact Jx g k p b off _ _ a z cs m w hk hpn (by omega) hL h.1 (.inr trivial) e0 e1 q0 q1 q2 ha hv
  rw [if_neg hv]
  exact Jt g k p b off _ _ a z _ cs m w hk hpn (by omega) hL h.1 (.inr trivial) e0 e1 q0 q1 q2 ha rfl hv
 rw [L9,ep]
 by_cases hv:m.2.2.2.getD (k*2+a) 0=z
 ·rw [if_pos hv]
  exact SP g k p b off _ _ a z cs m w hk hpn (by omega) hL h.1 (.inr trivial) e0 e1 q0 q1 q2 ha hv
 rw [if_neg hv]
 exact R3 g k p b off _ _ a z _ cs m w hk hpn (by omega) hL h.1 (.inr trivial) e0 e1 q0 q1 q2 ha rfl hv

theorem RA {w:World} {a9:Option Addr} {len cap:Nat} {cs:Sl × Sl × Sl} {rows:List (List I3)} {s:S4} {m:V4} (hl:len=3) (hR:Z5 w a9 cs rows) (h:Yv w s m) (hp:Zq rows=true) (hs:Ze m=true) {k:Nat} (hk:k<3) (hd:Ys rows m k=false) :
  Calls Tryz.prog 79 #[.agg #[.slice a9 len cap],s.val,.int .i64 k] w fun e w'=>Yk e w' w.heap.size (ZE m (Xj rows m k) k).1 (ZE m (Xj rows m k) k).2∧Below w.heap.size w w':=by
 obtain ⟨p,ep,hlt,hi,hok⟩:=VO hp hs hk hd
 have hl6:=(WC hp hk).1
 obtain ⟨b,off,rfl,_,hrow⟩:=hR
 obtain ⟨e0,hI⟩:=hrow k hk
 have hM:=h
 obtain ⟨⟨j0,_⟩,⟨j1,_⟩,⟨j2,_⟩,⟨j3,_⟩⟩:=h
 obtain ⟨l0,l1,l2,l3,_⟩:=ZF hs
 obtain ⟨⟨a0,n0,c0⟩,⟨a1,n1,c1⟩,⟨a2,n2,c2⟩,⟨a3,n3,c3⟩⟩:=s
 simp only at j0 j1 j2 j3
 obtain ⟨rfl,b0,o0,rfl⟩:=Zs j0 l0 (by decide)
 obtain ⟨rfl,b1,o1,rfl⟩:=Zs j1 l1 (by decide)
 obtain ⟨rfl,b2,o2,rfl⟩:=Zs j2 l2 (by decide)
 obtain ⟨rfl,b3,o3,rfl⟩:=Zs j3 l3 (by decide)
 have e1:=Yw j0 (t:=k) hk
 rw [ep] at e1
 obtain ⟨cb,co,ea,hpn,q0,q1,q2⟩:=PO hI hlt
 rw [← hi] at q0 q1 q2
 rw [ea] at e0
 have hr9:=(Yq hs).2.2.2
 have hriA:∀ a:Nat,(k:Int)*2+(a:Int)=((k*2+a:Nat):Int):=fun a=>by omega
 have hr6A:∀ a:Nat,a<2→k*2+a<6:=fun a ha=>by omega
 generalize Xj rows m k=x at *
 rcases Pd hok with ⟨a,q,rfl,ha,hq⟩ | ⟨q,a,rfl,hq,ha⟩ | ⟨a,z,rfl,ha⟩ | ⟨a,z,rfl,ha,hz⟩ | ⟨a,z,rfl,ha⟩ | ⟨a,z,rfl,ha⟩ | ⟨a,z,rfl,ha,hz⟩ | ⟨a,z,rfl,ha⟩<;>simp only at q0 q1 q2
 ·rw [L1,ep]
  exact MZ b off len cap b0 o0 c0 b1 o1 c1 b2 o2 c2 b3 o3 c3 k cb co _ _ p a q (k*2+a) _ m w hk hl hpn (by omega) hs hM ep e0 e1 q0 q1 q2 (hr6A a ha) (hriA a) hq rfl
 ·rw [L3,ep]
  exact NT b off len cap b0 o0 c0 b1 o1 c1 b2 o2 c2 b3 o3 c3 k cb co _ _ p a q (k*2+a) _ m w hk hl hpn (by omega) hs hM ep e0 e1 q0 q1 q2 (hr6A a ha) (hriA a) hq rfl
 ·rw [L4,ep]
  exact KZ b off len cap b0 o0 c0 b1 o1 c1 b2 o2 c2 b3 o3 c3 k cb co _ _ p a (k*2+a) z m w hk hl hpn (by omega) hs hM ep e0 e1 q0 q1 q2 (hr6A a ha) (hriA a)
 ·rw [L5,ep]
  exact KY b off len cap b0 o0 c0 b1 o1 c1 b2 o2 c2 b3 o3 c3 k cb co _ _ p a (k*2+a) z _ _ m w hk hl hpn (by omega) hs hM ep e0 e1 q0 q1 q2 (hr6A a ha) (hriA a) rfl hz (Vv hr9 (by decide) _) rfl
 ·rw [L6,ep]
  exact M1 b off len cap b0 o0 c0 b1 o1 c1 b2 o2 c2 b3 o3 c3 k cb co _ _ p a z m w hk hl hpn (by omega) hs hM ep e0 e1 q0 q1 q2 ha
 ·rw [L7,ep]
  by_cases hv:m.2.2.1.getD a 0=(k:Int)+1
  ·rw [if_pos hv]
   exact TS b off len cap b0 o0 c0 b1 o1 c1 b2 o2 c2 b3 o3 c3 k cb co _ _ p a z m w hk hl hpn (by omega) hs hM ep e0 e1 q0 q1 q2 ha hv
  rw [if_neg hv]
  exact SL b off len cap b0 o0 c0 b1 o1 c1 b2 o2 c2 b3 o3 c3 k cb co _ _ p a z _ m w hk hl hpn (by omega) hs hM ep e0 e1 q0 q1 q2 ha rfl hv
 ·rw [L8,ep]
  by_cases hv:m.2.2.2.getD (k*2+a) 0=0
  ·rw [if_pos hv]
   exact M2 b off len cap b0 o0 c0 b1 o1 c1 b2 o2 c2 b3 o3 c3 k cb co _ _ p a (k*2+a) z m w hk hl hpn (by omega) hs hM ep e0 e1 q0 q1 q2 (hr6A a ha) (hriA a) hv
  rw [if_neg hv]
  exact MY b off len cap b0 o0 c0 b1 o1 c1 b2 o2 c2 b3 o3 c3 k cb co _ _ p a (k*2+a) z _ m w hk hl hpn (by omega) hs hM ep e0 e1 q0 q1 q2 (hr6A a ha) (hriA a) rfl hv
 rw [L9,ep]
 by_cases hv:m.2.2.2.getD (k*2+a) 0=z
 ·rw [if_pos hv]
  exact TR b off len cap b0 o0 c0 b1 o1 c1 b2 o2 c2 b3 o3 c3 k cb co _ _ p a (k*2+a) z m w hk hl hpn (by omega) hs hM ep e0 e1 q0 q1 q2 (hr6A a ha) (hriA a) hv
 rw [if_neg hv]
 exact SK b off len cap b0 o0 c0 b1 o1 c1 b2 o2 c2 b3 o3 c3 k cb co _ _ p a (k*2+a) z _ m w hk hl hpn (by omega) hs hM ep e0 e1 q0 q1 q2 (hr6A a ha) (hriA a) rfl hv




theorem Xw {zs:List Int} {n hi v:Int} (h:Yz zs n hi=true) (k:Nat) (h0:0≤v) (h1:v≤hi):Yz (zs.set k v) n hi=true:=by
 obtain ⟨hl,ha⟩:=YI h
 unfold Yz
 simp only [Bool.and_eq_true,List.all_eq_true,decide_eq_true_eq,List.length_set]
 exact ⟨fun z hz=>by rcases List.mem_or_eq_of_mem_set hz with q | q;exact ha z q;subst q;exact ⟨h0,h1⟩,hl⟩
theorem RZ {rows:List (List I3)} {m:V4} (hp:Zq rows=true) (hs:Ze m=true) {k:Nat} (hk:k<3) (hd:Ys rows m k=false):Ze (ZE m (Xj rows m k) k).1=true:=by
 obtain ⟨p,ep,hlt,hi,hok⟩:=VO hp hs hk hd
 have hl6:=(WC hp hk).1
 obtain ⟨b0,b1,b2,b3⟩:=Yq hs
 have hs':=hs
 unfold Ze at hs'
 simp only [Bool.and_eq_true] at hs'
 obtain ⟨s0,s1,s2,s3⟩:=hs'
 have hpc:Yz (m.1.set k (m.1.getD k 0+1)) 3 6=true:=Xw s0 k (by omega) (by omega)
 have g1:=fun j=>Vv b1 (by decide) j
 have g3:=fun j=>Vv b3 (by decide) j
 generalize Xj rows m k=x at *
 obtain ⟨o,y,v⟩:=x
 unfold okI at hok
 simp only at hok
 unfold Ze
 rcases VZ (o,y,v) with e | e | e | e | e | e | e | e | e<;>simp only at e
 ·subst e
  simp [Zv] at hok
  simp only [ZE,if_true,Bool.and_eq_true]
  exact ⟨hpc,s1,s2,Xw s3 _ (g1 _).1 (g1 _).2⟩
 ·subst e
  simp [Zv] at hok
  simp [ZE]
  exact ⟨hpc,Xw s1 _ (g3 _).1 (g3 _).2,s2,s3⟩
 ·subst e
  simp [Zv] at hok
  simp [ZE]
  exact ⟨hpc,s1,s2,Xw s3 _ (by omega) (by omega)⟩
 ·subst e
  simp [Zv] at hok
  simp [ZE]
  exact ⟨hpc,s1,s2,Xw s3 _ (by omega) (by omega)⟩
 ·subst e
  simp [Zv] at hok
  simp [ZE]
  exact ⟨hpc,s1,Xw s2 _ (by omega) (by omega),s3⟩
 ·subst e
  simp [Zv] at hok
  simp [ZE]
  split
  ·exact ⟨hpc,s1,Xw s2 _ (by omega) (by omega),s3⟩
  exact ⟨hpc,s1,s2,s3⟩
 ·subst e
  simp [Zv] at hok
  simp [ZE]
  split
  ·exact ⟨hpc,s1,s2,s3⟩
  exact ⟨Xw s0 _ (by omega) (by omega),s1,s2,s3⟩
 ·subst e
  simp [Zv] at hok
  simp [ZE]
  split<;>exact ⟨hpc,s1,s2,s3⟩
 obtain ⟨e1,e2,e3,e4,e5,e6,e7,e8⟩:=e
 simp [e1,e2,e3,e4,e5,e6,e7,e8] at hok
theorem Kj {rows:List (List I3)} {m:V4} {k:Nat} (h:Vj rows m k=true):Ys rows m k=false∧Qk rows m k=false:=by
 unfold Vj at h
 unfold Qk
 simp at h
 simp [h]
theorem Xf {z:V4} (h:Ze z=true):V4.fits z∧z.1.length≤1048576∧z.2.1.length≤1048576∧z.2.2.1.length≤1048576∧z.2.2.2.length≤1048576:=by
 obtain ⟨l0,l1,l2,l3,_⟩:=ZF h
 obtain ⟨b0,b1,b2,b3⟩:=Yq h
 exact ⟨⟨fun x hx=>ZX (by have:=b0 x hx;omega) (by have:=b0 x hx;omega),fun x hx=>ZX (by have:=b1 x hx;omega) (by have:=b1 x hx;omega),fun x hx=>ZX (by have:=b2 x hx;omega) (by have:=b2 x hx;omega),fun x hx=>ZX (by have:=b3 x hx;omega) (by have:=b3 x hx;omega)⟩,by omega,by omega,by omega,by omega⟩


theorem Nw {l:List Int} {k i:Nat} {v:Int} (h:i≠k):(l.set k v).getD i 0=l.getD i 0:=by
 simp [List.getD,List.getElem?_set_ne (Ne.symm h)]
theorem Mm (m:V4) (x:I3) {k i:Nat} (h:i≠k):(ZE m x k).1.1.getD i 0=m.1.getD i 0:=by
 unfold ZE
 repeat' split
 all_goals exact Nw h

theorem Th {n:Nat}:∀ (xs:List I3) (j i:Nat),Yp n j xs=true→i<xs.length→VI (xs.getD i (0,0,0)) ((j:Int)+(i:Int)) (n:Int)=true
 | [],_,_,_,h=>by simp at h
 | x::xs,j,i,h,hi=>by
  have h':=h
  simp only [Yp,Bool.and_eq_true] at h'
  match i,hi with
  | 0,_ =>
   have:=h'.1.2
   simpa using this
  | i+1,hi =>
   have:=Th xs (j+1) i h'.2 (by simpa using hi)
   rw [List.getD_cons_succ]
   have e:((j+1:Nat):Int)+(i:Int)=(j:Int)+((i+1:Nat):Int):=by omega
   rw [e] at this
   exact this
theorem Ku {rows:List (List I3)} {m:V4} (hp:Zq rows=true) (hs:Ze m=true) {k:Nat} (hk:k<3) (hd:Ys rows m k=false) (h7:(Xj rows m k).1=7):m.1.getD k 0<(Xj rows m k).2.2:=by
 obtain ⟨p,ep,hlt,hi,hok⟩:=VO hp hs hk hd
 have hrow:Z7 (Xn rows k)=true:=by
  unfold Zq at hp
  simp only [Bool.and_eq_true,decide_eq_true_eq,List.all_eq_true] at hp
  refine hp.2 _ ?_
  have hk':k<rows.length:=by have:=hp.1;omega
  unfold Xn
  rw [List.getD,List.getElem?_eq_getElem hk',Option.getD_some]
  exact List.getElem_mem hk'
 unfold Z7 at hrow
 simp only [Bool.and_eq_true] at hrow
 have hl:=Th _ 0 p hrow.2 hlt
 rw [← hi] at hl
 unfold VI at hl
 rw [if_pos h7,Zv] at hl
 omega
theorem Sh {l:List Int} {k:Nat} {v:Int} (h:k<l.length):(l.set k v).getD k 0=v:=by
 simp [List.getD,List.getElem?_set_self h]
theorem Jr {rows:List (List I3)} {m:V4} (hp:Zq rows=true) (hs:Ze m=true) {k:Nat} (hk:k<3) (hd:Ys rows m k=false):m.1.getD k 0<(ZE m (Xj rows m k) k).1.1.getD k 0:=by
 have hl:=Ku hp hs hk hd
 have hk':k<m.1.length:=by have:=(ZF hs).1;omega
 generalize Xj rows m k=x at hl
 have e1:=Sh (l:=m.1) (v:=m.1.getD k 0+1) hk'
 unfold ZE
 repeat' split
 all_goals first
  | (simp only [e1];omega)
  | (have:=hl (by assumption);simp only [Sh hk'];omega)

theorem NW {rows:List (List I3)} {m:V4} {k:Nat}:∀ n,((k:Int) ∈ Zt rows m n)↔k<n∧Vj rows m k=true
 | 0=>by simp [Zt]
 | n+1=>by
  have ih:=NW (rows:=rows) (m:=m) (k:=k) n
  unfold Zt
  split
  ·rename_i h
   simp only [List.mem_append,List.mem_singleton,ih]
   constructor
   ·rintro (⟨h1,h2⟩ | h1)
    ·exact ⟨by omega,h2⟩
    obtain rfl:k=n:=by omega
    exact ⟨by omega,h⟩
   rintro ⟨h1,h2⟩
   by_cases e:k=n
   ·exact .inr (by omega)
   exact .inl ⟨by omega,h2⟩
  rename_i h
  rw [ih]
  constructor
  ·rintro ⟨h1,h2⟩
   exact ⟨by omega,h2⟩
  rintro ⟨h1,h2⟩
  refine ⟨?_,h2⟩
  by_cases e:k=n
  ·subst e
   exact absurd h2 h
  omega
theorem Gw {rows:List (List I3)} {m:V4} {i:Nat} (hi:i<(Zt rows m 3).length):∃ k:Nat,(Zt rows m 3).getD i 0=k∧k<3∧Vj rows m k=true:=by
 have hm:(Zt rows m 3)[i] ∈ Zt rows m 3:=List.getElem_mem hi
 have hall:∀ n,∀ z ∈ Zt rows m n,∃ k:Nat,z=k:=by
  intro n
  induction n with
  | zero=>intro z hz;simp [Zt] at hz
  | succ n ih =>
   intro z hz
   unfold Zt at hz
   split at hz
   ·rcases List.mem_append.1 hz with h | h
    ·exact ih z h
    exact ⟨n,by simpa using h⟩
   exact ih z hz
 obtain ⟨k,hk⟩:=hall 3 _ hm
 rw [hk] at hm
 obtain ⟨h1,h2⟩:=(NW 3).1 hm
 refine ⟨k,?_,h1,h2⟩
 rw [List.getD,List.getElem?_eq_getElem hi,Option.getD_some,hk]


def bt (s:ByteArray) (k:Nat):Nat:=if h:k<s.size then (s[k]'h).toNat else 0
def val (s:ByteArray) (p:Nat):Nat→Nat
 | 0=>0
 | 1=>bt s p % 128
 | 2=>bt s p % 128+bt s (p+1) % 128*128
 | 3=>bt s p % 128+bt s (p+1) % 128*128+bt s (p+2) % 128*16384
 | 4=>bt s p % 128+bt s (p+1) % 128*128+bt s (p+2) % 128*16384+bt s (p+3) % 128*2097152
 | _=>bt s p % 128+bt s (p+1) % 128*128+bt s (p+2) % 128*16384+bt s (p+3) % 128*2097152+bt s (p+4) % 128*268435456

def hv (s:ByteArray) (p k:Nat):Nat→Nat
 | 0=>0
 | j+1=>hv s p k j*128+bt s (p+k - 1 - j) % 128
end Go.Proofs.YtmhlokahmblboaaGreatDoor
