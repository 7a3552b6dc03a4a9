/-
  Joined: StepQ, StepPl, RunPl, RunQ.
-/
import Derived.Test.YtojcgajjnmjjpaaGreatDoorE12
import Derived.Test.YtojcgajjnmjjpaaGreatDoorE20
import Derived.Test.YtojcgajjnmjjpaaGreatDoorE21

namespace Go.Proofs.YtojcgajjnmjjpaaGreatDoor
set_option maxRecDepth 100000
set_option maxHeartbeats 16000000
open Go.RowKit
set_option linter.unusedSimpArgs false
set_option linter.unusedVariables false

theorem So {x:I3} (h:okI x=true) :
  (∃ a q:Nat,x=(1,(a:Int),(q:Int))∧a<2∧q<4)∨(∃ q a:Nat,x=(2,(q:Int),(a:Int))∧q<4∧a<2)∨(∃ (a:Nat) (z:Int),x=(3,(a:Int),z)∧a<2)∨(∃ (a:Nat) (z:Int),x=(4,(a:Int),z)∧a<2∧0≤z∧z≤9) ∨
  (∃ (a:Nat) (z:Int),x=(5,(a:Int),z)∧a<2)∨(∃ (a:Nat) (z:Int),x=(6,(a:Int),z)∧a<2)∨(∃ (a:Nat) (z:Int),x=(7,(a:Int),z)∧a<2∧1≤z∧z≤6)∨(∃ (a:Nat) (z:Int),x=(8,(a:Int),z)∧a<2):=by
 obtain ⟨o,a,b⟩:=x
 unfold okI at h
 simp only at h
 rcases Wo (o,a,b) with e | e | e | e | e | e | e | e | e<;>simp only at e
 ·subst e
  simp [ZE] at h
  exact .inl ⟨a.toNat,b.toNat,by rw [show ((a.toNat:Nat):Int)=a by omega,show ((b.toNat:Nat):Int)=b by omega],by omega,by omega⟩
 ·subst e
  simp [ZE] at h
  exact .inr (.inl ⟨a.toNat,b.toNat,by rw [show ((a.toNat:Nat):Int)=a by omega,show ((b.toNat:Nat):Int)=b by omega],by omega,by omega⟩)
 ·subst e
  simp [ZE] at h
  exact .inr (.inr (.inl ⟨a.toNat,b,by rw [show ((a.toNat:Nat):Int)=a by omega],by omega⟩))
 ·subst e
  simp [ZE] at h
  exact .inr (.inr (.inr (.inl ⟨a.toNat,b,by rw [show ((a.toNat:Nat):Int)=a by omega],by omega,by omega,by omega⟩)))
 ·subst e
  simp [ZE] at h
  exact .inr (.inr (.inr (.inr (.inl ⟨a.toNat,b,by rw [show ((a.toNat:Nat):Int)=a by omega],by omega⟩))))
 ·subst e
  simp [ZE] at h
  exact .inr (.inr (.inr (.inr (.inr (.inl ⟨a.toNat,b,by rw [show ((a.toNat:Nat):Int)=a by omega],by omega⟩)))))
 ·subst e
  simp [ZE] at h
  exact .inr (.inr (.inr (.inr (.inr (.inr (.inl ⟨a.toNat,b,by rw [show ((a.toNat:Nat):Int)=a by omega],by omega,by omega,by omega⟩))))))
 ·subst e
  simp [ZE] at h
  exact .inr (.inr (.inr (.inr (.inr (.inr (.inr ⟨a.toNat,b,by rw [show ((a.toNat:Nat):Int)=a by omega],by omega⟩))))))
 obtain ⟨e1,e2,e3,e4,e5,e6,e7,e8⟩:=e
 simp [e1,e2,e3,e4,e5,e6,e7,e8] at h
section
variable (m : V4) (k a q : Nat) (z : Int)
theorem LQ:ZG m (1,(a:Int),(q:Int)) k=((m.1.set k (m.1.getD k 0+1),m.2.1,m.2.2.1,m.2.2.2.set (k*2+a) (m.2.1.getD q 0)),0):=rfl
theorem LR:ZG m (2,(q:Int),(a:Int)) k=((m.1.set k (m.1.getD k 0+1),m.2.1.set q (m.2.2.2.getD (k*2+a) 0),m.2.2.1,m.2.2.2),0):=rfl
theorem LS:ZG m (3,(a:Int),z) k=((m.1.set k (m.1.getD k 0+1),m.2.1,m.2.2.1,m.2.2.2.set (k*2+a) z),0):=rfl
theorem LT:ZG m (4,(a:Int),z) k=((m.1.set k (m.1.getD k 0+1),m.2.1,m.2.2.1,m.2.2.2.set (k*2+a) ((m.2.2.2.getD (k*2+a) 0+z) % 10)),0):=rfl
theorem LU:ZG m (5,(a:Int),z) k=((m.1.set k (m.1.getD k 0+1),m.2.1,m.2.2.1.set a ((k:Int)+1),m.2.2.2),0):=rfl
theorem LV:ZG m (6,(a:Int),z) k=if m.2.2.1.getD a 0=(k:Int)+1 then ((m.1.set k (m.1.getD k 0+1),m.2.1,m.2.2.1.set a 0,m.2.2.2),0) else ((m.1.set k (m.1.getD k 0+1),m.2),13):=rfl
theorem LW:ZG m (7,(a:Int),z) k=if m.2.2.2.getD (k*2+a) 0=0 then ((m.1.set k (m.1.getD k 0+1),m.2),0) else ((m.1.set k z,m.2),0):=rfl
theorem LX:ZG m (8,(a:Int),z) k=if m.2.2.2.getD (k*2+a) 0=z then ((m.1.set k (m.1.getD k 0+1),m.2),0) else ((m.1.set k (m.1.getD k 0+1),m.2),12):=rfl
end

theorem LY {w:World} {g:Nat} {cs:Sl × Sl × Sl} {rows:List (List I3)} {m:V4} (h:Yk w g cs rows m) (hp:Zn rows=true) (hs:Zk m=true) {k:Nat} (hk:k<3) (hd:Z2 rows m k=false) :
  Calls Tryz.prog 58 #[.pointer (some ⟨g,0,none⟩),.int .i64 k] w fun e w'=>e=.returned (.int .i64 (ZG m (Ys rows m k) k).2)∧Blk w' g 70 (Zh cs.1.val cs.2.1.val cs.2.2.val (ZG m (Ys rows m k) k).1)∧w.grownBy w' (some g):=by
 obtain ⟨p,ep,hlt,hi,hok⟩:=X4 hp hs hk hd
 have hl6:=(WD hp hk).1
 have e0:=h.code hk
 have e1:=h.pc hk
 rw [ep] at e1
 obtain ⟨b,off,ea,hpn,q0,q1,q2⟩:=Sg (h.2 k hk) hlt
 rw [← hi] at q0 q1 q2
 rw [ea] at e0
 have hL:=Yy.of hs
 have hr9:=(Yi hs).2.2.2
 generalize Ys rows m k=x at *
 rcases So hok with ⟨a,q,rfl,ha,hq⟩ | ⟨q,a,rfl,hq,ha⟩ | ⟨a,z,rfl,ha⟩ | ⟨a,z,rfl,ha,hz⟩ | ⟨a,z,rfl,ha⟩ | ⟨a,z,rfl,ha⟩ | ⟨a,z,rfl,ha,hz⟩ | ⟨a,z,rfl,ha⟩<;>simp only at q0 q1 q2
 ·rw [LQ,ep]
  exact Jo g k p b off _ _ a q _ cs m w hk hpn (by omega) hL h.1 (.inr trivial) e0 e1 q0 q1 q2 ha hq rfl
 ·rw [LR,ep]
  exact Ld g k p b off _ _ a q _ cs m w hk hpn (by omega) hL h.1 (.inr trivial) e0 e1 q0 q1 q2 ha hq rfl
 ·rw [LS,ep]
  exact GC g k p b off _ _ a z cs m w hk hpn (by omega) hL h.1 (.inr trivial) e0 e1 q0 q1 q2 ha
 ·rw [LT,ep]
  exact GA g k p b off _ _ a z _ _ cs m w hk hpn (by omega) hL h.1 (.inr trivial) e0 e1 q0 q1 q2 ha rfl hz (Xq hr9 (by decide) _) rfl
 ·rw [LU,ep]
  exact Jp g k p b off _ _ a z cs m w hk hpn (by omega) hL h.1 (.inr trivial) e0 e1 q0 q1 q2 ha
 ·rw [LV,ep]
  by_cases hv:m.2.2.1.getD a 0=(k:Int)+1
  ·rw [if_pos hv]
   exact S3 g k p b off _ _ a z cs m w hk hpn (by omega) hL h.1 (.inr trivial) e0 e1 q0 q1 q2 ha hv
  rw [if_neg hv]
  exact Qm g k p b off _ _ a z cs m w hk hpn (by omega) hL h.1 (.inr trivial) e0 e1 q0 q1 q2 ha hv
 ·rw [LW,ep]
  by_cases hv:m.2.2.2.getD (k*2+a) 0=0
  ·rw [if_pos hv]
   exact Jq g k p b off _ _ a z cs m w hk hpn (by omega) hL h.1 (.inr trivial) e0 e1 q0 q1 q2 ha hv
  rw [if_neg hv]
  exact Jn g k p b off _ _ a z _ cs m w hk hpn (by omega) hL h.1 (.inr trivial) e0 e1 q0 q1 q2 ha rfl hv
 rw [LX,ep]
 by_cases hv:m.2.2.2.getD (k*2+a) 0=z
 ·rw [if_pos hv]
  exact S1 g k p b off _ _ a z cs m w hk hpn (by omega) hL h.1 (.inr trivial) e0 e1 q0 q1 q2 ha hv
 rw [if_neg hv]
 exact Qk g k p b off _ _ a z _ cs m w hk hpn (by omega) hL h.1 (.inr trivial) e0 e1 q0 q1 q2 ha rfl hv

theorem WR {w:World} {a9:Option Addr} {len cap:Nat} {cs:Sl × Sl × Sl} {rows:List (List I3)} {s:S4} {m:V4} (hl:len=3) (hR:Z7 w a9 cs rows) (h:Yl w s m) (hp:Zn rows=true) (hs:Zk m=true) {k:Nat} (hk:k<3) (hd:Z2 rows m k=false) :
  Calls Tryz.prog 81 #[.agg #[.slice a9 len cap],s.val,.int .i64 k] w fun e w'=>Xc e w' w.heap.size (ZG m (Ys rows m k) k).1 (ZG m (Ys rows m k) k).2∧Below w.heap.size w w':=by
 obtain ⟨p,ep,hlt,hi,hok⟩:=X4 hp hs hk hd
 have hl6:=(WD hp hk).1
 obtain ⟨b,off,rfl,_,hrow⟩:=hR
 obtain ⟨e0,hI⟩:=hrow k hk
 have hM:=h
 obtain ⟨⟨j0,_⟩,⟨j1,_⟩,⟨j2,_⟩,⟨j3,_⟩⟩:=h
 obtain ⟨l0,l1,l2,l3,_⟩:=ZV hs
 obtain ⟨⟨a0,n0,c0⟩,⟨a1,n1,c1⟩,⟨a2,n2,c2⟩,⟨a3,n3,c3⟩⟩:=s
 simp only at j0 j1 j2 j3
 obtain ⟨rfl,b0,o0,rfl⟩:=Zy j0 l0 (by decide)
 obtain ⟨rfl,b1,o1,rfl⟩:=Zy j1 l1 (by decide)
 obtain ⟨rfl,b2,o2,rfl⟩:=Zy j2 l2 (by decide)
 obtain ⟨rfl,b3,o3,rfl⟩:=Zy j3 l3 (by decide)
 have e1:=YA j0 (t:=k) hk
 rw [ep] at e1
 obtain ⟨cb,co,ea,hpn,q0,q1,q2⟩:=Sg hI hlt
 rw [← hi] at q0 q1 q2
 rw [ea] at e0
 have hr9:=(Yi hs).2.2.2
 have hriA:∀ a:Nat,(k:Int)*2+(a:Int)=((k*2+a:Nat):Int):=fun a=>by omega
 have hr6A:∀ a:Nat,a<2→k*2+a<6:=fun a ha=>by omega
 generalize Ys rows m k=x at *
 rcases So hok with ⟨a,q,rfl,ha,hq⟩ | ⟨q,a,rfl,hq,ha⟩ | ⟨a,z,rfl,ha⟩ | ⟨a,z,rfl,ha,hz⟩ | ⟨a,z,rfl,ha⟩ | ⟨a,z,rfl,ha⟩ | ⟨a,z,rfl,ha,hz⟩ | ⟨a,z,rfl,ha⟩<;>simp only at q0 q1 q2
 ·rw [LQ,ep]
  exact MP b off len cap b0 o0 c0 b1 o1 c1 b2 o2 c2 b3 o3 c3 k cb co _ _ p a q (k*2+a) _ m w hk hl hpn (by omega) hs hM ep e0 e1 q0 q1 q2 (hr6A a ha) (hriA a) hq rfl
 ·rw [LR,ep]
  exact NR b off len cap b0 o0 c0 b1 o1 c1 b2 o2 c2 b3 o3 c3 k cb co _ _ p a q (k*2+a) _ m w hk hl hpn (by omega) hs hM ep e0 e1 q0 q1 q2 (hr6A a ha) (hriA a) hq rfl
 ·rw [LS,ep]
  exact KX b off len cap b0 o0 c0 b1 o1 c1 b2 o2 c2 b3 o3 c3 k cb co _ _ p a (k*2+a) z m w hk hl hpn (by omega) hs hM ep e0 e1 q0 q1 q2 (hr6A a ha) (hriA a)
 ·rw [LT,ep]
  exact KW b off len cap b0 o0 c0 b1 o1 c1 b2 o2 c2 b3 o3 c3 k cb co _ _ p a (k*2+a) z _ _ m w hk hl hpn (by omega) hs hM ep e0 e1 q0 q1 q2 (hr6A a ha) (hriA a) rfl hz (Xq hr9 (by decide) _) rfl
 ·rw [LU,ep]
  exact MQ b off len cap b0 o0 c0 b1 o1 c1 b2 o2 c2 b3 o3 c3 k cb co _ _ p a z m w hk hl hpn (by omega) hs hM ep e0 e1 q0 q1 q2 ha
 ·rw [LV,ep]
  by_cases hv:m.2.2.1.getD a 0=(k:Int)+1
  ·rw [if_pos hv]
   exact Sk b off len cap b0 o0 c0 b1 o1 c1 b2 o2 c2 b3 o3 c3 k cb co _ _ p a z m w hk hl hpn (by omega) hs hM ep e0 e1 q0 q1 q2 ha hv
  rw [if_neg hv]
  exact SZ b off len cap b0 o0 c0 b1 o1 c1 b2 o2 c2 b3 o3 c3 k cb co _ _ p a z _ m w hk hl hpn (by omega) hs hM ep e0 e1 q0 q1 q2 ha rfl hv
 ·rw [LW,ep]
  by_cases hv:m.2.2.2.getD (k*2+a) 0=0
  ·rw [if_pos hv]
   exact MR b off len cap b0 o0 c0 b1 o1 c1 b2 o2 c2 b3 o3 c3 k cb co _ _ p a (k*2+a) z m w hk hl hpn (by omega) hs hM ep e0 e1 q0 q1 q2 (hr6A a ha) (hriA a) hv
  rw [if_neg hv]
  exact MO b off len cap b0 o0 c0 b1 o1 c1 b2 o2 c2 b3 o3 c3 k cb co _ _ p a (k*2+a) z _ m w hk hl hpn (by omega) hs hM ep e0 e1 q0 q1 q2 (hr6A a ha) (hriA a) rfl hv
 rw [LX,ep]
 by_cases hv:m.2.2.2.getD (k*2+a) 0=z
 ·rw [if_pos hv]
  exact Sj b off len cap b0 o0 c0 b1 o1 c1 b2 o2 c2 b3 o3 c3 k cb co _ _ p a (k*2+a) z m w hk hl hpn (by omega) hs hM ep e0 e1 q0 q1 q2 (hr6A a ha) (hriA a) hv
 rw [if_neg hv]
 exact SY b off len cap b0 o0 c0 b1 o1 c1 b2 o2 c2 b3 o3 c3 k cb co _ _ p a (k*2+a) z _ m w hk hl hpn (by omega) hs hM ep e0 e1 q0 q1 q2 (hr6A a ha) (hriA a) rfl hv




theorem XF {zs:List Int} {n hi v:Int} (h:YR zs n hi=true) (k:Nat) (h0:0≤v) (h1:v≤hi):YR (zs.set k v) n hi=true:=by
 obtain ⟨hl,ha⟩:=YS h
 unfold YR
 simp only [Bool.and_eq_true,List.all_eq_true,decide_eq_true_eq,List.length_set]
 exact ⟨fun z hz=>by rcases List.mem_or_eq_of_mem_set hz with q | q;exact ha z q;subst q;exact ⟨h0,h1⟩,hl⟩
theorem Qc {rows:List (List I3)} {m:V4} (hp:Zn rows=true) (hs:Zk m=true) {k:Nat} (hk:k<3) (hd:Z2 rows m k=false):Zk (ZG m (Ys rows m k) k).1=true:=by
 obtain ⟨p,ep,hlt,hi,hok⟩:=X4 hp hs hk hd
 have hl6:=(WD hp hk).1
 obtain ⟨b0,b1,b2,b3⟩:=Yi hs
 have hs':=hs
 unfold Zk at hs'
 simp only [Bool.and_eq_true] at hs'
 obtain ⟨s0,s1,s2,s3⟩:=hs'
 have hpc:YR (m.1.set k (m.1.getD k 0+1)) 3 6=true:=XF s0 k (by omega) (by omega)
 have g1:=fun j=>Xq b1 (by decide) j
 have g3:=fun j=>Xq b3 (by decide) j
 generalize Ys rows m k=x at *
 obtain ⟨o,y,v⟩:=x
 unfold okI at hok
 simp only at hok
 unfold Zk
 rcases Wo (o,y,v) with e | e | e | e | e | e | e | e | e<;>simp only at e
 ·subst e
  simp [ZE] at hok
  simp only [ZG,if_true,Bool.and_eq_true]
  exact ⟨hpc,s1,s2,XF s3 _ (g1 _).1 (g1 _).2⟩
 ·subst e
  simp [ZE] at hok
  simp [ZG]
  exact ⟨hpc,XF s1 _ (g3 _).1 (g3 _).2,s2,s3⟩
 ·subst e
  simp [ZE] at hok
  simp [ZG]
  exact ⟨hpc,s1,s2,XF s3 _ (by omega) (by omega)⟩
 ·subst e
  simp [ZE] at hok
  simp [ZG]
  exact ⟨hpc,s1,s2,XF s3 _ (by omega) (by omega)⟩
 ·subst e
  simp [ZE] at hok
  simp [ZG]
  exact ⟨hpc,s1,XF s2 _ (by omega) (by omega),s3⟩
 ·subst e
  simp [ZE] at hok
  simp [ZG]
  split
  ·exact ⟨hpc,s1,XF s2 _ (by omega) (by omega),s3⟩
  exact ⟨hpc,s1,s2,s3⟩
 ·subst e
  simp [ZE] at hok
  simp [ZG]
  split
  ·exact ⟨hpc,s1,s2,s3⟩
  exact ⟨XF s0 _ (by omega) (by omega),s1,s2,s3⟩
 ·subst e
  simp [ZE] at hok
  simp [ZG]
  split<;>exact ⟨hpc,s1,s2,s3⟩
 obtain ⟨e1,e2,e3,e4,e5,e6,e7,e8⟩:=e
 simp [e1,e2,e3,e4,e5,e6,e7,e8] at hok
theorem Kd {rows:List (List I3)} {m:V4} {k:Nat} (h:YC rows m k=true):Z2 rows m k=false∧Qt rows m k=false:=by
 unfold YC at h
 unfold Qt
 simp at h
 simp [h]
theorem ZP {z:V4} (h:Zk z=true):V4.fits z∧z.1.length≤1048576∧z.2.1.length≤1048576∧z.2.2.1.length≤1048576∧z.2.2.2.length≤1048576:=by
 obtain ⟨l0,l1,l2,l3,_⟩:=ZV h
 obtain ⟨b0,b1,b2,b3⟩:=Yi h
 exact ⟨⟨fun x hx=>Ye (by have:=b0 x hx;omega) (by have:=b0 x hx;omega),fun x hx=>Ye (by have:=b1 x hx;omega) (by have:=b1 x hx;omega),fun x hx=>Ye (by have:=b2 x hx;omega) (by have:=b2 x hx;omega),fun x hx=>Ye (by have:=b3 x hx;omega) (by have:=b3 x hx;omega)⟩,by omega,by omega,by omega,by omega⟩


theorem XH {l:List Int} {k i:Nat} {v:Int} (h:i≠k):(l.set k v).getD i 0=l.getD i 0:=by
 simp [List.getD,List.getElem?_set_ne (Ne.symm h)]
theorem XL (m:V4) (x:I3) {k i:Nat} (h:i≠k):(ZG m x k).1.1.getD i 0=m.1.getD i 0:=by
 unfold ZG
 repeat' split
 all_goals exact XH h

theorem TI {n:Nat}:∀ (xs:List I3) (j i:Nat),Z3 n j xs=true→i<xs.length→Wt (xs.getD i (0,0,0)) ((j:Int)+(i:Int)) (n:Int)=true
 | [],_,_,_,h=>by simp at h
 | x::xs,j,i,h,hi=>by
  have h':=h
  simp only [Z3,Bool.and_eq_true] at h'
  match i,hi with
  | 0,_ =>
   have:=h'.1.2
   simpa using this
  | i+1,hi =>
   have:=TI xs (j+1) i h'.2 (by simpa using hi)
   rw [List.getD_cons_succ]
   have e:((j+1:Nat):Int)+(i:Int)=(j:Int)+((i+1:Nat):Int):=by omega
   rw [e] at this
   exact this
theorem Kw {rows:List (List I3)} {m:V4} (hp:Zn rows=true) (hs:Zk m=true) {k:Nat} (hk:k<3) (hd:Z2 rows m k=false) (h7:(Ys rows m k).1=7):m.1.getD k 0<(Ys rows m k).2.2:=by
 obtain ⟨p,ep,hlt,hi,hok⟩:=X4 hp hs hk hd
 have hrow:ZO (Yn rows k)=true:=by
  unfold Zn at hp
  simp only [Bool.and_eq_true,decide_eq_true_eq,List.all_eq_true] at hp
  refine hp.2 _ ?_
  have hk':k<rows.length:=by have:=hp.1;omega
  unfold Yn
  rw [List.getD,List.getElem?_eq_getElem hk',Option.getD_some]
  exact List.getElem_mem hk'
 unfold ZO at hrow
 simp only [Bool.and_eq_true] at hrow
 have hl:=TI _ 0 p hrow.2 hlt
 rw [← hi] at hl
 unfold Wt at hl
 rw [if_pos h7,ZE] at hl
 omega
theorem SK {l:List Int} {k:Nat} {v:Int} (h:k<l.length):(l.set k v).getD k 0=v:=by
 simp [List.getD,List.getElem?_set_self h]
theorem Pi {rows:List (List I3)} {m:V4} (hp:Zn rows=true) (hs:Zk m=true) {k:Nat} (hk:k<3) (hd:Z2 rows m k=false):m.1.getD k 0<(ZG m (Ys rows m k) k).1.1.getD k 0:=by
 have hl:=Kw hp hs hk hd
 have hk':k<m.1.length:=by have:=(ZV hs).1;omega
 generalize Ys rows m k=x at hl
 have e1:=SK (l:=m.1) (v:=m.1.getD k 0+1) hk'
 unfold ZG
 repeat' split
 all_goals first
  | (simp only [e1];omega)
  | (have:=hl (by assumption);simp only [SK hk'];omega)

theorem TG {rows:List (List I3)} {m:V4} {k:Nat}:∀ n,((k:Int) ∈ Zj rows m n)↔k<n∧YC rows m k=true
 | 0=>by simp [Zj]
 | n+1=>by
  have ih:=TG (rows:=rows) (m:=m) (k:=k) n
  unfold Zj
  split
  ·rename_i h
   simp only [List.mem_append,List.mem_singleton,ih]
   constructor
   ·rintro (⟨h1,h2⟩ | h1)
    ·exact ⟨by omega,h2⟩
    obtain rfl:k=n:=by omega
    exact ⟨by omega,h⟩
   rintro ⟨h1,h2⟩
   by_cases e:k=n
   ·exact .inr (by omega)
   exact .inl ⟨by omega,h2⟩
  rename_i h
  rw [ih]
  constructor
  ·rintro ⟨h1,h2⟩
   exact ⟨by omega,h2⟩
  rintro ⟨h1,h2⟩
  refine ⟨?_,h2⟩
  by_cases e:k=n
  ·subst e
   exact absurd h2 h
  omega
theorem GU {rows:List (List I3)} {m:V4} {i:Nat} (hi:i<(Zj rows m 3).length):∃ k:Nat,(Zj rows m 3).getD i 0=k∧k<3∧YC rows m k=true:=by
 have hm:(Zj rows m 3)[i] ∈ Zj rows m 3:=List.getElem_mem hi
 have hall:∀ n,∀ z ∈ Zj rows m n,∃ k:Nat,z=k:=by
  intro n
  induction n with
  | zero=>intro z hz;simp [Zj] at hz
  | succ n ih =>
   intro z hz
   unfold Zj at hz
   split at hz
   ·rcases List.mem_append.1 hz with h | h
    ·exact ih z h
    exact ⟨n,by simpa using h⟩
   exact ih z hz
 obtain ⟨k,hk⟩:=hall 3 _ hm
 rw [hk] at hm
 obtain ⟨h1,h2⟩:=(TG 3).1 hm
 refine ⟨k,?_,h1,h2⟩
 rw [List.getD,List.getElem?_eq_getElem hi,Option.getD_some,hk]


def Zx (rows:List (List I3)) (m:V4) (k:Int):Int:=
 if 0≤k∧k≤2 then (if Z2 rows m k.toNat then 10 else if YC rows m k.toNat then 0 else 11) else 4
def goM (rows:List (List I3)) (m:V4) (k:Int):V4 × Int:=ZG m (Ys rows m k.toNat) k.toNat
def Yt (rows:List (List I3)) (m:V4) (k:Int):List I3:=if (goM rows m k).2=0 then [] else [((goM rows m k).2,k,m.1.getD k.toNat 0)]
def XW (rows:List (List I3)) (m:V4):List I3:=if Xk rows m then [(14,0,0)] else []
def X7 (rows:List (List I3)) (m:V4) (k:Int):List I3:=if Xk rows (goM rows m k).1 then YO (Yt rows m k) (14,0,0) else Yt rows m k

def ZH (rows:List (List I3)):V4→List I3→List Int→V4 × List I3 × Int
 | m,fs,[]=>(m,fs,0)
 | m,fs,k::ks=>if Zx rows m k=0 then ZH rows (goM rows m k).1 (fs++Yt rows m k) ks else (m,fs,Zx rows m k)
def VU (rows:List (List I3)):V4→List I3→List Int→V4 × List I3 × Int
 | m,out,[]=>(m,out,0)
 | m,out,k::ks=>if Zx rows m k=0 then VU rows (goM rows m k).1 (Yg out (X7 rows m k)) ks else (m,out,Zx rows m k)

theorem ZY {rows:List (List I3)} {m:V4} {k:Int} (h:Zx rows m k=0):0≤k∧k≤2∧Z2 rows m k.toNat=false∧YC rows m k.toNat=true:=by
 unfold Zx at h
 split at h
 ·rename_i hk
  cases hd:Z2 rows m k.toNat
  ·cases hc:YC rows m k.toNat
   ·rw [hd,hc] at h;simp at h
   exact ⟨hk.1,hk.2,rfl,rfl⟩
  rw [hd] at h;simp at h
 cases h
theorem UO {rows:List (List I3)} {m:V4} {k:Nat} (hk:k<3) (h:YC rows m k=true):Xk rows m=false:=by
 have hm:(k:Int) ∈ Zj rows m 3:=(TG 3).2 ⟨hk,h⟩
 unfold Xk
 have hne:¬ (Zj rows m 3=[]):=fun e=>by rw [e] at hm;simp at hm
 simp [hne]
theorem K0 {rows:List (List I3)} {m:V4} {k:Int} {x:I3}:x ∈ X7 rows m k↔x ∈ Yt rows m k∨x ∈ XW rows (goM rows m k).1:=by
 unfold X7 XW
 cases Xk rows (goM rows m k).1
 ·simp
 simp only [if_true,Wm,List.mem_singleton]
theorem Mf {rows:List (List I3)}:∀ (ks:List Int) (m:V4) (fs out:List I3),out=Yg fs (XW rows m) →
  (VU rows m out ks).1=(ZH rows m fs ks).1∧(VU rows m out ks).2.2=(ZH rows m fs ks).2.2∧(VU rows m out ks).2.1=Yg (ZH rows m fs ks).2.1 (XW rows (ZH rows m fs ks).1)
 | [],m,fs,out,h=>⟨rfl,rfl,h⟩
 | k::ks,m,fs,out,h=>by
  by_cases hz:Zx rows m k=0
  ·obtain ⟨h0,h2,_,hc⟩:=ZY hz
   have hst:=UO (rows:=rows) (m:=m) (k:=k.toNat) (by omega) hc
   have hd:XW rows m=[]:=by unfold XW;rw [hst];rfl
   have e1:VU rows m out (k::ks)=VU rows (goM rows m k).1 (Yg out (X7 rows m k)) ks:=by
    show (if Zx rows m k=0 then _ else _)=_
    rw [if_pos hz]
   have e2:ZH rows m fs (k::ks)=ZH rows (goM rows m k).1 (fs++Yt rows m k) ks:=by
    show (if Zx rows m k=0 then _ else _)=_
    rw [if_pos hz]
   rw [e1,e2]
   refine Mf ks _ _ _ ((VO _ _).same (VO _ _) fun x=>?_)
   rw [WT,WT,h,WT,hd,K0,List.mem_append]
   simp only [List.not_mem_nil,or_false,or_assoc]
  have e1:VU rows m out (k::ks)=(m,out,Zx rows m k):=by
   show (if Zx rows m k=0 then _ else _)=_
   rw [if_neg hz]
  have e2:ZH rows m fs (k::ks)=(m,fs,Zx rows m k):=by
   show (if Zx rows m k=0 then _ else _)=_
   rw [if_neg hz]
  rw [e1,e2]
  exact ⟨rfl,rfl,h⟩


theorem Lc (m:V4) (x:I3) (k:Nat):(ZG m x k).2=0∨(ZG m x k).2=12∨(ZG m x k).2=13:=by
 unfold ZG
 repeat' split
 all_goals simp
theorem LD {rows:List (List I3)} {m:V4} {k:Int} (hp:Zn rows=true) (hs:Zk m=true) (hz:Zx rows m k=0):∀ x ∈ Yt rows m k,okB x=true:=by
 obtain ⟨h0,h2,hd,hc⟩:=ZY hz
 obtain ⟨q,rfl⟩:∃ q:Nat,k=q:=⟨k.toNat,by omega⟩
 rw [Int.toNat_natCast] at hd
 have hq:q<3:=by omega
 obtain ⟨p,ep,hlt,_,_⟩:=X4 hp hs hq hd
 have hl6:=(WD hp hq).1
 have hf:=Lc m (Ys rows m q) q
 intro x hx
 unfold Yt goM at hx
 rw [Int.toNat_natCast] at hx
 split at hx
 ·simp at hx
 rename_i h9
 simp only [List.mem_singleton] at hx
 subst hx
 unfold okB
 simp only
 have h12:(ZG m (Ys rows m q) q).2=12∨(ZG m (Ys rows m q) q).2=13:=by omega
 rw [if_neg (by omega),if_pos h12,ep]
 rw [Bool.and_eq_true]
 exact ⟨ZE.2 (by omega),ZE.2 (by omega)⟩
theorem ZW {rows:List (List I3)} {m:V4} {k:Int} (hp:Zn rows=true) (hs:Zk m=true) (hz:Zx rows m k=0):Zk (goM rows m k).1=true:=by
 obtain ⟨h0,h2,hd,hc⟩:=ZY hz
 exact Qc hp hs (by omega) hd
theorem Xs {x:I3} (h:okB x=true):I3.fits x:=by
 unfold okB at h
 split at h
 ·rename_i h1
  simp only [Bool.and_eq_true,decide_eq_true_eq] at h
  exact ⟨Ye (by omega) (by omega),Ye (by omega) (by omega),Ye (by omega) (by omega)⟩
 split at h
 ·rename_i h1
  rw [Bool.and_eq_true] at h
  have a:=ZE.1 h.1
  have b:=ZE.1 h.2
  exact ⟨Ye (by omega) (by omega),Ye (by omega) (by omega),Ye (by omega) (by omega)⟩
 cases h
theorem JX (rows:List (List I3)) (m:V4):∀ x ∈ XW rows m,okB x=true:=by
 unfold XW
 split
 ·intro x hx
  simp only [List.mem_singleton] at hx
  subst hx
  rfl
 simp
end Go.Proofs.YtojcgajjnmjjpaaGreatDoor
