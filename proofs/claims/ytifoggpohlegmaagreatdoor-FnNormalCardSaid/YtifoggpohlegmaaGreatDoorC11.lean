/-
  Joined: MachS, StepQ, TakM, JoinC.
-/
import Derived.Test.YtifoggpohlegmaaGreatDoorC10

namespace Go.Proofs.YtifoggpohlegmaaGreatDoor
set_option maxRecDepth 100000
set_option maxHeartbeats 16000000
open Go.RowKit
set_option linter.unusedVariables false
set_option linter.unusedSimpArgs false

theorem OwnI.open9 {w:World} {B g n c:Nat} {zs:List Int} (h:OwnI w B (some ⟨g,0,none⟩,n,c) zs):∃ cur:List Value,Blk w g 3 cur∧cur.length=c∧cur.take n=zs.map (Value.int .i64)∧B≤g∧n≤c∧c≤maxLen:=by
 unfold OwnI at h
 simp only at h
 rcases h.2 with ⟨h0,_⟩ | ⟨g',cap,cur,hv,hB,hh,hn,hm,hs,ht⟩
 ·cases h0
 ·cases hv
  refine ⟨cur.toList,by unfold Blk;simpa using hh,by simpa using hs,by simpa using ht,hB,hn,hm⟩
theorem OwnI.shut9 {w:World} {B g n c:Nat} {zs:List Int} {cur:List Value} (h:Blk w g 3 cur) (hc:cur.length=c) (ht:cur.take n=zs.map (Value.int .i64)) (hl:zs.length=n) (hB:B≤g) (hn:n≤c) (hm:c≤maxLen):OwnI w B (some ⟨g,0,none⟩,n,c) zs:=
 ⟨by simpa using hl,.inr ⟨g,c,_,rfl,hB,h,hn,hm,by simpa using hc,by simpa using ht⟩⟩
theorem take_splice {cur cs:List Value} {off n:Nat} (h:off+cs.length≤n) (hn:n≤cur.length):(splice cur off cs).take n=splice (cur.take n) off cs:=by
 unfold splice
 have h1:(cur.take n).take off=cur.take off:=by rw [List.take_take,Nat.min_eq_left (by omega)]
 have h2:(cur.take n).drop (off+cs.length)=(cur.drop (off+cs.length)).take (n - (off+cs.length)):=List.drop_take
 have h3:(cur.take off).length=off:=by simp;omega
 rw [h1,h2,List.take_append,List.take_of_length_le (show (cur.take off).length≤n by omega),h3,List.take_append,List.take_of_length_le (show cs.length≤n - off by omega),Nat.sub_sub]
theorem OwnI.spliced9 {w':World} {B g n c off:Nat} {zs zs':List Int} {cur:List Value} {cs:List Value} (hc:cur.length=c) (ht:cur.take n=zs.map (Value.int .i64)) (hB:B≤g) (hn:n≤c) (hm:c≤maxLen) (hw:Blk w' g 3 (splice cur off cs)) (hf:off+cs.length≤n) (hz:splice (zs.map (Value.int .i64)) off cs=zs'.map (Value.int .i64)) (hl:zs'.length=n):OwnI w' B (some ⟨g,0,none⟩,n,c) zs':=
 OwnI.shut9 hw ((length_splice cur off cs (by omega)).trans hc) (by rw [take_splice hf (by omega),ht,hz]) hl hB hn hm
theorem OwnV.drew9 {w:World} {B:Nat} {s:S4} {m:V4} (h:OwnV w B s m):OwnV w.drew B s m:=h
section
variable {w w' : World} {B g n c : Nat} {s0 s1 s2 s3 : Sl} {m : V4} {zs' : List Int}
theorem kept_ap {s:Sl} {zs:List Int} (h:OwnI w B s zs) (hg:w.grownBy w' (some g)) (ha:Apart (some ⟨g,0,none⟩,n,c) s):OwnI w' B s zs:=
 World.ownsRow.kept h hg (by
  cases hb:(Value.slice s.1 s.2.1 s.2.2).ownBlock with
  | none=>exact .inl rfl
  | some g'=>exact .inr fun e=>ha g rfl (by rw [hb,e]))
theorem OwnV.into1 (h:OwnV w B (s0,(some ⟨g,0,none⟩,n,c),s2,s3) m) (hg:w.grownBy w' (some g)) (hn:OwnI w' B (some ⟨g,0,none⟩,n,c) zs'):OwnV w' B (s0,(some ⟨g,0,none⟩,n,c),s2,s3) (m.1,zs',m.2.2):=
 ⟨⟨kept_ap h.1.1 hg h.2.1.symm,hn,kept_ap h.1.2.2.1 hg h.2.2.2.2.1,kept_ap h.1.2.2.2 hg h.2.2.2.2.2.1⟩,h.2⟩
theorem OwnV.into2 (h:OwnV w B (s0,s1,(some ⟨g,0,none⟩,n,c),s3) m) (hg:w.grownBy w' (some g)) (hn:OwnI w' B (some ⟨g,0,none⟩,n,c) zs'):OwnV w' B (s0,s1,(some ⟨g,0,none⟩,n,c),s3) (m.1,m.2.1,zs',m.2.2.2):=
 ⟨⟨kept_ap h.1.1 hg h.2.2.1.symm,kept_ap h.1.2.1 hg h.2.2.2.2.1.symm,hn,kept_ap h.1.2.2.2 hg h.2.2.2.2.2.2⟩,h.2⟩
theorem OwnV.into3 (h:OwnV w B (s0,s1,s2,(some ⟨g,0,none⟩,n,c)) m) (hg:w.grownBy w' (some g)) (hn:OwnI w' B (some ⟨g,0,none⟩,n,c) zs'):OwnV w' B (s0,s1,s2,(some ⟨g,0,none⟩,n,c)) (m.1,m.2.1,m.2.2.1,zs'):=
 ⟨⟨kept_ap h.1.1 hg h.2.2.2.1.symm,kept_ap h.1.2.1 hg h.2.2.2.2.2.1.symm,kept_ap h.1.2.2.1 hg h.2.2.2.2.2.2.symm,hn⟩,h.2⟩
end
theorem blk_src {w:World} {g t off:Nat} {L cs:List Value} (h:Blk w g t L) (hc:∀ j v,cs[j]?=some v→L[off+j]?=some v):∀ j v,cs[j]?=some v→w.cell? ((⟨g,off,none⟩:Addr).add j)=some v:=by
 intro j v hj
 have e:(⟨g,off,none⟩:Addr).add j=⟨g,off+j,none⟩:=by unfold Addr.add;split<;>simp_all
 rw [e,h.cell,hc j v hj]

theorem idxT_0 (w0 w1 w2 w3 w4 w5 w6 w7 w8 w9 w10 w11:Value) (W:World):(Instr.index 86 (.agg #[w0,w1,w2,w3,w4,w5,w6,w7,w8,w9,w10,w11]) (.int .i64 0)).run Tryz.prog W=.ok (.agg #[w0,w1,w2,w3]) W:=by kernel_rfl
theorem idxT_1 (w0 w1 w2 w3 w4 w5 w6 w7 w8 w9 w10 w11:Value) (W:World):(Instr.index 86 (.agg #[w0,w1,w2,w3,w4,w5,w6,w7,w8,w9,w10,w11]) (.int .i64 1)).run Tryz.prog W=.ok (.agg #[w4,w5,w6,w7]) W:=by kernel_rfl
theorem idxT_2 (w0 w1 w2 w3 w4 w5 w6 w7 w8 w9 w10 w11:Value) (W:World):(Instr.index 86 (.agg #[w0,w1,w2,w3,w4,w5,w6,w7,w8,w9,w10,w11]) (.int .i64 2)).run Tryz.prog W=.ok (.agg #[w8,w9,w10,w11]) W:=by kernel_rfl


theorem okI_parts {x:I3} (h:okI x=true) :
  (∃ a q:Nat,x=(1,(a:Int),(q:Int))∧a<2∧q<4)∨(∃ q a:Nat,x=(2,(q:Int),(a:Int))∧q<4∧a<2)∨(∃ (a:Nat) (z:Int),x=(3,(a:Int),z)∧a<2)∨(∃ (a:Nat) (z:Int),x=(4,(a:Int),z)∧a<2∧0≤z∧z≤9) ∨
  (∃ (a:Nat) (z:Int),x=(5,(a:Int),z)∧a<2)∨(∃ (a:Nat) (z:Int),x=(6,(a:Int),z)∧a<2)∨(∃ (a:Nat) (z:Int),x=(7,(a:Int),z)∧a<2∧1≤z∧z≤6)∨(∃ (a:Nat) (z:Int),x=(8,(a:Int),z)∧a<2):=by
 obtain ⟨o,a,b⟩:=x
 unfold okI at h
 simp only at h
 rcases op_cases (o,a,b) with e | e | e | e | e | e | e | e | e<;>simp only at e
 ·subst e
  simp [inB_true] at h
  exact .inl ⟨a.toNat,b.toNat,by rw [show ((a.toNat:Nat):Int)=a by omega,show ((b.toNat:Nat):Int)=b by omega],by omega,by omega⟩
 ·subst e
  simp [inB_true] at h
  exact .inr (.inl ⟨a.toNat,b.toNat,by rw [show ((a.toNat:Nat):Int)=a by omega,show ((b.toNat:Nat):Int)=b by omega],by omega,by omega⟩)
 ·subst e
  simp [inB_true] at h
  exact .inr (.inr (.inl ⟨a.toNat,b,by rw [show ((a.toNat:Nat):Int)=a by omega],by omega⟩))
 ·subst e
  simp [inB_true] at h
  exact .inr (.inr (.inr (.inl ⟨a.toNat,b,by rw [show ((a.toNat:Nat):Int)=a by omega],by omega,by omega,by omega⟩)))
 ·subst e
  simp [inB_true] at h
  exact .inr (.inr (.inr (.inr (.inl ⟨a.toNat,b,by rw [show ((a.toNat:Nat):Int)=a by omega],by omega⟩))))
 ·subst e
  simp [inB_true] at h
  exact .inr (.inr (.inr (.inr (.inr (.inl ⟨a.toNat,b,by rw [show ((a.toNat:Nat):Int)=a by omega],by omega⟩)))))
 ·subst e
  simp [inB_true] at h
  exact .inr (.inr (.inr (.inr (.inr (.inr (.inl ⟨a.toNat,b,by rw [show ((a.toNat:Nat):Int)=a by omega],by omega,by omega,by omega⟩))))))
 ·subst e
  simp [inB_true] at h
  exact .inr (.inr (.inr (.inr (.inr (.inr (.inr ⟨a.toNat,b,by rw [show ((a.toNat:Nat):Int)=a by omega],by omega⟩))))))
 ·obtain ⟨e1,e2,e3,e4,e5,e6,e7,e8⟩:=e
  simp [e1,e2,e3,e4,e5,e6,e7,e8] at h
section
variable (m : V4) (k a q : Nat) (z : Int)
theorem stepM_1:stepM m (1,(a:Int),(q:Int)) k=((m.1.set k (m.1.getD k 0+1),m.2.1,m.2.2.1,m.2.2.2.set (k*2+a) (m.2.1.getD q 0)),0):=rfl
theorem stepM_2:stepM m (2,(q:Int),(a:Int)) k=((m.1.set k (m.1.getD k 0+1),m.2.1.set q (m.2.2.2.getD (k*2+a) 0),m.2.2.1,m.2.2.2),0):=rfl
theorem stepM_3:stepM m (3,(a:Int),z) k=((m.1.set k (m.1.getD k 0+1),m.2.1,m.2.2.1,m.2.2.2.set (k*2+a) z),0):=rfl
theorem stepM_4:stepM m (4,(a:Int),z) k=((m.1.set k (m.1.getD k 0+1),m.2.1,m.2.2.1,m.2.2.2.set (k*2+a) ((m.2.2.2.getD (k*2+a) 0+z) % 10)),0):=rfl
theorem stepM_5:stepM m (5,(a:Int),z) k=((m.1.set k (m.1.getD k 0+1),m.2.1,m.2.2.1.set a ((k:Int)+1),m.2.2.2),0):=rfl
theorem stepM_6:stepM m (6,(a:Int),z) k=if m.2.2.1.getD a 0=(k:Int)+1 then ((m.1.set k (m.1.getD k 0+1),m.2.1,m.2.2.1.set a 0,m.2.2.2),0) else ((m.1.set k (m.1.getD k 0+1),m.2),13):=rfl
theorem stepM_7:stepM m (7,(a:Int),z) k=if m.2.2.2.getD (k*2+a) 0=0 then ((m.1.set k (m.1.getD k 0+1),m.2),0) else ((m.1.set k z,m.2),0):=rfl
theorem stepM_8:stepM m (8,(a:Int),z) k=if m.2.2.2.getD (k*2+a) 0=z then ((m.1.set k (m.1.getD k 0+1),m.2),0) else ((m.1.set k (m.1.getD k 0+1),m.2),12):=rfl
end

theorem l03Step_is {w:World} {a9:Option Addr} {len cap:Nat} {cs:Sl × Sl × Sl} {rows:List (List I3)} {s:S4} {m:V4} (hl:len=3) (hR:RowsAt w a9 cs rows) (h:Vmem w s m) (hp:progOk rows=true) (hs:shapeOk m=true) {k:Nat} (hk:k<3) (hd:doneM rows m k=false) :
  Calls Tryz.prog 99 #[.agg #[.slice a9 len cap],s.val,.int .i64 k] w fun e w'=>VmGot e w' w.heap.size (stepM m (insM rows m k) k).1 (stepM m (insM rows m k) k).2∧Below w.heap.size w w':=by
 obtain ⟨p,ep,hlt,hi,hok⟩:=at_ins hp hs hk hd
 have hl6:=(codeM_len hp hk).1
 obtain ⟨b,off,rfl,_,hrow⟩:=hR
 obtain ⟨e0,hI⟩:=hrow k hk
 have hM:=h
 obtain ⟨⟨j0,_⟩,⟨j1,_⟩,⟨j2,_⟩,⟨j3,_⟩⟩:=h
 obtain ⟨l0,l1,l2,l3,_⟩:=shape_parts hs
 obtain ⟨⟨a0,n0,c0⟩,⟨a1,n1,c1⟩,⟨a2,n2,c2⟩,⟨a3,n3,c3⟩⟩:=s
 simp only at j0 j1 j2 j3
 obtain ⟨rfl,b0,o0,rfl⟩:=some_of_ints j0 l0 (by decide)
 obtain ⟨rfl,b1,o1,rfl⟩:=some_of_ints j1 l1 (by decide)
 obtain ⟨rfl,b2,o2,rfl⟩:=some_of_ints j2 l2 (by decide)
 obtain ⟨rfl,b3,o3,rfl⟩:=some_of_ints j3 l3 (by decide)
 have e1:=ints_at9 j0 (t:=k) hk
 rw [ep] at e1
 obtain ⟨cb,co,ea,hpn,q0,q1,q2⟩:=ins_at hI hlt
 rw [← hi] at q0 q1 q2
 rw [ea] at e0
 have hr9:=(shape_bounds hs).2.2.2
 have hriA:∀ a:Nat,(k:Int)*2+(a:Int)=((k*2+a:Nat):Int):=fun a=>by omega
 have hr6A:∀ a:Nat,a<2→k*2+a<6:=fun a ha=>by omega
 generalize insM rows m k=x at *
 rcases okI_parts hok with ⟨a,q,rfl,ha,hq⟩ | ⟨q,a,rfl,hq,ha⟩ | ⟨a,z,rfl,ha⟩ | ⟨a,z,rfl,ha,hz⟩ | ⟨a,z,rfl,ha⟩ | ⟨a,z,rfl,ha⟩ | ⟨a,z,rfl,ha,hz⟩ | ⟨a,z,rfl,ha⟩<;>simp only at q0 q1 q2
 ·rw [stepM_1,ep]
  exact lstep_load b off len cap b0 o0 c0 b1 o1 c1 b2 o2 c2 b3 o3 c3 k cb co _ _ p a q (k*2+a) _ m w hk hl hpn (by omega) hs hM ep e0 e1 q0 q1 q2 (hr6A a ha) (hriA a) hq rfl
 ·rw [stepM_2,ep]
  exact lstep_store b off len cap b0 o0 c0 b1 o1 c1 b2 o2 c2 b3 o3 c3 k cb co _ _ p a q (k*2+a) _ m w hk hl hpn (by omega) hs hM ep e0 e1 q0 q1 q2 (hr6A a ha) (hriA a) hq rfl
 ·rw [stepM_3,ep]
  exact lstep_set b off len cap b0 o0 c0 b1 o1 c1 b2 o2 c2 b3 o3 c3 k cb co _ _ p a (k*2+a) z m w hk hl hpn (by omega) hs hM ep e0 e1 q0 q1 q2 (hr6A a ha) (hriA a)
 ·rw [stepM_4,ep]
  exact lstep_add b off len cap b0 o0 c0 b1 o1 c1 b2 o2 c2 b3 o3 c3 k cb co _ _ p a (k*2+a) z _ _ m w hk hl hpn (by omega) hs hM ep e0 e1 q0 q1 q2 (hr6A a ha) (hriA a) rfl hz (getD_in hr9 (by decide) _) rfl
 ·rw [stepM_5,ep]
  exact lstep_lock b off len cap b0 o0 c0 b1 o1 c1 b2 o2 c2 b3 o3 c3 k cb co _ _ p a z m w hk hl hpn (by omega) hs hM ep e0 e1 q0 q1 q2 ha
 ·rw [stepM_6,ep]
  by_cases hv:m.2.2.1.getD a 0=(k:Int)+1
  ·rw [if_pos hv]
   exact lstep_unlock_yes b off len cap b0 o0 c0 b1 o1 c1 b2 o2 c2 b3 o3 c3 k cb co _ _ p a z m w hk hl hpn (by omega) hs hM ep e0 e1 q0 q1 q2 ha hv
  ·rw [if_neg hv]
   exact lstep_unlock_no b off len cap b0 o0 c0 b1 o1 c1 b2 o2 c2 b3 o3 c3 k cb co _ _ p a z _ m w hk hl hpn (by omega) hs hM ep e0 e1 q0 q1 q2 ha rfl hv
 ·rw [stepM_7,ep]
  by_cases hv:m.2.2.2.getD (k*2+a) 0=0
  ·rw [if_pos hv]
   exact lstep_stay b off len cap b0 o0 c0 b1 o1 c1 b2 o2 c2 b3 o3 c3 k cb co _ _ p a (k*2+a) z m w hk hl hpn (by omega) hs hM ep e0 e1 q0 q1 q2 (hr6A a ha) (hriA a) hv
  ·rw [if_neg hv]
   exact lstep_jump b off len cap b0 o0 c0 b1 o1 c1 b2 o2 c2 b3 o3 c3 k cb co _ _ p a (k*2+a) z _ m w hk hl hpn (by omega) hs hM ep e0 e1 q0 q1 q2 (hr6A a ha) (hriA a) rfl hv
 ·rw [stepM_8,ep]
  by_cases hv:m.2.2.2.getD (k*2+a) 0=z
  ·rw [if_pos hv]
   exact lstep_assert_yes b off len cap b0 o0 c0 b1 o1 c1 b2 o2 c2 b3 o3 c3 k cb co _ _ p a (k*2+a) z m w hk hl hpn (by omega) hs hM ep e0 e1 q0 q1 q2 (hr6A a ha) (hriA a) hv
  ·rw [if_neg hv]
   exact lstep_assert_no b off len cap b0 o0 c0 b1 o1 c1 b2 o2 c2 b3 o3 c3 k cb co _ _ p a (k*2+a) z _ m w hk hl hpn (by omega) hs hM ep e0 e1 q0 q1 q2 (hr6A a ha) (hriA a) rfl hv




theorem allIn_set {zs:List Int} {n hi v:Int} (h:allIn zs n hi=true) (k:Nat) (h0:0≤v) (h1:v≤hi):allIn (zs.set k v) n hi=true:=by
 obtain ⟨hl,ha⟩:=allIn_parts h
 unfold allIn
 simp only [Bool.and_eq_true,List.all_eq_true,decide_eq_true_eq,List.length_set]
 exact ⟨fun z hz=>by rcases List.mem_or_eq_of_mem_set hz with q | q;exact ha z q;subst q;exact ⟨h0,h1⟩,hl⟩
theorem shape_step {rows:List (List I3)} {m:V4} (hp:progOk rows=true) (hs:shapeOk m=true) {k:Nat} (hk:k<3) (hd:doneM rows m k=false):shapeOk (stepM m (insM rows m k) k).1=true:=by
 obtain ⟨p,ep,hlt,hi,hok⟩:=at_ins hp hs hk hd
 have hl6:=(codeM_len hp hk).1
 obtain ⟨b0,b1,b2,b3⟩:=shape_bounds hs
 have hs':=hs
 unfold shapeOk at hs'
 simp only [Bool.and_eq_true] at hs'
 obtain ⟨s0,s1,s2,s3⟩:=hs'
 have hpc:allIn (m.1.set k (m.1.getD k 0+1)) 3 6=true:=allIn_set s0 k (by omega) (by omega)
 have g1:=fun j=>getD_in b1 (by decide) j
 have g3:=fun j=>getD_in b3 (by decide) j
 generalize insM rows m k=x at *
 obtain ⟨o,y,v⟩:=x
 unfold okI at hok
 simp only at hok
 unfold shapeOk
 rcases op_cases (o,y,v) with e | e | e | e | e | e | e | e | e<;>simp only at e
 ·subst e
  simp [inB_true] at hok
  simp only [stepM,if_true,Bool.and_eq_true]
  exact ⟨hpc,s1,s2,allIn_set s3 _ (g1 _).1 (g1 _).2⟩
 ·subst e
  simp [inB_true] at hok
  simp [stepM]
  exact ⟨hpc,allIn_set s1 _ (g3 _).1 (g3 _).2,s2,s3⟩
 ·subst e
  simp [inB_true] at hok
  simp [stepM]
  exact ⟨hpc,s1,s2,allIn_set s3 _ (by omega) (by omega)⟩
 ·subst e
  simp [inB_true] at hok
  simp [stepM]
  exact ⟨hpc,s1,s2,allIn_set s3 _ (by omega) (by omega)⟩
 ·subst e
  simp [inB_true] at hok
  simp [stepM]
  exact ⟨hpc,s1,allIn_set s2 _ (by omega) (by omega),s3⟩
 ·subst e
  simp [inB_true] at hok
  simp [stepM]
  split
  ·exact ⟨hpc,s1,allIn_set s2 _ (by omega) (by omega),s3⟩
  ·exact ⟨hpc,s1,s2,s3⟩
 ·subst e
  simp [inB_true] at hok
  simp [stepM]
  split
  ·exact ⟨hpc,s1,s2,s3⟩
  ·exact ⟨allIn_set s0 _ (by omega) (by omega),s1,s2,s3⟩
 ·subst e
  simp [inB_true] at hok
  simp [stepM]
  split<;>exact ⟨hpc,s1,s2,s3⟩
 ·obtain ⟨e1,e2,e3,e4,e5,e6,e7,e8⟩:=e
  simp [e1,e2,e3,e4,e5,e6,e7,e8] at hok
theorem can_parts {rows:List (List I3)} {m:V4} {k:Nat} (h:canM rows m k=true):doneM rows m k=false∧waitM rows m k=false:=by
 unfold canM at h
 unfold waitM
 simp at h
 simp [h]
theorem shape_fits9 {z:V4} (h:shapeOk z=true):V4.fits z∧z.1.length≤1048576∧z.2.1.length≤1048576∧z.2.2.1.length≤1048576∧z.2.2.2.length≤1048576:=by
 obtain ⟨l0,l1,l2,l3,_⟩:=shape_parts h
 obtain ⟨b0,b1,b2,b3⟩:=shape_bounds h
 exact ⟨⟨fun x hx=>fits_small (by have:=b0 x hx;omega) (by have:=b0 x hx;omega),fun x hx=>fits_small (by have:=b1 x hx;omega) (by have:=b1 x hx;omega),fun x hx=>fits_small (by have:=b2 x hx;omega) (by have:=b2 x hx;omega),fun x hx=>fits_small (by have:=b3 x hx;omega) (by have:=b3 x hx;omega)⟩,by omega,by omega,by omega,by omega⟩


theorem grown_box {a b c:World} {r:Option Nat} {j:Nat} (h:a.grownBy b r) (k:b.grownBy c (some j)) (hj:a.heap.size≤j):a.grownBy c r:=
 ⟨k.os.trans h.os,k.tape.trans h.tape,k.output.trans h.output,Nat.le_trans h.size k.size,fun i hi hr=>(k.block i (Nat.lt_of_lt_of_le hi h.size) (by simp;omega)).trans (h.block i hi hr)⟩


theorem idxC_0 (x y z:Value) (W:World):(Instr.index 178 (.agg #[x,y,z]) (.int .i64 0)).run Tryz.prog W=.ok x W:=by kernel_rfl
theorem idxC_1 (x y z:Value) (W:World):(Instr.index 178 (.agg #[x,y,z]) (.int .i64 1)).run Tryz.prog W=.ok y W:=by kernel_rfl
theorem idxC_2 (x y z:Value) (W:World):(Instr.index 178 (.agg #[x,y,z]) (.int .i64 2)).run Tryz.prog W=.ok z W:=by kernel_rfl
def inC (a b:Nat→Nat):Bool:=decide (a 0≤b 0) && (decide (a 1≤b 1) && decide (a 2≤b 2))
def ck (f:Nat→Nat):Value:=.agg #[.int .i64 (f 0),.int .i64 (f 1),.int .i64 (f 2)]
theorem within_is (a b:Nat→Nat) (w:World) :
  Calls Tryz.prog 170 #[ck a,ck b] w fun e w'=>e=.returned (.bool (inC a b))∧Below w.heap.size w w':=by
 unfold ck inC
 generalize a 0=a0
 generalize a 1=a1
 generalize a 2=a2
 generalize b 0=b0
 generalize b 1=b1
 generalize b 2=b2
 have q0:=idxC_0 (.int .i64 a0) (.int .i64 a1) (.int .i64 a2)
 have q1:=idxC_1 (.int .i64 a0) (.int .i64 a1) (.int .i64 a2)
 have q2:=idxC_2 (.int .i64 a0) (.int .i64 a1) (.int .i64 a2)
 by_cases h0:a0≤b0
 ·by_cases h1:a1≤b1
  ·by_cases h2:a2≤b2
   ·have g0:¬ (a0:Int) > (b0:Int):=by omega
    have g1:¬ (a1:Int) > (b1:Int):=by omega
    have g2:¬ (a2:Int) > (b2:Int):=by omega
    simp only [h0,h1,h2,decide_true,decide_false,Bool.and_self,Bool.and_true,Bool.true_and,Bool.false_and,Bool.and_false]
    clear h0 h1 h2
    go_enter Tryz.func170,Tryz.ntmps170
    go_wp2
    refine wp_loop_rounds 4 ?_
    rw [rounds_succ]
    go_wp2
    rw [rounds_succ]
    go_wp2
    rw [rounds_succ]
    go_wp2
    rw [rounds_succ]
    go_wp2
    go_ret
    exact ⟨rfl,by go_grown⟩
   ·have g0:¬ (a0:Int) > (b0:Int):=by omega
    have g1:¬ (a1:Int) > (b1:Int):=by omega
    have g2:(a2:Int) > (b2:Int):=by omega
    simp only [h0,h1,h2,decide_true,decide_false,Bool.and_self,Bool.and_true,Bool.true_and,Bool.false_and,Bool.and_false]
    clear h0 h1 h2
    go_enter Tryz.func170,Tryz.ntmps170
    go_wp2
    refine wp_loop_rounds 4 ?_
    rw [rounds_succ]
    go_wp2
    rw [rounds_succ]
    go_wp2
    rw [rounds_succ]
    go_wp2
    go_ret
    exact ⟨rfl,by go_grown⟩
  ·have g0:¬ (a0:Int) > (b0:Int):=by omega
   have g1:(a1:Int) > (b1:Int):=by omega
   simp only [h0,h1,decide_true,decide_false,Bool.and_self,Bool.and_true,Bool.true_and,Bool.false_and,Bool.and_false]
   clear h0 h1
   go_enter Tryz.func170,Tryz.ntmps170
   go_wp2
   refine wp_loop_rounds 4 ?_
   rw [rounds_succ]
   go_wp2
   rw [rounds_succ]
   go_wp2
   go_ret
   exact ⟨rfl,by go_grown⟩
 ·have g0:(a0:Int) > (b0:Int):=by omega
  simp only [h0,decide_true,decide_false,Bool.and_self,Bool.and_true,Bool.true_and,Bool.false_and,Bool.and_false]
  clear h0
  go_enter Tryz.func170,Tryz.ntmps170
  go_wp2
  refine wp_loop_rounds 4 ?_
  rw [rounds_succ]
  go_wp2
  go_ret
  exact ⟨rfl,by go_grown⟩

def set3 (cs:List Value) (off:Nat) (x y z:Value):List Value:=((cs.set off x).set (off+1) y).set (off+2) z
theorem join_is {w:World} {g t off:Nat} {cs:List Value} (hB:Blk w g t cs) (x y:Nat→Nat) (h0:cs[off]?=some (.int .i64 (x 0))) (h1:cs[off+1]?=some (.int .i64 (x 1))) (h2:cs[off+2]?=some (.int .i64 (x 2))) :
  Calls Tryz.prog 169 #[.pointer (some ⟨g,off,none⟩),ck y] w fun e w'=>e=.returned (.tuple #[])∧Blk w' g t (set3 cs off (.int .i64 (max (x 0) (y 0):Nat)) (.int .i64 (max (x 1) (y 1):Nat)) (.int .i64 (max (x 2) (y 2):Nat)))∧w.grownBy w' (some g):=by
 unfold ck set3
 generalize x 0=x0 at *
 generalize x 1=x1 at *
 generalize x 2=x2 at *
 generalize y 0=y0
 generalize y 1=y1
 generalize y 2=y2
 have q0:=idxC_0 (.int .i64 y0) (.int .i64 y1) (.int .i64 y2)
 have q1:=idxC_1 (.int .i64 y0) (.int .i64 y1) (.int .i64 y2)
 have q2:=idxC_2 (.int .i64 y0) (.int .i64 y1) (.int .i64 y2)
 have hal:Below w.heap.size w (w.alloc (.cells #[.int .i64 y0,.int .i64 y1,.int .i64 y2] 178)):=by go_grown
 have pA:=hB.below hal
 have ga:w.grownBy (w.alloc (.cells #[.int .i64 y0,.int .i64 y1,.int .i64 y2] 178)) (some g):=grown_new hal
 clear hal hB
 go_enter Tryz.func169,Tryz.ntmps169
 go_wp2
 generalize w.alloc (.cells #[.int .i64 y0,.int .i64 y1,.int .i64 y2] 178)=U0 at *
 refine wp_loop_rounds 4 ?_
 have c0:=pA.cell (off)
 rw [h0] at c0
 have f0:=pA.frozen (off)
 rw [rounds_succ]
 go_wp2_with fail
 go_region
 first | rw [show (if x0<y0 then (y0:Int) else (x0:Int))=((max x0 y0:Nat):Int) by split<;>omega] | rw [show max (x0:Int) (y0:Int)=((max x0 y0:Nat):Int) by omega]
 have p0:Blk ((U0.setCell ⟨g,off,none⟩ (.int .i64 (max x0 y0:Nat))).drew) g t (cs.set (off) (.int .i64 (max x0 y0:Nat))):=pA.set (off) _
 have g0:w.grownBy ((U0.setCell ⟨g,off,none⟩ (.int .i64 (max x0 y0:Nat))).drew) (some g):=grown_tr ga ⟨rfl,rfl,rfl,by simp,fun i _ hr=>Below.heap_setCell U0 ⟨g,off,none⟩ _ i (fun e=>hr (by rw [e]))⟩
 clear c0 f0 pA ga
 generalize (U0.setCell ⟨g,off,none⟩ (.int .i64 (max x0 y0:Nat))).drew=U1 at *
 go_wp2_with fail
 have c1:=p0.cell (off+1)
 rw [List.getElem?_set_ne (by omega),h1] at c1
 have f1:=p0.frozen (off+1)
 rw [rounds_succ]
 go_wp2_with fail
 go_region
 first | rw [show (if x1<y1 then (y1:Int) else (x1:Int))=((max x1 y1:Nat):Int) by split<;>omega] | rw [show max (x1:Int) (y1:Int)=((max x1 y1:Nat):Int) by omega]
 have p1:Blk ((U1.setCell ⟨g,off+1,none⟩ (.int .i64 (max x1 y1:Nat))).drew) g t ((cs.set (off) (.int .i64 (max x0 y0:Nat))).set (off+1) (.int .i64 (max x1 y1:Nat))):=p0.set (off+1) _
 have g1:w.grownBy ((U1.setCell ⟨g,off+1,none⟩ (.int .i64 (max x1 y1:Nat))).drew) (some g):=grown_tr g0 ⟨rfl,rfl,rfl,by simp,fun i _ hr=>Below.heap_setCell U1 ⟨g,off+1,none⟩ _ i (fun e=>hr (by rw [e]))⟩
 clear c1 f1 p0 g0
 generalize (U1.setCell ⟨g,off+1,none⟩ (.int .i64 (max x1 y1:Nat))).drew=U2 at *
 go_wp2_with fail
 have c2:=p1.cell (off+2)
 rw [List.getElem?_set_ne (by omega),List.getElem?_set_ne (by omega),h2] at c2
 have f2:=p1.frozen (off+2)
 rw [rounds_succ]
 go_wp2_with fail
 go_region
 first | rw [show (if x2<y2 then (y2:Int) else (x2:Int))=((max x2 y2:Nat):Int) by split<;>omega] | rw [show max (x2:Int) (y2:Int)=((max x2 y2:Nat):Int) by omega]
 have p2:Blk ((U2.setCell ⟨g,off+2,none⟩ (.int .i64 (max x2 y2:Nat))).drew) g t (((cs.set (off) (.int .i64 (max x0 y0:Nat))).set (off+1) (.int .i64 (max x1 y1:Nat))).set (off+2) (.int .i64 (max x2 y2:Nat))):=p1.set (off+2) _
 have g2:w.grownBy ((U2.setCell ⟨g,off+2,none⟩ (.int .i64 (max x2 y2:Nat))).drew) (some g):=grown_tr g1 ⟨rfl,rfl,rfl,by simp,fun i _ hr=>Below.heap_setCell U2 ⟨g,off+2,none⟩ _ i (fun e=>hr (by rw [e]))⟩
 clear c2 f2 p1 g1
 generalize (U2.setCell ⟨g,off+2,none⟩ (.int .i64 (max x2 y2:Nat))).drew=U3 at *
 go_wp2_with fail
 rw [rounds_succ]
 go_wp2
 go_end0
 exact ⟨rfl,p2,g2⟩
end Go.Proofs.YtifoggpohlegmaaGreatDoor
