/-
  Joined: MachS, StepQ, StepPl.
-/
import Derived.Test.YtgmhhegckcionaaGreatDoorF14

namespace Go.Proofs.YtgmhhegckcionaaGreatDoor
set_option maxRecDepth 100000
set_option maxHeartbeats 16000000
open Go.RowKit
set_option linter.unusedVariables false
set_option linter.unusedSimpArgs false

theorem Z0.open9 {w:World} {B g n c:Nat} {zs:List Int} (h:Z0 w B (some ⟨g,0,none⟩,n,c) zs):∃ cur:List Value,Blk w g 3 cur∧cur.length=c∧cur.take n=zs.map (Value.int .i64)∧B≤g∧n≤c∧c≤maxLen:=by
 unfold Z0 at h
 simp only at h
 rcases h.2 with ⟨h0,_⟩ | ⟨g',cap,cur,hv,hB,hh,hn,hm,hs,ht⟩
 ·cases h0
 cases hv
 refine ⟨cur.toList,by unfold Blk;simpa using hh,by simpa using hs,by simpa using ht,hB,hn,hm⟩
theorem Z0.shut9 {w:World} {B g n c:Nat} {zs:List Int} {cur:List Value} (h:Blk w g 3 cur) (hc:cur.length=c) (ht:cur.take n=zs.map (Value.int .i64)) (hl:zs.length=n) (hB:B≤g) (hn:n≤c) (hm:c≤maxLen):Z0 w B (some ⟨g,0,none⟩,n,c) zs:=
 ⟨by simpa using hl,.inr ⟨g,c,_,rfl,hB,h,hn,hm,by simpa using hc,by simpa using ht⟩⟩
theorem LK {cur cs:List Value} {off n:Nat} (h:off+cs.length≤n) (hn:n≤cur.length):(splice cur off cs).take n=splice (cur.take n) off cs:=by
 unfold splice
 have h1:(cur.take n).take off=cur.take off:=by rw [List.take_take,Nat.min_eq_left (by omega)]
 have h2:(cur.take n).drop (off+cs.length)=(cur.drop (off+cs.length)).take (n - (off+cs.length)):=List.drop_take
 have h3:(cur.take off).length=off:=by simp;omega
 rw [h1,h2,List.take_append,List.take_of_length_le (show (cur.take off).length≤n by omega),h3,List.take_append,List.take_of_length_le (show cs.length≤n - off by omega),Nat.sub_sub]
theorem Z0.spliced9 {w':World} {B g n c off:Nat} {zs zs':List Int} {cur:List Value} {cs:List Value} (hc:cur.length=c) (ht:cur.take n=zs.map (Value.int .i64)) (hB:B≤g) (hn:n≤c) (hm:c≤maxLen) (hw:Blk w' g 3 (splice cur off cs)) (hf:off+cs.length≤n) (hz:splice (zs.map (Value.int .i64)) off cs=zs'.map (Value.int .i64)) (hl:zs'.length=n):Z0 w' B (some ⟨g,0,none⟩,n,c) zs':=
 Z0.shut9 hw ((length_splice cur off cs (by omega)).trans hc) (by rw [LK hf (by omega),ht,hz]) hl hB hn hm
theorem Z3.drew9 {w:World} {B:Nat} {s:S4} {m:V4} (h:Z3 w B s m):Z3 w.drew B s m:=h
section
variable {w w' : World} {B g n c : Nat} {s0 s1 s2 s3 : Sl} {m : V4} {zs' : List Int}
theorem Vf {s:Sl} {zs:List Int} (h:Z0 w B s zs) (hg:w.grownBy w' (some g)) (ha:VY (some ⟨g,0,none⟩,n,c) s):Z0 w' B s zs:=
 World.ownsRow.kept h hg (by
  cases hb:(Value.slice s.1 s.2.1 s.2.2).ownBlock with
  | none=>exact .inl rfl
  | some g'=>exact .inr fun e=>ha g rfl (by rw [hb,e]))
theorem Z3.into1 (h:Z3 w B (s0,(some ⟨g,0,none⟩,n,c),s2,s3) m) (hg:w.grownBy w' (some g)) (hn:Z0 w' B (some ⟨g,0,none⟩,n,c) zs'):Z3 w' B (s0,(some ⟨g,0,none⟩,n,c),s2,s3) (m.1,zs',m.2.2):=
 ⟨⟨Vf h.1.1 hg h.2.1.symm,hn,Vf h.1.2.2.1 hg h.2.2.2.2.1,Vf h.1.2.2.2 hg h.2.2.2.2.2.1⟩,h.2⟩
theorem Z3.into2 (h:Z3 w B (s0,s1,(some ⟨g,0,none⟩,n,c),s3) m) (hg:w.grownBy w' (some g)) (hn:Z0 w' B (some ⟨g,0,none⟩,n,c) zs'):Z3 w' B (s0,s1,(some ⟨g,0,none⟩,n,c),s3) (m.1,m.2.1,zs',m.2.2.2):=
 ⟨⟨Vf h.1.1 hg h.2.2.1.symm,Vf h.1.2.1 hg h.2.2.2.2.1.symm,hn,Vf h.1.2.2.2 hg h.2.2.2.2.2.2⟩,h.2⟩
theorem Z3.into3 (h:Z3 w B (s0,s1,s2,(some ⟨g,0,none⟩,n,c)) m) (hg:w.grownBy w' (some g)) (hn:Z0 w' B (some ⟨g,0,none⟩,n,c) zs'):Z3 w' B (s0,s1,s2,(some ⟨g,0,none⟩,n,c)) (m.1,m.2.1,m.2.2.1,zs'):=
 ⟨⟨Vf h.1.1 hg h.2.2.2.1.symm,Vf h.1.2.1 hg h.2.2.2.2.2.1.symm,Vf h.1.2.2.1 hg h.2.2.2.2.2.2.symm,hn⟩,h.2⟩
end
theorem Sk {w:World} {g t off:Nat} {L cs:List Value} (h:Blk w g t L) (hc:∀ j v,cs[j]?=some v→L[off+j]?=some v):∀ j v,cs[j]?=some v→w.cell? ((⟨g,off,none⟩:Addr).add j)=some v:=by
 intro j v hj
 have e:(⟨g,off,none⟩:Addr).add j=⟨g,off+j,none⟩:=by unfold Addr.add;split<;>simp_all
 rw [e,h.cell,hc j v hj]

theorem Fw (w0 w1 w2 w3 w4 w5 w6 w7 w8 w9 w10 w11:Value) (W:World):(Instr.index 95 (.agg #[w0,w1,w2,w3,w4,w5,w6,w7,w8,w9,w10,w11]) (.int .i64 0)).run Tryz.prog W=.ok (.agg #[w0,w1,w2,w3]) W:=by kernel_rfl
theorem Fx (w0 w1 w2 w3 w4 w5 w6 w7 w8 w9 w10 w11:Value) (W:World):(Instr.index 95 (.agg #[w0,w1,w2,w3,w4,w5,w6,w7,w8,w9,w10,w11]) (.int .i64 1)).run Tryz.prog W=.ok (.agg #[w4,w5,w6,w7]) W:=by kernel_rfl
theorem Fy (w0 w1 w2 w3 w4 w5 w6 w7 w8 w9 w10 w11:Value) (W:World):(Instr.index 95 (.agg #[w0,w1,w2,w3,w4,w5,w6,w7,w8,w9,w10,w11]) (.int .i64 2)).run Tryz.prog W=.ok (.agg #[w8,w9,w10,w11]) W:=by kernel_rfl

theorem GK (g:Nat) (da0:Option Addr) (dn0 dc0:Nat) (da1:Option Addr) (dn1 dc1:Nat) (da2:Option Addr) (dn2 dc2:Nat) (p0 p1 p2 v0 v1 v2 v3 h0 h1 x0 y0 x1 y1 x2 y2:Int) (w:World) (hM:Blk w g 98 [.slice da0 dn0 dc0,.int .i64 p0,.int .i64 x0,.int .i64 y0,.slice da1 dn1 dc1,.int .i64 p1,.int .i64 x1,.int .i64 y1,.slice da2 dn2 dc2,.int .i64 p2,.int .i64 x2,.int .i64 y2,.int .i64 v0,.int .i64 v1,.int .i64 v2,.int .i64 v3,.int .i64 h0,.int .i64 h1]) :
  Calls Tryz.prog 131 #[.pointer (some ⟨g,0,none⟩)] w fun e w'=>Qh e w' w.heap.size ([p0,p1,p2],[v0,v1,v2,v3],[h0,h1],[x0,y0,x1,y1,x2,y2])∧Below w.heap.size w w':=by
 have kN:=YZ
 have bw:Below w.heap.size w (w.alloc (.cells #[.slice none 0 0,.slice none 0 0,.slice none 0 0,.slice none 0 0] 88)):=by go_grown
 have pR:=Blk.new w 88 [.slice none 0 0,.slice none 0 0,.slice none 0 0,.slice none 0 0]
 go_enter Tryz.func131,Tryz.ntmps131
 go_wp2_with fail
 refine (kN _).mono ?_
 rintro e w1 ⟨⟨t,rfl,hO⟩,hb⟩
 obtain ⟨g0,g1,g2,g3,c0,c1,c2,c3,rfl,⟨l0,l1,l2,l3⟩,m0,m1,m2,m3⟩:=QM hO
 unfold maxLen at m0 m1 m2 m3
 have uX:S4.val ((some ⟨g0,0,none⟩,3,c0),(some ⟨g1,0,none⟩,4,c1),(some ⟨g2,0,none⟩,2,c2),(some ⟨g3,0,none⟩,6,c3))=.agg #[.slice (some ⟨g0,0,none⟩) 3 c0,.slice (some ⟨g1,0,none⟩) 4 c1,.slice (some ⟨g2,0,none⟩) 2 c2,.slice (some ⟨g3,0,none⟩) 6 c3]:=rfl
 rw [uX]
 clear uX
 replace hO:=hO.lower9 bw.size
 have bA:Below w1.heap.size w1 (w1.alloc (.cells #[.slice (some ⟨g0,0,none⟩) 3 c0,.slice (some ⟨g1,0,none⟩) 4 c1,.slice (some ⟨g2,0,none⟩) 2 c2,.slice (some ⟨g3,0,none⟩) 6 c3] 88)):=by go_grown
 have pS:=Blk.new w1 88 [.slice (some ⟨g0,0,none⟩) 3 c0,.slice (some ⟨g1,0,none⟩) 4 c1,.slice (some ⟨g2,0,none⟩) 2 c2,.slice (some ⟨g3,0,none⟩) 6 c3]
 have hgS:w.heap.size<w1.heap.size:=Nat.lt_of_lt_of_le (by simp) hb.size
 replace bw:=Zb bw (Zb hb bA)
 replace pR:=pR.below (Zb hb bA)
 replace hO:=hO.below bA
 clear hb bA kN
 go_wp2_with fail
 generalize (w1.alloc (.cells #[.slice (some ⟨g0,0,none⟩) 3 c0,.slice (some ⟨g1,0,none⟩) 4 c1,.slice (some ⟨g2,0,none⟩) 2 c2,.slice (some ⟨g3,0,none⟩) 6 c3] 88))=W1 at *
 generalize w1.heap.size=gS at *
 unfold Zu at hO
 have neS0:=hO.1.1.ne9 pS (by decide)
 have neR0:=hO.1.1.ne9 pR (by decide)
 have neS1:=hO.1.2.1.ne9 pS (by decide)
 have neR1:=hO.1.2.1.ne9 pR (by decide)
 have neS2:=hO.1.2.2.1.ne9 pS (by decide)
 have neR2:=hO.1.2.2.1.ne9 pR (by decide)
 have neS3:=hO.1.2.2.2.ne9 pS (by decide)
 have neR3:=hO.1.2.2.2.ne9 pR (by decide)
 have e1:W1.cell? ⟨gS,1,none⟩=some (.slice (some ⟨g1,0,none⟩) 4 c1):=by simpa using pS.cell 1
 refine wp_region_held_drew (S:=(fun w'=>w'.cell? ⟨gS,1,none⟩=some (.slice (some ⟨g1,0,none⟩) 4 c1))) (by kernel_rfl) e1 (fun hS0=>?_)
 refine tkm 0 7 (.pointer (some ⟨gS,1,none⟩)) ?_
 refine tkm 1 8 (.slice (some ⟨g1,0,none⟩) 4 c1) ?_
 refine tkm 2 9 (.pointer (some ⟨g,0,none⟩)) ?_
 refine tkm 3 10 (.pointer (some ⟨g,0,none⟩)) ?_
 refine tkm 4 11 (.pointer (some ⟨g,12,none⟩)) ?_
 refine tkm 5 12 (.slice (some ⟨g,12,none⟩) 4 4) ?_
 obtain ⟨cur,hcur,hcl,hct,hcB,hcn,hcm⟩:=(hO.1.2.1).open9
 refine tkr 6 13 (fun K hK=>?_)
 refine Z2 rfl _ _ 36 36 rfl 3 Tryz.underlying36 (by kernel_rfl) g1 0 ⟨g,12,none⟩ _ _ _ _ rfl rfl cur 3 hcur.drew [.int .i64 v0,.int .i64 v1,.int .i64 v2,.int .i64 v3] (.int .i64 4) rfl rfl (Sk (hM.below (Zb bw (by go_grown))) (fun j v hj=>by match j,hj with | 0,hj=>exact hj | 1,hj=>exact hj | 2,hj=>exact hj | 3,hj=>exact hj | (j+4),hj=>simp at hj)) (by simp;omega) (by simp [Value.oneCell']) ?_
 intro W2 hB9 gr
 replace hO:=Z3.into1 hO.drew9 gr (Z0.spliced9 (zs':=[v0,v1,v2,v3]) hcl hct hcB hcn hcm hB9.out (by simp) rfl rfl)
 simp only at hO
 replace pS:=(pS.drew).kept gr (fun e=>neS1 (by simpa using e.symm))
 replace pR:=(pR.drew).kept gr (fun e=>neR1 (by simpa using e.symm))
 
 replace bw:=(Zb bw (by go_grown:Below W1.heap.size W1 W1.drew)).grown gr (by have:=bw.size;exact this) (fun x hx=>by cases hx;exact hcB)
 refine hK.out _ _ ?_ (fun hS1=>?_)
 ·exact by simpa using pS.cell 1
 clear hK hS0 hS1 hB9 gr hcur hcl hct hcB hcn hcm
 try simp only [Act.put,tka,tkb,tkc]
 refine wpAnyH_done (by kernel_rfl) ?_ _
 clear e1
 go_wp2_with fail
 have e1:W2.cell? ⟨gS,2,none⟩=some (.slice (some ⟨g2,0,none⟩) 2 c2):=by simpa using pS.cell 2
 refine wp_region_held_drew (S:=(fun w'=>w'.cell? ⟨gS,2,none⟩=some (.slice (some ⟨g2,0,none⟩) 2 c2))) (by kernel_rfl) e1 (fun hS0=>?_)
 refine tkm 0 14 (.pointer (some ⟨gS,2,none⟩)) ?_
 refine tkm 1 15 (.slice (some ⟨g2,0,none⟩) 2 c2) ?_
 refine tkm 2 16 (.pointer (some ⟨g,0,none⟩)) ?_
 refine tkm 3 17 (.pointer (some ⟨g,0,none⟩)) ?_
 refine tkm 4 18 (.pointer (some ⟨g,16,none⟩)) ?_
 refine tkm 5 19 (.slice (some ⟨g,16,none⟩) 2 2) ?_
 obtain ⟨cur,hcur,hcl,hct,hcB,hcn,hcm⟩:=(hO.1.2.2.1).open9
 refine tkr 6 20 (fun K hK=>?_)
 refine Z2 rfl _ _ 36 36 rfl 3 Tryz.underlying36 (by kernel_rfl) g2 0 ⟨g,16,none⟩ _ _ _ _ rfl rfl cur 3 hcur.drew [.int .i64 h0,.int .i64 h1] (.int .i64 2) rfl rfl (Sk (hM.below (Zb bw (by go_grown))) (fun j v hj=>by match j,hj with | 0,hj=>exact hj | 1,hj=>exact hj | (j+2),hj=>simp at hj)) (by simp;omega) (by simp [Value.oneCell']) ?_
 intro W3 hB9 gr
 replace hO:=Z3.into2 hO.drew9 gr (Z0.spliced9 (zs':=[h0,h1]) hcl hct hcB hcn hcm hB9.out (by simp) rfl rfl)
 simp only at hO
 replace pS:=(pS.drew).kept gr (fun e=>neS2 (by simpa using e.symm))
 replace pR:=(pR.drew).kept gr (fun e=>neR2 (by simpa using e.symm))
 
 replace bw:=(Zb bw (by go_grown:Below W2.heap.size W2 W2.drew)).grown gr (by have:=bw.size;exact this) (fun x hx=>by cases hx;exact hcB)
 refine hK.out _ _ ?_ (fun hS1=>?_)
 ·exact by simpa using pS.cell 2
 clear hK hS0 hS1 hB9 gr hcur hcl hct hcB hcn hcm
 try simp only [Act.put,tka,tkb,tkc]
 refine wpAnyH_done (by kernel_rfl) ?_ _
 clear e1
 have t0:=(hM.below bw).cell 0
 have t1:=(hM.below bw).cell 1
 have t2:=(hM.below bw).cell 2
 have t3:=(hM.below bw).cell 3
 have t4:=(hM.below bw).cell 4
 have t5:=(hM.below bw).cell 5
 have t6:=(hM.below bw).cell 6
 have t7:=(hM.below bw).cell 7
 have t8:=(hM.below bw).cell 8
 have t9:=(hM.below bw).cell 9
 have t10:=(hM.below bw).cell 10
 have t11:=(hM.below bw).cell 11
 simp only [List.getElem?_cons_zero,List.getElem?_cons_succ] at t0 t1 t2 t3 t4 t5 t6 t7 t8 t9 t10 t11
 obtain ⟨PM,q0,q1,q2,q3⟩:∃ PM:Nat→V4,Hid (PM 0=([0,0,0],[v0,v1,v2,v3],[h0,h1],[0,0,0,0,0,0]))∧Hid (PM 1=([p0,0,0],[v0,v1,v2,v3],[h0,h1],[x0,y0,0,0,0,0]))∧Hid (PM 2=([p0,p1,0],[v0,v1,v2,v3],[h0,h1],[x0,y0,x1,y1,0,0]))∧Hid (PM 3=([p0,p1,p2],[v0,v1,v2,v3],[h0,h1],[x0,y0,x1,y1,x2,y2])):=
  ⟨fun k=>if k=0 then ([0,0,0],[v0,v1,v2,v3],[h0,h1],[0,0,0,0,0,0]) else if k=1 then ([p0,0,0],[v0,v1,v2,v3],[h0,h1],[x0,y0,0,0,0,0]) else if k=2 then ([p0,p1,0],[v0,v1,v2,v3],[h0,h1],[x0,y0,x1,y1,0,0]) else ([p0,p1,p2],[v0,v1,v2,v3],[h0,h1],[x0,y0,x1,y1,x2,y2]),rfl,rfl,rfl,rfl⟩
 have i0:=Fw (.slice da0 dn0 dc0) (.int .i64 p0) (.int .i64 x0) (.int .i64 y0) (.slice da1 dn1 dc1) (.int .i64 p1) (.int .i64 x1) (.int .i64 y1) (.slice da2 dn2 dc2) (.int .i64 p2) (.int .i64 x2) (.int .i64 y2)
 have i1:=Fx (.slice da0 dn0 dc0) (.int .i64 p0) (.int .i64 x0) (.int .i64 y0) (.slice da1 dn1 dc1) (.int .i64 p1) (.int .i64 x1) (.int .i64 y1) (.slice da2 dn2 dc2) (.int .i64 p2) (.int .i64 x2) (.int .i64 y2)
 have i2:=Fy (.slice da0 dn0 dc0) (.int .i64 p0) (.int .i64 x0) (.int .i64 y0) (.slice da1 dn1 dc1) (.int .i64 p1) (.int .i64 x1) (.int .i64 y1) (.slice da2 dn2 dc2) (.int .i64 p2) (.int .i64 x2) (.int .i64 y2)
 have hO3:Z3 W3 w.heap.size ((some ⟨g0,0,none⟩,3,c0),(some ⟨g1,0,none⟩,4,c1),(some ⟨g2,0,none⟩,2,c2),(some ⟨g3,0,none⟩,6,c3)) (PM 0):=by rw [q0.out];exact hO
 clear hO
 have hO:=hO3
 clear hO3
 go_wp2_with fail
 clear t0 t1 t2 t3 t4 t5 t6 t7 t8 t9 t10 t11
 go_loopw [25] (fun si wr=>∃ k:Nat,k≤3∧si=.int .i64 k∧Z3 wr w.heap.size ((some ⟨g0,0,none⟩,3,c0),(some ⟨g1,0,none⟩,4,c1),(some ⟨g2,0,none⟩,2,c2),(some ⟨g3,0,none⟩,6,c3)) (PM k)∧Blk wr gS 88 [.slice (some ⟨g0,0,none⟩) 3 c0,.slice (some ⟨g1,0,none⟩) 4 c1,.slice (some ⟨g2,0,none⟩) 2 c2,.slice (some ⟨g3,0,none⟩) 6 c3]∧Blk wr w.heap.size 88 [.slice none 0 0,.slice none 0 0,.slice none 0 0,.slice none 0 0]∧Below w.heap.size w wr) (fun si _=>3 - (intOf si).toNat)
 case atStart=>exact ⟨0,by omega,rfl,hO,pS,pR,bw⟩
 case round =>
  clear hO pS pR bw neS0 neS1 neS2 neS3 neR0 neR1 neR2 neR3
  obtain ⟨k,hk,rfl,hO,pS,pR,bw⟩:=hrel
  rcases (show k=0∨k=1∨k=2∨k=3 by omega) with rfl | rfl | rfl | rfl
  ·skip
   rw [q0.out] at hO
   have neS0:=hO.1.1.ne9 pS (by decide)
   have neR0:=hO.1.1.ne9 pR (by decide)
   have neS1:=hO.1.2.1.ne9 pS (by decide)
   have neR1:=hO.1.2.1.ne9 pR (by decide)
   have neS2:=hO.1.2.2.1.ne9 pS (by decide)
   have neR2:=hO.1.2.2.1.ne9 pR (by decide)
   have neS3:=hO.1.2.2.2.ne9 pS (by decide)
   have neR3:=hO.1.2.2.2.ne9 pR (by decide)
   have hold:wr.cell? ⟨g0,0,none⟩=some (.int .i64 0):=hO.1.1.at9 (by decide)
   have hfz:=hO.1.1.frz9 0
   have hlo:=hO.1.1.lo9
   have bA:Below wr.heap.size wr (wr.alloc (.cells #[.slice da0 dn0 dc0,.int .i64 p0,.int .i64 x0,.int .i64 y0] 94)):=by go_grown
   have pT:=Blk.new wr 94 [.slice da0 dn0 dc0,.int .i64 p0,.int .i64 x0,.int .i64 y0]
   have hold2:(wr.alloc (.cells #[.slice da0 dn0 dc0,.int .i64 p0,.int .i64 x0,.int .i64 y0] 94)).cell? ⟨g0,0,none⟩=some (.int .i64 0):=Za bA _ _ hold
   have hfz2:(wr.alloc (.cells #[.slice da0 dn0 dc0,.int .i64 p0,.int .i64 x0,.int .i64 y0] 94)).frozen? ⟨g0,0,none⟩=false:=(hO.below bA).1.1.frz9 0
   have pS1:=pS.below bA
   have s0:(wr.alloc (.cells #[.slice da0 dn0 dc0,.int .i64 p0,.int .i64 x0,.int .i64 y0] 94)).cell? ⟨gS,0,none⟩=some (.slice (some ⟨g0,0,none⟩) 3 c0):=by simpa using pS1.cell 0
   have bS:Below (wr.setCell ⟨g0,0,none⟩ (.int .i64 p0)).heap.size (wr.setCell ⟨g0,0,none⟩ (.int .i64 p0)) ((wr.setCell ⟨g0,0,none⟩ (.int .i64 p0)).alloc (.cells #[.slice da0 dn0 dc0,.int .i64 p0,.int .i64 x0,.int .i64 y0] 94)):=by go_grown
   have hO2:=(hO.set0 0 p0).below bS
   simp only [List.set_cons_zero,List.set_cons_succ] at hO2
   have pT2:Blk ((wr.setCell ⟨g0,0,none⟩ (.int .i64 p0)).alloc (.cells #[.slice da0 dn0 dc0,.int .i64 p0,.int .i64 x0,.int .i64 y0] 94)) wr.heap.size 94 [.slice da0 dn0 dc0,.int .i64 p0,.int .i64 x0,.int .i64 y0]:=by
    have h9:=Blk.new (wr.setCell ⟨g0,0,none⟩ (.int .i64 p0)) 94 [.slice da0 dn0 dc0,.int .i64 p0,.int .i64 x0,.int .i64 y0]
    rwa [World.size_setCell] at h9
   have pS2:=(pS.off ⟨g0,0,none⟩ (.int .i64 p0) neS0).below bS
   have pR2:=(pR.off ⟨g0,0,none⟩ (.int .i64 p0) neR0).below bS
   have b2:=Zb (bw.setCell (p:=⟨g0,0,none⟩) hlo.1 (.int .i64 p0)) bS
   clear pS1
   go_wp2_with fail
   clear hold hfz hold2 hfz2 s0 bA hO pS pR bw bS pT
   generalize hWW:((wr.setCell ⟨g0,0,none⟩ (.int .i64 p0)).alloc (.cells #[.slice da0 dn0 dc0,.int .i64 p0,.int .i64 x0,.int .i64 y0] 94))=Wa at *
   have hgT:wr.heap.size<Wa.heap.size:=pT2.lt
   clear hWW
   generalize wr.heap.size=gT at *
   have hO:=hO2
   have pS:=pS2
   have pR:=pR2
   have bw:=b2
   have pT:=pT2
   clear hO2 pS2 pR2 b2 pT2
   have neT3:=hO.1.2.2.2.ne9 pT (by decide)
   have e1:Wa.cell? ⟨gS,3,none⟩=some (.slice (some ⟨g3,0,none⟩) 6 c3):=by simpa using pS.cell 3
   have hz:¬ c3=0:=by omega
   have hzi:(0:Int)≤(6:Int):=by decide
   refine wp_region_held_drew (S:=(fun w'=>w'.cell? ⟨gS,3,none⟩=some (.slice (some ⟨g3,0,none⟩) 6 c3))) (by kernel_rfl) e1 (fun hS0=>?_)
   refine tkm 0 35 (.pointer (some ⟨gS,3,none⟩)) ?_
   refine tkm 1 36 (.slice (some ⟨g3,0,none⟩) 6 c3) ?_
   refine tkm 2 37 (.int .i64 0) ?_
   refine tkm 3 38 (.int .i64 0) ?_
   refine tkm 4 39 (.slice (some ⟨g3,0,none⟩) 6 c3) ?_
   refine tkm 5 40 (.pointer (some ⟨gT,2,none⟩)) ?_
   refine tkm 6 41 (.slice (some ⟨gT,2,none⟩) 2 2) ?_
   obtain ⟨cur,hcur,hcl,hct,hcB,hcn,hcm⟩:=(hO.1.2.2.2).open9
   refine tkr 7 42 (fun K hK=>?_)
   refine Z2 rfl _ _ 36 36 rfl 3 Tryz.underlying36 (by kernel_rfl) g3 0 ⟨gT,2,none⟩ _ _ _ _ rfl rfl cur 3 hcur.drew [.int .i64 x0,.int .i64 y0] (.int .i64 2) rfl rfl (Sk pT.drew (fun j v hj=>by match j,hj with | 0,hj=>exact hj | 1,hj=>exact hj | (j+2),hj=>simp at hj)) (by simp;omega) (by simp [Value.oneCell']) ?_
   intro Wb hB9 gr
   replace hO:=Z3.into3 hO.drew9 gr (Z0.spliced9 (zs':=[x0,y0,0,0,0,0]) hcl hct hcB hcn hcm hB9.out (by simp) rfl rfl)
   simp only at hO
   replace pS:=(pS.drew).kept gr (fun e=>neS3 (by simpa using e.symm))
   replace pR:=(pR.drew).kept gr (fun e=>neR3 (by simpa using e.symm))
   
   replace bw:=(Zb bw (by go_grown:Below Wa.heap.size Wa Wa.drew)).grown gr (by have:=bw.size;exact this) (fun x hx=>by cases hx;exact hcB)
   refine hK.out _ _ ?_ (fun hS1=>?_)
   ·exact by simpa using pS.cell 3
   clear hK hS0 hS1 hB9 gr hcur hcl hct hcB hcn hcm
   try simp only [Act.put,tka,tkb,tkc]
   refine wpAnyH_done (by kernel_rfl) ?_ _
   rw [show ([p0,0,0],[v0,v1,v2,v3],[h0,h1],[x0,y0,0,0,0,0])=PM 1 from q1.out.symm] at hO
   clear e1 hz hzi pT
   go_wp2
   go_roundw
   case rel=>exact ⟨1,by omega,rfl,hO,pS,pR,bw⟩
   case measure=>simp [intOf]
  ·skip
   rw [q1.out] at hO
   have neS0:=hO.1.1.ne9 pS (by decide)
   have neR0:=hO.1.1.ne9 pR (by decide)
   have neS1:=hO.1.2.1.ne9 pS (by decide)
   have neR1:=hO.1.2.1.ne9 pR (by decide)
   have neS2:=hO.1.2.2.1.ne9 pS (by decide)
   have neR2:=hO.1.2.2.1.ne9 pR (by decide)
   have neS3:=hO.1.2.2.2.ne9 pS (by decide)
   have neR3:=hO.1.2.2.2.ne9 pR (by decide)
   have hold:wr.cell? ⟨g0,1,none⟩=some (.int .i64 0):=hO.1.1.at9 (by decide)
   have hfz:=hO.1.1.frz9 1
   have hlo:=hO.1.1.lo9
   have bA:Below wr.heap.size wr (wr.alloc (.cells #[.slice da1 dn1 dc1,.int .i64 p1,.int .i64 x1,.int .i64 y1] 94)):=by go_grown
   have pT:=Blk.new wr 94 [.slice da1 dn1 dc1,.int .i64 p1,.int .i64 x1,.int .i64 y1]
   have hold2:(wr.alloc (.cells #[.slice da1 dn1 dc1,.int .i64 p1,.int .i64 x1,.int .i64 y1] 94)).cell? ⟨g0,1,none⟩=some (.int .i64 0):=Za bA _ _ hold
   have hfz2:(wr.alloc (.cells #[.slice da1 dn1 dc1,.int .i64 p1,.int .i64 x1,.int .i64 y1] 94)).frozen? ⟨g0,1,none⟩=false:=(hO.below bA).1.1.frz9 1
   have pS1:=pS.below bA
   have s0:(wr.alloc (.cells #[.slice da1 dn1 dc1,.int .i64 p1,.int .i64 x1,.int .i64 y1] 94)).cell? ⟨gS,0,none⟩=some (.slice (some ⟨g0,0,none⟩) 3 c0):=by simpa using pS1.cell 0
   have bS:Below (wr.setCell ⟨g0,1,none⟩ (.int .i64 p1)).heap.size (wr.setCell ⟨g0,1,none⟩ (.int .i64 p1)) ((wr.setCell ⟨g0,1,none⟩ (.int .i64 p1)).alloc (.cells #[.slice da1 dn1 dc1,.int .i64 p1,.int .i64 x1,.int .i64 y1] 94)):=by go_grown
   have hO2:=(hO.set0 1 p1).below bS
   simp only [List.set_cons_zero,List.set_cons_succ] at hO2
   have pT2:Blk ((wr.setCell ⟨g0,1,none⟩ (.int .i64 p1)).alloc (.cells #[.slice da1 dn1 dc1,.int .i64 p1,.int .i64 x1,.int .i64 y1] 94)) wr.heap.size 94 [.slice da1 dn1 dc1,.int .i64 p1,.int .i64 x1,.int .i64 y1]:=by
    have h9:=Blk.new (wr.setCell ⟨g0,1,none⟩ (.int .i64 p1)) 94 [.slice da1 dn1 dc1,.int .i64 p1,.int .i64 x1,.int .i64 y1]
    rwa [World.size_setCell] at h9
   have pS2:=(pS.off ⟨g0,1,none⟩ (.int .i64 p1) neS0).below bS
   have pR2:=(pR.off ⟨g0,1,none⟩ (.int .i64 p1) neR0).below bS
   have b2:=Zb (bw.setCell (p:=⟨g0,1,none⟩) hlo.1 (.int .i64 p1)) bS
   clear pS1
   go_wp2_with fail
   clear hold hfz hold2 hfz2 s0 bA hO pS pR bw bS pT
   generalize hWW:((wr.setCell ⟨g0,1,none⟩ (.int .i64 p1)).alloc (.cells #[.slice da1 dn1 dc1,.int .i64 p1,.int .i64 x1,.int .i64 y1] 94))=Wa at *
   have hgT:wr.heap.size<Wa.heap.size:=pT2.lt
   clear hWW
   generalize wr.heap.size=gT at *
   have hO:=hO2
   have pS:=pS2
   have pR:=pR2
   have bw:=b2
   have pT:=pT2
   clear hO2 pS2 pR2 b2 pT2
   have neT3:=hO.1.2.2.2.ne9 pT (by decide)
   have e1:Wa.cell? ⟨gS,3,none⟩=some (.slice (some ⟨g3,0,none⟩) 6 c3):=by simpa using pS.cell 3
   have hz:¬ c3=2:=by omega
   have hzi:(2:Int)≤(6:Int):=by decide
   refine wp_region_held_drew (S:=(fun w'=>w'.cell? ⟨gS,3,none⟩=some (.slice (some ⟨g3,0,none⟩) 6 c3))) (by kernel_rfl) e1 (fun hS0=>?_)
   refine tkm 0 35 (.pointer (some ⟨gS,3,none⟩)) ?_
   refine tkm 1 36 (.slice (some ⟨g3,0,none⟩) 6 c3) ?_
   refine tkm 2 37 (.int .i64 1) ?_
   refine tkm 3 38 (.int .i64 2) ?_
   refine tkm 4 39 (.slice (some ⟨g3,2,none⟩) 4 (c3 - 2)) ?_
   refine tkm 5 40 (.pointer (some ⟨gT,2,none⟩)) ?_
   refine tkm 6 41 (.slice (some ⟨gT,2,none⟩) 2 2) ?_
   obtain ⟨cur,hcur,hcl,hct,hcB,hcn,hcm⟩:=(hO.1.2.2.2).open9
   refine tkr 7 42 (fun K hK=>?_)
   refine Z2 rfl _ _ 36 36 rfl 3 Tryz.underlying36 (by kernel_rfl) g3 2 ⟨gT,2,none⟩ _ _ _ _ rfl rfl cur 3 hcur.drew [.int .i64 x1,.int .i64 y1] (.int .i64 2) rfl rfl (Sk pT.drew (fun j v hj=>by match j,hj with | 0,hj=>exact hj | 1,hj=>exact hj | (j+2),hj=>simp at hj)) (by simp;omega) (by simp [Value.oneCell']) ?_
   intro Wb hB9 gr
   replace hO:=Z3.into3 hO.drew9 gr (Z0.spliced9 (zs':=[x0,y0,x1,y1,0,0]) hcl hct hcB hcn hcm hB9.out (by simp) rfl rfl)
   simp only at hO
   replace pS:=(pS.drew).kept gr (fun e=>neS3 (by simpa using e.symm))
   replace pR:=(pR.drew).kept gr (fun e=>neR3 (by simpa using e.symm))
   
   replace bw:=(Zb bw (by go_grown:Below Wa.heap.size Wa Wa.drew)).grown gr (by have:=bw.size;exact this) (fun x hx=>by cases hx;exact hcB)
   refine hK.out _ _ ?_ (fun hS1=>?_)
   ·exact by simpa using pS.cell 3
   clear hK hS0 hS1 hB9 gr hcur hcl hct hcB hcn hcm
   try simp only [Act.put,tka,tkb,tkc]
   refine wpAnyH_done (by kernel_rfl) ?_ _
   rw [show ([p0,p1,0],[v0,v1,v2,v3],[h0,h1],[x0,y0,x1,y1,0,0])=PM 2 from q2.out.symm] at hO
   clear e1 hz hzi pT
   go_wp2
   go_roundw
   case rel=>exact ⟨2,by omega,rfl,hO,pS,pR,bw⟩
   case measure=>simp [intOf]
  ·skip
   rw [q2.out] at hO
   have neS0:=hO.1.1.ne9 pS (by decide)
   have neR0:=hO.1.1.ne9 pR (by decide)
   have neS1:=hO.1.2.1.ne9 pS (by decide)
   have neR1:=hO.1.2.1.ne9 pR (by decide)
   have neS2:=hO.1.2.2.1.ne9 pS (by decide)
   have neR2:=hO.1.2.2.1.ne9 pR (by decide)
   have neS3:=hO.1.2.2.2.ne9 pS (by decide)
   have neR3:=hO.1.2.2.2.ne9 pR (by decide)
   have hold:wr.cell? ⟨g0,2,none⟩=some (.int .i64 0):=hO.1.1.at9 (by decide)
   have hfz:=hO.1.1.frz9 2
   have hlo:=hO.1.1.lo9
   have bA:Below wr.heap.size wr (wr.alloc (.cells #[.slice da2 dn2 dc2,.int .i64 p2,.int .i64 x2,.int .i64 y2] 94)):=by go_grown
   have pT:=Blk.new wr 94 [.slice da2 dn2 dc2,.int .i64 p2,.int .i64 x2,.int .i64 y2]
   have hold2:(wr.alloc (.cells #[.slice da2 dn2 dc2,.int .i64 p2,.int .i64 x2,.int .i64 y2] 94)).cell? ⟨g0,2,none⟩=some (.int .i64 0):=Za bA _ _ hold
   have hfz2:(wr.alloc (.cells #[.slice da2 dn2 dc2,.int .i64 p2,.int .i64 x2,.int .i64 y2] 94)).frozen? ⟨g0,2,none⟩=false:=(hO.below bA).1.1.frz9 2
   have pS1:=pS.below bA
   have s0:(wr.alloc (.cells #[.slice da2 dn2 dc2,.int .i64 p2,.int .i64 x2,.int .i64 y2] 94)).cell? ⟨gS,0,none⟩=some (.slice (some ⟨g0,0,none⟩) 3 c0):=by simpa using pS1.cell 0
   have bS:Below (wr.setCell ⟨g0,2,none⟩ (.int .i64 p2)).heap.size (wr.setCell ⟨g0,2,none⟩ (.int .i64 p2)) ((wr.setCell ⟨g0,2,none⟩ (.int .i64 p2)).alloc (.cells #[.slice da2 dn2 dc2,.int .i64 p2,.int .i64 x2,.int .i64 y2] 94)):=by go_grown
   have hO2:=(hO.set0 2 p2).below bS
   simp only [List.set_cons_zero,List.set_cons_succ] at hO2
   have pT2:Blk ((wr.setCell ⟨g0,2,none⟩ (.int .i64 p2)).alloc (.cells #[.slice da2 dn2 dc2,.int .i64 p2,.int .i64 x2,.int .i64 y2] 94)) wr.heap.size 94 [.slice da2 dn2 dc2,.int .i64 p2,.int .i64 x2,.int .i64 y2]:=by
    have h9:=Blk.new (wr.setCell ⟨g0,2,none⟩ (.int .i64 p2)) 94 [.slice da2 dn2 dc2,.int .i64 p2,.int .i64 x2,.int .i64 y2]
    rwa [World.size_setCell] at h9
   have pS2:=(pS.off ⟨g0,2,none⟩ (.int .i64 p2) neS0).below bS
   have pR2:=(pR.off ⟨g0,2,none⟩ (.int .i64 p2) neR0).below bS
   have b2:=Zb (bw.setCell (p:=⟨g0,2,none⟩) hlo.1 (.int .i64 p2)) bS
   clear pS1
   go_wp2_with fail
   clear hold hfz hold2 hfz2 s0 bA hO pS pR bw bS pT
   generalize hWW:((wr.setCell ⟨g0,2,none⟩ (.int .i64 p2)).alloc (.cells #[.slice da2 dn2 dc2,.int .i64 p2,.int .i64 x2,.int .i64 y2] 94))=Wa at *
   have hgT:wr.heap.size<Wa.heap.size:=pT2.lt
   clear hWW
   generalize wr.heap.size=gT at *
   have hO:=hO2
   have pS:=pS2
   have pR:=pR2
   have bw:=b2
   have pT:=pT2
   clear hO2 pS2 pR2 b2 pT2
   have neT3:=hO.1.2.2.2.ne9 pT (by decide)
   have e1:Wa.cell? ⟨gS,3,none⟩=some (.slice (some ⟨g3,0,none⟩) 6 c3):=by simpa using pS.cell 3
   have hz:¬ c3=4:=by omega
   have hzi:(4:Int)≤(6:Int):=by decide
   refine wp_region_held_drew (S:=(fun w'=>w'.cell? ⟨gS,3,none⟩=some (.slice (some ⟨g3,0,none⟩) 6 c3))) (by kernel_rfl) e1 (fun hS0=>?_)
   refine tkm 0 35 (.pointer (some ⟨gS,3,none⟩)) ?_
   refine tkm 1 36 (.slice (some ⟨g3,0,none⟩) 6 c3) ?_
   refine tkm 2 37 (.int .i64 2) ?_
   refine tkm 3 38 (.int .i64 4) ?_
   refine tkm 4 39 (.slice (some ⟨g3,4,none⟩) 2 (c3 - 4)) ?_
   refine tkm 5 40 (.pointer (some ⟨gT,2,none⟩)) ?_
   refine tkm 6 41 (.slice (some ⟨gT,2,none⟩) 2 2) ?_
   obtain ⟨cur,hcur,hcl,hct,hcB,hcn,hcm⟩:=(hO.1.2.2.2).open9
   refine tkr 7 42 (fun K hK=>?_)
   refine Z2 rfl _ _ 36 36 rfl 3 Tryz.underlying36 (by kernel_rfl) g3 4 ⟨gT,2,none⟩ _ _ _ _ rfl rfl cur 3 hcur.drew [.int .i64 x2,.int .i64 y2] (.int .i64 2) rfl rfl (Sk pT.drew (fun j v hj=>by match j,hj with | 0,hj=>exact hj | 1,hj=>exact hj | (j+2),hj=>simp at hj)) (by simp;omega) (by simp [Value.oneCell']) ?_
   intro Wb hB9 gr
   replace hO:=Z3.into3 hO.drew9 gr (Z0.spliced9 (zs':=[x0,y0,x1,y1,x2,y2]) hcl hct hcB hcn hcm hB9.out (by simp) rfl rfl)
   simp only at hO
   replace pS:=(pS.drew).kept gr (fun e=>neS3 (by simpa using e.symm))
   replace pR:=(pR.drew).kept gr (fun e=>neR3 (by simpa using e.symm))
   
   replace bw:=(Zb bw (by go_grown:Below Wa.heap.size Wa Wa.drew)).grown gr (by have:=bw.size;exact this) (fun x hx=>by cases hx;exact hcB)
   refine hK.out _ _ ?_ (fun hS1=>?_)
   ·exact by simpa using pS.cell 3
   clear hK hS0 hS1 hB9 gr hcur hcl hct hcB hcn hcm
   try simp only [Act.put,tka,tkb,tkc]
   refine wpAnyH_done (by kernel_rfl) ?_ _
   rw [show ([p0,p1,p2],[v0,v1,v2,v3],[h0,h1],[x0,y0,x1,y1,x2,y2])=PM 3 from q3.out.symm] at hO
   clear e1 hz hzi pT
   go_wp2
   go_roundw
   case rel=>exact ⟨3,by omega,rfl,hO,pS,pR,bw⟩
   case measure=>simp [intOf]
  go_wp2_with (first | refine Zd rfl 88 _ rfl gS rfl pS _ Tryz.underlying88 rfl (by kernel_rfl) ?_ | refine Ze rfl 88 _ _ rfl w.heap.size [.slice (some ⟨g0,0,none⟩) 3 c0,.slice (some ⟨g1,0,none⟩) 4 c1,.slice (some ⟨g2,0,none⟩) 2 c2,.slice (some ⟨g3,0,none⟩) 6 c3] rfl rfl pR (by kernel_rfl) rfl rfl ?_)
  intro w9 pR9 g9
  replace bw:=bw.grown g9 bw.size (fun k hk=>by cases hk;omega)
  replace hO:=hO.kept9 g9 pR (by decide)
  clear g9 pR pS
  go_wp2_with fail
  refine bodyPost_ret (UH Tryz.results131 _ _ _ _ _ _ rfl pR9.out Tryz.underlying88 rfl (by kernel_rfl)) rfl ?_
  rw [q3.out] at hO
  exact ⟨Qh.mk9 ((some ⟨g0,0,none⟩,3,c0),(some ⟨g1,0,none⟩,4,c1),(some ⟨g2,0,none⟩,2,c2),(some ⟨g3,0,none⟩,6,c3)) rfl hO,bw⟩

theorem Dn {w:World} {g:Nat} {cs:Sl × Sl × Sl} {m:V4} (hM:Blk w g 98 (Zi cs.1.val cs.2.1.val cs.2.2.val m)) (hs:Zc m=true) :
  Calls Tryz.prog 131 #[.pointer (some ⟨g,0,none⟩)] w fun e w'=>Qh e w' w.heap.size m∧Below w.heap.size w w':=by
 obtain ⟨p0,p1,p2,v0,v1,v2,v3,h0,h1,x0,y0,x1,y1,x2,y2,rfl⟩:=Tq hs
 exact GK g cs.1.1 cs.1.2.1 cs.1.2.2 cs.2.1.1 cs.2.1.2.1 cs.2.1.2.2 cs.2.2.1 cs.2.2.2.1 cs.2.2.2.2 p0 p1 p2 v0 v1 v2 v3 h0 h1 x0 y0 x1 y1 x2 y2 w hM


theorem Nk {x:I3} (h:okI x=true) :
  (∃ a q:Nat,x=(1,(a:Int),(q:Int))∧a<2∧q<4)∨(∃ q a:Nat,x=(2,(q:Int),(a:Int))∧q<4∧a<2)∨(∃ (a:Nat) (z:Int),x=(3,(a:Int),z)∧a<2)∨(∃ (a:Nat) (z:Int),x=(4,(a:Int),z)∧a<2∧0≤z∧z≤9) ∨
  (∃ (a:Nat) (z:Int),x=(5,(a:Int),z)∧a<2)∨(∃ (a:Nat) (z:Int),x=(6,(a:Int),z)∧a<2)∨(∃ (a:Nat) (z:Int),x=(7,(a:Int),z)∧a<2∧1≤z∧z≤6)∨(∃ (a:Nat) (z:Int),x=(8,(a:Int),z)∧a<2):=by
 obtain ⟨o,a,b⟩:=x
 unfold okI at h
 simp only at h
 rcases Ui (o,a,b) with e | e | e | e | e | e | e | e | e<;>simp only at e
 ·subst e
  simp [ZD] at h
  exact .inl ⟨a.toNat,b.toNat,by rw [show ((a.toNat:Nat):Int)=a by omega,show ((b.toNat:Nat):Int)=b by omega],by omega,by omega⟩
 ·subst e
  simp [ZD] at h
  exact .inr (.inl ⟨a.toNat,b.toNat,by rw [show ((a.toNat:Nat):Int)=a by omega,show ((b.toNat:Nat):Int)=b by omega],by omega,by omega⟩)
 ·subst e
  simp [ZD] at h
  exact .inr (.inr (.inl ⟨a.toNat,b,by rw [show ((a.toNat:Nat):Int)=a by omega],by omega⟩))
 ·subst e
  simp [ZD] at h
  exact .inr (.inr (.inr (.inl ⟨a.toNat,b,by rw [show ((a.toNat:Nat):Int)=a by omega],by omega,by omega,by omega⟩)))
 ·subst e
  simp [ZD] at h
  exact .inr (.inr (.inr (.inr (.inl ⟨a.toNat,b,by rw [show ((a.toNat:Nat):Int)=a by omega],by omega⟩))))
 ·subst e
  simp [ZD] at h
  exact .inr (.inr (.inr (.inr (.inr (.inl ⟨a.toNat,b,by rw [show ((a.toNat:Nat):Int)=a by omega],by omega⟩)))))
 ·subst e
  simp [ZD] at h
  exact .inr (.inr (.inr (.inr (.inr (.inr (.inl ⟨a.toNat,b,by rw [show ((a.toNat:Nat):Int)=a by omega],by omega,by omega,by omega⟩))))))
 ·subst e
  simp [ZD] at h
  exact .inr (.inr (.inr (.inr (.inr (.inr (.inr ⟨a.toNat,b,by rw [show ((a.toNat:Nat):Int)=a by omega],by omega⟩))))))
 obtain ⟨e1,e2,e3,e4,e5,e6,e7,e8⟩:=e
 simp [e1,e2,e3,e4,e5,e6,e7,e8] at h
section
variable (m : V4) (k a q : Nat) (z : Int)
theorem Jx:ZQ m (1,(a:Int),(q:Int)) k=((m.1.set k (m.1.getD k 0+1),m.2.1,m.2.2.1,m.2.2.2.set (k*2+a) (m.2.1.getD q 0)),0):=rfl
theorem Jy:ZQ m (2,(q:Int),(a:Int)) k=((m.1.set k (m.1.getD k 0+1),m.2.1.set q (m.2.2.2.getD (k*2+a) 0),m.2.2.1,m.2.2.2),0):=rfl
theorem Jz:ZQ m (3,(a:Int),z) k=((m.1.set k (m.1.getD k 0+1),m.2.1,m.2.2.1,m.2.2.2.set (k*2+a) z),0):=rfl
theorem JA:ZQ m (4,(a:Int),z) k=((m.1.set k (m.1.getD k 0+1),m.2.1,m.2.2.1,m.2.2.2.set (k*2+a) ((m.2.2.2.getD (k*2+a) 0+z) % 10)),0):=rfl
theorem JB:ZQ m (5,(a:Int),z) k=((m.1.set k (m.1.getD k 0+1),m.2.1,m.2.2.1.set a ((k:Int)+1),m.2.2.2),0):=rfl
theorem JC:ZQ m (6,(a:Int),z) k=if m.2.2.1.getD a 0=(k:Int)+1 then ((m.1.set k (m.1.getD k 0+1),m.2.1,m.2.2.1.set a 0,m.2.2.2),0) else ((m.1.set k (m.1.getD k 0+1),m.2),13):=rfl
theorem JD:ZQ m (7,(a:Int),z) k=if m.2.2.2.getD (k*2+a) 0=0 then ((m.1.set k (m.1.getD k 0+1),m.2),0) else ((m.1.set k z,m.2),0):=rfl
theorem JE:ZQ m (8,(a:Int),z) k=if m.2.2.2.getD (k*2+a) 0=z then ((m.1.set k (m.1.getD k 0+1),m.2),0) else ((m.1.set k (m.1.getD k 0+1),m.2),12):=rfl
end

theorem Cr {w:World} {g:Nat} {cs:Sl × Sl × Sl} {rows:List (List I3)} {m:V4} (h:ZO w g cs rows m) (hp:Zf rows=true) (hs:Zc m=true) {k:Nat} (hk:k<3) (hd:Ya rows m k=false) :
  Calls Tryz.prog 158 #[.pointer (some ⟨g,0,none⟩),.int .i64 k] w fun e w'=>e=.returned (.int .i64 (ZQ m (Xa rows m k) k).2)∧Blk w' g 98 (Zi cs.1.val cs.2.1.val cs.2.2.val (ZQ m (Xa rows m k) k).1)∧w.grownBy w' (some g):=by
 obtain ⟨p,ep,hlt,hi,hok⟩:=Up hp hs hk hd
 have hl6:=(Vk hp hk).1
 have e0:=h.code hk
 have e1:=h.pc hk
 rw [ep] at e1
 obtain ⟨b,off,ea,hpn,q0,q1,q2⟩:=QB (h.2 k hk) hlt
 rw [← hi] at q0 q1 q2
 rw [ea] at e0
 have hL:=VZ.of hs
 have hr9:=(Ym hs).2.2.2
 generalize Xa rows m k=x at *
 rcases Nk hok with ⟨a,q,rfl,ha,hq⟩ | ⟨q,a,rfl,hq,ha⟩ | ⟨a,z,rfl,ha⟩ | ⟨a,z,rfl,ha,hz⟩ | ⟨a,z,rfl,ha⟩ | ⟨a,z,rfl,ha⟩ | ⟨a,z,rfl,ha,hz⟩ | ⟨a,z,rfl,ha⟩<;>simp only at q0 q1 q2
 ·rw [Jx,ep]
  exact XF g k p b off _ _ cs m w hk hpn (by omega) hL h.1 (.inr trivial) e0 e1 _ _ _ _ _ q0 q1 q2 (.load a q _ ha hq rfl)
 ·rw [Jy,ep]
  exact XF g k p b off _ _ cs m w hk hpn (by omega) hL h.1 (.inr trivial) e0 e1 _ _ _ _ _ q0 q1 q2 (.store a q _ ha hq rfl)
 ·rw [Jz,ep]
  exact XF g k p b off _ _ cs m w hk hpn (by omega) hL h.1 (.inr trivial) e0 e1 _ _ _ _ _ q0 q1 q2 (.set a z ha)
 ·rw [JA,ep]
  exact XF g k p b off _ _ cs m w hk hpn (by omega) hL h.1 (.inr trivial) e0 e1 _ _ _ _ _ q0 q1 q2 (.add a z _ _ ha rfl hz (VM hr9 (by decide) _) rfl)
 ·rw [JB,ep]
  exact XF g k p b off _ _ cs m w hk hpn (by omega) hL h.1 (.inr trivial) e0 e1 _ _ _ _ _ q0 q1 q2 (.lock a z ha)
 ·rw [JC,ep]
  by_cases hv:m.2.2.1.getD a 0=(k:Int)+1
  ·rw [if_pos hv]
   exact XF g k p b off _ _ cs m w hk hpn (by omega) hL h.1 (.inr trivial) e0 e1 _ _ _ _ _ q0 q1 q2 (.unlock_yes a z ha hv)
  rw [if_neg hv]
  exact XF g k p b off _ _ cs m w hk hpn (by omega) hL h.1 (.inr trivial) e0 e1 _ _ _ _ _ q0 q1 q2 (.unlock_no a z ha hv)
 ·rw [JD,ep]
  by_cases hv:m.2.2.2.getD (k*2+a) 0=0
  ·rw [if_pos hv]
   exact XF g k p b off _ _ cs m w hk hpn (by omega) hL h.1 (.inr trivial) e0 e1 _ _ _ _ _ q0 q1 q2 (.stay a z ha hv)
  rw [if_neg hv]
  exact XF g k p b off _ _ cs m w hk hpn (by omega) hL h.1 (.inr trivial) e0 e1 _ _ _ _ _ q0 q1 q2 (.jump a z _ ha rfl hv)
 rw [JE,ep]
 by_cases hv:m.2.2.2.getD (k*2+a) 0=z
 ·rw [if_pos hv]
  exact XF g k p b off _ _ cs m w hk hpn (by omega) hL h.1 (.inr trivial) e0 e1 _ _ _ _ _ q0 q1 q2 (.assert_yes a z ha hv)
 rw [if_neg hv]
 exact XF g k p b off _ _ cs m w hk hpn (by omega) hL h.1 (.inr trivial) e0 e1 _ _ _ _ _ q0 q1 q2 (.assert_no a z _ ha rfl hv)

theorem QF {w:World} {a9:Option Addr} {len cap:Nat} {cs:Sl × Sl × Sl} {rows:List (List I3)} {s:S4} {m:V4} (hl:len=3) (hR:Yi w a9 cs rows) (h:Xd w s m) (hp:Zf rows=true) (hs:Zc m=true) {k:Nat} (hk:k<3) (hd:Ya rows m k=false) :
  Calls Tryz.prog 120 #[.agg #[.slice a9 len cap],s.val,.int .i64 k] w fun e w'=>Xy e w' w.heap.size (ZQ m (Xa rows m k) k).1 (ZQ m (Xa rows m k) k).2∧Below w.heap.size w w':=by
 obtain ⟨p,ep,hlt,hi,hok⟩:=Up hp hs hk hd
 have hl6:=(Vk hp hk).1
 obtain ⟨b,off,rfl,_,hrow⟩:=hR
 obtain ⟨e0,hI⟩:=hrow k hk
 have hM:=h
 obtain ⟨⟨j0,_⟩,⟨j1,_⟩,⟨j2,_⟩,⟨j3,_⟩⟩:=h
 obtain ⟨l0,l1,l2,l3,_⟩:=ZS hs
 obtain ⟨⟨a0,n0,c0⟩,⟨a1,n1,c1⟩,⟨a2,n2,c2⟩,⟨a3,n3,c3⟩⟩:=s
 simp only at j0 j1 j2 j3
 obtain ⟨rfl,b0,o0,rfl⟩:=ZA j0 l0 (by decide)
 obtain ⟨rfl,b1,o1,rfl⟩:=ZA j1 l1 (by decide)
 obtain ⟨rfl,b2,o2,rfl⟩:=ZA j2 l2 (by decide)
 obtain ⟨rfl,b3,o3,rfl⟩:=ZA j3 l3 (by decide)
 have e1:=YO j0 (t:=k) hk
 rw [ep] at e1
 obtain ⟨cb,co,ea,hpn,q0,q1,q2⟩:=QB hI hlt
 rw [← hi] at q0 q1 q2
 rw [ea] at e0
 have hr9:=(Ym hs).2.2.2
 have hriA:∀ a:Nat,(k:Int)*2+(a:Int)=((k*2+a:Nat):Int):=fun a=>by omega
 have hr6A:∀ a:Nat,a<2→k*2+a<6:=fun a ha=>by omega
 generalize Xa rows m k=x at *
 rcases Nk hok with ⟨a,q,rfl,ha,hq⟩ | ⟨q,a,rfl,hq,ha⟩ | ⟨a,z,rfl,ha⟩ | ⟨a,z,rfl,ha,hz⟩ | ⟨a,z,rfl,ha⟩ | ⟨a,z,rfl,ha⟩ | ⟨a,z,rfl,ha,hz⟩ | ⟨a,z,rfl,ha⟩<;>simp only at q0 q1 q2
 ·rw [Jx,ep]
  exact Xf b off len cap b0 o0 c0 b1 o1 c1 b2 o2 c2 b3 o3 c3 k cb co _ _ p m w hk hl hpn (by omega) hs hM ep e0 e1 _ _ _ _ _ q0 q1 q2 (.load a q (k*2+a) _ (hr6A a ha) (hriA a) hq rfl)
 ·rw [Jy,ep]
  exact Xf b off len cap b0 o0 c0 b1 o1 c1 b2 o2 c2 b3 o3 c3 k cb co _ _ p m w hk hl hpn (by omega) hs hM ep e0 e1 _ _ _ _ _ q0 q1 q2 (.store a q (k*2+a) _ (hr6A a ha) (hriA a) hq rfl)
 ·rw [Jz,ep]
  exact Xf b off len cap b0 o0 c0 b1 o1 c1 b2 o2 c2 b3 o3 c3 k cb co _ _ p m w hk hl hpn (by omega) hs hM ep e0 e1 _ _ _ _ _ q0 q1 q2 (.set a (k*2+a) z (hr6A a ha) (hriA a))
 ·rw [JA,ep]
  exact Xf b off len cap b0 o0 c0 b1 o1 c1 b2 o2 c2 b3 o3 c3 k cb co _ _ p m w hk hl hpn (by omega) hs hM ep e0 e1 _ _ _ _ _ q0 q1 q2 (.add a (k*2+a) z _ _ (hr6A a ha) (hriA a) rfl hz (VM hr9 (by decide) _) rfl)
 ·rw [JB,ep]
  exact Xf b off len cap b0 o0 c0 b1 o1 c1 b2 o2 c2 b3 o3 c3 k cb co _ _ p m w hk hl hpn (by omega) hs hM ep e0 e1 _ _ _ _ _ q0 q1 q2 (.lock a z ha)
 ·rw [JC,ep]
  by_cases hv:m.2.2.1.getD a 0=(k:Int)+1
  ·rw [if_pos hv]
   exact Xf b off len cap b0 o0 c0 b1 o1 c1 b2 o2 c2 b3 o3 c3 k cb co _ _ p m w hk hl hpn (by omega) hs hM ep e0 e1 _ _ _ _ _ q0 q1 q2 (.unlock_yes a z ha hv)
  rw [if_neg hv]
  exact Xf b off len cap b0 o0 c0 b1 o1 c1 b2 o2 c2 b3 o3 c3 k cb co _ _ p m w hk hl hpn (by omega) hs hM ep e0 e1 _ _ _ _ _ q0 q1 q2 (.unlock_no a z _ ha rfl hv)
 ·rw [JD,ep]
  by_cases hv:m.2.2.2.getD (k*2+a) 0=0
  ·rw [if_pos hv]
   exact Xf b off len cap b0 o0 c0 b1 o1 c1 b2 o2 c2 b3 o3 c3 k cb co _ _ p m w hk hl hpn (by omega) hs hM ep e0 e1 _ _ _ _ _ q0 q1 q2 (.stay a (k*2+a) z (hr6A a ha) (hriA a) hv)
  rw [if_neg hv]
  exact Xf b off len cap b0 o0 c0 b1 o1 c1 b2 o2 c2 b3 o3 c3 k cb co _ _ p m w hk hl hpn (by omega) hs hM ep e0 e1 _ _ _ _ _ q0 q1 q2 (.jump a (k*2+a) z _ (hr6A a ha) (hriA a) rfl hv)
 rw [JE,ep]
 by_cases hv:m.2.2.2.getD (k*2+a) 0=z
 ·rw [if_pos hv]
  exact Xf b off len cap b0 o0 c0 b1 o1 c1 b2 o2 c2 b3 o3 c3 k cb co _ _ p m w hk hl hpn (by omega) hs hM ep e0 e1 _ _ _ _ _ q0 q1 q2 (.assert_yes a (k*2+a) z (hr6A a ha) (hriA a) hv)
 rw [if_neg hv]
 exact Xf b off len cap b0 o0 c0 b1 o1 c1 b2 o2 c2 b3 o3 c3 k cb co _ _ p m w hk hl hpn (by omega) hs hM ep e0 e1 _ _ _ _ _ q0 q1 q2 (.assert_no a (k*2+a) z _ (hr6A a ha) (hriA a) rfl hv)




theorem Wc {zs:List Int} {n hi v:Int} (h:Xz zs n hi=true) (k:Nat) (h0:0≤v) (h1:v≤hi):Xz (zs.set k v) n hi=true:=by
 obtain ⟨hl,ha⟩:=YX h
 unfold Xz
 simp only [Bool.and_eq_true,List.all_eq_true,decide_eq_true_eq,List.length_set]
 exact ⟨fun z hz=>by rcases List.mem_or_eq_of_mem_set hz with q | q;exact ha z q;subst q;exact ⟨h0,h1⟩,hl⟩
theorem Q6 {rows:List (List I3)} {m:V4} (hp:Zf rows=true) (hs:Zc m=true) {k:Nat} (hk:k<3) (hd:Ya rows m k=false):Zc (ZQ m (Xa rows m k) k).1=true:=by
 obtain ⟨p,ep,hlt,hi,hok⟩:=Up hp hs hk hd
 have hl6:=(Vk hp hk).1
 obtain ⟨b0,b1,b2,b3⟩:=Ym hs
 have hs':=hs
 unfold Zc at hs'
 simp only [Bool.and_eq_true] at hs'
 obtain ⟨s0,s1,s2,s3⟩:=hs'
 have hpc:Xz (m.1.set k (m.1.getD k 0+1)) 3 6=true:=Wc s0 k (by omega) (by omega)
 have g1:=fun j=>VM b1 (by decide) j
 have g3:=fun j=>VM b3 (by decide) j
 generalize Xa rows m k=x at *
 obtain ⟨o,y,v⟩:=x
 unfold okI at hok
 simp only at hok
 unfold Zc
 rcases Ui (o,y,v) with e | e | e | e | e | e | e | e | e<;>simp only at e
 ·subst e
  simp [ZD] at hok
  simp only [ZQ,if_true,Bool.and_eq_true]
  exact ⟨hpc,s1,s2,Wc s3 _ (g1 _).1 (g1 _).2⟩
 ·subst e
  simp [ZD] at hok
  simp [ZQ]
  exact ⟨hpc,Wc s1 _ (g3 _).1 (g3 _).2,s2,s3⟩
 ·subst e
  simp [ZD] at hok
  simp [ZQ]
  exact ⟨hpc,s1,s2,Wc s3 _ (by omega) (by omega)⟩
 ·subst e
  simp [ZD] at hok
  simp [ZQ]
  exact ⟨hpc,s1,s2,Wc s3 _ (by omega) (by omega)⟩
 ·subst e
  simp [ZD] at hok
  simp [ZQ]
  exact ⟨hpc,s1,Wc s2 _ (by omega) (by omega),s3⟩
 ·subst e
  simp [ZD] at hok
  simp [ZQ]
  split
  ·exact ⟨hpc,s1,Wc s2 _ (by omega) (by omega),s3⟩
  exact ⟨hpc,s1,s2,s3⟩
 ·subst e
  simp [ZD] at hok
  simp [ZQ]
  split
  ·exact ⟨hpc,s1,s2,s3⟩
  exact ⟨Wc s0 _ (by omega) (by omega),s1,s2,s3⟩
 ·subst e
  simp [ZD] at hok
  simp [ZQ]
  split<;>exact ⟨hpc,s1,s2,s3⟩
 obtain ⟨e1,e2,e3,e4,e5,e6,e7,e8⟩:=e
 simp [e1,e2,e3,e4,e5,e6,e7,e8] at hok
theorem JO {rows:List (List I3)} {m:V4} {k:Nat} (h:YH rows m k=true):Ya rows m k=false∧UO rows m k=false:=by
 unfold YH at h
 unfold UO
 simp at h
 simp [h]
theorem YC {z:V4} (h:Zc z=true):V4.fits z∧z.1.length≤1048576∧z.2.1.length≤1048576∧z.2.2.1.length≤1048576∧z.2.2.2.length≤1048576:=by
 obtain ⟨l0,l1,l2,l3,_⟩:=ZS h
 obtain ⟨b0,b1,b2,b3⟩:=Ym h
 exact ⟨⟨fun x hx=>Yj (by have:=b0 x hx;omega) (by have:=b0 x hx;omega),fun x hx=>Yj (by have:=b1 x hx;omega) (by have:=b1 x hx;omega),fun x hx=>Yj (by have:=b2 x hx;omega) (by have:=b2 x hx;omega),fun x hx=>Yj (by have:=b3 x hx;omega) (by have:=b3 x hx;omega)⟩,by omega,by omega,by omega,by omega⟩


theorem MN {l:List Int} {k i:Nat} {v:Int} (h:i≠k):(l.set k v).getD i 0=l.getD i 0:=by
 simp [List.getD,List.getElem?_set_ne (Ne.symm h)]
theorem LH (m:V4) (x:I3) {k i:Nat} (h:i≠k):(ZQ m x k).1.1.getD i 0=m.1.getD i 0:=by
 unfold ZQ
 repeat' split
 all_goals exact MN h

theorem SF {n:Nat}:∀ (xs:List I3) (j i:Nat),Z4 n j xs=true→i<xs.length→WY (xs.getD i (0,0,0)) ((j:Int)+(i:Int)) (n:Int)=true
 | [],_,_,_,h=>by simp at h
 | x::xs,j,i,h,hi=>by
  have h':=h
  simp only [Z4,Bool.and_eq_true] at h'
  match i,hi with
  | 0,_ =>
   have:=h'.1.2
   simpa using this
  | i+1,hi =>
   have:=SF xs (j+1) i h'.2 (by simpa using hi)
   rw [List.getD_cons_succ]
   have e:((j+1:Nat):Int)+(i:Int)=(j:Int)+((i+1:Nat):Int):=by omega
   rw [e] at this
   exact this
theorem Hh {rows:List (List I3)} {m:V4} (hp:Zf rows=true) (hs:Zc m=true) {k:Nat} (hk:k<3) (hd:Ya rows m k=false) (h7:(Xa rows m k).1=7):m.1.getD k 0<(Xa rows m k).2.2:=by
 obtain ⟨p,ep,hlt,hi,hok⟩:=Up hp hs hk hd
 have hrow:ZP (Yg rows k)=true:=by
  unfold Zf at hp
  simp only [Bool.and_eq_true,decide_eq_true_eq,List.all_eq_true] at hp
  refine hp.2 _ ?_
  have hk':k<rows.length:=by have:=hp.1;omega
  unfold Yg
  rw [List.getD,List.getElem?_eq_getElem hk',Option.getD_some]
  exact List.getElem_mem hk'
 unfold ZP at hrow
 simp only [Bool.and_eq_true] at hrow
 have hl:=SF _ 0 p hrow.2 hlt
 rw [← hi] at hl
 unfold WY at hl
 rw [if_pos h7,ZD] at hl
 omega
theorem RF {l:List Int} {k:Nat} {v:Int} (h:k<l.length):(l.set k v).getD k 0=v:=by
 simp [List.getD,List.getElem?_set_self h]
theorem GL {rows:List (List I3)} {m:V4} (hp:Zf rows=true) (hs:Zc m=true) {k:Nat} (hk:k<3) (hd:Ya rows m k=false):m.1.getD k 0<(ZQ m (Xa rows m k) k).1.1.getD k 0:=by
 have hl:=Hh hp hs hk hd
 have hk':k<m.1.length:=by have:=(ZS hs).1;omega
 generalize Xa rows m k=x at hl
 have e1:=RF (l:=m.1) (v:=m.1.getD k 0+1) hk'
 unfold ZQ
 repeat' split
 all_goals first
  | (simp only [e1];omega)
  | (have:=hl (by assumption);simp only [RF hk'];omega)

theorem QL {rows:List (List I3)} {m:V4} {k:Nat}:∀ n,((k:Int) ∈ Zm rows m n)↔k<n∧YH rows m k=true
 | 0=>by simp [Zm]
 | n+1=>by
  have ih:=QL (rows:=rows) (m:=m) (k:=k) n
  unfold Zm
  split
  ·rename_i h
   simp only [List.mem_append,List.mem_singleton,ih]
   constructor
   ·rintro (⟨h1,h2⟩ | h1)
    ·exact ⟨by omega,h2⟩
    obtain rfl:k=n:=by omega
    exact ⟨by omega,h⟩
   rintro ⟨h1,h2⟩
   by_cases e:k=n
   ·exact .inr (by omega)
   exact .inl ⟨by omega,h2⟩
  rename_i h
  rw [ih]
  constructor
  ·rintro ⟨h1,h2⟩
   exact ⟨by omega,h2⟩
  rintro ⟨h1,h2⟩
  refine ⟨?_,h2⟩
  by_cases e:k=n
  ·subst e
   exact absurd h2 h
  omega
theorem DJ {rows:List (List I3)} {m:V4} {i:Nat} (hi:i<(Zm rows m 3).length):∃ k:Nat,(Zm rows m 3).getD i 0=k∧k<3∧YH rows m k=true:=by
 have hm:(Zm rows m 3)[i] ∈ Zm rows m 3:=List.getElem_mem hi
 have hall:∀ n,∀ z ∈ Zm rows m n,∃ k:Nat,z=k:=by
  intro n
  induction n with
  | zero=>intro z hz;simp [Zm] at hz
  | succ n ih =>
   intro z hz
   unfold Zm at hz
   split at hz
   ·rcases List.mem_append.1 hz with h | h
    ·exact ih z h
    exact ⟨n,by simpa using h⟩
   exact ih z hz
 obtain ⟨k,hk⟩:=hall 3 _ hm
 rw [hk] at hm
 obtain ⟨h1,h2⟩:=(QL 3).1 hm
 refine ⟨k,?_,h1,h2⟩
 rw [List.getD,List.getElem?_eq_getElem hi,Option.getD_some,hk]
end Go.Proofs.YtgmhhegckcionaaGreatDoor
