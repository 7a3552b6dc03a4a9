/-
  Joined: MachS.
-/
import Derived.Test.YtmhlokahmblboaaGreatDoorQ17

namespace Go.Proofs.YtmhlokahmblboaaGreatDoor
set_option maxRecDepth 100000
set_option maxHeartbeats 16000000
open Go.RowKit
set_option linter.unusedVariables false
set_option linter.unusedSimpArgs false

theorem ZS.open9 {w:World} {B g n c:Nat} {zs:List Int} (h:ZS w B (some ⟨g,0,none⟩,n,c) zs):∃ cur:List Value,Blk w g 3 cur∧cur.length=c∧cur.take n=zs.map (Value.int .i64)∧B≤g∧n≤c∧c≤maxLen:=by
 unfold ZS at h
 simp only at h
 rcases h.2 with ⟨h0,_⟩ | ⟨g',cap,cur,hv,hB,hh,hn,hm,hs,ht⟩
 ·cases h0
 cases hv
 refine ⟨cur.toList,by unfold Blk;simpa using hh,by simpa using hs,by simpa using ht,hB,hn,hm⟩
theorem ZS.shut9 {w:World} {B g n c:Nat} {zs:List Int} {cur:List Value} (h:Blk w g 3 cur) (hc:cur.length=c) (ht:cur.take n=zs.map (Value.int .i64)) (hl:zs.length=n) (hB:B≤g) (hn:n≤c) (hm:c≤maxLen):ZS w B (some ⟨g,0,none⟩,n,c) zs:=
 ⟨by simpa using hl,.inr ⟨g,c,_,rfl,hB,h,hn,hm,by simpa using hc,by simpa using ht⟩⟩
theorem Mr {cur cs:List Value} {off n:Nat} (h:off+cs.length≤n) (hn:n≤cur.length):(splice cur off cs).take n=splice (cur.take n) off cs:=by
 unfold splice
 have h1:(cur.take n).take off=cur.take off:=by rw [List.take_take,Nat.min_eq_left (by omega)]
 have h2:(cur.take n).drop (off+cs.length)=(cur.drop (off+cs.length)).take (n - (off+cs.length)):=List.drop_take
 have h3:(cur.take off).length=off:=by simp;omega
 rw [h1,h2,List.take_append,List.take_of_length_le (show (cur.take off).length≤n by omega),h3,List.take_append,List.take_of_length_le (show cs.length≤n - off by omega),Nat.sub_sub]
theorem ZS.spliced9 {w':World} {B g n c off:Nat} {zs zs':List Int} {cur:List Value} {cs:List Value} (hc:cur.length=c) (ht:cur.take n=zs.map (Value.int .i64)) (hB:B≤g) (hn:n≤c) (hm:c≤maxLen) (hw:Blk w' g 3 (splice cur off cs)) (hf:off+cs.length≤n) (hz:splice (zs.map (Value.int .i64)) off cs=zs'.map (Value.int .i64)) (hl:zs'.length=n):ZS w' B (some ⟨g,0,none⟩,n,c) zs':=
 ZS.shut9 hw ((length_splice cur off cs (by omega)).trans hc) (by rw [Mr hf (by omega),ht,hz]) hl hB hn hm
theorem ZI.drew9 {w:World} {B:Nat} {s:S4} {m:V4} (h:ZI w B s m):ZI w.drew B s m:=h
section
variable {w w' : World} {B g n c : Nat} {s0 s1 s2 s3 : Sl} {m : V4} {zs' : List Int}
theorem Wv {s:Sl} {zs:List Int} (h:ZS w B s zs) (hg:w.grownBy w' (some g)) (ha:Vh (some ⟨g,0,none⟩,n,c) s):ZS w' B s zs:=
 World.ownsRow.kept h hg (by
  cases hb:(Value.slice s.1 s.2.1 s.2.2).ownBlock with
  | none=>exact .inl rfl
  | some g'=>exact .inr fun e=>ha g rfl (by rw [hb,e]))
theorem ZI.into1 (h:ZI w B (s0,(some ⟨g,0,none⟩,n,c),s2,s3) m) (hg:w.grownBy w' (some g)) (hn:ZS w' B (some ⟨g,0,none⟩,n,c) zs'):ZI w' B (s0,(some ⟨g,0,none⟩,n,c),s2,s3) (m.1,zs',m.2.2):=
 ⟨⟨Wv h.1.1 hg h.2.1.symm,hn,Wv h.1.2.2.1 hg h.2.2.2.2.1,Wv h.1.2.2.2 hg h.2.2.2.2.2.1⟩,h.2⟩
theorem ZI.into2 (h:ZI w B (s0,s1,(some ⟨g,0,none⟩,n,c),s3) m) (hg:w.grownBy w' (some g)) (hn:ZS w' B (some ⟨g,0,none⟩,n,c) zs'):ZI w' B (s0,s1,(some ⟨g,0,none⟩,n,c),s3) (m.1,m.2.1,zs',m.2.2.2):=
 ⟨⟨Wv h.1.1 hg h.2.2.1.symm,Wv h.1.2.1 hg h.2.2.2.2.1.symm,hn,Wv h.1.2.2.2 hg h.2.2.2.2.2.2⟩,h.2⟩
theorem ZI.into3 (h:ZI w B (s0,s1,s2,(some ⟨g,0,none⟩,n,c)) m) (hg:w.grownBy w' (some g)) (hn:ZS w' B (some ⟨g,0,none⟩,n,c) zs'):ZI w' B (s0,s1,s2,(some ⟨g,0,none⟩,n,c)) (m.1,m.2.1,m.2.2.1,zs'):=
 ⟨⟨Wv h.1.1 hg h.2.2.2.1.symm,Wv h.1.2.1 hg h.2.2.2.2.2.1.symm,Wv h.1.2.2.1 hg h.2.2.2.2.2.2.symm,hn⟩,h.2⟩
end
theorem UI {w:World} {g t off:Nat} {L cs:List Value} (h:Blk w g t L) (hc:∀ j v,cs[j]?=some v→L[off+j]?=some v):∀ j v,cs[j]?=some v→w.cell? ((⟨g,off,none⟩:Addr).add j)=some v:=by
 intro j v hj
 have e:(⟨g,off,none⟩:Addr).add j=⟨g,off+j,none⟩:=by unfold Addr.add;split<;>simp_all
 rw [e,h.cell,hc j v hj]

theorem JV (w0 w1 w2 w3 w4 w5 w6 w7 w8 w9 w10 w11:Value) (W:World):(Instr.index 66 (.agg #[w0,w1,w2,w3,w4,w5,w6,w7,w8,w9,w10,w11]) (.int .i64 0)).run Tryz.prog W=.ok (.agg #[w0,w1,w2,w3]) W:=by kernel_rfl
theorem JW (w0 w1 w2 w3 w4 w5 w6 w7 w8 w9 w10 w11:Value) (W:World):(Instr.index 66 (.agg #[w0,w1,w2,w3,w4,w5,w6,w7,w8,w9,w10,w11]) (.int .i64 1)).run Tryz.prog W=.ok (.agg #[w4,w5,w6,w7]) W:=by kernel_rfl
theorem JX (w0 w1 w2 w3 w4 w5 w6 w7 w8 w9 w10 w11:Value) (W:World):(Instr.index 66 (.agg #[w0,w1,w2,w3,w4,w5,w6,w7,w8,w9,w10,w11]) (.int .i64 2)).run Tryz.prog W=.ok (.agg #[w8,w9,w10,w11]) W:=by kernel_rfl

theorem Jq (g:Nat) (da0:Option Addr) (dn0 dc0:Nat) (da1:Option Addr) (dn1 dc1:Nat) (da2:Option Addr) (dn2 dc2:Nat) (p0 p1 p2 v0 v1 v2 v3 h0 h1 x0 y0 x1 y1 x2 y2:Int) (w:World) (hM:Blk w g 69 [.slice da0 dn0 dc0,.int .i64 p0,.int .i64 x0,.int .i64 y0,.slice da1 dn1 dc1,.int .i64 p1,.int .i64 x1,.int .i64 y1,.slice da2 dn2 dc2,.int .i64 p2,.int .i64 x2,.int .i64 y2,.int .i64 v0,.int .i64 v1,.int .i64 v2,.int .i64 v3,.int .i64 h0,.int .i64 h1]) :
  Calls Tryz.prog 163 #[.pointer (some ⟨g,0,none⟩)] w fun e w'=>S9 e w' w.heap.size ([p0,p1,p2],[v0,v1,v2,v3],[h0,h1],[x0,y0,x1,y1,x2,y2])∧Below w.heap.size w w':=by
 have kN:=Xi
 have bw:Below w.heap.size w (w.alloc (.cells #[.slice none 0 0,.slice none 0 0,.slice none 0 0,.slice none 0 0] 74)):=by go_grown
 have pR:=Blk.new w 74 [.slice none 0 0,.slice none 0 0,.slice none 0 0,.slice none 0 0]
 go_enter Tryz.func163,Tryz.ntmps163
 go_wp2_with fail
 refine (kN _).mono ?_
 rintro e w1 ⟨⟨t,rfl,hO⟩,hb⟩
 obtain ⟨g0,g1,g2,g3,c0,c1,c2,c3,rfl,⟨l0,l1,l2,l3⟩,m0,m1,m2,m3⟩:=VB hO
 unfold maxLen at m0 m1 m2 m3
 have uX:S4.val ((some ⟨g0,0,none⟩,3,c0),(some ⟨g1,0,none⟩,4,c1),(some ⟨g2,0,none⟩,2,c2),(some ⟨g3,0,none⟩,6,c3))=.agg #[.slice (some ⟨g0,0,none⟩) 3 c0,.slice (some ⟨g1,0,none⟩) 4 c1,.slice (some ⟨g2,0,none⟩) 2 c2,.slice (some ⟨g3,0,none⟩) 6 c3]:=rfl
 rw [uX]
 clear uX
 replace hO:=hO.lower9 bw.size
 have bA:Below w1.heap.size w1 (w1.alloc (.cells #[.slice (some ⟨g0,0,none⟩) 3 c0,.slice (some ⟨g1,0,none⟩) 4 c1,.slice (some ⟨g2,0,none⟩) 2 c2,.slice (some ⟨g3,0,none⟩) 6 c3] 74)):=by go_grown
 have pS:=Blk.new w1 74 [.slice (some ⟨g0,0,none⟩) 3 c0,.slice (some ⟨g1,0,none⟩) 4 c1,.slice (some ⟨g2,0,none⟩) 2 c2,.slice (some ⟨g3,0,none⟩) 6 c3]
 have hgS:w.heap.size<w1.heap.size:=Nat.lt_of_lt_of_le (by simp) hb.size
 replace bw:=Zb bw (Zb hb bA)
 replace pR:=pR.below (Zb hb bA)
 replace hO:=hO.below bA
 clear hb bA kN
 go_wp2_with fail
 generalize (w1.alloc (.cells #[.slice (some ⟨g0,0,none⟩) 3 c0,.slice (some ⟨g1,0,none⟩) 4 c1,.slice (some ⟨g2,0,none⟩) 2 c2,.slice (some ⟨g3,0,none⟩) 6 c3] 74))=W1 at *
 generalize w1.heap.size=gS at *
 unfold ZD at hO
 have neS0:=hO.1.1.ne9 pS (by decide)
 have neR0:=hO.1.1.ne9 pR (by decide)
 have neS1:=hO.1.2.1.ne9 pS (by decide)
 have neR1:=hO.1.2.1.ne9 pR (by decide)
 have neS2:=hO.1.2.2.1.ne9 pS (by decide)
 have neR2:=hO.1.2.2.1.ne9 pR (by decide)
 have neS3:=hO.1.2.2.2.ne9 pS (by decide)
 have neR3:=hO.1.2.2.2.ne9 pR (by decide)
 have e1:W1.cell? ⟨gS,1,none⟩=some (.slice (some ⟨g1,0,none⟩) 4 c1):=by simpa using pS.cell 1
 refine wp_region_held_drew (S:=(fun w'=>w'.cell? ⟨gS,1,none⟩=some (.slice (some ⟨g1,0,none⟩) 4 c1))) (by kernel_rfl) e1 (fun hS0=>?_)
 refine tkm 0 7 (.pointer (some ⟨gS,1,none⟩)) ?_
 refine tkm 1 8 (.slice (some ⟨g1,0,none⟩) 4 c1) ?_
 refine tkm 2 9 (.pointer (some ⟨g,0,none⟩)) ?_
 refine tkm 3 10 (.pointer (some ⟨g,0,none⟩)) ?_
 refine tkm 4 11 (.pointer (some ⟨g,12,none⟩)) ?_
 refine tkm 5 12 (.slice (some ⟨g,12,none⟩) 4 4) ?_
 obtain ⟨cur,hcur,hcl,hct,hcB,hcn,hcm⟩:=(hO.1.2.1).open9
 refine tkr 6 13 (fun K hK=>?_)
 refine ZN rfl _ _ 72 72 rfl 3 Tryz.underlying72 (by kernel_rfl) g1 0 ⟨g,12,none⟩ _ _ _ _ rfl rfl cur 3 hcur.drew [.int .i64 v0,.int .i64 v1,.int .i64 v2,.int .i64 v3] (.int .i64 4) rfl rfl (UI (hM.below (Zb bw (by go_grown))) (fun j v hj=>by match j,hj with | 0,hj=>exact hj | 1,hj=>exact hj | 2,hj=>exact hj | 3,hj=>exact hj | (j+4),hj=>simp at hj)) (by simp;omega) (by simp [Value.oneCell']) ?_
 intro W2 hB9 gr
 replace hO:=ZI.into1 hO.drew9 gr (ZS.spliced9 (zs':=[v0,v1,v2,v3]) hcl hct hcB hcn hcm hB9.out (by simp) rfl rfl)
 simp only at hO
 replace pS:=(pS.drew).kept gr (fun e=>neS1 (by simpa using e.symm))
 replace pR:=(pR.drew).kept gr (fun e=>neR1 (by simpa using e.symm))
 
 replace bw:=(Zb bw (by go_grown:Below W1.heap.size W1 W1.drew)).grown gr (by have:=bw.size;exact this) (fun x hx=>by cases hx;exact hcB)
 refine hK.out _ _ ?_ (fun hS1=>?_)
 ·exact by simpa using pS.cell 1
 clear hK hS0 hS1 hB9 gr hcur hcl hct hcB hcn hcm
 try simp only [Act.put,tka,tkb,tkc]
 refine wpAnyH_done (by kernel_rfl) ?_ _
 clear e1
 go_wp2_with fail
 have e1:W2.cell? ⟨gS,2,none⟩=some (.slice (some ⟨g2,0,none⟩) 2 c2):=by simpa using pS.cell 2
 refine wp_region_held_drew (S:=(fun w'=>w'.cell? ⟨gS,2,none⟩=some (.slice (some ⟨g2,0,none⟩) 2 c2))) (by kernel_rfl) e1 (fun hS0=>?_)
 refine tkm 0 14 (.pointer (some ⟨gS,2,none⟩)) ?_
 refine tkm 1 15 (.slice (some ⟨g2,0,none⟩) 2 c2) ?_
 refine tkm 2 16 (.pointer (some ⟨g,0,none⟩)) ?_
 refine tkm 3 17 (.pointer (some ⟨g,0,none⟩)) ?_
 refine tkm 4 18 (.pointer (some ⟨g,16,none⟩)) ?_
 refine tkm 5 19 (.slice (some ⟨g,16,none⟩) 2 2) ?_
 obtain ⟨cur,hcur,hcl,hct,hcB,hcn,hcm⟩:=(hO.1.2.2.1).open9
 refine tkr 6 20 (fun K hK=>?_)
 refine ZN rfl _ _ 72 72 rfl 3 Tryz.underlying72 (by kernel_rfl) g2 0 ⟨g,16,none⟩ _ _ _ _ rfl rfl cur 3 hcur.drew [.int .i64 h0,.int .i64 h1] (.int .i64 2) rfl rfl (UI (hM.below (Zb bw (by go_grown))) (fun j v hj=>by match j,hj with | 0,hj=>exact hj | 1,hj=>exact hj | (j+2),hj=>simp at hj)) (by simp;omega) (by simp [Value.oneCell']) ?_
 intro W3 hB9 gr
 replace hO:=ZI.into2 hO.drew9 gr (ZS.spliced9 (zs':=[h0,h1]) hcl hct hcB hcn hcm hB9.out (by simp) rfl rfl)
 simp only at hO
 replace pS:=(pS.drew).kept gr (fun e=>neS2 (by simpa using e.symm))
 replace pR:=(pR.drew).kept gr (fun e=>neR2 (by simpa using e.symm))
 
 replace bw:=(Zb bw (by go_grown:Below W2.heap.size W2 W2.drew)).grown gr (by have:=bw.size;exact this) (fun x hx=>by cases hx;exact hcB)
 refine hK.out _ _ ?_ (fun hS1=>?_)
 ·exact by simpa using pS.cell 2
 clear hK hS0 hS1 hB9 gr hcur hcl hct hcB hcn hcm
 try simp only [Act.put,tka,tkb,tkc]
 refine wpAnyH_done (by kernel_rfl) ?_ _
 clear e1
 have t0:=(hM.below bw).cell 0
 have t1:=(hM.below bw).cell 1
 have t2:=(hM.below bw).cell 2
 have t3:=(hM.below bw).cell 3
 have t4:=(hM.below bw).cell 4
 have t5:=(hM.below bw).cell 5
 have t6:=(hM.below bw).cell 6
 have t7:=(hM.below bw).cell 7
 have t8:=(hM.below bw).cell 8
 have t9:=(hM.below bw).cell 9
 have t10:=(hM.below bw).cell 10
 have t11:=(hM.below bw).cell 11
 simp only [List.getElem?_cons_zero,List.getElem?_cons_succ] at t0 t1 t2 t3 t4 t5 t6 t7 t8 t9 t10 t11
 obtain ⟨PM,q0,q1,q2,q3⟩:∃ PM:Nat→V4,Hid (PM 0=([0,0,0],[v0,v1,v2,v3],[h0,h1],[0,0,0,0,0,0]))∧Hid (PM 1=([p0,0,0],[v0,v1,v2,v3],[h0,h1],[x0,y0,0,0,0,0]))∧Hid (PM 2=([p0,p1,0],[v0,v1,v2,v3],[h0,h1],[x0,y0,x1,y1,0,0]))∧Hid (PM 3=([p0,p1,p2],[v0,v1,v2,v3],[h0,h1],[x0,y0,x1,y1,x2,y2])):=
  ⟨fun k=>if k=0 then ([0,0,0],[v0,v1,v2,v3],[h0,h1],[0,0,0,0,0,0]) else if k=1 then ([p0,0,0],[v0,v1,v2,v3],[h0,h1],[x0,y0,0,0,0,0]) else if k=2 then ([p0,p1,0],[v0,v1,v2,v3],[h0,h1],[x0,y0,x1,y1,0,0]) else ([p0,p1,p2],[v0,v1,v2,v3],[h0,h1],[x0,y0,x1,y1,x2,y2]),rfl,rfl,rfl,rfl⟩
 have i0:=JV (.slice da0 dn0 dc0) (.int .i64 p0) (.int .i64 x0) (.int .i64 y0) (.slice da1 dn1 dc1) (.int .i64 p1) (.int .i64 x1) (.int .i64 y1) (.slice da2 dn2 dc2) (.int .i64 p2) (.int .i64 x2) (.int .i64 y2)
 have i1:=JW (.slice da0 dn0 dc0) (.int .i64 p0) (.int .i64 x0) (.int .i64 y0) (.slice da1 dn1 dc1) (.int .i64 p1) (.int .i64 x1) (.int .i64 y1) (.slice da2 dn2 dc2) (.int .i64 p2) (.int .i64 x2) (.int .i64 y2)
 have i2:=JX (.slice da0 dn0 dc0) (.int .i64 p0) (.int .i64 x0) (.int .i64 y0) (.slice da1 dn1 dc1) (.int .i64 p1) (.int .i64 x1) (.int .i64 y1) (.slice da2 dn2 dc2) (.int .i64 p2) (.int .i64 x2) (.int .i64 y2)
 have hO3:ZI W3 w.heap.size ((some ⟨g0,0,none⟩,3,c0),(some ⟨g1,0,none⟩,4,c1),(some ⟨g2,0,none⟩,2,c2),(some ⟨g3,0,none⟩,6,c3)) (PM 0):=by rw [q0.out];exact hO
 clear hO
 have hO:=hO3
 clear hO3
 go_wp2_with fail
 clear t0 t1 t2 t3 t4 t5 t6 t7 t8 t9 t10 t11
 go_loopw [25] (fun si wr=>∃ k:Nat,k≤3∧si=.int .i64 k∧ZI wr w.heap.size ((some ⟨g0,0,none⟩,3,c0),(some ⟨g1,0,none⟩,4,c1),(some ⟨g2,0,none⟩,2,c2),(some ⟨g3,0,none⟩,6,c3)) (PM k)∧Blk wr gS 74 [.slice (some ⟨g0,0,none⟩) 3 c0,.slice (some ⟨g1,0,none⟩) 4 c1,.slice (some ⟨g2,0,none⟩) 2 c2,.slice (some ⟨g3,0,none⟩) 6 c3]∧Blk wr w.heap.size 74 [.slice none 0 0,.slice none 0 0,.slice none 0 0,.slice none 0 0]∧Below w.heap.size w wr) (fun si _=>3 - (intOf si).toNat)
 case atStart=>exact ⟨0,by omega,rfl,hO,pS,pR,bw⟩
 case round =>
  clear hO pS pR bw neS0 neS1 neS2 neS3 neR0 neR1 neR2 neR3
  obtain ⟨k,hk,rfl,hO,pS,pR,bw⟩:=hrel
  rcases (show k=0∨k=1∨k=2∨k=3 by omega) with rfl | rfl | rfl | rfl
  ·skip
   rw [q0.out] at hO
   have neS0:=hO.1.1.ne9 pS (by decide)
   have neR0:=hO.1.1.ne9 pR (by decide)
   have neS1:=hO.1.2.1.ne9 pS (by decide)
   have neR1:=hO.1.2.1.ne9 pR (by decide)
   have neS2:=hO.1.2.2.1.ne9 pS (by decide)
   have neR2:=hO.1.2.2.1.ne9 pR (by decide)
   have neS3:=hO.1.2.2.2.ne9 pS (by decide)
   have neR3:=hO.1.2.2.2.ne9 pR (by decide)
   have hold:wr.cell? ⟨g0,0,none⟩=some (.int .i64 0):=hO.1.1.at9 (by decide)
   have hfz:=hO.1.1.frz9 0
   have hlo:=hO.1.1.lo9
   have bA:Below wr.heap.size wr (wr.alloc (.cells #[.slice da0 dn0 dc0,.int .i64 p0,.int .i64 x0,.int .i64 y0] 65)):=by go_grown
   have pT:=Blk.new wr 65 [.slice da0 dn0 dc0,.int .i64 p0,.int .i64 x0,.int .i64 y0]
   have hold2:(wr.alloc (.cells #[.slice da0 dn0 dc0,.int .i64 p0,.int .i64 x0,.int .i64 y0] 65)).cell? ⟨g0,0,none⟩=some (.int .i64 0):=Za bA _ _ hold
   have hfz2:(wr.alloc (.cells #[.slice da0 dn0 dc0,.int .i64 p0,.int .i64 x0,.int .i64 y0] 65)).frozen? ⟨g0,0,none⟩=false:=(hO.below bA).1.1.frz9 0
   have pS1:=pS.below bA
   have s0:(wr.alloc (.cells #[.slice da0 dn0 dc0,.int .i64 p0,.int .i64 x0,.int .i64 y0] 65)).cell? ⟨gS,0,none⟩=some (.slice (some ⟨g0,0,none⟩) 3 c0):=by simpa using pS1.cell 0
   have bS:Below (wr.setCell ⟨g0,0,none⟩ (.int .i64 p0)).heap.size (wr.setCell ⟨g0,0,none⟩ (.int .i64 p0)) ((wr.setCell ⟨g0,0,none⟩ (.int .i64 p0)).alloc (.cells #[.slice da0 dn0 dc0,.int .i64 p0,.int .i64 x0,.int .i64 y0] 65)):=by go_grown
   have hO2:=(hO.set0 0 p0).below bS
   simp only [List.set_cons_zero,List.set_cons_succ] at hO2
   have pT2:Blk ((wr.setCell ⟨g0,0,none⟩ (.int .i64 p0)).alloc (.cells #[.slice da0 dn0 dc0,.int .i64 p0,.int .i64 x0,.int .i64 y0] 65)) wr.heap.size 65 [.slice da0 dn0 dc0,.int .i64 p0,.int .i64 x0,.int .i64 y0]:=by
    have h9:=Blk.new (wr.setCell ⟨g0,0,none⟩ (.int .i64 p0)) 65 [.slice da0 dn0 dc0,.int .i64 p0,.int .i64 x0,.int .i64 y0]
    rwa [World.size_setCell] at h9
   have pS2:=(pS.off ⟨g0,0,none⟩ (.int .i64 p0) neS0).below bS
   have pR2:=(pR.off ⟨g0,0,none⟩ (.int .i64 p0) neR0).below bS
   have b2:=Zb (bw.setCell (p:=⟨g0,0,none⟩) hlo.1 (.int .i64 p0)) bS
   clear pS1
   go_wp2_with fail
   clear hold hfz hold2 hfz2 s0 bA hO pS pR bw bS pT
   generalize hWW:((wr.setCell ⟨g0,0,none⟩ (.int .i64 p0)).alloc (.cells #[.slice da0 dn0 dc0,.int .i64 p0,.int .i64 x0,.int .i64 y0] 65))=Wa at *
   have hgT:wr.heap.size<Wa.heap.size:=pT2.lt
   clear hWW
   generalize wr.heap.size=gT at *
   have hO:=hO2
   have pS:=pS2
   have pR:=pR2
   have bw:=b2
   have pT:=pT2
   clear hO2 pS2 pR2 b2 pT2
   have neT3:=hO.1.2.2.2.ne9 pT (by decide)
   have e1:Wa.cell? ⟨gS,3,none⟩=some (.slice (some ⟨g3,0,none⟩) 6 c3):=by simpa using pS.cell 3
   have hz:¬ c3=0:=by omega
   have hzi:(0:Int)≤(6:Int):=by decide
   refine wp_region_held_drew (S:=(fun w'=>w'.cell? ⟨gS,3,none⟩=some (.slice (some ⟨g3,0,none⟩) 6 c3))) (by kernel_rfl) e1 (fun hS0=>?_)
   refine tkm 0 35 (.pointer (some ⟨gS,3,none⟩)) ?_
   refine tkm 1 36 (.slice (some ⟨g3,0,none⟩) 6 c3) ?_
   refine tkm 2 37 (.int .i64 0) ?_
   refine tkm 3 38 (.int .i64 0) ?_
   refine tkm 4 39 (.slice (some ⟨g3,0,none⟩) 6 c3) ?_
   refine tkm 5 40 (.pointer (some ⟨gT,2,none⟩)) ?_
   refine tkm 6 41 (.slice (some ⟨gT,2,none⟩) 2 2) ?_
   obtain ⟨cur,hcur,hcl,hct,hcB,hcn,hcm⟩:=(hO.1.2.2.2).open9
   refine tkr 7 42 (fun K hK=>?_)
   refine ZN rfl _ _ 72 72 rfl 3 Tryz.underlying72 (by kernel_rfl) g3 0 ⟨gT,2,none⟩ _ _ _ _ rfl rfl cur 3 hcur.drew [.int .i64 x0,.int .i64 y0] (.int .i64 2) rfl rfl (UI pT.drew (fun j v hj=>by match j,hj with | 0,hj=>exact hj | 1,hj=>exact hj | (j+2),hj=>simp at hj)) (by simp;omega) (by simp [Value.oneCell']) ?_
   intro Wb hB9 gr
   replace hO:=ZI.into3 hO.drew9 gr (ZS.spliced9 (zs':=[x0,y0,0,0,0,0]) hcl hct hcB hcn hcm hB9.out (by simp) rfl rfl)
   simp only at hO
   replace pS:=(pS.drew).kept gr (fun e=>neS3 (by simpa using e.symm))
   replace pR:=(pR.drew).kept gr (fun e=>neR3 (by simpa using e.symm))
   
   replace bw:=(Zb bw (by go_grown:Below Wa.heap.size Wa Wa.drew)).grown gr (by have:=bw.size;exact this) (fun x hx=>by cases hx;exact hcB)
   refine hK.out _ _ ?_ (fun hS1=>?_)
   ·exact by simpa using pS.cell 3
   clear hK hS0 hS1 hB9 gr hcur hcl hct hcB hcn hcm
   try simp only [Act.put,tka,tkb,tkc]
   refine wpAnyH_done (by kernel_rfl) ?_ _
   rw [show ([p0,0,0],[v0,v1,v2,v3],[h0,h1],[x0,y0,0,0,0,0])=PM 1 from q1.out.symm] at hO
   clear e1 hz hzi pT
   go_wp2
   go_roundw
   case rel=>exact ⟨1,by omega,rfl,hO,pS,pR,bw⟩
   case measure=>simp [intOf]
  ·skip
   rw [q1.out] at hO
   have neS0:=hO.1.1.ne9 pS (by decide)
   have neR0:=hO.1.1.ne9 pR (by decide)
   have neS1:=hO.1.2.1.ne9 pS (by decide)
   have neR1:=hO.1.2.1.ne9 pR (by decide)
   have neS2:=hO.1.2.2.1.ne9 pS (by decide)
   have neR2:=hO.1.2.2.1.ne9 pR (by decide)
   have neS3:=hO.1.2.2.2.ne9 pS (by decide)
   have neR3:=hO.1.2.2.2.ne9 pR (by decide)
   have hold:wr.cell? ⟨g0,1,none⟩=some (.int .i64 0):=hO.1.1.at9 (by decide)
   have hfz:=hO.1.1.frz9 1
   have hlo:=hO.1.1.lo9
   have bA:Below wr.heap.size wr (wr.alloc (.cells #[.slice da1 dn1 dc1,.int .i64 p1,.int .i64 x1,.int .i64 y1] 65)):=by go_grown
   have pT:=Blk.new wr 65 [.slice da1 dn1 dc1,.int .i64 p1,.int .i64 x1,.int .i64 y1]
   have hold2:(wr.alloc (.cells #[.slice da1 dn1 dc1,.int .i64 p1,.int .i64 x1,.int .i64 y1] 65)).cell? ⟨g0,1,none⟩=some (.int .i64 0):=Za bA _ _ hold
   have hfz2:(wr.alloc (.cells #[.slice da1 dn1 dc1,.int .i64 p1,.int .i64 x1,.int .i64 y1] 65)).frozen? ⟨g0,1,none⟩=false:=(hO.below bA).1.1.frz9 1
   have pS1:=pS.below bA
   have s0:(wr.alloc (.cells #[.slice da1 dn1 dc1,.int .i64 p1,.int .i64 x1,.int .i64 y1] 65)).cell? ⟨gS,0,none⟩=some (.slice (some ⟨g0,0,none⟩) 3 c0):=by simpa using pS1.cell 0
   have bS:Below (wr.setCell ⟨g0,1,none⟩ (.int .i64 p1)).heap.size (wr.setCell ⟨g0,1,none⟩ (.int .i64 p1)) ((wr.setCell ⟨g0,1,none⟩ (.int .i64 p1)).alloc (.cells #[.slice da1 dn1 dc1,.int .i64 p1,.int .i64 x1,.int .i64 y1] 65)):=by go_grown
   have hO2:=(hO.set0 1 p1).below bS
   simp only [List.set_cons_zero,List.set_cons_succ] at hO2
   have pT2:Blk ((wr.setCell ⟨g0,1,none⟩ (.int .i64 p1)).alloc (.cells #[.slice da1 dn1 dc1,.int .i64 p1,.int .i64 x1,.int .i64 y1] 65)) wr.heap.size 65 [.slice da1 dn1 dc1,.int .i64 p1,.int .i64 x1,.int .i64 y1]:=by
    have h9:=Blk.new (wr.setCell ⟨g0,1,none⟩ (.int .i64 p1)) 65 [.slice da1 dn1 dc1,.int .i64 p1,.int .i64 x1,.int .i64 y1]
    rwa [World.size_setCell] at h9
   have pS2:=(pS.off ⟨g0,1,none⟩ (.int .i64 p1) neS0).below bS
   have pR2:=(pR.off ⟨g0,1,none⟩ (.int .i64 p1) neR0).below bS
   have b2:=Zb (bw.setCell (p:=⟨g0,1,none⟩) hlo.1 (.int .i64 p1)) bS
   clear pS1
   go_wp2_with fail
   clear hold hfz hold2 hfz2 s0 bA hO pS pR bw bS pT
   generalize hWW:((wr.setCell ⟨g0,1,none⟩ (.int .i64 p1)).alloc (.cells #[.slice da1 dn1 dc1,.int .i64 p1,.int .i64 x1,.int .i64 y1] 65))=Wa at *
   have hgT:wr.heap.size<Wa.heap.size:=pT2.lt
   clear hWW
   generalize wr.heap.size=gT at *
   have hO:=hO2
   have pS:=pS2
   have pR:=pR2
   have bw:=b2
   have pT:=pT2
   clear hO2 pS2 pR2 b2 pT2
   have neT3:=hO.1.2.2.2.ne9 pT (by decide)
   have e1:Wa.cell? ⟨gS,3,none⟩=some (.slice (some ⟨g3,0,none⟩) 6 c3):=by simpa using pS.cell 3
   have hz:¬ c3=2:=by omega
   have hzi:(2:Int)≤(6:Int):=by decide
   refine wp_region_held_drew (S:=(fun w'=>w'.cell? ⟨gS,3,none⟩=some (.slice (some ⟨g3,0,none⟩) 6 c3))) (by kernel_rfl) e1 (fun hS0=>?_)
   refine tkm 0 35 (.pointer (some ⟨gS,3,none⟩)) ?_
   refine tkm 1 36 (.slice (some ⟨g3,0,none⟩) 6 c3) ?_
   refine tkm 2 37 (.int .i64 1) ?_
   refine tkm 3 38 (.int .i64 2) ?_
   refine tkm 4 39 (.slice (some ⟨g3,2,none⟩) 4 (c3 - 2)) ?_
   refine tkm 5 40 (.pointer (some ⟨gT,2,none⟩)) ?_
   refine tkm 6 41 (.slice (some ⟨gT,2,none⟩) 2 2) ?_
   obtain ⟨cur,hcur,hcl,hct,hcB,hcn,hcm⟩:=(hO.1.2.2.2).open9
   refine tkr 7 42 (fun K hK=>?_)
   refine ZN rfl _ _ 72 72 rfl 3 Tryz.underlying72 (by kernel_rfl) g3 2 ⟨gT,2,none⟩ _ _ _ _ rfl rfl cur 3 hcur.drew [.int .i64 x1,.int .i64 y1] (.int .i64 2) rfl rfl (UI pT.drew (fun j v hj=>by match j,hj with | 0,hj=>exact hj | 1,hj=>exact hj | (j+2),hj=>simp at hj)) (by simp;omega) (by simp [Value.oneCell']) ?_
   intro Wb hB9 gr
   replace hO:=ZI.into3 hO.drew9 gr (ZS.spliced9 (zs':=[x0,y0,x1,y1,0,0]) hcl hct hcB hcn hcm hB9.out (by simp) rfl rfl)
   simp only at hO
   replace pS:=(pS.drew).kept gr (fun e=>neS3 (by simpa using e.symm))
   replace pR:=(pR.drew).kept gr (fun e=>neR3 (by simpa using e.symm))
   
   replace bw:=(Zb bw (by go_grown:Below Wa.heap.size Wa Wa.drew)).grown gr (by have:=bw.size;exact this) (fun x hx=>by cases hx;exact hcB)
   refine hK.out _ _ ?_ (fun hS1=>?_)
   ·exact by simpa using pS.cell 3
   clear hK hS0 hS1 hB9 gr hcur hcl hct hcB hcn hcm
   try simp only [Act.put,tka,tkb,tkc]
   refine wpAnyH_done (by kernel_rfl) ?_ _
   rw [show ([p0,p1,0],[v0,v1,v2,v3],[h0,h1],[x0,y0,x1,y1,0,0])=PM 2 from q2.out.symm] at hO
   clear e1 hz hzi pT
   go_wp2
   go_roundw
   case rel=>exact ⟨2,by omega,rfl,hO,pS,pR,bw⟩
   case measure=>simp [intOf]
  ·skip
   rw [q2.out] at hO
   have neS0:=hO.1.1.ne9 pS (by decide)
   have neR0:=hO.1.1.ne9 pR (by decide)
   have neS1:=hO.1.2.1.ne9 pS (by decide)
   have neR1:=hO.1.2.1.ne9 pR (by decide)
   have neS2:=hO.1.2.2.1.ne9 pS (by decide)
   have neR2:=hO.1.2.2.1.ne9 pR (by decide)
   have neS3:=hO.1.2.2.2.ne9 pS (by decide)
   have neR3:=hO.1.2.2.2.ne9 pR (by decide)
   have hold:wr.cell? ⟨g0,2,none⟩=some (.int .i64 0):=hO.1.1.at9 (by decide)
   have hfz:=hO.1.1.frz9 2
   have hlo:=hO.1.1.lo9
   have bA:Below wr.heap.size wr (wr.alloc (.cells #[.slice da2 dn2 dc2,.int .i64 p2,.int .i64 x2,.int .i64 y2] 65)):=by go_grown
   have pT:=Blk.new wr 65 [.slice da2 dn2 dc2,.int .i64 p2,.int .i64 x2,.int .i64 y2]
   have hold2:(wr.alloc (.cells #[.slice da2 dn2 dc2,.int .i64 p2,.int .i64 x2,.int .i64 y2] 65)).cell? ⟨g0,2,none⟩=some (.int .i64 0):=Za bA _ _ hold
   have hfz2:(wr.alloc (.cells #[.slice da2 dn2 dc2,.int .i64 p2,.int .i64 x2,.int .i64 y2] 65)).frozen? ⟨g0,2,none⟩=false:=(hO.below bA).1.1.frz9 2
   have pS1:=pS.below bA
   have s0:(wr.alloc (.cells #[.slice da2 dn2 dc2,.int .i64 p2,.int .i64 x2,.int .i64 y2] 65)).cell? ⟨gS,0,none⟩=some (.slice (some ⟨g0,0,none⟩) 3 c0):=by simpa using pS1.cell 0
   have bS:Below (wr.setCell ⟨g0,2,none⟩ (.int .i64 p2)).heap.size (wr.setCell ⟨g0,2,none⟩ (.int .i64 p2)) ((wr.setCell ⟨g0,2,none⟩ (.int .i64 p2)).alloc (.cells #[.slice da2 dn2 dc2,.int .i64 p2,.int .i64 x2,.int .i64 y2] 65)):=by go_grown
   have hO2:=(hO.set0 2 p2).below bS
   simp only [List.set_cons_zero,List.set_cons_succ] at hO2
   have pT2:Blk ((wr.setCell ⟨g0,2,none⟩ (.int .i64 p2)).alloc (.cells #[.slice da2 dn2 dc2,.int .i64 p2,.int .i64 x2,.int .i64 y2] 65)) wr.heap.size 65 [.slice da2 dn2 dc2,.int .i64 p2,.int .i64 x2,.int .i64 y2]:=by
    have h9:=Blk.new (wr.setCell ⟨g0,2,none⟩ (.int .i64 p2)) 65 [.slice da2 dn2 dc2,.int .i64 p2,.int .i64 x2,.int .i64 y2]
    rwa [World.size_setCell] at h9
   have pS2:=(pS.off ⟨g0,2,none⟩ (.int .i64 p2) neS0).below bS
   have pR2:=(pR.off ⟨g0,2,none⟩ (.int .i64 p2) neR0).below bS
   have b2:=Zb (bw.setCell (p:=⟨g0,2,none⟩) hlo.1 (.int .i64 p2)) bS
   clear pS1
   go_wp2_with fail
   clear hold hfz hold2 hfz2 s0 bA hO pS pR bw bS pT
   generalize hWW:((wr.setCell ⟨g0,2,none⟩ (.int .i64 p2)).alloc (.cells #[.slice da2 dn2 dc2,.int .i64 p2,.int .i64 x2,.int .i64 y2] 65))=Wa at *
   have hgT:wr.heap.size<Wa.heap.size:=pT2.lt
   clear hWW
   generalize wr.heap.size=gT at *
   have hO:=hO2
   have pS:=pS2
   have pR:=pR2
   have bw:=b2
   have pT:=pT2
   clear hO2 pS2 pR2 b2 pT2
   have neT3:=hO.1.2.2.2.ne9 pT (by decide)
   have e1:Wa.cell? ⟨gS,3,none⟩=some (.slice (some ⟨g3,0,none⟩) 6 c3):=by simpa using pS.cell 3
   have hz:¬ c3=4:=by omega
   have hzi:(4:Int)≤(6:Int):=by decide
   refine wp_region_held_drew (S:=(fun w'=>w'.cell? ⟨gS,3,none⟩=some (.slice (some ⟨g3,0,none⟩) 6 c3))) (by kernel_rfl) e1 (fun hS0=>?_)
   refine tkm 0 35 (.pointer (some ⟨gS,3,none⟩)) ?_
   refine tkm 1 36 (.slice (some ⟨g3,0,none⟩) 6 c3) ?_
   refine tkm 2 37 (.int .i64 2) ?_
   refine tkm 3 38 (.int .i64 4) ?_
   refine tkm 4 39 (.slice (some ⟨g3,4,none⟩) 2 (c3 - 4)) ?_
   refine tkm 5 40 (.pointer (some ⟨gT,2,none⟩)) ?_
   refine tkm 6 41 (.slice (some ⟨gT,2,none⟩) 2 2) ?_
   obtain ⟨cur,hcur,hcl,hct,hcB,hcn,hcm⟩:=(hO.1.2.2.2).open9
   refine tkr 7 42 (fun K hK=>?_)
   refine ZN rfl _ _ 72 72 rfl 3 Tryz.underlying72 (by kernel_rfl) g3 4 ⟨gT,2,none⟩ _ _ _ _ rfl rfl cur 3 hcur.drew [.int .i64 x2,.int .i64 y2] (.int .i64 2) rfl rfl (UI pT.drew (fun j v hj=>by match j,hj with | 0,hj=>exact hj | 1,hj=>exact hj | (j+2),hj=>simp at hj)) (by simp;omega) (by simp [Value.oneCell']) ?_
   intro Wb hB9 gr
   replace hO:=ZI.into3 hO.drew9 gr (ZS.spliced9 (zs':=[x0,y0,x1,y1,x2,y2]) hcl hct hcB hcn hcm hB9.out (by simp) rfl rfl)
   simp only at hO
   replace pS:=(pS.drew).kept gr (fun e=>neS3 (by simpa using e.symm))
   replace pR:=(pR.drew).kept gr (fun e=>neR3 (by simpa using e.symm))
   
   replace bw:=(Zb bw (by go_grown:Below Wa.heap.size Wa Wa.drew)).grown gr (by have:=bw.size;exact this) (fun x hx=>by cases hx;exact hcB)
   refine hK.out _ _ ?_ (fun hS1=>?_)
   ·exact by simpa using pS.cell 3
   clear hK hS0 hS1 hB9 gr hcur hcl hct hcB hcn hcm
   try simp only [Act.put,tka,tkb,tkc]
   refine wpAnyH_done (by kernel_rfl) ?_ _
   rw [show ([p0,p1,p2],[v0,v1,v2,v3],[h0,h1],[x0,y0,x1,y1,x2,y2])=PM 3 from q3.out.symm] at hO
   clear e1 hz hzi pT
   go_wp2
   go_roundw
   case rel=>exact ⟨3,by omega,rfl,hO,pS,pR,bw⟩
   case measure=>simp [intOf]
  go_wp2_with (first | refine Zc rfl 74 _ rfl gS rfl pS _ Tryz.underlying74 rfl (by kernel_rfl) ?_ | refine Zd rfl 74 _ _ rfl w.heap.size [.slice (some ⟨g0,0,none⟩) 3 c0,.slice (some ⟨g1,0,none⟩) 4 c1,.slice (some ⟨g2,0,none⟩) 2 c2,.slice (some ⟨g3,0,none⟩) 6 c3] rfl rfl pR (by kernel_rfl) rfl rfl ?_)
  intro w9 pR9 g9
  replace bw:=bw.grown g9 bw.size (fun k hk=>by cases hk;omega)
  replace hO:=hO.kept9 g9 pR (by decide)
  clear g9 pR pS
  go_wp2_with fail
  refine bodyPost_ret (VG Tryz.results163 _ _ _ _ _ _ rfl pR9.out Tryz.underlying74 rfl (by kernel_rfl)) rfl ?_
  rw [q3.out] at hO
  exact ⟨S9.mk9 ((some ⟨g0,0,none⟩,3,c0),(some ⟨g1,0,none⟩,4,c1),(some ⟨g2,0,none⟩,2,c2),(some ⟨g3,0,none⟩,6,c3)) rfl hO,bw⟩

theorem H8 {w:World} {g:Nat} {cs:Sl × Sl × Sl} {m:V4} (hM:Blk w g 69 (Zi cs.1.val cs.2.1.val cs.2.2.val m)) (hs:Ze m=true) :
  Calls Tryz.prog 163 #[.pointer (some ⟨g,0,none⟩)] w fun e w'=>S9 e w' w.heap.size m∧Below w.heap.size w w':=by
 obtain ⟨p0,p1,p2,v0,v1,v2,v3,h0,h1,x0,y0,x1,y1,x2,y2,rfl⟩:=Uc hs
 exact Jq g cs.1.1 cs.1.2.1 cs.1.2.2 cs.2.1.1 cs.2.1.2.1 cs.2.1.2.2 cs.2.2.1 cs.2.2.2.1 cs.2.2.2.2 p0 p1 p2 v0 v1 v2 v3 h0 h1 x0 y0 x1 y1 x2 y2 w hM
end Go.Proofs.YtmhlokahmblboaaGreatDoor
