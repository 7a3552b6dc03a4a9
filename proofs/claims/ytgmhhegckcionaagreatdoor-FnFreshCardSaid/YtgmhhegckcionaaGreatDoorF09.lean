/-
  Joined: MachO.
-/
import Derived.Test.YtgmhhegckcionaaGreatDoorF08

namespace Go.Proofs.YtgmhhegckcionaaGreatDoor
set_option maxRecDepth 100000
set_option maxHeartbeats 16000000
open Go.RowKit

theorem YO {w:World} {b off n c:Nat} {zs:List Int} (h:Yn .i64 w (some ⟨b,off,none⟩) n c zs) {t:Nat} (ht:t<n):w.cell? ⟨b,off+t,none⟩=some (.int .i64 (zs.getD t 0)):=by
 rcases h.2.2.2 with h0 | ⟨b',off',ha,_,hc⟩
 ·omega
 cases ha
 exact hc t ht
theorem FF {w:World} {ad:Addr} {cs:List Value} (h:∀ j v,cs[j]?=some v→w.cell? ⟨ad.block,ad.off+j,none⟩=some v) (hs:ad.spot=none):∀ j v,cs[j]?=some v→w.cell? (ad.add j)=some v:=by
 intro j v hj
 have e:ad.add j=⟨ad.block,ad.off+j,none⟩:=by obtain ⟨b,o,s⟩:=ad;simp only at hs;subst hs;unfold Addr.add;split<;>simp_all
 rw [e]
 exact h j v hj
theorem Q8 {w:World} {b off n c:Nat} {zs:List Int} (h:Yn .i64 w (some ⟨b,off,none⟩) n c zs) (o l:Nat) (hl:o+l≤n):∀ j v,(((zs.drop o).take l).map (Value.int .i64))[j]?=some v→w.cell? ((⟨b,off+o,none⟩:Addr).add j)=some v:=by
 refine FF ?_ rfl
 intro j v hj
 have hzl:=h.1
 have hjl:j<l:=by
  rcases Nat.lt_or_ge j l with h' | h'
  ·exact h'
  rw [List.getElem?_eq_none (by simp;omega)] at hj;cases hj
 have:=YO h (t:=o+j) (by omega)
 rw [Nat.add_assoc,this]
 simp only [List.getElem?_map,List.getElem?_take,List.getElem?_drop,hjl,if_true] at hj
 rw [List.getElem?_eq_getElem (show o+j<zs.length by omega)] at hj
 simp at hj
 rw [← hj]
 simp [List.getD,show o+j<zs.length by omega]

def Yi (w:World) (a:Option Addr) (cs:Sl × Sl × Sl) (rows:List (List I3)):Prop:=
 ∃ b off,a=some ⟨b,off,none⟩∧b<w.heap.size∧∀ k,k<3→w.cell? ⟨b,off+k,none⟩=some (.slice (slK cs k).1 (slK cs k).2.1 (slK cs k).2.2)∧Zr w (slK cs k).1 (slK cs k).2.1 (slK cs k).2.2 (Yg rows k)
theorem Yi.below {w w':World} {a:Option Addr} {cs:Sl × Sl × Sl} {rows:List (List I3)} (h:Yi w a cs rows) (hb:Below w.heap.size w w'):Yi w' a cs rows:=by
 obtain ⟨b,off,ha,hlt,hk⟩:=h
 exact ⟨b,off,ha,Nat.lt_of_lt_of_le hlt hb.size,fun k h3=>⟨Za hb _ _ (hk k h3).1,(hk k h3).2.below hb⟩⟩
theorem Yi.uniq {w:World} {a:Option Addr} {cs cs':Sl × Sl × Sl} {rows rows':List (List I3)} (h:Yi w a cs rows) (h':Yi w a cs' rows'):cs=cs':=by
 obtain ⟨b,off,ha,_,hk⟩:=h
 obtain ⟨b',off',ha',_,hk'⟩:=h'
 rw [ha] at ha'
 cases ha'
 have e:∀ k,k<3→slK cs k=slK cs' k:=fun k h3=>by
  have:=(hk k h3).1.symm.trans (hk' k h3).1
  simp at this
  obtain ⟨e0,e1,e2⟩:=this
  exact Prod.ext e0 (Prod.ext e1 e2)
 exact Prod.ext (e 0 (by decide)) (Prod.ext (e 1 (by decide)) (e 2 (by decide)))
theorem YT.rowsAt {w:World} {a:Option Addr} {len cap:Nat} {rows:List (List I3)} (hC:YT w a len cap rows) (hp:Zf rows=true):len=3∧∃ cs,Yi w a cs rows:=by
 obtain ⟨h3,_⟩:=Xo hp
 obtain ⟨hl,hlc,hcm,hcase⟩:=hC
 obtain rfl:len=3:=hl.symm.trans h3
 rcases hcase with h9 | ⟨b,off,ha,hlt,hrow⟩
 ·exact absurd h9 (by decide)
 obtain ⟨a0,n0,c0,r0,i0⟩:=hrow 0 (by decide)
 obtain ⟨a1,n1,c1,r1,i1⟩:=hrow 1 (by decide)
 obtain ⟨a2,n2,c2,r2,i2⟩:=hrow 2 (by decide)
 refine ⟨rfl,((a0,n0,c0),(a1,n1,c1),(a2,n2,c2)),b,off,ha,hlt,fun k hk=>?_⟩
 match k,hk with
 | 0,_=>exact ⟨r0,i0⟩
 | 1,_=>exact ⟨r1,i1⟩
 | 2,_=>exact ⟨r2,i2⟩
theorem Pw (a:Option Addr) (len cap:Nat) (rows:List (List I3)) (s:S4) (m:V4) (w:World) (hC:YT w a len cap rows) (h:Xd w s m) (hV:ZN w) (hok:(Zf rows && Zc m)=false) :
  Calls Tryz.prog 46 #[.agg #[.slice a len cap],s.val] w fun e w'=>e=.returned (.tuple #[.agg #[.slice none 0 0,.int .i64 0,.int .i64 0,.int .i64 0,.slice none 0 0,.int .i64 0,.int .i64 0,.int .i64 0,.slice none 0 0,.int .i64 0,.int .i64 0,.int .i64 0,.int .i64 0,.int .i64 0,.int .i64 0,.int .i64 0,.int .i64 0,.int .i64 0],.int .i64 1])∧Below w.heap.size w w':=by
 have kV:=fun w hC h hV=>RG a len cap rows s m w hC h hV
 rw [hok] at kV
 have hM:=fun (W:World) (hb:Below w.heap.size w W)=>h.below hb
 obtain ⟨⟨a0,n0,c0⟩,⟨a1,n1,c1⟩,⟨a2,n2,c2⟩,⟨a3,n3,c3⟩⟩:=s
 have uA:S4.val ((a0,n0,c0),(a1,n1,c1),(a2,n2,c2),(a3,n3,c3))=.agg #[.slice a0 n0 c0,.slice a1 n1 c1,.slice a2 n2 c2,.slice a3 n3 c3]:=rfl
 rw [uA] at kV ⊢
 clear uA h
 have bw:Below w.heap.size w (((w.alloc (.cells #[.slice a len cap] 25)).alloc (.cells #[.slice a0 n0 c0,.slice a1 n1 c1,.slice a2 n2 c2,.slice a3 n3 c3] 88)).alloc (.cells #[.slice none 0 0,.int .i64 0,.int .i64 0,.int .i64 0,.slice none 0 0,.int .i64 0,.int .i64 0,.int .i64 0,.slice none 0 0,.int .i64 0,.int .i64 0,.int .i64 0,.int .i64 0,.int .i64 0,.int .i64 0,.int .i64 0,.int .i64 0,.int .i64 0] 98)):=by go_grown
 have pR:Blk (((w.alloc (.cells #[.slice a len cap] 25)).alloc (.cells #[.slice a0 n0 c0,.slice a1 n1 c1,.slice a2 n2 c2,.slice a3 n3 c3] 88)).alloc (.cells #[.slice none 0 0,.int .i64 0,.int .i64 0,.int .i64 0,.slice none 0 0,.int .i64 0,.int .i64 0,.int .i64 0,.slice none 0 0,.int .i64 0,.int .i64 0,.int .i64 0,.int .i64 0,.int .i64 0,.int .i64 0,.int .i64 0,.int .i64 0,.int .i64 0] 98)) (w.heap.size+1+1) 98 [.slice none 0 0,.int .i64 0,.int .i64 0,.int .i64 0,.slice none 0 0,.int .i64 0,.int .i64 0,.int .i64 0,.slice none 0 0,.int .i64 0,.int .i64 0,.int .i64 0,.int .i64 0,.int .i64 0,.int .i64 0,.int .i64 0,.int .i64 0,.int .i64 0]:=by
  have h9:=Blk.new ((w.alloc (.cells #[.slice a len cap] 25)).alloc (.cells #[.slice a0 n0 c0,.slice a1 n1 c1,.slice a2 n2 c2,.slice a3 n3 c3] 88)) 98 [.slice none 0 0,.int .i64 0,.int .i64 0,.int .i64 0,.slice none 0 0,.int .i64 0,.int .i64 0,.int .i64 0,.slice none 0 0,.int .i64 0,.int .i64 0,.int .i64 0,.int .i64 0,.int .i64 0,.int .i64 0,.int .i64 0,.int .i64 0,.int .i64 0]
  simp only [World.size_alloc] at h9
  exact h9
 go_enter Tryz.func46,Tryz.ntmps46
 go_wp2_with fail
 refine (kV _ (hC.below bw) (hM _ bw) (hV.below bw)).mono ?_
 rintro e w1 ⟨rfl,hb⟩
 replace bw:=Zb bw hb
 replace pR:=pR.below hb
 clear hb kV hM hV hC
 go_wp2_with (refine Ze rfl 98 _ _ rfl (w.heap.size+1+1) [.slice none 0 0,.int .i64 0,.int .i64 0,.int .i64 0,.slice none 0 0,.int .i64 0,.int .i64 0,.int .i64 0,.slice none 0 0,.int .i64 0,.int .i64 0,.int .i64 0,.int .i64 0,.int .i64 0,.int .i64 0,.int .i64 0,.int .i64 0,.int .i64 0] rfl rfl pR (by kernel_rfl) rfl rfl ?_)
 intro w2 pR2 g2
 replace bw:=bw.grown g2 bw.size (fun k hk=>by cases hk;omega)
 clear g2 pR
 go_wp2_with fail
 refine bodyPost_ret (ZF Tryz.results46 _ _ _ _ _ _ rfl pR2.out Tryz.underlying98 rfl (by kernel_rfl)) rfl ?_
 exact ⟨rfl,bw⟩
theorem Ux (a:Option Addr) (len cap:Nat) (rows:List (List I3)) (s:S4) (m:V4) (w:World) (hC:YT w a len cap rows) (h:Xd w s m) (hV:ZN w) (hp:Zf rows=true) (hs:Zc m=true) :
  Calls Tryz.prog 46 #[.agg #[.slice a len cap],s.val] w fun e w'=>(∃ cs:Sl × Sl × Sl,e=.returned (.tuple #[.agg (Zi cs.1.val cs.2.1.val cs.2.2.val m).toArray,.int .i64 0])∧Yi w a cs rows)∧Below w.heap.size w w':=by
 have kV:=fun w hC h hV=>RG a len cap rows s m w hC h hV
 rw [hp,hs] at kV
 have hM:=fun (W:World) (hb:Below w.heap.size w W)=>h.below hb
 obtain ⟨h3,_⟩:=Xo hp
 have hC0:=hC
 obtain ⟨hl,hlc,hcm,hcase⟩:=hC0
 obtain rfl:len=3:=hl.symm.trans h3
 rcases hcase with h9 | ⟨bp,op,rfl,hblt,hrow⟩
 ·exact absurd h9 (by decide)
 obtain ⟨ca0,cn0,cc0,r0,I0⟩:=hrow 0 (by decide)
 obtain ⟨ca1,cn1,cc1,r1,I1⟩:=hrow 1 (by decide)
 obtain ⟨ca2,cn2,cc2,r2,I2⟩:=hrow 2 (by decide)
 have HI:Hid (Yi w (some ⟨bp,op,none⟩) ((ca0,cn0,cc0),(ca1,cn1,cc1),(ca2,cn2,cc2)) rows):=by
  refine ⟨bp,op,rfl,hblt,fun k hk=>?_⟩
  match k,hk with
  | 0,_=>exact ⟨r0,I0⟩
  | 1,_=>exact ⟨r1,I1⟩
  | 2,_=>exact ⟨r2,I2⟩
 clear hrow I0 I1 I2
 obtain ⟨p0,p1,p2,v0,v1,v2,v3,h0,h1,x0,y0,x1,y1,x2,y2,rfl⟩:=Tq hs
 obtain ⟨⟨j0,_⟩,⟨j1,_⟩,⟨j2,_⟩,⟨j3,_⟩⟩:=h
 obtain ⟨⟨a0,n0,c0⟩,⟨a1,n1,c1⟩,⟨a2,n2,c2⟩,⟨a3,n3,c3⟩⟩:=s
 simp only at j0 j1 j2 j3
 obtain ⟨rfl,b0,o0,rfl⟩:=ZA (k:=3) j0 rfl (by decide)
 obtain ⟨rfl,b1,o1,rfl⟩:=ZA (k:=4) j1 rfl (by decide)
 obtain ⟨rfl,b2,o2,rfl⟩:=ZA (k:=2) j2 rfl (by decide)
 obtain ⟨rfl,b3,o3,rfl⟩:=ZA (k:=6) j3 rfl (by decide)
 have hc3:6≤c3:=j3.2.1
 have hm3:c3≤9223372036854775807:=Nat.le_trans j3.2.2.1 (by unfold maxLen;omega)
 have uA:S4.val ((some ⟨b0,o0,none⟩,3,c0),(some ⟨b1,o1,none⟩,4,c1),(some ⟨b2,o2,none⟩,2,c2),(some ⟨b3,o3,none⟩,6,c3))=.agg #[.slice (some ⟨b0,o0,none⟩) 3 c0,.slice (some ⟨b1,o1,none⟩) 4 c1,.slice (some ⟨b2,o2,none⟩) 2 c2,.slice (some ⟨b3,o3,none⟩) 6 c3]:=rfl
 rw [uA] at kV ⊢
 clear uA
 have bw:Below w.heap.size w (((w.alloc (.cells #[.slice (some ⟨bp,op,none⟩) 3 cap] 25)).alloc (.cells #[.slice (some ⟨b0,o0,none⟩) 3 c0,.slice (some ⟨b1,o1,none⟩) 4 c1,.slice (some ⟨b2,o2,none⟩) 2 c2,.slice (some ⟨b3,o3,none⟩) 6 c3] 88)).alloc (.cells #[.slice none 0 0,.int .i64 0,.int .i64 0,.int .i64 0,.slice none 0 0,.int .i64 0,.int .i64 0,.int .i64 0,.slice none 0 0,.int .i64 0,.int .i64 0,.int .i64 0,.int .i64 0,.int .i64 0,.int .i64 0,.int .i64 0,.int .i64 0,.int .i64 0] 98)):=by go_grown
 have pP:Blk (((w.alloc (.cells #[.slice (some ⟨bp,op,none⟩) 3 cap] 25)).alloc (.cells #[.slice (some ⟨b0,o0,none⟩) 3 c0,.slice (some ⟨b1,o1,none⟩) 4 c1,.slice (some ⟨b2,o2,none⟩) 2 c2,.slice (some ⟨b3,o3,none⟩) 6 c3] 88)).alloc (.cells #[.slice none 0 0,.int .i64 0,.int .i64 0,.int .i64 0,.slice none 0 0,.int .i64 0,.int .i64 0,.int .i64 0,.slice none 0 0,.int .i64 0,.int .i64 0,.int .i64 0,.int .i64 0,.int .i64 0,.int .i64 0,.int .i64 0,.int .i64 0,.int .i64 0] 98)) w.heap.size 25 [.slice (some ⟨bp,op,none⟩) 3 cap]:=Zl _ (Zl _ (Zj _ _ _ rfl))
 have pS:Blk (((w.alloc (.cells #[.slice (some ⟨bp,op,none⟩) 3 cap] 25)).alloc (.cells #[.slice (some ⟨b0,o0,none⟩) 3 c0,.slice (some ⟨b1,o1,none⟩) 4 c1,.slice (some ⟨b2,o2,none⟩) 2 c2,.slice (some ⟨b3,o3,none⟩) 6 c3] 88)).alloc (.cells #[.slice none 0 0,.int .i64 0,.int .i64 0,.int .i64 0,.slice none 0 0,.int .i64 0,.int .i64 0,.int .i64 0,.slice none 0 0,.int .i64 0,.int .i64 0,.int .i64 0,.int .i64 0,.int .i64 0,.int .i64 0,.int .i64 0,.int .i64 0,.int .i64 0] 98)) (w.heap.size+1) 88 [.slice (some ⟨b0,o0,none⟩) 3 c0,.slice (some ⟨b1,o1,none⟩) 4 c1,.slice (some ⟨b2,o2,none⟩) 2 c2,.slice (some ⟨b3,o3,none⟩) 6 c3]:=Zl _ (Zj _ _ _ (by simp))
 have pR:Blk (((w.alloc (.cells #[.slice (some ⟨bp,op,none⟩) 3 cap] 25)).alloc (.cells #[.slice (some ⟨b0,o0,none⟩) 3 c0,.slice (some ⟨b1,o1,none⟩) 4 c1,.slice (some ⟨b2,o2,none⟩) 2 c2,.slice (some ⟨b3,o3,none⟩) 6 c3] 88)).alloc (.cells #[.slice none 0 0,.int .i64 0,.int .i64 0,.int .i64 0,.slice none 0 0,.int .i64 0,.int .i64 0,.int .i64 0,.slice none 0 0,.int .i64 0,.int .i64 0,.int .i64 0,.int .i64 0,.int .i64 0,.int .i64 0,.int .i64 0,.int .i64 0,.int .i64 0] 98)) (w.heap.size+1+1) 98 [.slice none 0 0,.int .i64 0,.int .i64 0,.int .i64 0,.slice none 0 0,.int .i64 0,.int .i64 0,.int .i64 0,.slice none 0 0,.int .i64 0,.int .i64 0,.int .i64 0,.int .i64 0,.int .i64 0,.int .i64 0,.int .i64 0,.int .i64 0,.int .i64 0]:=Zj _ _ _ (by simp)
 go_enter Tryz.func46,Tryz.ntmps46
 go_wp2_with fail
 refine (kV _ (hC.below bw) (hM _ bw) (hV.below bw)).mono ?_
 rintro e w1 ⟨rfl,hb⟩
 replace bw:=Zb bw hb
 replace pP:=pP.below hb
 replace pS:=pS.below hb
 replace pR:=pR.below hb
 clear hb kV hM hV hC hs hp
 go_wp2_with fail
 have bm:Below w1.heap.size w1 (w1.alloc (.cells #[.slice none 0 0,.int .i64 0,.int .i64 0,.int .i64 0,.slice none 0 0,.int .i64 0,.int .i64 0,.int .i64 0,.slice none 0 0,.int .i64 0,.int .i64 0,.int .i64 0,.int .i64 0,.int .i64 0,.int .i64 0,.int .i64 0,.int .i64 0,.int .i64 0] 98)):=by go_grown
 have pM:=Blk.new w1 98 [.slice none 0 0,.int .i64 0,.int .i64 0,.int .i64 0,.slice none 0 0,.int .i64 0,.int .i64 0,.int .i64 0,.slice none 0 0,.int .i64 0,.int .i64 0,.int .i64 0,.int .i64 0,.int .i64 0,.int .i64 0,.int .i64 0,.int .i64 0,.int .i64 0]
 have hgM:w.heap.size+1+1<w1.heap.size:=pR.lt
 replace bw:=Zb bw bm
 replace pP:=pP.below bm
 replace pS:=pS.below bm
 replace pR:=pR.below bm
 clear bm
 generalize (w1.alloc (.cells #[.slice none 0 0,.int .i64 0,.int .i64 0,.int .i64 0,.slice none 0 0,.int .i64 0,.int .i64 0,.int .i64 0,.slice none 0 0,.int .i64 0,.int .i64 0,.int .i64 0,.int .i64 0,.int .i64 0,.int .i64 0,.int .i64 0,.int .i64 0,.int .i64 0] 98))=W2 at *
 generalize w1.heap.size=gM at *
 have g1:W2.cell? ⟨w.heap.size+1,1,none⟩=some (.slice (some ⟨b1,o1,none⟩) 4 c1):=by simpa using pS.cell 1
 refine wp_region_held_drew (S:=(fun w'=>w'.cell? ⟨w.heap.size+1,1,none⟩=some (.slice (some ⟨b1,o1,none⟩) 4 c1))) (by kernel_rfl) g1 (fun hS0=>?_)
 refine tkm 0 14 (.pointer (some ⟨gM,12,none⟩)) ?_
 refine tkm 1 15 (.slice (some ⟨gM,12,none⟩) 4 4) ?_
 refine tkm 2 16 (.pointer (some ⟨w.heap.size+1,1,none⟩)) ?_
 refine tkm 3 17 (.slice (some ⟨b1,o1,none⟩) 4 c1) ?_
 refine tkr 4 18 (fun K hK=>?_)
 refine Z2 rfl _ _ 36 36 rfl 3 Tryz.underlying36 (by kernel_rfl) gM 12 ⟨b1,o1,none⟩ _ _ _ _ rfl rfl [.slice none 0 0,.int .i64 0,.int .i64 0,.int .i64 0,.slice none 0 0,.int .i64 0,.int .i64 0,.int .i64 0,.slice none 0 0,.int .i64 0,.int .i64 0,.int .i64 0,.int .i64 0,.int .i64 0,.int .i64 0,.int .i64 0,.int .i64 0,.int .i64 0] 98 pM.drew [.int .i64 v0,.int .i64 v1,.int .i64 v2,.int .i64 v3] (.int .i64 4) rfl rfl (by simpa using Q8 (j1.below (Zb bw (by go_grown))) 0 4 (by decide)) (by simp) (by simp [Value.oneCell']) ?_
 intro W3 pM' gr
 have pM:=(show Blk W3 gM 98 [.slice none 0 0,.int .i64 0,.int .i64 0,.int .i64 0,.slice none 0 0,.int .i64 0,.int .i64 0,.int .i64 0,.slice none 0 0,.int .i64 0,.int .i64 0,.int .i64 0,.int .i64 v0,.int .i64 v1,.int .i64 v2,.int .i64 v3,.int .i64 0,.int .i64 0] from pM'.out)
 replace pP:=(pP.drew).kept gr (by simp;omega)
 replace pS:=(pS.drew).kept gr (by simp;omega)
 replace pR:=(pR.drew).kept gr (by simp;omega)
 replace bw:=(Zb bw (by go_grown:Below W2.heap.size W2 W2.drew)).grown gr (by have:=bw.size;exact this) (fun x hx=>by cases hx;omega)
 refine hK.out _ _ ?_ (fun hS1=>?_)
 ·simpa using pS.cell 1
 clear hK hS0 hS1 pM' gr
 try simp only [Act.put,tka,tkb,tkc]
 refine wpAnyH_done (by kernel_rfl) ?_ _
 clear g1
 go_wp2_with fail
 have g1:W3.cell? ⟨w.heap.size+1,2,none⟩=some (.slice (some ⟨b2,o2,none⟩) 2 c2):=by simpa using pS.cell 2
 refine wp_region_held_drew (S:=(fun w'=>w'.cell? ⟨w.heap.size+1,2,none⟩=some (.slice (some ⟨b2,o2,none⟩) 2 c2))) (by kernel_rfl) g1 (fun hS0=>?_)
 refine tkm 0 19 (.pointer (some ⟨gM,16,none⟩)) ?_
 refine tkm 1 20 (.slice (some ⟨gM,16,none⟩) 2 2) ?_
 refine tkm 2 21 (.pointer (some ⟨w.heap.size+1,2,none⟩)) ?_
 refine tkm 3 22 (.slice (some ⟨b2,o2,none⟩) 2 c2) ?_
 refine tkr 4 23 (fun K hK=>?_)
 refine Z2 rfl _ _ 36 36 rfl 3 Tryz.underlying36 (by kernel_rfl) gM 16 ⟨b2,o2,none⟩ _ _ _ _ rfl rfl [.slice none 0 0,.int .i64 0,.int .i64 0,.int .i64 0,.slice none 0 0,.int .i64 0,.int .i64 0,.int .i64 0,.slice none 0 0,.int .i64 0,.int .i64 0,.int .i64 0,.int .i64 v0,.int .i64 v1,.int .i64 v2,.int .i64 v3,.int .i64 0,.int .i64 0] 98 pM.drew [.int .i64 h0,.int .i64 h1] (.int .i64 2) rfl rfl (by simpa using Q8 (j2.below (Zb bw (by go_grown))) 0 2 (by decide)) (by simp) (by simp [Value.oneCell']) ?_
 intro W4 pM' gr
 have pM:=(show Blk W4 gM 98 [.slice none 0 0,.int .i64 0,.int .i64 0,.int .i64 0,.slice none 0 0,.int .i64 0,.int .i64 0,.int .i64 0,.slice none 0 0,.int .i64 0,.int .i64 0,.int .i64 0,.int .i64 v0,.int .i64 v1,.int .i64 v2,.int .i64 v3,.int .i64 h0,.int .i64 h1] from pM'.out)
 replace pP:=(pP.drew).kept gr (by simp;omega)
 replace pS:=(pS.drew).kept gr (by simp;omega)
 replace pR:=(pR.drew).kept gr (by simp;omega)
 replace bw:=(Zb bw (by go_grown:Below W3.heap.size W3 W3.drew)).grown gr (by have:=bw.size;exact this) (fun x hx=>by cases hx;omega)
 refine hK.out _ _ ?_ (fun hS1=>?_)
 ·simpa using pS.cell 2
 clear hK hS0 hS1 pM' gr
 try simp only [Act.put,tka,tkb,tkc]
 refine wpAnyH_done (by kernel_rfl) ?_ _
 clear g1
 obtain ⟨PM,q0,q1,q2,q3⟩:∃ PM:Nat→List Value,Hid (PM 0=[.slice none 0 0,.int .i64 0,.int .i64 0,.int .i64 0,.slice none 0 0,.int .i64 0,.int .i64 0,.int .i64 0,.slice none 0 0,.int .i64 0,.int .i64 0,.int .i64 0,.int .i64 v0,.int .i64 v1,.int .i64 v2,.int .i64 v3,.int .i64 h0,.int .i64 h1])∧Hid (PM 1=[.slice ca0 cn0 cc0,.int .i64 p0,.int .i64 x0,.int .i64 y0,.slice none 0 0,.int .i64 0,.int .i64 0,.int .i64 0,.slice none 0 0,.int .i64 0,.int .i64 0,.int .i64 0,.int .i64 v0,.int .i64 v1,.int .i64 v2,.int .i64 v3,.int .i64 h0,.int .i64 h1])∧Hid (PM 2=[.slice ca0 cn0 cc0,.int .i64 p0,.int .i64 x0,.int .i64 y0,.slice ca1 cn1 cc1,.int .i64 p1,.int .i64 x1,.int .i64 y1,.slice none 0 0,.int .i64 0,.int .i64 0,.int .i64 0,.int .i64 v0,.int .i64 v1,.int .i64 v2,.int .i64 v3,.int .i64 h0,.int .i64 h1])∧Hid (PM 3=[.slice ca0 cn0 cc0,.int .i64 p0,.int .i64 x0,.int .i64 y0,.slice ca1 cn1 cc1,.int .i64 p1,.int .i64 x1,.int .i64 y1,.slice ca2 cn2 cc2,.int .i64 p2,.int .i64 x2,.int .i64 y2,.int .i64 v0,.int .i64 v1,.int .i64 v2,.int .i64 v3,.int .i64 h0,.int .i64 h1]):=
  ⟨fun k=>if k=0 then [.slice none 0 0,.int .i64 0,.int .i64 0,.int .i64 0,.slice none 0 0,.int .i64 0,.int .i64 0,.int .i64 0,.slice none 0 0,.int .i64 0,.int .i64 0,.int .i64 0,.int .i64 v0,.int .i64 v1,.int .i64 v2,.int .i64 v3,.int .i64 h0,.int .i64 h1] else if k=1 then [.slice ca0 cn0 cc0,.int .i64 p0,.int .i64 x0,.int .i64 y0,.slice none 0 0,.int .i64 0,.int .i64 0,.int .i64 0,.slice none 0 0,.int .i64 0,.int .i64 0,.int .i64 0,.int .i64 v0,.int .i64 v1,.int .i64 v2,.int .i64 v3,.int .i64 h0,.int .i64 h1] else if k=2 then [.slice ca0 cn0 cc0,.int .i64 p0,.int .i64 x0,.int .i64 y0,.slice ca1 cn1 cc1,.int .i64 p1,.int .i64 x1,.int .i64 y1,.slice none 0 0,.int .i64 0,.int .i64 0,.int .i64 0,.int .i64 v0,.int .i64 v1,.int .i64 v2,.int .i64 v3,.int .i64 h0,.int .i64 h1] else [.slice ca0 cn0 cc0,.int .i64 p0,.int .i64 x0,.int .i64 y0,.slice ca1 cn1 cc1,.int .i64 p1,.int .i64 x1,.int .i64 y1,.slice ca2 cn2 cc2,.int .i64 p2,.int .i64 x2,.int .i64 y2,.int .i64 v0,.int .i64 v1,.int .i64 v2,.int .i64 v3,.int .i64 h0,.int .i64 h1],rfl,rfl,rfl,rfl⟩
 rw [← q0.out] at pM
 go_wp2_with fail
 go_loopw [24] (fun si wr=>∃ k:Nat,k≤3∧si=.int .i64 k∧Blk wr gM 98 (PM k)∧Blk wr w.heap.size 25 [.slice (some ⟨bp,op,none⟩) 3 cap]∧Blk wr (w.heap.size+1) 88 [.slice (some ⟨b0,o0,none⟩) 3 c0,.slice (some ⟨b1,o1,none⟩) 4 c1,.slice (some ⟨b2,o2,none⟩) 2 c2,.slice (some ⟨b3,o3,none⟩) 6 c3]∧Blk wr (w.heap.size+1+1) 98 [.slice none 0 0,.int .i64 0,.int .i64 0,.int .i64 0,.slice none 0 0,.int .i64 0,.int .i64 0,.int .i64 0,.slice none 0 0,.int .i64 0,.int .i64 0,.int .i64 0,.int .i64 0,.int .i64 0,.int .i64 0,.int .i64 0,.int .i64 0,.int .i64 0]∧Below w.heap.size w wr) (fun si _=>3 - (intOf si).toNat)
 case atStart=>exact ⟨0,by omega,rfl,pM,pP,pS,pR,bw⟩
 case round =>
  clear pM pP pS pR bw
  obtain ⟨k,hk,rfl,pM,pP,pS,pR,bw⟩:=hrel
  rcases (show k=0∨k=1∨k=2∨k=3 by omega) with rfl | rfl | rfl | rfl
  ·skip
   rw [q0.out] at pM
   have e0:=pP.cell 0
   have e1:=pS.cell 0
   have e3:=pS.cell 3
   simp only [List.getElem?_cons_zero,List.getElem?_cons_succ] at e0 e1 e3
   have e2:wr.cell? ⟨bp,op,none⟩=some (.slice ca0 cn0 cc0):=Za bw _ _ r0
   have e4:wr.cell? ⟨b0,o0,none⟩=some (.int .i64 p0):=Za bw _ _ (YO j0 (t:=0) (by decide))
   have f0:=pM.frozen 0
   have f1:=pM.frozen 1
   have u0:wr.cell? ⟨gM,0,none⟩=some (.slice none 0 0):=by simpa using pM.cell 0
   have u1:wr.cell? ⟨gM,1,none⟩=some (.int .i64 0):=by simpa using pM.cell 1
   go_wp2_with fail
   refine wp_region_held_drew (S:=(fun w'=>w'.cell? ⟨w.heap.size,0,none⟩=some (.slice (some ⟨bp,op,none⟩) 3 cap)∧w'.cell? ⟨w.heap.size+1,0,none⟩=some (.slice (some ⟨b0,o0,none⟩) 3 c0)∧w'.cell? ⟨bp,op,none⟩=some (.slice ca0 cn0 cc0)∧w'.cell? ⟨b0,o0,none⟩=some (.int .i64 p0))) (by kernel_rfl) ⟨e0,e1,e2,e4⟩ (fun hS0=>?_)
   refine tkm 0 30 (.pointer (some ⟨gM,0,none⟩)) ?_
   refine tkm 1 31 (.pointer (some ⟨gM,0,none⟩)) ?_
   refine tkm 2 32 (.pointer (some ⟨w.heap.size,0,none⟩)) ?_
   refine tkm 3 33 (.slice (some ⟨bp,op,none⟩) 3 cap) ?_
   refine tkm 4 34 (.int .i64 0) ?_
   refine tkm 5 35 (.pointer (some ⟨bp,op,none⟩)) ?_
   refine tkm 6 36 (.slice ca0 cn0 cc0) ?_
   refine tkm 7 37 (.pointer (some ⟨w.heap.size+1,0,none⟩)) ?_
   refine tkm 8 38 (.slice (some ⟨b0,o0,none⟩) 3 c0) ?_
   refine tkm 9 39 (.int .i64 0) ?_
   refine tkm 10 40 (.pointer (some ⟨b0,o0,none⟩)) ?_
   refine tkm 11 41 (.int .i64 p0) ?_
   refine tkm 12 42 (.pointer (some ⟨gM,0,none⟩)) ?_
   refine tkm 13 43 (.pointer (some ⟨gM,0,none⟩)) ?_
   refine tkz 14 (fun K hK=>?_)
   have nP:w.heap.size≠gM:=by omega
   have nS:w.heap.size+1≠gM:=by omega
   have nR:w.heap.size+1+1≠gM:=by omega
   have pM2:Blk (((wr.setCell ⟨gM,0,none⟩ (.slice ca0 cn0 cc0)).setCell ⟨gM,1,none⟩ (.int .i64 p0)).drew) gM 98 [.slice ca0 cn0 cc0,.int .i64 p0,.int .i64 0,.int .i64 0,.slice none 0 0,.int .i64 0,.int .i64 0,.int .i64 0,.slice none 0 0,.int .i64 0,.int .i64 0,.int .i64 0,.int .i64 v0,.int .i64 v1,.int .i64 v2,.int .i64 v3,.int .i64 h0,.int .i64 h1]:=(pM.set 0 (.slice ca0 cn0 cc0)).set 1 (.int .i64 p0)
   have z0:((wr.setCell ⟨gM,0,none⟩ (.slice ca0 cn0 cc0)).drew).cell? ⟨gM,1,none⟩=some (.int .i64 0):=by
    have:=(pM.set 0 (.slice ca0 cn0 cc0)).cell 1
    simpa using this
   have z1:((wr.setCell ⟨gM,0,none⟩ (.slice ca0 cn0 cc0)).drew).frozen? ⟨gM,1,none⟩=false:=(pM.set 0 (.slice ca0 cn0 cc0)).frozen 1
   have pP2:Blk ((wr.setCell ⟨gM,0,none⟩ (.slice ca0 cn0 cc0)).drew) w.heap.size 25 [.slice (some ⟨bp,op,none⟩) 3 cap]:=pP.off _ _ nP
   have pS2:Blk ((wr.setCell ⟨gM,0,none⟩ (.slice ca0 cn0 cc0)).drew) (w.heap.size+1) 88 [.slice (some ⟨b0,o0,none⟩) 3 c0,.slice (some ⟨b1,o1,none⟩) 4 c1,.slice (some ⟨b2,o2,none⟩) 2 c2,.slice (some ⟨b3,o3,none⟩) 6 c3]:=pS.off _ _ nS
   have pP3:Blk (((wr.setCell ⟨gM,0,none⟩ (.slice ca0 cn0 cc0)).setCell ⟨gM,1,none⟩ (.int .i64 p0)).drew) w.heap.size 25 [.slice (some ⟨bp,op,none⟩) 3 cap]:=(pP.off _ _ nP).off _ _ nP
   have pS3:Blk (((wr.setCell ⟨gM,0,none⟩ (.slice ca0 cn0 cc0)).setCell ⟨gM,1,none⟩ (.int .i64 p0)).drew) (w.heap.size+1) 88 [.slice (some ⟨b0,o0,none⟩) 3 c0,.slice (some ⟨b1,o1,none⟩) 4 c1,.slice (some ⟨b2,o2,none⟩) 2 c2,.slice (some ⟨b3,o3,none⟩) 6 c3]:=(pS.off _ _ nS).off _ _ nS
   have pR3:Blk (((wr.setCell ⟨gM,0,none⟩ (.slice ca0 cn0 cc0)).setCell ⟨gM,1,none⟩ (.int .i64 p0)).drew) (w.heap.size+1+1) 98 [.slice none 0 0,.int .i64 0,.int .i64 0,.int .i64 0,.slice none 0 0,.int .i64 0,.int .i64 0,.int .i64 0,.slice none 0 0,.int .i64 0,.int .i64 0,.int .i64 0,.int .i64 0,.int .i64 0,.int .i64 0,.int .i64 0,.int .i64 0,.int .i64 0]:=(pR.off _ _ nR).off _ _ nR
   have b3:Below w.heap.size w (((wr.setCell ⟨gM,0,none⟩ (.slice ca0 cn0 cc0)).setCell ⟨gM,1,none⟩ (.int .i64 p0)).drew):=((bw.setCell (p:=⟨gM,0,none⟩) (by simp;omega) (.slice ca0 cn0 cc0)).setCell (p:=⟨gM,1,none⟩) (by simp;omega) (.int .i64 p0)).drew
   have b2:Below w.heap.size w ((wr.setCell ⟨gM,0,none⟩ (.slice ca0 cn0 cc0)).drew):=(bw.setCell (p:=⟨gM,0,none⟩) (by simp;omega) (.slice ca0 cn0 cc0)).drew
   go_simp
   refine hK.out _ _ ?_ (fun hS1=>?_)
   ·exact ⟨by simpa using pP2.cell 0,by simpa using pS2.cell 0,Za b2 _ _ r0,Za b2 _ _ (YO j0 (t:=0) (by decide))⟩
   clear hK
   try simp only [Act.put,tka,tkb,tkc]
   refine tkm 15 44 (.pointer (some ⟨gM,0,none⟩)) ?_
   refine tkm 16 45 (.pointer (some ⟨gM,1,none⟩)) ?_
   refine tkz 17 (fun K hK=>?_)
   go_simp
   refine hK.out _ _ ?_ (fun hS2=>?_)
   ·exact ⟨by simpa using pP3.cell 0,by simpa using pS3.cell 0,Za b3 _ _ r0,Za b3 _ _ (YO j0 (t:=0) (by decide))⟩
   clear hK
   try simp only [Act.put,tka,tkb,tkc]
   refine wpAnyH_done (by kernel_rfl) ?_ _
   clear hS0 hS1 hS2 z0 z1 pP2 pS2 b2 e0 e1 e2 e3 e4 f0 f1 u0 u1 pM pP pS pR bw
   go_wp2_with fail
   generalize ((wr.setCell ⟨gM,0,none⟩ (.slice ca0 cn0 cc0)).setCell ⟨gM,1,none⟩ (.int .i64 p0)).drew=Wa at *
   have pM:=pM2
   have pP:=pP3
   have pS:=pS3
   have pR:=pR3
   have bw:=b3
   clear pM2 pP3 pS3 pR3 b3
   have g1:Wa.cell? ⟨w.heap.size+1,3,none⟩=some (.slice (some ⟨b3,o3,none⟩) 6 c3):=by simpa using pS.cell 3
   have hz:¬ c3=0:=by omega
   have hzi:(0:Int)≤(6:Int):=by decide
   refine wp_region_held_drew (S:=(fun w'=>w'.cell? ⟨w.heap.size+1,3,none⟩=some (.slice (some ⟨b3,o3,none⟩) 6 c3))) (by kernel_rfl) g1 (fun hS0=>?_)
   refine tkm 0 46 (.pointer (some ⟨gM,0,none⟩)) ?_
   refine tkm 1 47 (.pointer (some ⟨gM,0,none⟩)) ?_
   refine tkm 2 48 (.pointer (some ⟨gM,2,none⟩)) ?_
   refine tkm 3 49 (.slice (some ⟨gM,2,none⟩) 2 2) ?_
   refine tkm 4 50 (.pointer (some ⟨w.heap.size+1,3,none⟩)) ?_
   refine tkm 5 51 (.slice (some ⟨b3,o3,none⟩) 6 c3) ?_
   refine tkm 6 52 (.int .i64 0) ?_
   refine tkm 7 53 (.int .i64 0) ?_
   refine tkm 8 54 (.slice (some ⟨b3,o3,none⟩) 6 c3) ?_
   refine tkr 9 55 (fun K hK=>?_)
   refine Z2 rfl _ _ 36 36 rfl 3 Tryz.underlying36 (by kernel_rfl) gM 2 ⟨b3,o3,none⟩ _ _ _ _ rfl rfl [.slice ca0 cn0 cc0,.int .i64 p0,.int .i64 0,.int .i64 0,.slice none 0 0,.int .i64 0,.int .i64 0,.int .i64 0,.slice none 0 0,.int .i64 0,.int .i64 0,.int .i64 0,.int .i64 v0,.int .i64 v1,.int .i64 v2,.int .i64 v3,.int .i64 h0,.int .i64 h1] 98 pM.drew [.int .i64 x0,.int .i64 y0] (.int .i64 2) rfl rfl (by simpa using Q8 (j3.below (Zb bw (by go_grown))) 0 2 (by decide)) (by simp) (by simp [Value.oneCell']) ?_
   intro Wb pM' gr
   have pM:=(show Blk Wb gM 98 [.slice ca0 cn0 cc0,.int .i64 p0,.int .i64 x0,.int .i64 y0,.slice none 0 0,.int .i64 0,.int .i64 0,.int .i64 0,.slice none 0 0,.int .i64 0,.int .i64 0,.int .i64 0,.int .i64 v0,.int .i64 v1,.int .i64 v2,.int .i64 v3,.int .i64 h0,.int .i64 h1] from pM'.out)
   replace pP:=(pP.drew).kept gr (by simp;omega)
   replace pS:=(pS.drew).kept gr (by simp;omega)
   replace pR:=(pR.drew).kept gr (by simp;omega)
   replace bw:=(Zb bw (by go_grown:Below Wa.heap.size Wa Wa.drew)).grown gr (by have:=bw.size;exact this) (fun x hx=>by cases hx;omega)
   refine hK.out _ _ ?_ (fun hS1=>?_)
   ·simpa using pS.cell 3
   clear hK hS0 hS1 pM' gr
   try simp only [Act.put,tka,tkb,tkc]
   refine wpAnyH_done (by kernel_rfl) ?_ _
   rw [← q1.out] at pM
   clear g1 hz hzi
   go_wp2
   go_roundw
   case rel=>exact ⟨1,by omega,rfl,pM,pP,pS,pR,bw⟩
   case measure=>simp [intOf]
  ·skip
   rw [q1.out] at pM
   have e0:=pP.cell 0
   have e1:=pS.cell 0
   have e3:=pS.cell 3
   simp only [List.getElem?_cons_zero,List.getElem?_cons_succ] at e0 e1 e3
   have e2:wr.cell? ⟨bp,op+1,none⟩=some (.slice ca1 cn1 cc1):=Za bw _ _ r1
   have e4:wr.cell? ⟨b0,o0+1,none⟩=some (.int .i64 p1):=Za bw _ _ (YO j0 (t:=1) (by decide))
   have f0:=pM.frozen 4
   have f1:=pM.frozen 5
   have u0:wr.cell? ⟨gM,4,none⟩=some (.slice none 0 0):=by simpa using pM.cell 4
   have u1:wr.cell? ⟨gM,5,none⟩=some (.int .i64 0):=by simpa using pM.cell 5
   go_wp2_with fail
   refine wp_region_held_drew (S:=(fun w'=>w'.cell? ⟨w.heap.size,0,none⟩=some (.slice (some ⟨bp,op,none⟩) 3 cap)∧w'.cell? ⟨w.heap.size+1,0,none⟩=some (.slice (some ⟨b0,o0,none⟩) 3 c0)∧w'.cell? ⟨bp,op+1,none⟩=some (.slice ca1 cn1 cc1)∧w'.cell? ⟨b0,o0+1,none⟩=some (.int .i64 p1))) (by kernel_rfl) ⟨e0,e1,e2,e4⟩ (fun hS0=>?_)
   refine tkm 0 30 (.pointer (some ⟨gM,4,none⟩)) ?_
   refine tkm 1 31 (.pointer (some ⟨gM,4,none⟩)) ?_
   refine tkm 2 32 (.pointer (some ⟨w.heap.size,0,none⟩)) ?_
   refine tkm 3 33 (.slice (some ⟨bp,op,none⟩) 3 cap) ?_
   refine tkm 4 34 (.int .i64 1) ?_
   refine tkm 5 35 (.pointer (some ⟨bp,op+1,none⟩)) ?_
   refine tkm 6 36 (.slice ca1 cn1 cc1) ?_
   refine tkm 7 37 (.pointer (some ⟨w.heap.size+1,0,none⟩)) ?_
   refine tkm 8 38 (.slice (some ⟨b0,o0,none⟩) 3 c0) ?_
   refine tkm 9 39 (.int .i64 1) ?_
   refine tkm 10 40 (.pointer (some ⟨b0,o0+1,none⟩)) ?_
   refine tkm 11 41 (.int .i64 p1) ?_
   refine tkm 12 42 (.pointer (some ⟨gM,4,none⟩)) ?_
   refine tkm 13 43 (.pointer (some ⟨gM,4,none⟩)) ?_
   refine tkz 14 (fun K hK=>?_)
   have nP:w.heap.size≠gM:=by omega
   have nS:w.heap.size+1≠gM:=by omega
   have nR:w.heap.size+1+1≠gM:=by omega
   have pM2:Blk (((wr.setCell ⟨gM,4,none⟩ (.slice ca1 cn1 cc1)).setCell ⟨gM,5,none⟩ (.int .i64 p1)).drew) gM 98 [.slice ca0 cn0 cc0,.int .i64 p0,.int .i64 x0,.int .i64 y0,.slice ca1 cn1 cc1,.int .i64 p1,.int .i64 0,.int .i64 0,.slice none 0 0,.int .i64 0,.int .i64 0,.int .i64 0,.int .i64 v0,.int .i64 v1,.int .i64 v2,.int .i64 v3,.int .i64 h0,.int .i64 h1]:=(pM.set 4 (.slice ca1 cn1 cc1)).set 5 (.int .i64 p1)
   have z0:((wr.setCell ⟨gM,4,none⟩ (.slice ca1 cn1 cc1)).drew).cell? ⟨gM,5,none⟩=some (.int .i64 0):=by
    have:=(pM.set 4 (.slice ca1 cn1 cc1)).cell 5
    simpa using this
   have z1:((wr.setCell ⟨gM,4,none⟩ (.slice ca1 cn1 cc1)).drew).frozen? ⟨gM,5,none⟩=false:=(pM.set 4 (.slice ca1 cn1 cc1)).frozen 5
   have pP2:Blk ((wr.setCell ⟨gM,4,none⟩ (.slice ca1 cn1 cc1)).drew) w.heap.size 25 [.slice (some ⟨bp,op,none⟩) 3 cap]:=pP.off _ _ nP
   have pS2:Blk ((wr.setCell ⟨gM,4,none⟩ (.slice ca1 cn1 cc1)).drew) (w.heap.size+1) 88 [.slice (some ⟨b0,o0,none⟩) 3 c0,.slice (some ⟨b1,o1,none⟩) 4 c1,.slice (some ⟨b2,o2,none⟩) 2 c2,.slice (some ⟨b3,o3,none⟩) 6 c3]:=pS.off _ _ nS
   have pP3:Blk (((wr.setCell ⟨gM,4,none⟩ (.slice ca1 cn1 cc1)).setCell ⟨gM,5,none⟩ (.int .i64 p1)).drew) w.heap.size 25 [.slice (some ⟨bp,op,none⟩) 3 cap]:=(pP.off _ _ nP).off _ _ nP
   have pS3:Blk (((wr.setCell ⟨gM,4,none⟩ (.slice ca1 cn1 cc1)).setCell ⟨gM,5,none⟩ (.int .i64 p1)).drew) (w.heap.size+1) 88 [.slice (some ⟨b0,o0,none⟩) 3 c0,.slice (some ⟨b1,o1,none⟩) 4 c1,.slice (some ⟨b2,o2,none⟩) 2 c2,.slice (some ⟨b3,o3,none⟩) 6 c3]:=(pS.off _ _ nS).off _ _ nS
   have pR3:Blk (((wr.setCell ⟨gM,4,none⟩ (.slice ca1 cn1 cc1)).setCell ⟨gM,5,none⟩ (.int .i64 p1)).drew) (w.heap.size+1+1) 98 [.slice none 0 0,.int .i64 0,.int .i64 0,.int .i64 0,.slice none 0 0,.int .i64 0,.int .i64 0,.int .i64 0,.slice none 0 0,.int .i64 0,.int .i64 0,.int .i64 0,.int .i64 0,.int .i64 0,.int .i64 0,.int .i64 0,.int .i64 0,.int .i64 0]:=(pR.off _ _ nR).off _ _ nR
   have b3:Below w.heap.size w (((wr.setCell ⟨gM,4,none⟩ (.slice ca1 cn1 cc1)).setCell ⟨gM,5,none⟩ (.int .i64 p1)).drew):=((bw.setCell (p:=⟨gM,4,none⟩) (by simp;omega) (.slice ca1 cn1 cc1)).setCell (p:=⟨gM,5,none⟩) (by simp;omega) (.int .i64 p1)).drew
   have b2:Below w.heap.size w ((wr.setCell ⟨gM,4,none⟩ (.slice ca1 cn1 cc1)).drew):=(bw.setCell (p:=⟨gM,4,none⟩) (by simp;omega) (.slice ca1 cn1 cc1)).drew
   go_simp
   refine hK.out _ _ ?_ (fun hS1=>?_)
   ·exact ⟨by simpa using pP2.cell 0,by simpa using pS2.cell 0,Za b2 _ _ r1,Za b2 _ _ (YO j0 (t:=1) (by decide))⟩
   clear hK
   try simp only [Act.put,tka,tkb,tkc]
   refine tkm 15 44 (.pointer (some ⟨gM,4,none⟩)) ?_
   refine tkm 16 45 (.pointer (some ⟨gM,5,none⟩)) ?_
   refine tkz 17 (fun K hK=>?_)
   go_simp
   refine hK.out _ _ ?_ (fun hS2=>?_)
   ·exact ⟨by simpa using pP3.cell 0,by simpa using pS3.cell 0,Za b3 _ _ r1,Za b3 _ _ (YO j0 (t:=1) (by decide))⟩
   clear hK
   try simp only [Act.put,tka,tkb,tkc]
   refine wpAnyH_done (by kernel_rfl) ?_ _
   clear hS0 hS1 hS2 z0 z1 pP2 pS2 b2 e0 e1 e2 e3 e4 f0 f1 u0 u1 pM pP pS pR bw
   go_wp2_with fail
   generalize ((wr.setCell ⟨gM,4,none⟩ (.slice ca1 cn1 cc1)).setCell ⟨gM,5,none⟩ (.int .i64 p1)).drew=Wa at *
   have pM:=pM2
   have pP:=pP3
   have pS:=pS3
   have pR:=pR3
   have bw:=b3
   clear pM2 pP3 pS3 pR3 b3
   have g1:Wa.cell? ⟨w.heap.size+1,3,none⟩=some (.slice (some ⟨b3,o3,none⟩) 6 c3):=by simpa using pS.cell 3
   have hz:¬ c3=2:=by omega
   have hzi:(2:Int)≤(6:Int):=by decide
   refine wp_region_held_drew (S:=(fun w'=>w'.cell? ⟨w.heap.size+1,3,none⟩=some (.slice (some ⟨b3,o3,none⟩) 6 c3))) (by kernel_rfl) g1 (fun hS0=>?_)
   refine tkm 0 46 (.pointer (some ⟨gM,4,none⟩)) ?_
   refine tkm 1 47 (.pointer (some ⟨gM,4,none⟩)) ?_
   refine tkm 2 48 (.pointer (some ⟨gM,6,none⟩)) ?_
   refine tkm 3 49 (.slice (some ⟨gM,6,none⟩) 2 2) ?_
   refine tkm 4 50 (.pointer (some ⟨w.heap.size+1,3,none⟩)) ?_
   refine tkm 5 51 (.slice (some ⟨b3,o3,none⟩) 6 c3) ?_
   refine tkm 6 52 (.int .i64 1) ?_
   refine tkm 7 53 (.int .i64 2) ?_
   refine tkm 8 54 (.slice (some ⟨b3,o3+2,none⟩) 4 (c3 - 2)) ?_
   refine tkr 9 55 (fun K hK=>?_)
   refine Z2 rfl _ _ 36 36 rfl 3 Tryz.underlying36 (by kernel_rfl) gM 6 ⟨b3,o3+2,none⟩ _ _ _ _ rfl rfl [.slice ca0 cn0 cc0,.int .i64 p0,.int .i64 x0,.int .i64 y0,.slice ca1 cn1 cc1,.int .i64 p1,.int .i64 0,.int .i64 0,.slice none 0 0,.int .i64 0,.int .i64 0,.int .i64 0,.int .i64 v0,.int .i64 v1,.int .i64 v2,.int .i64 v3,.int .i64 h0,.int .i64 h1] 98 pM.drew [.int .i64 x1,.int .i64 y1] (.int .i64 2) rfl rfl (by simpa using Q8 (j3.below (Zb bw (by go_grown))) 2 2 (by decide)) (by simp) (by simp [Value.oneCell']) ?_
   intro Wb pM' gr
   have pM:=(show Blk Wb gM 98 [.slice ca0 cn0 cc0,.int .i64 p0,.int .i64 x0,.int .i64 y0,.slice ca1 cn1 cc1,.int .i64 p1,.int .i64 x1,.int .i64 y1,.slice none 0 0,.int .i64 0,.int .i64 0,.int .i64 0,.int .i64 v0,.int .i64 v1,.int .i64 v2,.int .i64 v3,.int .i64 h0,.int .i64 h1] from pM'.out)
   replace pP:=(pP.drew).kept gr (by simp;omega)
   replace pS:=(pS.drew).kept gr (by simp;omega)
   replace pR:=(pR.drew).kept gr (by simp;omega)
   replace bw:=(Zb bw (by go_grown:Below Wa.heap.size Wa Wa.drew)).grown gr (by have:=bw.size;exact this) (fun x hx=>by cases hx;omega)
   refine hK.out _ _ ?_ (fun hS1=>?_)
   ·simpa using pS.cell 3
   clear hK hS0 hS1 pM' gr
   try simp only [Act.put,tka,tkb,tkc]
   refine wpAnyH_done (by kernel_rfl) ?_ _
   rw [← q2.out] at pM
   clear g1 hz hzi
   go_wp2
   go_roundw
   case rel=>exact ⟨2,by omega,rfl,pM,pP,pS,pR,bw⟩
   case measure=>simp [intOf]
  ·skip
   rw [q2.out] at pM
   have e0:=pP.cell 0
   have e1:=pS.cell 0
   have e3:=pS.cell 3
   simp only [List.getElem?_cons_zero,List.getElem?_cons_succ] at e0 e1 e3
   have e2:wr.cell? ⟨bp,op+2,none⟩=some (.slice ca2 cn2 cc2):=Za bw _ _ r2
   have e4:wr.cell? ⟨b0,o0+2,none⟩=some (.int .i64 p2):=Za bw _ _ (YO j0 (t:=2) (by decide))
   have f0:=pM.frozen 8
   have f1:=pM.frozen 9
   have u0:wr.cell? ⟨gM,8,none⟩=some (.slice none 0 0):=by simpa using pM.cell 8
   have u1:wr.cell? ⟨gM,9,none⟩=some (.int .i64 0):=by simpa using pM.cell 9
   go_wp2_with fail
   refine wp_region_held_drew (S:=(fun w'=>w'.cell? ⟨w.heap.size,0,none⟩=some (.slice (some ⟨bp,op,none⟩) 3 cap)∧w'.cell? ⟨w.heap.size+1,0,none⟩=some (.slice (some ⟨b0,o0,none⟩) 3 c0)∧w'.cell? ⟨bp,op+2,none⟩=some (.slice ca2 cn2 cc2)∧w'.cell? ⟨b0,o0+2,none⟩=some (.int .i64 p2))) (by kernel_rfl) ⟨e0,e1,e2,e4⟩ (fun hS0=>?_)
   refine tkm 0 30 (.pointer (some ⟨gM,8,none⟩)) ?_
   refine tkm 1 31 (.pointer (some ⟨gM,8,none⟩)) ?_
   refine tkm 2 32 (.pointer (some ⟨w.heap.size,0,none⟩)) ?_
   refine tkm 3 33 (.slice (some ⟨bp,op,none⟩) 3 cap) ?_
   refine tkm 4 34 (.int .i64 2) ?_
   refine tkm 5 35 (.pointer (some ⟨bp,op+2,none⟩)) ?_
   refine tkm 6 36 (.slice ca2 cn2 cc2) ?_
   refine tkm 7 37 (.pointer (some ⟨w.heap.size+1,0,none⟩)) ?_
   refine tkm 8 38 (.slice (some ⟨b0,o0,none⟩) 3 c0) ?_
   refine tkm 9 39 (.int .i64 2) ?_
   refine tkm 10 40 (.pointer (some ⟨b0,o0+2,none⟩)) ?_
   refine tkm 11 41 (.int .i64 p2) ?_
   refine tkm 12 42 (.pointer (some ⟨gM,8,none⟩)) ?_
   refine tkm 13 43 (.pointer (some ⟨gM,8,none⟩)) ?_
   refine tkz 14 (fun K hK=>?_)
   have nP:w.heap.size≠gM:=by omega
   have nS:w.heap.size+1≠gM:=by omega
   have nR:w.heap.size+1+1≠gM:=by omega
   have pM2:Blk (((wr.setCell ⟨gM,8,none⟩ (.slice ca2 cn2 cc2)).setCell ⟨gM,9,none⟩ (.int .i64 p2)).drew) gM 98 [.slice ca0 cn0 cc0,.int .i64 p0,.int .i64 x0,.int .i64 y0,.slice ca1 cn1 cc1,.int .i64 p1,.int .i64 x1,.int .i64 y1,.slice ca2 cn2 cc2,.int .i64 p2,.int .i64 0,.int .i64 0,.int .i64 v0,.int .i64 v1,.int .i64 v2,.int .i64 v3,.int .i64 h0,.int .i64 h1]:=(pM.set 8 (.slice ca2 cn2 cc2)).set 9 (.int .i64 p2)
   have z0:((wr.setCell ⟨gM,8,none⟩ (.slice ca2 cn2 cc2)).drew).cell? ⟨gM,9,none⟩=some (.int .i64 0):=by
    have:=(pM.set 8 (.slice ca2 cn2 cc2)).cell 9
    simpa using this
   have z1:((wr.setCell ⟨gM,8,none⟩ (.slice ca2 cn2 cc2)).drew).frozen? ⟨gM,9,none⟩=false:=(pM.set 8 (.slice ca2 cn2 cc2)).frozen 9
   have pP2:Blk ((wr.setCell ⟨gM,8,none⟩ (.slice ca2 cn2 cc2)).drew) w.heap.size 25 [.slice (some ⟨bp,op,none⟩) 3 cap]:=pP.off _ _ nP
   have pS2:Blk ((wr.setCell ⟨gM,8,none⟩ (.slice ca2 cn2 cc2)).drew) (w.heap.size+1) 88 [.slice (some ⟨b0,o0,none⟩) 3 c0,.slice (some ⟨b1,o1,none⟩) 4 c1,.slice (some ⟨b2,o2,none⟩) 2 c2,.slice (some ⟨b3,o3,none⟩) 6 c3]:=pS.off _ _ nS
   have pP3:Blk (((wr.setCell ⟨gM,8,none⟩ (.slice ca2 cn2 cc2)).setCell ⟨gM,9,none⟩ (.int .i64 p2)).drew) w.heap.size 25 [.slice (some ⟨bp,op,none⟩) 3 cap]:=(pP.off _ _ nP).off _ _ nP
   have pS3:Blk (((wr.setCell ⟨gM,8,none⟩ (.slice ca2 cn2 cc2)).setCell ⟨gM,9,none⟩ (.int .i64 p2)).drew) (w.heap.size+1) 88 [.slice (some ⟨b0,o0,none⟩) 3 c0,.slice (some ⟨b1,o1,none⟩) 4 c1,.slice (some ⟨b2,o2,none⟩) 2 c2,.slice (some ⟨b3,o3,none⟩) 6 c3]:=(pS.off _ _ nS).off _ _ nS
   have pR3:Blk (((wr.setCell ⟨gM,8,none⟩ (.slice ca2 cn2 cc2)).setCell ⟨gM,9,none⟩ (.int .i64 p2)).drew) (w.heap.size+1+1) 98 [.slice none 0 0,.int .i64 0,.int .i64 0,.int .i64 0,.slice none 0 0,.int .i64 0,.int .i64 0,.int .i64 0,.slice none 0 0,.int .i64 0,.int .i64 0,.int .i64 0,.int .i64 0,.int .i64 0,.int .i64 0,.int .i64 0,.int .i64 0,.int .i64 0]:=(pR.off _ _ nR).off _ _ nR
   have b3:Below w.heap.size w (((wr.setCell ⟨gM,8,none⟩ (.slice ca2 cn2 cc2)).setCell ⟨gM,9,none⟩ (.int .i64 p2)).drew):=((bw.setCell (p:=⟨gM,8,none⟩) (by simp;omega) (.slice ca2 cn2 cc2)).setCell (p:=⟨gM,9,none⟩) (by simp;omega) (.int .i64 p2)).drew
   have b2:Below w.heap.size w ((wr.setCell ⟨gM,8,none⟩ (.slice ca2 cn2 cc2)).drew):=(bw.setCell (p:=⟨gM,8,none⟩) (by simp;omega) (.slice ca2 cn2 cc2)).drew
   go_simp
   refine hK.out _ _ ?_ (fun hS1=>?_)
   ·exact ⟨by simpa using pP2.cell 0,by simpa using pS2.cell 0,Za b2 _ _ r2,Za b2 _ _ (YO j0 (t:=2) (by decide))⟩
   clear hK
   try simp only [Act.put,tka,tkb,tkc]
   refine tkm 15 44 (.pointer (some ⟨gM,8,none⟩)) ?_
   refine tkm 16 45 (.pointer (some ⟨gM,9,none⟩)) ?_
   refine tkz 17 (fun K hK=>?_)
   go_simp
   refine hK.out _ _ ?_ (fun hS2=>?_)
   ·exact ⟨by simpa using pP3.cell 0,by simpa using pS3.cell 0,Za b3 _ _ r2,Za b3 _ _ (YO j0 (t:=2) (by decide))⟩
   clear hK
   try simp only [Act.put,tka,tkb,tkc]
   refine wpAnyH_done (by kernel_rfl) ?_ _
   clear hS0 hS1 hS2 z0 z1 pP2 pS2 b2 e0 e1 e2 e3 e4 f0 f1 u0 u1 pM pP pS pR bw
   go_wp2_with fail
   generalize ((wr.setCell ⟨gM,8,none⟩ (.slice ca2 cn2 cc2)).setCell ⟨gM,9,none⟩ (.int .i64 p2)).drew=Wa at *
   have pM:=pM2
   have pP:=pP3
   have pS:=pS3
   have pR:=pR3
   have bw:=b3
   clear pM2 pP3 pS3 pR3 b3
   have g1:Wa.cell? ⟨w.heap.size+1,3,none⟩=some (.slice (some ⟨b3,o3,none⟩) 6 c3):=by simpa using pS.cell 3
   have hz:¬ c3=4:=by omega
   have hzi:(4:Int)≤(6:Int):=by decide
   refine wp_region_held_drew (S:=(fun w'=>w'.cell? ⟨w.heap.size+1,3,none⟩=some (.slice (some ⟨b3,o3,none⟩) 6 c3))) (by kernel_rfl) g1 (fun hS0=>?_)
   refine tkm 0 46 (.pointer (some ⟨gM,8,none⟩)) ?_
   refine tkm 1 47 (.pointer (some ⟨gM,8,none⟩)) ?_
   refine tkm 2 48 (.pointer (some ⟨gM,10,none⟩)) ?_
   refine tkm 3 49 (.slice (some ⟨gM,10,none⟩) 2 2) ?_
   refine tkm 4 50 (.pointer (some ⟨w.heap.size+1,3,none⟩)) ?_
   refine tkm 5 51 (.slice (some ⟨b3,o3,none⟩) 6 c3) ?_
   refine tkm 6 52 (.int .i64 2) ?_
   refine tkm 7 53 (.int .i64 4) ?_
   refine tkm 8 54 (.slice (some ⟨b3,o3+4,none⟩) 2 (c3 - 4)) ?_
   refine tkr 9 55 (fun K hK=>?_)
   refine Z2 rfl _ _ 36 36 rfl 3 Tryz.underlying36 (by kernel_rfl) gM 10 ⟨b3,o3+4,none⟩ _ _ _ _ rfl rfl [.slice ca0 cn0 cc0,.int .i64 p0,.int .i64 x0,.int .i64 y0,.slice ca1 cn1 cc1,.int .i64 p1,.int .i64 x1,.int .i64 y1,.slice ca2 cn2 cc2,.int .i64 p2,.int .i64 0,.int .i64 0,.int .i64 v0,.int .i64 v1,.int .i64 v2,.int .i64 v3,.int .i64 h0,.int .i64 h1] 98 pM.drew [.int .i64 x2,.int .i64 y2] (.int .i64 2) rfl rfl (by simpa using Q8 (j3.below (Zb bw (by go_grown))) 4 2 (by decide)) (by simp) (by simp [Value.oneCell']) ?_
   intro Wb pM' gr
   have pM:=(show Blk Wb gM 98 [.slice ca0 cn0 cc0,.int .i64 p0,.int .i64 x0,.int .i64 y0,.slice ca1 cn1 cc1,.int .i64 p1,.int .i64 x1,.int .i64 y1,.slice ca2 cn2 cc2,.int .i64 p2,.int .i64 x2,.int .i64 y2,.int .i64 v0,.int .i64 v1,.int .i64 v2,.int .i64 v3,.int .i64 h0,.int .i64 h1] from pM'.out)
   replace pP:=(pP.drew).kept gr (by simp;omega)
   replace pS:=(pS.drew).kept gr (by simp;omega)
   replace pR:=(pR.drew).kept gr (by simp;omega)
   replace bw:=(Zb bw (by go_grown:Below Wa.heap.size Wa Wa.drew)).grown gr (by have:=bw.size;exact this) (fun x hx=>by cases hx;omega)
   refine hK.out _ _ ?_ (fun hS1=>?_)
   ·simpa using pS.cell 3
   clear hK hS0 hS1 pM' gr
   try simp only [Act.put,tka,tkb,tkc]
   refine wpAnyH_done (by kernel_rfl) ?_ _
   rw [← q3.out] at pM
   clear g1 hz hzi
   go_wp2
   go_roundw
   case rel=>exact ⟨3,by omega,rfl,pM,pP,pS,pR,bw⟩
   case measure=>simp [intOf]
  rw [q3.out] at pM
  go_wp2_with (first | refine Zd rfl 98 _ rfl gM rfl pM _ Tryz.underlying98 rfl (by kernel_rfl) ?_ | refine Ze rfl 98 _ _ rfl (w.heap.size+1+1) [.slice ca0 cn0 cc0,.int .i64 p0,.int .i64 x0,.int .i64 y0,.slice ca1 cn1 cc1,.int .i64 p1,.int .i64 x1,.int .i64 y1,.slice ca2 cn2 cc2,.int .i64 p2,.int .i64 x2,.int .i64 y2,.int .i64 v0,.int .i64 v1,.int .i64 v2,.int .i64 v3,.int .i64 h0,.int .i64 h1] rfl rfl pR (by kernel_rfl) rfl rfl ?_)
  intro w9 pR9 g9
  replace bw:=bw.grown g9 bw.size (fun k hk=>by cases hk;omega)
  clear g9 pR pM pP pS
  go_wp2_with fail
  refine bodyPost_ret (ZF Tryz.results46 _ _ _ _ _ _ rfl pR9.out Tryz.underlying98 rfl (by kernel_rfl)) rfl ?_
  exact ⟨⟨((ca0,cn0,cc0),(ca1,cn1,cc1),(ca2,cn2,cc2)),rfl,HI.out⟩,bw⟩
end Go.Proofs.YtgmhhegckcionaaGreatDoor
