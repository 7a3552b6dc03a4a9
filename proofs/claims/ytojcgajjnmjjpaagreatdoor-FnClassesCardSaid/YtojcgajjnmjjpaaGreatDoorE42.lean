/-
  Joined: EvD, EvE.
-/
import Derived.Test.YtojcgajjnmjjpaaGreatDoorE31

namespace Go.Proofs.YtojcgajjnmjjpaaGreatDoor
set_option maxRecDepth 100000
set_option maxHeartbeats 16000000
open Go.RowKit
set_option linter.unusedVariables false
set_option linter.unusedSimpArgs false

theorem PO (b9 off9 cap b0 o0 c0:Nat) (a1:Option Addr) (n1 c1:Nat) (a2:Option Addr) (n2 c2:Nat) (a3:Option Addr) (n3 c3:Nat) (k p b off n c:Nat) (x0 x1 x2:Int) (w:World) (hk:k<3) (hp:p<n) (hx:-1000≤x1∧x1≤1000)
  (f0:w.cell? ⟨b9,off9+k,none⟩=some (.slice (some ⟨b,off,none⟩) n c)) (e1:w.cell? ⟨b0,o0+k,none⟩=some (.int .i64 p)) (q0:w.cell? ⟨b,off+p*3,none⟩=some (.int .i64 x0)) (q1:w.cell? ⟨b,off+p*3+1,none⟩=some (.int .i64 x1)) (q2:w.cell? ⟨b,off+p*3+2,none⟩=some (.int .i64 x2)) :
  Calls Tryz.prog 124 #[.agg #[.slice (some ⟨b9,off9,none⟩) 3 cap],.agg #[.slice (some ⟨b0,o0,none⟩) 3 c0,.slice a1 n1 c1,.slice a2 n2 c2,.slice a3 n3 c3],.int .i64 k] w fun e w'=>e=.returned (.agg #[.int .i64 k,.int .i64 p,.int .i64 x0,.int .i64 (X8 (x0,x1,x2))])∧Below w.heap.size w w':=by
 have hk3:(k:Int)<3:=by omega
 have hpn:(p:Int)<(n:Int):=by omega
 have kO:=KI x0 x1 x2 hx
 generalize X8 (x0,x1,x2)=ob at *
 have hl0:b0<w.heap.size:=World.block_lt_of_cell? _ _ e1
 have bw:Below w.heap.size w (((w.alloc (.cells #[.slice (some ⟨b9,off9,none⟩) 3 cap] 25)).alloc (.cells #[.slice (some ⟨b0,o0,none⟩) 3 c0,.slice a1 n1 c1,.slice a2 n2 c2,.slice a3 n3 c3] 37)).alloc (.cells #[.int .i64 0,.int .i64 0,.int .i64 0,.int .i64 0] 122)):=by go_grown
 have pP:Blk (((w.alloc (.cells #[.slice (some ⟨b9,off9,none⟩) 3 cap] 25)).alloc (.cells #[.slice (some ⟨b0,o0,none⟩) 3 c0,.slice a1 n1 c1,.slice a2 n2 c2,.slice a3 n3 c3] 37)).alloc (.cells #[.int .i64 0,.int .i64 0,.int .i64 0,.int .i64 0] 122)) w.heap.size 25 [.slice (some ⟨b9,off9,none⟩) 3 cap]:=Zu _ (Zu _ (Zp _ _ _ rfl))
 have pS:Blk (((w.alloc (.cells #[.slice (some ⟨b9,off9,none⟩) 3 cap] 25)).alloc (.cells #[.slice (some ⟨b0,o0,none⟩) 3 c0,.slice a1 n1 c1,.slice a2 n2 c2,.slice a3 n3 c3] 37)).alloc (.cells #[.int .i64 0,.int .i64 0,.int .i64 0,.int .i64 0] 122)) (w.heap.size+1) 37 [.slice (some ⟨b0,o0,none⟩) 3 c0,.slice a1 n1 c1,.slice a2 n2 c2,.slice a3 n3 c3]:=Zu _ (Zp _ _ _ (by simp))
 have pR:Blk (((w.alloc (.cells #[.slice (some ⟨b9,off9,none⟩) 3 cap] 25)).alloc (.cells #[.slice (some ⟨b0,o0,none⟩) 3 c0,.slice a1 n1 c1,.slice a2 n2 c2,.slice a3 n3 c3] 37)).alloc (.cells #[.int .i64 0,.int .i64 0,.int .i64 0,.int .i64 0] 122)) (w.heap.size+2) 122 [.int .i64 0,.int .i64 0,.int .i64 0,.int .i64 0]:=Zp _ _ _ (by simp)
 replace f0:=Za bw _ _ f0
 replace e1:=Za bw _ _ e1
 replace q0:=Za bw _ _ q0
 replace q1:=Za bw _ _ q1
 replace q2:=Za bw _ _ q2
 have cP:=pP.cell 0
 have cS:=pS.cell 0
 simp only [List.getElem?_cons_zero] at cP cS
 go_enter Tryz.func124,Tryz.ntmps124
 go_wp2_with fail
 have hX9:w.heap.size+2<(((w.alloc (.cells #[.slice (some ⟨b9,off9,none⟩) 3 cap] 25)).alloc (.cells #[.slice (some ⟨b0,o0,none⟩) 3 c0,.slice a1 n1 c1,.slice a2 n2 c2,.slice a3 n3 c3] 37)).alloc (.cells #[.int .i64 0,.int .i64 0,.int .i64 0,.int .i64 0] 122)).heap.size:=pR.lt
 generalize (((w.alloc (.cells #[.slice (some ⟨b9,off9,none⟩) 3 cap] 25)).alloc (.cells #[.slice (some ⟨b0,o0,none⟩) 3 c0,.slice a1 n1 c1,.slice a2 n2 c2,.slice a3 n3 c3] 37)).alloc (.cells #[.int .i64 0,.int .i64 0,.int .i64 0,.int .i64 0] 122))=W at *
 refine wp_region_held_drew (S:=(fun w'=>w'.cell? ⟨w.heap.size,0,none⟩=some (.slice (some ⟨b9,off9,none⟩) 3 cap)∧w'.cell? ⟨b9,off9+k,none⟩=some (.slice (some ⟨b,off,none⟩) n c)∧w'.cell? ⟨w.heap.size+1,0,none⟩=some (.slice (some ⟨b0,o0,none⟩) 3 c0)∧w'.cell? ⟨b0,o0+k,none⟩=some (.int .i64 p)∧w'.cell? ⟨b,off+p*3,none⟩=some (.int .i64 x0)∧w'.cell? ⟨b,off+p*3+1,none⟩=some (.int .i64 x1)∧w'.cell? ⟨b,off+p*3+2,none⟩=some (.int .i64 x2))) (by kernel_rfl) ⟨cP,f0,cS,e1,q0,q1,q2⟩ (fun hS0=>?_)
 refine tkm 0 8 (.pointer (some ⟨w.heap.size,0,none⟩)) ?_
 refine tkm 1 9 (.slice (some ⟨b9,off9,none⟩) 3 cap) ?_
 refine tkm 2 10 (.int .i64 (k:Int)) ?_
 refine tkm 3 11 (.pointer (some ⟨b9,off9+k,none⟩)) ?_
 refine tkm 4 12 (.slice (some ⟨b,off,none⟩) n c) ?_
 refine tkm 5 13 (.pointer (some ⟨w.heap.size+1,0,none⟩)) ?_
 refine tkm 6 14 (.slice (some ⟨b0,o0,none⟩) 3 c0) ?_
 refine tkm 7 15 (.int .i64 (k:Int)) ?_
 refine tkm 8 16 (.pointer (some ⟨b0,o0+k,none⟩)) ?_
 refine tkm 9 17 (.int .i64 p) ?_
 refine tkm 10 18 (.pointer (some ⟨b,off+p*3,none⟩)) ?_
 refine tkm 11 19 (.agg #[.int .i64 x0,.int .i64 x1,.int .i64 x2]) ?_
 refine tkr 12 7 (fun K hK=>?_)
 have hal:Below W.drew.heap.size W.drew (W.drew.alloc (.cells #[.int .i64 0,.int .i64 0,.int .i64 0] 116)):=by go_grown
 go_simp
 refine hK.out _ _ ?_ (fun hS1=>?_)
 ·exact ⟨Za hal _ _ hS0.1,Za hal _ _ hS0.2.1,Za hal _ _ hS0.2.2.1,Za hal _ _ hS0.2.2.2.1,Za hal _ _ hS0.2.2.2.2.1,Za hal _ _ hS0.2.2.2.2.2.1,Za hal _ _ hS0.2.2.2.2.2.2⟩
 clear hK
 try simp only [Act.put,tka,tkb,tkc]
 refine tkz 13 (fun K hK=>?_)
 have hal2:Below W.drew.heap.size W.drew (W.drew.alloc (.cells #[.int .i64 x0,.int .i64 x1,.int .i64 x2] 116)):=by go_grown
 go_simp
 refine hK.out _ _ ?_ (fun hS2=>?_)
 ·exact ⟨Za hal2 _ _ hS0.1,Za hal2 _ _ hS0.2.1,Za hal2 _ _ hS0.2.2.1,Za hal2 _ _ hS0.2.2.2.1,Za hal2 _ _ hS0.2.2.2.2.1,Za hal2 _ _ hS0.2.2.2.2.2.1,Za hal2 _ _ hS0.2.2.2.2.2.2⟩
 clear hK
 try simp only [Act.put,tka,tkb,tkc]
 refine wpAnyH_done (by kernel_rfl) ?_ _
 have hb:Below W.heap.size W (W.alloc (.cells #[.int .i64 x0,.int .i64 x1,.int .i64 x2] 116)).drew:=by go_grown
 have pX:Blk (W.alloc (.cells #[.int .i64 x0,.int .i64 x1,.int .i64 x2] 116)).drew W.heap.size 116 [.int .i64 x0,.int .i64 x1,.int .i64 x2]:=Zp _ _ _ rfl
 replace bw:=Zb bw hb
 replace pR:=pR.below hb
 replace e1:=Za hb _ _ e1
 replace cS:=Za hb _ _ cS
 clear hal hal2 hS0 hS1 hS2 f0 q0 q1 q2 hb cP pP pS
 go_wp2_with fail
 generalize (W.alloc (.cells #[.int .i64 x0,.int .i64 x1,.int .i64 x2] 116)).drew=V at *
 generalize W.heap.size=X at *
 have d0:=pX.cell 0
 have d1:=pX.cell 1
 have d2:=pX.cell 2
 simp only [List.getElem?_cons_zero,List.getElem?_cons_succ] at d0 d1 d2
 have hdr:Below V.heap.size V V.drew:=by go_grown
 refine wp_region_held_drew (S:=(fun w'=>w'.cell? ⟨w.heap.size+1,0,none⟩=some (.slice (some ⟨b0,o0,none⟩) 3 c0)∧w'.cell? ⟨b0,o0+k,none⟩=some (.int .i64 p)∧w'.cell? ⟨X,0,none⟩=some (.int .i64 x0)∧w'.cell? ⟨X,1,none⟩=some (.int .i64 x1)∧w'.cell? ⟨X,2,none⟩=some (.int .i64 x2))) (by kernel_rfl) ⟨cS,e1,d0,d1,d2⟩ (fun hS0=>?_)
 refine tkm 0 20 (.int .i64 (k:Int)) ?_
 refine tkm 1 21 (.pointer (some ⟨w.heap.size+1,0,none⟩)) ?_
 refine tkm 2 22 (.slice (some ⟨b0,o0,none⟩) 3 c0) ?_
 refine tkm 3 23 (.int .i64 (k:Int)) ?_
 refine tkm 4 24 (.pointer (some ⟨b0,o0+k,none⟩)) ?_
 refine tkm 5 25 (.int .i64 p) ?_
 refine tkm 6 26 (.pointer (some ⟨X,0,none⟩)) ?_
 refine tkm 7 27 (.int .i64 x0) ?_
 refine tkm 8 28 (.agg #[.int .i64 x0,.int .i64 x1,.int .i64 x2]) ?_
 refine tkr 9 29 (fun K hK=>?_)
 go_simp
 refine (kO _).mono ?_
 rintro e U ⟨rfl,hb8⟩
 go_wp2_with fail
 refine hK.out _ _ ?_ (fun hS1=>?_)
 ·exact ⟨Za hb8 _ _ hS0.1,Za hb8 _ _ hS0.2.1,Za hb8 _ _ hS0.2.2.1,Za hb8 _ _ hS0.2.2.2.1,Za hb8 _ _ hS0.2.2.2.2⟩
 clear hK
 refine tkm 10 30 (.agg #[.int .i64 (k:Int),.int .i64 p,.int .i64 x0,.int .i64 ob]) ?_
 replace pR:=pR.below (Zb hdr hb8)
 replace bw:=Zb bw (Zb hdr hb8)
 refine tkz 11 (fun K hK=>?_)
 refine Zw rfl 122 _ _ rfl (w.heap.size+2) [.int .i64 (k:Int),.int .i64 p,.int .i64 x0,.int .i64 ob] rfl rfl pR (by kernel_rfl) rfl rfl ?_
 intro U2 pR2 g2
 have bz:=bw.grown g2 bw.size (fun j hj=>by cases hj;omega)
 have n0:(some (w.heap.size+1):Option Nat)≠some (w.heap.size+2):=by simp
 have n1:(some b0:Option Nat)≠some (w.heap.size+2):=by simp;omega
 have n2:(some X:Option Nat)≠some (w.heap.size+2):=by simp;omega
 refine hK.out _ _ ⟨Zd g2 hS1.1 n0,Zd g2 hS1.2.1 n1,Zd g2 hS1.2.2.1 n2,Zd g2 hS1.2.2.2.1 n2,Zd g2 hS1.2.2.2.2 n2⟩ (fun hS2=>?_)
 clear hK
 try simp only [Act.put,tka,tkb,tkc]
 refine wpAnyH_done (by kernel_rfl) ?_ _
 clear hS0 hS1 hS2 n0 n1 n2 g2 bw pR hdr hb8 kO d0 d1 d2 e1 pX cS
 go_wp2_with fail
 refine bodyPost_ret (XX Tryz.results124 _ _ _ _ _ _ rfl pR2.out Tryz.underlying122 rfl (by kernel_rfl)) rfl ?_
 exact ⟨rfl,bz⟩

theorem NJ {w:World} {a9:Option Addr} {cap:Nat} {cs:Sl × Sl × Sl} {rows:List (List I3)} {s:S4} {m:V4} (hR:Z7 w a9 cs rows) (h:Yl w s m) (hp:Zn rows=true) (hs:Zk m=true) {k:Nat} (hk:k<3) (hd:Z2 rows m k=false) :
  Calls Tryz.prog 124 #[.agg #[.slice a9 3 cap],s.val,.int .i64 k] w fun e w'=>e=.returned (.agg #[.int .i64 (ZB rows m k).1,.int .i64 (ZB rows m k).2.1,.int .i64 (ZB rows m k).2.2.1,.int .i64 (ZB rows m k).2.2.2])∧Below w.heap.size w w':=by
 obtain ⟨p,ep,hlt,hi,hok⟩:=X4 hp hs hk hd
 obtain ⟨b9,off9,rfl,_,hrow⟩:=hR
 obtain ⟨f0,hI⟩:=hrow k hk
 obtain ⟨b,off,ea,hpn,q0,q1,q2⟩:=Sg hI hlt
 rw [← hi] at q0 q1 q2
 rw [ea] at f0
 have hm:=Lx hok
 obtain ⟨⟨j0,_⟩,_⟩:=h
 obtain ⟨l0,_⟩:=ZV hs
 obtain ⟨⟨a0,n0,c0⟩,⟨a1,n1,c1⟩,⟨a2,n2,c2⟩,⟨a3,n3,c3⟩⟩:=s
 simp only at j0
 obtain ⟨rfl,b0,o0,rfl⟩:=Zy j0 l0 (by decide)
 have r1:=YA j0 (t:=k) hk
 rw [ep] at r1
 unfold ZB
 rw [ep]
 generalize Ys rows m k=x at *
 obtain ⟨x0,x1,x2⟩:=x
 exact PO b9 off9 cap b0 o0 c0 a1 n1 c1 a2 n2 c2 a3 n3 c3 k p b off _ _ x0 x1 x2 w hk hpn hm f0 r1 q0 q1 q2


theorem Je (rows:List (List I3)) (ks:List Int):VU rows Zl [] ks=((ZH rows Zl [] ks).1,Yg (ZH rows Zl [] ks).2.1 (XW rows (ZH rows Zl [] ks).1),(ZH rows Zl [] ks).2.2):=by
 have h0:([]:List I3)=Yg [] (XW rows Zl):=by unfold XW;rw [Qo];rfl
 obtain ⟨h1,h2,h3⟩:=Mf (rows:=rows) ks Zl [] [] h0
 rw [← h1,← h2] at *
 exact Prod.ext h1 (Prod.ext h3 rfl)
theorem ZQ.neE {w w':World} {b B e s n:Nat} {t:S4} {m:V4} {v:Value} {xs:List Value} (h:ZQ w b t m) (hv:w.ownsRow B e s v n xs) (hg:w.grownBy w' v.ownBlock) (he:3≠e):ZQ w' b t m:=
 ⟨⟨World.ownsRow.kept h.1.1 hg (Yh h.1.1 hv he),World.ownsRow.kept h.1.2.1 hg (Yh h.1.2.1 hv he),World.ownsRow.kept h.1.2.2.1 hg (Yh h.1.2.2.1 hv he),World.ownsRow.kept h.1.2.2.2 hg (Yh h.1.2.2.2 hv he)⟩,h.2⟩
def GN (w wr:World) (X:Nat) (a9:Option Addr) (cap:Nat) (rows:List (List I3)) (ks:List Int) (n i:Nat) (tot:List I4) (m:V4) (fs:List I3) (es:List I4) (v:Value):Prop:=
 i≤n∧(ZH rows m fs (ks.drop i)).2.2=0∧Zk m=true∧(∃ t:S4,Blk wr X 37 (vmC t)∧ZQ wr w.heap.size t m)∧wr.ownsRow w.heap.size 122 4 v es.length (Yo es)∧es++YN rows m (ks.drop i)=tot∧es.length=i∧Below w.heap.size w wr∧Blk wr w.heap.size 25 [.slice a9 3 cap]∧w.heap.size<X

theorem PP {w:World} {a9:Option Addr} {cap:Nat} {cs:Sl × Sl × Sl} {rows:List (List I3)} {la:Option Addr} {n c:Nat} {ks:List Int} (hR:Z7 w a9 cs rows) (hp:Zn rows=true) (hL:YV .i64 w la n c ks) (hn:n≤100000) :
  Calls Tryz.prog 84 #[.agg #[.slice a9 3 cap],.slice la n c] w fun e w'=>FY e w' w.heap.size (if (ZH rows Zl [] ks).2.2=0 then YN rows Zl ks else []) (ZH rows Zl [] ks).2.2∧Below w.heap.size w w':=by
 obtain ⟨i0,hi9,hz0,hz1,hz2⟩:=info_parts RM
 have hll:=hL.1
 have kN:=XZ
 have kR:=fun (W:World) (b:Below w.heap.size w W)=>KH (cap:=cap) (hR.below b) hp (hL.below b) hn
 rw [Je] at kR
 simp only at kR
 have HF0:Hid ((ZH rows Zl [] (ks.drop 0)).2.2=(ZH rows Zl [] ks).2.2):=rfl
 have HT0:Hid ([]++YN rows Zl (ks.drop 0)=YN rows Zl ks):=rfl
 obtain ⟨cd,hcd⟩:∃ cd,cd=(ZH rows Zl [] ks).2.2:=⟨_,rfl⟩
 obtain ⟨tot,htot⟩:∃ tot,tot=YN rows Zl ks:=⟨_,rfl⟩
 rw [← hcd] at HF0 kR ⊢
 rw [← htot] at HT0 ⊢
 clear hcd htot
 generalize Yg (ZH rows Zl [] ks).2.1 (XW rows (ZH rows Zl [] ks).1)=bugs9 at *
 generalize (ZH rows Zl [] ks).1=zz at *
 obtain ⟨es9,hes⟩:∃ es9,es9=(if cd=0 then tot else []):=⟨_,rfl⟩
 rw [← hes]
 have HE:Hid (es9=(if cd=0 then tot else [])):=hes
 clear hes
 have bw:Below w.heap.size w (w.alloc (.cells #[.slice a9 3 cap] 25)):=by go_grown
 have pP:Blk (w.alloc (.cells #[.slice a9 3 cap] 25)) w.heap.size 25 [.slice a9 3 cap]:=Zp _ _ _ rfl
 have hUw:w.heap.size+1≤(w.alloc (.cells #[.slice a9 3 cap] 25)).heap.size:=pP.lt
 go_enter Tryz.func84,Tryz.ntmps84
 go_wp2_with fail
 generalize (w.alloc (.cells #[.slice a9 3 cap] 25))=U at *
 refine (kN _).mono ?_
 rintro e w1 ⟨⟨⟨⟨t0a,t0n,t0c⟩,⟨t1a,t1n,t1c⟩,⟨t2a,t2n,t2c⟩,⟨t3a,t3n,t3c⟩⟩,rfl,hO⟩,hb⟩
 have ut:S4.val ((t0a,t0n,t0c),(t1a,t1n,t1c),(t2a,t2n,t2c),(t3a,t3n,t3c))=.agg #[.slice t0a t0n t0c,.slice t1a t1n t1c,.slice t2a t2n t2c,.slice t3a t3n t3c]:=rfl
 rw [ut]
 replace bw:=Zb bw hb
 replace pP:=pP.below hb
 replace hO:=hO.lowerB (B':=w.heap.size) (by omega)
 have hX1:w.heap.size<w1.heap.size:=pP.lt
 clear hb kN ut hUw
 have ha:Below w1.heap.size w1 ((w1.alloc (.cells #[.slice t0a t0n t0c,.slice t1a t1n t1c,.slice t2a t2n t2c,.slice t3a t3n t3c] 37)).alloc (.cells #[] 122)):=by go_grown
 have pS:Blk ((w1.alloc (.cells #[.slice t0a t0n t0c,.slice t1a t1n t1c,.slice t2a t2n t2c,.slice t3a t3n t3c] 37)).alloc (.cells #[] 122)) w1.heap.size 37 [.slice t0a t0n t0c,.slice t1a t1n t1c,.slice t2a t2n t2c,.slice t3a t3n t3c]:=Zu _ (Zp _ _ _ rfl)
 have q:((w1.alloc (.cells #[.slice t0a t0n t0c,.slice t1a t1n t1c,.slice t2a t2n t2c,.slice t3a t3n t3c] 37)).alloc (.cells #[] 122)).ownsRow w.heap.size 122 4 (.slice (some ⟨w1.heap.size+1,0,none⟩) 0 0) 0 []:=by
  have h9:=Yw (w1.alloc (.cells #[.slice t0a t0n t0c,.slice t1a t1n t1c,.slice t2a t2n t2c,.slice t3a t3n t3c] 37)) 122 4 w.heap.size (by simp;omega)
  simpa using h9
 replace bw:=Zb bw ha
 replace hO:=hO.below ha
 replace pP:=pP.below ha
 clear ha
 go_wp2_with (first | refine Zc rfl 25 _ rfl w.heap.size rfl pP _ Tryz.underlying25 rfl (by kernel_rfl) ?_)
 generalize (w1.alloc (.cells #[.slice t0a t0n t0c,.slice t1a t1n t1c,.slice t2a t2n t2c,.slice t3a t3n t3c] 37)).alloc (.cells #[] 122)=W2 at *
 generalize w1.heap.size+1=g0 at *
 generalize w1.heap.size=X at *
 refine (kR _ bw).mono ?_
 rintro e w3 ⟨⟨⟨⟨r0a,r0n,r0c⟩,⟨r1a,r1n,r1c⟩,⟨r2a,r2n,r2c⟩,⟨r3a,r3n,r3c⟩⟩,vr,rfl,_,_⟩,hb⟩
 have ur:S4.val ((r0a,r0n,r0c),(r1a,r1n,r1c),(r2a,r2n,r2c),(r3a,r3n,r3c))=.agg #[.slice r0a r0n r0c,.slice r1a r1n r1c,.slice r2a r2n r2c,.slice r3a r3n r3c]:=rfl
 rw [ur]
 clear ur kR
 have ha:Below w3.heap.size w3 (w3.alloc (.cells #[.slice r0a r0n r0c,.slice r1a r1n r1c,.slice r2a r2n r2c,.slice r3a r3n r3c] 37)):=by go_grown
 have hb9:=Zb hb ha
 replace bw:=Zb bw hb9
 replace hO:=hO.below hb9
 replace pP:=pP.below hb9
 replace pS:=pS.below hb9
 replace q:=Zf q hb9
 clear hb ha hb9
 by_cases hcz:cd=0
 ·have HE0:Hid (es9=tot):=by rw [Hid,HE.out,if_pos hcz]
  have HF1:Hid ((ZH rows Zl [] (ks.drop 0)).2.2=0):=by rw [Hid,HF0.out];exact hcz
  subst hcz
  clear HE HF0
  go_wp2_with fail
  generalize w3.alloc (.cells #[.slice r0a r0n r0c,.slice r1a r1n r1c,.slice r2a r2n r2c,.slice r3a r3n r3c] 37)=W3 at *
  have st:GN w W3 X a9 cap rows ks n 0 tot Zl [] [] (.slice (some ⟨g0,0,none⟩) 0 0):=⟨by omega,HF1.out,ZJ,⟨((t0a,t0n,t0c),(t1a,t1n,t1c),(t2a,t2n,t2c),(t3a,t3n,t3c)),pS,hO⟩,q,HT0.out,rfl,bw,pP,hX1⟩
  clear HF1 HT0 pS hO q bw pP
  go_loopw [7,11] (fun so si wr=>∃ (i:Nat) (m:V4) (fs:List I3) (es:List I4) (vo:Value),vo=so∧si=.int .i64 i∧GN w wr X a9 cap rows ks n i tot m fs es vo) (fun _ si _=>n - (intOf si).toNat)
  case atStart=>exact ⟨0,_,_,_,_,rfl,rfl,st⟩
  case round =>
   clear st
   obtain ⟨i,m,fs,es,so,rfl,rfl,hi,hr,hs,⟨⟨⟨t0a,t0n,t0c⟩,⟨t1a,t1n,t1c⟩,⟨t2a,t2n,t2c⟩,⟨t3a,t3n,t3c⟩⟩,pS,hO⟩,q,ht,hel,bw,pP,hX1⟩:=hrel
   replace pS:Blk wr X 37 [.slice t0a t0n t0c,.slice t1a t1n t1c,.slice t2a t2n t2c,.slice t3a t3n t3c]:=pS
   by_cases hlt:i<n
   ·obtain ⟨lb,lo,rfl,hc,hlb⟩:=MK hL hlt
    replace hc:=Za bw _ _ hc
    have e9:ks.drop i=ks.getD i 0::ks.drop (i+1):=by rw [List.drop_eq_getElem_cons (by omega)];simp [List.getD,show i<ks.length by omega]
    rw [e9] at hr ht
    have hlt':(i:Int)<(n:Int):=by omega
    have hi0:(0:Int)≤(i:Int):=by omega
    have fm:=(ZP hs).1
    generalize ks.getD i 0=kk at *
    clear e9
    have hz:Zx rows m kk=0:=by
     by_cases h9:Zx rows m kk=0
     ·exact h9
     rw [show ZH rows m fs (kk::ks.drop (i+1))=(m,fs,Zx rows m kk) by show (if Zx rows m kk=0 then _ else _)=_;rw [if_neg h9]] at hr
     exact hr
    have hr2:(ZH rows (goM rows m kk).1 (fs++Yt rows m kk) (ks.drop (i+1))).2.2=0:=by
     rw [show ZH rows m fs (kk::ks.drop (i+1))=ZH rows (goM rows m kk).1 (fs++Yt rows m kk) (ks.drop (i+1)) by show (if Zx rows m kk=0 then _ else _)=_;rw [if_pos hz]] at hr
     exact hr
    obtain ⟨h0,h2,hd,hcn⟩:=ZY hz
    have hs2:=ZW hp hs hz
    obtain ⟨k,rfl⟩:∃ k:Nat,kk=k:=⟨kk.toNat,by omega⟩
    rw [Int.toNat_natCast] at hd
    have hk:k<3:=by omega
    have ht2:es++(ZB rows m k::YN rows (goM rows m (k:Int)).1 (ks.drop (i+1)))=tot:=ht
    clear hr ht hz h0 h2 hcn
    have kV:=fun (W:World) (b:Below w.heap.size w W) (h:Yl W ((t0a,t0n,t0c),(t1a,t1n,t1c),(t2a,t2n,t2c),(t3a,t3n,t3c)) m)=>NJ (cap:=cap) (hR.below b) h hp hs hk hd
    have kT:=fun (W:World) (b:Below w.heap.size w W) (h:Yl W ((t0a,t0n,t0c),(t1a,t1n,t1c),(t2a,t2n,t2c),(t3a,t3n,t3c)) m)=>WR (cap:=cap) rfl (hR.below b) h hp hs hk hd
    rw [← Wv] at kT
    have ut:S4.val ((t0a,t0n,t0c),(t1a,t1n,t1c),(t2a,t2n,t2c),(t3a,t3n,t3c))=.agg #[.slice t0a t0n t0c,.slice t1a t1n t1c,.slice t2a t2n t2c,.slice t3a t3n t3c]:=rfl
    rw [ut] at kV kT
    clear ut hd
    obtain ⟨ev,hev⟩:∃ ev,ev=ZB rows m k:=⟨_,rfl⟩
    rw [← hev] at kV ht2
    obtain ⟨v0,v1,v2,v3⟩:=ev
    simp only at kV
    clear hev
    have HT2:Hid (es++((v0,v1,v2,v3)::YN rows (goM rows m (k:Int)).1 (ks.drop (i+1)))=tot):=ht2
    have HR2:Hid ((ZH rows (goM rows m (k:Int)).1 (fs++Yt rows m (k:Int)) (ks.drop (i+1))).2.2=0):=hr2
    clear ht2 hr2
    generalize fs++Yt rows m (k:Int)=fs2 at *
    generalize (goM rows m (k:Int)).1=z at *
    generalize (goM rows m (k:Int)).2=fd at *
    go_wp2_with fail
    refine wp_region_held_drew (S:=(fun w'=>w'.cell? ⟨w.heap.size,0,none⟩=some (.slice a9 3 cap)∧w'.cell? ⟨X,0,none⟩=some (.slice t0a t0n t0c)∧w'.cell? ⟨X,1,none⟩=some (.slice t1a t1n t1c)∧w'.cell? ⟨X,2,none⟩=some (.slice t2a t2n t2c)∧w'.cell? ⟨X,3,none⟩=some (.slice t3a t3n t3c)∧w'.cell? ⟨lb,lo+i,none⟩=some (.int .i64 (k:Int)))) (by kernel_rfl) ⟨by simpa using pP.cell 0,by simpa using pS.cell 0,by simpa using pS.cell 1,by simpa using pS.cell 2,by simpa using pS.cell 3,hc⟩ (fun hS0=>?_)
    refine tkm 0 33 so ?_
    refine tkm 1 34 (.agg #[.slice a9 3 cap]) ?_
    refine tkm 2 35 (.agg #[.slice t0a t0n t0c,.slice t1a t1n t1c,.slice t2a t2n t2c,.slice t3a t3n t3c]) ?_
    refine tkm 3 36 (.slice (some ⟨lb,lo,none⟩) n c) ?_
    refine tkm 4 37 (.int .i64 (i:Int)) ?_
    refine tkm 5 38 (.pointer (some ⟨lb,lo+i,none⟩)) ?_
    refine tkm 6 39 (.int .i64 (k:Int)) ?_
    have hb9:Below wr.heap.size wr wr.drew:=by go_grown
    replace bw:=Zb bw hb9
    replace pP:=pP.below hb9
    replace pS:=pS.below hb9
    replace hO:=hO.below hb9
    replace q:=Zf q hb9
    replace hc:=Za hb9 _ _ hc
    clear hb9
    have kVx:=kV _ bw (hO.mem fm)
    clear kV
    generalize wr.drew=V at *
    refine tkr 7 40 (fun K hK=>?_)
    go_simp
    refine kVx.mono ?_
    rintro e V1 ⟨rfl,hb⟩
    replace bw:=Zb bw hb
    replace pP:=pP.below hb
    replace pS:=pS.below hb
    replace hO:=hO.below hb
    replace q:=Zf q hb
    replace hc:=Za hb _ _ hc
    clear hb kVx
    go_wp2_with fail
    refine hK.out _ _ ⟨by simpa using pP.cell 0,by simpa using pS.cell 0,by simpa using pS.cell 1,by simpa using pS.cell 2,by simpa using pS.cell 3,hc⟩ (fun hS1=>?_)
    clear hK
    try simp only [Act.put,tka,tkb,tkc]
    refine tkr 8 41 (fun K hK=>?_)
    have hb:Below V1.heap.size V1 (V1.alloc (.cells #[.int .i64 v0,.int .i64 v1,.int .i64 v2,.int .i64 v3] 122)):=by go_grown
    have pV:Blk (V1.alloc (.cells #[.int .i64 v0,.int .i64 v1,.int .i64 v2,.int .i64 v3] 122)) V1.heap.size 122 [.int .i64 v0,.int .i64 v1,.int .i64 v2,.int .i64 v3]:=Zp _ _ _ rfl
    replace bw:=Zb bw hb
    replace pP:=pP.below hb
    replace pS:=pS.below hb
    replace hO:=hO.below hb
    replace q:=Zf q hb
    replace hc:=Za hb _ _ hc
    go_simp
    refine hK.out _ _ ⟨by simpa using pP.cell 0,by simpa using pS.cell 0,by simpa using pS.cell 1,by simpa using pS.cell 2,by simpa using pS.cell 3,hc⟩ (fun hS2=>?_)
    clear hK hb
    generalize (V1.alloc (.cells #[.int .i64 v0,.int .i64 v1,.int .i64 v2,.int .i64 v3] 122))=V2 at *
    generalize V1.heap.size=G9 at *
    try simp only [Act.put,tka,tkb,tkc]
    refine tkr 9 42 (fun K hK=>?_)
    refine Y8 rfl _ _ 76 rfl w.heap.size 122 i0 (.agg #[.int .i64 0,.int .i64 0,.int .i64 0,.int .i64 0]) 4 32 Tryz.underlying76 hi9 hz0 hz1 hz2 rfl (by decide) so es.length (Yo es) rfl q ⟨G9,0,none⟩ 1 1 [.int .i64 v0,.int .i64 v1,.int .i64 v2,.int .i64 v3] rfl rfl (GV pV) (J0 _ _ _ _) (by unfold maxLen;omega) (by omega) bw.size ?_
    intro v9 V3 q9 gr
    have hqb:∀ j,so.ownBlock=some j→w.heap.size≤j:=fun j hj=>(q.lt j hj).1
    replace pP:=pP.kept gr (Z5 q pP (by decide))
    replace pS:=pS.kept gr (Z5 q pS (by decide))
    replace hO:=ZQ.neE hO q gr (by decide)
    replace hc:=Zd gr hc (fun e9=>by have:=hqb _ e9.symm;simp only at this;omega)
    replace bw:=bw.grown gr bw.size hqb
    refine hK.out _ _ ⟨by simpa using pP.cell 0,by simpa using pS.cell 0,by simpa using pS.cell 1,by simpa using pS.cell 2,by simpa using pS.cell 3,hc⟩ (fun hS3=>?_)
    clear hK
    try simp only [Act.put,tka,tkb,tkc]
    refine tkm 10 7 v9 ?_
    refine wpAnyH_done (by kernel_rfl) ?_ _
    have R:V3.ownsRow w.heap.size 122 4 v9 (es++[(v0,v1,v2,v3)]).length (Yo (es++[(v0,v1,v2,v3)])):=by
     rw [List.length_append,Xo]
     exact q9
    clear q q9 gr pV hS0 hS1 hS2 hS3 hqb
    have q:=R
    clear R
    have hln2:(es++[(v0,v1,v2,v3)]).length=i+1:=by rw [List.length_append,hel];rfl
    have HT3:Hid ((es++[(v0,v1,v2,v3)])++YN rows z (ks.drop (i+1))=tot):=by rw [Hid,List.append_assoc];exact HT2.out
    have HL2:Hid ((es++[(v0,v1,v2,v3)]).length=i+1):=hln2
    clear HT2 hln2
    generalize es++[(v0,v1,v2,v3)]=es2 at *
    go_wp2_with fail
    refine wp_region_held_drew (S:=(fun w'=>w'.cell? ⟨w.heap.size,0,none⟩=some (.slice a9 3 cap)∧w'.cell? ⟨X,0,none⟩=some (.slice t0a t0n t0c)∧w'.cell? ⟨X,1,none⟩=some (.slice t1a t1n t1c)∧w'.cell? ⟨X,2,none⟩=some (.slice t2a t2n t2c)∧w'.cell? ⟨X,3,none⟩=some (.slice t3a t3n t3c)∧w'.cell? ⟨lb,lo+i,none⟩=some (.int .i64 (k:Int)))) (by kernel_rfl) ⟨by simpa using pP.cell 0,by simpa using pS.cell 0,by simpa using pS.cell 1,by simpa using pS.cell 2,by simpa using pS.cell 3,hc⟩ (fun hS0=>?_)
    refine tkm 0 44 (.agg #[.slice a9 3 cap]) ?_
    refine tkm 1 45 (.agg #[.slice t0a t0n t0c,.slice t1a t1n t1c,.slice t2a t2n t2c,.slice t3a t3n t3c]) ?_
    refine tkm 2 46 (.slice (some ⟨lb,lo,none⟩) n c) ?_
    refine tkm 3 47 (.int .i64 (i:Int)) ?_
    refine tkm 4 48 (.pointer (some ⟨lb,lo+i,none⟩)) ?_
    refine tkm 5 49 (.int .i64 (k:Int)) ?_
    have hb9:Below V3.heap.size V3 V3.drew:=by go_grown
    replace bw:=Zb bw hb9
    replace pP:=pP.below hb9
    replace pS:=pS.below hb9
    replace hO:=hO.below hb9
    replace q:=Zf q hb9
    replace hc:=Za hb9 _ _ hc
    clear hb9
    generalize V3.drew=Y0 at *
    refine wpAnyH_ready (rs:=[6,10]) (by kernel_rfl) (by simp) ?_
    refine AllReadyH.cons (o:=⟨some 50,_,_,_,_,_⟩) rfl (fun K hK=>?_) (AllReadyH.cons (o:=⟨some 12,_,_,_,_,_⟩) rfl (fun K hK=>?_) AllReadyH.nil)
    ·have kFx:=kT _ bw (hO.mem fm)
     go_simp
     refine kFx.mono ?_
     rintro e Y1 ⟨⟨⟨⟨z0a,z0n,z0c⟩,⟨z1a,z1n,z1c⟩,⟨z2a,z2n,z2c⟩,⟨z3a,z3n,z3c⟩⟩,rfl,hO2⟩,hb⟩
     have uz:S4.val ((z0a,z0n,z0c),(z1a,z1n,z1c),(z2a,z2n,z2c),(z3a,z3n,z3c))=.agg #[.slice z0a z0n z0c,.slice z1a z1n z1c,.slice z2a z2n z2c,.slice z3a z3n z3c]:=rfl
     rw [uz]
     replace hO2:=hO2.lowerB (B':=w.heap.size) bw.size
     replace bw:=Zb bw hb
     replace pP:=pP.below hb
     replace pS:=pS.below hb
     replace hO:=hO.below hb
     replace q:=Zf q hb
     replace hc:=Za hb _ _ hc
     clear hb kFx uz kT
     go_wp2_with fail
     refine hK.out _ _ ⟨by simpa using pP.cell 0,by simpa using pS.cell 0,by simpa using pS.cell 1,by simpa using pS.cell 2,by simpa using pS.cell 3,hc⟩ (fun hS5=>?_)
     clear hK
     try simp only [Act.put,tka,tkb,tkc]
     refine tkm 7 43 (.tuple #[.agg #[.slice z0a z0n z0c,.slice z1a z1n z1c,.slice z2a z2n z2c,.slice z3a z3n z3c],.int .i64 fd]) ?_
     refine tkm 8 51 (.agg #[.slice z0a z0n z0c,.slice z1a z1n z1c,.slice z2a z2n z2c,.slice z3a z3n z3c]) ?_
     refine tkm 9 52 (.int .i64 fd) ?_
     refine tkr 10 12 (fun K hK=>?_)
     have hb:Below Y1.heap.size Y1 (Y1.alloc (.cells #[.slice none 0 0,.slice none 0 0,.slice none 0 0,.slice none 0 0] 37)):=by go_grown
     have pX:Blk (Y1.alloc (.cells #[.slice none 0 0,.slice none 0 0,.slice none 0 0,.slice none 0 0] 37)) Y1.heap.size 37 [.slice none 0 0,.slice none 0 0,.slice none 0 0,.slice none 0 0]:=Zp _ _ _ rfl
     have hX9:w.heap.size<Y1.heap.size∧X<Y1.heap.size:=⟨pP.lt,pS.lt⟩
     replace bw:=Zb bw hb
     replace pP:=pP.below hb
     replace pS:=pS.below hb
     replace hO:=hO.below hb
     replace q:=Zf q hb
     replace hc:=Za hb _ _ hc
     replace hO2:=hO2.below hb
     go_simp
     refine hK.out _ _ ⟨by simpa using pP.cell 0,by simpa using pS.cell 0,by simpa using pS.cell 1,by simpa using pS.cell 2,by simpa using pS.cell 3,hc⟩ (fun hS6=>?_)
     clear hK hb
     generalize (Y1.alloc (.cells #[.slice none 0 0,.slice none 0 0,.slice none 0 0,.slice none 0 0] 37))=Y2 at *
     generalize Y1.heap.size=Y at *
     try simp only [Act.put,tka,tkb,tkc]
     refine tkz 11 (fun K hK=>?_)
     refine Zw rfl 37 _ _ rfl Y [.slice z0a z0n z0c,.slice z1a z1n z1c,.slice z2a z2n z2c,.slice z3a z3n z3c] rfl rfl pX (by kernel_rfl) rfl rfl ?_
     intro V8 pX8 g8
     have m0:(some Y:Option Nat)≠some w.heap.size:=by simp;omega
     have m2:(some Y:Option Nat)≠some X:=by simp;omega
     replace hO2:=hO2.kept9 g8 pX (by decide)
     replace q:=q.kept g8 (ZD q pX (by decide))
     replace pP:=pP.kept g8 m0
     replace pS:=pS.kept g8 m2
     replace bw:=bw.grown g8 bw.size (fun j hj=>by cases hj;omega)
     replace hc:=Zd g8 hc (by simp;omega)
     refine hK.out _ _ ⟨by simpa using pP.cell 0,by simpa using pS.cell 0,by simpa using pS.cell 1,by simpa using pS.cell 2,by simpa using pS.cell 3,hc⟩ (fun hS7=>?_)
     clear hK m0 m2 pX g8 hO
     have pX:=pX8.out
     clear pX8
     try simp only [Act.put,tka,tkb,tkc]
     refine tkm 12 13 (.int .i64 fd) ?_
     refine wpAnyH_done (by kernel_rfl) ?_ _
     clear hS0 hS5 hS6 hS7 hc
     go_wp2_with (first | refine Zc rfl 37 _ rfl Y rfl pX _ Tryz.underlying37 rfl (by kernel_rfl) ?_ | refine Ze rfl 37 _ _ rfl X [.slice z0a z0n z0c,.slice z1a z1n z1c,.slice z2a z2n z2c,.slice z3a z3n z3c] rfl rfl pS (by kernel_rfl) rfl rfl ?_)
     intro V9 pS9 g9
     have m0:(some X:Option Nat)≠some w.heap.size:=by simp;omega
     replace hO2:=hO2.kept9 g9 pS (by decide)
     replace q:=q.kept g9 (ZD q pS (by decide))
     replace pP:=pP.kept g9 m0
     replace bw:=bw.grown g9 bw.size (fun j hj=>by cases hj;omega)
     have st6:GN w V9 X a9 cap rows ks n (i+1) tot z fs2 es2 v9:=⟨by omega,HR2.out,hs2,⟨((z0a,z0n,z0c),(z1a,z1n,z1c),(z2a,z2n,z2c),(z3a,z3n,z3c)),pS9.out,hO2⟩,q,HT3.out,HL2.out,bw,pP,hX1⟩
     clear q pS pS9 g9 m0 pX hO2 bw pP hs2 hs fm HR2 HT3 HL2 hX9
     go_wp2
     go_roundw
     case rel=>exact ⟨i+1,_,_,_,_,rfl,by go_num,st6⟩
     case measure=>simp [intOf];omega
    have hb:Below Y0.heap.size Y0 (Y0.alloc (.cells #[.slice none 0 0,.slice none 0 0,.slice none 0 0,.slice none 0 0] 37)):=by go_grown
    have pX:Blk (Y0.alloc (.cells #[.slice none 0 0,.slice none 0 0,.slice none 0 0,.slice none 0 0] 37)) Y0.heap.size 37 [.slice none 0 0,.slice none 0 0,.slice none 0 0,.slice none 0 0]:=Zp _ _ _ rfl
    have hX9:w.heap.size<Y0.heap.size∧X<Y0.heap.size:=⟨pP.lt,pS.lt⟩
    replace bw:=Zb bw hb
    replace pP:=pP.below hb
    replace pS:=pS.below hb
    replace hO:=hO.below hb
    replace q:=Zf q hb
    replace hc:=Za hb _ _ hc
    go_simp
    refine hK.out _ _ ⟨by simpa using pP.cell 0,by simpa using pS.cell 0,by simpa using pS.cell 1,by simpa using pS.cell 2,by simpa using pS.cell 3,hc⟩ (fun hS6=>?_)
    clear hK hb
    generalize (Y0.alloc (.cells #[.slice none 0 0,.slice none 0 0,.slice none 0 0,.slice none 0 0] 37))=Y2 at *
    generalize Y0.heap.size=Y at *
    try simp only [Act.put,tka,tkb,tkc]
    refine tkr 6 50 (fun K hK=>?_)
    have kFx:=kT _ bw (hO.mem fm)
    go_simp
    refine kFx.mono ?_
    rintro e Y3 ⟨⟨⟨⟨z0a,z0n,z0c⟩,⟨z1a,z1n,z1c⟩,⟨z2a,z2n,z2c⟩,⟨z3a,z3n,z3c⟩⟩,rfl,hO2⟩,hb⟩
    have uz:S4.val ((z0a,z0n,z0c),(z1a,z1n,z1c),(z2a,z2n,z2c),(z3a,z3n,z3c))=.agg #[.slice z0a z0n z0c,.slice z1a z1n z1c,.slice z2a z2n z2c,.slice z3a z3n z3c]:=rfl
    rw [uz]
    replace hO2:=hO2.lowerB (B':=w.heap.size) bw.size
    replace bw:=Zb bw hb
    replace pP:=pP.below hb
    replace pS:=pS.below hb
    replace hO:=hO.below hb
    replace q:=Zf q hb
    replace hc:=Za hb _ _ hc
    replace pX:=pX.below hb
    clear hb kFx uz kT
    go_wp2_with fail
    refine hK.out _ _ ⟨by simpa using pP.cell 0,by simpa using pS.cell 0,by simpa using pS.cell 1,by simpa using pS.cell 2,by simpa using pS.cell 3,hc⟩ (fun hS5=>?_)
    clear hK
    try simp only [Act.put,tka,tkb,tkc]
    refine tkm 7 43 (.tuple #[.agg #[.slice z0a z0n z0c,.slice z1a z1n z1c,.slice z2a z2n z2c,.slice z3a z3n z3c],.int .i64 fd]) ?_
    refine tkm 8 51 (.agg #[.slice z0a z0n z0c,.slice z1a z1n z1c,.slice z2a z2n z2c,.slice z3a z3n z3c]) ?_
    refine tkm 9 52 (.int .i64 fd) ?_
    refine tkz 11 (fun K hK=>?_)
    refine Zw rfl 37 _ _ rfl Y [.slice z0a z0n z0c,.slice z1a z1n z1c,.slice z2a z2n z2c,.slice z3a z3n z3c] rfl rfl pX (by kernel_rfl) rfl rfl ?_
    intro V8 pX8 g8
    have m0:(some Y:Option Nat)≠some w.heap.size:=by simp;omega
    have m2:(some Y:Option Nat)≠some X:=by simp;omega
    replace hO2:=hO2.kept9 g8 pX (by decide)
    replace q:=q.kept g8 (ZD q pX (by decide))
    replace pP:=pP.kept g8 m0
    replace pS:=pS.kept g8 m2
    replace bw:=bw.grown g8 bw.size (fun j hj=>by cases hj;omega)
    replace hc:=Zd g8 hc (by simp;omega)
    refine hK.out _ _ ⟨by simpa using pP.cell 0,by simpa using pS.cell 0,by simpa using pS.cell 1,by simpa using pS.cell 2,by simpa using pS.cell 3,hc⟩ (fun hS7=>?_)
    clear hK m0 m2 pX g8 hO
    have pX:=pX8.out
    clear pX8
    try simp only [Act.put,tka,tkb,tkc]
    refine tkm 12 13 (.int .i64 fd) ?_
    refine wpAnyH_done (by kernel_rfl) ?_ _
    clear hS0 hS5 hS6 hS7 hc
    go_wp2_with (first | refine Zc rfl 37 _ rfl Y rfl pX _ Tryz.underlying37 rfl (by kernel_rfl) ?_ | refine Ze rfl 37 _ _ rfl X [.slice z0a z0n z0c,.slice z1a z1n z1c,.slice z2a z2n z2c,.slice z3a z3n z3c] rfl rfl pS (by kernel_rfl) rfl rfl ?_)
    intro V9 pS9 g9
    have m0:(some X:Option Nat)≠some w.heap.size:=by simp;omega
    replace hO2:=hO2.kept9 g9 pS (by decide)
    replace q:=q.kept g9 (ZD q pS (by decide))
    replace pP:=pP.kept g9 m0
    replace bw:=bw.grown g9 bw.size (fun j hj=>by cases hj;omega)
    have st6:GN w V9 X a9 cap rows ks n (i+1) tot z fs2 es2 v9:=⟨by omega,HR2.out,hs2,⟨((z0a,z0n,z0c),(z1a,z1n,z1c),(z2a,z2n,z2c),(z3a,z3n,z3c)),pS9.out,hO2⟩,q,HT3.out,HL2.out,bw,pP,hX1⟩
    clear q pS pS9 g9 m0 pX hO2 bw pP hs2 hs fm HR2 HT3 HL2 hX9
    go_wp2
    go_roundw
    case rel=>exact ⟨i+1,_,_,_,_,rfl,by go_num,st6⟩
    case measure=>simp [intOf];omega
   obtain rfl:i=n:=by omega
   have hte:es=tot:=by rw [← ht,List.drop_of_length_le (by omega)];simp [YN]
   have HZ:Hid (es9=es):=HE0.out.trans hte.symm
   clear hr ht hte HE0 pS hO pP
   go_wp2
   go_ret2
   rw [HZ.out]
   exact ⟨⟨_,rfl,q⟩,bw⟩
 have hne:(cd != 0)=true:=by simp [hcz]
 have HZ:Hid (es9=[]):=by rw [Hid,HE.out,if_neg hcz]
 clear HE HF0 HT0 hcz pS hO pP
 go_wp2
 go_ret2
 rw [HZ.out]
 exact ⟨⟨_,rfl,q⟩,bw⟩
end Go.Proofs.YtojcgajjnmjjpaaGreatDoor
