/-
  Joined: EvE, EvF.
-/
import Derived.Test.YtifoggpohlegmaaGreatDoorC36
import Derived.Test.YtifoggpohlegmaaGreatDoorC38

namespace Go.Proofs.YtifoggpohlegmaaGreatDoor
set_option maxRecDepth 100000
set_option maxHeartbeats 16000000
open Go.RowKit
set_option linter.unusedVariables false
set_option linter.unusedSimpArgs false

theorem runS_runK (rows:List (List I3)) (ks:List Int):runS rows zeroV [] ks=((runI rows zeroV [] ks).1,mergeB (runI rows zeroV [] ks).2.1 (deadM rows (runI rows zeroV [] ks).1),(runI rows zeroV [] ks).2.2):=by
 have h0:([]:List I3)=mergeB [] (deadM rows zeroV):=by unfold deadM;rw [stuck_zero];rfl
 obtain ⟨h1,h2,h3⟩:=run_same (rows:=rows) ks zeroV [] [] h0
 rw [← h1,← h2] at *
 exact Prod.ext h1 (Prod.ext h3 rfl)
theorem OwnV.neE {w w':World} {b B e s n:Nat} {t:S4} {m:V4} {v:Value} {xs:List Value} (h:OwnV w b t m) (hv:w.ownsRow B e s v n xs) (hg:w.grownBy w' v.ownBlock) (he:3≠e):OwnV w' b t m:=
 ⟨⟨World.ownsRow.kept h.1.1 hg (owns_ne h.1.1 hv he),World.ownsRow.kept h.1.2.1 hg (owns_ne h.1.2.1 hv he),World.ownsRow.kept h.1.2.2.1 hg (owns_ne h.1.2.2.1 hv he),World.ownsRow.kept h.1.2.2.2 hg (owns_ne h.1.2.2.2 hv he)⟩,h.2⟩
def OnEs (w wr:World) (X:Nat) (a9:Option Addr) (cap:Nat) (rows:List (List I3)) (ks:List Int) (n i:Nat) (tot:List I4) (m:V4) (fs:List I3) (es:List I4) (v:Value):Prop:=
 i≤n∧(runI rows m fs (ks.drop i)).2.2=0∧shapeOk m=true∧(∃ t:S4,Blk wr X 33 (vmC t)∧OwnV wr w.heap.size t m)∧wr.ownsRow w.heap.size 38 4 v es.length (flat4 es)∧es++evsM rows m (ks.drop i)=tot∧es.length=i∧Below w.heap.size w wr∧Blk wr w.heap.size 25 [.slice a9 3 cap]∧w.heap.size<X

theorem l05Events_is {w:World} {a9:Option Addr} {cap:Nat} {cs:Sl × Sl × Sl} {rows:List (List I3)} {la:Option Addr} {n c:Nat} {ks:List Int} (hR:RowsAt w a9 cs rows) (hp:progOk rows=true) (hL:Ints .i64 w la n c ks) (hn:n≤100000) :
  Calls Tryz.prog 58 #[.agg #[.slice a9 3 cap],.slice la n c] w fun e w'=>EvGot e w' w.heap.size (if (runI rows zeroV [] ks).2.2=0 then evsM rows zeroV ks else []) (runI rows zeroV [] ks).2.2∧Below w.heap.size w w':=by
 obtain ⟨i0,hi9,hz0,hz1,hz2⟩:=info_parts info_event
 have hll:=hL.1
 have kN:=specNewVm_is
 have kR:=fun (W:World) (b:Below w.heap.size w W)=>l04Run_is (cap:=cap) (hR.below b) hp (hL.below b) hn
 rw [runS_runK] at kR
 simp only at kR
 have HF0:Hid ((runI rows zeroV [] (ks.drop 0)).2.2=(runI rows zeroV [] ks).2.2):=rfl
 have HT0:Hid ([]++evsM rows zeroV (ks.drop 0)=evsM rows zeroV ks):=rfl
 obtain ⟨cd,hcd⟩:∃ cd,cd=(runI rows zeroV [] ks).2.2:=⟨_,rfl⟩
 obtain ⟨tot,htot⟩:∃ tot,tot=evsM rows zeroV ks:=⟨_,rfl⟩
 rw [← hcd] at HF0 kR ⊢
 rw [← htot] at HT0 ⊢
 clear hcd htot
 generalize mergeB (runI rows zeroV [] ks).2.1 (deadM rows (runI rows zeroV [] ks).1)=bugs9 at *
 generalize (runI rows zeroV [] ks).1=zz at *
 obtain ⟨es9,hes⟩:∃ es9,es9=(if cd=0 then tot else []):=⟨_,rfl⟩
 rw [← hes]
 have HE:Hid (es9=(if cd=0 then tot else [])):=hes
 clear hes
 have bw:Below w.heap.size w (w.alloc (.cells #[.slice a9 3 cap] 25)):=by go_grown
 have pP:Blk (w.alloc (.cells #[.slice a9 3 cap] 25)) w.heap.size 25 [.slice a9 3 cap]:=blkAt _ _ _ rfl
 have hUw:w.heap.size+1≤(w.alloc (.cells #[.slice a9 3 cap] 25)).heap.size:=pP.lt
 go_enter Tryz.func58,Tryz.ntmps58
 go_wp2_with fail
 generalize (w.alloc (.cells #[.slice a9 3 cap] 25))=U at *
 refine (kN _).mono ?_
 rintro e w1 ⟨⟨⟨⟨t0a,t0n,t0c⟩,⟨t1a,t1n,t1c⟩,⟨t2a,t2n,t2c⟩,⟨t3a,t3n,t3c⟩⟩,rfl,hO⟩,hb⟩
 have ut:S4.val ((t0a,t0n,t0c),(t1a,t1n,t1c),(t2a,t2n,t2c),(t3a,t3n,t3c))=.agg #[.slice t0a t0n t0c,.slice t1a t1n t1c,.slice t2a t2n t2c,.slice t3a t3n t3c]:=rfl
 rw [ut]
 replace bw:=bel_trans bw hb
 replace pP:=pP.below hb
 replace hO:=hO.lowerB (B':=w.heap.size) (by omega)
 have hX1:w.heap.size<w1.heap.size:=pP.lt
 clear hb kN ut hUw
 have ha:Below w1.heap.size w1 ((w1.alloc (.cells #[.slice t0a t0n t0c,.slice t1a t1n t1c,.slice t2a t2n t2c,.slice t3a t3n t3c] 33)).alloc (.cells #[] 38)):=by go_grown
 have pS:Blk ((w1.alloc (.cells #[.slice t0a t0n t0c,.slice t1a t1n t1c,.slice t2a t2n t2c,.slice t3a t3n t3c] 33)).alloc (.cells #[] 38)) w1.heap.size 33 [.slice t0a t0n t0c,.slice t1a t1n t1c,.slice t2a t2n t2c,.slice t3a t3n t3c]:=blkOld _ (blkAt _ _ _ rfl)
 have q:((w1.alloc (.cells #[.slice t0a t0n t0c,.slice t1a t1n t1c,.slice t2a t2n t2c,.slice t3a t3n t3c] 33)).alloc (.cells #[] 38)).ownsRow w.heap.size 38 4 (.slice (some ⟨w1.heap.size+1,0,none⟩) 0 0) 0 []:=by
  have h9:=own_emptyB (w1.alloc (.cells #[.slice t0a t0n t0c,.slice t1a t1n t1c,.slice t2a t2n t2c,.slice t3a t3n t3c] 33)) 38 4 w.heap.size (by simp;omega)
  simpa using h9
 replace bw:=bel_trans bw ha
 replace hO:=hO.below ha
 replace pP:=pP.below ha
 clear ha
 go_wp2_with (first | refine wpList_load_blk rfl 25 _ rfl w.heap.size rfl pP _ Tryz.underlying25 rfl (by kernel_rfl) ?_)
 generalize (w1.alloc (.cells #[.slice t0a t0n t0c,.slice t1a t1n t1c,.slice t2a t2n t2c,.slice t3a t3n t3c] 33)).alloc (.cells #[] 38)=W2 at *
 generalize w1.heap.size+1=g0 at *
 generalize w1.heap.size=X at *
 refine (kR _ bw).mono ?_
 rintro e w3 ⟨⟨⟨⟨r0a,r0n,r0c⟩,⟨r1a,r1n,r1c⟩,⟨r2a,r2n,r2c⟩,⟨r3a,r3n,r3c⟩⟩,vr,rfl,_,_⟩,hb⟩
 have ur:S4.val ((r0a,r0n,r0c),(r1a,r1n,r1c),(r2a,r2n,r2c),(r3a,r3n,r3c))=.agg #[.slice r0a r0n r0c,.slice r1a r1n r1c,.slice r2a r2n r2c,.slice r3a r3n r3c]:=rfl
 rw [ur]
 clear ur kR
 have ha:Below w3.heap.size w3 (w3.alloc (.cells #[.slice r0a r0n r0c,.slice r1a r1n r1c,.slice r2a r2n r2c,.slice r3a r3n r3c] 33)):=by go_grown
 have hb9:=bel_trans hb ha
 replace bw:=bel_trans bw hb9
 replace hO:=hO.below hb9
 replace pP:=pP.below hb9
 replace pS:=pS.below hb9
 replace q:=owns_below q hb9
 clear hb ha hb9
 by_cases hcz:cd=0
 ·have HE0:Hid (es9=tot):=by rw [Hid,HE.out,if_pos hcz]
  have HF1:Hid ((runI rows zeroV [] (ks.drop 0)).2.2=0):=by rw [Hid,HF0.out];exact hcz
  subst hcz
  clear HE HF0
  go_wp2_with fail
  generalize w3.alloc (.cells #[.slice r0a r0n r0c,.slice r1a r1n r1c,.slice r2a r2n r2c,.slice r3a r3n r3c] 33)=W3 at *
  have st:OnEs w W3 X a9 cap rows ks n 0 tot zeroV [] [] (.slice (some ⟨g0,0,none⟩) 0 0):=⟨by omega,HF1.out,zero_shape,⟨((t0a,t0n,t0c),(t1a,t1n,t1c),(t2a,t2n,t2c),(t3a,t3n,t3c)),pS,hO⟩,q,HT0.out,rfl,bw,pP,hX1⟩
  clear HF1 HT0 pS hO q bw pP
  go_loopw [7,11] (fun so si wr=>∃ (i:Nat) (m:V4) (fs:List I3) (es:List I4) (vo:Value),vo=so∧si=.int .i64 i∧OnEs w wr X a9 cap rows ks n i tot m fs es vo) (fun _ si _=>n - (intOf si).toNat)
  case atStart=>exact ⟨0,_,_,_,_,rfl,rfl,st⟩
  case round =>
   clear st
   obtain ⟨i,m,fs,es,so,rfl,rfl,hi,hr,hs,⟨⟨⟨t0a,t0n,t0c⟩,⟨t1a,t1n,t1c⟩,⟨t2a,t2n,t2c⟩,⟨t3a,t3n,t3c⟩⟩,pS,hO⟩,q,ht,hel,bw,pP,hX1⟩:=hrel
   replace pS:Blk wr X 33 [.slice t0a t0n t0c,.slice t1a t1n t1c,.slice t2a t2n t2c,.slice t3a t3n t3c]:=pS
   by_cases hlt:i<n
   ·obtain ⟨lb,lo,rfl,hc,hlb⟩:=ints_cellE hL hlt
    replace hc:=cells_kept bw _ _ hc
    have e9:ks.drop i=ks.getD i 0::ks.drop (i+1):=by rw [List.drop_eq_getElem_cons (by omega)];simp [List.getD,show i<ks.length by omega]
    rw [e9] at hr ht
    have hlt':(i:Int)<(n:Int):=by omega
    have hi0:(0:Int)≤(i:Int):=by omega
    have fm:=(shape_fits9 hs).1
    generalize ks.getD i 0=kk at *
    clear e9
    have hz:haltM rows m kk=0:=by
     by_cases h9:haltM rows m kk=0
     ·exact h9
     ·rw [show runI rows m fs (kk::ks.drop (i+1))=(m,fs,haltM rows m kk) by show (if haltM rows m kk=0 then _ else _)=_;rw [if_neg h9]] at hr
      exact hr
    have hr2:(runI rows (goM rows m kk).1 (fs++ownM rows m kk) (ks.drop (i+1))).2.2=0:=by
     rw [show runI rows m fs (kk::ks.drop (i+1))=runI rows (goM rows m kk).1 (fs++ownM rows m kk) (ks.drop (i+1)) by show (if haltM rows m kk=0 then _ else _)=_;rw [if_pos hz]] at hr
     exact hr
    obtain ⟨h0,h2,hd,hcn⟩:=halt_can hz
    have hs2:=goM_shape hp hs hz
    obtain ⟨k,rfl⟩:∃ k:Nat,kk=k:=⟨kk.toNat,by omega⟩
    rw [Int.toNat_natCast] at hd
    have hk:k<3:=by omega
    have ht2:es++(eventM rows m k::evsM rows (goM rows m (k:Int)).1 (ks.drop (i+1)))=tot:=ht
    clear hr ht hz h0 h2 hcn
    have kV:=fun (W:World) (b:Below w.heap.size w W) (h:Vmem W ((t0a,t0n,t0c),(t1a,t1n,t1c),(t2a,t2n,t2c),(t3a,t3n,t3c)) m)=>l05Event_is (cap:=cap) (hR.below b) h hp hs hk hd
    have kT:=fun (W:World) (b:Below w.heap.size w W) (h:Vmem W ((t0a,t0n,t0c),(t1a,t1n,t1c),(t2a,t2n,t2c),(t3a,t3n,t3c)) m)=>l03Step_is (cap:=cap) rfl (hR.below b) h hp hs hk hd
    rw [← goM_nat] at kT
    have ut:S4.val ((t0a,t0n,t0c),(t1a,t1n,t1c),(t2a,t2n,t2c),(t3a,t3n,t3c))=.agg #[.slice t0a t0n t0c,.slice t1a t1n t1c,.slice t2a t2n t2c,.slice t3a t3n t3c]:=rfl
    rw [ut] at kV kT
    clear ut hd
    obtain ⟨ev,hev⟩:∃ ev,ev=eventM rows m k:=⟨_,rfl⟩
    rw [← hev] at kV ht2
    obtain ⟨v0,v1,v2,v3⟩:=ev
    simp only at kV
    clear hev
    have HT2:Hid (es++((v0,v1,v2,v3)::evsM rows (goM rows m (k:Int)).1 (ks.drop (i+1)))=tot):=ht2
    have HR2:Hid ((runI rows (goM rows m (k:Int)).1 (fs++ownM rows m (k:Int)) (ks.drop (i+1))).2.2=0):=hr2
    clear ht2 hr2
    generalize fs++ownM rows m (k:Int)=fs2 at *
    generalize (goM rows m (k:Int)).1=z at *
    generalize (goM rows m (k:Int)).2=fd at *
    go_wp2_with fail
    refine wp_region_held_drew (S:=(fun w'=>w'.cell? ⟨w.heap.size,0,none⟩=some (.slice a9 3 cap)∧w'.cell? ⟨X,0,none⟩=some (.slice t0a t0n t0c)∧w'.cell? ⟨X,1,none⟩=some (.slice t1a t1n t1c)∧w'.cell? ⟨X,2,none⟩=some (.slice t2a t2n t2c)∧w'.cell? ⟨X,3,none⟩=some (.slice t3a t3n t3c)∧w'.cell? ⟨lb,lo+i,none⟩=some (.int .i64 (k:Int)))) (by kernel_rfl) ⟨by simpa using pP.cell 0,by simpa using pS.cell 0,by simpa using pS.cell 1,by simpa using pS.cell 2,by simpa using pS.cell 3,hc⟩ (fun hS0=>?_)
    refine tkm 0 33 so ?_
    refine tkm 1 34 (.agg #[.slice a9 3 cap]) ?_
    refine tkm 2 35 (.agg #[.slice t0a t0n t0c,.slice t1a t1n t1c,.slice t2a t2n t2c,.slice t3a t3n t3c]) ?_
    refine tkm 3 36 (.slice (some ⟨lb,lo,none⟩) n c) ?_
    refine tkm 4 37 (.int .i64 (i:Int)) ?_
    refine tkm 5 38 (.pointer (some ⟨lb,lo+i,none⟩)) ?_
    refine tkm 6 39 (.int .i64 (k:Int)) ?_
    have hb9:Below wr.heap.size wr wr.drew:=by go_grown
    replace bw:=bel_trans bw hb9
    replace pP:=pP.below hb9
    replace pS:=pS.below hb9
    replace hO:=hO.below hb9
    replace q:=owns_below q hb9
    replace hc:=cells_kept hb9 _ _ hc
    clear hb9
    have kVx:=kV _ bw (hO.mem fm)
    clear kV
    generalize wr.drew=V at *
    refine tkr 7 40 (fun K hK=>?_)
    go_simp
    refine kVx.mono ?_
    rintro e V1 ⟨rfl,hb⟩
    replace bw:=bel_trans bw hb
    replace pP:=pP.below hb
    replace pS:=pS.below hb
    replace hO:=hO.below hb
    replace q:=owns_below q hb
    replace hc:=cells_kept hb _ _ hc
    clear hb kVx
    go_wp2_with fail
    refine hK.out _ _ ⟨by simpa using pP.cell 0,by simpa using pS.cell 0,by simpa using pS.cell 1,by simpa using pS.cell 2,by simpa using pS.cell 3,hc⟩ (fun hS1=>?_)
    clear hK
    try simp only [Act.put,tka,tkb,tkc]
    refine tkr 8 41 (fun K hK=>?_)
    have hb:Below V1.heap.size V1 (V1.alloc (.cells #[.int .i64 v0,.int .i64 v1,.int .i64 v2,.int .i64 v3] 38)):=by go_grown
    have pV:Blk (V1.alloc (.cells #[.int .i64 v0,.int .i64 v1,.int .i64 v2,.int .i64 v3] 38)) V1.heap.size 38 [.int .i64 v0,.int .i64 v1,.int .i64 v2,.int .i64 v3]:=blkAt _ _ _ rfl
    replace bw:=bel_trans bw hb
    replace pP:=pP.below hb
    replace pS:=pS.below hb
    replace hO:=hO.below hb
    replace q:=owns_below q hb
    replace hc:=cells_kept hb _ _ hc
    go_simp
    refine hK.out _ _ ⟨by simpa using pP.cell 0,by simpa using pS.cell 0,by simpa using pS.cell 1,by simpa using pS.cell 2,by simpa using pS.cell 3,hc⟩ (fun hS2=>?_)
    clear hK hb
    generalize (V1.alloc (.cells #[.int .i64 v0,.int .i64 v1,.int .i64 v2,.int .i64 v3] 38))=V2 at *
    generalize V1.heap.size=G9 at *
    try simp only [Act.put,tka,tkb,tkc]
    refine tkr 9 42 (fun K hK=>?_)
    refine step_append_mine rfl _ _ 29 rfl w.heap.size 38 i0 (.agg #[.int .i64 0,.int .i64 0,.int .i64 0,.int .i64 0]) 4 32 Tryz.underlying29 hi9 hz0 hz1 hz2 rfl (by decide) so es.length (flat4 es) rfl q ⟨G9,0,none⟩ 1 1 [.int .i64 v0,.int .i64 v1,.int .i64 v2,.int .i64 v3] rfl rfl (four_at pV) (four_one _ _ _ _) (by unfold maxLen;omega) (by omega) bw.size ?_
    intro v9 V3 q9 gr
    have hqb:∀ j,so.ownBlock=some j→w.heap.size≤j:=fun j hj=>(q.lt j hj).1
    replace pP:=pP.kept gr (own_ne_blk q pP (by decide))
    replace pS:=pS.kept gr (own_ne_blk q pS (by decide))
    replace hO:=OwnV.neE hO q gr (by decide)
    replace hc:=cell_grownB gr hc (fun e9=>by have:=hqb _ e9.symm;simp only at this;omega)
    replace bw:=bw.grown gr bw.size hqb
    refine hK.out _ _ ⟨by simpa using pP.cell 0,by simpa using pS.cell 0,by simpa using pS.cell 1,by simpa using pS.cell 2,by simpa using pS.cell 3,hc⟩ (fun hS3=>?_)
    clear hK
    try simp only [Act.put,tka,tkb,tkc]
    refine tkm 10 7 v9 ?_
    refine wpAnyH_done (by kernel_rfl) ?_ _
    have R:V3.ownsRow w.heap.size 38 4 v9 (es++[(v0,v1,v2,v3)]).length (flat4 (es++[(v0,v1,v2,v3)])):=by
     rw [List.length_append,flat4_snoc]
     exact q9
    clear q q9 gr pV hS0 hS1 hS2 hS3 hqb
    have q:=R
    clear R
    have hln2:(es++[(v0,v1,v2,v3)]).length=i+1:=by rw [List.length_append,hel];rfl
    have HT3:Hid ((es++[(v0,v1,v2,v3)])++evsM rows z (ks.drop (i+1))=tot):=by rw [Hid,List.append_assoc];exact HT2.out
    have HL2:Hid ((es++[(v0,v1,v2,v3)]).length=i+1):=hln2
    clear HT2 hln2
    generalize es++[(v0,v1,v2,v3)]=es2 at *
    go_wp2_with fail
    refine wp_region_held_drew (S:=(fun w'=>w'.cell? ⟨w.heap.size,0,none⟩=some (.slice a9 3 cap)∧w'.cell? ⟨X,0,none⟩=some (.slice t0a t0n t0c)∧w'.cell? ⟨X,1,none⟩=some (.slice t1a t1n t1c)∧w'.cell? ⟨X,2,none⟩=some (.slice t2a t2n t2c)∧w'.cell? ⟨X,3,none⟩=some (.slice t3a t3n t3c)∧w'.cell? ⟨lb,lo+i,none⟩=some (.int .i64 (k:Int)))) (by kernel_rfl) ⟨by simpa using pP.cell 0,by simpa using pS.cell 0,by simpa using pS.cell 1,by simpa using pS.cell 2,by simpa using pS.cell 3,hc⟩ (fun hS0=>?_)
    refine tkm 0 44 (.agg #[.slice a9 3 cap]) ?_
    refine tkm 1 45 (.agg #[.slice t0a t0n t0c,.slice t1a t1n t1c,.slice t2a t2n t2c,.slice t3a t3n t3c]) ?_
    refine tkm 2 46 (.slice (some ⟨lb,lo,none⟩) n c) ?_
    refine tkm 3 47 (.int .i64 (i:Int)) ?_
    refine tkm 4 48 (.pointer (some ⟨lb,lo+i,none⟩)) ?_
    refine tkm 5 49 (.int .i64 (k:Int)) ?_
    have hb9:Below V3.heap.size V3 V3.drew:=by go_grown
    replace bw:=bel_trans bw hb9
    replace pP:=pP.below hb9
    replace pS:=pS.below hb9
    replace hO:=hO.below hb9
    replace q:=owns_below q hb9
    replace hc:=cells_kept hb9 _ _ hc
    clear hb9
    generalize V3.drew=Y0 at *
    refine wpAnyH_ready (rs:=[6,10]) (by kernel_rfl) (by simp) ?_
    refine AllReadyH.cons (o:=⟨some 50,_,_,_,_,_⟩) rfl (fun K hK=>?_) (AllReadyH.cons (o:=⟨some 12,_,_,_,_,_⟩) rfl (fun K hK=>?_) AllReadyH.nil)
    ·have kFx:=kT _ bw (hO.mem fm)
     go_simp
     refine kFx.mono ?_
     rintro e Y1 ⟨⟨⟨⟨z0a,z0n,z0c⟩,⟨z1a,z1n,z1c⟩,⟨z2a,z2n,z2c⟩,⟨z3a,z3n,z3c⟩⟩,rfl,hO2⟩,hb⟩
     have uz:S4.val ((z0a,z0n,z0c),(z1a,z1n,z1c),(z2a,z2n,z2c),(z3a,z3n,z3c))=.agg #[.slice z0a z0n z0c,.slice z1a z1n z1c,.slice z2a z2n z2c,.slice z3a z3n z3c]:=rfl
     rw [uz]
     replace hO2:=hO2.lowerB (B':=w.heap.size) bw.size
     replace bw:=bel_trans bw hb
     replace pP:=pP.below hb
     replace pS:=pS.below hb
     replace hO:=hO.below hb
     replace q:=owns_below q hb
     replace hc:=cells_kept hb _ _ hc
     clear hb kFx uz kT
     go_wp2_with fail
     refine hK.out _ _ ⟨by simpa using pP.cell 0,by simpa using pS.cell 0,by simpa using pS.cell 1,by simpa using pS.cell 2,by simpa using pS.cell 3,hc⟩ (fun hS5=>?_)
     clear hK
     try simp only [Act.put,tka,tkb,tkc]
     refine tkm 7 43 (.tuple #[.agg #[.slice z0a z0n z0c,.slice z1a z1n z1c,.slice z2a z2n z2c,.slice z3a z3n z3c],.int .i64 fd]) ?_
     refine tkm 8 51 (.agg #[.slice z0a z0n z0c,.slice z1a z1n z1c,.slice z2a z2n z2c,.slice z3a z3n z3c]) ?_
     refine tkm 9 52 (.int .i64 fd) ?_
     refine tkr 10 12 (fun K hK=>?_)
     have hb:Below Y1.heap.size Y1 (Y1.alloc (.cells #[.slice none 0 0,.slice none 0 0,.slice none 0 0,.slice none 0 0] 33)):=by go_grown
     have pX:Blk (Y1.alloc (.cells #[.slice none 0 0,.slice none 0 0,.slice none 0 0,.slice none 0 0] 33)) Y1.heap.size 33 [.slice none 0 0,.slice none 0 0,.slice none 0 0,.slice none 0 0]:=blkAt _ _ _ rfl
     have hX9:w.heap.size<Y1.heap.size∧X<Y1.heap.size:=⟨pP.lt,pS.lt⟩
     replace bw:=bel_trans bw hb
     replace pP:=pP.below hb
     replace pS:=pS.below hb
     replace hO:=hO.below hb
     replace q:=owns_below q hb
     replace hc:=cells_kept hb _ _ hc
     replace hO2:=hO2.below hb
     go_simp
     refine hK.out _ _ ⟨by simpa using pP.cell 0,by simpa using pS.cell 0,by simpa using pS.cell 1,by simpa using pS.cell 2,by simpa using pS.cell 3,hc⟩ (fun hS6=>?_)
     clear hK hb
     generalize (Y1.alloc (.cells #[.slice none 0 0,.slice none 0 0,.slice none 0 0,.slice none 0 0] 33))=Y2 at *
     generalize Y1.heap.size=Y at *
     try simp only [Act.put,tka,tkb,tkc]
     refine tkz 11 (fun K hK=>?_)
     refine step_store_blkD rfl 33 _ _ rfl Y [.slice z0a z0n z0c,.slice z1a z1n z1c,.slice z2a z2n z2c,.slice z3a z3n z3c] rfl rfl pX (by kernel_rfl) rfl rfl ?_
     intro V8 pX8 g8
     have m0:(some Y:Option Nat)≠some w.heap.size:=by simp;omega
     have m2:(some Y:Option Nat)≠some X:=by simp;omega
     replace hO2:=hO2.kept9 g8 pX (by decide)
     replace q:=q.kept g8 (own_apart_blk q pX (by decide))
     replace pP:=pP.kept g8 m0
     replace pS:=pS.kept g8 m2
     replace bw:=bw.grown g8 bw.size (fun j hj=>by cases hj;omega)
     replace hc:=cell_grownB g8 hc (by simp;omega)
     refine hK.out _ _ ⟨by simpa using pP.cell 0,by simpa using pS.cell 0,by simpa using pS.cell 1,by simpa using pS.cell 2,by simpa using pS.cell 3,hc⟩ (fun hS7=>?_)
     clear hK m0 m2 pX g8 hO
     have pX:=pX8.out
     clear pX8
     try simp only [Act.put,tka,tkb,tkc]
     refine tkm 12 13 (.int .i64 fd) ?_
     refine wpAnyH_done (by kernel_rfl) ?_ _
     clear hS0 hS5 hS6 hS7 hc
     go_wp2_with (first | refine wpList_load_blk rfl 33 _ rfl Y rfl pX _ Tryz.underlying33 rfl (by kernel_rfl) ?_ | refine wpList_store_blk rfl 33 _ _ rfl X [.slice z0a z0n z0c,.slice z1a z1n z1c,.slice z2a z2n z2c,.slice z3a z3n z3c] rfl rfl pS (by kernel_rfl) rfl rfl ?_)
     intro V9 pS9 g9
     have m0:(some X:Option Nat)≠some w.heap.size:=by simp;omega
     replace hO2:=hO2.kept9 g9 pS (by decide)
     replace q:=q.kept g9 (own_apart_blk q pS (by decide))
     replace pP:=pP.kept g9 m0
     replace bw:=bw.grown g9 bw.size (fun j hj=>by cases hj;omega)
     have st6:OnEs w V9 X a9 cap rows ks n (i+1) tot z fs2 es2 v9:=⟨by omega,HR2.out,hs2,⟨((z0a,z0n,z0c),(z1a,z1n,z1c),(z2a,z2n,z2c),(z3a,z3n,z3c)),pS9.out,hO2⟩,q,HT3.out,HL2.out,bw,pP,hX1⟩
     clear q pS pS9 g9 m0 pX hO2 bw pP hs2 hs fm HR2 HT3 HL2 hX9
     go_wp2
     go_roundw
     case rel=>exact ⟨i+1,_,_,_,_,rfl,by go_num,st6⟩
     case measure=>simp [intOf];omega
    ·have hb:Below Y0.heap.size Y0 (Y0.alloc (.cells #[.slice none 0 0,.slice none 0 0,.slice none 0 0,.slice none 0 0] 33)):=by go_grown
     have pX:Blk (Y0.alloc (.cells #[.slice none 0 0,.slice none 0 0,.slice none 0 0,.slice none 0 0] 33)) Y0.heap.size 33 [.slice none 0 0,.slice none 0 0,.slice none 0 0,.slice none 0 0]:=blkAt _ _ _ rfl
     have hX9:w.heap.size<Y0.heap.size∧X<Y0.heap.size:=⟨pP.lt,pS.lt⟩
     replace bw:=bel_trans bw hb
     replace pP:=pP.below hb
     replace pS:=pS.below hb
     replace hO:=hO.below hb
     replace q:=owns_below q hb
     replace hc:=cells_kept hb _ _ hc
     go_simp
     refine hK.out _ _ ⟨by simpa using pP.cell 0,by simpa using pS.cell 0,by simpa using pS.cell 1,by simpa using pS.cell 2,by simpa using pS.cell 3,hc⟩ (fun hS6=>?_)
     clear hK hb
     generalize (Y0.alloc (.cells #[.slice none 0 0,.slice none 0 0,.slice none 0 0,.slice none 0 0] 33))=Y2 at *
     generalize Y0.heap.size=Y at *
     try simp only [Act.put,tka,tkb,tkc]
     refine tkr 6 50 (fun K hK=>?_)
     have kFx:=kT _ bw (hO.mem fm)
     go_simp
     refine kFx.mono ?_
     rintro e Y3 ⟨⟨⟨⟨z0a,z0n,z0c⟩,⟨z1a,z1n,z1c⟩,⟨z2a,z2n,z2c⟩,⟨z3a,z3n,z3c⟩⟩,rfl,hO2⟩,hb⟩
     have uz:S4.val ((z0a,z0n,z0c),(z1a,z1n,z1c),(z2a,z2n,z2c),(z3a,z3n,z3c))=.agg #[.slice z0a z0n z0c,.slice z1a z1n z1c,.slice z2a z2n z2c,.slice z3a z3n z3c]:=rfl
     rw [uz]
     replace hO2:=hO2.lowerB (B':=w.heap.size) bw.size
     replace bw:=bel_trans bw hb
     replace pP:=pP.below hb
     replace pS:=pS.below hb
     replace hO:=hO.below hb
     replace q:=owns_below q hb
     replace hc:=cells_kept hb _ _ hc
     replace pX:=pX.below hb
     clear hb kFx uz kT
     go_wp2_with fail
     refine hK.out _ _ ⟨by simpa using pP.cell 0,by simpa using pS.cell 0,by simpa using pS.cell 1,by simpa using pS.cell 2,by simpa using pS.cell 3,hc⟩ (fun hS5=>?_)
     clear hK
     try simp only [Act.put,tka,tkb,tkc]
     refine tkm 7 43 (.tuple #[.agg #[.slice z0a z0n z0c,.slice z1a z1n z1c,.slice z2a z2n z2c,.slice z3a z3n z3c],.int .i64 fd]) ?_
     refine tkm 8 51 (.agg #[.slice z0a z0n z0c,.slice z1a z1n z1c,.slice z2a z2n z2c,.slice z3a z3n z3c]) ?_
     refine tkm 9 52 (.int .i64 fd) ?_
     refine tkz 11 (fun K hK=>?_)
     refine step_store_blkD rfl 33 _ _ rfl Y [.slice z0a z0n z0c,.slice z1a z1n z1c,.slice z2a z2n z2c,.slice z3a z3n z3c] rfl rfl pX (by kernel_rfl) rfl rfl ?_
     intro V8 pX8 g8
     have m0:(some Y:Option Nat)≠some w.heap.size:=by simp;omega
     have m2:(some Y:Option Nat)≠some X:=by simp;omega
     replace hO2:=hO2.kept9 g8 pX (by decide)
     replace q:=q.kept g8 (own_apart_blk q pX (by decide))
     replace pP:=pP.kept g8 m0
     replace pS:=pS.kept g8 m2
     replace bw:=bw.grown g8 bw.size (fun j hj=>by cases hj;omega)
     replace hc:=cell_grownB g8 hc (by simp;omega)
     refine hK.out _ _ ⟨by simpa using pP.cell 0,by simpa using pS.cell 0,by simpa using pS.cell 1,by simpa using pS.cell 2,by simpa using pS.cell 3,hc⟩ (fun hS7=>?_)
     clear hK m0 m2 pX g8 hO
     have pX:=pX8.out
     clear pX8
     try simp only [Act.put,tka,tkb,tkc]
     refine tkm 12 13 (.int .i64 fd) ?_
     refine wpAnyH_done (by kernel_rfl) ?_ _
     clear hS0 hS5 hS6 hS7 hc
     go_wp2_with (first | refine wpList_load_blk rfl 33 _ rfl Y rfl pX _ Tryz.underlying33 rfl (by kernel_rfl) ?_ | refine wpList_store_blk rfl 33 _ _ rfl X [.slice z0a z0n z0c,.slice z1a z1n z1c,.slice z2a z2n z2c,.slice z3a z3n z3c] rfl rfl pS (by kernel_rfl) rfl rfl ?_)
     intro V9 pS9 g9
     have m0:(some X:Option Nat)≠some w.heap.size:=by simp;omega
     replace hO2:=hO2.kept9 g9 pS (by decide)
     replace q:=q.kept g9 (own_apart_blk q pS (by decide))
     replace pP:=pP.kept g9 m0
     replace bw:=bw.grown g9 bw.size (fun j hj=>by cases hj;omega)
     have st6:OnEs w V9 X a9 cap rows ks n (i+1) tot z fs2 es2 v9:=⟨by omega,HR2.out,hs2,⟨((z0a,z0n,z0c),(z1a,z1n,z1c),(z2a,z2n,z2c),(z3a,z3n,z3c)),pS9.out,hO2⟩,q,HT3.out,HL2.out,bw,pP,hX1⟩
     clear q pS pS9 g9 m0 pX hO2 bw pP hs2 hs fm HR2 HT3 HL2 hX9
     go_wp2
     go_roundw
     case rel=>exact ⟨i+1,_,_,_,_,rfl,by go_num,st6⟩
     case measure=>simp [intOf];omega
   ·obtain rfl:i=n:=by omega
    have hte:es=tot:=by rw [← ht,List.drop_of_length_le (by omega)];simp [evsM]
    have HZ:Hid (es9=es):=HE0.out.trans hte.symm
    clear hr ht hte HE0 pS hO pP
    go_wp2
    go_ret2
    rw [HZ.out]
    exact ⟨⟨_,rfl,q⟩,bw⟩
 ·have hne:(cd != 0)=true:=by simp [hcz]
  have HZ:Hid (es9=[]):=by rw [Hid,HE.out,if_neg hcz]
  clear HE HF0 HT0 hcz pS hO pP
  go_wp2
  go_ret2
  rw [HZ.out]
  exact ⟨⟨_,rfl,q⟩,bw⟩


theorem implEventsOf_is (a:Option Addr) (len cap:Nat) (rows:List (List I3)) (la:Option Addr) (n c:Nat) (ks:List Int) (w:World) (hC:Codes w a len cap rows) (hV:VmShape w) (hL:Ints .i64 w la n c ks) :
  Calls Tryz.prog 12 #[.agg #[.slice a len cap],.slice la n c] w fun e w'=>EvGot e w' w.heap.size (evE rows ks) (evK rows ks)∧Below w.heap.size w w':=by
 unfold evE evK
 rw [hL.1]
 have bw:Below w.heap.size w (w.alloc (.cells #[.slice a len cap] 25)):=by go_grown
 have pP:Blk (w.alloc (.cells #[.slice a len cap] 25)) w.heap.size 25 [.slice a len cap]:=blkAt _ _ _ rfl
 by_cases hn:4096<n
 ·have hn':(4096:Int)<(n:Int):=by omega
  simp only [if_pos hn]
  clear hC hL hn pP hV
  go_enter Tryz.func12,Tryz.ntmps12
  go_wp2
  go_ret2
  exact ⟨⟨_,rfl,World.ownsRow_nil _ _ _ _⟩,bw⟩
 simp only [if_neg hn]
 have hn':¬ (4096:Int)<(n:Int):=by omega
 cases hp:progOk rows
 ·have kN:=fun W (b:Below w.heap.size w W)=>newReplay_bad (hC.below b) (hV.below b) hp
  simp only [Bool.false_eq_true,if_false]
  clear hp hC hL hn hV
  go_enter Tryz.func12,Tryz.ntmps12
  go_wp2_with fail
  generalize (w.alloc (.cells #[.slice a len cap] 25))=U at *
  go_wp2_with (first | refine wpList_load_blk rfl 25 _ rfl w.heap.size rfl pP _ Tryz.underlying25 rfl (by kernel_rfl) ?_)
  refine (kN _ bw).mono ?_
  rintro e w1 ⟨rfl,hb⟩
  replace bw:=bel_trans bw hb
  have pN:=Blk.new w1 91 [.slice none 0 0,.int .i64 0,.int .i64 0,.int .i64 0,.slice none 0 0,.int .i64 0,.int .i64 0,.int .i64 0,.slice none 0 0,.int .i64 0,.int .i64 0,.int .i64 0,.int .i64 0,.int .i64 0,.int .i64 0,.int .i64 0,.int .i64 0,.int .i64 0,.slice none 0 0]
  have ha:Below w1.heap.size w1 (w1.alloc (.cells #[.slice none 0 0,.int .i64 0,.int .i64 0,.int .i64 0,.slice none 0 0,.int .i64 0,.int .i64 0,.int .i64 0,.slice none 0 0,.int .i64 0,.int .i64 0,.int .i64 0,.int .i64 0,.int .i64 0,.int .i64 0,.int .i64 0,.int .i64 0,.int .i64 0,.slice none 0 0] 91)):=by go_grown
  have hgw:w.heap.size≤w1.heap.size:=bw.size
  clear kN hb pP
  go_wp2_with (refine wpList_store_blk rfl 91 _ _ rfl w1.heap.size [.slice none 0 0,.int .i64 0,.int .i64 0,.int .i64 0,.slice none 0 0,.int .i64 0,.int .i64 0,.int .i64 0,.slice none 0 0,.int .i64 0,.int .i64 0,.int .i64 0,.int .i64 0,.int .i64 0,.int .i64 0,.int .i64 0,.int .i64 0,.int .i64 0,.slice none 0 0] rfl rfl pN (by kernel_rfl) rfl rfl ?_)
  intro W9 pM g1
  replace bw:=(bel_trans bw ha).grown g1 (by simp;omega) (fun x hx=>by cases hx;omega)
  clear g1 ha pN pM
  generalize w1.heap.size=g at *
  go_wp2
  go_ret2
  exact ⟨⟨_,rfl,World.ownsRow_nil _ _ _ _⟩,bw⟩
 ·simp only [if_true]
  obtain ⟨rfl,cs,hR⟩:=hC.rowsAt hp
  exact implEventsOf_ok a cap rows la n c ks w hC hV hp hL hn

theorem l05Ask_is (a:Option Addr) (len cap:Nat) (rows:List (List I3)) (la:Option Addr) (n c:Nat) (w:World) (hC:Codes w a len cap rows) (hn:¬ 4096<n) :
  Calls Tryz.prog 57 #[.agg #[.slice a len cap],.slice la n c] w fun e w'=>e=.returned (.int .i64 (if progOk rows then 0 else 1))∧Below w.heap.size w w':=by
 have bw:Below w.heap.size w (w.alloc (.cells #[.slice a len cap] 25)):=by go_grown
 have pP:Blk (w.alloc (.cells #[.slice a len cap] 25)) w.heap.size 25 [.slice a len cap]:=blkAt _ _ _ rfl
 have hn':¬ (4096:Int)<(n:Int):=by omega
 have kP:=fun W (b:Below w.heap.size w W)=>specProgramOK_is a len cap rows W (hC.below b)
 cases hp:progOk rows
 ·rw [hp] at kP
  clear hC hn hp
  go_enter Tryz.func57,Tryz.ntmps57
  go_wp2_with fail
  generalize (w.alloc (.cells #[.slice a len cap] 25))=U at *
  go_wp2_with (first | refine wpList_load_blk rfl 25 _ rfl w.heap.size rfl pP _ Tryz.underlying25 rfl (by kernel_rfl) ?_)
  refine (kP _ bw).mono ?_
  rintro e w1 ⟨rfl,hb⟩
  replace bw:=bel_trans bw hb
  clear hb kP pP
  go_wp2
  go_ret
  exact ⟨rfl,bw⟩
 ·rw [hp] at kP
  clear hC hn hp
  go_enter Tryz.func57,Tryz.ntmps57
  go_wp2_with fail
  generalize (w.alloc (.cells #[.slice a len cap] 25))=U at *
  go_wp2_with (first | refine wpList_load_blk rfl 25 _ rfl w.heap.size rfl pP _ Tryz.underlying25 rfl (by kernel_rfl) ?_)
  refine (kP _ bw).mono ?_
  rintro e w1 ⟨rfl,hb⟩
  replace bw:=bel_trans bw hb
  clear hb kP pP
  go_wp2
  go_ret
  exact ⟨rfl,bw⟩

theorem specEventsOf_is (a:Option Addr) (len cap:Nat) (rows:List (List I3)) (la:Option Addr) (n c:Nat) (ks:List Int) (w:World) (hC:Codes w a len cap rows) (hL:Ints .i64 w la n c ks) :
  Calls Tryz.prog 13 #[.agg #[.slice a len cap],.slice la n c] w fun e w'=>EvGot e w' w.heap.size (evE rows ks) (evK rows ks)∧Below w.heap.size w w':=by
 unfold evE evK
 rw [hL.1]
 have bw:Below w.heap.size w (w.alloc (.cells #[.slice a len cap] 25)):=by go_grown
 have pP:Blk (w.alloc (.cells #[.slice a len cap] 25)) w.heap.size 25 [.slice a len cap]:=blkAt _ _ _ rfl
 by_cases hn:4096<n
 ·have hn':(4096:Int)<(n:Int):=by omega
  simp only [if_pos hn]
  clear hC hL hn pP
  go_enter Tryz.func13,Tryz.ntmps13
  go_wp2
  go_ret2
  exact ⟨⟨_,rfl,by simpa [flat4] using own_emptyB (w.alloc (.cells #[.slice a len cap] 25)) 38 4 w.heap.size (by simp)⟩,bel_trans bw (by go_grown)⟩
 simp only [if_neg hn]
 have hn':¬ (4096:Int)<(n:Int):=by omega
 have kA:=fun W (b:Below w.heap.size w W)=>l05Ask_is a len cap rows la n c W (hC.below b) hn
 cases hp:progOk rows
 ·rw [hp] at kA
  simp only [Bool.false_eq_true,if_false] at kA ⊢
  clear hp hC hL hn
  go_enter Tryz.func13,Tryz.ntmps13
  go_wp2_with fail
  generalize (w.alloc (.cells #[.slice a len cap] 25))=U at *
  go_wp2_with (first | refine wpList_load_blk rfl 25 _ rfl w.heap.size rfl pP _ Tryz.underlying25 rfl (by kernel_rfl) ?_)
  refine (kA _ bw).mono ?_
  rintro e w1 ⟨rfl,hb⟩
  replace bw:=bel_trans bw hb
  have q:=own_emptyB w1 38 4 w.heap.size bw.size
  have bz:=bel_trans bw (by go_grown:Below w1.heap.size w1 (w1.alloc (.cells #[] 38)))
  clear hb kA pP bw
  go_wp2
  go_ret2
  exact ⟨⟨_,rfl,q⟩,bz⟩
 ·rw [hp] at kA
  simp only [if_true] at kA ⊢
  obtain ⟨rfl,cs,hR⟩:=hC.rowsAt hp
  have kE:=fun W (b:Below w.heap.size w W)=>l05Events_is (cap:=cap) (hR.below b) hp (hL.below b) (by omega)
  generalize (if (runI rows zeroV [] ks).2.2=0 then evsM rows zeroV ks else [])=es at *
  generalize (runI rows zeroV [] ks).2.2=cd at *
  clear hp hC hL hn hR
  go_enter Tryz.func13,Tryz.ntmps13
  go_wp2_with fail
  generalize (w.alloc (.cells #[.slice a 3 cap] 25))=U at *
  go_wp2_with (first | refine wpList_load_blk rfl 25 _ rfl w.heap.size rfl pP _ Tryz.underlying25 rfl (by kernel_rfl) ?_)
  refine (kA _ bw).mono ?_
  rintro e w1 ⟨rfl,hb⟩
  replace bw:=bel_trans bw hb
  replace pP:=pP.below hb
  clear hb kA
  go_wp2_with (first | refine wpList_load_blk rfl 25 _ rfl w.heap.size rfl pP _ Tryz.underlying25 rfl (by kernel_rfl) ?_)
  refine (kE _ bw).mono ?_
  rintro e w2 ⟨⟨v,rfl,q⟩,hb⟩
  replace q:=own_lowerB (B':=w.heap.size) q bw.size
  replace bw:=bel_trans bw hb
  clear hb kE pP
  go_wp2
  go_ret2
  exact ⟨⟨_,rfl,q⟩,bw⟩
end Go.Proofs.YtifoggpohlegmaaGreatDoor
