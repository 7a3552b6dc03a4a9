/-
  Joined: SmeI, TrfI, VmLaid, Vars.
-/
import Derived.Test.YtnffeclgboomoaaGreatDoorRows
import Derived.ProofKit
import Derived.OpenShut
import Derived.LaidMore
import Derived.MakeChecks
import Derived.Stop.LaidErr
import Derived.WalkSmall
import Derived.ChangeOld
import Derived.Test.YtnffeclgboomoaaGreatDoorT45

namespace Go.Proofs.YtnffeclgboomoaaGreatDoor
set_option maxRecDepth 100000
set_option maxHeartbeats 16000000
open Go.RowKit
set_option linter.unusedVariables false
set_option linter.unusedSimpArgs false

theorem Pt (e e':E3) (s s':Sl2) (w:World) (h:Z1 w s e) (h':Z1 w s' e') :
  Calls Tryz.prog 58 #[ZR e.1 s,ZR e'.1 s'] w fun x w'=>x=.returned (.bool (decide (e=e')))∧Below w.heap.size w w':=by
 obtain ⟨_,hB,hF,_⟩:=h
 obtain ⟨_,hB',hF',_⟩:=h'
 obtain ⟨k,eb,ez⟩:=e
 obtain ⟨k2,eb',ez'⟩:=e'
 obtain ⟨⟨a1,n1,c1⟩,⟨a2,n2,c2⟩⟩:=s
 obtain ⟨⟨b1,m1,d1⟩,⟨b2,m2,d2⟩⟩:=s'
 unfold ZR
 simp only at *
 have kB:=fun W (hb:Below w.heap.size w W)=>Hc a1 b1 n1 m1 c1 d1 eb eb' W (hB.below hb) (hB'.below hb)
 have kI:=fun W (hb:Below w.heap.size w W)=>Hd a2 b2 n2 m2 c2 d2 ez ez' W (hF.below hb) (hF'.below hb)
 clear hB hF hB' hF'
 have bw:Below w.heap.size w ((w.alloc (.cells #[.string k,.slice a1 n1 c1,.slice a2 n2 c2] 45)).alloc (.cells #[.string k2,.slice b1 m1 d1,.slice b2 m2 d2] 45)):=by go_grown
 have pX:Blk ((w.alloc (.cells #[.string k,.slice a1 n1 c1,.slice a2 n2 c2] 45)).alloc (.cells #[.string k2,.slice b1 m1 d1,.slice b2 m2 d2] 45)) w.heap.size 45 [.string k,.slice a1 n1 c1,.slice a2 n2 c2]:=Zg _ (Zi _ _ _ rfl)
 have pY:Blk ((w.alloc (.cells #[.string k,.slice a1 n1 c1,.slice a2 n2 c2] 45)).alloc (.cells #[.string k2,.slice b1 m1 d1,.slice b2 m2 d2] 45)) (w.heap.size+1) 45 [.string k2,.slice b1 m1 d1,.slice b2 m2 d2]:=Zi _ _ _ (by simp)
 obtain ⟨fin,hfin⟩:∃ fin,fin=decide ((k,eb,ez)=(k2,eb',ez')):=⟨_,rfl⟩
 rw [← hfin]
 have HF:Hid (fin=(decide (k=k2) && (decide (eb=eb') && decide (ez=ez')))):=by
  rw [Hid,hfin]
  simp only [Prod.mk.injEq,Bool.decide_and]
 clear hfin
 by_cases hk:k=k2
 ·subst hk
  have hke:(k.toList == k.toList)=true:=by simp
  rw [decide_eq_true rfl,Bool.true_and] at HF
  by_cases hb0:eb=eb'
  ·rw [decide_eq_true hb0] at HF kB
   rw [Bool.true_and] at HF
   clear hb0
   generalize decide (ez=ez')=u at *
   go_enter Tryz.func58,Tryz.ntmps58
   go_wp2_with fail
   generalize ((w.alloc (.cells #[.string k,.slice a1 n1 c1,.slice a2 n2 c2] 45)).alloc (.cells #[.string k,.slice b1 m1 d1,.slice b2 m2 d2] 45))=U at *
   refine (kB _ bw).mono ?_
   rintro x w1 ⟨rfl,hb⟩
   replace bw:=Zh bw hb
   replace pX:=pX.below hb
   replace pY:=pY.below hb
   have x2:=pX.cell 2
   have y2:=pY.cell 2
   simp only [List.getElem?_cons_zero,List.getElem?_cons_succ] at x2 y2
   clear hb
   go_wp2_with fail
   refine (kI _ bw).mono ?_
   rintro x w2 ⟨rfl,hb⟩
   replace bw:=Zh bw hb
   clear hb x2 y2 pX pY
   go_wp2
   go_ret
   exact ⟨by rw [HF.out];rfl,bw⟩
  rw [decide_eq_false hb0] at HF kB
  rw [Bool.false_and] at HF
  clear hb0 kI
  go_enter Tryz.func58,Tryz.ntmps58
  go_wp2_with fail
  refine (kB _ bw).mono ?_
  rintro x w1 ⟨rfl,hb⟩
  replace bw:=Zh bw hb
  clear hb pX pY
  go_wp2
  go_ret
  exact ⟨by rw [HF.out];rfl,bw⟩
 have hke:(k.toList == k2.toList)=false:=by
  rw [beq_eq_false_iff_ne]
  exact fun h9=>hk (WP h9)
 rw [decide_eq_false hk,Bool.false_and] at HF
 clear hk kB kI pX pY
 go_enter Tryz.func58,Tryz.ntmps58
 go_wp2
 go_ret
 exact ⟨by rw [HF.out];rfl,bw⟩


theorem Rk (w:World):Xv w none 0 0 []:=⟨rfl,Nat.le_refl _,by unfold maxLen;omega,(fun x hx=>by cases hx),.inl rfl⟩
theorem LT {w0 w:World} {C nb n:Nat} {D:DataW Value} (hb:Below w0.heap.size w0 w) (hC:Blk w C 132 [.map (some nb),.int .i64 0,.int .i64 0]) (hm:w.ownsMap Tryz.prog 9 VH nb n D) (hG:UD D []) (h1:w0.heap.size≤C) (h2:w0.heap.size≤nb):OnC w0 w C nb 0 n [] 0:=
 ⟨hb,hC,⟨D,hm,hG⟩,(fun x hx=>by cases hx),h1,h2⟩
structure G6 (rows:List (List I3)) (es:List E3) (w wr:World) (X XP:Nat) (pv:Value) (i nb n':Nat) (L:List EQ) (st:Zv):Prop where
 oc:OnC w wr X nb 0 n' L st.2
 lm:L.map (·.1)=st.1
 tq:Mu rows st
 few:st.2≤2000
 nn:n'≤st.2
 pp:Blk wr XP 25 [pv]
 al:(es.take i).all (YB rows)=true
def Mr (rows:List (List I3)) (w W:World) (X XP X7 Y12:Nat) (pv:Value) (e:E3) (s7:Sl2) (m:V4):Prop:=∃ (nb n':Nat) (L:List EQ) (st:Zv) (g:E3) (s:Sl2),OnC w W X nb 0 n' L st.2∧L.map (·.1)=st.1∧n'≤st.2∧JZ rows m g st∧Blk W XP 25 [pv]∧Blk W X7 45 (Ya e.1 s7)∧Blk W Y12 45 (Ya g.1 s)∧Z1 W s g∧st.2≤600000000
theorem Pc {rows:List (List I3)} {cap:Nat} (hp:Zj rows=true) (es:List E3) (w:World) (a9:Option Addr) (am:Option Addr) (n c:Nat) (hC:ZZ w a9 3 cap rows) (hA:Yo w am n c es) (hok:∀ e ∈ es,ZS e=true) (hV:ZL w) (hn2:n≤2000) :
  Calls Tryz.prog 61 #[.agg #[.slice a9 3 cap],.slice am n c] w fun x w'=>x=.returned (.bool (es.all (YB rows)))∧Below w.heap.size w w':=by
 obtain ⟨_,cs,hR⟩:=hC.rowsAt hp
 have hI:∀ k,k<3→Zl w (slK cs k).1 (slK cs k).2.1 (slK cs k).2.2 (Xn rows k):=fun k hk=>by
  obtain ⟨b,off,_,_,h9⟩:=hR
  exact (h9 k hk).2
 have hl:=hA.1
 obtain ⟨fin,hfin⟩:∃ fin,fin=es.all (YB rows):=⟨_,rfl⟩
 rw [← hfin]
 have HF:Hid (fin=es.all (YB rows)):=hfin
 clear hfin
 have bw:Below w.heap.size w (w.alloc (.cells #[.slice a9 3 cap] 25)):=by go_grown
 have pP:Blk (w.alloc (.cells #[.slice a9 3 cap] 25)) w.heap.size 25 [.slice a9 3 cap]:=Zi _ _ _ rfl
 go_enter Tryz.func61,Tryz.ntmps61
 go_wp2_with fail
 generalize (w.alloc (.cells #[.slice a9 3 cap] 25))=U at *
 obtain ⟨XP,hXP⟩:∃ XP,XP=w.heap.size:=⟨_,rfl⟩
 rw [← hXP] at pP ⊢
 have hXPw:w.heap.size≤XP:=by omega
 clear hXP
 have kF:=Tf none 0 0 [] U (Rk U) rfl
 refine kF.mono ?_
 rintro e w1 ⟨⟨nb,D,rfl,hm,hG,hBn⟩,hb⟩
 have hnb:=Nat.le_trans bw.size hBn
 replace bw:=Zb bw hb
 replace pP:=pP.below hb
 clear kF hb hBn
 have pN:=Blk.new w1 132 [.map none,.int .i64 0,.int .i64 0]
 have hbN:Below w1.heap.size w1 (w1.alloc (.cells #[.map none,.int .i64 0,.int .i64 0] 132)):=by go_grown
 have hmN:=hm.alloc (.cells #[.map none,.int .i64 0,.int .i64 0] 132)
 have hmlt:=hm.lt
 go_wp2_with (refine Zf rfl 132 _ _ rfl w1.heap.size [.map (some nb),.int .i64 0,.int .i64 0] rfl rfl pN (by kernel_rfl) rfl rfl ?_)
 intro w2 p2 g2
 have pX:=p2.out
 have b2:Below w1.heap.size w1 w2:=hbN.grown g2 hbN.size (fun q e=>by cases e;exact Nat.le_refl _)
 have hm2:=hmN.kept g2 (by simp;omega)
 replace pP:=pP.below b2
 have hw1:=bw.size
 replace bw:=Zb bw b2
 clear p2 g2 b2 hbN pN hm hmN
 obtain ⟨X,hX⟩:∃ X,X=w1.heap.size:=⟨_,rfl⟩
 rw [← hX] at pX ⊢
 have hXw:w.heap.size≤X:=by omega
 clear hX hmlt
 have oc0:OnC w w2 X nb 0 0 [] 0:=LT bw pX hm2 hG hXw hnb
 clear pX hm2 hG hnb hw1 bw
 go_wp2_with fail
 go_loopw [17] (fun s17 wr=>∃ (i nb n':Nat) (L:List EQ) (st:Zv),s17=.int .i64 (i:Int)∧i≤n∧G6 rows es w wr X XP (.slice a9 3 cap) i nb n' L st) (fun s17 _=>n - (intOf s17).toNat)
 case atStart=>exact ⟨0,nb,0,[],([],0),rfl,Nat.zero_le _,⟨oc0,rfl,Ml rows,by show 0≤2000;omega,Nat.le_refl _,pP,by rw [List.take_zero];rfl⟩⟩
 case round =>
  clear oc0 pP
  obtain ⟨i,nb,n',L,st,rfl,hin,⟨oc,lm,tq,few,nn,pp,al⟩⟩:=hrel
  by_cases hlt2:i<n
  ·obtain ⟨_,_,_,hcase⟩:=hA
   rcases hcase with e0 | ⟨b,off,rfl,hblt,hcell⟩
   ·omega
   obtain ⟨⟨⟨s1a,s1n,s1c⟩,⟨s2a,s2n,s2c⟩⟩,y0,y1,y2,hEe⟩:=hcell i hlt2
   have hmem:es.getD i e3d ∈ es:=by
    have h9:i<es.length:=by omega
    simp [List.getD,List.getElem?_eq_getElem h9]
   obtain ⟨h15,hsh⟩:=VU (X0 (hok _ hmem)).1
   have HYES:Hid ((ZF rows 19 (ZC (es.getD i e3d).1) ([],0)).2.2=true→YB rows (es.getD i e3d)=decide (es.getD i e3d=YU rows 18 (ZC (es.getD i e3d).1))):=fun hk=>Gl hp hsh hk
   have HNO:Hid ((ZF rows 19 (ZC (es.getD i e3d).1) ([],0)).2.2=false→YB rows (es.getD i e3d)=false):=fun hk=>G3 hk
   have HALL:Hid ((es.take (i+1)).all (YB rows)=((es.take i).all (YB rows) && YB rows (es.getD i e3d))):=Mx (by omega)
   have HFALSE:Hid (YB rows (es.getD i e3d)=false→es.all (YB rows)=false):=fun hf=>P6 (by omega) hf
   have HAL:Hid ((es.take i).all (YB rows)=true):=al
   generalize es.getD i e3d=e at *
   have HE:Hid (ZS e=true):=hok _ hmem
   obtain ⟨ek,eb,ez⟩:=e
   simp only at y0 y1 y2 hEe h15 hsh HYES HNO
   have c0:=Za oc.base _ _ y0
   have c1:=Za oc.base _ _ y1
   have c2:=Za oc.base _ _ y2
   have hlt3:(i:Int)<(n:Int):=by omega
   have hi0:(0:Int)≤(i:Int):=by omega
   have hEr:∀ e ∈ st.1,YL e:=fun e he=>GH ((Vf.1 tq.1.1).1 e he)
   have hlf:ZU rows (ZC ek)<19:=Nat.lt_succ_of_le (VW hp _)
   have hbE:Below wr.heap.size wr (wr.alloc (.cells #[.string ek,.slice s1a s1n s1c,.slice s2a s2n s2c] 45)):=by go_grown
   have p7:Blk (wr.alloc (.cells #[.string ek,.slice s1a s1n s1c,.slice s2a s2n s2c] 45)) wr.heap.size 45 [.string ek,.slice s1a s1n s1c,.slice s2a s2n s2c]:=Zi _ _ _ rfl
   clear y0 y1 y2 hcell al hmem
   go_upto_region 5 with fail
   replace oc:=oc.below hbE
   replace pp:=pp.below hbE
   clear hbE c0 c1 c2
   generalize (wr.alloc (.cells #[.string ek,.slice s1a s1n s1c,.slice s2a s2n s2c] 45))=W5 at *
   obtain ⟨X7,hX7⟩:∃ X7,X7=wr.heap.size:=⟨_,rfl⟩
   rw [← hX7] at p7 ⊢
   clear hX7
   have z0:=p7.cell 0
   simp only [List.getElem?_cons_zero] at z0
   have kV:=Ss ek W5 h15 (hV.below oc.base)
   rw [if_pos hsh,if_pos hsh] at kV
   obtain ⟨m,hm9⟩:∃ m,m=ZC ek:=⟨_,rfl⟩
   rw [← hm9] at kV hsh hlf HYES HNO
   clear hm9
   go_wp2_with fail
   refine kV.mono ?_
   rintro e W6 ⟨⟨t,rfl,hOv⟩,hb⟩
   have hVm:=hOv.mem (Xt hsh).1
   replace oc:=oc.below hb
   replace pp:=pp.below hb
   replace p7:=p7.below hb
   clear kV hOv hb z0
   obtain ⟨⟨t0a,t0n,t0c⟩,⟨t1a,t1n,t1c⟩,⟨t2a,t2n,t2c⟩,⟨t3a,t3n,t3c⟩⟩:=t
   have ut:S4.val ((t0a,t0n,t0c),(t1a,t1n,t1c),(t2a,t2n,t2c),(t3a,t3n,t3c))=.agg #[.slice t0a t0n t0c,.slice t1a t1n t1c,.slice t2a t2n t2c,.slice t3a t3n t3c]:=rfl
   simp only [ut]
   have pN:=Blk.new W6 112 [.slice none 0 0,.slice none 0 0,.slice none 0 0,.slice none 0 0]
   have hbN:Below W6.heap.size W6 (W6.alloc (.cells #[.slice none 0 0,.slice none 0 0,.slice none 0 0,.slice none 0 0] 112)):=by go_grown
   go_wp2_with (refine Zf rfl 112 _ _ rfl W6.heap.size [.slice t0a t0n t0c,.slice t1a t1n t1c,.slice t2a t2n t2c,.slice t3a t3n t3c] rfl rfl pN (by kernel_rfl) rfl rfl ?_)
   intro W7 p8 g8
   have pVm:=p8.out
   have b8:Below W6.heap.size W6 W7:=hbN.grown g8 hbN.size (fun q e=>by cases e;exact Nat.le_refl _)
   replace oc:=oc.below b8
   replace pp:=pp.below b8
   replace p7:=p7.below b8
   replace hVm:=hVm.below b8
   clear p8 g8 hbN pN b8
   generalize W6.heap.size=X8 at *
   have kM:=PK a9 3 cap rows _ m W7 (hC.below oc.base) hVm (hV.below oc.base) hp hsh
   rw [ut] at kM
   have cP:=pp.cell 0
   simp only [List.getElem?_cons_zero] at cP
   go_wp2_with (refine Zc rfl 112 _ rfl X8 rfl pVm _ Tryz.underlying112 rfl (by kernel_rfl) ?_)
   refine kM.mono ?_
   rintro e W8 ⟨⟨cs',rfl,hR'⟩,hb⟩
   obtain rfl:=(hR.below oc.base).uniq hR'
   replace oc:=oc.below hb
   replace pp:=pp.below hb
   replace p7:=p7.below hb
   clear kM hb cP pVm hVm hR' ut
   have pN:=Blk.new W8 122 [.slice none 0 0,.int .i64 0,.int .i64 0,.int .i64 0,.slice none 0 0,.int .i64 0,.int .i64 0,.int .i64 0,.slice none 0 0,.int .i64 0,.int .i64 0,.int .i64 0,.int .i64 0,.int .i64 0,.int .i64 0,.int .i64 0,.int .i64 0,.int .i64 0]
   have hbN:Below W8.heap.size W8 (W8.alloc (.cells #[.slice none 0 0,.int .i64 0,.int .i64 0,.int .i64 0,.slice none 0 0,.int .i64 0,.int .i64 0,.int .i64 0,.slice none 0 0,.int .i64 0,.int .i64 0,.int .i64 0,.int .i64 0,.int .i64 0,.int .i64 0,.int .i64 0,.int .i64 0,.int .i64 0] 122)):=by go_grown
   go_wp2_with (refine Zf rfl 122 _ _ rfl W8.heap.size (Zk cs.1.val cs.2.1.val cs.2.2.val m) rfl rfl pN (by kernel_rfl) rfl rfl ?_)
   intro W9 p9 g9
   have pM:=p9.out
   have b9:Below W8.heap.size W8 W9:=hbN.grown g9 hbN.size (fun q e=>by cases e;exact Nat.le_refl _)
   replace oc:=oc.below b9
   replace pp:=pp.below b9
   replace p7:=p7.below b9
   clear p9 g9 hbN pN b9
   generalize W8.heap.size=XM at *
   have kVis:=fun (nb:Nat)=>SL (g:=0) (w0:=w) (C:=X) (nb:=nb) (cs:=cs) hp (by omega) hV hI 19
   have k1:=kVis nb m st n' L W9 hsh hlf hEr (by rw [Kf];omega) (by omega) lm oc
   have HT1:Hid ((Z3 rows 0 19 m st).2.2≤2000→JZ rows m (Z3 rows 0 19 m st).1 (Z3 rows 0 19 m st).2):=fun hk=>Ln hp tq hsh hk
   have htop:=TU (rows:=rows) (g:=0) 19 m st
   rw [Kf] at htop
   go_wp2_with (refine Zc rfl 122 _ rfl XM rfl pM _ Tryz.underlying122 rfl (by kernel_rfl) ?_)
   refine k1.mono ?_
   rintro e W10 ⟨⟨⟨ba,bn,bc⟩,⟨za,zn,zc⟩⟩,L2,n2,rfl,hEm,hOff,hEs,oc2,lm2,nn2,old2,kp2⟩
   generalize Z3 rows 0 19 m st=Q at *
   obtain ⟨⟨gk,gb,gz⟩,st2⟩:=Q
   simp only at hEm oc2 lm2 nn2 htop HT1
   have uE:ZR gk ((ba,bn,bc),(za,zn,zc))=.agg #[.string gk,.slice ba bn bc,.slice za zn zc]:=rfl
   simp only [uE]
   clear uE
   replace pp:=kp2.blk pp (Y5 pp oc.box (by decide)) (oc.noblk pp)
   replace p7:=kp2.blk p7 (Y5 p7 oc.box (by decide)) (oc.noblk p7)
   replace pM:=kp2.blk pM (Y5 pM oc.box (by decide)) (oc.noblk pM)
   have hY7:X7<W10.heap.size:=p7.lt
   have htop9:st2.2≤600000000:=by omega
   have hnn2:n2≤st2.2:=by omega
   clear k1 oc lm tq few nn hEs old2 kp2
   have pN:=Blk.new W10 45 [.string ⟨#[]⟩,.slice none 0 0,.slice none 0 0]
   have hbN:Below W10.heap.size W10 (W10.alloc (.cells #[.string ⟨#[]⟩,.slice none 0 0,.slice none 0 0] 45)):=by go_grown
   go_wp2_with (refine Zf rfl 45 _ _ rfl W10.heap.size [.string gk,.slice ba bn bc,.slice za zn zc] rfl rfl pN (by kernel_rfl) rfl rfl ?_)
   intro W11 p11 g11
   have pG:=p11.out
   have b11:Below W10.heap.size W10 W11:=hbN.grown g11 hbN.size (fun q e=>by cases e;exact Nat.le_refl _)
   have hY12:=Nat.le_trans oc2.base.size (Nat.le_refl W10.heap.size)
   replace oc2:=oc2.below b11
   replace pp:=pp.below b11
   replace p7:=p7.below b11
   replace pM:=pM.below b11
   replace hEm:=hEm.below b11
   clear p11 g11 hbN pN b11
   obtain ⟨Y12,hYY⟩:∃ Y12,Y12=W10.heap.size:=⟨_,rfl⟩
   rw [← hYY] at pG hY12 hY7 ⊢
   clear hYY
   have kOv:=PP 0 st2.2 oc2.box (by omega)
   go_wp2_with fail
   refine kOv.mono ?_
   rintro e W12 ⟨rfl,hb⟩
   replace oc2:=oc2.below hb
   replace pp:=pp.below hb
   replace p7:=p7.below hb
   replace pM:=pM.below hb
   replace pG:=pG.below hb
   replace hEm:=hEm.below hb
   clear kOv hb
   have nI:=Z7 ⟨#[]⟩ ((none,0,0),(none,0,0))
   have hXX:X<W12.heap.size:=oc2.box.lt
   obtain ⟨ov,hov⟩:∃ ov,ov=decide (2000<0+st2.2):=⟨_,rfl⟩
   rw [← hov]
   have HOV:Hid (ov=decide (2000<0+st2.2)):=hov
   clear hov
   go_upto_if 35 with fail
   go_cut [] from 35 to 39 (fun W=>Mr rows w W X XP X7 Y12 (.slice a9 3 cap) (ek,eb,ez) ((s1a,s1n,s1c),(s2a,s2n,s2c)) m)
   case first =>
    cases ov
    ·have h9:¬ 2000<0+st2.2:=of_decide_eq_false HOV.out.symm
     have HQ:Hid (Mr rows w W12 X XP X7 Y12 (.slice a9 3 cap) (ek,eb,ez) ((s1a,s1n,s1c),(s2a,s2n,s2c)) m):=⟨nb,n2,L2,st2,(gk,gb,gz),((ba,bn,bc),(za,zn,zc)),oc2,lm2,by omega,HT1.out (by omega),pp,p7,pG,hEm,by omega⟩
     clear h9 HT1 oc2 pp p7 pM pG hEm kVis HYES HNO HALL HFALSE HAL
     go_wp2_with fail
     go_meet
     case rel=>exact HQ.out
    have kF2:=Tf none 0 0 [] W12 (Rk W12) rfl
    go_wp2_with fail
    refine kF2.mono ?_
    rintro e W13 ⟨⟨nb2,D2,rfl,hm3,hG3,hB3⟩,hb3⟩
    have b13:=Zb oc2.base hb3
    have pX3:=oc2.box.below hb3
    replace pp:=pp.below hb3
    replace p7:=p7.below hb3
    replace pM:=pM.below hb3
    replace pG:=pG.below hb3
    have hs12:=oc2.base.size
    clear kF2 hb3 oc2 hEm HT1 lm2 nn2 hnn2
    go_wp2_with (refine Zf rfl 132 _ _ rfl X [.map (some nb2),.int .i64 0,.int .i64 0] rfl rfl pX3 (by kernel_rfl) rfl rfl ?_)
    intro W14 p14 g14
    have pX4:=p14.out
    have hm4:=hm3.kept g14 (by simp;omega)
    have oc4:OnC w W14 X nb2 0 0 [] 0:=LT (b13.grown g14 b13.size (fun q e=>by cases e;exact hXw)) pX4 hm4 hG3 hXw (by omega)
    replace pp:=pp.kept g14 (fun e=>Y5 pX3 pp (by decide) (by cases e;rfl))
    replace p7:=p7.kept g14 (fun e=>Y5 pX3 p7 (by decide) (by cases e;rfl))
    replace pM:=pM.kept g14 (fun e=>Y5 pX3 pM (by decide) (by cases e;rfl))
    replace pG:=pG.kept g14 (fun e=>Y5 pX3 pG (by decide) (by cases e;rfl))
    clear p14 g14 pX3 pX4 hm3 hm4 hG3 b13
    have k2:=kVis nb2 m ([],0) 0 [] W14 hsh hlf (fun e he=>by cases he) (by show 0+VI 19≤600000000;rw [Kf];omega) (Nat.le_refl _) rfl oc4
    have HT2:Hid (JZ rows m (Z3 rows 0 19 m ([],0)).1 (Z3 rows 0 19 m ([],0)).2):=Lm hp hsh
    have htop2:=TU (rows:=rows) (g:=0) 19 m ([],0)
    rw [Kf] at htop2
    go_wp2_with (refine Zc rfl 122 _ rfl XM rfl pM _ Tryz.underlying122 rfl (by kernel_rfl) ?_)
    refine k2.mono ?_
    rintro e W15 ⟨⟨⟨da,dn,dc⟩,⟨fa,fn,fc⟩⟩,L3,n3,rfl,hEm3,hOff3,_,oc3,lm3,nn3,_,kp3⟩
    generalize Z3 rows 0 19 m ([],0)=Q3 at *
    obtain ⟨⟨hk9,hb9,hz9⟩,st3⟩:=Q3
    simp only at hEm3 oc3 lm3 nn3 htop2 HT2
    have uE:ZR hk9 ((da,dn,dc),(fa,fn,fc))=.agg #[.string hk9,.slice da dn dc,.slice fa fn fc]:=rfl
    simp only [uE]
    clear uE
    replace pp:=kp3.blk pp (Y5 pp oc4.box (by decide)) (oc4.noblk pp)
    replace p7:=kp3.blk p7 (Y5 p7 oc4.box (by decide)) (oc4.noblk p7)
    replace pG:=kp3.blk pG (Y5 pG oc4.box (by decide)) (oc4.noblk pG)
    clear k2 oc4 kp3 pM kVis
    go_wp2_with (refine Zf rfl 45 _ _ rfl Y12 [.string hk9,.slice da dn dc,.slice fa fn fc] rfl rfl pG (by kernel_rfl) rfl rfl ?_)
    intro W16 p16 g16
    have pY:=p16.out
    have nJ:=Z7 gk ((ba,bn,bc),(za,zn,zc))
    have oc6:=oc3.grow g16 (fun e=>Y5 pG oc3.box (by decide) (by cases e;rfl)) (fun e=>oc3.noblk pG (by cases e;rfl)) (fun j e=>by cases e;exact hY12) (fun x hx q hq e=>(oc3.ents x hx).1.off11 hq pG nJ (by cases e;rfl))
    have hEm6:=hEm3.same11 g16.size (fun j hj=>g16.block j (hEm3.blk11 hj).1 (fun e=>hEm3.off11 hj pG nJ (by cases e;rfl)))
    replace pp:=pp.kept g16 (fun e=>Y5 pG pp (by decide) (by cases e;rfl))
    replace p7:=p7.kept g16 (fun e=>by cases e;omega)
    have HQ:Hid (Mr rows w W16 X XP X7 Y12 (.slice a9 3 cap) (ek,eb,ez) ((s1a,s1n,s1c),(s2a,s2n,s2c)) m):=⟨nb2,n3,L3,st3,(hk9,hb9,hz9),((da,dn,dc),(fa,fn,fc)),oc6,lm3,by omega,HT2.out,pp,p7,pY,hEm6,by omega⟩
    clear p16 g16 oc3 oc6 hEm3 hEm6 pp p7 pY pG HT2 HYES HNO HALL HFALSE HAL
    go_wp2_with fail
    go_meet
    case rel=>exact HQ.out
   obtain ⟨nb3,n3,L3,st3,⟨hk9,hb9,hz9⟩,⟨⟨da,dn,dc⟩,⟨fa,fn,fc⟩⟩,oc3,lm3,nn3,HT,pp,p7,pY,hEm3,hb6⟩:=hcut
   clear HT1 oc2 pM pG hEm kVis lm2 nn2 hnn2
   have kOv:=PP 0 st3.2 oc3.box (by omega)
   go_wp2_with fail
   refine kOv.mono ?_
   rintro e W17 ⟨rfl,hb⟩
   replace oc3:=oc3.below hb
   replace pp:=pp.below hb
   replace p7:=p7.below hb
   replace pY:=pY.below hb
   replace hEm3:=hEm3.below hb
   clear kOv hb
   by_cases hov:2000<0+st3.2
   ·rw [decide_eq_true hov]
    have hff:fin=false:=HF.out.trans (HFALSE.out (HNO.out (HT.2 (by omega))))
    have bz:=oc3.base
    subst hff
    clear oc3 pp p7 pY hEm3 HYES HNO HALL HFALSE HAL HF
    go_wp2
    go_ret
    exact ⟨rfl,bz⟩
   rw [decide_eq_false hov]
   obtain ⟨hg9,htq,hkk⟩:=HT.1 (by omega)
   have z0:=p7.cell 0
   have z1:=p7.cell 1
   have z2:=p7.cell 2
   have v0:=pY.cell 0
   have v1:=pY.cell 1
   have v2:=pY.cell 2
   simp only [Ya,List.getElem?_cons_zero,List.getElem?_cons_succ] at z0 z1 z2 v0 v1 v2
   have kE:=Pt (ek,eb,ez) (hk9,hb9,hz9) ((s1a,s1n,s1c),(s2a,s2n,s2c)) ((da,dn,dc),(fa,fn,fc)) W17 (hEe.below oc3.base) hEm3
   unfold ZR at kE
   simp only at kE
   go_wp2_with fail
   refine kE.mono ?_
   rintro e W18 ⟨rfl,hb⟩
   replace oc3:=oc3.below hb
   replace pp:=pp.below hb
   clear kE hb z0 z1 z2 v0 v1 v2 p7 pY hEm3
   obtain ⟨sb,hsb⟩:∃ sb,sb=decide ((ek,eb,ez)=(hk9,hb9,hz9)):=⟨_,rfl⟩
   rw [← hsb]
   have hty:YB rows (ek,eb,ez)=sb:=by rw [HYES.out hkk,hsb,hg9]
   clear hsb hg9 hkk
   cases sb
   ·have hff:fin=false:=HF.out.trans (HFALSE.out hty)
    have bz:=oc3.base
    subst hff
    clear oc3 pp HYES HNO HALL HFALSE HAL HF hty
    go_wp2
    go_ret
    exact ⟨rfl,bz⟩
   have st9:G6 rows es w W18 X XP (.slice a9 3 cap) (i+1) nb3 n3 L3 st3:=⟨oc3,lm3,htq,by omega,nn3,pp,by rw [HALL.out,HAL.out,hty];rfl⟩
   clear oc3 pp HYES HNO HALL HFALSE HAL HT hty htq lm3
   go_wp2
   go_roundw
   case rel=>exact ⟨i+1,nb3,n3,L3,st3,by go_num,by omega,st9⟩
   case measure=>simp [intOf];omega
  obtain rfl:i=n:=by omega
  have hff:fin=true:=by rw [HF.out,← al,List.take_of_length_le (by omega)]
  have bz:=oc.base
  have hge:¬ (i:Int)<(i:Int):=by omega
  subst hff
  clear oc pp al HF tq lm
  go_wp2
  go_ret
  exact ⟨rfl,bz⟩

open Go.RowKit Go.ChangeShapes

theorem No:Tryz.prog.globalNamed "loop.example/g00632/impl.vmShape"=some 0:=by kernel_rfl
theorem Gk:(Tryz.prog.globals[0]?).map (·.type)=some 269:=by kernel_rfl

section
variable {H : Type} {enc : TypeId × Value → H} {w : World} {base : Nat} {spare : Nat → Bool} {held : Bool}
theorem Vy {fuel:Nat} {cs:List Value} {a b:Int} {p:List MemPlace} (h:DataW.trod enc Tryz.prog w base spare held fuel 268 cs=some (.agg [.lit (.int .i64 a),.lit (.int .i64 b)],p)):cs=[.int .i64 a,.int .i64 b]:=by
 obtain ⟨y0,y1,n,hx,hl,h0,h1⟩:=trod_struct2 Tryz.underlying268 h
 have hl2:cs.length=2:=hl.trans (by kernel_rfl)
 have hk:Tryz.prog.cellsOf 3=1:=by kernel_rfl
 match cs,hl2 with
 | [c0,c1],_ =>
  simp only [hk] at h0 h1
  obtain ⟨z0,e0,hy0,_⟩:=DataW.trod_int Tryz.underlying3 h0
  obtain ⟨z1,e1,hy1,_⟩:=DataW.trod_int Tryz.underlying3 h1
  simp at e0 e1
  subst hy0 hy1 e0 e1
  simp at hx
  simp [hx]
theorem N5 {fuel:Nat} {cs:List Value} {p:List MemPlace} (h:DataW.trod enc Tryz.prog w base spare held fuel 269 cs=some (Rows.laid_loop_example_g00632_impl_vmShape,p)):cs=[3,6,4,9,2,3,6,9].map (Value.int .i64):=by
 obtain ⟨xs,m,_,hx,hl,hn,hi⟩:=DataW.trod_array Tryz.underlying269 h
 have hk:Tryz.prog.cellsOf 268=2:=by kernel_rfl
 have hl8:cs.length=8:=hl.trans (by kernel_rfl)
 rw [hk] at hi
 match xs,hn with
 | [⟨x0,p0⟩,⟨x1,p1⟩,⟨x2,p2⟩,⟨x3,p3⟩],_ =>
  unfold Rows.laid_loop_example_g00632_impl_vmShape at hx
  simp at hx
  obtain ⟨⟨rfl,rfl,rfl,rfl⟩,_⟩:=hx
  match cs,hl8 with
  | [c0,c1,c2,c3,c4,c5,c6,c7],_ =>
   have g0:=Vy (hi 0 (by decide))
   have g1:=Vy (hi 1 (by decide))
   have g2:=Vy (hi 2 (by decide))
   have g3:=Vy (hi 3 (by decide))
   simp at g0 g1 g2 g3
   simp [g0,g1,g2,g3]
end

theorem VE {W:World} {p:List (String × DataW Unit)} (hp:p=[("loop.example/g00632/impl.vmShape",Rows.laid_loop_example_g00632_impl_vmShape)]) (h:laidMetH Tryz.prog p W):ZL W:=by
 subst hp
 rw [MakeChecks.laidMetH_plain _ _ _ (by kernel_rfl)] at h
 obtain ⟨ps,⟨g0,t0,cs0,f0,p0,q0,hg0,ht0,hv0,hd0,_,_⟩,_,_⟩:=h
 obtain rfl:=Option.some.inj (No.symm.trans hg0)
 obtain rfl:=Option.some.inj (Gk.symm.trans ht0)
 have hcs:=N5 hd0
 unfold World.var? at hv0
 simp only [No,Option.bind_some] at hv0
 cases hh:W.heap[0]? with
 | none=>rw [hh] at hv0;cases hv0
 | some o =>
  rw [hh] at hv0
  cases o with
  | cells cs t fr =>
   simp only [Option.some.injEq] at hv0
   subst hv0
   intro i v hi
   rw [← hcs] at hi
   simp only [World.cell?,hh]
   simpa using hi
  | _=>cases hv0


def Kg (P:Program) (ns:List String):Bool:=ns.all fun n =>
 match P.globalNamed n with
 | some g=>match (P.globals[g]?).map (·.type) with
  | some t=>P.readableRec t && decide (t<P.types.size)
  | none=>false
 | none=>false

theorem var?_lt {P:Program} {W:World} {n:String} {g:Nat} {cs:Array Value} (hg:P.globalNamed n=some g) (hv:W.var? P n=some cs):g<W.heap.size:=by
 rcases Nat.lt_or_ge g W.heap.size with h | h
 ·exact h
 unfold World.var? at hv
 simp [hg,Array.getElem?_eq_none h] at hv

theorem vars_below {H:Type} {enc:TypeId × Value→H} {P:Program} {W W':World} (hl:laidOutB P=true) (bel:Below W.heap.size W W') :
  ∀ {ns:List String} {gs:List (DataW H)} {ps:List MemPlace},Kg P ns=true→DataW.TrodVars enc P W (fun _=>true) ns gs ps→DataW.TrodVars enc P W' (fun b=>decide (b<W.heap.size)) ns gs ps
 | [],[],ps,_,h=>h
 | [],_::_,_,_,h=>by cases h
 | _::_,[],_,_,h=>by cases h
 | n::ns,d::ds,ps,hf,h=>by
  obtain ⟨g,t,cs,fuel,p,q,hg,ht,hv,hd,hr,e⟩:=h
  simp only [Kg,List.all_cons,Bool.and_eq_true] at hf
  obtain ⟨hf1,hf2⟩:=hf
  rw [hg] at hf1
  simp only [ht,Bool.and_eq_true,decide_eq_true_eq] at hf1
  obtain ⟨fuel',hd'⟩:=Below.trod hl hf1.1 hf1.2 (v:=.agg cs) (⟨fuel,by simpa [Value.cells] using hd⟩:DataW.Trod enc P W 0 (fun _=>true) true t (.agg cs) d p) bel (DataW.trod_lt fuel _ _ _ hd)
  exact ⟨g,t,cs,fuel',p,q,hg,ht,var?_below bel hg (var?_lt hg hv) hv,by simpa [Value.cells] using hd',vars_below hl bel hf2 hr,e⟩

theorem vars_len {H:Type} {enc:TypeId × Value→H} {P:Program} {W:World} {spare:Nat→Bool}:∀ {ns:List String} {gs:List (DataW H)} {ps:List MemPlace},DataW.TrodVars enc P W spare ns gs ps→gs.length=ns.length
 | [],[],_,_=>rfl
 | [],_::_,_,h=>by cases h
 | _::_,[],_,h=>by cases h
 | _::_,_::_,_,h=>by
  obtain ⟨_,_,_,_,_,_,_,_,_,_,hr,_⟩:=h
  simp [vars_len hr]
end Go.Proofs.YtnffeclgboomoaaGreatDoor
