/-
  Joined: RecX.
-/
import Derived.Test.YtdopgkbegjfhjaaGreatDoorL41

namespace Go.Proofs.YtdopgkbegjfhjaaGreatDoor
set_option maxRecDepth 100000
set_option maxHeartbeats 16000000
open Go.RowKit
set_option linter.unusedVariables false
set_option linter.unusedSimpArgs false

theorem noT_app9 (s:ByteArray):noT++s=s:=ByteArray.empty_append
theorem appD_new9 (s:ByteArray) (h:s.size≤2000):appD noD s=((noT,s),0):=by
 unfold appD noD
 rw [if_neg (by omega),if_neg (not_not_intro (show noT.size+noT.size≤60000 by decide)),if_neg (not_not_intro (show noT.size+noT.size+s.size≤60000 by show 0+0+s.size≤60000;omega))]
 show ((noT,noT++s),(0:Int))=_
 rw [noT_app9]
theorem flushD_new9 (s:ByteArray) (h:s.size≤2000):flushD (noT,s)=((s,noT),0):=by
 unfold flushD
 rw [if_neg (not_not_intro (show noT.size+s.size≤60000 by show 0+s.size≤60000;omega))]
 show ((noT++s,noT),(0:Int))=_
 rw [noT_app9]
theorem appD_two9 (s t:ByteArray) (h:s.size≤20000) (h2:t.size≤2000):appD (s,noT) t=((s,t),0):=by
 unfold appD
 rw [if_neg (by omega),if_neg (not_not_intro (show s.size+noT.size≤60000 by show s.size+0≤60000;omega)),if_neg (not_not_intro (show s.size+noT.size+t.size≤60000 by show s.size+0+t.size≤60000;omega))]
 show ((s,noT++t),(0:Int))=_
 rw [noT_app9]
theorem flushD_two9 (s t:ByteArray) (h:s.size≤20000) (h2:t.size≤2000):flushD (s,t)=((s++t,noT),0):=by
 unfold flushD
 rw [if_neg (not_not_intro (show s.size+t.size≤60000 by omega))]
theorem crashD_two9 (s t:ByteArray) (n:Int) (h:s.size≤20000) (h2:t.size≤2000) (h0:0≤n) (h1:n≤60000):crashD (s,t) n=((s++t.extract 0 (min n (t.size:Int)).toNat,noT),0):=by
 unfold crashD
 rw [if_neg (not_not_intro (show s.size+t.size≤60000 by omega)),if_neg (not_not_intro ⟨h0,h1⟩)]

theorem log_two (ra rb:R2) (ha:RecOk ra) (hb:RecOk rb) (keep:Int) (h0:0≤keep):∃ L k,LogAt (frameOf (recT ra)++(frameOf (recT rb)).extract 0 (min keep ((frameOf (recT rb)).size:Int)).toNat) 0 L k ∧
  ((((frameOf (recT rb)).size:Int)≤keep∧L=[ra,rb]∧k=(frameOf (recT ra)).size+(frameOf (recT rb)).size)∨(keep<((frameOf (recT rb)).size:Int)∧L=[ra]∧k=(frameOf (recT ra)).size)):=by
 by_cases hk:((frameOf (recT rb)).size:Int)≤keep
 ·have e:(min keep ((frameOf (recT rb)).size:Int)).toNat=(frameOf (recT rb)).size:=by omega
  rw [e,ext_all]
  refine ⟨_,_,log_cons ra ha (rs:=[rb]) (e:=(frameOf (recT rb)).size) ?_,.inl ⟨hk,rfl,rfl⟩⟩
  have:=log_cons rb hb log_empty
  rwa [show frameOf (recT rb)++(⟨#[]⟩:ByteArray)=frameOf (recT rb) from ByteArray.append_empty] at this
 ·refine ⟨_,_,log_cons ra ha (rs:=[]) (e:=0) ?_,.inr ⟨by omega,rfl,rfl⟩⟩
  exact log_torn rb hb _ (by omega)

theorem fnLog_of (G:World→Prop) (hG:∀ a b:World,G a→Below a.heap.size a b→G b) (a0:Option Addr) (len0 cap0:Nat) (z0:List Int) (a1:Option Addr) (len1 cap1:Nat) (z1:List Int) (w:World) (h0:IsRow .u8 w a0 len0 cap0 z0) (h1:IsRow .u8 w a1 len1 cap1 z1) (g0:G w)
  (kAp:∀ (d:D2) (r:R2) (w:World),G w→d.1.size+d.2.size≤1048576→r.2.size≤1048576→Calls Tryz.prog 11 #[d.val,r.val] w fun e w'=>e=ResD (apR d r)∧Below w.heap.size w w')
  (kRt:∀ (r:R2) (w:World),G w→r.2.size≤1048576→Calls Tryz.prog 13 #[r.val] w fun e w'=>e=ResT (recC r)∧Below w.heap.size w w')
  (kRd:∀ (d:D2) (w:World),G w→d.1.size+d.2.size≤1048576→Calls Tryz.prog 16 #[d.val] w fun e w'=>ReadGot d e w' w.heap.size∧Below w.heap.size w w')
  (kRv:∀ (d:D2) (w:World),G w→d.1.size+d.2.size≤1048576→Calls Tryz.prog 17 #[d.val] w fun e w'=>RecovGot d e∧Below w.heap.size w w')
  (kRo:∀ (r:R2) (w:World),G w→r.2.size≤1048576→Calls Tryz.prog 18 #[r.val] w fun e w'=>e=.returned (.bool (recB r))∧Below w.heap.size w w') :
  Calls Tryz.prog 3 #[.slice a0 len0 cap0,.slice a1 len1 cap1] w fun e w'=>e=.returned (.bool true)∧Below w.heap.size w w':=by
 have m0:=h0.len_le
 have m1:=h1.len_le
 unfold maxLen at m0 m1
 by_cases hb0:1048576<len0
 ·go_enter Tryz.func3,Tryz.ntmps3
  go_wp2
  go_ret
  exact ⟨rfl,Below.refl _ _⟩
 by_cases hb1:1048576<len1
 ·go_enter Tryz.func3,Tryz.ntmps3
  go_wp2
  go_ret
  exact ⟨rfl,Below.refl _ _⟩
 have l0:len0≤1048576:=by omega
 have l1:len1≤1048576:=by omega
 clear hb0 hb1 m0 m1
 go_enter Tryz.func3,Tryz.ntmps3
 go_wp2_with fail
 refine (recordDrawn_any _ _ _ z0 _ h0 l0).mono ?_
 rintro e w1 ⟨⟨⟨ka,ta⟩,ha,rfl⟩,b1⟩
 have B1:=b1
 have H1:Hid (IsRow .u8 w a1 len1 cap1 z1):=h1
 clear h0 h1 b1
 unfold R2.val
 have pA:=Blk.new w1 24 [.int .i64 ka,.string ta]
 have b1:=bel_new w1 (.cells #[.int .i64 ka,.string ta] 24)
 replace B1:=belD B1 b1
 clear b1
 go_wp2_with fail
 generalize w1.heap.size=gA at *
 generalize w1.alloc (.cells #[.int .i64 ka,.string ta] 24)=WA at *
 refine (recordDrawn_any _ _ _ z1 _ (H1.out.below B1) l1).mono ?_
 rintro e w2 ⟨⟨⟨kb,tb⟩,hb,rfl⟩,b1⟩
 replace B1:=belD B1 b1
 replace pA:=pA.below b1
 clear b1
 unfold R2.val
 have pB:=Blk.new w2 24 [.int .i64 kb,.string tb]
 have b1:=bel_new w2 (.cells #[.int .i64 kb,.string tb] 24)
 replace B1:=belD B1 b1
 replace pA:=pA.below b1
 clear b1
 have hza:=ha.1
 have hzb:=hb.1
 have fa:=frame9_small ha
 have fb:=frame9_small hb
 simp only at hza hzb
 have HLog:Hid (∀ keep:Int,0≤keep→∃ L k,LogAt (frameOf (recT (ka,ta))++(frameOf (recT (kb,tb))).extract 0 (min keep ((frameOf (recT (kb,tb))).size:Int)).toNat) 0 L k ∧
  ((((frameOf (recT (kb,tb))).size:Int)≤keep∧L=[(ka,ta),(kb,tb)]∧k=(frameOf (recT (ka,ta))).size+(frameOf (recT (kb,tb))).size)∨(keep<((frameOf (recT (kb,tb))).size:Int)∧L=[(ka,ta)]∧k=(frameOf (recT (ka,ta))).size))):=log_two (ka,ta) (kb,tb) ha hb
 have k1:=fun W g=>kAp noD (ka,ta) W g (by decide) (show ta.size≤1048576 by omega)
 have k3:=fun W g=>kAp (frameOf (recT (ka,ta)),noT) (kb,tb) W g (by show (frameOf (recT (ka,ta))).size+0≤_;omega) (show tb.size≤1048576 by omega)
 have k4:=fun W g=>kRt (kb,tb) W g (show tb.size≤1048576 by omega)
 have k9:=fun W g=>kRo (ka,ta) W g (show ta.size≤1048576 by omega)
 rw [apR_yes (show noD.1.size+noD.2.size≤60000 by decide) ha,appD_new9 _ (by omega)] at k1
 rw [apR_yes (show (frameOf (recT (ka,ta))).size+noT.size≤60000 by show _+0≤_;omega) hb,appD_two9 _ _ (by omega) (by omega)] at k3
 rw [recC_yes hb] at k4
 rw [recB_yes ha] at k9
 clear kAp kRt kRo ha hb
 generalize frameOf (recT (ka,ta))=Fa at *
 generalize frameOf (recT (kb,tb))=Fb at *
 have k2:=implFlushDisk_is noT Fa
 rw [flushD_new9 Fa (by omega)] at k2
 have k5:=fun keep h h2=>by
  have:=implCrashDisk_is Fa Fb keep
  rw [crashD_two9 Fa Fb keep (by omega) (by omega) h h2] at this
  exact this
 unfold ResD D2.val at k1 k2 k3 k5
 unfold R2.val at k1 k3 k4 k9
 unfold ResT at k4
 unfold noD at k1
 simp only at k1 k2 k3 k4 k5 k9
 obtain ⟨c0,c1⟩:_∧_:=⟨pA.cell 0,pA.cell 1⟩
 simp only [List.getElem?_cons_zero,List.getElem?_cons_succ] at c0 c1
 go_wp2_with fail
 clear c0 c1
 generalize w2.heap.size=gB at *
 generalize w2.alloc (.cells #[.int .i64 kb,.string tb] 24)=WB at *
 refine (k1 _ (hG _ _ g0 B1)).mono ?_
 rintro e w3 ⟨rfl,b1⟩
 replace B1:=belD B1 b1
 replace pA:=pA.below b1
 replace pB:=pB.below b1
 clear b1
 have hg:=B1.size
 have pD:=Blk.new w3 27 [.string noT,.string Fa]
 have b1:=bel_new w3 (.cells #[.string noT,.string Fa] 27)
 replace B1:=belD B1 b1
 replace pA:=pA.below b1
 replace pB:=pB.below b1
 clear b1
 obtain ⟨c0,c1⟩:_∧_:=⟨pD.cell 0,pD.cell 1⟩
 simp only [List.getElem?_cons_zero,List.getElem?_cons_succ] at c0 c1
 go_wp2_with fail
 clear c0 c1 k1
 generalize w3.heap.size=gD at *
 generalize w3.alloc (.cells #[.string noT,.string Fa] 27)=WD at *
 refine (k2 _ (by show 0+Fa.size≤_;omega)).mono ?_
 rintro e w4 ⟨rfl,b1⟩
 replace B1:=belD B1 b1
 replace pA:=pA.below b1
 replace pB:=pB.below b1
 replace pD:=pD.below b1
 clear b1
 have f0:=pD.frozen 0
 have f1:=pD.frozen 1
 have hAD:gA≠gD:=by have:=pA;intro e9;subst e9;exact absurd (pA.symm.trans pD) (by simp)
 have hBD:gB≠gD:=by have:=pB;intro e9;subst e9;exact absurd (pB.symm.trans pD) (by simp)
 have pE:=(pD.set 0 (.string Fa)).set 1 (.string noT)
 have pA2:=(pA.off ⟨gD,0,none⟩ (.string Fa) hAD).off ⟨gD,1,none⟩ (.string noT) hAD
 have pB2:=(pB.off ⟨gD,0,none⟩ (.string Fa) hBD).off ⟨gD,1,none⟩ (.string noT) hBD
 have bs:Below w.heap.size w ((w4.setCell ⟨gD,0,none⟩ (.string Fa)).setCell ⟨gD,1,none⟩ (.string noT)):=(B1.setCell hg _).setCell hg _
 simp only [List.set_cons_zero,List.set_cons_succ] at pE
 obtain ⟨q0,q1⟩:_∧_:=⟨pD.cell 0,pD.cell 1⟩
 obtain ⟨c0,c1⟩:_∧_:=⟨pE.cell 0,pE.cell 1⟩
 obtain ⟨e0,e1⟩:_∧_:=⟨pB2.cell 0,pB2.cell 1⟩
 simp only [List.getElem?_cons_zero,List.getElem?_cons_succ] at c0 c1 q0 q1 e0 e1
 go_wp2_with fail
 clear f0 f1 q0 q1 c0 c1 e0 e1 pA pB pD k2
 clear B1
 have B1:=bs
 clear bs hg
 have pA:=pA2
 have pB:=pB2
 have pD:=pE
 clear pA2 pB2 pE
 generalize (w4.setCell ⟨gD,0,none⟩ (.string Fa)).setCell ⟨gD,1,none⟩ (.string noT)=W4 at *
 refine (k3 _ (hG _ _ g0 B1)).mono ?_
 rintro e w5 ⟨rfl,b1⟩
 replace B1:=belD B1 b1
 replace pA:=pA.below b1
 replace pB:=pB.below b1
 replace pD:=pD.below b1
 clear b1
 have pX:=Blk.new w5 27 [.string Fa,.string Fb]
 have b1:=bel_new w5 (.cells #[.string Fa,.string Fb] 27)
 replace B1:=belD B1 b1
 replace pA:=pA.below b1
 replace pB:=pB.below b1
 replace pD:=pD.below b1
 clear b1
 obtain ⟨c0,c1⟩:_∧_:=⟨pB.cell 0,pB.cell 1⟩
 simp only [List.getElem?_cons_zero,List.getElem?_cons_succ] at c0 c1
 go_wp2_with fail
 clear c0 c1 k3
 generalize w5.heap.size=gX at *
 generalize w5.alloc (.cells #[.string Fa,.string Fb] 27)=WX at *
 refine (k4 _ (hG _ _ g0 B1)).mono ?_
 rintro e w6 ⟨rfl,b1⟩
 replace B1:=belD B1 b1
 replace pA:=pA.below b1
 replace pB:=pB.below b1
 replace pD:=pD.below b1
 replace pX:=pX.below b1
 clear b1
 have qs:IntKind.i64.wrap ((Fb.size:Int)+3)=(Fb.size:Int)+3:=IntWalk.i64_in _ ⟨by omega,by omega⟩
 go_wp2_with fail
 refine (at_any _ _ _ z1 0 ((Fb.size:Int)+3) _ (H1.out.below B1) l1 (by omega) (by omega) (by omega)).mono ?_
 rintro e w7 ⟨⟨c3,hc3,rfl⟩,d3,rfl⟩
 have b1:Below w6.heap.size w6 (w6.drewN d3):=below_drewN (Below.refl _ _) d3
 have hkeep:(c3:Int)≤2000:=by omega
 have hkeep0:0≤(c3:Int):=by omega
 clear hc3 qs k4
 replace B1:=belD B1 b1
 replace pA:=pA.below b1
 replace pB:=pB.below b1
 replace pD:=pD.below b1
 replace pX:=pX.below b1
 clear b1
 generalize w6.drewN d3=W7 at *
 obtain ⟨L,kk,hL,hLk⟩:=HLog.out (c3:Int) hkeep0
 have HLk:Hid (((Fb.size:Int)≤(c3:Int)∧L=[(ka,ta),(kb,tb)]∧kk=Fa.size+Fb.size)∨((c3:Int)<(Fb.size:Int)∧L=[(ka,ta)]∧kk=Fa.size)):=hLk
 have hmx:(Fb.extract 0 (min (c3:Int) (Fb.size:Int)).toNat).size≤1007:=by rw [ByteArray.size_extract];omega
 have k5':=fun W=>k5 (c3:Int) hkeep0 (by omega) W (by omega)
 clear k5 HLog hLk
 generalize (c3:Int)=keep at *
 generalize hY:Fa++Fb.extract 0 (min keep (Fb.size:Int)).toNat=Y at *
 have hYs:Y.size≤2014:=by rw [← hY,ByteArray.size_append];omega
 clear hY hmx
 have HRd:Hid (ReadIs (Y,noT) L kk 0):=.inr ⟨by show Y.size+0≤_;omega,hL,rfl⟩
 have HRv:Hid (RecovIs (Y,noT) ((Y.extract 0 kk,noT),0)):=.inr ⟨by show Y.size+0≤_;omega,rfl,L,kk,hL,rfl⟩
 have hkk:=hL.le.2
 have k6:=fun W g=>kRd (Y,noT) W g (by show Y.size+0≤_;omega)
 have k7:=fun W g=>kRv (Y,noT) W g (by show Y.size+0≤_;omega)
 unfold D2.val at k6 k7
 simp only at k6 k7
 clear kRd kRv hL
 obtain ⟨c0,c1⟩:_∧_:=⟨pX.cell 0,pX.cell 1⟩
 simp only [List.getElem?_cons_zero,List.getElem?_cons_succ] at c0 c1
 go_wp2_with fail
 clear c0 c1
 refine (k5' _).mono ?_
 rintro e w8 ⟨rfl,b1⟩
 replace B1:=belD B1 b1
 replace pA:=pA.below b1
 replace pB:=pB.below b1
 replace pD:=pD.below b1
 replace pX:=pX.below b1
 clear b1
 have pY:=Blk.new w8 27 [.string Y,.string noT]
 have b1:=bel_new w8 (.cells #[.string Y,.string noT] 27)
 replace B1:=belD B1 b1
 replace pA:=pA.below b1
 replace pB:=pB.below b1
 replace pD:=pD.below b1
 replace pX:=pX.below b1
 clear b1
 obtain ⟨c0,c1⟩:_∧_:=⟨pY.cell 0,pY.cell 1⟩
 simp only [List.getElem?_cons_zero,List.getElem?_cons_succ] at c0 c1
 go_wp2_with fail
 clear c0 c1 k5'
 generalize w8.heap.size=gY at *
 generalize w8.alloc (.cells #[.string Y,.string noT] 27)=WY at *
 have hlo:=B1.size
 refine (k6 _ (hG _ _ g0 B1)).mono ?_
 rintro e w9 ⟨⟨v,L',k',c',HR,rfl,oL⟩,b1⟩
 obtain ⟨rfl,rfl,rfl⟩:=HRd.out.only HR
 clear HR HRd k6
 replace B1:=belD B1 b1
 replace pA:=pA.below b1
 replace pB:=pB.below b1
 replace pD:=pD.below b1
 replace pX:=pX.below b1
 replace pY:=pY.below b1
 clear b1
 obtain ⟨c0,c1⟩:_∧_:=⟨pY.cell 0,pY.cell 1⟩
 simp only [List.getElem?_cons_zero,List.getElem?_cons_succ] at c0 c1
 go_wp2_with fail
 clear c0 c1
 refine (k7 _ (hG _ _ g0 B1)).mono ?_
 rintro e w10 ⟨⟨R,HR,rfl⟩,b1⟩
 obtain rfl:=HRv.out.only HR
 clear HR HRv k7
 replace B1:=belD B1 b1
 replace pA:=pA.below b1
 replace pB:=pB.below b1
 replace pD:=pD.below b1
 replace pX:=pX.below b1
 replace pY:=pY.below b1
 replace oL:=owns_below oL b1
 clear b1
 unfold ResD D2.val
 simp only
 have pZ:=Blk.new w10 27 [.string (Y.extract 0 kk),.string noT]
 have b1:=bel_new w10 (.cells #[.string (Y.extract 0 kk),.string noT] 27)
 replace B1:=belD B1 b1
 replace pA:=pA.below b1
 replace pB:=pB.below b1
 replace pD:=pD.below b1
 replace pX:=pX.below b1
 replace pY:=pY.below b1
 replace oL:=owns_below oL b1
 clear b1
 obtain ⟨A0,A1⟩:_∧_:=⟨pA.cell 0,pA.cell 1⟩
 have X1:=pX.cell 1
 have Y0:=pY.cell 0
 have Z0:=pZ.cell 0
 simp only [List.getElem?_cons_zero,List.getElem?_cons_succ] at A0 A1 X1 Y0 Z0
 go_wp2_with fail
 generalize w10.heap.size=gZ at *
 generalize w10.alloc (.cells #[.string (Y.extract 0 kk),.string noT] 27)=W10 at *
 have gW:G W10.drew:=hG _ _ g0 (drewD B1)
 have HB:Hid (Below w.heap.size w W10):=B1
 have HA:Hid (Blk W10 gA 24 [.int .i64 ka,.string ta]):=pA
 have HBB:Hid (Blk W10 gB 24 [.int .i64 kb,.string tb]):=pB
 have HO:Hid (OwnR W10 WY.heap.size v L):=oL
 have hk0:(0:Int)≤(kk:Int):=by omega
 have hk1:(kk:Int)≤(Y.size:Int):=by omega
 have hd0:decide ((kk:Int)<0)=false:=decide_eq_false (by omega)
 have hd1:decide ((Y.size:Int)<(kk:Int))=false:=decide_eq_false (by omega)
 have hd2:decide (Y.size<kk)=false:=decide_eq_false (by omega)
 have hxz:((Y.extract 0 kk).toList != (Y.extract 0 kk).toList)=false:=by simp
 have hxb:(Fb.toList != Fb.toList)=false:=by simp
 clear B1 pA pB pD pX pY pZ oL H1 hlo
 try simp only [List.append]
 go_region_held3 (fun w'=>w'.cell? ⟨gA,0,none⟩=some (.int .i64 ka)∧w'.cell? ⟨gA,1,none⟩=some (.string ta)∧w'.cell? ⟨gX,1,none⟩=some (.string Fb)∧w'.cell? ⟨gY,0,none⟩=some (.string Y)∧w'.cell? ⟨gZ,0,none⟩=some (.string (Y.extract 0 kk)))
  (first | (exact ⟨A0,A1,X1,Y0,Z0⟩) | (refine ⟨?_,?_,?_,?_,?_⟩<;>(apply cellsD2 (by assumption);assumption)) | go_keep)
  (first | (go_at_call 18;refine (k9 _ gW).mono ?_;rintro e w11 ⟨rfl,b11⟩))
 have bw:=belD (drewD HB.out) b11
 have pA:Blk w11 gA 24 [.int .i64 ka,.string ta]:=Blk.below (show Blk W10.drew gA 24 [.int .i64 ka,.string ta] from HA.out) b11
 have pB:Blk w11 gB 24 [.int .i64 kb,.string tb]:=Blk.below (show Blk W10.drew gB 24 [.int .i64 kb,.string tb] from HBB.out) b11
 have oL:OwnR w11 WY.heap.size v L:=owns_below (show OwnR W10.drew WY.heap.size v L from HO.out) b11
 clear HB HA HBB HO A0 A1 X1 Y0 Z0 b11 k9 gW hxz hxb
 obtain ⟨A0,A1⟩:_∧_:=⟨pA.cell 0,pA.cell 1⟩
 obtain ⟨B0,B1⟩:_∧_:=⟨pB.cell 0,pB.cell 1⟩
 simp only [List.getElem?_cons_zero,List.getElem?_cons_succ] at A0 A1 B0 B1
 unfold OwnR at oL
 rcases HLk.out with ⟨hge,rfl,rfl⟩ | ⟨hlt,rfl,rfl⟩
 ·have hge2:(Fb.size:Int)≤keep:=hge
  rcases id oL.2 with ⟨_,h9⟩ | ⟨g,c9,cur,rfl,_⟩
  ·cases h9
  have L0:=oL.cellAt 0 (by simp)
  have L1:=oL.cellAt 1 (by simp)
  have L2:=oL.cellAt 2 (by simp)
  have L3:=oL.cellAt 3 (by simp)
  simp only [flatR,List.getElem?_cons_zero,List.getElem?_cons_succ] at L0 L1 L2 L3
  have qs:IntKind.i64.wrap ((Fa.size:Int)+(Fb.size:Int))=(Fa.size:Int)+(Fb.size:Int):=IntWalk.i64_in _ ⟨by omega,by omega⟩
  clear HLk oL pA pB
  go_wp2_with fail

  go_quiet (fail)
  go_wp2
  go_ret
  exact ⟨rfl,below_drewN bw _⟩
 ·have hlt2:keep<(Fb.size:Int):=hlt
  rcases id oL.2 with ⟨_,h9⟩ | ⟨g,c9,cur,rfl,_⟩
  ·cases h9
  have L0:=oL.cellAt 0 (by simp)
  have L1:=oL.cellAt 1 (by simp)
  simp only [flatR,List.getElem?_cons_zero,List.getElem?_cons_succ] at L0 L1
  clear HLk oL pA pB
  go_wp2_with fail
  go_quiet (fail)
  go_wp2
  go_ret
  exact ⟨rfl,below_drewN bw _⟩
end Go.Proofs.YtdopgkbegjfhjaaGreatDoor
