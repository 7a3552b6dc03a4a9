/-
  Joined: VstI, MemC, Vj3P, TrfP, TrfI.
-/
import Derived.Defers
import Derived.Test.YtgmhhegckcionaaGreatDoorF43
import Derived.Test.YtgmhhegckcionaaGreatDoorF46

namespace Go.Proofs.YtgmhhegckcionaaGreatDoor
set_option maxRecDepth 100000
set_option maxHeartbeats 16000000
open Go.RowKit
set_option linter.unusedVariables false
set_option linter.unusedSimpArgs false

theorem Sf (w:World):(zeroValue 45).run Tryz.prog w=.ok (.agg #[.string ⟨#[]⟩,.slice none 0 0,.slice none 0 0]) w:=by kernel_rfl
def Cw (Q:Exit→Act→World→Prop) (e:Exit) (a:Act) (w:World):Prop:=match e with
 | .normal=>Q .normal a w
 | _=>False
theorem FT {Q:Exit→Act→World→Prop}:∀ e a w,Cw Q e a w→Q e a w:=by
 intro e a w h
 cases e<;>first | exact h | exact h.elim
theorem Lh {Q:Exit→Act→World→Prop} {a:Act} {w:World} (h:Q .normal a w):Cw Q .normal a w:=h
theorem No {P:Program} {fn:Func} {R:Ending→World→Prop} {a:Act} {w:World} {v:Value} (hd:a.defers=[]) (hr:(results fn a.tmps).run P w=.ok v w) (hR:R (.returned v) w):bodyPostD P fn R .ret a w:=by
 show Leaves P fn a.tmps R a.defers .returning w
 rw [hd]
 exact ⟨v,hr,hR⟩
def LU (V W:World) (cells:List Value) (b:Bool) (s6 s7:Value):Prop:=∃ Q,s6=.pointer (some ⟨Q,0,none⟩)∧s7=.bool b∧Blk W Q 45 cells∧Below V.heap.size V W∧V.heap.size≤Q
theorem Pj {rows:List (List I3)} {g f:Nat} {m:V4} {st:Zy} (h:isE st.1 (Zt m)=true):Z7 rows g (f+1) m st=(Vz st.1 (Zt m),st):=by unfold Z7;rw [if_pos h]
theorem Nz {rows:List (List I3)} {g f:Nat} {m:V4} {st:Zy} (h:isE st.1 (Zt m)=false) (h2:2000<g+(st.2+1)):Z7 rows g (f+1) m st=(e3d,(st.1,st.2+1)):=by unfold Z7;rw [h,if_neg (by simp),if_pos h2]
theorem Ny {rows:List (List I3)} {g f:Nat} {m:V4} {st:Zy} (h:isE st.1 (Zt m)=false) (h2:¬ 2000<g+(st.2+1)):Z7 rows g (f+1) m st=(Ub m (Z5 rows g f m (st.1,st.2+1) 3),(XE (Z5 rows g f m (st.1,st.2+1) 3).2.1 (Ub m (Z5 rows g f m (st.1,st.2+1) 3)),(Z5 rows g f m (st.1,st.2+1) 3).2.2)):=by
 unfold Z7
 rw [h,if_neg (by simp),if_neg h2,Rx (YM rows m 3)]
theorem DU {D:DataW Value} {L:List EQ} (hG:UR D L) (key:ByteArray) (z:Value):∃ (k9:ByteArray) (s:Sl2),(isE (L.map (·.1)) key=true→(Vz (L.map (·.1)) key,s) ∈ L∧(Vz (L.map (·.1)) key).1=key∧k9=key∧D.atKey (VU key) (.held z)=.held (ZW k9 s))∧(isE (L.map (·.1)) key=false→z=ZW ⟨#[]⟩ ((none,0,0),(none,0,0))→D.atKey (VU key) (.held z)=.held (ZW k9 s)∧k9=⟨#[]⟩∧s=((none,0,0),(none,0,0))):=by
 by_cases h:isE (L.map (·.1)) key=true
 ·obtain ⟨s,h1,h2,h3⟩:=hG.found h
  exact ⟨key,s,fun _=>⟨h1,h2,rfl,h3 _⟩,fun h9=>by rw [h] at h9;cases h9⟩
 refine ⟨⟨#[]⟩,((none,0,0),(none,0,0)),fun h9=>absurd h9 h,fun h9 hz=>⟨?_,rfl,rfl⟩⟩
 rw [Maps.atKey_of_not_has (by rw [hG.has];exact h9),hz]
theorem KX {rows:List (List I3)} {g:Nat} {w0:World} {C nb:Nat} {cs:Sl × Sl × Sl} (hp:Zf rows=true) (hg:g≤2000) (hV:ZN w0) (hI:∀ k,k<3→Zr w0 (slK cs k).1 (slK cs k).2.1 (slK cs k).2.2 (Yg rows k)) {f:Nat} (ih:NQ rows g w0 C nb cs f):NQ rows g w0 C nb cs (f+1):=by
 intro m st n L w hs hf hE ht hn hL hO
 have hmf:∀ (fn:Fn) (first cap:Array Value) (w:World),(Instr.makeFunc fn first cap).run Tryz.prog w=.ok (.func fn first cap) w:=fun _ _ _ _=>rfl
 have htf:UJ (f+1)=1+3*UJ f:=rfl
 rw [htf] at ht

 obtain ⟨D,hm,hG⟩:=hO.map
 obtain ⟨key,hkey⟩:∃ key,key=Zt m:=⟨_,rfl⟩
 have hks:key.size≤maxLen:=by rw [hkey,X0 hs];unfold maxLen;omega
 have hkl:keyOf Tryz.prog 9 (.string key)=some (VU key):=WideMaps.keyOf_string_mk Tryz.underlying9 hks
 have HN:=fun (W:World)=>Ka hp hg hV hI ih m (st.1,st.2+1) n L W hs hf hE (by show st.2+1+3*UJ f≤600000000;omega) (by show n+1≤g+(st.2+1);omega) hL
 rw [← hkey] at HN
 have kK:=fun (W:World) (q:Nat) (h:Blk W q 98 (Zi cs.1.val cs.2.1.val cs.2.2.val m)) (hV:ZN W)=>Jh (cs:=cs) h hs hV
 rw [← hkey] at kK
 obtain ⟨k9,⟨⟨s1a,s1n,s1c⟩,⟨s2a,s2n,s2c⟩⟩,hY9,hN9⟩:=DU hG key (.agg #[.string ⟨#[]⟩,.slice none 0 0,.slice none 0 0])
 rw [hL] at hY9 hN9
 obtain ⟨bb,hbb9⟩:∃ bb,bb=isE st.1 key:=⟨_,rfl⟩
 rw [← hbb9] at hY9 hN9
 have HV:Hid (∀ v ps,VX v=some (D.atKey (VU key) (.held (.agg #[.string ⟨#[]⟩,.slice none 0 0,.slice none 0 0])),ps)→v=.agg #[.string k9,.slice s1a s1n s1c,.slice s2a s2n s2c]∧Maps.has D (VU key)=bb):=by
  intro v ps hv
  refine ⟨?_,by rw [hG.has,hL,hbb9]⟩
  unfold VX at hv
  injection hv with hv
  injection hv with hv _
  cases hq:bb
  ·have h9:=(hN9 hq rfl).1
   rw [h9] at hv
   injection hv
  have h9:=(hY9 hq).2.2.2
  rw [h9] at hv
  injection hv
 have HKEY:Hid (key=Zt m):=hkey
 have HBB:Hid (bb=isE st.1 (Zt m)):=by rw [Hid,hbb9,hkey]
 clear hkey hbb9
 have hCw:C<w.heap.size:=hO.box.lt
 obtain ⟨x0,x1,x2,x3,x4,x5,x6,x7,x8,x9,x10,x11,x12,x13,x14,x15,x16,x17,hMC⟩:∃ x0 x1 x2 x3 x4 x5 x6 x7 x8 x9 x10 x11 x12 x13 x14 x15 x16 x17:Value,Zi cs.1.val cs.2.1.val cs.2.2.val m=[x0,x1,x2,x3,x4,x5,x6,x7,x8,x9,x10,x11,x12,x13,x14,x15,x16,x17]:=⟨_,_,_,_,_,_,_,_,_,_,_,_,_,_,_,_,_,_,rfl⟩
 have HMC:Hid (Zi cs.1.val cs.2.1.val cs.2.2.val m=[x0,x1,x2,x3,x4,x5,x6,x7,x8,x9,x10,x11,x12,x13,x14,x15,x16,x17]):=hMC
 rw [hMC]
 have bw:Below w.heap.size w (((w.alloc (.cells #[.pointer (some ⟨C,0,none⟩)] 149)).alloc (.cells #[x0,x1,x2,x3,x4,x5,x6,x7,x8,x9,x10,x11,x12,x13,x14,x15,x16,x17] 98)).alloc (.cells #[.string ⟨#[]⟩,.slice none 0 0,.slice none 0 0] 45)):=by go_grown
 have pC:Blk (((w.alloc (.cells #[.pointer (some ⟨C,0,none⟩)] 149)).alloc (.cells #[x0,x1,x2,x3,x4,x5,x6,x7,x8,x9,x10,x11,x12,x13,x14,x15,x16,x17] 98)).alloc (.cells #[.string ⟨#[]⟩,.slice none 0 0,.slice none 0 0] 45)) w.heap.size 149 [.pointer (some ⟨C,0,none⟩)]:=Zl _ (Zl _ (Zj _ _ _ rfl))
 have pM:Blk (((w.alloc (.cells #[.pointer (some ⟨C,0,none⟩)] 149)).alloc (.cells #[x0,x1,x2,x3,x4,x5,x6,x7,x8,x9,x10,x11,x12,x13,x14,x15,x16,x17] 98)).alloc (.cells #[.string ⟨#[]⟩,.slice none 0 0,.slice none 0 0] 45)) (w.heap.size+1) 98 [x0,x1,x2,x3,x4,x5,x6,x7,x8,x9,x10,x11,x12,x13,x14,x15,x16,x17]:=Zl _ (Zj _ _ _ (by simp))
 have pE:Blk (((w.alloc (.cells #[.pointer (some ⟨C,0,none⟩)] 149)).alloc (.cells #[x0,x1,x2,x3,x4,x5,x6,x7,x8,x9,x10,x11,x12,x13,x14,x15,x16,x17] 98)).alloc (.cells #[.string ⟨#[]⟩,.slice none 0 0,.slice none 0 0] 45)) (w.heap.size+1+1) 45 [.string ⟨#[]⟩,.slice none 0 0,.slice none 0 0]:=Zj _ _ _ (by simp)
 clear hMC
 go_enter_defers Tryz.func48,Tryz.ntmps48
 go_wp2_with fail
 generalize (((w.alloc (.cells #[.pointer (some ⟨C,0,none⟩)] 149)).alloc (.cells #[x0,x1,x2,x3,x4,x5,x6,x7,x8,x9,x10,x11,x12,x13,x14,x15,x16,x17] 98)).alloc (.cells #[.string ⟨#[]⟩,.slice none 0 0,.slice none 0 0] 45))=U at *
 rw [← HMC.out] at pM
 have kKx:=kK U _ pM (hV.below (Zb hO.base bw))
 refine kKx.mono ?_
 rintro e w1 ⟨rfl,hb⟩
 replace bw:=Zb bw hb
 replace pC:=pC.below hb
 replace pM:=pM.below hb
 replace pE:=pE.below hb
 clear hb kK kKx
 obtain ⟨X4,hX4⟩:∃ X4,X4=w.heap.size+1+1:=⟨_,rfl⟩
 rw [← hX4] at pE ⊢
 obtain ⟨X3,hX3⟩:∃ X3,X3=w.heap.size+1:=⟨_,rfl⟩
 rw [← hX3] at pM ⊢
 obtain ⟨X2,hX2⟩:∃ X2,X2=w.heap.size:=⟨_,rfl⟩
 rw [← hX2] at pC ⊢
 have hX2w:w.heap.size≤X2:=by omega
 have hX3w:w.heap.size≤X3:=by omega
 have hX4w:w.heap.size≤X4:=by omega
 clear hX2 hX3 hX4
 have hal:Below w1.heap.size w1 (w1.alloc (.cells #[.string key] 9)):=by go_grown
 have pK:Blk (w1.alloc (.cells #[.string key] 9)) w1.heap.size 9 [.string key]:=Zj _ _ _ rfl
 go_wp2_with fail
 have hX5w:=bw.size
 replace bw:=Zb bw hal
 replace pC:=pC.below hal
 replace pM:=pM.below hal
 replace pE:=pE.below hal
 clear hal
 generalize (w1.alloc (.cells #[.string key] 9))=V1 at *
 generalize w1.heap.size=X5 at *
 have oc:=hO.below bw
 have hm1:V1.ownsMap Tryz.prog 9 VX nb n D:=hm.kept (row:=none) ⟨bw.os,bw.tape,bw.output,bw.size,fun k hk _=>bw.block k hk⟩ (by simp)
 go_cut [6,7] from 9 to 17 (fun s6 s7 W=>LU V1 W [.string k9,.slice s1a s1n s1c,.slice s2a s2n s2c] bb s6 s7)
 ·refine wp_mono ?_ FT
  refine wp_region_held_drew (S:=(fun w'=>w'.cell? ⟨X2,0,none⟩=some (.pointer (some ⟨C,0,none⟩))∧w'.cell? ⟨C,0,none⟩=some (.map (some nb))∧w'.cell? ⟨X5,0,none⟩=some (.string key))) (by kernel_rfl) ⟨by simpa using pC.cell 0,by simpa using oc.box.cell 0,by simpa using pK.cell 0⟩ (fun hS0=>?_)
  have hX2V:=pC.lt
  have hCV:=oc.box.lt
  have hX5V:=pK.lt
  refine tkm 0 10 (.pointer (some ⟨C,0,none⟩)) ?_
  refine tkm 1 11 (.pointer (some ⟨C,0,none⟩)) ?_
  refine tkm 2 12 (.pointer (some ⟨C,0,none⟩)) ?_
  refine tkm 3 13 (.map (some nb)) ?_
  refine tkm 4 14 (.string key) ?_
  have hmV:V1.drew.ownsMap Tryz.prog 9 VX nb n D:=hm1.drew
  have hV1:Below V1.heap.size V1 V1.drew:=by go_grown
  have hVs:V1.drew.heap.size=V1.heap.size:=rfl
  rw [← hVs] at hX2V hCV hX5V
  clear hVs
  generalize V1.drew=V at *
  clear HN pC pM pE pK oc hO hm1 hm bw ih
  refine wpAnyH_ready (rs:=[5,9]) (by kernel_rfl) (by simp) ?_
  refine AllReadyH.cons (o:=⟨some 15,_,_,_,_,_⟩) rfl (fun K hK=>?_) (AllReadyH.cons (o:=⟨some 6,_,_,_,_,_⟩) rfl (fun K hK=>?_) AllReadyH.nil)
  ·refine RV rfl _ _ 106 rfl 9 45 Vo Tryz.underlying106 VX (Sf _) (.held (.agg #[.string ⟨#[]⟩,.slice none 0 0,.slice none 0 0])) [] rfl nb n D rfl hmV _ (VU key) rfl hkl ?_
   intro v9 ps9 hv9
   have hv8:=HV.out v9 ps9 hv9
   clear hv9
   obtain ⟨rfl,hbb⟩:=hv8
   rw [hbb]
   refine hK.out _ _ hS0 (fun hS1=>?_)
   clear hK
   try simp only [Act.put,tka,tkb,tkc]
   refine tkm 6 9 (.tuple #[.agg #[.string k9,.slice s1a s1n s1c,.slice s2a s2n s2c],.bool bb]) ?_
   refine tkm 7 16 (.agg #[.string k9,.slice s1a s1n s1c,.slice s2a s2n s2c]) ?_
   refine tkm 8 17 (.bool bb) ?_
   refine tkr 9 6 (fun K hK=>?_)
   have hal:Below V.heap.size V (V.alloc (.cells #[.string ⟨#[]⟩,.slice none 0 0,.slice none 0 0] 45)):=by go_grown
   have pQ:Blk (V.alloc (.cells #[.string ⟨#[]⟩,.slice none 0 0,.slice none 0 0] 45)) V.heap.size 45 [.string ⟨#[]⟩,.slice none 0 0,.slice none 0 0]:=Zj _ _ _ rfl
   go_simp
   refine hK.out _ _ ⟨Za hal _ _ hS1.1,Za hal _ _ hS1.2.1,Za hal _ _ hS1.2.2⟩ (fun hS2=>?_)
   clear hK
   generalize (V.alloc (.cells #[.string ⟨#[]⟩,.slice none 0 0,.slice none 0 0] 45))=V2 at *
   obtain ⟨Q,hQ⟩:∃ Q,Q=V.heap.size:=⟨_,rfl⟩
   rw [← hQ] at pQ ⊢
   have hQV:V.heap.size≤Q:=by omega
   have hX2Q:X2≠Q:=by omega
   have hCQ:C≠Q:=by omega
   have hX5Q:X5≠Q:=by omega
   clear hQ
   try simp only [Act.put,tka,tkb,tkc]
   refine tkz 10 (fun K hK=>?_)
   refine Zq rfl 45 _ _ rfl Q [.string k9,.slice s1a s1n s1c,.slice s2a s2n s2c] rfl rfl pQ (by kernel_rfl) rfl rfl ?_
   intro V3 p3 g3
   refine hK.out _ _ ⟨Zp g3 hS2.1 (fun e=>hX2Q (by injection e)),Zp g3 hS2.2.1 (fun e=>hCQ (by injection e)),Zp g3 hS2.2.2 (fun e=>hX5Q (by injection e))⟩ (fun hS3=>?_)
   clear hK
   try simp only [Act.put,tka,tkb,tkc]
   refine tkm 11 7 (.bool bb) ?_
   refine wpAnyH_done (by kernel_rfl) ?_ _
   refine Lh ?_
   have HQ9:Hid (LU V1 V3 [.string k9,.slice s1a s1n s1c,.slice s2a s2n s2c] bb (.pointer (some ⟨Q,0,none⟩)) (.bool bb)):=⟨Q,rfl,rfl,p3.out,(Zb hV1 hal).grown g3 (Zb hV1 hal).size (fun q e=>by cases e;exact Nat.le_trans hV1.size hQV),Nat.le_trans hV1.size hQV⟩
   clear p3 g3 pQ hal hS2 hS3
   go_wp2_with fail
   go_meet
   case rel=>exact HQ9.out
  have hal:Below V.heap.size V (V.alloc (.cells #[.string ⟨#[]⟩,.slice none 0 0,.slice none 0 0] 45)):=by go_grown
  have pQ:Blk (V.alloc (.cells #[.string ⟨#[]⟩,.slice none 0 0,.slice none 0 0] 45)) V.heap.size 45 [.string ⟨#[]⟩,.slice none 0 0,.slice none 0 0]:=Zj _ _ _ rfl
  have hm2:=hmV.alloc (.cells #[.string ⟨#[]⟩,.slice none 0 0,.slice none 0 0] 45)
  go_simp
  refine hK.out _ _ ⟨Za hal _ _ hS0.1,Za hal _ _ hS0.2.1,Za hal _ _ hS0.2.2⟩ (fun hS1=>?_)
  clear hK
  generalize (V.alloc (.cells #[.string ⟨#[]⟩,.slice none 0 0,.slice none 0 0] 45))=V2 at *
  try simp only [Act.put,tka,tkb,tkc]
  refine tkr 5 15 (fun K hK=>?_)
  refine RV rfl _ _ 106 rfl 9 45 Vo Tryz.underlying106 VX (Sf _) (.held (.agg #[.string ⟨#[]⟩,.slice none 0 0,.slice none 0 0])) [] rfl nb n D rfl hm2 _ (VU key) rfl hkl ?_
  intro v9 ps9 hv9
  have hv8:=HV.out v9 ps9 hv9
  clear hv9
  obtain ⟨rfl,hbb⟩:=hv8
  rw [hbb]
  refine hK.out _ _ hS1 (fun hS2=>?_)
  clear hK
  try simp only [Act.put,tka,tkb,tkc]
  refine tkm 6 9 (.tuple #[.agg #[.string k9,.slice s1a s1n s1c,.slice s2a s2n s2c],.bool bb]) ?_
  refine tkm 7 16 (.agg #[.string k9,.slice s1a s1n s1c,.slice s2a s2n s2c]) ?_
  refine tkm 8 17 (.bool bb) ?_
  obtain ⟨Q,hQ⟩:∃ Q,Q=V.heap.size:=⟨_,rfl⟩
  rw [← hQ] at pQ ⊢
  have hQV:V.heap.size≤Q:=by omega
  have hX2Q:X2≠Q:=by omega
  have hCQ:C≠Q:=by omega
  have hX5Q:X5≠Q:=by omega
  clear hQ
  try simp only [Act.put,tka,tkb,tkc]
  refine tkz 10 (fun K hK=>?_)
  refine Zq rfl 45 _ _ rfl Q [.string k9,.slice s1a s1n s1c,.slice s2a s2n s2c] rfl rfl pQ (by kernel_rfl) rfl rfl ?_
  intro V3 p3 g3
  refine hK.out _ _ ⟨Zp g3 hS2.1 (fun e=>hX2Q (by injection e)),Zp g3 hS2.2.1 (fun e=>hCQ (by injection e)),Zp g3 hS2.2.2 (fun e=>hX5Q (by injection e))⟩ (fun hS3=>?_)
  clear hK
  try simp only [Act.put,tka,tkb,tkc]
  refine tkm 11 7 (.bool bb) ?_
  refine wpAnyH_done (by kernel_rfl) ?_ _
  refine Lh ?_
  have HQ9:Hid (LU V1 V3 [.string k9,.slice s1a s1n s1c,.slice s2a s2n s2c] bb (.pointer (some ⟨Q,0,none⟩)) (.bool bb)):=⟨Q,rfl,rfl,p3.out,(Zb hV1 hal).grown g3 (Zb hV1 hal).size (fun q e=>by cases e;exact Nat.le_trans hV1.size hQV),Nat.le_trans hV1.size hQV⟩
  clear p3 g3 pQ hal hS2 hS3
  go_wp2_with fail
  go_meet
  case rel=>exact HQ9.out
 obtain ⟨Q,rfl,rfl,pQ,b2,hQ1⟩:=hcut
 replace oc:=oc.below b2
 replace pC:=pC.below b2
 replace pM:=pM.below b2
 replace pE:=pE.below b2
 replace pK:=pK.below b2
 have bz:=Zb bw b2
 have kpz:=WM.of (C:=C) (nb:=nb) bz
 have hXC:∀ q,w.heap.size≤q→q≠C:=fun q h e=>by omega
 have nI:=Yd ⟨#[]⟩ ((none,0,0),(none,0,0))
 have hw1:IntKind.i64.wrap ((st.2:Int)+1)=(st.2:Int)+1:=by rw [IntKind.wrap_i64];omega
 clear HV hm1 hm hG bw b2 hQ1 HMC
 cases hq:bb
 ·rw [hq] at HBB
  clear hY9 hN9 pQ hq
  have c20:=pC.cell 0
  have c22:=oc.box.cell 2
  have f22:=oc.box.frozen 2
  simp only [List.getElem?_cons_zero,List.getElem?_cons_succ] at c20 c22
  have oc1:=oc.node (st.2+1)
  have kp1:=kpz.trans (Hy wc C nb (.int .i64 ((st.2+1:Nat):Int)))
  have hcast:((st.2+1:Nat):Int)=(st.2:Int)+1:=by omega
  replace pC:=pC.off ⟨C,2,none⟩ (.int .i64 ((st.2+1:Nat):Int)) (hXC _ hX2w)
  replace pM:=pM.off ⟨C,2,none⟩ (.int .i64 ((st.2+1:Nat):Int)) (hXC _ hX3w)
  replace pE:=pE.off ⟨C,2,none⟩ (.int .i64 ((st.2+1:Nat):Int)) (hXC _ hX4w)
  replace pK:=pK.off ⟨C,2,none⟩ (.int .i64 ((st.2+1:Nat):Int)) (hXC _ hX5w)
  rw [hcast] at oc1 kp1 pC pM pE pK
  clear hcast
  go_upto_region 6 with fail
  clear c20 c22 f22 oc kpz hw1
  generalize (wc.setCell ⟨C,2,none⟩ (.int .i64 ((st.2:Int)+1)))=W1 at *
  have c20:=pC.cell 0
  simp only [List.getElem?_cons_zero] at c20
  have kOv:=Qa g (st.2+1) oc1.box (by omega)
  go_wp2_with fail
  refine kOv.mono ?_
  rintro e W2 ⟨rfl,hb⟩
  replace oc1:=oc1.below hb
  replace kp1:=kp1.bel hb
  replace pC:=pC.below hb
  replace pM:=pM.below hb
  replace pE:=pE.below hb
  replace pK:=pK.below hb
  clear kOv hb c20
  by_cases hov:2000<g+(st.2+1)
  ·rw [decide_eq_true hov]
   have HR:Hid (Z7 rows g (f+1) m st=(e3d,(st.1,st.2+1))):=Nz HBB.out.symm hov
   clear HN
   go_wp2_with (refine Ze rfl 45 _ _ rfl X4 [.string ⟨#[]⟩,.slice none 0 0,.slice none 0 0] rfl rfl pE (by kernel_rfl) rfl rfl ?_)
   intro W3 p3 g3
   have pE3:=p3.out
   have oc3:=oc1.grow g3 (fun e=>hXC _ hX4w (by cases e;rfl)) (fun e=>oc1.noblk pE (by cases e;rfl)) (fun j e=>by cases e;exact Nat.le_trans hO.base.size hX4w) (fun x hx q hq e=>(oc1.ents x hx).1.off11 hq pE nI (by cases e;rfl))
   have kp3:=kp1.gr g3 (fun j e=>.inr (.inr (by cases e;exact hX4w)))
   have HG:Hid (LW (.returned (.agg #[.string ⟨#[]⟩,.slice none 0 0,.slice none 0 0])) w0 w W3 C nb g n L st.2 (Z7 rows g (f+1) m st)):=by
    rw [HR.out]
    exact ⟨((none,0,0),(none,0,0)),L,n,rfl,YK.zero9 _,⟨⟨fun _=>rfl,fun x hx=>by cases hx⟩,fun j hj=>by rcases hj with hj | hj<;>exact absurd rfl hj.1⟩,fun j hj=>by rcases hj with hj | hj<;>exact absurd rfl hj.1,oc3,hL,by show n+st.2≤n+(st.2+1);omega,fun x hx=>.inl hx,kp3⟩
   have q0:=pE3.cell 0
   have q1:=pE3.cell 1
   have q2:=pE3.cell 2
   simp only [List.getElem?_cons_zero,List.getElem?_cons_succ] at q0 q1 q2
   clear p3 g3 oc3 kp3 oc1 kp1 pE pE3 pC pM pK
   go_wp2
   refine No (v:=.agg #[.string ⟨#[]⟩,.slice none 0 0,.slice none 0 0]) rfl ?_ ?_
   ·simp [results,Tryz.results48,go_sem,q0,q1,q2]
   exact HG.out
  rw [decide_eq_false hov]
  have HR:Hid (Z7 rows g (f+1) m st=(Ub m (Z5 rows g f m (st.1,st.2+1) 3),(XE (Z5 rows g f m (st.1,st.2+1) 3).2.1 (Ub m (Z5 rows g f m (st.1,st.2+1) 3)),(Z5 rows g f m (st.1,st.2+1) 3).2.2))):=Ny HBB.out.symm hov
  have kN:=HN W2 oc1
  clear HN
  have c20:=pC.cell 0
  have c50:=pK.cell 0
  simp only [List.getElem?_cons_zero] at c20 c50
  go_wp2_with (refine Zd rfl 98 _ rfl X3 rfl pM _ Tryz.underlying98 rfl (by kernel_rfl) ?_)
  refine kN.mono ?_
  rintro e W3 ⟨⟨⟨ba,bn,bc⟩,⟨za,zn,zc⟩⟩,L',n',rfl,hEm,hOff,hEs,oc3,lm,nn,old,kp3⟩
  have htop:=Nx (rows:=rows) (g:=g) (f:=f) (m:=m) (st:=(st.1,st.2+1)) 3 (by omega)
  generalize Z5 rows g f m (st.1,st.2+1) 3=R at *
  simp only at htop
  have uE:ZW (Ub m R).1 ((ba,bn,bc),(za,zn,zc))=.agg #[.string key,.slice ba bn bc,.slice za zn zc]:=by rw [HKEY.out];rfl
  simp only [uE]
  clear uE
  have hne:∀ q t cs9,Blk W2 q t cs9→w.heap.size≤q→Blk W3 q t cs9:=fun q t cs9 h h2=>kp3.blk h (hXC q h2) (oc1.noblk h)
  replace pC:=hne _ _ _ pC hX2w
  replace pE:=hne _ _ _ pE hX4w
  replace pK:=hne _ _ _ pK hX5w
  replace kp3:=kp1.trans kp3
  have hs1:=kp1.size
  clear hne c20 c50 kN pM oc1 kp1
  simp only at oc3 lm nn
  go_wp2_with (refine Ze rfl 45 _ _ rfl X4 [.string key,.slice ba bn bc,.slice za zn zc] rfl rfl pE (by kernel_rfl) rfl rfl ?_)
  intro W4 p4 g4
  have pE4:=p4.out
  have oc4:=oc3.grow g4 (fun e=>hXC _ hX4w (by cases e;rfl)) (fun e=>oc3.noblk pE (by cases e;rfl)) (fun j e=>by cases e;exact Nat.le_trans hO.base.size hX4w) (fun x hx q hq e=>(oc3.ents x hx).1.off11 hq pE nI (by cases e;rfl))
  have kp4:=kp3.gr g4 (fun j e=>.inr (.inr (by cases e;exact hX4w)))
  have hEm4:=hEm.same11 g4.size (fun j hj=>g4.block j (hEm.blk11 hj).1 (fun e=>hEm.off11 hj pE nI (by cases e;rfl)))
  have pC4:=pC.kept g4 (fun e=>Z8 pE pC (by decide) (by cases e;rfl))
  have pK4:=pK.kept g4 (fun e=>Z8 pE pK (by decide) (by cases e;rfl))
  obtain ⟨D4,hm4,hG4⟩:=oc4.map
  have c24:=pC4.cell 0
  have c54:=pK4.cell 0
  simp only [List.getElem?_cons_zero] at c24 c54
  have hke:(Ub m R).1=key:=by rw [HKEY.out];rfl
  have k1:=GU (Ub m R) ((ba,bn,bc),(za,zn,zc)) (by rw [hke];exact pE4) c24 (by rw [hke];exact c54) oc4.box hm4 hG4 (by rw [hke];exact hks) (by omega)
  clear p4 pE pC pK c24 c54 hke
  go_wp2
  refine leaves_cons (f:=86) (args:=#[.pointer (some ⟨X4,0,none⟩),.pointer (some ⟨X2,0,none⟩),.pointer (some ⟨X5,0,none⟩)]) (by simp) (by simp [go_sem]) ?_
  refine k1.mono ?_
  rintro e u' W5 ⟨rfl,rfl,hP,hg9⟩
  have oc5:=oc4.put hEm4 hOff hP hg9
  have hEm5:=oc4.nbkeep hg9 hEm4
  have kp5:=kp4.gr hg9 (fun j e=>.inr (.inl (by cases e;rfl)))
  have pE5:=pE4.kept hg9 (fun e=>oc4.noblk pE4 (by cases e;rfl))
  have q0:=pE5.cell 0
  have q1:=pE5.cell 1
  have q2:=pE5.cell 2
  simp only [List.getElem?_cons_zero,List.getElem?_cons_succ] at q0 q1 q2
  show Leaves _ _ _ _ [] .returning _
  refine ⟨.agg #[.string key,.slice ba bn bc,.slice za zn zc],?_,?_⟩
  ·simp [results,Tryz.results48,go_sem,q0,q1,q2]
  rw [HR.out]
  refine ⟨((ba,bn,bc),(za,zn,zc)),UP L' (Ub m R) ((ba,bn,bc),(za,zn,zc)),n'+1,by rw [HKEY.out];rfl,hEm5,hOff,fun j hj=>.inl (Nat.le_trans hs1 (hEs j hj)),oc5,by rw [SU,lm],by show n'+1+st.2≤n+R.2.2;omega,fun x hx=>?_,kp5⟩
  rcases QZ hx with h9 | h9
  ·rcases old x h9 with h8 | h8
   ·exact .inl h8
   exact .inr (fun j hj=>Nat.le_trans hs1 (h8 j hj))
  rw [h9]
  exact .inr (fun j hj=>Nat.le_trans hs1 (hEs j hj))
 rw [hq] at HBB
 obtain ⟨hmem,hfst,hk9,_⟩:=hY9 hq
 rw [hk9] at pQ
 have HR:Hid (Z7 rows g (f+1) m st=(Vz st.1 (Zt m),st)):=Pj HBB.out.symm
 have hEm:=(oc.ents _ hmem).1
 have hOff:=(oc.ents _ hmem).2
 clear hY9 hN9 hq HN hk9 hw1
 go_wp2_with (first | refine Zd rfl 45 _ rfl Q rfl pQ _ Tryz.underlying45 rfl (by kernel_rfl) ?_ | refine Ze rfl 45 _ _ rfl X4 [.string key,.slice s1a s1n s1c,.slice s2a s2n s2c] rfl rfl pE (by kernel_rfl) rfl rfl ?_)
 intro W3 p3 g3
 have pE3:=p3.out
 have oc3:=oc.grow g3 (fun e=>hXC _ hX4w (by cases e;rfl)) (fun e=>oc.noblk pE (by cases e;rfl)) (fun j e=>by cases e;exact Nat.le_trans hO.base.size hX4w) (fun x hx q hq e=>(oc.ents x hx).1.off11 hq pE nI (by cases e;rfl))
 have kp3:=kpz.gr g3 (fun j e=>.inr (.inr (by cases e;exact hX4w)))
 have HG:Hid (LW (.returned (.agg #[.string key,.slice s1a s1n s1c,.slice s2a s2n s2c])) w0 w W3 C nb g n L st.2 (Z7 rows g (f+1) m st)):=by
  rw [HR.out,← HKEY.out]
  exact ⟨((s1a,s1n,s1c),(s2a,s2n,s2c)),L,n,by rw [hfst];rfl,(oc3.ents _ hmem).1,hOff,fun j hj=>.inr ⟨_,hmem,hj⟩,oc3,hL,Nat.le_refl _,fun x hx=>.inl hx,kp3⟩
 have q0:=pE3.cell 0
 have q1:=pE3.cell 1
 have q2:=pE3.cell 2
 simp only [List.getElem?_cons_zero,List.getElem?_cons_succ] at q0 q1 q2
 clear p3 g3 oc3 kp3 oc kpz pE pE3 pC pM pK pQ hmem hfst hEm hOff
 go_wp2
 refine No (v:=.agg #[.string key,.slice s1a s1n s1c,.slice s2a s2n s2c]) rfl ?_ ?_
 ·simp [results,Tryz.results48,go_sem,q0,q1,q2]
 exact HG.out
theorem Ty {rows:List (List I3)} {g:Nat} {w0:World} {C nb:Nat} {cs:Sl × Sl × Sl} (hp:Zf rows=true) (hg:g≤2000) (hV:ZN w0) (hI:∀ k,k<3→Zr w0 (slK cs k).1 (slK cs k).2.1 (slK cs k).2.2 (Yg rows k)):∀ f,NQ rows g w0 C nb cs f
 | 0=>fun m st n L w hs hf=>by omega
 | f+1=>KX hp hg hV hI (Ty hp hg hV hI f)


theorem DW {w0 w:World} {C nb g n nd:Nat} {L:List EQ} (hO:OnC w0 w C nb g n L nd) (hn:n≤1000000000) (hR:∀ x ∈ L,YL x.1∧x.1.1.size≤1048576) (hL:L.length≤2000) :
  Calls Tryz.prog 51 #[.pointer (some ⟨C,0,none⟩)] w fun e w'=>S8 e w' w.heap.size (L.map (·.1))∧Below w.heap.size w w':=by
 obtain ⟨i0,hi0,hz0,hz1,hz2⟩:=info_parts T5
 obtain ⟨D,hm,hG⟩:=hO.map
 have hCw:C<w.heap.size:=hO.box.lt
 have bw:Below w.heap.size w (w.alloc (.cells #[.slice none 0 0] 33)):=by go_grown
 have pR:Blk (w.alloc (.cells #[.slice none 0 0] 33)) w.heap.size 33 [.slice none 0 0]:=Zj _ _ _ rfl
 have hmU:=hm.alloc (.cells #[.slice none 0 0] 33)
 have oc:=hO.below bw
 have hUs:Hid ((w.alloc (.cells #[.slice none 0 0] 33)).heap.size=w.heap.size+1):=by rw [Hid];simp
 go_enter Tryz.func51,Tryz.ntmps51
 go_upto_region 2 with fail
 generalize (w.alloc (.cells #[.slice none 0 0] 33))=U at *
 have c0:=oc.box.cell 0
 simp only [List.getElem?_cons_zero] at c0
 have kS:=Dc nb n D U hmU hn
 go_wp2_with fail
 refine (C0 _ _).mono ?_
 rintro e w2 ⟨rfl,rfl⟩
 go_wp2_with fail
 refine kS.mono ?_
 rintro e w3 ⟨v,ss,rfl,hp,ho,hnil,hb3⟩
 have hb2:Below U.heap.size U (U.alloc (.cells #[.map (some nb)] 106)):=by go_grown
 have hsz2:U.heap.size≤(U.alloc (.cells #[.map (some nb)] 106)).heap.size:=hb2.size
 have e1:=Kq hmU hG hp
 have e2:ss.length=L.length:=by have h9:=congrArg List.length e1;rw [List.length_mergeSort] at h9;rw [h9];unfold SC;rw [List.length_map]
 rw [e1,e2,Hx] at ho
 have hb:=Zb hb2 hb3
 replace ho:=Yz ho (show w.heap.size+1≤_ from Nat.le_trans (Nat.le_of_eq hUs.out.symm) hsz2)
 replace bw:=Zb bw hb
 replace pR:=pR.below hb
 replace oc:=oc.below hb
 have hs3:w.heap.size+1≤w3.heap.size:=by have:=hb.size;have:=hUs.out;omega
 clear kS hb hb2 hb3 hsz2 hnil hp e1 e2 c0 hmU hm hUs
 obtain ⟨ka,kc,rfl⟩:=ZY ho
 obtain ⟨m,hml⟩:∃ m,m=L.length:=⟨_,rfl⟩
 rw [← hml] at ho hL ⊢
 have HL:Hid (m=L.length):=hml
 clear hml
 go_wp2_with fail
 go_loopw [3,13] (fun so si wr=>∃ (k:Nat) (va:Option Addr) (vn vc:Nat),k≤m∧si=.int .i64 k∧so=.slice va vn vc∧Wi wr (w.heap.size+1) (.slice va vn vc) ((L.map (·.1)).take k)∧Below w.heap.size w wr∧wr.ownsRow (w.heap.size+1) 9 1 (.slice ka m kc) m (L.map fun x=>Value.string x.1.1)∧Blk wr w.heap.size 33 [.slice none 0 0]∧w.heap.size+1≤wr.heap.size) (fun _ si _=>m - (intOf si).toNat)
 case atStart=>exact ⟨0,none,0,0,by omega,rfl,rfl,by rw [List.take_zero];exact Wi.nil9 _ _,bw,ho,pR,hs3⟩
 case round =>
  clear bw ho pR oc hs3
  obtain ⟨k,xa,xn,xc,hk,rfl,rfl,hM,bw,ho,pW,hsW⟩:=hrel
  by_cases hlt:k<m
  ·obtain ⟨kg,kc',e9⟩:=RR ho (by omega)
   cases e9
   have hkl:k<L.length:=by rw [← HL.out];exact hlt
   have x0:wr.cell? ⟨kg,k,none⟩=some (.string (L[k]).1.1):=by
    have h9:=ho.cellAt k (by omega)
    rw [h9]
    simp [List.getElem?_map,List.getElem?_eq_getElem hkl]
   have hx:=List.getElem_mem hkl
   have oc:=hO.below bw
   obtain ⟨hEr,hks⟩:=hR _ hx
   have y1:=hEr.bugs
   have y2:=hEr.foot
   obtain ⟨D2,hm2,hG2⟩:=oc.map
   have hkey:keyOf Tryz.prog 9 (.string (L[k]).1.1)=some (VU (L[k]).1.1):=WideMaps.keyOf_string_mk Tryz.underlying9 (by unfold maxLen;omega)
   obtain ⟨v9,ps9,hrun,hv9⟩:=hm2.lookup (zd:=.held (.agg #[.string ⟨#[]⟩,.slice none 0 0,.slice none 0 0])) (zp:=[]) Vo Tryz.underlying106 (Sf wr) rfl hkey
   have hv8:v9=ZW (L[k]).1.1 (L[k]).2:=by
    rw [hG2.at9 _ hx] at hv9
    unfold VX at hv9
    injection hv9 with hv9
    injection hv9 with hv9 _
    injection hv9
   subst hv8
   have hmE:=(oc.ents _ hx).1
   have kE:=fun W (hb:Below wr.heap.size wr W)=>(PK (L[k]).1 (L[k]).2 W (hmE.below hb) (by omega) (by omega) hks).mono (fun x w' h9=>(⟨h9.1.lower hb.size,Zo hb h9.2⟩:Vr x w' wr.heap.size (L[k]).1∧Below wr.heap.size wr w'))
   have hsn:=UI (es:=L.map (·.1)) (k:=k) (by simpa using hkl)
   have e7:(L.map (·.1)).getD k e3d=(L[k]).1:=by simp [List.getD,List.getElem?_eq_getElem hkl]
   rw [e7] at hsn
   have c0:=oc.box.cell 0
   simp only [List.getElem?_cons_zero] at c0
   clear hx hmE hEr hks y1 y2 hv9 hkey hm2 hG2 oc e7
   generalize L[k]=x at *
   obtain ⟨x,s⟩:=x
   simp only at x0 hrun kE hsn
   generalize hps:(L.map (·.1)).take k=ps at *
   have hpl:ps.length≤2000:=by rw [← hps,List.length_take,List.length_map,← HL.out];omega
   clear hps
   obtain ⟨xk,xb,xz⟩:=x
   obtain ⟨⟨a1,n1,c1⟩,⟨a2,n2,c2⟩⟩:=s
   unfold ZW at kE hrun
   simp only at x0 kE hrun
   have hlt':(k:Int)<(m:Int):=by omega
   have hk0:(0:Int)≤(k:Int):=by omega
   go_wp2_with fail
   refine (kE _ (Below.refl _ _)).mono ?_
   rintro e w1 ⟨⟨⟨⟨d1,p1,q1⟩,⟨d2,p2,q2⟩⟩,rfl,hOE⟩,hbn⟩
   obtain ⟨cs,hoM,hE⟩:=hM
   have hb2:Below w1.heap.size w1 (w1.alloc (.cells #[.string xk,.slice d1 p1 q1,.slice d2 p2 q2] 45)):=by go_grown
   have ho2:=Z1 (Z1 hoM hbn) hb2
   have hs2:w.heap.size+1≤(w1.alloc (.cells #[.string xk,.slice d1 p1 q1,.slice d2 p2 q2] 45)).heap.size:=by have:=hb2.size;have:=hbn.size;omega
   clear x0 kE hrun c0
   unfold ZW
   simp only
   go_wp2_with (at_builtin;refine XH rfl _ _ 31 rfl (w.heap.size+1) 45 i0 (.agg #[.string ⟨#[]⟩,.slice none 0 0,.slice none 0 0]) 3 64 Tryz.underlying31 hi0 hz0 hz1 hz2 rfl (by decide) _ _ _ rfl ho2 _ 1 1 rfl (fun h9=>by cases h9) (YI xk ((d1,p1,q1),(d2,p2,q2))) (by simp [YI]) (Nf w1 [.string xk,.slice d1 p1 q1,.slice d2 p2 q2] 45) (Sp _ _) (by unfold maxLen;omega) (by omega) hs2 ?_)
   intro v3 w3 hown hgrow _
   obtain ⟨va9,vc9,rfl⟩:=ZY hown
   have hM3:=Wi.snoc9 (s:=((d1,p1,q1),(d2,p2,q2))) hoM hE hbn hOE hb2 hgrow hown (by omega)
   have hgB:∀ g,(Value.ownBlock (.slice xa xn xc))=some g→w.heap.size+1≤g:=fun g hg=>(ho2.lt g hg).1
   have b3:Below w.heap.size w w3:=(Zo (Zo bw hbn) hb2).grown hgrow (by omega) (fun g hg=>by have:=hgB g hg;omega)
   have g3:=(Blk.kept ((pW.below hbn).below hb2) hgrow (fun e9=>by have:=hgB _ e9;omega))
   have o3:w3.ownsRow (w.heap.size+1) 9 1 (.slice (some ⟨kg,0,none⟩) m kc) m (L.map fun x=>Value.string x.1.1):=World.ownsRow.kept (Z1 (Z1 ho hbn) hb2) hgrow (Ap3.types (Z1 (Z1 ho hbn) hb2) ho2 (by decide)).or
   have s3:w.heap.size+1≤w3.heap.size:=Nat.le_trans hs2 hgrow.size
   clear hoM hE hbn hOE hb2 ho2 hs2 hown hgrow hgB ho pW bw
   go_wp2
   go_roundw
   case rel=>exact ⟨k+1,_,_,_,by omega,by go_num,rfl,by rw [← hsn];exact hM3,b3,o3,g3,s3⟩
   case measure=>simp [intOf];omega
  obtain rfl:k=m:=by omega
  have e9:(L.map (·.1)).take k=L.map (·.1):=by rw [List.take_of_length_le (by rw [List.length_map];exact Nat.le_of_eq HL.out.symm)]
  rw [e9] at hM
  have r0:=pW.cell 0
  have fr0:=pW.frozen 0
  have pZ:=pW.set 0 (.slice xa xn xc)
  simp only [List.set_cons_zero] at pZ
  have z0:=pZ.cell 0
  simp only [List.getElem?_cons_zero] at z0 r0
  have hM9:=(hM.low (p:=⟨w.heap.size,0,none⟩) (show w.heap.size<w.heap.size+1 by omega) (.slice xa xn xc)).lower (show w.heap.size≤w.heap.size+1 by omega)
  have bz:=bw.setCell (p:=⟨w.heap.size,0,none⟩) (Nat.le_refl _) (.slice xa xn xc)
  clear hM pZ pW bw e9 ho
  go_wp2
  refine bodyPost_ret (by simp [results,Tryz.results51,go_sem,z0];try rfl) rfl ?_
  exact ⟨S8.mk9 hM9,bz⟩


theorem K5 {C:List V4} {es:List E3} {m:V4} (h:UpE es) (hk:∀ e ∈ es,∃ s ∈ C,e.1=Zt s) (hi:isE es (Zt m)=false) (hm:m ∈ C) (hC:C.length≤2000):es.length≤1999:=by
 have h1:=SD (C:=C.filter fun x=>decide (x≠m)) h (fun e he=>by
  obtain ⟨s,hs,h9⟩:=hk e he
  refine ⟨s,List.mem_filter.2 ⟨hs,decide_eq_true (fun h8=>?_)⟩,h9⟩
  rw [(XS h).2 ⟨e,he,by rw [h9,h8]⟩] at hi
  cases hi)
 have h2:(C.filter fun x=>decide (x≠m)).length<C.length:=List.length_filter_lt_length_iff_exists.2 ⟨m,hm,by simp⟩
 omega
theorem NF {rows:List (List I3)} (hp:Zf rows=true) {C:List V4} (hS:∀ x ∈ C,Zc x=true) (hC:∀ x ∈ C,∀ t ∈ nxM rows x,t.2 ∈ C) (hfew:C.length≤2000) :
  ∀ (f:Nat) (m:V4) (st:Zy),m ∈ C→ZR rows m<f→(UpR st.1∧∀ e ∈ st.1,∃ s ∈ C,e.1=Zt s)→(ZG rows f m st).2.2=true∧(UpR (ZG rows f m st).2.1.1∧∀ e ∈ (ZG rows f m st).2.1.1,∃ s ∈ C,e.1=Zt s)
 | 0,m,st,hm,hf,ht=>by omega
 | f+1,m,st,hm,hf,ht=>by
  obtain ⟨k0,k1⟩:=Ry (rows:=rows) (P:=fun st=>UpR st.1∧∀ e ∈ st.1,∃ s ∈ C,e.1=Zt s) (rec:=ZG rows f) (nxM rows m) (Zt m,ZB rows m,Zx m) (st.1,st.2+1) (fun t htm st' ht'=>NF hp hS hC hfew f t.2 st' (hC m hm t htm) (by have:=(XK hp (hS m hm) t htm).2;omega) ht') ht
  have k2:=S6 (ZG rows f) (nxM rows m) (Zt m,ZB rows m,Zx m) (st.1,st.2+1) k0
  have k3:=Tx (rows:=rows) (L:=ZR rows m) (rec:=ZG rows f) (nxM rows m) (Zt m,ZB rows m,Zx m) (st.1,st.2+1) (fun t htm st' ht' hk'=>by
   obtain ⟨q1,q2⟩:=XK hp (hS m hm) t htm
   exact (WK hp f t.2 st' q1 ht' hk').mono (by omega)) ht.1 k0
  unfold ZG
  by_cases h1:isE st.1 (Zt m)=true
  ·rw [if_pos h1]
   exact ⟨rfl,ht⟩
  have h1f:isE st.1 (Zt m)=false:=by cases hq:isE st.1 (Zt m)<;>simp_all
  have h9:=K5 ht.1.up ht.2 h1f hm hfew
  rw [if_neg h1,if_neg (show ¬ st.1.length=2000 by omega)]
  generalize Yo (ZG rows f) (nxM rows m) (Zt m,ZB rows m,Zx m) (st.1,st.2+1)=R at *
  have hni:isE R.2.1.1 (Zt m)=false:=by
   cases hi:isE R.2.1.1 (Zt m)
   ·rfl
   exfalso
   obtain ⟨e,he,hek⟩:=(XS k3.1.up (k:=Zt m)).1 hi
   rcases k3.2.2.1 e he with h9 | ⟨s,s1,s2,s3⟩
   ·exact h1 ((XS ht.1.up (k:=Zt m)).2 ⟨e,h9,hek⟩)
   have:s=m:=XU s1 (hS m hm) (s3.symm.trans hek)
   subst this
   omega
  have h8:=K5 k1.1.up k1.2 hni hm hfew
  rw [if_pos k0,if_neg (show ¬ R.2.1.1.length=2000 by omega)]
  refine ⟨rfl,Ml k1.1 (.inr (by omega)),fun e he=>?_⟩
  rcases WI he with h7 | h7
  ·exact ⟨m,hm,by rw [h7];exact k2⟩
  exact k1.2 e h7
def LV (rows:List (List I3)) (st:Zy):Prop:=Wp rows st.1∧Sg rows st.1∧st.1.length=st.2
theorem LN (rows:List (List I3)):LV rows ([],0):=by
 have h:Yl []=true:=rfl
 refine ⟨⟨h,fun e he=>?_⟩,fun s _ h9=>?_,rfl⟩
 ·cases he
 cases h9
theorem ME (rows:List (List I3)) (s:V4):(Yr rows 18 s).1=Zt s:=rfl
theorem Dr {rows:List (List I3)} {es:List E3} (s:V4) (hs9:Zc s=true) (he:Yr rows 18 s ∈ es):s ∈ es.map (fun e=>Yh e.1):=by
 refine List.mem_map.2 ⟨_,he,?_⟩
 simp only [ME]
 exact Vn hs9
theorem Cu {rows:List (List I3)} {es:List E3} (hT:Wp rows es):∀ x ∈ es.map (fun e=>Yh e.1),Zc x=true∧Yr rows 18 x ∈ es:=fun x hx=>by
 obtain ⟨e,he,rfl⟩:=List.mem_map.1 hx
 obtain ⟨s,hs9,e9⟩:=hT.2 e he
 have e1:Yh e.1=s:=by
  rw [e9,ME]
  exact Vn hs9
 simp only [e1]
 exact ⟨hs9,e9▸he⟩
theorem Dt {rows:List (List I3)} (hp:Zf rows=true) {es:List E3} (hT:Wp rows es) (hcl:Sg rows es) {m:V4} (hs:Zc m=true) (r3:Yr rows 18 m ∈ es):(ZG rows 19 m ([],0)).2.2=true:=by
 have hf:ZR rows m<19:=Nat.lt_succ_of_le (Wt hp m)
 have hmem:=Cu hT
 have hfew:(es.map (fun e=>Yh e.1)).length≤2000:=by rw [List.length_map];exact WB hT.1
 have hin:=Dr m hs r3
 have hC:∀ x ∈ es.map (fun e=>Yh e.1),∀ t ∈ nxM rows x,t.2 ∈ es.map (fun e=>Yh e.1):=fun x hx t ht=>Dr _ (XK hp (hmem x hx).1 t ht).1 (hcl x (hmem x hx).1 (hmem x hx).2 t ht)
 have h9:=NF hp (fun x hx=>(hmem x hx).1) hC hfew 19 m ([],0) hin hf ⟨TM,fun e he=>by cases he⟩
 exact h9.1
theorem Ct {rows:List (List I3)} {st st':Zy} (h:st.1.length=st.2) (hT:Wp rows st'.1) (hC:Sg rows st'.1) (hl:st'.1.length+st.2=st.1.length+st'.2):LV rows st':=⟨hT,hC,by omega⟩
theorem Nw {rows:List (List I3)} (hp:Zf rows=true) {st:Zy} (h:LV rows st) {m:V4} (hs:Zc m=true) (hk:(Z7 rows 0 19 m st).2.2≤2000) :
  (Z7 rows 0 19 m st).1=Yr rows 18 m∧LV rows (Z7 rows 0 19 m st).2∧(ZG rows 19 m ([],0)).2.2=true:=by
 obtain ⟨hT,hC,hl⟩:=h
 have hf:ZR rows m<19:=Nat.lt_succ_of_le (Wt hp m)
 obtain ⟨k1,k2⟩:=Mr hp (g:=0) 19 m st hs hf (Ph hT.1) (by rw [Nat.zero_add];exact Nat.le_of_eq hl) (by rw [Nat.zero_add];exact hk)
 obtain ⟨r1,r2,r3⟩:=NE hp (f:=19) (st:=st) hs hf hT k1
 have hcl:=Pm hp 19 m st hs hf hT hC k1
 rw [k2]
 exact ⟨r1,Ct hl r2.1 hcl r2.2.2.2,Dt hp r2.1 hcl hs r3⟩
theorem Ds {rows:List (List I3)} (hp:Zf rows=true) {m:V4} (hs:Zc m=true) (hk:¬ (Z7 rows 0 19 m ([],0)).2.2≤2000):(ZG rows 19 m ([],0)).2.2=false:=
 (LP hp (f:=19) (es:=[]) hs (Nat.lt_succ_of_le (Wt hp m)) TM).2 (by simpa using hk)


theorem Dp {rows:List (List I3)} (hp:Zf rows=true) {e:E3} (hs:Zc (Yh e.1)=true) (hk:(ZG rows 19 (Yh e.1) ([],0)).2.2=true):Wu rows e=decide (e=Yr rows 18 (Yh e.1)):=by
 have h1:=(NE hp (f:=19) (st:=([],0)) hs (Nat.lt_succ_of_le (Wt hp _)) (GQ rows) hk).1
 unfold Wu Dq
 rw [hk,h1,Bool.true_and]
 by_cases h:e=Yr rows 18 (Yh e.1)
 ·rw [decide_eq_true h,decide_eq_true h.symm]
 rw [decide_eq_false h,decide_eq_false (fun h9=>h h9.symm)]
theorem Cs {rows:List (List I3)} {e:E3} (hk:(ZG rows 19 (Yh e.1) ([],0)).2.2=false):Wu rows e=false:=by
 unfold Wu Dq
 rw [hk,Bool.false_and]
def G4 (rows:List (List I3)) (m:V4) (g:E3) (st:Zy):Prop:=(st.2≤2000→g=Yr rows 18 m∧LV rows st∧(ZG rows 19 m ([],0)).2.2=true)∧(¬ st.2≤2000→(ZG rows 19 m ([],0)).2.2=false)
theorem KS {rows:List (List I3)} (hp:Zf rows=true) {st:Zy} (h:LV rows st) {m:V4} (hs:Zc m=true) (hk:(Z7 rows 0 19 m st).2.2≤2000):G4 rows m (Z7 rows 0 19 m st).1 (Z7 rows 0 19 m st).2:=⟨fun _=>Nw hp h hs hk,fun h9=>absurd hk h9⟩
theorem KR {rows:List (List I3)} (hp:Zf rows=true) {m:V4} (hs:Zc m=true):G4 rows m (Z7 rows 0 19 m ([],0)).1 (Z7 rows 0 19 m ([],0)).2:=⟨fun hk=>Nw hp (LN rows) hs hk,fun hk=>Ds hp hs hk⟩
theorem LZ {rows:List (List I3)} {es:List E3} {i:Nat} (h:i<es.length):(es.take (i+1)).all (Wu rows)=((es.take i).all (Wu rows) && Wu rows (es.getD i e3d)):=by
 rw [List.take_add_one,List.getElem?_eq_getElem h,List.all_append]
 simp [List.getD,List.getElem?_eq_getElem h]
theorem Ms {rows:List (List I3)} {es:List E3} {i:Nat} (h:i<es.length) (hf:Wu rows (es.getD i e3d)=false):es.all (Wu rows)=false:=by
 rw [← Bool.not_eq_true,List.all_eq_true]
 intro h9
 have:=h9 (es.getD i e3d) (by simp [List.getD,List.getElem?_eq_getElem h])
 rw [this] at hf
 cases hf


theorem T2 (w:World):Wv w none 0 0 []:=⟨rfl,Nat.le_refl _,by unfold maxLen;omega,(fun x hx=>by cases hx),.inl rfl⟩
theorem Jl {w0 w:World} {C nb n:Nat} {D:DataW Value} (hb:Below w0.heap.size w0 w) (hC:Blk w C 108 [.map (some nb),.int .i64 0,.int .i64 0]) (hm:w.ownsMap Tryz.prog 9 VX nb n D) (hG:UR D []) (h1:w0.heap.size≤C) (h2:w0.heap.size≤nb):OnC w0 w C nb 0 n [] 0:=
 ⟨hb,hC,⟨D,hm,hG⟩,(fun x hx=>by cases hx),h1,h2⟩
structure Cv (rows:List (List I3)) (es:List E3) (w wr:World) (X XP:Nat) (pv:Value) (i nb n':Nat) (L:List EQ) (st:Zy):Prop where
 oc:OnC w wr X nb 0 n' L st.2
 lm:L.map (·.1)=st.1
 tq:LV rows st
 few:st.2≤2000
 nn:n'≤st.2
 pp:Blk wr XP 25 [pv]
 al:(es.take i).all (Wu rows)=true
def LT (rows:List (List I3)) (w W:World) (X XP X7 Y12:Nat) (pv:Value) (e:E3) (s7:Sl2) (m:V4):Prop:=∃ (nb n':Nat) (L:List EQ) (st:Zy) (g:E3) (s:Sl2),OnC w W X nb 0 n' L st.2∧L.map (·.1)=st.1∧n'≤st.2∧G4 rows m g st∧Blk W XP 25 [pv]∧Blk W X7 45 (YI e.1 s7)∧Blk W Y12 45 (YI g.1 s)∧YK W s g∧st.2≤600000000
theorem GR {rows:List (List I3)} {cap:Nat} (hp:Zf rows=true) (es:List E3) (w:World) (a9:Option Addr) (am:Option Addr) (n c:Nat) (hC:YT w a9 3 cap rows) (hA:Y6 w am n c es) (hok:∀ e ∈ es,YY e=true) (hV:ZN w) (hn2:n≤2000) :
  Calls Tryz.prog 39 #[.agg #[.slice a9 3 cap],.slice am n c] w fun x w'=>x=.returned (.bool (es.all (Wu rows)))∧Below w.heap.size w w':=by
 obtain ⟨_,cs,hR⟩:=hC.rowsAt hp
 have hI:∀ k,k<3→Zr w (slK cs k).1 (slK cs k).2.1 (slK cs k).2.2 (Yg rows k):=fun k hk=>by
  obtain ⟨b,off,_,_,h9⟩:=hR
  exact (h9 k hk).2
 have hl:=hA.1
 obtain ⟨fin,hfin⟩:∃ fin,fin=es.all (Wu rows):=⟨_,rfl⟩
 rw [← hfin]
 have HF:Hid (fin=es.all (Wu rows)):=hfin
 clear hfin
 have bw:Below w.heap.size w (w.alloc (.cells #[.slice a9 3 cap] 25)):=by go_grown
 have pP:Blk (w.alloc (.cells #[.slice a9 3 cap] 25)) w.heap.size 25 [.slice a9 3 cap]:=Zj _ _ _ rfl
 go_enter Tryz.func39,Tryz.ntmps39
 go_wp2_with fail
 generalize (w.alloc (.cells #[.slice a9 3 cap] 25))=U at *
 obtain ⟨XP,hXP⟩:∃ XP,XP=w.heap.size:=⟨_,rfl⟩
 rw [← hXP] at pP ⊢
 have hXPw:w.heap.size≤XP:=by omega
 clear hXP
 have kF:=Uq none 0 0 [] U (T2 U) rfl
 refine kF.mono ?_
 rintro e w1 ⟨⟨nb,D,rfl,hm,hG,hBn⟩,hb⟩
 have hnb:=Nat.le_trans bw.size hBn
 replace bw:=Zb bw hb
 replace pP:=pP.below hb
 clear kF hb hBn
 have pN:=Blk.new w1 108 [.map none,.int .i64 0,.int .i64 0]
 have hbN:Below w1.heap.size w1 (w1.alloc (.cells #[.map none,.int .i64 0,.int .i64 0] 108)):=by go_grown
 have hmN:=hm.alloc (.cells #[.map none,.int .i64 0,.int .i64 0] 108)
 have hmlt:=hm.lt
 go_wp2_with (refine Ze rfl 108 _ _ rfl w1.heap.size [.map (some nb),.int .i64 0,.int .i64 0] rfl rfl pN (by kernel_rfl) rfl rfl ?_)
 intro w2 p2 g2
 have pX:=p2.out
 have b2:Below w1.heap.size w1 w2:=hbN.grown g2 hbN.size (fun q e=>by cases e;exact Nat.le_refl _)
 have hm2:=hmN.kept g2 (by simp;omega)
 replace pP:=pP.below b2
 have hw1:=bw.size
 replace bw:=Zb bw b2
 clear p2 g2 b2 hbN pN hm hmN
 obtain ⟨X,hX⟩:∃ X,X=w1.heap.size:=⟨_,rfl⟩
 rw [← hX] at pX ⊢
 have hXw:w.heap.size≤X:=by omega
 clear hX hmlt
 have oc0:OnC w w2 X nb 0 0 [] 0:=Jl bw pX hm2 hG hXw hnb
 clear pX hm2 hG hnb hw1 bw
 go_wp2_with fail
 go_loopw [17] (fun s17 wr=>∃ (i nb n':Nat) (L:List EQ) (st:Zy),s17=.int .i64 (i:Int)∧i≤n∧Cv rows es w wr X XP (.slice a9 3 cap) i nb n' L st) (fun s17 _=>n - (intOf s17).toNat)
 case atStart=>exact ⟨0,nb,0,[],([],0),rfl,Nat.zero_le _,⟨oc0,rfl,LN rows,by show 0≤2000;omega,Nat.le_refl _,pP,by rw [List.take_zero];rfl⟩⟩
 case round =>
  clear oc0 pP
  obtain ⟨i,nb,n',L,st,rfl,hin,⟨oc,lm,tq,few,nn,pp,al⟩⟩:=hrel
  by_cases hlt2:i<n
  ·obtain ⟨_,_,_,hcase⟩:=hA
   rcases hcase with e0 | ⟨b,off,rfl,hblt,hcell⟩
   ·omega
   obtain ⟨⟨⟨s1a,s1n,s1c⟩,⟨s2a,s2n,s2c⟩⟩,y0,y1,y2,hEe⟩:=hcell i hlt2
   have hmem:es.getD i e3d ∈ es:=by
    have h9:i<es.length:=by omega
    simp [List.getD,List.getElem?_eq_getElem h9]
   obtain ⟨h15,hsh⟩:=Td (Wd (hok _ hmem)).1
   have HYES:Hid ((ZG rows 19 (Yh (es.getD i e3d).1) ([],0)).2.2=true→Wu rows (es.getD i e3d)=decide (es.getD i e3d=Yr rows 18 (Yh (es.getD i e3d).1))):=fun hk=>Dp hp hsh hk
   have HNO:Hid ((ZG rows 19 (Yh (es.getD i e3d).1) ([],0)).2.2=false→Wu rows (es.getD i e3d)=false):=fun hk=>Cs hk
   have HALL:Hid ((es.take (i+1)).all (Wu rows)=((es.take i).all (Wu rows) && Wu rows (es.getD i e3d))):=LZ (by omega)
   have HFALSE:Hid (Wu rows (es.getD i e3d)=false→es.all (Wu rows)=false):=fun hf=>Ms (by omega) hf
   have HAL:Hid ((es.take i).all (Wu rows)=true):=al
   generalize es.getD i e3d=e at *
   have HE:Hid (YY e=true):=hok _ hmem
   obtain ⟨ek,eb,ez⟩:=e
   simp only at y0 y1 y2 hEe h15 hsh HYES HNO
   have c0:=Za oc.base _ _ y0
   have c1:=Za oc.base _ _ y1
   have c2:=Za oc.base _ _ y2
   have hlt3:(i:Int)<(n:Int):=by omega
   have hi0:(0:Int)≤(i:Int):=by omega
   have hEr:∀ e ∈ st.1,YL e:=fun e he=>R3 ((Xt.1 tq.1.1).1 e he)
   have hlf:ZR rows (Yh ek)<19:=Nat.lt_succ_of_le (Wt hp _)
   have hbE:Below wr.heap.size wr (wr.alloc (.cells #[.string ek,.slice s1a s1n s1c,.slice s2a s2n s2c] 45)):=by go_grown
   have p7:Blk (wr.alloc (.cells #[.string ek,.slice s1a s1n s1c,.slice s2a s2n s2c] 45)) wr.heap.size 45 [.string ek,.slice s1a s1n s1c,.slice s2a s2n s2c]:=Zj _ _ _ rfl
   clear y0 y1 y2 hcell al hmem
   go_upto_region 5 with fail
   replace oc:=oc.below hbE
   replace pp:=pp.below hbE
   clear hbE c0 c1 c2
   generalize (wr.alloc (.cells #[.string ek,.slice s1a s1n s1c,.slice s2a s2n s2c] 45))=W5 at *
   obtain ⟨X7,hX7⟩:∃ X7,X7=wr.heap.size:=⟨_,rfl⟩
   rw [← hX7] at p7 ⊢
   clear hX7
   have z0:=p7.cell 0
   simp only [List.getElem?_cons_zero] at z0
   have kV:=RH ek W5 h15 (hV.below oc.base)
   rw [if_pos hsh,if_pos hsh] at kV
   obtain ⟨m,hm9⟩:∃ m,m=Yh ek:=⟨_,rfl⟩
   rw [← hm9] at kV hsh hlf HYES HNO
   clear hm9
   go_wp2_with fail
   refine kV.mono ?_
   rintro e W6 ⟨⟨t,rfl,hOv⟩,hb⟩
   have hVm:=hOv.mem (YC hsh).1
   replace oc:=oc.below hb
   replace pp:=pp.below hb
   replace p7:=p7.below hb
   clear kV hOv hb z0
   obtain ⟨⟨t0a,t0n,t0c⟩,⟨t1a,t1n,t1c⟩,⟨t2a,t2n,t2c⟩,⟨t3a,t3n,t3c⟩⟩:=t
   have ut:S4.val ((t0a,t0n,t0c),(t1a,t1n,t1c),(t2a,t2n,t2c),(t3a,t3n,t3c))=.agg #[.slice t0a t0n t0c,.slice t1a t1n t1c,.slice t2a t2n t2c,.slice t3a t3n t3c]:=rfl
   simp only [ut]
   have pN:=Blk.new W6 88 [.slice none 0 0,.slice none 0 0,.slice none 0 0,.slice none 0 0]
   have hbN:Below W6.heap.size W6 (W6.alloc (.cells #[.slice none 0 0,.slice none 0 0,.slice none 0 0,.slice none 0 0] 88)):=by go_grown
   go_wp2_with (refine Ze rfl 88 _ _ rfl W6.heap.size [.slice t0a t0n t0c,.slice t1a t1n t1c,.slice t2a t2n t2c,.slice t3a t3n t3c] rfl rfl pN (by kernel_rfl) rfl rfl ?_)
   intro W7 p8 g8
   have pVm:=p8.out
   have b8:Below W6.heap.size W6 W7:=hbN.grown g8 hbN.size (fun q e=>by cases e;exact Nat.le_refl _)
   replace oc:=oc.below b8
   replace pp:=pp.below b8
   replace p7:=p7.below b8
   replace hVm:=hVm.below b8
   clear p8 g8 hbN pN b8
   generalize W6.heap.size=X8 at *
   have kM:=Ux a9 3 cap rows _ m W7 (hC.below oc.base) hVm (hV.below oc.base) hp hsh
   rw [ut] at kM
   have cP:=pp.cell 0
   simp only [List.getElem?_cons_zero] at cP
   go_wp2_with (refine Zd rfl 88 _ rfl X8 rfl pVm _ Tryz.underlying88 rfl (by kernel_rfl) ?_)
   refine kM.mono ?_
   rintro e W8 ⟨⟨cs',rfl,hR'⟩,hb⟩
   obtain rfl:=(hR.below oc.base).uniq hR'
   replace oc:=oc.below hb
   replace pp:=pp.below hb
   replace p7:=p7.below hb
   clear kM hb cP pVm hVm hR' ut
   have pN:=Blk.new W8 98 [.slice none 0 0,.int .i64 0,.int .i64 0,.int .i64 0,.slice none 0 0,.int .i64 0,.int .i64 0,.int .i64 0,.slice none 0 0,.int .i64 0,.int .i64 0,.int .i64 0,.int .i64 0,.int .i64 0,.int .i64 0,.int .i64 0,.int .i64 0,.int .i64 0]
   have hbN:Below W8.heap.size W8 (W8.alloc (.cells #[.slice none 0 0,.int .i64 0,.int .i64 0,.int .i64 0,.slice none 0 0,.int .i64 0,.int .i64 0,.int .i64 0,.slice none 0 0,.int .i64 0,.int .i64 0,.int .i64 0,.int .i64 0,.int .i64 0,.int .i64 0,.int .i64 0,.int .i64 0,.int .i64 0] 98)):=by go_grown
   go_wp2_with (refine Ze rfl 98 _ _ rfl W8.heap.size (Zi cs.1.val cs.2.1.val cs.2.2.val m) rfl rfl pN (by kernel_rfl) rfl rfl ?_)
   intro W9 p9 g9
   have pM:=p9.out
   have b9:Below W8.heap.size W8 W9:=hbN.grown g9 hbN.size (fun q e=>by cases e;exact Nat.le_refl _)
   replace oc:=oc.below b9
   replace pp:=pp.below b9
   replace p7:=p7.below b9
   clear p9 g9 hbN pN b9
   generalize W8.heap.size=XM at *
   have kVis:=fun (nb:Nat)=>Ty (g:=0) (w0:=w) (C:=X) (nb:=nb) (cs:=cs) hp (by omega) hV hI 19
   have k1:=kVis nb m st n' L W9 hsh hlf hEr (by rw [Nu];omega) (by omega) lm oc
   have HT1:Hid ((Z7 rows 0 19 m st).2.2≤2000→G4 rows m (Z7 rows 0 19 m st).1 (Z7 rows 0 19 m st).2):=fun hk=>KS hp tq hsh hk
   have htop:=Tw (rows:=rows) (g:=0) 19 m st
   rw [Nu] at htop
   go_wp2_with (refine Zd rfl 98 _ rfl XM rfl pM _ Tryz.underlying98 rfl (by kernel_rfl) ?_)
   refine k1.mono ?_
   rintro e W10 ⟨⟨⟨ba,bn,bc⟩,⟨za,zn,zc⟩⟩,L2,n2,rfl,hEm,hOff,hEs,oc2,lm2,nn2,old2,kp2⟩
   generalize Z7 rows 0 19 m st=Q at *
   obtain ⟨⟨gk,gb,gz⟩,st2⟩:=Q
   simp only at hEm oc2 lm2 nn2 htop HT1
   have uE:ZW gk ((ba,bn,bc),(za,zn,zc))=.agg #[.string gk,.slice ba bn bc,.slice za zn zc]:=rfl
   simp only [uE]
   clear uE
   replace pp:=kp2.blk pp (Z8 pp oc.box (by decide)) (oc.noblk pp)
   replace p7:=kp2.blk p7 (Z8 p7 oc.box (by decide)) (oc.noblk p7)
   replace pM:=kp2.blk pM (Z8 pM oc.box (by decide)) (oc.noblk pM)
   have hY7:X7<W10.heap.size:=p7.lt
   have htop9:st2.2≤600000000:=by omega
   have hnn2:n2≤st2.2:=by omega
   clear k1 oc lm tq few nn hEs old2 kp2
   have pN:=Blk.new W10 45 [.string ⟨#[]⟩,.slice none 0 0,.slice none 0 0]
   have hbN:Below W10.heap.size W10 (W10.alloc (.cells #[.string ⟨#[]⟩,.slice none 0 0,.slice none 0 0] 45)):=by go_grown
   go_wp2_with (refine Ze rfl 45 _ _ rfl W10.heap.size [.string gk,.slice ba bn bc,.slice za zn zc] rfl rfl pN (by kernel_rfl) rfl rfl ?_)
   intro W11 p11 g11
   have pG:=p11.out
   have b11:Below W10.heap.size W10 W11:=hbN.grown g11 hbN.size (fun q e=>by cases e;exact Nat.le_refl _)
   have hY12:=Nat.le_trans oc2.base.size (Nat.le_refl W10.heap.size)
   replace oc2:=oc2.below b11
   replace pp:=pp.below b11
   replace p7:=p7.below b11
   replace pM:=pM.below b11
   replace hEm:=hEm.below b11
   clear p11 g11 hbN pN b11
   obtain ⟨Y12,hYY⟩:∃ Y12,Y12=W10.heap.size:=⟨_,rfl⟩
   rw [← hYY] at pG hY12 hY7 ⊢
   clear hYY
   have kOv:=Qa 0 st2.2 oc2.box (by omega)
   go_wp2_with fail
   refine kOv.mono ?_
   rintro e W12 ⟨rfl,hb⟩
   replace oc2:=oc2.below hb
   replace pp:=pp.below hb
   replace p7:=p7.below hb
   replace pM:=pM.below hb
   replace pG:=pG.below hb
   replace hEm:=hEm.below hb
   clear kOv hb
   have nI:=Yd ⟨#[]⟩ ((none,0,0),(none,0,0))
   have hXX:X<W12.heap.size:=oc2.box.lt
   obtain ⟨ov,hov⟩:∃ ov,ov=decide (2000<0+st2.2):=⟨_,rfl⟩
   rw [← hov]
   have HOV:Hid (ov=decide (2000<0+st2.2)):=hov
   clear hov
   go_upto_if 35 with fail
   go_cut [] from 35 to 39 (fun W=>LT rows w W X XP X7 Y12 (.slice a9 3 cap) (ek,eb,ez) ((s1a,s1n,s1c),(s2a,s2n,s2c)) m)
   case first =>
    cases ov
    ·have h9:¬ 2000<0+st2.2:=of_decide_eq_false HOV.out.symm
     have HQ:Hid (LT rows w W12 X XP X7 Y12 (.slice a9 3 cap) (ek,eb,ez) ((s1a,s1n,s1c),(s2a,s2n,s2c)) m):=⟨nb,n2,L2,st2,(gk,gb,gz),((ba,bn,bc),(za,zn,zc)),oc2,lm2,by omega,HT1.out (by omega),pp,p7,pG,hEm,by omega⟩
     clear h9 HT1 oc2 pp p7 pM pG hEm kVis HYES HNO HALL HFALSE HAL
     go_wp2_with fail
     go_meet
     case rel=>exact HQ.out
    have kF2:=Uq none 0 0 [] W12 (T2 W12) rfl
    go_wp2_with fail
    refine kF2.mono ?_
    rintro e W13 ⟨⟨nb2,D2,rfl,hm3,hG3,hB3⟩,hb3⟩
    have b13:=Zb oc2.base hb3
    have pX3:=oc2.box.below hb3
    replace pp:=pp.below hb3
    replace p7:=p7.below hb3
    replace pM:=pM.below hb3
    replace pG:=pG.below hb3
    have hs12:=oc2.base.size
    clear kF2 hb3 oc2 hEm HT1 lm2 nn2 hnn2
    go_wp2_with (refine Ze rfl 108 _ _ rfl X [.map (some nb2),.int .i64 0,.int .i64 0] rfl rfl pX3 (by kernel_rfl) rfl rfl ?_)
    intro W14 p14 g14
    have pX4:=p14.out
    have hm4:=hm3.kept g14 (by simp;omega)
    have oc4:OnC w W14 X nb2 0 0 [] 0:=Jl (b13.grown g14 b13.size (fun q e=>by cases e;exact hXw)) pX4 hm4 hG3 hXw (by omega)
    replace pp:=pp.kept g14 (fun e=>Z8 pX3 pp (by decide) (by cases e;rfl))
    replace p7:=p7.kept g14 (fun e=>Z8 pX3 p7 (by decide) (by cases e;rfl))
    replace pM:=pM.kept g14 (fun e=>Z8 pX3 pM (by decide) (by cases e;rfl))
    replace pG:=pG.kept g14 (fun e=>Z8 pX3 pG (by decide) (by cases e;rfl))
    clear p14 g14 pX3 pX4 hm3 hm4 hG3 b13
    have k2:=kVis nb2 m ([],0) 0 [] W14 hsh hlf (fun e he=>by cases he) (by show 0+UJ 19≤600000000;rw [Nu];omega) (Nat.le_refl _) rfl oc4
    have HT2:Hid (G4 rows m (Z7 rows 0 19 m ([],0)).1 (Z7 rows 0 19 m ([],0)).2):=KR hp hsh
    have htop2:=Tw (rows:=rows) (g:=0) 19 m ([],0)
    rw [Nu] at htop2
    go_wp2_with (refine Zd rfl 98 _ rfl XM rfl pM _ Tryz.underlying98 rfl (by kernel_rfl) ?_)
    refine k2.mono ?_
    rintro e W15 ⟨⟨⟨da,dn,dc⟩,⟨fa,fn,fc⟩⟩,L3,n3,rfl,hEm3,hOff3,_,oc3,lm3,nn3,_,kp3⟩
    generalize Z7 rows 0 19 m ([],0)=Q3 at *
    obtain ⟨⟨hk9,hb9,hz9⟩,st3⟩:=Q3
    simp only at hEm3 oc3 lm3 nn3 htop2 HT2
    have uE:ZW hk9 ((da,dn,dc),(fa,fn,fc))=.agg #[.string hk9,.slice da dn dc,.slice fa fn fc]:=rfl
    simp only [uE]
    clear uE
    replace pp:=kp3.blk pp (Z8 pp oc4.box (by decide)) (oc4.noblk pp)
    replace p7:=kp3.blk p7 (Z8 p7 oc4.box (by decide)) (oc4.noblk p7)
    replace pG:=kp3.blk pG (Z8 pG oc4.box (by decide)) (oc4.noblk pG)
    clear k2 oc4 kp3 pM kVis
    go_wp2_with (refine Ze rfl 45 _ _ rfl Y12 [.string hk9,.slice da dn dc,.slice fa fn fc] rfl rfl pG (by kernel_rfl) rfl rfl ?_)
    intro W16 p16 g16
    have pY:=p16.out
    have nJ:=Yd gk ((ba,bn,bc),(za,zn,zc))
    have oc6:=oc3.grow g16 (fun e=>Z8 pG oc3.box (by decide) (by cases e;rfl)) (fun e=>oc3.noblk pG (by cases e;rfl)) (fun j e=>by cases e;exact hY12) (fun x hx q hq e=>(oc3.ents x hx).1.off11 hq pG nJ (by cases e;rfl))
    have hEm6:=hEm3.same11 g16.size (fun j hj=>g16.block j (hEm3.blk11 hj).1 (fun e=>hEm3.off11 hj pG nJ (by cases e;rfl)))
    replace pp:=pp.kept g16 (fun e=>Z8 pG pp (by decide) (by cases e;rfl))
    replace p7:=p7.kept g16 (fun e=>by cases e;omega)
    have HQ:Hid (LT rows w W16 X XP X7 Y12 (.slice a9 3 cap) (ek,eb,ez) ((s1a,s1n,s1c),(s2a,s2n,s2c)) m):=⟨nb2,n3,L3,st3,(hk9,hb9,hz9),((da,dn,dc),(fa,fn,fc)),oc6,lm3,by omega,HT2.out,pp,p7,pY,hEm6,by omega⟩
    clear p16 g16 oc3 oc6 hEm3 hEm6 pp p7 pY pG HT2 HYES HNO HALL HFALSE HAL
    go_wp2_with fail
    go_meet
    case rel=>exact HQ.out
   obtain ⟨nb3,n3,L3,st3,⟨hk9,hb9,hz9⟩,⟨⟨da,dn,dc⟩,⟨fa,fn,fc⟩⟩,oc3,lm3,nn3,HT,pp,p7,pY,hEm3,hb6⟩:=hcut
   clear HT1 oc2 pM pG hEm kVis lm2 nn2 hnn2
   have kOv:=Qa 0 st3.2 oc3.box (by omega)
   go_wp2_with fail
   refine kOv.mono ?_
   rintro e W17 ⟨rfl,hb⟩
   replace oc3:=oc3.below hb
   replace pp:=pp.below hb
   replace p7:=p7.below hb
   replace pY:=pY.below hb
   replace hEm3:=hEm3.below hb
   clear kOv hb
   by_cases hov:2000<0+st3.2
   ·rw [decide_eq_true hov]
    have hff:fin=false:=HF.out.trans (HFALSE.out (HNO.out (HT.2 (by omega))))
    have bz:=oc3.base
    subst hff
    clear oc3 pp p7 pY hEm3 HYES HNO HALL HFALSE HAL HF
    go_wp2
    go_ret
    exact ⟨rfl,bz⟩
   rw [decide_eq_false hov]
   obtain ⟨hg9,htq,hkk⟩:=HT.1 (by omega)
   have z0:=p7.cell 0
   have z1:=p7.cell 1
   have z2:=p7.cell 2
   have v0:=pY.cell 0
   have v1:=pY.cell 1
   have v2:=pY.cell 2
   simp only [YI,List.getElem?_cons_zero,List.getElem?_cons_succ] at z0 z1 z2 v0 v1 v2
   have kE:=Sr (ek,eb,ez) (hk9,hb9,hz9) ((s1a,s1n,s1c),(s2a,s2n,s2c)) ((da,dn,dc),(fa,fn,fc)) W17 (hEe.below oc3.base) hEm3
   unfold ZW at kE
   simp only at kE
   go_wp2_with fail
   refine kE.mono ?_
   rintro e W18 ⟨rfl,hb⟩
   replace oc3:=oc3.below hb
   replace pp:=pp.below hb
   clear kE hb z0 z1 z2 v0 v1 v2 p7 pY hEm3
   obtain ⟨sb,hsb⟩:∃ sb,sb=decide ((ek,eb,ez)=(hk9,hb9,hz9)):=⟨_,rfl⟩
   rw [← hsb]
   have hty:Wu rows (ek,eb,ez)=sb:=by rw [HYES.out hkk,hsb,hg9]
   clear hsb hg9 hkk
   cases sb
   ·have hff:fin=false:=HF.out.trans (HFALSE.out hty)
    have bz:=oc3.base
    subst hff
    clear oc3 pp HYES HNO HALL HFALSE HAL HF hty
    go_wp2
    go_ret
    exact ⟨rfl,bz⟩
   have st9:Cv rows es w W18 X XP (.slice a9 3 cap) (i+1) nb3 n3 L3 st3:=⟨oc3,lm3,htq,by omega,nn3,pp,by rw [HALL.out,HAL.out,hty];rfl⟩
   clear oc3 pp HYES HNO HALL HFALSE HAL HT hty htq lm3
   go_wp2
   go_roundw
   case rel=>exact ⟨i+1,nb3,n3,L3,st3,by go_num,by omega,st9⟩
   case measure=>simp [intOf];omega
  obtain rfl:i=n:=by omega
  have hff:fin=true:=by rw [HF.out,← al,List.take_of_length_le (by omega)]
  have bz:=oc.base
  have hge:¬ (i:Int)<(i:Int):=by omega
  subst hff
  clear oc pp al HF tq lm
  go_wp2
  go_ret
  exact ⟨rfl,bz⟩
end Go.Proofs.YtgmhhegckcionaaGreatDoor
