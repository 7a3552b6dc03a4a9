/-
  Joined: VstI, ChkY, Vj3P, VisA, LokA.
-/
import Derived.Defers
import Derived.Test.YtnffeclgboomoaaGreatDoorT42

namespace Go.Proofs.YtnffeclgboomoaaGreatDoor
set_option maxRecDepth 100000
set_option maxHeartbeats 16000000
open Go.RowKit
set_option linter.unusedVariables false
set_option linter.unusedSimpArgs false

theorem Qi (w:World):(zeroValue 45).run Tryz.prog w=.ok (.agg #[.string ⟨#[]⟩,.slice none 0 0,.slice none 0 0]) w:=by kernel_rfl
def G7 (Q:Exit→Act→World→Prop) (e:Exit) (a:Act) (w:World):Prop:=match e with
 | .normal=>Q .normal a w
 | _=>False
theorem Hu {Q:Exit→Act→World→Prop}:∀ e a w,G7 Q e a w→Q e a w:=by
 intro e a w h
 cases e<;>first | exact h | exact h.elim
theorem NS {Q:Exit→Act→World→Prop} {a:Act} {w:World} (h:Q .normal a w):G7 Q .normal a w:=h
theorem Q2 {P:Program} {fn:Func} {R:Ending→World→Prop} {a:Act} {w:World} {v:Value} (hd:a.defers=[]) (hr:(results fn a.tmps).run P w=.ok v w) (hR:R (.returned v) w):bodyPostD P fn R .ret a w:=by
 show Leaves P fn a.tmps R a.defers .returning w
 rw [hd]
 exact ⟨v,hr,hR⟩
def Ms (V W:World) (cells:List Value) (b:Bool) (s6 s7:Value):Prop:=∃ Q,s6=.pointer (some ⟨Q,0,none⟩)∧s7=.bool b∧Blk W Q 45 cells∧Below V.heap.size V W∧V.heap.size≤Q
theorem Ls {rows:List (List I3)} {g f:Nat} {m:V4} {st:Zv} (h:isE st.1 (Zs m)=true):Z3 rows g (f+1) m st=(WS st.1 (Zs m),st):=by unfold Z3;rw [if_pos h]
theorem JU {rows:List (List I3)} {g f:Nat} {m:V4} {st:Zv} (h:isE st.1 (Zs m)=false) (h2:2000<g+(st.2+1)):Z3 rows g (f+1) m st=(e3d,(st.1,st.2+1)):=by unfold Z3;rw [h,if_neg (by simp),if_pos h2]
theorem JT {rows:List (List I3)} {g f:Nat} {m:V4} {st:Zv} (h:isE st.1 (Zs m)=false) (h2:¬ 2000<g+(st.2+1)):Z3 rows g (f+1) m st=(Vc m (ZV rows g f m (st.1,st.2+1) 3),(Xc (ZV rows g f m (st.1,st.2+1) 3).2.1 (Vc m (ZV rows g f m (st.1,st.2+1) 3)),(ZV rows g f m (st.1,st.2+1) 3).2.2)):=by
 unfold Z3
 rw [h,if_neg (by simp),if_neg h2,Sk (Y3 rows m 3)]
theorem GM {D:DataW Value} {L:List EQ} (hG:UD D L) (key:ByteArray) (z:Value):∃ (k9:ByteArray) (s:Sl2),(isE (L.map (·.1)) key=true→(WS (L.map (·.1)) key,s) ∈ L∧(WS (L.map (·.1)) key).1=key∧k9=key∧D.atKey (VF key) (.held z)=.held (ZR k9 s))∧(isE (L.map (·.1)) key=false→z=ZR ⟨#[]⟩ ((none,0,0),(none,0,0))→D.atKey (VF key) (.held z)=.held (ZR k9 s)∧k9=⟨#[]⟩∧s=((none,0,0),(none,0,0))):=by
 by_cases h:isE (L.map (·.1)) key=true
 ·obtain ⟨s,h1,h2,h3⟩:=hG.found h
  exact ⟨key,s,fun _=>⟨h1,h2,rfl,h3 _⟩,fun h9=>by rw [h] at h9;cases h9⟩
 refine ⟨⟨#[]⟩,((none,0,0),(none,0,0)),fun h9=>absurd h9 h,fun h9 hz=>⟨?_,rfl,rfl⟩⟩
 rw [Maps.atKey_of_not_has (by rw [hG.has];exact h9),hz]
theorem Lv {rows:List (List I3)} {g:Nat} {w0:World} {C nb:Nat} {cs:Sl × Sl × Sl} (hp:Zj rows=true) (hg:g≤2000) (hV:ZL w0) (hI:∀ k,k<3→Zl w0 (slK cs k).1 (slK cs k).2.1 (slK cs k).2.2 (Xn rows k)) {f:Nat} (ih:Po rows g w0 C nb cs f):Po rows g w0 C nb cs (f+1):=by
 intro m st n L w hs hf hE ht hn hL hO
 have hmf:∀ (fn:Fn) (first cap:Array Value) (w:World),(Instr.makeFunc fn first cap).run Tryz.prog w=.ok (.func fn first cap) w:=fun _ _ _ _=>rfl
 have htf:VI (f+1)=1+3*VI f:=rfl
 rw [htf] at ht

 obtain ⟨D,hm,hG⟩:=hO.map
 obtain ⟨key,hkey⟩:∃ key,key=Zs m:=⟨_,rfl⟩
 have hks:key.size≤maxLen:=by rw [hkey,Vt hs];unfold maxLen;omega
 have hkl:keyOf Tryz.prog 9 (.string key)=some (VF key):=WideMaps.keyOf_string_mk Tryz.underlying9 hks
 have HN:=fun (W:World)=>MC hp hg hV hI ih m (st.1,st.2+1) n L W hs hf hE (by show st.2+1+3*VI f≤600000000;omega) (by show n+1≤g+(st.2+1);omega) hL
 rw [← hkey] at HN
 have kK:=fun (W:World) (q:Nat) (h:Blk W q 122 (Zk cs.1.val cs.2.1.val cs.2.2.val m)) (hV:ZL W)=>GQ (cs:=cs) h hs hV
 rw [← hkey] at kK
 obtain ⟨k9,⟨⟨s1a,s1n,s1c⟩,⟨s2a,s2n,s2c⟩⟩,hY9,hN9⟩:=GM hG key (.agg #[.string ⟨#[]⟩,.slice none 0 0,.slice none 0 0])
 rw [hL] at hY9 hN9
 obtain ⟨bb,hbb9⟩:∃ bb,bb=isE st.1 key:=⟨_,rfl⟩
 rw [← hbb9] at hY9 hN9
 have HV:Hid (∀ v ps,VH v=some (D.atKey (VF key) (.held (.agg #[.string ⟨#[]⟩,.slice none 0 0,.slice none 0 0])),ps)→v=.agg #[.string k9,.slice s1a s1n s1c,.slice s2a s2n s2c]∧Maps.has D (VF key)=bb):=by
  intro v ps hv
  refine ⟨?_,by rw [hG.has,hL,hbb9]⟩
  unfold VH at hv
  injection hv with hv
  injection hv with hv _
  cases hq:bb
  ·have h9:=(hN9 hq rfl).1
   rw [h9] at hv
   injection hv
  have h9:=(hY9 hq).2.2.2
  rw [h9] at hv
  injection hv
 have HKEY:Hid (key=Zs m):=hkey
 have HBB:Hid (bb=isE st.1 (Zs m)):=by rw [Hid,hbb9,hkey]
 clear hkey hbb9
 have hCw:C<w.heap.size:=hO.box.lt
 obtain ⟨x0,x1,x2,x3,x4,x5,x6,x7,x8,x9,x10,x11,x12,x13,x14,x15,x16,x17,hMC⟩:∃ x0 x1 x2 x3 x4 x5 x6 x7 x8 x9 x10 x11 x12 x13 x14 x15 x16 x17:Value,Zk cs.1.val cs.2.1.val cs.2.2.val m=[x0,x1,x2,x3,x4,x5,x6,x7,x8,x9,x10,x11,x12,x13,x14,x15,x16,x17]:=⟨_,_,_,_,_,_,_,_,_,_,_,_,_,_,_,_,_,_,rfl⟩
 have HMC:Hid (Zk cs.1.val cs.2.1.val cs.2.2.val m=[x0,x1,x2,x3,x4,x5,x6,x7,x8,x9,x10,x11,x12,x13,x14,x15,x16,x17]):=hMC
 rw [hMC]
 have bw:Below w.heap.size w (((w.alloc (.cells #[.pointer (some ⟨C,0,none⟩)] 187)).alloc (.cells #[x0,x1,x2,x3,x4,x5,x6,x7,x8,x9,x10,x11,x12,x13,x14,x15,x16,x17] 122)).alloc (.cells #[.string ⟨#[]⟩,.slice none 0 0,.slice none 0 0] 45)):=by go_grown
 have pC:Blk (((w.alloc (.cells #[.pointer (some ⟨C,0,none⟩)] 187)).alloc (.cells #[x0,x1,x2,x3,x4,x5,x6,x7,x8,x9,x10,x11,x12,x13,x14,x15,x16,x17] 122)).alloc (.cells #[.string ⟨#[]⟩,.slice none 0 0,.slice none 0 0] 45)) w.heap.size 187 [.pointer (some ⟨C,0,none⟩)]:=Zg _ (Zg _ (Zi _ _ _ rfl))
 have pM:Blk (((w.alloc (.cells #[.pointer (some ⟨C,0,none⟩)] 187)).alloc (.cells #[x0,x1,x2,x3,x4,x5,x6,x7,x8,x9,x10,x11,x12,x13,x14,x15,x16,x17] 122)).alloc (.cells #[.string ⟨#[]⟩,.slice none 0 0,.slice none 0 0] 45)) (w.heap.size+1) 122 [x0,x1,x2,x3,x4,x5,x6,x7,x8,x9,x10,x11,x12,x13,x14,x15,x16,x17]:=Zg _ (Zi _ _ _ (by simp))
 have pE:Blk (((w.alloc (.cells #[.pointer (some ⟨C,0,none⟩)] 187)).alloc (.cells #[x0,x1,x2,x3,x4,x5,x6,x7,x8,x9,x10,x11,x12,x13,x14,x15,x16,x17] 122)).alloc (.cells #[.string ⟨#[]⟩,.slice none 0 0,.slice none 0 0] 45)) (w.heap.size+1+1) 45 [.string ⟨#[]⟩,.slice none 0 0,.slice none 0 0]:=Zi _ _ _ (by simp)
 clear hMC
 go_enter_defers Tryz.func70,Tryz.ntmps70
 go_wp2_with fail
 generalize (((w.alloc (.cells #[.pointer (some ⟨C,0,none⟩)] 187)).alloc (.cells #[x0,x1,x2,x3,x4,x5,x6,x7,x8,x9,x10,x11,x12,x13,x14,x15,x16,x17] 122)).alloc (.cells #[.string ⟨#[]⟩,.slice none 0 0,.slice none 0 0] 45))=U at *
 rw [← HMC.out] at pM
 have kKx:=kK U _ pM (hV.below (Zb hO.base bw))
 refine kKx.mono ?_
 rintro e w1 ⟨rfl,hb⟩
 replace bw:=Zb bw hb
 replace pC:=pC.below hb
 replace pM:=pM.below hb
 replace pE:=pE.below hb
 clear hb kK kKx
 obtain ⟨X4,hX4⟩:∃ X4,X4=w.heap.size+1+1:=⟨_,rfl⟩
 rw [← hX4] at pE ⊢
 obtain ⟨X3,hX3⟩:∃ X3,X3=w.heap.size+1:=⟨_,rfl⟩
 rw [← hX3] at pM ⊢
 obtain ⟨X2,hX2⟩:∃ X2,X2=w.heap.size:=⟨_,rfl⟩
 rw [← hX2] at pC ⊢
 have hX2w:w.heap.size≤X2:=by omega
 have hX3w:w.heap.size≤X3:=by omega
 have hX4w:w.heap.size≤X4:=by omega
 clear hX2 hX3 hX4
 have hal:Below w1.heap.size w1 (w1.alloc (.cells #[.string key] 9)):=by go_grown
 have pK:Blk (w1.alloc (.cells #[.string key] 9)) w1.heap.size 9 [.string key]:=Zi _ _ _ rfl
 go_wp2_with fail
 have hX5w:=bw.size
 replace bw:=Zb bw hal
 replace pC:=pC.below hal
 replace pM:=pM.below hal
 replace pE:=pE.below hal
 clear hal
 generalize (w1.alloc (.cells #[.string key] 9))=V1 at *
 generalize w1.heap.size=X5 at *
 have oc:=hO.below bw
 have hm1:V1.ownsMap Tryz.prog 9 VH nb n D:=hm.kept (row:=none) ⟨bw.os,bw.tape,bw.output,bw.size,fun k hk _=>bw.block k hk⟩ (by simp)
 go_cut [6,7] from 9 to 17 (fun s6 s7 W=>Ms V1 W [.string k9,.slice s1a s1n s1c,.slice s2a s2n s2c] bb s6 s7)
 ·refine wp_mono ?_ Hu
  refine wp_region_held_drew (S:=(fun w'=>w'.cell? ⟨X2,0,none⟩=some (.pointer (some ⟨C,0,none⟩))∧w'.cell? ⟨C,0,none⟩=some (.map (some nb))∧w'.cell? ⟨X5,0,none⟩=some (.string key))) (by kernel_rfl) ⟨by simpa using pC.cell 0,by simpa using oc.box.cell 0,by simpa using pK.cell 0⟩ (fun hS0=>?_)
  have hX2V:=pC.lt
  have hCV:=oc.box.lt
  have hX5V:=pK.lt
  refine tkm 0 10 (.pointer (some ⟨C,0,none⟩)) ?_
  refine tkm 1 11 (.pointer (some ⟨C,0,none⟩)) ?_
  refine tkm 2 12 (.pointer (some ⟨C,0,none⟩)) ?_
  refine tkm 3 13 (.map (some nb)) ?_
  refine tkm 4 14 (.string key) ?_
  have hmV:V1.drew.ownsMap Tryz.prog 9 VH nb n D:=hm1.drew
  have hV1:Below V1.heap.size V1 V1.drew:=by go_grown
  have hVs:V1.drew.heap.size=V1.heap.size:=rfl
  rw [← hVs] at hX2V hCV hX5V
  clear hVs
  generalize V1.drew=V at *
  clear HN pC pM pE pK oc hO hm1 hm bw ih
  refine wpAnyH_ready (rs:=[5,9]) (by kernel_rfl) (by simp) ?_
  refine AllReadyH.cons (o:=⟨some 15,_,_,_,_,_⟩) rfl (fun K hK=>?_) (AllReadyH.cons (o:=⟨some 6,_,_,_,_,_⟩) rfl (fun K hK=>?_) AllReadyH.nil)
  ·refine SG rfl _ _ 130 rfl 9 45 Uz Tryz.underlying130 VH (Qi _) (.held (.agg #[.string ⟨#[]⟩,.slice none 0 0,.slice none 0 0])) [] rfl nb n D rfl hmV _ (VF key) rfl hkl ?_
   intro v9 ps9 hv9
   have hv8:=HV.out v9 ps9 hv9
   clear hv9
   obtain ⟨rfl,hbb⟩:=hv8
   rw [hbb]
   refine hK.out _ _ hS0 (fun hS1=>?_)
   clear hK
   try simp only [Act.put,tka,tkb,tkc]
   refine tkm 6 9 (.tuple #[.agg #[.string k9,.slice s1a s1n s1c,.slice s2a s2n s2c],.bool bb]) ?_
   refine tkm 7 16 (.agg #[.string k9,.slice s1a s1n s1c,.slice s2a s2n s2c]) ?_
   refine tkm 8 17 (.bool bb) ?_
   refine tkr 9 6 (fun K hK=>?_)
   have hal:Below V.heap.size V (V.alloc (.cells #[.string ⟨#[]⟩,.slice none 0 0,.slice none 0 0] 45)):=by go_grown
   have pQ:Blk (V.alloc (.cells #[.string ⟨#[]⟩,.slice none 0 0,.slice none 0 0] 45)) V.heap.size 45 [.string ⟨#[]⟩,.slice none 0 0,.slice none 0 0]:=Zi _ _ _ rfl
   go_simp
   refine hK.out _ _ ⟨Za hal _ _ hS1.1,Za hal _ _ hS1.2.1,Za hal _ _ hS1.2.2⟩ (fun hS2=>?_)
   clear hK
   generalize (V.alloc (.cells #[.string ⟨#[]⟩,.slice none 0 0,.slice none 0 0] 45))=V2 at *
   obtain ⟨Q,hQ⟩:∃ Q,Q=V.heap.size:=⟨_,rfl⟩
   rw [← hQ] at pQ ⊢
   have hQV:V.heap.size≤Q:=by omega
   have hX2Q:X2≠Q:=by omega
   have hCQ:C≠Q:=by omega
   have hX5Q:X5≠Q:=by omega
   clear hQ
   try simp only [Act.put,tka,tkb,tkc]
   refine tkz 10 (fun K hK=>?_)
   refine Zx rfl 45 _ _ rfl Q [.string k9,.slice s1a s1n s1c,.slice s2a s2n s2c] rfl rfl pQ (by kernel_rfl) rfl rfl ?_
   intro V3 p3 g3
   refine hK.out _ _ ⟨Zu g3 hS2.1 (fun e=>hX2Q (by injection e)),Zu g3 hS2.2.1 (fun e=>hCQ (by injection e)),Zu g3 hS2.2.2 (fun e=>hX5Q (by injection e))⟩ (fun hS3=>?_)
   clear hK
   try simp only [Act.put,tka,tkb,tkc]
   refine tkm 11 7 (.bool bb) ?_
   refine wpAnyH_done (by kernel_rfl) ?_ _
   refine NS ?_
   have HQ9:Hid (Ms V1 V3 [.string k9,.slice s1a s1n s1c,.slice s2a s2n s2c] bb (.pointer (some ⟨Q,0,none⟩)) (.bool bb)):=⟨Q,rfl,rfl,p3.out,(Zb hV1 hal).grown g3 (Zb hV1 hal).size (fun q e=>by cases e;exact Nat.le_trans hV1.size hQV),Nat.le_trans hV1.size hQV⟩
   clear p3 g3 pQ hal hS2 hS3
   go_wp2_with fail
   go_meet
   case rel=>exact HQ9.out
  have hal:Below V.heap.size V (V.alloc (.cells #[.string ⟨#[]⟩,.slice none 0 0,.slice none 0 0] 45)):=by go_grown
  have pQ:Blk (V.alloc (.cells #[.string ⟨#[]⟩,.slice none 0 0,.slice none 0 0] 45)) V.heap.size 45 [.string ⟨#[]⟩,.slice none 0 0,.slice none 0 0]:=Zi _ _ _ rfl
  have hm2:=hmV.alloc (.cells #[.string ⟨#[]⟩,.slice none 0 0,.slice none 0 0] 45)
  go_simp
  refine hK.out _ _ ⟨Za hal _ _ hS0.1,Za hal _ _ hS0.2.1,Za hal _ _ hS0.2.2⟩ (fun hS1=>?_)
  clear hK
  generalize (V.alloc (.cells #[.string ⟨#[]⟩,.slice none 0 0,.slice none 0 0] 45))=V2 at *
  try simp only [Act.put,tka,tkb,tkc]
  refine tkr 5 15 (fun K hK=>?_)
  refine SG rfl _ _ 130 rfl 9 45 Uz Tryz.underlying130 VH (Qi _) (.held (.agg #[.string ⟨#[]⟩,.slice none 0 0,.slice none 0 0])) [] rfl nb n D rfl hm2 _ (VF key) rfl hkl ?_
  intro v9 ps9 hv9
  have hv8:=HV.out v9 ps9 hv9
  clear hv9
  obtain ⟨rfl,hbb⟩:=hv8
  rw [hbb]
  refine hK.out _ _ hS1 (fun hS2=>?_)
  clear hK
  try simp only [Act.put,tka,tkb,tkc]
  refine tkm 6 9 (.tuple #[.agg #[.string k9,.slice s1a s1n s1c,.slice s2a s2n s2c],.bool bb]) ?_
  refine tkm 7 16 (.agg #[.string k9,.slice s1a s1n s1c,.slice s2a s2n s2c]) ?_
  refine tkm 8 17 (.bool bb) ?_
  obtain ⟨Q,hQ⟩:∃ Q,Q=V.heap.size:=⟨_,rfl⟩
  rw [← hQ] at pQ ⊢
  have hQV:V.heap.size≤Q:=by omega
  have hX2Q:X2≠Q:=by omega
  have hCQ:C≠Q:=by omega
  have hX5Q:X5≠Q:=by omega
  clear hQ
  try simp only [Act.put,tka,tkb,tkc]
  refine tkz 10 (fun K hK=>?_)
  refine Zx rfl 45 _ _ rfl Q [.string k9,.slice s1a s1n s1c,.slice s2a s2n s2c] rfl rfl pQ (by kernel_rfl) rfl rfl ?_
  intro V3 p3 g3
  refine hK.out _ _ ⟨Zu g3 hS2.1 (fun e=>hX2Q (by injection e)),Zu g3 hS2.2.1 (fun e=>hCQ (by injection e)),Zu g3 hS2.2.2 (fun e=>hX5Q (by injection e))⟩ (fun hS3=>?_)
  clear hK
  try simp only [Act.put,tka,tkb,tkc]
  refine tkm 11 7 (.bool bb) ?_
  refine wpAnyH_done (by kernel_rfl) ?_ _
  refine NS ?_
  have HQ9:Hid (Ms V1 V3 [.string k9,.slice s1a s1n s1c,.slice s2a s2n s2c] bb (.pointer (some ⟨Q,0,none⟩)) (.bool bb)):=⟨Q,rfl,rfl,p3.out,(Zb hV1 hal).grown g3 (Zb hV1 hal).size (fun q e=>by cases e;exact Nat.le_trans hV1.size hQV),Nat.le_trans hV1.size hQV⟩
  clear p3 g3 pQ hal hS2 hS3
  go_wp2_with fail
  go_meet
  case rel=>exact HQ9.out
 obtain ⟨Q,rfl,rfl,pQ,b2,hQ1⟩:=hcut
 replace oc:=oc.below b2
 replace pC:=pC.below b2
 replace pM:=pM.below b2
 replace pE:=pE.below b2
 replace pK:=pK.below b2
 have bz:=Zb bw b2
 have kpz:=XY.of (C:=C) (nb:=nb) bz
 have hXC:∀ q,w.heap.size≤q→q≠C:=fun q h e=>by omega
 have nI:=Z7 ⟨#[]⟩ ((none,0,0),(none,0,0))
 have hw1:IntKind.i64.wrap ((st.2:Int)+1)=(st.2:Int)+1:=by rw [IntKind.wrap_i64];omega
 clear HV hm1 hm hG bw b2 hQ1 HMC
 cases hq:bb
 ·rw [hq] at HBB
  clear hY9 hN9 pQ hq
  have c20:=pC.cell 0
  have c22:=oc.box.cell 2
  have f22:=oc.box.frozen 2
  simp only [List.getElem?_cons_zero,List.getElem?_cons_succ] at c20 c22
  have oc1:=oc.node (st.2+1)
  have kp1:=kpz.trans (KV wc C nb (.int .i64 ((st.2+1:Nat):Int)))
  have hcast:((st.2+1:Nat):Int)=(st.2:Int)+1:=by omega
  replace pC:=pC.off ⟨C,2,none⟩ (.int .i64 ((st.2+1:Nat):Int)) (hXC _ hX2w)
  replace pM:=pM.off ⟨C,2,none⟩ (.int .i64 ((st.2+1:Nat):Int)) (hXC _ hX3w)
  replace pE:=pE.off ⟨C,2,none⟩ (.int .i64 ((st.2+1:Nat):Int)) (hXC _ hX4w)
  replace pK:=pK.off ⟨C,2,none⟩ (.int .i64 ((st.2+1:Nat):Int)) (hXC _ hX5w)
  rw [hcast] at oc1 kp1 pC pM pE pK
  clear hcast
  go_upto_region 6 with fail
  clear c20 c22 f22 oc kpz hw1
  generalize (wc.setCell ⟨C,2,none⟩ (.int .i64 ((st.2:Int)+1)))=W1 at *
  have c20:=pC.cell 0
  simp only [List.getElem?_cons_zero] at c20
  have kOv:=PP g (st.2+1) oc1.box (by omega)
  go_wp2_with fail
  refine kOv.mono ?_
  rintro e W2 ⟨rfl,hb⟩
  replace oc1:=oc1.below hb
  replace kp1:=kp1.bel hb
  replace pC:=pC.below hb
  replace pM:=pM.below hb
  replace pE:=pE.below hb
  replace pK:=pK.below hb
  clear kOv hb c20
  by_cases hov:2000<g+(st.2+1)
  ·rw [decide_eq_true hov]
   have HR:Hid (Z3 rows g (f+1) m st=(e3d,(st.1,st.2+1))):=JU HBB.out.symm hov
   clear HN
   go_wp2_with (refine Zf rfl 45 _ _ rfl X4 [.string ⟨#[]⟩,.slice none 0 0,.slice none 0 0] rfl rfl pE (by kernel_rfl) rfl rfl ?_)
   intro W3 p3 g3
   have pE3:=p3.out
   have oc3:=oc1.grow g3 (fun e=>hXC _ hX4w (by cases e;rfl)) (fun e=>oc1.noblk pE (by cases e;rfl)) (fun j e=>by cases e;exact Nat.le_trans hO.base.size hX4w) (fun x hx q hq e=>(oc1.ents x hx).1.off11 hq pE nI (by cases e;rfl))
   have kp3:=kp1.gr g3 (fun j e=>.inr (.inr (by cases e;exact hX4w)))
   have HG:Hid (Mv (.returned (.agg #[.string ⟨#[]⟩,.slice none 0 0,.slice none 0 0])) w0 w W3 C nb g n L st.2 (Z3 rows g (f+1) m st)):=by
    rw [HR.out]
    exact ⟨((none,0,0),(none,0,0)),L,n,rfl,Z1.zero9 _,⟨⟨fun _=>rfl,fun x hx=>by cases hx⟩,fun j hj=>by rcases hj with hj | hj<;>exact absurd rfl hj.1⟩,fun j hj=>by rcases hj with hj | hj<;>exact absurd rfl hj.1,oc3,hL,by show n+st.2≤n+(st.2+1);omega,fun x hx=>.inl hx,kp3⟩
   have q0:=pE3.cell 0
   have q1:=pE3.cell 1
   have q2:=pE3.cell 2
   simp only [List.getElem?_cons_zero,List.getElem?_cons_succ] at q0 q1 q2
   clear p3 g3 oc3 kp3 oc1 kp1 pE pE3 pC pM pK
   go_wp2
   refine Q2 (v:=.agg #[.string ⟨#[]⟩,.slice none 0 0,.slice none 0 0]) rfl ?_ ?_
   ·simp [results,Tryz.results70,go_sem,q0,q1,q2]
   exact HG.out
  rw [decide_eq_false hov]
  have HR:Hid (Z3 rows g (f+1) m st=(Vc m (ZV rows g f m (st.1,st.2+1) 3),(Xc (ZV rows g f m (st.1,st.2+1) 3).2.1 (Vc m (ZV rows g f m (st.1,st.2+1) 3)),(ZV rows g f m (st.1,st.2+1) 3).2.2))):=JT HBB.out.symm hov
  have kN:=HN W2 oc1
  clear HN
  have c20:=pC.cell 0
  have c50:=pK.cell 0
  simp only [List.getElem?_cons_zero] at c20 c50
  go_wp2_with (refine Zc rfl 122 _ rfl X3 rfl pM _ Tryz.underlying122 rfl (by kernel_rfl) ?_)
  refine kN.mono ?_
  rintro e W3 ⟨⟨⟨ba,bn,bc⟩,⟨za,zn,zc⟩⟩,L',n',rfl,hEm,hOff,hEs,oc3,lm,nn,old,kp3⟩
  have htop:=Pd (rows:=rows) (g:=g) (f:=f) (m:=m) (st:=(st.1,st.2+1)) 3 (by omega)
  generalize ZV rows g f m (st.1,st.2+1) 3=R at *
  simp only at htop
  have uE:ZR (Vc m R).1 ((ba,bn,bc),(za,zn,zc))=.agg #[.string key,.slice ba bn bc,.slice za zn zc]:=by rw [HKEY.out];rfl
  simp only [uE]
  clear uE
  have hne:∀ q t cs9,Blk W2 q t cs9→w.heap.size≤q→Blk W3 q t cs9:=fun q t cs9 h h2=>kp3.blk h (hXC q h2) (oc1.noblk h)
  replace pC:=hne _ _ _ pC hX2w
  replace pE:=hne _ _ _ pE hX4w
  replace pK:=hne _ _ _ pK hX5w
  replace kp3:=kp1.trans kp3
  have hs1:=kp1.size
  clear hne c20 c50 kN pM oc1 kp1
  simp only at oc3 lm nn
  go_wp2_with (refine Zf rfl 45 _ _ rfl X4 [.string key,.slice ba bn bc,.slice za zn zc] rfl rfl pE (by kernel_rfl) rfl rfl ?_)
  intro W4 p4 g4
  have pE4:=p4.out
  have oc4:=oc3.grow g4 (fun e=>hXC _ hX4w (by cases e;rfl)) (fun e=>oc3.noblk pE (by cases e;rfl)) (fun j e=>by cases e;exact Nat.le_trans hO.base.size hX4w) (fun x hx q hq e=>(oc3.ents x hx).1.off11 hq pE nI (by cases e;rfl))
  have kp4:=kp3.gr g4 (fun j e=>.inr (.inr (by cases e;exact hX4w)))
  have hEm4:=hEm.same11 g4.size (fun j hj=>g4.block j (hEm.blk11 hj).1 (fun e=>hEm.off11 hj pE nI (by cases e;rfl)))
  have pC4:=pC.kept g4 (fun e=>Y5 pE pC (by decide) (by cases e;rfl))
  have pK4:=pK.kept g4 (fun e=>Y5 pE pK (by decide) (by cases e;rfl))
  obtain ⟨D4,hm4,hG4⟩:=oc4.map
  have c24:=pC4.cell 0
  have c54:=pK4.cell 0
  simp only [List.getElem?_cons_zero] at c24 c54
  have hke:(Vc m R).1=key:=by rw [HKEY.out];rfl
  have k1:=JV (Vc m R) ((ba,bn,bc),(za,zn,zc)) (by rw [hke];exact pE4) c24 (by rw [hke];exact c54) oc4.box hm4 hG4 (by rw [hke];exact hks) (by omega)
  clear p4 pE pC pK c24 c54 hke
  go_wp2
  refine leaves_cons (f:=126) (args:=#[.pointer (some ⟨X4,0,none⟩),.pointer (some ⟨X2,0,none⟩),.pointer (some ⟨X5,0,none⟩)]) (by simp) (by simp [go_sem]) ?_
  refine k1.mono ?_
  rintro e u' W5 ⟨rfl,rfl,hP,hg9⟩
  have oc5:=oc4.put hEm4 hOff hP hg9
  have hEm5:=oc4.nbkeep hg9 hEm4
  have kp5:=kp4.gr hg9 (fun j e=>.inr (.inl (by cases e;rfl)))
  have pE5:=pE4.kept hg9 (fun e=>oc4.noblk pE4 (by cases e;rfl))
  have q0:=pE5.cell 0
  have q1:=pE5.cell 1
  have q2:=pE5.cell 2
  simp only [List.getElem?_cons_zero,List.getElem?_cons_succ] at q0 q1 q2
  show Leaves _ _ _ _ [] .returning _
  refine ⟨.agg #[.string key,.slice ba bn bc,.slice za zn zc],?_,?_⟩
  ·simp [results,Tryz.results70,go_sem,q0,q1,q2]
  rw [HR.out]
  refine ⟨((ba,bn,bc),(za,zn,zc)),VG L' (Vc m R) ((ba,bn,bc),(za,zn,zc)),n'+1,by rw [HKEY.out];rfl,hEm5,hOff,fun j hj=>.inl (Nat.le_trans hs1 (hEs j hj)),oc5,by rw [TL,lm],by show n'+1+st.2≤n+R.2.2;omega,fun x hx=>?_,kp5⟩
  rcases RQ hx with h9 | h9
  ·rcases old x h9 with h8 | h8
   ·exact .inl h8
   exact .inr (fun j hj=>Nat.le_trans hs1 (h8 j hj))
  rw [h9]
  exact .inr (fun j hj=>Nat.le_trans hs1 (hEs j hj))
 rw [hq] at HBB
 obtain ⟨hmem,hfst,hk9,_⟩:=hY9 hq
 rw [hk9] at pQ
 have HR:Hid (Z3 rows g (f+1) m st=(WS st.1 (Zs m),st)):=Ls HBB.out.symm
 have hEm:=(oc.ents _ hmem).1
 have hOff:=(oc.ents _ hmem).2
 clear hY9 hN9 hq HN hk9 hw1
 go_wp2_with (first | refine Zc rfl 45 _ rfl Q rfl pQ _ Tryz.underlying45 rfl (by kernel_rfl) ?_ | refine Zf rfl 45 _ _ rfl X4 [.string key,.slice s1a s1n s1c,.slice s2a s2n s2c] rfl rfl pE (by kernel_rfl) rfl rfl ?_)
 intro W3 p3 g3
 have pE3:=p3.out
 have oc3:=oc.grow g3 (fun e=>hXC _ hX4w (by cases e;rfl)) (fun e=>oc.noblk pE (by cases e;rfl)) (fun j e=>by cases e;exact Nat.le_trans hO.base.size hX4w) (fun x hx q hq e=>(oc.ents x hx).1.off11 hq pE nI (by cases e;rfl))
 have kp3:=kpz.gr g3 (fun j e=>.inr (.inr (by cases e;exact hX4w)))
 have HG:Hid (Mv (.returned (.agg #[.string key,.slice s1a s1n s1c,.slice s2a s2n s2c])) w0 w W3 C nb g n L st.2 (Z3 rows g (f+1) m st)):=by
  rw [HR.out,← HKEY.out]
  exact ⟨((s1a,s1n,s1c),(s2a,s2n,s2c)),L,n,by rw [hfst];rfl,(oc3.ents _ hmem).1,hOff,fun j hj=>.inr ⟨_,hmem,hj⟩,oc3,hL,Nat.le_refl _,fun x hx=>.inl hx,kp3⟩
 have q0:=pE3.cell 0
 have q1:=pE3.cell 1
 have q2:=pE3.cell 2
 simp only [List.getElem?_cons_zero,List.getElem?_cons_succ] at q0 q1 q2
 clear p3 g3 oc3 kp3 oc kpz pE pE3 pC pM pK pQ hmem hfst hEm hOff
 go_wp2
 refine Q2 (v:=.agg #[.string key,.slice s1a s1n s1c,.slice s2a s2n s2c]) rfl ?_ ?_
 ·simp [results,Tryz.results70,go_sem,q0,q1,q2]
 exact HG.out
theorem SL {rows:List (List I3)} {g:Nat} {w0:World} {C nb:Nat} {cs:Sl × Sl × Sl} (hp:Zj rows=true) (hg:g≤2000) (hV:ZL w0) (hI:∀ k,k<3→Zl w0 (slK cs k).1 (slK cs k).2.1 (slK cs k).2.2 (Xn rows k)):∀ f,Po rows g w0 C nb cs f
 | 0=>fun m st n L w hs hf=>by omega
 | f+1=>Lv hp hg hV hI (SL hp hg hV hI f)


theorem Hm {C:List V4} {es:List E3} (h:UpE es) (hk:∀ e ∈ es,∃ s ∈ C,e.1=Zs s):es.length≤C.length:=by
 have h1:(es.map (·.1)).Nodup:=by
  unfold UpE at h
  rw [List.Nodup,List.pairwise_map]
  exact h.imp (fun h9 e=>by rw [e,WF] at h9;cases h9)
 have h2:=NQ (es.map (·.1)) (C.map Zs) h1 (fun k hx=>by
  obtain ⟨e,he,rfl⟩:=List.mem_map.1 hx
  obtain ⟨s,hs,h9⟩:=hk e he
  exact List.mem_map.2 ⟨s,hs,h9.symm⟩)
 simpa using h2
theorem Pg {rows:List (List I3)} {P:Zv→Prop} {rec:V4→Zv→E3 × Zv × Bool}:∀ (ts:List (Int × V4)) (e:E3) (st:Zv),(∀ t ∈ ts,∀ st:Zv,P st→(rec t.2 st).2.2=true∧P (rec t.2 st).2.1)→P st→(Yj rec ts e st).2.2=true∧P (Yj rec ts e st).2.1
 | [],e,st,hr,ht=>⟨rfl,ht⟩
 | t::ts,e,st,hr,ht=>by
  obtain ⟨h1,h2⟩:=hr t (List.mem_cons_self ..) st ht
  unfold Yj
  rw [if_pos h1]
  exact Pg (rows:=rows) ts _ _ (fun t' ht'=>hr t' (List.mem_cons_of_mem _ ht')) h2
def UZ (rows:List (List I3)) (es:List E3):Prop:=∀ s,Zd s=true→YU rows 18 s ∈ es→∀ t ∈ nxM rows s,YU rows 18 t.2 ∈ es
theorem Pf {rows:List (List I3)} {L:Nat} {rec:V4→Zv→E3 × Zv × Bool}:∀ (ts:List (Int × V4)) (e:E3) (st:Zv),
  (∀ t ∈ ts,∀ st:Zv,XZ rows st.1→UZ rows st.1→(rec t.2 st).2.2=true→YV rows L st (rec t.2 st).2.1∧UZ rows (rec t.2 st).2.1.1∧YU rows 18 t.2 ∈ (rec t.2 st).2.1.1)→XZ rows st.1→UZ rows st.1→(Yj rec ts e st).2.2=true →
  YV rows L st (Yj rec ts e st).2.1∧UZ rows (Yj rec ts e st).2.1.1∧∀ t ∈ ts,YU rows 18 t.2 ∈ (Yj rec ts e st).2.1.1
 | [],e,st,hr,ht,hc,hk=>⟨YV.refl ht,hc,by simp⟩
 | t::ts,e,st,hr,ht,hc,hk=>by
  unfold Yj at hk ⊢
  by_cases h:(rec t.2 st).2.2=true
  ·rw [if_pos h] at hk ⊢
   obtain ⟨h1,h2,h3⟩:=hr t (List.mem_cons_self ..) st ht hc h
   obtain ⟨q1,q2,q3⟩:=Pf (L:=L) ts (e.1,ZD e.2.1 (rec t.2 st).1.2.1,Yh (e.2.2++(rec t.2 st).1.2.2)) _ (fun t' ht'=>hr t' (List.mem_cons_of_mem _ ht')) h1.1 h2 hk
   refine ⟨h1.trans q1,q2,fun t' ht'=>?_⟩
   rcases List.mem_cons.1 ht' with h9 | h9
   ·rw [h9];exact q1.2.1 _ h3
   exact q3 t' h9
  rw [if_neg h] at hk
  cases hk
theorem Mo {rows:List (List I3)} (hp:Zj rows=true):∀ (f:Nat) (m:V4) (st:Zv),Zd m=true→ZU rows m<f→XZ rows st.1→UZ rows st.1→(ZF rows f m st).2.2=true→UZ rows (ZF rows f m st).2.1.1
 | 0,m,st,hs,hf,ht,hc,hk=>by omega
 | f+1,m,st,hs,hf,ht,hc,hk=>by
  have hall:=Mn hp (f:=f+1) hs hf ht hk
  unfold ZF at hk hall ⊢
  by_cases h1:isE st.1 (Zs m)=true
  ·rw [if_pos h1]
   exact hc
  rw [if_neg h1] at hk hall ⊢
  by_cases h2:st.1.length=2000
  ·rw [if_pos h2] at hk
   cases hk
  rw [if_neg h2] at hk hall ⊢
  have key:=Pf (rows:=rows) (L:=ZU rows m) (rec:=ZF rows f) (nxM rows m) (Zs m,ZA rows m,Zr m) (st.1,st.2+1) (fun t htm st' ht' hc' hk'=>by
   obtain ⟨q1,q2⟩:=Wl hp hs t htm
   obtain ⟨_,r2,r3⟩:=Mn hp (f:=f) q1 (by omega) ht' hk'
   exact ⟨r2.mono (by omega),Mo hp f t.2 st' q1 (by omega) ht' hc' hk',r3⟩) ht hc
  generalize Yj (ZF rows f) (nxM rows m) (Zs m,ZA rows m,Zr m) (st.1,st.2+1)=R at *
  by_cases h3:R.2.2=true
  ·rw [if_pos h3] at hk hall ⊢
   by_cases h4:R.2.1.1.length=2000
   ·rw [if_pos h4] at hk
    cases hk
   rw [if_neg h4] at hall ⊢
   obtain ⟨k1,k2,k3⟩:=key h3
   have e1:R.1=YU rows 18 m:=hall.1
   have hin:∀ e ∈ R.2.1.1,e ∈ Xc R.2.1.1 R.1∨e.1=R.1.1:=fun e he=>by
    by_cases h9:e.1=R.1.1
    ·exact .inr h9
    left
    have hU:UpE R.2.1.1:=(Lp k1.1.1).up
    unfold Xc
    simp only [List.mem_append,List.mem_singleton]
    cases hi:isE R.2.1.1 R.1.1
    ·simp only [Bool.false_eq_true,if_false]
     rw [← List.take_append_drop (ZY R.2.1.1 R.1.1) R.2.1.1] at he
     rcases List.mem_append.1 he with h8 | h8
     ·exact .inl (.inl h8)
     exact .inr h8
    simp only [if_true]
    simp only [isE,Bool.and_eq_true,decide_eq_true_eq] at hi
    rw [← List.take_append_drop (ZY R.2.1.1 R.1.1) R.2.1.1] at he
    rcases List.mem_append.1 he with h8 | h8
    ·exact .inl (.inl h8)
    rw [List.drop_eq_getElem_cons hi.1] at h8
    rcases List.mem_cons.1 h8 with h7 | h7
    ·exfalso
     have h6:=hi.2
     rw [Y0 hi.1] at h6
     exact h9 (by rw [h7];exact h6)
    exact .inr h7
   have hself:R.1 ∈ Xc R.2.1.1 R.1:=by unfold Xc;simp
   have hin2:∀ s,Zd s=true→YU rows 18 s ∈ R.2.1.1→YU rows 18 s ∈ Xc R.2.1.1 R.1:=fun s h5 h6=>by
    rcases hin _ h6 with h7 | h7
    ·exact h7
    have h8:s=m:=WD h5 hs (by rw [e1] at h7;exact h7)
    rw [h8,← e1]
    exact hself
   intro s h5 h6 t htm
   rcases Vk h6 with h7 | h7
   ·have h8:s=m:=WD h5 hs (by rw [e1] at h7;exact congrArg (·.1) h7)
    subst h8
    exact hin2 _ (Wl hp h5 t htm).1 (k3 t htm)
   exact hin2 _ (Wl hp h5 t htm).1 (k2 s h5 h7 t htm)
  rw [if_neg h3] at hk
  cases hk


theorem LH {C:List V4} {es:List E3} {m:V4} (h:UpE es) (hk:∀ e ∈ es,∃ s ∈ C,e.1=Zs s) (hi:isE es (Zs m)=false) (hm:m ∈ C) (hC:C.length≤2000):es.length≤1999:=by
 have h1:=Hm (C:=C.filter fun x=>decide (x≠m)) h (fun e he=>by
  obtain ⟨s,hs,h9⟩:=hk e he
  refine ⟨s,List.mem_filter.2 ⟨hs,decide_eq_true (fun h8=>?_)⟩,h9⟩
  rw [(XD h).2 ⟨e,he,by rw [h9,h8]⟩] at hi
  cases hi)
 have h2:(C.filter fun x=>decide (x≠m)).length<C.length:=List.length_filter_lt_length_iff_exists.2 ⟨m,hm,by simp⟩
 omega
theorem Pi {rows:List (List I3)} (hp:Zj rows=true) {C:List V4} (hS:∀ x ∈ C,Zd x=true) (hC:∀ x ∈ C,∀ t ∈ nxM rows x,t.2 ∈ C) (hfew:C.length≤2000) :
  ∀ (f:Nat) (m:V4) (st:Zv),m ∈ C→ZU rows m<f→(UpR st.1∧∀ e ∈ st.1,∃ s ∈ C,e.1=Zs s)→(ZF rows f m st).2.2=true∧(UpR (ZF rows f m st).2.1.1∧∀ e ∈ (ZF rows f m st).2.1.1,∃ s ∈ C,e.1=Zs s)
 | 0,m,st,hm,hf,ht=>by omega
 | f+1,m,st,hm,hf,ht=>by
  obtain ⟨k0,k1⟩:=Pg (rows:=rows) (P:=fun st=>UpR st.1∧∀ e ∈ st.1,∃ s ∈ C,e.1=Zs s) (rec:=ZF rows f) (nxM rows m) (Zs m,ZA rows m,Zr m) (st.1,st.2+1) (fun t htm st' ht'=>Pi hp hS hC hfew f t.2 st' (hC m hm t htm) (by have:=(Wl hp (hS m hm) t htm).2;omega) ht') ht
  have k2:=Qe (ZF rows f) (nxM rows m) (Zs m,ZA rows m,Zr m) (st.1,st.2+1) k0
  have k3:=Uo (rows:=rows) (L:=ZU rows m) (rec:=ZF rows f) (nxM rows m) (Zs m,ZA rows m,Zr m) (st.1,st.2+1) (fun t htm st' ht' hk'=>by
   obtain ⟨q1,q2⟩:=Wl hp (hS m hm) t htm
   exact (WQ hp f t.2 st' q1 ht' hk').mono (by omega)) ht.1 k0
  unfold ZF
  by_cases h1:isE st.1 (Zs m)=true
  ·rw [if_pos h1]
   exact ⟨rfl,ht⟩
  have h1f:isE st.1 (Zs m)=false:=by cases hq:isE st.1 (Zs m)<;>simp_all
  have h9:=LH ht.1.up ht.2 h1f hm hfew
  rw [if_neg h1,if_neg (show ¬ st.1.length=2000 by omega)]
  generalize Yj (ZF rows f) (nxM rows m) (Zs m,ZA rows m,Zr m) (st.1,st.2+1)=R at *
  have hni:isE R.2.1.1 (Zs m)=false:=by
   cases hi:isE R.2.1.1 (Zs m)
   ·rfl
   exfalso
   obtain ⟨e,he,hek⟩:=(XD k3.1.up (k:=Zs m)).1 hi
   rcases k3.2.2.1 e he with h9 | ⟨s,s1,s2,s3⟩
   ·exact h1 ((XD ht.1.up (k:=Zs m)).2 ⟨e,h9,hek⟩)
   have:s=m:=WD s1 (hS m hm) (s3.symm.trans hek)
   subst this
   omega
  have h8:=LH k1.1.up k1.2 hni hm hfew
  rw [if_pos k0,if_neg (show ¬ R.2.1.1.length=2000 by omega)]
  refine ⟨rfl,L0 k1.1 (.inr (by omega)),fun e he=>?_⟩
  rcases Vk he with h7 | h7
  ·exact ⟨m,hm,by rw [h7];exact k2⟩
  exact k1.2 e h7
def Mu (rows:List (List I3)) (st:Zv):Prop:=XZ rows st.1∧UZ rows st.1∧st.1.length=st.2
theorem Ml (rows:List (List I3)):Mu rows ([],0):=by
 have h:Yu []=true:=rfl
 refine ⟨⟨h,fun e he=>?_⟩,fun s _ h9=>?_,rfl⟩
 ·cases he
 cases h9
theorem Nh (rows:List (List I3)) (s:V4):(YU rows 18 s).1=Zs s:=rfl
theorem Gm {rows:List (List I3)} {es:List E3} (s:V4) (hs9:Zd s=true) (he:YU rows 18 s ∈ es):s ∈ es.map (fun e=>ZC e.1):=by
 refine List.mem_map.2 ⟨_,he,?_⟩
 simp only [Nh]
 exact Vd hs9
theorem G5 {rows:List (List I3)} {es:List E3} (hT:XZ rows es):∀ x ∈ es.map (fun e=>ZC e.1),Zd x=true∧YU rows 18 x ∈ es:=fun x hx=>by
 obtain ⟨e,he,rfl⟩:=List.mem_map.1 hx
 obtain ⟨s,hs9,e9⟩:=hT.2 e he
 have e1:ZC e.1=s:=by
  rw [e9,Nh]
  exact Vd hs9
 simp only [e1]
 exact ⟨hs9,e9▸he⟩
theorem Gp {rows:List (List I3)} (hp:Zj rows=true) {es:List E3} (hT:XZ rows es) (hcl:UZ rows es) {m:V4} (hs:Zd m=true) (r3:YU rows 18 m ∈ es):(ZF rows 19 m ([],0)).2.2=true:=by
 have hf:ZU rows m<19:=Nat.lt_succ_of_le (VW hp m)
 have hmem:=G5 hT
 have hfew:(es.map (fun e=>ZC e.1)).length≤2000:=by rw [List.length_map];exact Xs hT.1
 have hin:=Gm m hs r3
 have hC:∀ x ∈ es.map (fun e=>ZC e.1),∀ t ∈ nxM rows x,t.2 ∈ es.map (fun e=>ZC e.1):=fun x hx t ht=>Gm _ (Wl hp (hmem x hx).1 t ht).1 (hcl x (hmem x hx).1 (hmem x hx).2 t ht)
 have h9:=Pi hp (fun x hx=>(hmem x hx).1) hC hfew 19 m ([],0) hin hf ⟨P3,fun e he=>by cases he⟩
 exact h9.1
theorem G4 {rows:List (List I3)} {st st':Zv} (h:st.1.length=st.2) (hT:XZ rows st'.1) (hC:UZ rows st'.1) (hl:st'.1.length+st.2=st.1.length+st'.2):Mu rows st':=⟨hT,hC,by omega⟩
theorem Pa {rows:List (List I3)} (hp:Zj rows=true) {st:Zv} (h:Mu rows st) {m:V4} (hs:Zd m=true) (hk:(Z3 rows 0 19 m st).2.2≤2000) :
  (Z3 rows 0 19 m st).1=YU rows 18 m∧Mu rows (Z3 rows 0 19 m st).2∧(ZF rows 19 m ([],0)).2.2=true:=by
 obtain ⟨hT,hC,hl⟩:=h
 have hf:ZU rows m<19:=Nat.lt_succ_of_le (VW hp m)
 obtain ⟨k1,k2⟩:=P4 hp (g:=0) 19 m st hs hf (Lp hT.1) (by rw [Nat.zero_add];exact Nat.le_of_eq hl) (by rw [Nat.zero_add];exact hk)
 obtain ⟨r1,r2,r3⟩:=Mn hp (f:=19) (st:=st) hs hf hT k1
 have hcl:=Mo hp 19 m st hs hf hT hC k1
 rw [k2]
 exact ⟨r1,G4 hl r2.1 hcl r2.2.2.2,Gp hp r2.1 hcl hs r3⟩
theorem Gn {rows:List (List I3)} (hp:Zj rows=true) {m:V4} (hs:Zd m=true) (hk:¬ (Z3 rows 0 19 m ([],0)).2.2≤2000):(ZF rows 19 m ([],0)).2.2=false:=
 (Gu hp (f:=19) (es:=[]) hs (Nat.lt_succ_of_le (VW hp m)) P3).2 (by simpa using hk)


def Wz (x:Ending) (w':World) (B:Nat) (a:Option Addr) (n c:Nat) (r:E3 × (List E3 × Nat) × Bool):Prop:=∃ (s:Sl2) (a':Option Addr) (n' c':Nat),x=.returned (.tuple #[ZR r.1.1 s,.agg #[.slice a' n' c'],.int .i64 (r.2.1.2:Int),.bool r.2.2])∧Z1 w' s r.1∧Yo w' a' n' c' r.2.1.1∧(a'=none→c'=0)∧((a'=a∧n'=n∧c'=c)∨∀ b o,a'=some ⟨b,o,none⟩→B≤b)
theorem Wz.mk9 {w':World} {B n c n' c':Nat} {a a':Option Addr} {r:E3 × (List E3 × Nat) × Bool} (s:Sl2) (h:Z1 w' s r.1) (hA:Yo w' a' n' c' r.2.1.1) (hn:a'=none→c'=0) (ho:(a'=a∧n'=n∧c'=c)∨∀ b o,a'=some ⟨b,o,none⟩→B≤b):Wz (.returned (.tuple #[ZR r.1.1 s,.agg #[.slice a' n' c'],.int .i64 (r.2.1.2:Int),.bool r.2.2])) w' B a n c r:=⟨s,a',n',c',rfl,h,hA,hn,ho⟩

theorem Mq {rows:List (List I3)} {cap:Nat} (m:V4) (es:List E3) (nd:Nat) (hI:isE es (Zs m)=true) (hs:Zd m=true) (hU:UpR es) (w:World) (a9:Option Addr) (s:S4) (a:Option Addr) (n c:Nat) (h:Yy w s m) (hA:Yo w a n c es) (hnil:a=none→c=0) :
  Calls Tryz.prog 118 #[.agg #[.slice a9 3 cap],s.val,.agg #[.slice a n c],.int .i64 (nd:Int)] w fun x w'=>Wz x w' w.heap.size a n c (WS es (Zs m),(es,nd),true)∧Below w.heap.size w w':=by
 obtain ⟨⟨t0a,t0n,t0c⟩,⟨t1a,t1n,t1c⟩,⟨t2a,t2n,t2c⟩,⟨t3a,t3n,t3c⟩⟩:=s
 have ut:S4.val ((t0a,t0n,t0c),(t1a,t1n,t1c),(t2a,t2n,t2c),(t3a,t3n,t3c))=.agg #[.slice t0a t0n t0c,.slice t1a t1n t1c,.slice t2a t2n t2c,.slice t3a t3n t3c]:=rfl
 have hl:=hA.1
 have hn2:n≤2000:=by have:=hU.few;omega
 have kK:=fun (W:World) (b:Below w.heap.size w W)=>T8 ((t0a,t0n,t0c),(t1a,t1n,t1c),(t2a,t2n,t2c),(t3a,t3n,t3c)) m W (h.below b) hs
 have kP:=fun (W:World) (b:Below w.heap.size w W)=>Wr a n c es (Zs m) W (hA.below b) hU
 rw [ut] at kK ⊢
 have bw:Below w.heap.size w (((((w.alloc (.cells #[.slice a9 3 cap] 25)).alloc (.cells #[.slice t0a t0n t0c,.slice t1a t1n t1c,.slice t2a t2n t2c,.slice t3a t3n t3c] 112)).alloc (.cells #[.slice a n c] 33)).alloc (.cells #[.string ⟨#[]⟩,.slice none 0 0,.slice none 0 0] 45)).alloc (.cells #[.slice none 0 0] 33)):=by go_grown
 have pP:Blk (((((w.alloc (.cells #[.slice a9 3 cap] 25)).alloc (.cells #[.slice t0a t0n t0c,.slice t1a t1n t1c,.slice t2a t2n t2c,.slice t3a t3n t3c] 112)).alloc (.cells #[.slice a n c] 33)).alloc (.cells #[.string ⟨#[]⟩,.slice none 0 0,.slice none 0 0] 45)).alloc (.cells #[.slice none 0 0] 33)) (w.heap.size) 25 [.slice a9 3 cap]:=Zg _ (Zg _ (Zg _ (Zg _ (Zi _ _ _ rfl))))
 have pS:Blk (((((w.alloc (.cells #[.slice a9 3 cap] 25)).alloc (.cells #[.slice t0a t0n t0c,.slice t1a t1n t1c,.slice t2a t2n t2c,.slice t3a t3n t3c] 112)).alloc (.cells #[.slice a n c] 33)).alloc (.cells #[.string ⟨#[]⟩,.slice none 0 0,.slice none 0 0] 45)).alloc (.cells #[.slice none 0 0] 33)) (w.heap.size+1) 112 [.slice t0a t0n t0c,.slice t1a t1n t1c,.slice t2a t2n t2c,.slice t3a t3n t3c]:=Zg _ (Zg _ (Zg _ (Zi _ _ _ (by simp))))
 have pM:Blk (((((w.alloc (.cells #[.slice a9 3 cap] 25)).alloc (.cells #[.slice t0a t0n t0c,.slice t1a t1n t1c,.slice t2a t2n t2c,.slice t3a t3n t3c] 112)).alloc (.cells #[.slice a n c] 33)).alloc (.cells #[.string ⟨#[]⟩,.slice none 0 0,.slice none 0 0] 45)).alloc (.cells #[.slice none 0 0] 33)) (w.heap.size+1+1) 33 [.slice a n c]:=Zg _ (Zg _ (Zi _ _ _ (by simp)))
 have pE:Blk (((((w.alloc (.cells #[.slice a9 3 cap] 25)).alloc (.cells #[.slice t0a t0n t0c,.slice t1a t1n t1c,.slice t2a t2n t2c,.slice t3a t3n t3c] 112)).alloc (.cells #[.slice a n c] 33)).alloc (.cells #[.string ⟨#[]⟩,.slice none 0 0,.slice none 0 0] 45)).alloc (.cells #[.slice none 0 0] 33)) (w.heap.size+1+1+1) 45 [.string ⟨#[]⟩,.slice none 0 0,.slice none 0 0]:=Zg _ (Zi _ _ _ (by simp))
 have pR:Blk (((((w.alloc (.cells #[.slice a9 3 cap] 25)).alloc (.cells #[.slice t0a t0n t0c,.slice t1a t1n t1c,.slice t2a t2n t2c,.slice t3a t3n t3c] 112)).alloc (.cells #[.slice a n c] 33)).alloc (.cells #[.string ⟨#[]⟩,.slice none 0 0,.slice none 0 0] 45)).alloc (.cells #[.slice none 0 0] 33)) (w.heap.size+1+1+1+1) 33 [.slice none 0 0]:=Zi _ _ _ (by simp)
 have hszU:w.heap.size+5≤(((((w.alloc (.cells #[.slice a9 3 cap] 25)).alloc (.cells #[.slice t0a t0n t0c,.slice t1a t1n t1c,.slice t2a t2n t2c,.slice t3a t3n t3c] 112)).alloc (.cells #[.slice a n c] 33)).alloc (.cells #[.string ⟨#[]⟩,.slice none 0 0,.slice none 0 0] 45)).alloc (.cells #[.slice none 0 0] 33)).heap.size:=by simp
 have hpl:ZY es (Zs m)<n:=by
  simp only [isE,Bool.and_eq_true,decide_eq_true_eq] at hI
  omega
 have hfe:WS es (Zs m)=es.getD (ZY es (Zs m)) e3d:=by unfold WS;rw [if_pos hI]
 rw [hI] at kP
 rw [hfe]
 rcases hA.2.2.2 with e0 | ⟨b,off,rfl,hblt,hcell⟩
 ·omega
 obtain ⟨s9,c0,c1,c2,hm9⟩:=hcell (ZY es (Zs m)) hpl
 have of8:Wx (some ⟨b,off,none⟩) n (w.heap.size+1+1+1):=XW hA (by omega)
 have of9:Wx (some ⟨b,off,none⟩) n (w.heap.size+1+1+1+1):=XW hA (by omega)
 clear hcell hfe hI
 generalize ZY es (Zs m)=p at *
 generalize es.getD p e3d=ee at *
 generalize Zs m=key at *
 obtain ⟨ek,eb,ez⟩:=ee
 obtain ⟨⟨s1a,s1n,s1c⟩,⟨s2a,s2n,s2c⟩⟩:=s9
 simp only at c0 c1 c2
 have hp0:(0:Int)≤(p:Int):=by omega
 have hpn:(p:Int)<(n:Int):=by omega
 go_enter Tryz.func118,Tryz.ntmps118
 go_wp2_with fail
 generalize (((((w.alloc (.cells #[.slice a9 3 cap] 25)).alloc (.cells #[.slice t0a t0n t0c,.slice t1a t1n t1c,.slice t2a t2n t2c,.slice t3a t3n t3c] 112)).alloc (.cells #[.slice (some ⟨b,off,none⟩) n c] 33)).alloc (.cells #[.string ⟨#[]⟩,.slice none 0 0,.slice none 0 0] 45)).alloc (.cells #[.slice none 0 0] 33))=U0 at *
 go_wp2_with (refine Zc rfl 112 _ rfl (w.heap.size+1) rfl pS _ Tryz.underlying112 rfl (by kernel_rfl) ?_)
 refine (kK _ bw).mono ?_
 rintro x w1 ⟨rfl,hb⟩
 replace bw:=Zh bw hb
 replace pP:=pP.below hb
 replace pS:=pS.below hb
 replace pM:=pM.below hb
 replace pE:=pE.below hb
 replace pR:=pR.below hb
 clear hb kK
 go_wp2_with (refine Zc rfl 33 _ rfl (w.heap.size+1+1) rfl pM _ Tryz.underlying33 rfl (by kernel_rfl) ?_)
 refine (kP _ bw).mono ?_
 rintro x w2 ⟨rfl,hb⟩
 replace bw:=Zh bw hb
 replace pP:=pP.below hb
 replace pS:=pS.below hb
 replace pM:=pM.below hb
 replace pE:=pE.below hb
 replace pR:=pR.below hb
 clear hb kP
 have hA9:=hA.below bw
 replace hm9:=hm9.below bw
 replace c0:=Za bw _ _ c0
 replace c1:=Za bw _ _ c1
 replace c2:=Za bw _ _ c2
 have g0:=pM.cell 0
 simp only [List.getElem?_cons_zero] at g0
 go_wp2_with fail
 refine wp_region_held_drew (S:=(fun w'=>w'.cell? ⟨w.heap.size+1+1,0,none⟩=some (.slice (some ⟨b,off,none⟩) n c)∧w'.cell? ⟨b,off+p*3,none⟩=some (.string ek)∧w'.cell? ⟨b,off+p*3+1,none⟩=some (.slice s1a s1n s1c)∧w'.cell? ⟨b,off+p*3+2,none⟩=some (.slice s2a s2n s2c))) (by kernel_rfl) ⟨g0,c0,c1,c2⟩ (fun hS0=>?_)
 refine tkx 0 33 (.pointer (some ⟨w.heap.size+1+1,0,none⟩)) ?_ ?_
 ·(intro w' hSw;(try dsimp only at hSw);go_simp;first | done | rfl | omega | (intro h9;omega) | (rw [IntKind.wrap_i64];omega))
 simp only [Act.put,tka,tkb,tkc]
 refine tkx 1 34 (.slice (some ⟨b,off,none⟩) n c) ?_ ?_
 ·(intro w' hSw;(try dsimp only at hSw);go_simp;first | done | rfl | omega | (intro h9;omega) | (rw [IntKind.wrap_i64];omega))
 simp only [Act.put,tka,tkb,tkc]
 refine tkx 2 35 (.int .i64 (p:Int)) ?_ ?_
 ·(intro w' hSw;(try dsimp only at hSw);go_simp;first | done | rfl | omega | (intro h9;omega) | (rw [IntKind.wrap_i64];omega))
 simp only [Act.put,tka,tkb,tkc]
 refine tkx 3 36 (.pointer (some ⟨b,off+p*3,none⟩)) ?_ ?_
 ·(intro w' hSw;(try dsimp only at hSw);go_simp;first | done | rfl | omega | (intro h9;omega) | (rw [IntKind.wrap_i64];omega))
 simp only [Act.put,tka,tkb,tkc]
 refine tkx 4 37 (.agg #[.string ek,.slice s1a s1n s1c,.slice s2a s2n s2c]) ?_ ?_
 ·(intro w' hSw;(try dsimp only at hSw);go_simp;first | done | rfl | omega | (intro h9;omega) | (rw [IntKind.wrap_i64];omega))
 simp only [Act.put,tka,tkb,tkc]
 refine tkx 5 38 (.agg #[.slice (some ⟨b,off,none⟩) n c]) ?_ ?_
 ·(intro w' hSw;(try dsimp only at hSw);go_simp;first | done | rfl | omega | (intro h9;omega) | (rw [IntKind.wrap_i64];omega))
 simp only [Act.put,tka,tkb,tkc]
 refine tkx 6 39 (.int .i64 (nd:Int)) ?_ ?_
 ·(intro w' hSw;(try dsimp only at hSw);go_simp;first | done | rfl | omega | (intro h9;omega) | (rw [IntKind.wrap_i64];omega))
 simp only [Act.put,tka,tkb,tkc]
 have bd:Below w2.heap.size w2 w2.drew:=by go_grown
 replace bw:=Zh bw bd
 replace pE:=pE.below bd
 replace pR:=pR.below bd
 replace hm9:=hm9.below bd
 replace hA9:=hA9.below bd
 clear bd
 generalize w2.drew=V1 at *
 refine tkz 7 (fun K hK=>?_)
 refine Zx rfl 45 _ _ rfl (w.heap.size+1+1+1) [.string ek,.slice s1a s1n s1c,.slice s2a s2n s2c] rfl rfl pE (by kernel_rfl) rfl rfl ?_
 intro V2 q8 g8
 refine hK.out _ _ ⟨Zu g8 hS0.1 (fun e=>by injection e with e9;dsimp only at e9;omega),Zu g8 hS0.2.1 (fun e=>by injection e with e9;dsimp only at e9;omega),Zu g8 hS0.2.2.1 (fun e=>by injection e with e9;dsimp only at e9;omega),Zu g8 hS0.2.2.2 (fun e=>by injection e with e9;dsimp only at e9;omega)⟩ (fun hS1=>?_)
 clear hK
 try simp only [Act.put,tka,tkb,tkc]
 replace bw:=bw.grown g8 bw.size (fun k hk=>by cases hk;omega)
 replace hm9:=hm9.box pE (Z7 ⟨#[]⟩ ((none,0,0),(none,0,0))) g8
 replace hA9:=hA9.box of8 pE (Z7 ⟨#[]⟩ ((none,0,0),(none,0,0))) g8
 replace pR:=pR.kept g8 (by simp)
 replace pE:=q8.out
 clear q8 g8
 refine tkz 8 (fun K hK=>?_)
 refine Zx rfl 33 _ _ rfl (w.heap.size+1+1+1+1) [.slice (some ⟨b,off,none⟩) n c] rfl rfl pR (by kernel_rfl) rfl rfl ?_
 intro V3 q9 g9
 refine hK.out _ _ ⟨Zu g9 hS1.1 (fun e=>by injection e with e9;dsimp only at e9;omega),Zu g9 hS1.2.1 (fun e=>by injection e with e9;dsimp only at e9;omega),Zu g9 hS1.2.2.1 (fun e=>by injection e with e9;dsimp only at e9;omega),Zu g9 hS1.2.2.2 (fun e=>by injection e with e9;dsimp only at e9;omega)⟩ (fun hS2=>?_)
 clear hK
 try simp only [Act.put,tka,tkb,tkc]
 replace bw:=bw.grown g9 (Nat.le_trans (by omega) bw.size) (fun k hk=>by cases hk;omega)
 replace hm9:=hm9.box pR (Xa _ (by intro k z e;cases e)) g9
 replace hA9:=hA9.box of9 pR (Xa _ (by intro k z e;cases e)) g9
 replace pE:=pE.kept g9 (by simp)
 replace pR:=q9.out
 clear q9 g9
 refine tkx 9 10 (.int .i64 (nd:Int)) ?_ ?_
 ·(intro w' hSw;(try dsimp only at hSw);go_simp;first | done | rfl | omega | (intro h9;omega) | (rw [IntKind.wrap_i64];omega))
 simp only [Act.put,tka,tkb,tkc]
 refine tkx 10 11 (.bool true) ?_ ?_
 ·(intro w' hSw;(try dsimp only at hSw);go_simp;first | done | rfl | omega | (intro h9;omega) | (rw [IntKind.wrap_i64];omega))
 simp only [Act.put,tka,tkb,tkc]
 refine wpAnyH_done (by kernel_rfl) ?_ _
 clear hS0 hS1 hS2
 have z0:=pE.cell 0
 have z1:=pE.cell 1
 have z2:=pE.cell 2
 have z3:=pR.cell 0
 simp only [List.getElem?_cons_zero,List.getElem?_cons_succ] at z0 z1 z2 z3
 go_wp2
 refine bodyPost_ret (by simp [results,Tryz.results118,go_sem,z0,z1,z2,z3];try rfl) rfl ?_
 exact ⟨Wz.mk9 (r:=((ek,eb,ez),(es,nd),true)) ((s1a,s1n,s1c),(s2a,s2n,s2c)) hm9 hA9 hnil (.inl ⟨rfl,rfl,rfl⟩),bw⟩
theorem Lt {rows:List (List I3)} {cap:Nat} (m:V4) (es:List E3) (nd:Nat) (hI:isE es (Zs m)=false) (hs:Zd m=true) (hU:UpR es) (w:World) (a9:Option Addr) (s:S4) (a:Option Addr) (n c:Nat) (h:Yy w s m) (hA:Yo w a n c es) (hnil:a=none→c=0) (h0:es.length=2000) :
  Calls Tryz.prog 118 #[.agg #[.slice a9 3 cap],s.val,.agg #[.slice a n c],.int .i64 (nd:Int)] w fun x w'=>Wz x w' w.heap.size a n c (e3d,(es,nd),false)∧Below w.heap.size w w':=by
 obtain ⟨⟨t0a,t0n,t0c⟩,⟨t1a,t1n,t1c⟩,⟨t2a,t2n,t2c⟩,⟨t3a,t3n,t3c⟩⟩:=s
 have ut:S4.val ((t0a,t0n,t0c),(t1a,t1n,t1c),(t2a,t2n,t2c),(t3a,t3n,t3c))=.agg #[.slice t0a t0n t0c,.slice t1a t1n t1c,.slice t2a t2n t2c,.slice t3a t3n t3c]:=rfl
 have hl:=hA.1
 have hn2:n≤2000:=by have:=hU.few;omega
 have kK:=fun (W:World) (b:Below w.heap.size w W)=>T8 ((t0a,t0n,t0c),(t1a,t1n,t1c),(t2a,t2n,t2c),(t3a,t3n,t3c)) m W (h.below b) hs
 have kP:=fun (W:World) (b:Below w.heap.size w W)=>Wr a n c es (Zs m) W (hA.below b) hU
 rw [ut] at kK ⊢
 have bw:Below w.heap.size w (((((w.alloc (.cells #[.slice a9 3 cap] 25)).alloc (.cells #[.slice t0a t0n t0c,.slice t1a t1n t1c,.slice t2a t2n t2c,.slice t3a t3n t3c] 112)).alloc (.cells #[.slice a n c] 33)).alloc (.cells #[.string ⟨#[]⟩,.slice none 0 0,.slice none 0 0] 45)).alloc (.cells #[.slice none 0 0] 33)):=by go_grown
 have pP:Blk (((((w.alloc (.cells #[.slice a9 3 cap] 25)).alloc (.cells #[.slice t0a t0n t0c,.slice t1a t1n t1c,.slice t2a t2n t2c,.slice t3a t3n t3c] 112)).alloc (.cells #[.slice a n c] 33)).alloc (.cells #[.string ⟨#[]⟩,.slice none 0 0,.slice none 0 0] 45)).alloc (.cells #[.slice none 0 0] 33)) (w.heap.size) 25 [.slice a9 3 cap]:=Zg _ (Zg _ (Zg _ (Zg _ (Zi _ _ _ rfl))))
 have pS:Blk (((((w.alloc (.cells #[.slice a9 3 cap] 25)).alloc (.cells #[.slice t0a t0n t0c,.slice t1a t1n t1c,.slice t2a t2n t2c,.slice t3a t3n t3c] 112)).alloc (.cells #[.slice a n c] 33)).alloc (.cells #[.string ⟨#[]⟩,.slice none 0 0,.slice none 0 0] 45)).alloc (.cells #[.slice none 0 0] 33)) (w.heap.size+1) 112 [.slice t0a t0n t0c,.slice t1a t1n t1c,.slice t2a t2n t2c,.slice t3a t3n t3c]:=Zg _ (Zg _ (Zg _ (Zi _ _ _ (by simp))))
 have pM:Blk (((((w.alloc (.cells #[.slice a9 3 cap] 25)).alloc (.cells #[.slice t0a t0n t0c,.slice t1a t1n t1c,.slice t2a t2n t2c,.slice t3a t3n t3c] 112)).alloc (.cells #[.slice a n c] 33)).alloc (.cells #[.string ⟨#[]⟩,.slice none 0 0,.slice none 0 0] 45)).alloc (.cells #[.slice none 0 0] 33)) (w.heap.size+1+1) 33 [.slice a n c]:=Zg _ (Zg _ (Zi _ _ _ (by simp)))
 have pE:Blk (((((w.alloc (.cells #[.slice a9 3 cap] 25)).alloc (.cells #[.slice t0a t0n t0c,.slice t1a t1n t1c,.slice t2a t2n t2c,.slice t3a t3n t3c] 112)).alloc (.cells #[.slice a n c] 33)).alloc (.cells #[.string ⟨#[]⟩,.slice none 0 0,.slice none 0 0] 45)).alloc (.cells #[.slice none 0 0] 33)) (w.heap.size+1+1+1) 45 [.string ⟨#[]⟩,.slice none 0 0,.slice none 0 0]:=Zg _ (Zi _ _ _ (by simp))
 have pR:Blk (((((w.alloc (.cells #[.slice a9 3 cap] 25)).alloc (.cells #[.slice t0a t0n t0c,.slice t1a t1n t1c,.slice t2a t2n t2c,.slice t3a t3n t3c] 112)).alloc (.cells #[.slice a n c] 33)).alloc (.cells #[.string ⟨#[]⟩,.slice none 0 0,.slice none 0 0] 45)).alloc (.cells #[.slice none 0 0] 33)) (w.heap.size+1+1+1+1) 33 [.slice none 0 0]:=Zi _ _ _ (by simp)
 have hszU:w.heap.size+5≤(((((w.alloc (.cells #[.slice a9 3 cap] 25)).alloc (.cells #[.slice t0a t0n t0c,.slice t1a t1n t1c,.slice t2a t2n t2c,.slice t3a t3n t3c] 112)).alloc (.cells #[.slice a n c] 33)).alloc (.cells #[.string ⟨#[]⟩,.slice none 0 0,.slice none 0 0] 45)).alloc (.cells #[.slice none 0 0] 33)).heap.size:=by simp
 rw [hI] at kP
 obtain rfl:n=2000:=by omega
 have of8:Wx a 2000 (w.heap.size+1+1+1):=XW hA (by omega)
 have of9:Wx a 2000 (w.heap.size+1+1+1+1):=XW hA (by omega)
 clear hI
 generalize ZY es (Zs m)=p at *
 generalize Zs m=key at *
 go_enter Tryz.func118,Tryz.ntmps118
 go_wp2_with fail
 generalize (((((w.alloc (.cells #[.slice a9 3 cap] 25)).alloc (.cells #[.slice t0a t0n t0c,.slice t1a t1n t1c,.slice t2a t2n t2c,.slice t3a t3n t3c] 112)).alloc (.cells #[.slice a 2000 c] 33)).alloc (.cells #[.string ⟨#[]⟩,.slice none 0 0,.slice none 0 0] 45)).alloc (.cells #[.slice none 0 0] 33))=U0 at *
 go_wp2_with (refine Zc rfl 112 _ rfl (w.heap.size+1) rfl pS _ Tryz.underlying112 rfl (by kernel_rfl) ?_)
 refine (kK _ bw).mono ?_
 rintro x w1 ⟨rfl,hb⟩
 replace bw:=Zh bw hb
 replace pP:=pP.below hb
 replace pS:=pS.below hb
 replace pM:=pM.below hb
 replace pE:=pE.below hb
 replace pR:=pR.below hb
 clear hb kK
 go_wp2_with (refine Zc rfl 33 _ rfl (w.heap.size+1+1) rfl pM _ Tryz.underlying33 rfl (by kernel_rfl) ?_)
 refine (kP _ bw).mono ?_
 rintro x w2 ⟨rfl,hb⟩
 replace bw:=Zh bw hb
 replace pP:=pP.below hb
 replace pS:=pS.below hb
 replace pM:=pM.below hb
 replace pE:=pE.below hb
 replace pR:=pR.below hb
 clear hb kP
 have hA9:=hA.below bw
 have g0:=pM.cell 0
 simp only [List.getElem?_cons_zero] at g0
 go_wp2_with fail
 refine wp_region_held_drew (S:=(fun w'=>w'.cell? ⟨w.heap.size+1+1,0,none⟩=some (.slice a 2000 c))) (by kernel_rfl) g0 (fun hS0=>?_)
 refine tkx 0 44 (.agg #[.string ⟨#[]⟩,.slice none 0 0,.slice none 0 0]) ?_ ?_
 ·(intro w' hSw;(try dsimp only at hSw);go_simp;first | done | rfl | omega | (intro h9;omega) | (rw [IntKind.wrap_i64];omega))
 simp only [Act.put,tka,tkb,tkc]
 refine tkx 1 45 (.agg #[.slice a 2000 c]) ?_ ?_
 ·(intro w' hSw;(try dsimp only at hSw);go_simp;first | done | rfl | omega | (intro h9;omega) | (rw [IntKind.wrap_i64];omega))
 simp only [Act.put,tka,tkb,tkc]
 refine tkx 2 46 (.int .i64 (nd:Int)) ?_ ?_
 ·(intro w' hSw;(try dsimp only at hSw);go_simp;first | done | rfl | omega | (intro h9;omega) | (rw [IntKind.wrap_i64];omega))
 simp only [Act.put,tka,tkb,tkc]
 have bd:Below w2.heap.size w2 w2.drew:=by go_grown
 replace bw:=Zh bw bd
 replace pE:=pE.below bd
 replace pR:=pR.below bd
 replace hA9:=hA9.below bd
 clear bd
 generalize w2.drew=V1 at *
 refine tkz 3 (fun K hK=>?_)
 refine Zx rfl 45 _ _ rfl (w.heap.size+1+1+1) [.string ⟨#[]⟩,.slice none 0 0,.slice none 0 0] rfl rfl pE (by kernel_rfl) rfl rfl ?_
 intro V2 q8 g8
 refine hK.out _ _ (Zu g8 hS0 (fun e=>by injection e with e9;dsimp only at e9;omega)) (fun hS1=>?_)
 clear hK
 try simp only [Act.put,tka,tkb,tkc]
 replace bw:=bw.grown g8 bw.size (fun k hk=>by cases hk;omega)
 replace hA9:=hA9.box of8 pE (Z7 ⟨#[]⟩ ((none,0,0),(none,0,0))) g8
 replace pR:=pR.kept g8 (by simp)
 replace pE:=q8.out
 clear q8 g8
 refine tkz 4 (fun K hK=>?_)
 refine Zx rfl 33 _ _ rfl (w.heap.size+1+1+1+1) [.slice a 2000 c] rfl rfl pR (by kernel_rfl) rfl rfl ?_
 intro V3 q9 g9
 refine hK.out _ _ (Zu g9 hS1 (fun e=>by injection e with e9;dsimp only at e9;omega)) (fun hS2=>?_)
 clear hK
 try simp only [Act.put,tka,tkb,tkc]
 replace bw:=bw.grown g9 (Nat.le_trans (by omega) bw.size) (fun k hk=>by cases hk;omega)
 replace hA9:=hA9.box of9 pR (Xa _ (by intro k z e;cases e)) g9
 replace pE:=pE.kept g9 (by simp)
 replace pR:=q9.out
 clear q9 g9
 refine tkx 5 10 (.int .i64 (nd:Int)) ?_ ?_
 ·(intro w' hSw;(try dsimp only at hSw);go_simp;first | done | rfl | omega | (intro h9;omega) | (rw [IntKind.wrap_i64];omega))
 simp only [Act.put,tka,tkb,tkc]
 refine tkx 6 11 (.bool false) ?_ ?_
 ·(intro w' hSw;(try dsimp only at hSw);go_simp;first | done | rfl | omega | (intro h9;omega) | (rw [IntKind.wrap_i64];omega))
 simp only [Act.put,tka,tkb,tkc]
 refine wpAnyH_done (by kernel_rfl) ?_ _
 clear hS0 hS1 hS2
 have z0:=pE.cell 0
 have z1:=pE.cell 1
 have z2:=pE.cell 2
 have z3:=pR.cell 0
 simp only [List.getElem?_cons_zero,List.getElem?_cons_succ] at z0 z1 z2 z3
 go_wp2
 refine bodyPost_ret (by simp [results,Tryz.results118,go_sem,z0,z1,z2,z3];try rfl) rfl ?_
 exact ⟨Wz.mk9 (r:=(e3d,(es,nd),false)) ((none,0,0),(none,0,0)) (Z1.zero9 _) hA9 hnil (.inl ⟨rfl,rfl,rfl⟩),bw⟩


theorem Jb (m:V4) {k:Nat} (hk:k<3):(Zr m).take (k+1)=(Zr m).take k++[8*(k:Int)+m.1.getD k 0]:=by
 match k,hk with
 | 0,_=>simp [Zr]
 | 1,_=>simp [Zr]
 | 2,_=>simp [Zr]
theorem NE (s:S4) (m:V4) (w:World) (h:Yy w s m) (hs:Zd m=true) :
  Calls Tryz.prog 169 #[s.val] w fun e w'=>TY e w' w.heap.size (Zr m)∧Below w.heap.size w w':=by
 obtain ⟨i0,hi,hz0,hz1,hz2⟩:=info_parts XC
 obtain ⟨h1,_⟩:=h
 have hl3:=(ZI hs).1
 have hpc:=fun k hk=>PR hs (k:=k) hk
 obtain ⟨⟨a0,n0,c0⟩,⟨a1,n1,c1⟩,⟨a2,n2,c2⟩,⟨a3,n3,c3⟩⟩:=s
 have uA:S4.val ((a0,n0,c0),(a1,n1,c1),(a2,n2,c2),(a3,n3,c3))=.agg #[.slice a0 n0 c0,.slice a1 n1 c1,.slice a2 n2 c2,.slice a3 n3 c3]:=rfl
 simp only [uA] at *
 clear uA
 replace h1:Z2 .i64 w a0 n0 c0 m.1:=h1.1
 have bw:Below w.heap.size w ((w.alloc (.cells #[.slice a0 n0 c0,.slice a1 n1 c1,.slice a2 n2 c2,.slice a3 n3 c3] 112)).alloc (.cells #[] 3)):=by go_grown
 have pS:Blk ((w.alloc (.cells #[.slice a0 n0 c0,.slice a1 n1 c1,.slice a2 n2 c2,.slice a3 n3 c3] 112)).alloc (.cells #[] 3)) w.heap.size 112 [.slice a0 n0 c0,.slice a1 n1 c1,.slice a2 n2 c2,.slice a3 n3 c3]:=Zg _ (Zi _ _ _ rfl)
 have q0:=WB (w.alloc (.cells #[.slice a0 n0 c0,.slice a1 n1 c1,.slice a2 n2 c2,.slice a3 n3 c3] 112)) 3 1 (w.heap.size+1) (by simp)
 go_enter Tryz.func169,Tryz.ntmps169
 go_wp2_with fail
 generalize (w.alloc (.cells #[.slice a0 n0 c0,.slice a1 n1 c1,.slice a2 n2 c2,.slice a3 n3 c3] 112)).alloc (.cells #[] 3)=W0 at *
 simp only [World.size_alloc] at q0
 go_loopw [3,4] (fun so si wr=>∃ (k:Nat) (v:Value),v=so∧k≤3∧si=.int .i64 k∧wr.ownsRow (w.heap.size+1) 3 1 v k (((Zr m).take k).map (Value.int .i64))∧Blk wr w.heap.size 112 [.slice a0 n0 c0,.slice a1 n1 c1,.slice a2 n2 c2,.slice a3 n3 c3]∧Below w.heap.size w wr) (fun _ si _=>3 - (Go.RowKit.intOf si).toNat)
 case atStart=>exact ⟨0,_,rfl,by omega,rfl,q0,pS,bw⟩
 case round =>
  clear q0 pS bw
  obtain ⟨k,so,rfl,hk,rfl,q,pS,bw⟩:=hrel
  by_cases hlt:k<3
  ·have hk3:(k:Int)<3:=by omega
   have hk0:(0:Int)≤(k:Int):=by omega
   have hln:=h1.1
   have hkn:(k:Int)<(n0:Int):=by omega
   have HT:Hid ((Zr m).take (k+1)=(Zr m).take k++[8*(k:Int)+m.1.getD k 0]):=Jb m hlt
   have kI:=MN (k:Int) (m.1.getD k 0) wr (YH.2 (by omega)) (hpc k hlt)
   obtain ⟨_,_,_,hcase⟩:=h1.below bw
   rcases hcase with e0 | ⟨b,off,rfl,hb9,hc⟩
   ·omega
   have d0:=hc k (by omega)
   have gS0:wr.cell? ⟨w.heap.size,0,none⟩=some (.slice (some ⟨b,off,none⟩) n0 c0):=by simpa using pS.cell 0
   generalize m.1.getD k 0=p at d0 HT kI
   have hsz:=bw.size
   have hsl:=pS.lt
   clear hc hb9 hln
   go_wp2_with fail
   refine kI.mono ?_
   rintro e w3 ⟨rfl,rfl⟩
   clear kI
   generalize 8*(k:Int)+p=zz at *
   go_wp2_with (at_builtin;refine wpList_append_own _ rfl _ _ 36 rfl (w.heap.size+1) 3 i0 (.int .i64 0) 1 8 Tryz.underlying36 hi hz0 hz1 hz2 rfl (by decide) _ _ _ rfl (q.alloc _) ⟨wr.heap.size,0,none⟩ 1 1 [.int .i64 zz] rfl rfl (cell_one_new _ _ _) (by simp [Value.oneCell']) ?c3 ?c4 ?c5 ?_)
   case c3=>unfold maxLen;omega
   case c4=>omega
   case c5=>simp;omega
   intro v' wn hown' hgrow _
   have R:wn.ownsRow (w.heap.size+1) 3 1 v' (k+1) (((Zr m).take (k+1)).map (Value.int .i64)):=by
    rw [HT.out,List.map_append]
    simpa [List.map_take] using hown'
   have bn:Below w.heap.size w wn:=(bw.alloc hsz _).grown hgrow (by simp;omega) (fun k hk=>by have:=(q.lt k hk).1;omega)
   have pn:Blk wn w.heap.size 112 [.slice (some ⟨b,off,none⟩) n0 c0,.slice a1 n1 c1,.slice a2 n2 c2,.slice a3 n3 c3]:=(pS.below (by go_grown:Below wr.heap.size wr (wr.alloc (.cells #[.int .i64 zz] 3)))).kept hgrow (fun e=>by have:=(q.lt _ e).1;omega)
   clear hown' hgrow q bw pS HT gS0 d0
   go_wp2
   go_roundw
   case rel=>exact ⟨k+1,_,rfl,by omega,by go_num,R,pn,bn⟩
   case measure=>simp [Go.RowKit.intOf];omega
  obtain rfl:k=3:=by omega
  obtain ⟨ga,gc,rfl⟩:=Uj q (by omega)
  go_wp2
  go_ret
  exact ⟨⟨_,rfl,Yl q (by omega)⟩,bw⟩
end Go.Proofs.YtnffeclgboomoaaGreatDoor
