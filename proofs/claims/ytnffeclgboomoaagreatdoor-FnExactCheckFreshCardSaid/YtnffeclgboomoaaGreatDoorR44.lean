/-
  Joined: VstI, MemC, VisA, LokA.
-/
import Derived.Defers
import Derived.Test.YtnffeclgboomoaaGreatDoorR43

namespace Go.Proofs.YtnffeclgboomoaaGreatDoor
set_option maxRecDepth 100000
set_option maxHeartbeats 16000000
open Go.RowKit
set_option linter.unusedVariables false
set_option linter.unusedSimpArgs false

theorem UD (w:World):(zeroValue 45).run Tryz.prog w=.ok (.agg #[.string ⟨#[]⟩,.slice none 0 0,.slice none 0 0]) w:=by kernel_rfl
def H4 (Q:Exit→Act→World→Prop) (e:Exit) (a:Act) (w:World):Prop:=match e with
 | .normal=>Q .normal a w
 | _=>False
theorem Jv {Q:Exit→Act→World→Prop}:∀ e a w,H4 Q e a w→Q e a w:=by
 intro e a w h
 cases e<;>first | exact h | exact h.elim
theorem Nt {Q:Exit→Act→World→Prop} {a:Act} {w:World} (h:Q .normal a w):H4 Q .normal a w:=h
theorem QQ {P:Program} {fn:Func} {R:Ending→World→Prop} {a:Act} {w:World} {v:Value} (hd:a.defers=[]) (hr:(results fn a.tmps).run P w=.ok v w) (hR:R (.returned v) w):bodyPostD P fn R .ret a w:=by
 show Leaves P fn a.tmps R a.defers .returning w
 rw [hd]
 exact ⟨v,hr,hR⟩
def NX (V W:World) (cells:List Value) (b:Bool) (s6 s7:Value):Prop:=∃ Q,s6=.pointer (some ⟨Q,0,none⟩)∧s7=.bool b∧Blk W Q 45 cells∧Below V.heap.size V W∧V.heap.size≤Q
theorem RV {rows:List (List I3)} {g f:Nat} {m:V4} {st:ZE} (h:isE st.1 (ZG m)=true):Yk rows g (f+1) m st=(WU st.1 (ZG m),st):=by unfold Yk;rw [if_pos h]
theorem QW {rows:List (List I3)} {g f:Nat} {m:V4} {st:ZE} (h:isE st.1 (ZG m)=false) (h2:2000<g+(st.2+1)):Yk rows g (f+1) m st=(e3d,(st.1,st.2+1)):=by unfold Yk;rw [h,if_neg (by simp),if_pos h2]
theorem QV {rows:List (List I3)} {g f:Nat} {m:V4} {st:ZE} (h:isE st.1 (ZG m)=false) (h2:¬ 2000<g+(st.2+1)):Yk rows g (f+1) m st=(Vd m (Z1 rows g f m (st.1,st.2+1) 3),(Ws (Z1 rows g f m (st.1,st.2+1) 3).2.1 (Vd m (Z1 rows g f m (st.1,st.2+1) 3)),(Z1 rows g f m (st.1,st.2+1) 3).2.2)):=by
 unfold Yk
 rw [h,if_neg (by simp),if_neg h2,T2 (YZ rows m 3)]
theorem Hg {D:DataW Value} {L:List EQ} (hG:Uk D L) (key:ByteArray) (z:Value):∃ (k9:ByteArray) (s:Sl2),(isE (L.map (·.1)) key=true→(WU (L.map (·.1)) key,s) ∈ L∧(WU (L.map (·.1)) key).1=key∧k9=key∧D.atKey (WX key) (.held z)=.held (ZM k9 s))∧(isE (L.map (·.1)) key=false→z=ZM ⟨#[]⟩ ((none,0,0),(none,0,0))→D.atKey (WX key) (.held z)=.held (ZM k9 s)∧k9=⟨#[]⟩∧s=((none,0,0),(none,0,0))):=by
 by_cases h:isE (L.map (·.1)) key=true
 ·obtain ⟨s,h1,h2,h3⟩:=hG.found h
  exact ⟨key,s,fun _=>⟨h1,h2,rfl,h3 _⟩,fun h9=>by rw [h] at h9;cases h9⟩
 refine ⟨⟨#[]⟩,((none,0,0),(none,0,0)),fun h9=>absurd h9 h,fun h9 hz=>⟨?_,rfl,rfl⟩⟩
 rw [Maps.atKey_of_not_has (by rw [hG.has];exact h9),hz]
theorem MM {rows:List (List I3)} {g:Nat} {w0:World} {C nb:Nat} {cs:Sl × Sl × Sl} (hp:Zq rows=true) (hg:g≤2000) (hV:Z0 w0) (hI:∀ k,k<3→Zm w0 (slK cs k).1 (slK cs k).2.1 (slK cs k).2.2 (Xq rows k)) {f:Nat} (ih:Q4 rows g w0 C nb cs f):Q4 rows g w0 C nb cs (f+1):=by
 intro m st n L w hs hf hE ht hn hL hO
 have hmf:∀ (fn:Fn) (first cap:Array Value) (w:World),(Instr.makeFunc fn first cap).run Tryz.prog w=.ok (.func fn first cap) w:=fun _ _ _ _=>rfl
 have htf:VF (f+1)=1+3*VF f:=rfl
 rw [htf] at ht

 obtain ⟨D,hm,hG⟩:=hO.map
 obtain ⟨key,hkey⟩:∃ key,key=ZG m:=⟨_,rfl⟩
 have hks:key.size≤maxLen:=by rw [hkey,WI hs];unfold maxLen;omega
 have hkl:keyOf Tryz.prog 9 (.string key)=some (WX key):=WideMaps.keyOf_string_mk Tryz.underlying9 hks
 have HN:=fun (W:World)=>N6 hp hg hV hI ih m (st.1,st.2+1) n L W hs hf hE (by show st.2+1+3*VF f≤600000000;omega) (by show n+1≤g+(st.2+1);omega) hL
 rw [← hkey] at HN
 have kK:=fun (W:World) (q:Nat) (h:Blk W q 122 (Zk cs.1.val cs.2.1.val cs.2.2.val m)) (hV:Z0 W)=>Hn (cs:=cs) h hs hV
 rw [← hkey] at kK
 obtain ⟨k9,⟨⟨s1a,s1n,s1c⟩,⟨s2a,s2n,s2c⟩⟩,hY9,hN9⟩:=Hg hG key (.agg #[.string ⟨#[]⟩,.slice none 0 0,.slice none 0 0])
 rw [hL] at hY9 hN9
 obtain ⟨bb,hbb9⟩:∃ bb,bb=isE st.1 key:=⟨_,rfl⟩
 rw [← hbb9] at hY9 hN9
 have HV:Hid (∀ v ps,Vi v=some (D.atKey (WX key) (.held (.agg #[.string ⟨#[]⟩,.slice none 0 0,.slice none 0 0])),ps)→v=.agg #[.string k9,.slice s1a s1n s1c,.slice s2a s2n s2c]∧Maps.has D (WX key)=bb):=by
  intro v ps hv
  refine ⟨?_,by rw [hG.has,hL,hbb9]⟩
  unfold Vi at hv
  injection hv with hv
  injection hv with hv _
  cases hq:bb
  ·have h9:=(hN9 hq rfl).1
   rw [h9] at hv
   injection hv
  have h9:=(hY9 hq).2.2.2
  rw [h9] at hv
  injection hv
 have HKEY:Hid (key=ZG m):=hkey
 have HBB:Hid (bb=isE st.1 (ZG m)):=by rw [Hid,hbb9,hkey]
 clear hkey hbb9
 have hCw:C<w.heap.size:=hO.box.lt
 obtain ⟨x0,x1,x2,x3,x4,x5,x6,x7,x8,x9,x10,x11,x12,x13,x14,x15,x16,x17,hMC⟩:∃ x0 x1 x2 x3 x4 x5 x6 x7 x8 x9 x10 x11 x12 x13 x14 x15 x16 x17:Value,Zk cs.1.val cs.2.1.val cs.2.2.val m=[x0,x1,x2,x3,x4,x5,x6,x7,x8,x9,x10,x11,x12,x13,x14,x15,x16,x17]:=⟨_,_,_,_,_,_,_,_,_,_,_,_,_,_,_,_,_,_,rfl⟩
 have HMC:Hid (Zk cs.1.val cs.2.1.val cs.2.2.val m=[x0,x1,x2,x3,x4,x5,x6,x7,x8,x9,x10,x11,x12,x13,x14,x15,x16,x17]):=hMC
 rw [hMC]
 have bw:Below w.heap.size w (((w.alloc (.cells #[.pointer (some ⟨C,0,none⟩)] 187)).alloc (.cells #[x0,x1,x2,x3,x4,x5,x6,x7,x8,x9,x10,x11,x12,x13,x14,x15,x16,x17] 122)).alloc (.cells #[.string ⟨#[]⟩,.slice none 0 0,.slice none 0 0] 45)):=by go_grown
 have pC:Blk (((w.alloc (.cells #[.pointer (some ⟨C,0,none⟩)] 187)).alloc (.cells #[x0,x1,x2,x3,x4,x5,x6,x7,x8,x9,x10,x11,x12,x13,x14,x15,x16,x17] 122)).alloc (.cells #[.string ⟨#[]⟩,.slice none 0 0,.slice none 0 0] 45)) w.heap.size 187 [.pointer (some ⟨C,0,none⟩)]:=Zi _ (Zi _ (Zj _ _ _ rfl))
 have pM:Blk (((w.alloc (.cells #[.pointer (some ⟨C,0,none⟩)] 187)).alloc (.cells #[x0,x1,x2,x3,x4,x5,x6,x7,x8,x9,x10,x11,x12,x13,x14,x15,x16,x17] 122)).alloc (.cells #[.string ⟨#[]⟩,.slice none 0 0,.slice none 0 0] 45)) (w.heap.size+1) 122 [x0,x1,x2,x3,x4,x5,x6,x7,x8,x9,x10,x11,x12,x13,x14,x15,x16,x17]:=Zi _ (Zj _ _ _ (by simp))
 have pE:Blk (((w.alloc (.cells #[.pointer (some ⟨C,0,none⟩)] 187)).alloc (.cells #[x0,x1,x2,x3,x4,x5,x6,x7,x8,x9,x10,x11,x12,x13,x14,x15,x16,x17] 122)).alloc (.cells #[.string ⟨#[]⟩,.slice none 0 0,.slice none 0 0] 45)) (w.heap.size+1+1) 45 [.string ⟨#[]⟩,.slice none 0 0,.slice none 0 0]:=Zj _ _ _ (by simp)
 clear hMC
 go_enter_defers Tryz.func70,Tryz.ntmps70
 go_wp2_with fail
 generalize (((w.alloc (.cells #[.pointer (some ⟨C,0,none⟩)] 187)).alloc (.cells #[x0,x1,x2,x3,x4,x5,x6,x7,x8,x9,x10,x11,x12,x13,x14,x15,x16,x17] 122)).alloc (.cells #[.string ⟨#[]⟩,.slice none 0 0,.slice none 0 0] 45))=U at *
 rw [← HMC.out] at pM
 have kKx:=kK U _ pM (hV.below (Zb hO.base bw))
 refine kKx.mono ?_
 rintro e w1 ⟨rfl,hb⟩
 replace bw:=Zb bw hb
 replace pC:=pC.below hb
 replace pM:=pM.below hb
 replace pE:=pE.below hb
 clear hb kK kKx
 obtain ⟨X4,hX4⟩:∃ X4,X4=w.heap.size+1+1:=⟨_,rfl⟩
 rw [← hX4] at pE ⊢
 obtain ⟨X3,hX3⟩:∃ X3,X3=w.heap.size+1:=⟨_,rfl⟩
 rw [← hX3] at pM ⊢
 obtain ⟨X2,hX2⟩:∃ X2,X2=w.heap.size:=⟨_,rfl⟩
 rw [← hX2] at pC ⊢
 have hX2w:w.heap.size≤X2:=by omega
 have hX3w:w.heap.size≤X3:=by omega
 have hX4w:w.heap.size≤X4:=by omega
 clear hX2 hX3 hX4
 have hal:Below w1.heap.size w1 (w1.alloc (.cells #[.string key] 9)):=by go_grown
 have pK:Blk (w1.alloc (.cells #[.string key] 9)) w1.heap.size 9 [.string key]:=Zj _ _ _ rfl
 go_wp2_with fail
 have hX5w:=bw.size
 replace bw:=Zb bw hal
 replace pC:=pC.below hal
 replace pM:=pM.below hal
 replace pE:=pE.below hal
 clear hal
 generalize (w1.alloc (.cells #[.string key] 9))=V1 at *
 generalize w1.heap.size=X5 at *
 have oc:=hO.below bw
 have hm1:V1.ownsMap Tryz.prog 9 Vi nb n D:=hm.kept (row:=none) ⟨bw.os,bw.tape,bw.output,bw.size,fun k hk _=>bw.block k hk⟩ (by simp)
 go_cut [6,7] from 9 to 17 (fun s6 s7 W=>NX V1 W [.string k9,.slice s1a s1n s1c,.slice s2a s2n s2c] bb s6 s7)
 ·refine wp_mono ?_ Jv
  refine wp_region_held_drew (S:=(fun w'=>w'.cell? ⟨X2,0,none⟩=some (.pointer (some ⟨C,0,none⟩))∧w'.cell? ⟨C,0,none⟩=some (.map (some nb))∧w'.cell? ⟨X5,0,none⟩=some (.string key))) (by kernel_rfl) ⟨by simpa using pC.cell 0,by simpa using oc.box.cell 0,by simpa using pK.cell 0⟩ (fun hS0=>?_)
  have hX2V:=pC.lt
  have hCV:=oc.box.lt
  have hX5V:=pK.lt
  refine tkm 0 10 (.pointer (some ⟨C,0,none⟩)) ?_
  refine tkm 1 11 (.pointer (some ⟨C,0,none⟩)) ?_
  refine tkm 2 12 (.pointer (some ⟨C,0,none⟩)) ?_
  refine tkm 3 13 (.map (some nb)) ?_
  refine tkm 4 14 (.string key) ?_
  have hmV:V1.drew.ownsMap Tryz.prog 9 Vi nb n D:=hm1.drew
  have hV1:Below V1.heap.size V1 V1.drew:=by go_grown
  have hVs:V1.drew.heap.size=V1.heap.size:=rfl
  rw [← hVs] at hX2V hCV hX5V
  clear hVs
  generalize V1.drew=V at *
  clear HN pC pM pE pK oc hO hm1 hm bw ih
  refine wpAnyH_ready (rs:=[5,9]) (by kernel_rfl) (by simp) ?_
  refine AllReadyH.cons (o:=⟨some 15,_,_,_,_,_⟩) rfl (fun K hK=>?_) (AllReadyH.cons (o:=⟨some 6,_,_,_,_,_⟩) rfl (fun K hK=>?_) AllReadyH.nil)
  ·refine Sy rfl _ _ 130 rfl 9 45 Ww Tryz.underlying130 Vi (UD _) (.held (.agg #[.string ⟨#[]⟩,.slice none 0 0,.slice none 0 0])) [] rfl nb n D rfl hmV _ (WX key) rfl hkl ?_
   intro v9 ps9 hv9
   have hv8:=HV.out v9 ps9 hv9
   clear hv9
   obtain ⟨rfl,hbb⟩:=hv8
   rw [hbb]
   refine hK.out _ _ hS0 (fun hS1=>?_)
   clear hK
   try simp only [Act.put,tka,tkb,tkc]
   refine tkm 6 9 (.tuple #[.agg #[.string k9,.slice s1a s1n s1c,.slice s2a s2n s2c],.bool bb]) ?_
   refine tkm 7 16 (.agg #[.string k9,.slice s1a s1n s1c,.slice s2a s2n s2c]) ?_
   refine tkm 8 17 (.bool bb) ?_
   refine tkr 9 6 (fun K hK=>?_)
   have hal:Below V.heap.size V (V.alloc (.cells #[.string ⟨#[]⟩,.slice none 0 0,.slice none 0 0] 45)):=by go_grown
   have pQ:Blk (V.alloc (.cells #[.string ⟨#[]⟩,.slice none 0 0,.slice none 0 0] 45)) V.heap.size 45 [.string ⟨#[]⟩,.slice none 0 0,.slice none 0 0]:=Zj _ _ _ rfl
   go_simp
   refine hK.out _ _ ⟨Za hal _ _ hS1.1,Za hal _ _ hS1.2.1,Za hal _ _ hS1.2.2⟩ (fun hS2=>?_)
   clear hK
   generalize (V.alloc (.cells #[.string ⟨#[]⟩,.slice none 0 0,.slice none 0 0] 45))=V2 at *
   obtain ⟨Q,hQ⟩:∃ Q,Q=V.heap.size:=⟨_,rfl⟩
   rw [← hQ] at pQ ⊢
   have hQV:V.heap.size≤Q:=by omega
   have hX2Q:X2≠Q:=by omega
   have hCQ:C≠Q:=by omega
   have hX5Q:X5≠Q:=by omega
   clear hQ
   try simp only [Act.put,tka,tkb,tkc]
   refine tkz 10 (fun K hK=>?_)
   refine Zf rfl 45 _ _ rfl Q [.string k9,.slice s1a s1n s1c,.slice s2a s2n s2c] rfl rfl pQ (by kernel_rfl) rfl rfl ?_
   intro V3 p3 g3
   refine hK.out _ _ ⟨Zg g3 hS2.1 (fun e=>hX2Q (by injection e)),Zg g3 hS2.2.1 (fun e=>hCQ (by injection e)),Zg g3 hS2.2.2 (fun e=>hX5Q (by injection e))⟩ (fun hS3=>?_)
   clear hK
   try simp only [Act.put,tka,tkb,tkc]
   refine tkm 11 7 (.bool bb) ?_
   refine wpAnyH_done (by kernel_rfl) ?_ _
   refine Nt ?_
   have HQ9:Hid (NX V1 V3 [.string k9,.slice s1a s1n s1c,.slice s2a s2n s2c] bb (.pointer (some ⟨Q,0,none⟩)) (.bool bb)):=⟨Q,rfl,rfl,p3.out,(Zb hV1 hal).grown g3 (Zb hV1 hal).size (fun q e=>by cases e;exact Nat.le_trans hV1.size hQV),Nat.le_trans hV1.size hQV⟩
   clear p3 g3 pQ hal hS2 hS3
   go_wp2_with fail
   go_meet
   case rel=>exact HQ9.out
  have hal:Below V.heap.size V (V.alloc (.cells #[.string ⟨#[]⟩,.slice none 0 0,.slice none 0 0] 45)):=by go_grown
  have pQ:Blk (V.alloc (.cells #[.string ⟨#[]⟩,.slice none 0 0,.slice none 0 0] 45)) V.heap.size 45 [.string ⟨#[]⟩,.slice none 0 0,.slice none 0 0]:=Zj _ _ _ rfl
  have hm2:=hmV.alloc (.cells #[.string ⟨#[]⟩,.slice none 0 0,.slice none 0 0] 45)
  go_simp
  refine hK.out _ _ ⟨Za hal _ _ hS0.1,Za hal _ _ hS0.2.1,Za hal _ _ hS0.2.2⟩ (fun hS1=>?_)
  clear hK
  generalize (V.alloc (.cells #[.string ⟨#[]⟩,.slice none 0 0,.slice none 0 0] 45))=V2 at *
  try simp only [Act.put,tka,tkb,tkc]
  refine tkr 5 15 (fun K hK=>?_)
  refine Sy rfl _ _ 130 rfl 9 45 Ww Tryz.underlying130 Vi (UD _) (.held (.agg #[.string ⟨#[]⟩,.slice none 0 0,.slice none 0 0])) [] rfl nb n D rfl hm2 _ (WX key) rfl hkl ?_
  intro v9 ps9 hv9
  have hv8:=HV.out v9 ps9 hv9
  clear hv9
  obtain ⟨rfl,hbb⟩:=hv8
  rw [hbb]
  refine hK.out _ _ hS1 (fun hS2=>?_)
  clear hK
  try simp only [Act.put,tka,tkb,tkc]
  refine tkm 6 9 (.tuple #[.agg #[.string k9,.slice s1a s1n s1c,.slice s2a s2n s2c],.bool bb]) ?_
  refine tkm 7 16 (.agg #[.string k9,.slice s1a s1n s1c,.slice s2a s2n s2c]) ?_
  refine tkm 8 17 (.bool bb) ?_
  obtain ⟨Q,hQ⟩:∃ Q,Q=V.heap.size:=⟨_,rfl⟩
  rw [← hQ] at pQ ⊢
  have hQV:V.heap.size≤Q:=by omega
  have hX2Q:X2≠Q:=by omega
  have hCQ:C≠Q:=by omega
  have hX5Q:X5≠Q:=by omega
  clear hQ
  try simp only [Act.put,tka,tkb,tkc]
  refine tkz 10 (fun K hK=>?_)
  refine Zf rfl 45 _ _ rfl Q [.string k9,.slice s1a s1n s1c,.slice s2a s2n s2c] rfl rfl pQ (by kernel_rfl) rfl rfl ?_
  intro V3 p3 g3
  refine hK.out _ _ ⟨Zg g3 hS2.1 (fun e=>hX2Q (by injection e)),Zg g3 hS2.2.1 (fun e=>hCQ (by injection e)),Zg g3 hS2.2.2 (fun e=>hX5Q (by injection e))⟩ (fun hS3=>?_)
  clear hK
  try simp only [Act.put,tka,tkb,tkc]
  refine tkm 11 7 (.bool bb) ?_
  refine wpAnyH_done (by kernel_rfl) ?_ _
  refine Nt ?_
  have HQ9:Hid (NX V1 V3 [.string k9,.slice s1a s1n s1c,.slice s2a s2n s2c] bb (.pointer (some ⟨Q,0,none⟩)) (.bool bb)):=⟨Q,rfl,rfl,p3.out,(Zb hV1 hal).grown g3 (Zb hV1 hal).size (fun q e=>by cases e;exact Nat.le_trans hV1.size hQV),Nat.le_trans hV1.size hQV⟩
  clear p3 g3 pQ hal hS2 hS3
  go_wp2_with fail
  go_meet
  case rel=>exact HQ9.out
 obtain ⟨Q,rfl,rfl,pQ,b2,hQ1⟩:=hcut
 replace oc:=oc.below b2
 replace pC:=pC.below b2
 replace pM:=pM.below b2
 replace pE:=pE.below b2
 replace pK:=pK.below b2
 have bz:=Zb bw b2
 have kpz:=XZ.of (C:=C) (nb:=nb) bz
 have hXC:∀ q,w.heap.size≤q→q≠C:=fun q h e=>by omega
 have nI:=Zt ⟨#[]⟩ ((none,0,0),(none,0,0))
 have hw1:IntKind.i64.wrap ((st.2:Int)+1)=(st.2:Int)+1:=by rw [IntKind.wrap_i64];omega
 clear HV hm1 hm hG bw b2 hQ1 HMC
 cases hq:bb
 ·rw [hq] at HBB
  clear hY9 hN9 pQ hq
  have c20:=pC.cell 0
  have c22:=oc.box.cell 2
  have f22:=oc.box.frozen 2
  simp only [List.getElem?_cons_zero,List.getElem?_cons_succ] at c20 c22
  have oc1:=oc.node (st.2+1)
  have kp1:=kpz.trans (L0 wc C nb (.int .i64 ((st.2+1:Nat):Int)))
  have hcast:((st.2+1:Nat):Int)=(st.2:Int)+1:=by omega
  replace pC:=pC.off ⟨C,2,none⟩ (.int .i64 ((st.2+1:Nat):Int)) (hXC _ hX2w)
  replace pM:=pM.off ⟨C,2,none⟩ (.int .i64 ((st.2+1:Nat):Int)) (hXC _ hX3w)
  replace pE:=pE.off ⟨C,2,none⟩ (.int .i64 ((st.2+1:Nat):Int)) (hXC _ hX4w)
  replace pK:=pK.off ⟨C,2,none⟩ (.int .i64 ((st.2+1:Nat):Int)) (hXC _ hX5w)
  rw [hcast] at oc1 kp1 pC pM pE pK
  clear hcast
  go_upto_region 6 with fail
  clear c20 c22 f22 oc kpz hw1
  generalize (wc.setCell ⟨C,2,none⟩ (.int .i64 ((st.2:Int)+1)))=W1 at *
  have c20:=pC.cell 0
  simp only [List.getElem?_cons_zero] at c20
  have kOv:=Lg g (st.2+1) oc1.box (by omega)
  go_wp2_with fail
  refine kOv.mono ?_
  rintro e W2 ⟨rfl,hb⟩
  replace oc1:=oc1.below hb
  replace kp1:=kp1.bel hb
  replace pC:=pC.below hb
  replace pM:=pM.below hb
  replace pE:=pE.below hb
  replace pK:=pK.below hb
  clear kOv hb c20
  by_cases hov:2000<g+(st.2+1)
  ·rw [decide_eq_true hov]
   have HR:Hid (Yk rows g (f+1) m st=(e3d,(st.1,st.2+1))):=QW HBB.out.symm hov
   clear HN
   go_wp2_with (refine Zd rfl 45 _ _ rfl X4 [.string ⟨#[]⟩,.slice none 0 0,.slice none 0 0] rfl rfl pE (by kernel_rfl) rfl rfl ?_)
   intro W3 p3 g3
   have pE3:=p3.out
   have oc3:=oc1.grow g3 (fun e=>hXC _ hX4w (by cases e;rfl)) (fun e=>oc1.noblk pE (by cases e;rfl)) (fun j e=>by cases e;exact Nat.le_trans hO.base.size hX4w) (fun x hx q hq e=>(oc1.ents x hx).1.off11 hq pE nI (by cases e;rfl))
   have kp3:=kp1.gr g3 (fun j e=>.inr (.inr (by cases e;exact hX4w)))
   have HG:Hid (NY (.returned (.agg #[.string ⟨#[]⟩,.slice none 0 0,.slice none 0 0])) w0 w W3 C nb g n L st.2 (Yk rows g (f+1) m st)):=by
    rw [HR.out]
    exact ⟨((none,0,0),(none,0,0)),L,n,rfl,YI.zero9 _,⟨⟨fun _=>rfl,fun x hx=>by cases hx⟩,fun j hj=>by rcases hj with hj | hj<;>exact absurd rfl hj.1⟩,fun j hj=>by rcases hj with hj | hj<;>exact absurd rfl hj.1,oc3,hL,by show n+st.2≤n+(st.2+1);omega,fun x hx=>.inl hx,kp3⟩
   have q0:=pE3.cell 0
   have q1:=pE3.cell 1
   have q2:=pE3.cell 2
   simp only [List.getElem?_cons_zero,List.getElem?_cons_succ] at q0 q1 q2
   clear p3 g3 oc3 kp3 oc1 kp1 pE pE3 pC pM pK
   go_wp2
   refine QQ (v:=.agg #[.string ⟨#[]⟩,.slice none 0 0,.slice none 0 0]) rfl ?_ ?_
   ·simp [results,Tryz.results70,go_sem,q0,q1,q2]
   exact HG.out
  rw [decide_eq_false hov]
  have HR:Hid (Yk rows g (f+1) m st=(Vd m (Z1 rows g f m (st.1,st.2+1) 3),(Ws (Z1 rows g f m (st.1,st.2+1) 3).2.1 (Vd m (Z1 rows g f m (st.1,st.2+1) 3)),(Z1 rows g f m (st.1,st.2+1) 3).2.2))):=QV HBB.out.symm hov
  have kN:=HN W2 oc1
  clear HN
  have c20:=pC.cell 0
  have c50:=pK.cell 0
  simp only [List.getElem?_cons_zero] at c20 c50
  go_wp2_with (refine Zc rfl 122 _ rfl X3 rfl pM _ Tryz.underlying122 rfl (by kernel_rfl) ?_)
  refine kN.mono ?_
  rintro e W3 ⟨⟨⟨ba,bn,bc⟩,⟨za,zn,zc⟩⟩,L',n',rfl,hEm,hOff,hEs,oc3,lm,nn,old,kp3⟩
  have htop:=QU (rows:=rows) (g:=g) (f:=f) (m:=m) (st:=(st.1,st.2+1)) 3 (by omega)
  generalize Z1 rows g f m (st.1,st.2+1) 3=R at *
  simp only at htop
  have uE:ZM (Vd m R).1 ((ba,bn,bc),(za,zn,zc))=.agg #[.string key,.slice ba bn bc,.slice za zn zc]:=by rw [HKEY.out];rfl
  simp only [uE]
  clear uE
  have hne:∀ q t cs9,Blk W2 q t cs9→w.heap.size≤q→Blk W3 q t cs9:=fun q t cs9 h h2=>kp3.blk h (hXC q h2) (oc1.noblk h)
  replace pC:=hne _ _ _ pC hX2w
  replace pE:=hne _ _ _ pE hX4w
  replace pK:=hne _ _ _ pK hX5w
  replace kp3:=kp1.trans kp3
  have hs1:=kp1.size
  clear hne c20 c50 kN pM oc1 kp1
  simp only at oc3 lm nn
  go_wp2_with (refine Zd rfl 45 _ _ rfl X4 [.string key,.slice ba bn bc,.slice za zn zc] rfl rfl pE (by kernel_rfl) rfl rfl ?_)
  intro W4 p4 g4
  have pE4:=p4.out
  have oc4:=oc3.grow g4 (fun e=>hXC _ hX4w (by cases e;rfl)) (fun e=>oc3.noblk pE (by cases e;rfl)) (fun j e=>by cases e;exact Nat.le_trans hO.base.size hX4w) (fun x hx q hq e=>(oc3.ents x hx).1.off11 hq pE nI (by cases e;rfl))
  have kp4:=kp3.gr g4 (fun j e=>.inr (.inr (by cases e;exact hX4w)))
  have hEm4:=hEm.same11 g4.size (fun j hj=>g4.block j (hEm.blk11 hj).1 (fun e=>hEm.off11 hj pE nI (by cases e;rfl)))
  have pC4:=pC.kept g4 (fun e=>Y2 pE pC (by decide) (by cases e;rfl))
  have pK4:=pK.kept g4 (fun e=>Y2 pE pK (by decide) (by cases e;rfl))
  obtain ⟨D4,hm4,hG4⟩:=oc4.map
  have c24:=pC4.cell 0
  have c54:=pK4.cell 0
  simp only [List.getElem?_cons_zero] at c24 c54
  have hke:(Vd m R).1=key:=by rw [HKEY.out];rfl
  have k1:=KV (Vd m R) ((ba,bn,bc),(za,zn,zc)) (by rw [hke];exact pE4) c24 (by rw [hke];exact c54) oc4.box hm4 hG4 (by rw [hke];exact hks) (by omega)
  clear p4 pE pC pK c24 c54 hke
  go_wp2
  refine leaves_cons (f:=126) (args:=#[.pointer (some ⟨X4,0,none⟩),.pointer (some ⟨X2,0,none⟩),.pointer (some ⟨X5,0,none⟩)]) (by simp) (by simp [go_sem]) ?_
  refine k1.mono ?_
  rintro e u' W5 ⟨rfl,rfl,hP,hg9⟩
  have oc5:=oc4.put hEm4 hOff hP hg9
  have hEm5:=oc4.nbkeep hg9 hEm4
  have kp5:=kp4.gr hg9 (fun j e=>.inr (.inl (by cases e;rfl)))
  have pE5:=pE4.kept hg9 (fun e=>oc4.noblk pE4 (by cases e;rfl))
  have q0:=pE5.cell 0
  have q1:=pE5.cell 1
  have q2:=pE5.cell 2
  simp only [List.getElem?_cons_zero,List.getElem?_cons_succ] at q0 q1 q2
  show Leaves _ _ _ _ [] .returning _
  refine ⟨.agg #[.string key,.slice ba bn bc,.slice za zn zc],?_,?_⟩
  ·simp [results,Tryz.results70,go_sem,q0,q1,q2]
  rw [HR.out]
  refine ⟨((ba,bn,bc),(za,zn,zc)),VE L' (Vd m R) ((ba,bn,bc),(za,zn,zc)),n'+1,by rw [HKEY.out];rfl,hEm5,hOff,fun j hj=>.inl (Nat.le_trans hs1 (hEs j hj)),oc5,by rw [Tr,lm],by show n'+1+st.2≤n+R.2.2;omega,fun x hx=>?_,kp5⟩
  rcases RE hx with h9 | h9
  ·rcases old x h9 with h8 | h8
   ·exact .inl h8
   exact .inr (fun j hj=>Nat.le_trans hs1 (h8 j hj))
  rw [h9]
  exact .inr (fun j hj=>Nat.le_trans hs1 (hEs j hj))
 rw [hq] at HBB
 obtain ⟨hmem,hfst,hk9,_⟩:=hY9 hq
 rw [hk9] at pQ
 have HR:Hid (Yk rows g (f+1) m st=(WU st.1 (ZG m),st)):=RV HBB.out.symm
 have hEm:=(oc.ents _ hmem).1
 have hOff:=(oc.ents _ hmem).2
 clear hY9 hN9 hq HN hk9 hw1
 go_wp2_with (first | refine Zc rfl 45 _ rfl Q rfl pQ _ Tryz.underlying45 rfl (by kernel_rfl) ?_ | refine Zd rfl 45 _ _ rfl X4 [.string key,.slice s1a s1n s1c,.slice s2a s2n s2c] rfl rfl pE (by kernel_rfl) rfl rfl ?_)
 intro W3 p3 g3
 have pE3:=p3.out
 have oc3:=oc.grow g3 (fun e=>hXC _ hX4w (by cases e;rfl)) (fun e=>oc.noblk pE (by cases e;rfl)) (fun j e=>by cases e;exact Nat.le_trans hO.base.size hX4w) (fun x hx q hq e=>(oc.ents x hx).1.off11 hq pE nI (by cases e;rfl))
 have kp3:=kpz.gr g3 (fun j e=>.inr (.inr (by cases e;exact hX4w)))
 have HG:Hid (NY (.returned (.agg #[.string key,.slice s1a s1n s1c,.slice s2a s2n s2c])) w0 w W3 C nb g n L st.2 (Yk rows g (f+1) m st)):=by
  rw [HR.out,← HKEY.out]
  exact ⟨((s1a,s1n,s1c),(s2a,s2n,s2c)),L,n,by rw [hfst];rfl,(oc3.ents _ hmem).1,hOff,fun j hj=>.inr ⟨_,hmem,hj⟩,oc3,hL,Nat.le_refl _,fun x hx=>.inl hx,kp3⟩
 have q0:=pE3.cell 0
 have q1:=pE3.cell 1
 have q2:=pE3.cell 2
 simp only [List.getElem?_cons_zero,List.getElem?_cons_succ] at q0 q1 q2
 clear p3 g3 oc3 kp3 oc kpz pE pE3 pC pM pK pQ hmem hfst hEm hOff
 go_wp2
 refine QQ (v:=.agg #[.string key,.slice s1a s1n s1c,.slice s2a s2n s2c]) rfl ?_ ?_
 ·simp [results,Tryz.results70,go_sem,q0,q1,q2]
 exact HG.out
theorem SA {rows:List (List I3)} {g:Nat} {w0:World} {C nb:Nat} {cs:Sl × Sl × Sl} (hp:Zq rows=true) (hg:g≤2000) (hV:Z0 w0) (hI:∀ k,k<3→Zm w0 (slK cs k).1 (slK cs k).2.1 (slK cs k).2.2 (Xq rows k)):∀ f,Q4 rows g w0 C nb cs f
 | 0=>fun m st n L w hs hf=>by omega
 | f+1=>MM hp hg hV hI (SA hp hg hV hI f)


theorem Hk {w0 w:World} {C nb g n nd:Nat} {L:List EQ} (hO:OnC w0 w C nb g n L nd) (hn:n≤1000000000) (hR:∀ x ∈ L,Yq x.1∧x.1.1.size≤1048576) (hL:L.length≤2000) :
  Calls Tryz.prog 73 #[.pointer (some ⟨C,0,none⟩)] w fun e w'=>TC e w' w.heap.size (L.map (·.1))∧Below w.heap.size w w':=by
 obtain ⟨i0,hi0,hz0,hz1,hz2⟩:=info_parts Ux
 obtain ⟨D,hm,hG⟩:=hO.map
 have hCw:C<w.heap.size:=hO.box.lt
 have bw:Below w.heap.size w (w.alloc (.cells #[.slice none 0 0] 33)):=by go_grown
 have pR:Blk (w.alloc (.cells #[.slice none 0 0] 33)) w.heap.size 33 [.slice none 0 0]:=Zj _ _ _ rfl
 have hmU:=hm.alloc (.cells #[.slice none 0 0] 33)
 have oc:=hO.below bw
 have hUs:Hid ((w.alloc (.cells #[.slice none 0 0] 33)).heap.size=w.heap.size+1):=by rw [Hid];simp
 go_enter Tryz.func73,Tryz.ntmps73
 go_upto_region 2 with fail
 generalize (w.alloc (.cells #[.slice none 0 0] 33))=U at *
 have c0:=oc.box.cell 0
 simp only [List.getElem?_cons_zero] at c0
 have kS:=JF nb n D U hmU hn
 go_wp2_with fail
 refine (GC _ _).mono ?_
 rintro e w2 ⟨rfl,rfl⟩
 go_wp2_with fail
 refine kS.mono ?_
 rintro e w3 ⟨v,ss,rfl,hp,ho,hnil,hb3⟩
 have hb2:Below U.heap.size U (U.alloc (.cells #[.map (some nb)] 130)):=by go_grown
 have hsz2:U.heap.size≤(U.alloc (.cells #[.map (some nb)] 130)).heap.size:=hb2.size
 have e1:=Mh hmU hG hp
 have e2:ss.length=L.length:=by have h9:=congrArg List.length e1;rw [List.length_mergeSort] at h9;rw [h9];unfold UU;rw [List.length_map]
 rw [e1,e2,LZ] at ho
 have hb:=Zb hb2 hb3
 replace ho:=Z4 ho (show w.heap.size+1≤_ from Nat.le_trans (Nat.le_of_eq hUs.out.symm) hsz2)
 replace bw:=Zb bw hb
 replace pR:=pR.below hb
 replace oc:=oc.below hb
 have hs3:w.heap.size+1≤w3.heap.size:=by have:=hb.size;have:=hUs.out;omega
 clear kS hb hb2 hb3 hsz2 hnil hp e1 e2 c0 hmU hm hUs
 obtain ⟨ka,kc,rfl⟩:=ZH ho
 obtain ⟨m,hml⟩:∃ m,m=L.length:=⟨_,rfl⟩
 rw [← hml] at ho hL ⊢
 have HL:Hid (m=L.length):=hml
 clear hml
 go_wp2_with fail
 go_loopw [3,13] (fun so si wr=>∃ (k:Nat) (va:Option Addr) (vn vc:Nat),k≤m∧si=.int .i64 k∧so=.slice va vn vc∧YW wr (w.heap.size+1) (.slice va vn vc) ((L.map (·.1)).take k)∧Below w.heap.size w wr∧wr.ownsRow (w.heap.size+1) 9 1 (.slice ka m kc) m (L.map fun x=>Value.string x.1.1)∧Blk wr w.heap.size 33 [.slice none 0 0]∧w.heap.size+1≤wr.heap.size) (fun _ si _=>m - (intOf si).toNat)
 case atStart=>exact ⟨0,none,0,0,by omega,rfl,rfl,by rw [List.take_zero];exact YW.nil9 _ _,bw,ho,pR,hs3⟩
 case round =>
  clear bw ho pR oc hs3
  obtain ⟨k,xa,xn,xc,hk,rfl,rfl,hM,bw,ho,pW,hsW⟩:=hrel
  by_cases hlt:k<m
  ·obtain ⟨kg,kc',e9⟩:=VD ho (by omega)
   cases e9
   have hkl:k<L.length:=by rw [← HL.out];exact hlt
   have x0:wr.cell? ⟨kg,k,none⟩=some (.string (L[k]).1.1):=by
    have h9:=ho.cellAt k (by omega)
    rw [h9]
    simp [List.getElem?_map,List.getElem?_eq_getElem hkl]
   have hx:=List.getElem_mem hkl
   have oc:=hO.below bw
   obtain ⟨hEr,hks⟩:=hR _ hx
   have y1:=hEr.bugs
   have y2:=hEr.foot
   obtain ⟨D2,hm2,hG2⟩:=oc.map
   have hkey:keyOf Tryz.prog 9 (.string (L[k]).1.1)=some (WX (L[k]).1.1):=WideMaps.keyOf_string_mk Tryz.underlying9 (by unfold maxLen;omega)
   obtain ⟨v9,ps9,hrun,hv9⟩:=hm2.lookup (zd:=.held (.agg #[.string ⟨#[]⟩,.slice none 0 0,.slice none 0 0])) (zp:=[]) Ww Tryz.underlying130 (UD wr) rfl hkey
   have hv8:v9=ZM (L[k]).1.1 (L[k]).2:=by
    rw [hG2.at9 _ hx] at hv9
    unfold Vi at hv9
    injection hv9 with hv9
    injection hv9 with hv9 _
    injection hv9
   subst hv8
   have hmE:=(oc.ents _ hx).1
   have kE:=fun W (hb:Below wr.heap.size wr W)=>(Qs (L[k]).1 (L[k]).2 W (hmE.below hb) (by omega) (by omega) hks).mono (fun x w' h9=>(⟨h9.1.lower hb.size,Zn hb h9.2⟩:Wy x w' wr.heap.size (L[k]).1∧Below wr.heap.size wr w'))
   have hsn:=RP (es:=L.map (·.1)) (k:=k) (by simpa using hkl)
   have e7:(L.map (·.1)).getD k e3d=(L[k]).1:=by simp [List.getD,List.getElem?_eq_getElem hkl]
   rw [e7] at hsn
   have c0:=oc.box.cell 0
   simp only [List.getElem?_cons_zero] at c0
   clear hx hmE hEr hks y1 y2 hv9 hkey hm2 hG2 oc e7
   generalize L[k]=x at *
   obtain ⟨x,s⟩:=x
   simp only at x0 hrun kE hsn
   generalize hps:(L.map (·.1)).take k=ps at *
   have hpl:ps.length≤2000:=by rw [← hps,List.length_take,List.length_map,← HL.out];omega
   clear hps
   obtain ⟨xk,xb,xz⟩:=x
   obtain ⟨⟨a1,n1,c1⟩,⟨a2,n2,c2⟩⟩:=s
   unfold ZM at kE hrun
   simp only at x0 kE hrun
   have hlt':(k:Int)<(m:Int):=by omega
   have hk0:(0:Int)≤(k:Int):=by omega
   go_wp2_with fail
   refine (kE _ (Below.refl _ _)).mono ?_
   rintro e w1 ⟨⟨⟨⟨d1,p1,q1⟩,⟨d2,p2,q2⟩⟩,rfl,hOE⟩,hbn⟩
   obtain ⟨cs,hoM,hE⟩:=hM
   have hb2:Below w1.heap.size w1 (w1.alloc (.cells #[.string xk,.slice d1 p1 q1,.slice d2 p2 q2] 45)):=by go_grown
   have ho2:=Zs (Zs hoM hbn) hb2
   have hs2:w.heap.size+1≤(w1.alloc (.cells #[.string xk,.slice d1 p1 q1,.slice d2 p2 q2] 45)).heap.size:=by have:=hb2.size;have:=hbn.size;omega
   clear x0 kE hrun c0
   unfold ZM
   simp only
   go_wp2_with (at_builtin;refine Xg rfl _ _ 31 rfl (w.heap.size+1) 45 i0 (.agg #[.string ⟨#[]⟩,.slice none 0 0,.slice none 0 0]) 3 64 Tryz.underlying31 hi0 hz0 hz1 hz2 rfl (by decide) _ _ _ rfl ho2 _ 1 1 rfl (fun h9=>by cases h9) (Yj xk ((d1,p1,q1),(d2,p2,q2))) (by simp [Yj]) (QN w1 [.string xk,.slice d1 p1 q1,.slice d2 p2 q2] 45) (X7 _ _) (by unfold maxLen;omega) (by omega) hs2 ?_)
   intro v3 w3 hown hgrow _
   obtain ⟨va9,vc9,rfl⟩:=ZH hown
   have hM3:=YW.snoc9 (s:=((d1,p1,q1),(d2,p2,q2))) hoM hE hbn hOE hb2 hgrow hown (by omega)
   have hgB:∀ g,(Value.ownBlock (.slice xa xn xc))=some g→w.heap.size+1≤g:=fun g hg=>(ho2.lt g hg).1
   have b3:Below w.heap.size w w3:=(Zn (Zn bw hbn) hb2).grown hgrow (by omega) (fun g hg=>by have:=hgB g hg;omega)
   have g3:=(Blk.kept ((pW.below hbn).below hb2) hgrow (fun e9=>by have:=hgB _ e9;omega))
   have o3:w3.ownsRow (w.heap.size+1) 9 1 (.slice (some ⟨kg,0,none⟩) m kc) m (L.map fun x=>Value.string x.1.1):=World.ownsRow.kept (Zs (Zs ho hbn) hb2) hgrow (Ap3.types (Zs (Zs ho hbn) hb2) ho2 (by decide)).or
   have s3:w.heap.size+1≤w3.heap.size:=Nat.le_trans hs2 hgrow.size
   clear hoM hE hbn hOE hb2 ho2 hs2 hown hgrow hgB ho pW bw
   go_wp2
   go_roundw
   case rel=>exact ⟨k+1,_,_,_,by omega,by go_num,rfl,by rw [← hsn];exact hM3,b3,o3,g3,s3⟩
   case measure=>simp [intOf];omega
  obtain rfl:k=m:=by omega
  have e9:(L.map (·.1)).take k=L.map (·.1):=by rw [List.take_of_length_le (by rw [List.length_map];exact Nat.le_of_eq HL.out.symm)]
  rw [e9] at hM
  have r0:=pW.cell 0
  have fr0:=pW.frozen 0
  have pZ:=pW.set 0 (.slice xa xn xc)
  simp only [List.set_cons_zero] at pZ
  have z0:=pZ.cell 0
  simp only [List.getElem?_cons_zero] at z0 r0
  have hM9:=(hM.low (p:=⟨w.heap.size,0,none⟩) (show w.heap.size<w.heap.size+1 by omega) (.slice xa xn xc)).lower (show w.heap.size≤w.heap.size+1 by omega)
  have bz:=bw.setCell (p:=⟨w.heap.size,0,none⟩) (Nat.le_refl _) (.slice xa xn xc)
  clear hM pZ pW bw e9 ho
  go_wp2
  refine bodyPost_ret (by simp [results,Tryz.results73,go_sem,z0];try rfl) rfl ?_
  exact ⟨TC.mk9 hM9,bz⟩


def WA (x:Ending) (w':World) (B:Nat) (a:Option Addr) (n c:Nat) (r:E3 × (List E3 × Nat) × Bool):Prop:=∃ (s:Sl2) (a':Option Addr) (n' c':Nat),x=.returned (.tuple #[ZM r.1.1 s,.agg #[.slice a' n' c'],.int .i64 (r.2.1.2:Int),.bool r.2.2])∧YI w' s r.1∧YV w' a' n' c' r.2.1.1∧(a'=none→c'=0)∧((a'=a∧n'=n∧c'=c)∨∀ b o,a'=some ⟨b,o,none⟩→B≤b)
theorem WA.mk9 {w':World} {B n c n' c':Nat} {a a':Option Addr} {r:E3 × (List E3 × Nat) × Bool} (s:Sl2) (h:YI w' s r.1) (hA:YV w' a' n' c' r.2.1.1) (hn:a'=none→c'=0) (ho:(a'=a∧n'=n∧c'=c)∨∀ b o,a'=some ⟨b,o,none⟩→B≤b):WA (.returned (.tuple #[ZM r.1.1 s,.agg #[.slice a' n' c'],.int .i64 (r.2.1.2:Int),.bool r.2.2])) w' B a n c r:=⟨s,a',n',c',rfl,h,hA,hn,ho⟩

theorem NW {rows:List (List I3)} {cap:Nat} (m:V4) (es:List E3) (nd:Nat) (hI:isE es (ZG m)=true) (hs:Zh m=true) (hU:UpR es) (w:World) (a9:Option Addr) (s:S4) (a:Option Addr) (n c:Nat) (h:Yx w s m) (hA:YV w a n c es) (hnil:a=none→c=0) :
  Calls Tryz.prog 118 #[.agg #[.slice a9 3 cap],s.val,.agg #[.slice a n c],.int .i64 (nd:Int)] w fun x w'=>WA x w' w.heap.size a n c (WU es (ZG m),(es,nd),true)∧Below w.heap.size w w':=by
 obtain ⟨⟨t0a,t0n,t0c⟩,⟨t1a,t1n,t1c⟩,⟨t2a,t2n,t2c⟩,⟨t3a,t3n,t3c⟩⟩:=s
 have ut:S4.val ((t0a,t0n,t0c),(t1a,t1n,t1c),(t2a,t2n,t2c),(t3a,t3n,t3c))=.agg #[.slice t0a t0n t0c,.slice t1a t1n t1c,.slice t2a t2n t2c,.slice t3a t3n t3c]:=rfl
 have hl:=hA.1
 have hn2:n≤2000:=by have:=hU.few;omega
 have kK:=fun (W:World) (b:Below w.heap.size w W)=>TO ((t0a,t0n,t0c),(t1a,t1n,t1c),(t2a,t2n,t2c),(t3a,t3n,t3c)) m W (h.below b) hs
 have kP:=fun (W:World) (b:Below w.heap.size w W)=>Wq a n c es (ZG m) W (hA.below b) hU
 rw [ut] at kK ⊢
 have bw:Below w.heap.size w (((((w.alloc (.cells #[.slice a9 3 cap] 25)).alloc (.cells #[.slice t0a t0n t0c,.slice t1a t1n t1c,.slice t2a t2n t2c,.slice t3a t3n t3c] 112)).alloc (.cells #[.slice a n c] 33)).alloc (.cells #[.string ⟨#[]⟩,.slice none 0 0,.slice none 0 0] 45)).alloc (.cells #[.slice none 0 0] 33)):=by go_grown
 have pP:Blk (((((w.alloc (.cells #[.slice a9 3 cap] 25)).alloc (.cells #[.slice t0a t0n t0c,.slice t1a t1n t1c,.slice t2a t2n t2c,.slice t3a t3n t3c] 112)).alloc (.cells #[.slice a n c] 33)).alloc (.cells #[.string ⟨#[]⟩,.slice none 0 0,.slice none 0 0] 45)).alloc (.cells #[.slice none 0 0] 33)) (w.heap.size) 25 [.slice a9 3 cap]:=Zi _ (Zi _ (Zi _ (Zi _ (Zj _ _ _ rfl))))
 have pS:Blk (((((w.alloc (.cells #[.slice a9 3 cap] 25)).alloc (.cells #[.slice t0a t0n t0c,.slice t1a t1n t1c,.slice t2a t2n t2c,.slice t3a t3n t3c] 112)).alloc (.cells #[.slice a n c] 33)).alloc (.cells #[.string ⟨#[]⟩,.slice none 0 0,.slice none 0 0] 45)).alloc (.cells #[.slice none 0 0] 33)) (w.heap.size+1) 112 [.slice t0a t0n t0c,.slice t1a t1n t1c,.slice t2a t2n t2c,.slice t3a t3n t3c]:=Zi _ (Zi _ (Zi _ (Zj _ _ _ (by simp))))
 have pM:Blk (((((w.alloc (.cells #[.slice a9 3 cap] 25)).alloc (.cells #[.slice t0a t0n t0c,.slice t1a t1n t1c,.slice t2a t2n t2c,.slice t3a t3n t3c] 112)).alloc (.cells #[.slice a n c] 33)).alloc (.cells #[.string ⟨#[]⟩,.slice none 0 0,.slice none 0 0] 45)).alloc (.cells #[.slice none 0 0] 33)) (w.heap.size+1+1) 33 [.slice a n c]:=Zi _ (Zi _ (Zj _ _ _ (by simp)))
 have pE:Blk (((((w.alloc (.cells #[.slice a9 3 cap] 25)).alloc (.cells #[.slice t0a t0n t0c,.slice t1a t1n t1c,.slice t2a t2n t2c,.slice t3a t3n t3c] 112)).alloc (.cells #[.slice a n c] 33)).alloc (.cells #[.string ⟨#[]⟩,.slice none 0 0,.slice none 0 0] 45)).alloc (.cells #[.slice none 0 0] 33)) (w.heap.size+1+1+1) 45 [.string ⟨#[]⟩,.slice none 0 0,.slice none 0 0]:=Zi _ (Zj _ _ _ (by simp))
 have pR:Blk (((((w.alloc (.cells #[.slice a9 3 cap] 25)).alloc (.cells #[.slice t0a t0n t0c,.slice t1a t1n t1c,.slice t2a t2n t2c,.slice t3a t3n t3c] 112)).alloc (.cells #[.slice a n c] 33)).alloc (.cells #[.string ⟨#[]⟩,.slice none 0 0,.slice none 0 0] 45)).alloc (.cells #[.slice none 0 0] 33)) (w.heap.size+1+1+1+1) 33 [.slice none 0 0]:=Zj _ _ _ (by simp)
 have hszU:w.heap.size+5≤(((((w.alloc (.cells #[.slice a9 3 cap] 25)).alloc (.cells #[.slice t0a t0n t0c,.slice t1a t1n t1c,.slice t2a t2n t2c,.slice t3a t3n t3c] 112)).alloc (.cells #[.slice a n c] 33)).alloc (.cells #[.string ⟨#[]⟩,.slice none 0 0,.slice none 0 0] 45)).alloc (.cells #[.slice none 0 0] 33)).heap.size:=by simp
 have hpl:Yp es (ZG m)<n:=by
  simp only [isE,Bool.and_eq_true,decide_eq_true_eq] at hI
  omega
 have hfe:WU es (ZG m)=es.getD (Yp es (ZG m)) e3d:=by unfold WU;rw [if_pos hI]
 rw [hI] at kP
 rw [hfe]
 rcases hA.2.2.2 with e0 | ⟨b,off,rfl,hblt,hcell⟩
 ·omega
 obtain ⟨s9,c0,c1,c2,hm9⟩:=hcell (Yp es (ZG m)) hpl
 have of8:ZB (some ⟨b,off,none⟩) n (w.heap.size+1+1+1):=Zr hA (by omega)
 have of9:ZB (some ⟨b,off,none⟩) n (w.heap.size+1+1+1+1):=Zr hA (by omega)
 clear hcell hfe hI
 generalize Yp es (ZG m)=p at *
 generalize es.getD p e3d=ee at *
 generalize ZG m=key at *
 obtain ⟨ek,eb,ez⟩:=ee
 obtain ⟨⟨s1a,s1n,s1c⟩,⟨s2a,s2n,s2c⟩⟩:=s9
 simp only at c0 c1 c2
 have hp0:(0:Int)≤(p:Int):=by omega
 have hpn:(p:Int)<(n:Int):=by omega
 go_enter Tryz.func118,Tryz.ntmps118
 go_wp2_with fail
 generalize (((((w.alloc (.cells #[.slice a9 3 cap] 25)).alloc (.cells #[.slice t0a t0n t0c,.slice t1a t1n t1c,.slice t2a t2n t2c,.slice t3a t3n t3c] 112)).alloc (.cells #[.slice (some ⟨b,off,none⟩) n c] 33)).alloc (.cells #[.string ⟨#[]⟩,.slice none 0 0,.slice none 0 0] 45)).alloc (.cells #[.slice none 0 0] 33))=U0 at *
 go_wp2_with (refine Zc rfl 112 _ rfl (w.heap.size+1) rfl pS _ Tryz.underlying112 rfl (by kernel_rfl) ?_)
 refine (kK _ bw).mono ?_
 rintro x w1 ⟨rfl,hb⟩
 replace bw:=Zn bw hb
 replace pP:=pP.below hb
 replace pS:=pS.below hb
 replace pM:=pM.below hb
 replace pE:=pE.below hb
 replace pR:=pR.below hb
 clear hb kK
 go_wp2_with (refine Zc rfl 33 _ rfl (w.heap.size+1+1) rfl pM _ Tryz.underlying33 rfl (by kernel_rfl) ?_)
 refine (kP _ bw).mono ?_
 rintro x w2 ⟨rfl,hb⟩
 replace bw:=Zn bw hb
 replace pP:=pP.below hb
 replace pS:=pS.below hb
 replace pM:=pM.below hb
 replace pE:=pE.below hb
 replace pR:=pR.below hb
 clear hb kP
 have hA9:=hA.below bw
 replace hm9:=hm9.below bw
 replace c0:=Za bw _ _ c0
 replace c1:=Za bw _ _ c1
 replace c2:=Za bw _ _ c2
 have g0:=pM.cell 0
 simp only [List.getElem?_cons_zero] at g0
 go_wp2_with fail
 refine wp_region_held_drew (S:=(fun w'=>w'.cell? ⟨w.heap.size+1+1,0,none⟩=some (.slice (some ⟨b,off,none⟩) n c)∧w'.cell? ⟨b,off+p*3,none⟩=some (.string ek)∧w'.cell? ⟨b,off+p*3+1,none⟩=some (.slice s1a s1n s1c)∧w'.cell? ⟨b,off+p*3+2,none⟩=some (.slice s2a s2n s2c))) (by kernel_rfl) ⟨g0,c0,c1,c2⟩ (fun hS0=>?_)
 refine tkx 0 33 (.pointer (some ⟨w.heap.size+1+1,0,none⟩)) ?_ ?_
 ·(intro w' hSw;(try dsimp only at hSw);go_simp;first | done | rfl | omega | (intro h9;omega) | (rw [IntKind.wrap_i64];omega))
 simp only [Act.put,tka,tkb,tkc]
 refine tkx 1 34 (.slice (some ⟨b,off,none⟩) n c) ?_ ?_
 ·(intro w' hSw;(try dsimp only at hSw);go_simp;first | done | rfl | omega | (intro h9;omega) | (rw [IntKind.wrap_i64];omega))
 simp only [Act.put,tka,tkb,tkc]
 refine tkx 2 35 (.int .i64 (p:Int)) ?_ ?_
 ·(intro w' hSw;(try dsimp only at hSw);go_simp;first | done | rfl | omega | (intro h9;omega) | (rw [IntKind.wrap_i64];omega))
 simp only [Act.put,tka,tkb,tkc]
 refine tkx 3 36 (.pointer (some ⟨b,off+p*3,none⟩)) ?_ ?_
 ·(intro w' hSw;(try dsimp only at hSw);go_simp;first | done | rfl | omega | (intro h9;omega) | (rw [IntKind.wrap_i64];omega))
 simp only [Act.put,tka,tkb,tkc]
 refine tkx 4 37 (.agg #[.string ek,.slice s1a s1n s1c,.slice s2a s2n s2c]) ?_ ?_
 ·(intro w' hSw;(try dsimp only at hSw);go_simp;first | done | rfl | omega | (intro h9;omega) | (rw [IntKind.wrap_i64];omega))
 simp only [Act.put,tka,tkb,tkc]
 refine tkx 5 38 (.agg #[.slice (some ⟨b,off,none⟩) n c]) ?_ ?_
 ·(intro w' hSw;(try dsimp only at hSw);go_simp;first | done | rfl | omega | (intro h9;omega) | (rw [IntKind.wrap_i64];omega))
 simp only [Act.put,tka,tkb,tkc]
 refine tkx 6 39 (.int .i64 (nd:Int)) ?_ ?_
 ·(intro w' hSw;(try dsimp only at hSw);go_simp;first | done | rfl | omega | (intro h9;omega) | (rw [IntKind.wrap_i64];omega))
 simp only [Act.put,tka,tkb,tkc]
 have bd:Below w2.heap.size w2 w2.drew:=by go_grown
 replace bw:=Zn bw bd
 replace pE:=pE.below bd
 replace pR:=pR.below bd
 replace hm9:=hm9.below bd
 replace hA9:=hA9.below bd
 clear bd
 generalize w2.drew=V1 at *
 refine tkz 7 (fun K hK=>?_)
 refine Zf rfl 45 _ _ rfl (w.heap.size+1+1+1) [.string ek,.slice s1a s1n s1c,.slice s2a s2n s2c] rfl rfl pE (by kernel_rfl) rfl rfl ?_
 intro V2 q8 g8
 refine hK.out _ _ ⟨Zg g8 hS0.1 (fun e=>by injection e with e9;dsimp only at e9;omega),Zg g8 hS0.2.1 (fun e=>by injection e with e9;dsimp only at e9;omega),Zg g8 hS0.2.2.1 (fun e=>by injection e with e9;dsimp only at e9;omega),Zg g8 hS0.2.2.2 (fun e=>by injection e with e9;dsimp only at e9;omega)⟩ (fun hS1=>?_)
 clear hK
 try simp only [Act.put,tka,tkb,tkc]
 replace bw:=bw.grown g8 bw.size (fun k hk=>by cases hk;omega)
 replace hm9:=hm9.box pE (Zt ⟨#[]⟩ ((none,0,0),(none,0,0))) g8
 replace hA9:=hA9.box of8 pE (Zt ⟨#[]⟩ ((none,0,0),(none,0,0))) g8
 replace pR:=pR.kept g8 (by simp)
 replace pE:=q8.out
 clear q8 g8
 refine tkz 8 (fun K hK=>?_)
 refine Zf rfl 33 _ _ rfl (w.heap.size+1+1+1+1) [.slice (some ⟨b,off,none⟩) n c] rfl rfl pR (by kernel_rfl) rfl rfl ?_
 intro V3 q9 g9
 refine hK.out _ _ ⟨Zg g9 hS1.1 (fun e=>by injection e with e9;dsimp only at e9;omega),Zg g9 hS1.2.1 (fun e=>by injection e with e9;dsimp only at e9;omega),Zg g9 hS1.2.2.1 (fun e=>by injection e with e9;dsimp only at e9;omega),Zg g9 hS1.2.2.2 (fun e=>by injection e with e9;dsimp only at e9;omega)⟩ (fun hS2=>?_)
 clear hK
 try simp only [Act.put,tka,tkb,tkc]
 replace bw:=bw.grown g9 (Nat.le_trans (by omega) bw.size) (fun k hk=>by cases hk;omega)
 replace hm9:=hm9.box pR (Zu _ (by intro k z e;cases e)) g9
 replace hA9:=hA9.box of9 pR (Zu _ (by intro k z e;cases e)) g9
 replace pE:=pE.kept g9 (by simp)
 replace pR:=q9.out
 clear q9 g9
 refine tkx 9 10 (.int .i64 (nd:Int)) ?_ ?_
 ·(intro w' hSw;(try dsimp only at hSw);go_simp;first | done | rfl | omega | (intro h9;omega) | (rw [IntKind.wrap_i64];omega))
 simp only [Act.put,tka,tkb,tkc]
 refine tkx 10 11 (.bool true) ?_ ?_
 ·(intro w' hSw;(try dsimp only at hSw);go_simp;first | done | rfl | omega | (intro h9;omega) | (rw [IntKind.wrap_i64];omega))
 simp only [Act.put,tka,tkb,tkc]
 refine wpAnyH_done (by kernel_rfl) ?_ _
 clear hS0 hS1 hS2
 have z0:=pE.cell 0
 have z1:=pE.cell 1
 have z2:=pE.cell 2
 have z3:=pR.cell 0
 simp only [List.getElem?_cons_zero,List.getElem?_cons_succ] at z0 z1 z2 z3
 go_wp2
 refine bodyPost_ret (by simp [results,Tryz.results118,go_sem,z0,z1,z2,z3];try rfl) rfl ?_
 exact ⟨WA.mk9 (r:=((ek,eb,ez),(es,nd),true)) ((s1a,s1n,s1c),(s2a,s2n,s2c)) hm9 hA9 hnil (.inl ⟨rfl,rfl,rfl⟩),bw⟩
theorem MK {rows:List (List I3)} {cap:Nat} (m:V4) (es:List E3) (nd:Nat) (hI:isE es (ZG m)=false) (hs:Zh m=true) (hU:UpR es) (w:World) (a9:Option Addr) (s:S4) (a:Option Addr) (n c:Nat) (h:Yx w s m) (hA:YV w a n c es) (hnil:a=none→c=0) (h0:es.length=2000) :
  Calls Tryz.prog 118 #[.agg #[.slice a9 3 cap],s.val,.agg #[.slice a n c],.int .i64 (nd:Int)] w fun x w'=>WA x w' w.heap.size a n c (e3d,(es,nd),false)∧Below w.heap.size w w':=by
 obtain ⟨⟨t0a,t0n,t0c⟩,⟨t1a,t1n,t1c⟩,⟨t2a,t2n,t2c⟩,⟨t3a,t3n,t3c⟩⟩:=s
 have ut:S4.val ((t0a,t0n,t0c),(t1a,t1n,t1c),(t2a,t2n,t2c),(t3a,t3n,t3c))=.agg #[.slice t0a t0n t0c,.slice t1a t1n t1c,.slice t2a t2n t2c,.slice t3a t3n t3c]:=rfl
 have hl:=hA.1
 have hn2:n≤2000:=by have:=hU.few;omega
 have kK:=fun (W:World) (b:Below w.heap.size w W)=>TO ((t0a,t0n,t0c),(t1a,t1n,t1c),(t2a,t2n,t2c),(t3a,t3n,t3c)) m W (h.below b) hs
 have kP:=fun (W:World) (b:Below w.heap.size w W)=>Wq a n c es (ZG m) W (hA.below b) hU
 rw [ut] at kK ⊢
 have bw:Below w.heap.size w (((((w.alloc (.cells #[.slice a9 3 cap] 25)).alloc (.cells #[.slice t0a t0n t0c,.slice t1a t1n t1c,.slice t2a t2n t2c,.slice t3a t3n t3c] 112)).alloc (.cells #[.slice a n c] 33)).alloc (.cells #[.string ⟨#[]⟩,.slice none 0 0,.slice none 0 0] 45)).alloc (.cells #[.slice none 0 0] 33)):=by go_grown
 have pP:Blk (((((w.alloc (.cells #[.slice a9 3 cap] 25)).alloc (.cells #[.slice t0a t0n t0c,.slice t1a t1n t1c,.slice t2a t2n t2c,.slice t3a t3n t3c] 112)).alloc (.cells #[.slice a n c] 33)).alloc (.cells #[.string ⟨#[]⟩,.slice none 0 0,.slice none 0 0] 45)).alloc (.cells #[.slice none 0 0] 33)) (w.heap.size) 25 [.slice a9 3 cap]:=Zi _ (Zi _ (Zi _ (Zi _ (Zj _ _ _ rfl))))
 have pS:Blk (((((w.alloc (.cells #[.slice a9 3 cap] 25)).alloc (.cells #[.slice t0a t0n t0c,.slice t1a t1n t1c,.slice t2a t2n t2c,.slice t3a t3n t3c] 112)).alloc (.cells #[.slice a n c] 33)).alloc (.cells #[.string ⟨#[]⟩,.slice none 0 0,.slice none 0 0] 45)).alloc (.cells #[.slice none 0 0] 33)) (w.heap.size+1) 112 [.slice t0a t0n t0c,.slice t1a t1n t1c,.slice t2a t2n t2c,.slice t3a t3n t3c]:=Zi _ (Zi _ (Zi _ (Zj _ _ _ (by simp))))
 have pM:Blk (((((w.alloc (.cells #[.slice a9 3 cap] 25)).alloc (.cells #[.slice t0a t0n t0c,.slice t1a t1n t1c,.slice t2a t2n t2c,.slice t3a t3n t3c] 112)).alloc (.cells #[.slice a n c] 33)).alloc (.cells #[.string ⟨#[]⟩,.slice none 0 0,.slice none 0 0] 45)).alloc (.cells #[.slice none 0 0] 33)) (w.heap.size+1+1) 33 [.slice a n c]:=Zi _ (Zi _ (Zj _ _ _ (by simp)))
 have pE:Blk (((((w.alloc (.cells #[.slice a9 3 cap] 25)).alloc (.cells #[.slice t0a t0n t0c,.slice t1a t1n t1c,.slice t2a t2n t2c,.slice t3a t3n t3c] 112)).alloc (.cells #[.slice a n c] 33)).alloc (.cells #[.string ⟨#[]⟩,.slice none 0 0,.slice none 0 0] 45)).alloc (.cells #[.slice none 0 0] 33)) (w.heap.size+1+1+1) 45 [.string ⟨#[]⟩,.slice none 0 0,.slice none 0 0]:=Zi _ (Zj _ _ _ (by simp))
 have pR:Blk (((((w.alloc (.cells #[.slice a9 3 cap] 25)).alloc (.cells #[.slice t0a t0n t0c,.slice t1a t1n t1c,.slice t2a t2n t2c,.slice t3a t3n t3c] 112)).alloc (.cells #[.slice a n c] 33)).alloc (.cells #[.string ⟨#[]⟩,.slice none 0 0,.slice none 0 0] 45)).alloc (.cells #[.slice none 0 0] 33)) (w.heap.size+1+1+1+1) 33 [.slice none 0 0]:=Zj _ _ _ (by simp)
 have hszU:w.heap.size+5≤(((((w.alloc (.cells #[.slice a9 3 cap] 25)).alloc (.cells #[.slice t0a t0n t0c,.slice t1a t1n t1c,.slice t2a t2n t2c,.slice t3a t3n t3c] 112)).alloc (.cells #[.slice a n c] 33)).alloc (.cells #[.string ⟨#[]⟩,.slice none 0 0,.slice none 0 0] 45)).alloc (.cells #[.slice none 0 0] 33)).heap.size:=by simp
 rw [hI] at kP
 obtain rfl:n=2000:=by omega
 have of8:ZB a 2000 (w.heap.size+1+1+1):=Zr hA (by omega)
 have of9:ZB a 2000 (w.heap.size+1+1+1+1):=Zr hA (by omega)
 clear hI
 generalize Yp es (ZG m)=p at *
 generalize ZG m=key at *
 go_enter Tryz.func118,Tryz.ntmps118
 go_wp2_with fail
 generalize (((((w.alloc (.cells #[.slice a9 3 cap] 25)).alloc (.cells #[.slice t0a t0n t0c,.slice t1a t1n t1c,.slice t2a t2n t2c,.slice t3a t3n t3c] 112)).alloc (.cells #[.slice a 2000 c] 33)).alloc (.cells #[.string ⟨#[]⟩,.slice none 0 0,.slice none 0 0] 45)).alloc (.cells #[.slice none 0 0] 33))=U0 at *
 go_wp2_with (refine Zc rfl 112 _ rfl (w.heap.size+1) rfl pS _ Tryz.underlying112 rfl (by kernel_rfl) ?_)
 refine (kK _ bw).mono ?_
 rintro x w1 ⟨rfl,hb⟩
 replace bw:=Zn bw hb
 replace pP:=pP.below hb
 replace pS:=pS.below hb
 replace pM:=pM.below hb
 replace pE:=pE.below hb
 replace pR:=pR.below hb
 clear hb kK
 go_wp2_with (refine Zc rfl 33 _ rfl (w.heap.size+1+1) rfl pM _ Tryz.underlying33 rfl (by kernel_rfl) ?_)
 refine (kP _ bw).mono ?_
 rintro x w2 ⟨rfl,hb⟩
 replace bw:=Zn bw hb
 replace pP:=pP.below hb
 replace pS:=pS.below hb
 replace pM:=pM.below hb
 replace pE:=pE.below hb
 replace pR:=pR.below hb
 clear hb kP
 have hA9:=hA.below bw
 have g0:=pM.cell 0
 simp only [List.getElem?_cons_zero] at g0
 go_wp2_with fail
 refine wp_region_held_drew (S:=(fun w'=>w'.cell? ⟨w.heap.size+1+1,0,none⟩=some (.slice a 2000 c))) (by kernel_rfl) g0 (fun hS0=>?_)
 refine tkx 0 44 (.agg #[.string ⟨#[]⟩,.slice none 0 0,.slice none 0 0]) ?_ ?_
 ·(intro w' hSw;(try dsimp only at hSw);go_simp;first | done | rfl | omega | (intro h9;omega) | (rw [IntKind.wrap_i64];omega))
 simp only [Act.put,tka,tkb,tkc]
 refine tkx 1 45 (.agg #[.slice a 2000 c]) ?_ ?_
 ·(intro w' hSw;(try dsimp only at hSw);go_simp;first | done | rfl | omega | (intro h9;omega) | (rw [IntKind.wrap_i64];omega))
 simp only [Act.put,tka,tkb,tkc]
 refine tkx 2 46 (.int .i64 (nd:Int)) ?_ ?_
 ·(intro w' hSw;(try dsimp only at hSw);go_simp;first | done | rfl | omega | (intro h9;omega) | (rw [IntKind.wrap_i64];omega))
 simp only [Act.put,tka,tkb,tkc]
 have bd:Below w2.heap.size w2 w2.drew:=by go_grown
 replace bw:=Zn bw bd
 replace pE:=pE.below bd
 replace pR:=pR.below bd
 replace hA9:=hA9.below bd
 clear bd
 generalize w2.drew=V1 at *
 refine tkz 3 (fun K hK=>?_)
 refine Zf rfl 45 _ _ rfl (w.heap.size+1+1+1) [.string ⟨#[]⟩,.slice none 0 0,.slice none 0 0] rfl rfl pE (by kernel_rfl) rfl rfl ?_
 intro V2 q8 g8
 refine hK.out _ _ (Zg g8 hS0 (fun e=>by injection e with e9;dsimp only at e9;omega)) (fun hS1=>?_)
 clear hK
 try simp only [Act.put,tka,tkb,tkc]
 replace bw:=bw.grown g8 bw.size (fun k hk=>by cases hk;omega)
 replace hA9:=hA9.box of8 pE (Zt ⟨#[]⟩ ((none,0,0),(none,0,0))) g8
 replace pR:=pR.kept g8 (by simp)
 replace pE:=q8.out
 clear q8 g8
 refine tkz 4 (fun K hK=>?_)
 refine Zf rfl 33 _ _ rfl (w.heap.size+1+1+1+1) [.slice a 2000 c] rfl rfl pR (by kernel_rfl) rfl rfl ?_
 intro V3 q9 g9
 refine hK.out _ _ (Zg g9 hS1 (fun e=>by injection e with e9;dsimp only at e9;omega)) (fun hS2=>?_)
 clear hK
 try simp only [Act.put,tka,tkb,tkc]
 replace bw:=bw.grown g9 (Nat.le_trans (by omega) bw.size) (fun k hk=>by cases hk;omega)
 replace hA9:=hA9.box of9 pR (Zu _ (by intro k z e;cases e)) g9
 replace pE:=pE.kept g9 (by simp)
 replace pR:=q9.out
 clear q9 g9
 refine tkx 5 10 (.int .i64 (nd:Int)) ?_ ?_
 ·(intro w' hSw;(try dsimp only at hSw);go_simp;first | done | rfl | omega | (intro h9;omega) | (rw [IntKind.wrap_i64];omega))
 simp only [Act.put,tka,tkb,tkc]
 refine tkx 6 11 (.bool false) ?_ ?_
 ·(intro w' hSw;(try dsimp only at hSw);go_simp;first | done | rfl | omega | (intro h9;omega) | (rw [IntKind.wrap_i64];omega))
 simp only [Act.put,tka,tkb,tkc]
 refine wpAnyH_done (by kernel_rfl) ?_ _
 clear hS0 hS1 hS2
 have z0:=pE.cell 0
 have z1:=pE.cell 1
 have z2:=pE.cell 2
 have z3:=pR.cell 0
 simp only [List.getElem?_cons_zero,List.getElem?_cons_succ] at z0 z1 z2 z3
 go_wp2
 refine bodyPost_ret (by simp [results,Tryz.results118,go_sem,z0,z1,z2,z3];try rfl) rfl ?_
 exact ⟨WA.mk9 (r:=(e3d,(es,nd),false)) ((none,0,0),(none,0,0)) (YI.zero9 _) hA9 hnil (.inl ⟨rfl,rfl,rfl⟩),bw⟩


theorem Kf (m:V4) {k:Nat} (hk:k<3):(ZA m).take (k+1)=(ZA m).take k++[8*(k:Int)+m.1.getD k 0]:=by
 match k,hk with
 | 0,_=>simp [ZA]
 | 1,_=>simp [ZA]
 | 2,_=>simp [ZA]
theorem Nb (s:S4) (m:V4) (w:World) (h:Yx w s m) (hs:Zh m=true) :
  Calls Tryz.prog 169 #[s.val] w fun e w'=>TD e w' w.heap.size (ZA m)∧Below w.heap.size w w':=by
 obtain ⟨i0,hi,hz0,hz1,hz2⟩:=info_parts XF
 obtain ⟨h1,_⟩:=h
 have hl3:=(ZQ hs).1
 have hpc:=fun k hk=>Py hs (k:=k) hk
 obtain ⟨⟨a0,n0,c0⟩,⟨a1,n1,c1⟩,⟨a2,n2,c2⟩,⟨a3,n3,c3⟩⟩:=s
 have uA:S4.val ((a0,n0,c0),(a1,n1,c1),(a2,n2,c2),(a3,n3,c3))=.agg #[.slice a0 n0 c0,.slice a1 n1 c1,.slice a2 n2 c2,.slice a3 n3 c3]:=rfl
 simp only [uA] at *
 clear uA
 replace h1:Yi .i64 w a0 n0 c0 m.1:=h1.1
 have bw:Below w.heap.size w ((w.alloc (.cells #[.slice a0 n0 c0,.slice a1 n1 c1,.slice a2 n2 c2,.slice a3 n3 c3] 112)).alloc (.cells #[] 3)):=by go_grown
 have pS:Blk ((w.alloc (.cells #[.slice a0 n0 c0,.slice a1 n1 c1,.slice a2 n2 c2,.slice a3 n3 c3] 112)).alloc (.cells #[] 3)) w.heap.size 112 [.slice a0 n0 c0,.slice a1 n1 c1,.slice a2 n2 c2,.slice a3 n3 c3]:=Zi _ (Zj _ _ _ rfl)
 have q0:=Xw (w.alloc (.cells #[.slice a0 n0 c0,.slice a1 n1 c1,.slice a2 n2 c2,.slice a3 n3 c3] 112)) 3 1 (w.heap.size+1) (by simp)
 go_enter Tryz.func169,Tryz.ntmps169
 go_wp2_with fail
 generalize (w.alloc (.cells #[.slice a0 n0 c0,.slice a1 n1 c1,.slice a2 n2 c2,.slice a3 n3 c3] 112)).alloc (.cells #[] 3)=W0 at *
 simp only [World.size_alloc] at q0
 go_loopw [3,4] (fun so si wr=>∃ (k:Nat) (v:Value),v=so∧k≤3∧si=.int .i64 k∧wr.ownsRow (w.heap.size+1) 3 1 v k (((ZA m).take k).map (Value.int .i64))∧Blk wr w.heap.size 112 [.slice a0 n0 c0,.slice a1 n1 c1,.slice a2 n2 c2,.slice a3 n3 c3]∧Below w.heap.size w wr) (fun _ si _=>3 - (Go.RowKit.intOf si).toNat)
 case atStart=>exact ⟨0,_,rfl,by omega,rfl,q0,pS,bw⟩
 case round =>
  clear q0 pS bw
  obtain ⟨k,so,rfl,hk,rfl,q,pS,bw⟩:=hrel
  by_cases hlt:k<3
  ·have hk3:(k:Int)<3:=by omega
   have hk0:(0:Int)≤(k:Int):=by omega
   have hln:=h1.1
   have hkn:(k:Int)<(n0:Int):=by omega
   have HT:Hid ((ZA m).take (k+1)=(ZA m).take k++[8*(k:Int)+m.1.getD k 0]):=Kf m hlt
   have kI:=Mj (k:Int) (m.1.getD k 0) wr (Y0.2 (by omega)) (hpc k hlt)
   obtain ⟨_,_,_,hcase⟩:=h1.below bw
   rcases hcase with e0 | ⟨b,off,rfl,hb9,hc⟩
   ·omega
   have d0:=hc k (by omega)
   have gS0:wr.cell? ⟨w.heap.size,0,none⟩=some (.slice (some ⟨b,off,none⟩) n0 c0):=by simpa using pS.cell 0
   generalize m.1.getD k 0=p at d0 HT kI
   have hsz:=bw.size
   have hsl:=pS.lt
   clear hc hb9 hln
   go_wp2_with fail
   refine kI.mono ?_
   rintro e w3 ⟨rfl,rfl⟩
   clear kI
   generalize 8*(k:Int)+p=zz at *
   go_wp2_with (at_builtin;refine wpList_append_own _ rfl _ _ 36 rfl (w.heap.size+1) 3 i0 (.int .i64 0) 1 8 Tryz.underlying36 hi hz0 hz1 hz2 rfl (by decide) _ _ _ rfl (q.alloc _) ⟨wr.heap.size,0,none⟩ 1 1 [.int .i64 zz] rfl rfl (cell_one_new _ _ _) (by simp [Value.oneCell']) ?c3 ?c4 ?c5 ?_)
   case c3=>unfold maxLen;omega
   case c4=>omega
   case c5=>simp;omega
   intro v' wn hown' hgrow _
   have R:wn.ownsRow (w.heap.size+1) 3 1 v' (k+1) (((ZA m).take (k+1)).map (Value.int .i64)):=by
    rw [HT.out,List.map_append]
    simpa [List.map_take] using hown'
   have bn:Below w.heap.size w wn:=(bw.alloc hsz _).grown hgrow (by simp;omega) (fun k hk=>by have:=(q.lt k hk).1;omega)
   have pn:Blk wn w.heap.size 112 [.slice (some ⟨b,off,none⟩) n0 c0,.slice a1 n1 c1,.slice a2 n2 c2,.slice a3 n3 c3]:=(pS.below (by go_grown:Below wr.heap.size wr (wr.alloc (.cells #[.int .i64 zz] 3)))).kept hgrow (fun e=>by have:=(q.lt _ e).1;omega)
   clear hown' hgrow q bw pS HT gS0 d0
   go_wp2
   go_roundw
   case rel=>exact ⟨k+1,_,rfl,by omega,by go_num,R,pn,bn⟩
   case measure=>simp [Go.RowKit.intOf];omega
  obtain rfl:k=3:=by omega
  obtain ⟨ga,gc,rfl⟩:=VD q (by omega)
  go_wp2
  go_ret
  exact ⟨⟨_,rfl,Z4 q (by omega)⟩,bw⟩
end Go.Proofs.YtnffeclgboomoaaGreatDoor
