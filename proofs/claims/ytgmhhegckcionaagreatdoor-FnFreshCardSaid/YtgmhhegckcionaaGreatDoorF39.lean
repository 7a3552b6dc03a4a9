/-
  Joined: VisB, VisA, LokA.
-/
import Derived.Test.YtgmhhegckcionaaGreatDoorF38

namespace Go.Proofs.YtgmhhegckcionaaGreatDoor
set_option maxRecDepth 100000
set_option maxHeartbeats 16000000
open Go.RowKit
set_option linter.unusedVariables false
set_option linter.unusedSimpArgs false

theorem Zq {P:Program} {ops:Array Oper} {o:Oper} {a:Act} {w:World} {K:Act→World→Prop} {Q:Exit→Act→World→Prop} {E:Prop} (hgd:o.guard=none) (ty:TypeId) (x y:Operand) (ho:o.op=.store ty x y) (g:Nat) (vs:List Value) (hx:a.eval x=.pointer (some ⟨g,0,none⟩)) (hy:a.eval y=.agg vs.toArray) {t:Nat} {cs:List Value} (hB:Blk w g t cs)
  (hi:(P.info? ty).map (·.size)=some vs.length) (hl:cs.length=vs.length) (h1:vs.all (·.oneCell')=true)
  (h:∀ w',Hid (Blk w' g t vs)→w.grownBy w' (some g)→K (a.put o.dst undef) w'):if Region.wanted o (yielded ops a.tmps)=true then Oper.wp P o a w K Q else E:=by
 have hw:Region.wanted o (yielded ops a.tmps)=true:=by simp [Region.wanted,hgd]
 rw [if_pos hw]
 exact wp_store_row ty x y ho g vs.toArray hx hy t cs.toArray hB (by simpa using hi) (by simpa using hl) (by simpa using h1) (h _ (T1 vs hB) (Ve _ _ _))
def Rz (cs:List Value):Prop:=∀ u ∈ cs,∀ k v,u≠Value.int k v
theorem YR (v:Value) (h:∀ k z,v≠.int k z):Rz [v]:=by intro u hu k z;rw [List.mem_singleton.1 hu];exact h k z
theorem Yd (k:ByteArray) (s:Sl2):Rz (YI k s):=by
 intro u hu q v e
 unfold YI at hu
 simp only [List.mem_cons,List.not_mem_nil,or_false] at hu
 rcases hu with rfl | rfl | rfl<;>cases e
theorem Vj {w:World} {X T b o:Nat} {cs:List Value} (hB:Blk w X T cs) (hn:Rz cs) {k:IntKind} {v:Int} (h:w.cell? ⟨b,o,none⟩=some (.int k v)):b≠X:=by
 rintro rfl
 rw [hB.cell] at h
 exact hn _ (List.mem_of_getElem? h) _ _ rfl
theorem Yn.box {k:IntKind} {w w':World} {a:Option Addr} {n c X T:Nat} {zs:List Int} {cs:List Value} (h:Yn k w a n c zs) (hB:Blk w X T cs) (hn:Rz cs) (hg:w.grownBy w' (some X)):Yn k w' a n c zs:=by
 obtain ⟨h1,h2,h3,h4⟩:=h
 refine ⟨h1,h2,h3,?_⟩
 rcases h4 with h4 | ⟨b,off,ha,hlt,hc⟩
 ·exact .inl h4
 exact .inr ⟨b,off,ha,by have:=hg.size;omega,fun t ht=>Zp hg (hc t ht) (fun e=>Vj hB hn (hc t ht) (by cases e;rfl))⟩
theorem Zr.box {w w':World} {a:Option Addr} {n c X T:Nat} {xs:List I3} {cs:List Value} (h:Zr w a n c xs) (hB:Blk w X T cs) (hn:Rz cs) (hg:w.grownBy w' (some X)):Zr w' a n c xs:=by
 obtain ⟨h1,h2,h3,h0,h4⟩:=h
 refine ⟨h1,h2,h3,h0,?_⟩
 rcases h4 with h4 | ⟨b,off,ha,hlt,hc⟩
 ·exact .inl h4
 exact .inr ⟨b,off,ha,by have:=hg.size;omega,fun t ht=>⟨Zp hg (hc t ht).1 (fun e=>Vj hB hn (hc t ht).1 (by cases e;rfl)),Zp hg (hc t ht).2.1 (fun e=>Vj hB hn (hc t ht).2.1 (by cases e;rfl)),Zp hg (hc t ht).2.2 (fun e=>Vj hB hn (hc t ht).2.2 (by cases e;rfl))⟩⟩
theorem YK.box {w w':World} {s:Sl2} {e:E3} {X T:Nat} {cs:List Value} (h:YK w s e) (hB:Blk w X T cs) (hn:Rz cs) (hg:w.grownBy w' (some X)):YK w' s e:=⟨h.1,h.2.1.box hB hn hg,h.2.2.1.box hB hn hg,h.2.2.2⟩
def ZH (a:Option Addr) (n X:Nat):Prop:=n=0∨∀ b o,a=some ⟨b,o,none⟩→b≠X
theorem Y6.box {w w':World} {a:Option Addr} {n c X T:Nat} {es:List E3} {cs:List Value} (h:Y6 w a n c es) (hX:ZH a n X) (hB:Blk w X T cs) (hn:Rz cs) (hg:w.grownBy w' (some X)):Y6 w' a n c es:=by
 obtain ⟨h1,h2,h3,h4⟩:=h
 refine ⟨h1,h2,h3,?_⟩
 rcases h4 with h4 | ⟨b,off,ha,hlt,hc⟩
 ·exact .inl h4
 refine .inr ⟨b,off,ha,by have:=hg.size;omega,fun t ht=>?_⟩
 have hne:b≠X:=by
  rcases hX with h9 | h9
  ·omega
  exact h9 b off ha
 obtain ⟨s,c0,c1,c2,hm⟩:=hc t ht
 exact ⟨s,Zp hg c0 (fun e=>hne (by cases e;rfl)),Zp hg c1 (fun e=>hne (by cases e;rfl)),Zp hg c2 (fun e=>hne (by cases e;rfl)),hm.box hB hn hg⟩
theorem Zv {w:World} {a:Option Addr} {n c X:Nat} {es:List E3} (h:Y6 w a n c es) (hX:w.heap.size≤X):ZH a n X:=by
 rcases h.2.2.2 with h4 | ⟨b,off,ha,hlt,hc⟩
 ·exact .inl h4
 exact .inr (fun b' o' e=>by rw [ha] at e;cases e;omega)
theorem ZH.new {a:Option Addr} {n B X:Nat} (h:∀ b o,a=some ⟨b,o,none⟩→B≤b) (hX:X<B):ZH a n X:=.inr (fun b o e=>by have:=h b o e;omega)
theorem YK.zero9 (w:World):YK w ((none,0,0),(none,0,0)) e3d:=⟨⟨by unfold maxLen;decide,fun _=>rfl,fun _=>rfl⟩,⟨rfl,Nat.le_refl _,Nat.zero_le _,by simp [e3d],.inl rfl⟩,⟨rfl,Nat.le_refl _,Nat.zero_le _,.inl rfl⟩,by simp [e3d]⟩
def DA (x:Ending) (w':World) (B:Nat) (es:List E3):Prop:=∃ a n c,x=.returned (.agg #[.slice a n c])∧Y6 w' a n c es∧(a=none→c=0)∧∀ b o,a=some ⟨b,o,none⟩→B≤b
theorem Ku (a:Option Addr) (n c:Nat) (es:List E3) (e:E3) (s:Sl2) (w:World) (h:Y6 w a n c es) (hnil:a=none→c=0) (hok:UpR es) (hE:YK w s e) :
  Calls Tryz.prog 123 #[.agg #[.slice a n c],ZW e.1 s] w fun x w'=>DA x w' w.heap.size (XE es e)∧Below w.heap.size w w':=by
 obtain ⟨L,rfl,hQ⟩:=h.q
 refine (M5 a n c L e s w hQ hnil hok hE.1.1).mono ?_
 rintro x w' ⟨⟨v,rfl,q⟩,hb⟩
 have q0:=q
 obtain ⟨va,vc,rfl⟩:=ZY q
 refine ⟨⟨va,_,vc,rfl,?_,?_,?_⟩,hb⟩
 ·rw [← SU L e s]
  refine (Wv.of_owns q (fun x hx=>?_)).ents
  rcases QZ hx with h9 | h9
  ·exact (hQ.2.2.2.1 x h9).below hb
  rw [h9];exact hE.below hb
 ·intro hv
  rcases q0.2 with ⟨h1,_⟩ | ⟨g,cap,cur,h1,_⟩
  ·injection h1
  injection h1 with h3
  rw [hv] at h3
  cases h3
 intro b o hv
 rcases q0.2 with ⟨h1,_⟩ | ⟨g,cap,cur,h1,h2,_⟩
 ·injection h1 with h3
  rw [hv] at h3
  cases h3
 injection h1 with h3
 rw [hv] at h3
 injection h3 with h4
 injection h4 with h5
 rw [h5]
 exact h2


def Vt (x:Ending) (w':World) (B:Nat) (a:Option Addr) (n c:Nat) (r:E3 × (List E3 × Nat) × Bool):Prop:=∃ (s:Sl2) (a':Option Addr) (n' c':Nat),x=.returned (.tuple #[ZW r.1.1 s,.agg #[.slice a' n' c'],.int .i64 (r.2.1.2:Int),.bool r.2.2])∧YK w' s r.1∧Y6 w' a' n' c' r.2.1.1∧(a'=none→c'=0)∧((a'=a∧n'=n∧c'=c)∨∀ b o,a'=some ⟨b,o,none⟩→B≤b)
theorem Vt.mk9 {w':World} {B n c n' c':Nat} {a a':Option Addr} {r:E3 × (List E3 × Nat) × Bool} (s:Sl2) (h:YK w' s r.1) (hA:Y6 w' a' n' c' r.2.1.1) (hn:a'=none→c'=0) (ho:(a'=a∧n'=n∧c'=c)∨∀ b o,a'=some ⟨b,o,none⟩→B≤b):Vt (.returned (.tuple #[ZW r.1.1 s,.agg #[.slice a' n' c'],.int .i64 (r.2.1.2:Int),.bool r.2.2])) w' B a n c r:=⟨s,a',n',c',rfl,h,hA,hn,ho⟩

theorem LS {rows:List (List I3)} {cap:Nat} (m:V4) (es:List E3) (nd:Nat) (hI:isE es (Zt m)=true) (hs:Zc m=true) (hU:UpR es) (w:World) (a9:Option Addr) (s:S4) (a:Option Addr) (n c:Nat) (h:Xd w s m) (hA:Y6 w a n c es) (hnil:a=none→c=0) :
  Calls Tryz.prog 78 #[.agg #[.slice a9 3 cap],s.val,.agg #[.slice a n c],.int .i64 (nd:Int)] w fun x w'=>Vt x w' w.heap.size a n c (Vz es (Zt m),(es,nd),true)∧Below w.heap.size w w':=by
 obtain ⟨⟨t0a,t0n,t0c⟩,⟨t1a,t1n,t1c⟩,⟨t2a,t2n,t2c⟩,⟨t3a,t3n,t3c⟩⟩:=s
 have ut:S4.val ((t0a,t0n,t0c),(t1a,t1n,t1c),(t2a,t2n,t2c),(t3a,t3n,t3c))=.agg #[.slice t0a t0n t0c,.slice t1a t1n t1c,.slice t2a t2n t2c,.slice t3a t3n t3c]:=rfl
 have hl:=hA.1
 have hn2:n≤2000:=by have:=hU.few;omega
 have kK:=fun (W:World) (b:Below w.heap.size w W)=>Ri ((t0a,t0n,t0c),(t1a,t1n,t1c),(t2a,t2n,t2c),(t3a,t3n,t3c)) m W (h.below b) hs
 have kP:=fun (W:World) (b:Below w.heap.size w W)=>Vg a n c es (Zt m) W (hA.below b) hU
 rw [ut] at kK ⊢
 have bw:Below w.heap.size w (((((w.alloc (.cells #[.slice a9 3 cap] 25)).alloc (.cells #[.slice t0a t0n t0c,.slice t1a t1n t1c,.slice t2a t2n t2c,.slice t3a t3n t3c] 88)).alloc (.cells #[.slice a n c] 33)).alloc (.cells #[.string ⟨#[]⟩,.slice none 0 0,.slice none 0 0] 45)).alloc (.cells #[.slice none 0 0] 33)):=by go_grown
 have pP:Blk (((((w.alloc (.cells #[.slice a9 3 cap] 25)).alloc (.cells #[.slice t0a t0n t0c,.slice t1a t1n t1c,.slice t2a t2n t2c,.slice t3a t3n t3c] 88)).alloc (.cells #[.slice a n c] 33)).alloc (.cells #[.string ⟨#[]⟩,.slice none 0 0,.slice none 0 0] 45)).alloc (.cells #[.slice none 0 0] 33)) (w.heap.size) 25 [.slice a9 3 cap]:=Zl _ (Zl _ (Zl _ (Zl _ (Zj _ _ _ rfl))))
 have pS:Blk (((((w.alloc (.cells #[.slice a9 3 cap] 25)).alloc (.cells #[.slice t0a t0n t0c,.slice t1a t1n t1c,.slice t2a t2n t2c,.slice t3a t3n t3c] 88)).alloc (.cells #[.slice a n c] 33)).alloc (.cells #[.string ⟨#[]⟩,.slice none 0 0,.slice none 0 0] 45)).alloc (.cells #[.slice none 0 0] 33)) (w.heap.size+1) 88 [.slice t0a t0n t0c,.slice t1a t1n t1c,.slice t2a t2n t2c,.slice t3a t3n t3c]:=Zl _ (Zl _ (Zl _ (Zj _ _ _ (by simp))))
 have pM:Blk (((((w.alloc (.cells #[.slice a9 3 cap] 25)).alloc (.cells #[.slice t0a t0n t0c,.slice t1a t1n t1c,.slice t2a t2n t2c,.slice t3a t3n t3c] 88)).alloc (.cells #[.slice a n c] 33)).alloc (.cells #[.string ⟨#[]⟩,.slice none 0 0,.slice none 0 0] 45)).alloc (.cells #[.slice none 0 0] 33)) (w.heap.size+1+1) 33 [.slice a n c]:=Zl _ (Zl _ (Zj _ _ _ (by simp)))
 have pE:Blk (((((w.alloc (.cells #[.slice a9 3 cap] 25)).alloc (.cells #[.slice t0a t0n t0c,.slice t1a t1n t1c,.slice t2a t2n t2c,.slice t3a t3n t3c] 88)).alloc (.cells #[.slice a n c] 33)).alloc (.cells #[.string ⟨#[]⟩,.slice none 0 0,.slice none 0 0] 45)).alloc (.cells #[.slice none 0 0] 33)) (w.heap.size+1+1+1) 45 [.string ⟨#[]⟩,.slice none 0 0,.slice none 0 0]:=Zl _ (Zj _ _ _ (by simp))
 have pR:Blk (((((w.alloc (.cells #[.slice a9 3 cap] 25)).alloc (.cells #[.slice t0a t0n t0c,.slice t1a t1n t1c,.slice t2a t2n t2c,.slice t3a t3n t3c] 88)).alloc (.cells #[.slice a n c] 33)).alloc (.cells #[.string ⟨#[]⟩,.slice none 0 0,.slice none 0 0] 45)).alloc (.cells #[.slice none 0 0] 33)) (w.heap.size+1+1+1+1) 33 [.slice none 0 0]:=Zj _ _ _ (by simp)
 have hszU:w.heap.size+5≤(((((w.alloc (.cells #[.slice a9 3 cap] 25)).alloc (.cells #[.slice t0a t0n t0c,.slice t1a t1n t1c,.slice t2a t2n t2c,.slice t3a t3n t3c] 88)).alloc (.cells #[.slice a n c] 33)).alloc (.cells #[.string ⟨#[]⟩,.slice none 0 0,.slice none 0 0] 45)).alloc (.cells #[.slice none 0 0] 33)).heap.size:=by simp
 have hpl:Yf es (Zt m)<n:=by
  simp only [isE,Bool.and_eq_true,decide_eq_true_eq] at hI
  omega
 have hfe:Vz es (Zt m)=es.getD (Yf es (Zt m)) e3d:=by unfold Vz;rw [if_pos hI]
 rw [hI] at kP
 rw [hfe]
 rcases hA.2.2.2 with e0 | ⟨b,off,rfl,hblt,hcell⟩
 ·omega
 obtain ⟨s9,c0,c1,c2,hm9⟩:=hcell (Yf es (Zt m)) hpl
 have of8:ZH (some ⟨b,off,none⟩) n (w.heap.size+1+1+1):=Zv hA (by omega)
 have of9:ZH (some ⟨b,off,none⟩) n (w.heap.size+1+1+1+1):=Zv hA (by omega)
 clear hcell hfe hI
 generalize Yf es (Zt m)=p at *
 generalize es.getD p e3d=ee at *
 generalize Zt m=key at *
 obtain ⟨ek,eb,ez⟩:=ee
 obtain ⟨⟨s1a,s1n,s1c⟩,⟨s2a,s2n,s2c⟩⟩:=s9
 simp only at c0 c1 c2
 have hp0:(0:Int)≤(p:Int):=by omega
 have hpn:(p:Int)<(n:Int):=by omega
 go_enter Tryz.func78,Tryz.ntmps78
 go_wp2_with fail
 generalize (((((w.alloc (.cells #[.slice a9 3 cap] 25)).alloc (.cells #[.slice t0a t0n t0c,.slice t1a t1n t1c,.slice t2a t2n t2c,.slice t3a t3n t3c] 88)).alloc (.cells #[.slice (some ⟨b,off,none⟩) n c] 33)).alloc (.cells #[.string ⟨#[]⟩,.slice none 0 0,.slice none 0 0] 45)).alloc (.cells #[.slice none 0 0] 33))=U0 at *
 go_wp2_with (refine Zd rfl 88 _ rfl (w.heap.size+1) rfl pS _ Tryz.underlying88 rfl (by kernel_rfl) ?_)
 refine (kK _ bw).mono ?_
 rintro x w1 ⟨rfl,hb⟩
 replace bw:=Zo bw hb
 replace pP:=pP.below hb
 replace pS:=pS.below hb
 replace pM:=pM.below hb
 replace pE:=pE.below hb
 replace pR:=pR.below hb
 clear hb kK
 go_wp2_with (refine Zd rfl 33 _ rfl (w.heap.size+1+1) rfl pM _ Tryz.underlying33 rfl (by kernel_rfl) ?_)
 refine (kP _ bw).mono ?_
 rintro x w2 ⟨rfl,hb⟩
 replace bw:=Zo bw hb
 replace pP:=pP.below hb
 replace pS:=pS.below hb
 replace pM:=pM.below hb
 replace pE:=pE.below hb
 replace pR:=pR.below hb
 clear hb kP
 have hA9:=hA.below bw
 replace hm9:=hm9.below bw
 replace c0:=Za bw _ _ c0
 replace c1:=Za bw _ _ c1
 replace c2:=Za bw _ _ c2
 have g0:=pM.cell 0
 simp only [List.getElem?_cons_zero] at g0
 go_wp2_with fail
 refine wp_region_held_drew (S:=(fun w'=>w'.cell? ⟨w.heap.size+1+1,0,none⟩=some (.slice (some ⟨b,off,none⟩) n c)∧w'.cell? ⟨b,off+p*3,none⟩=some (.string ek)∧w'.cell? ⟨b,off+p*3+1,none⟩=some (.slice s1a s1n s1c)∧w'.cell? ⟨b,off+p*3+2,none⟩=some (.slice s2a s2n s2c))) (by kernel_rfl) ⟨g0,c0,c1,c2⟩ (fun hS0=>?_)
 refine tkv 0 33 (.pointer (some ⟨w.heap.size+1+1,0,none⟩)) ?_
 refine tkv 1 34 (.slice (some ⟨b,off,none⟩) n c) ?_
 refine tkv 2 35 (.int .i64 (p:Int)) ?_
 refine tkv 3 36 (.pointer (some ⟨b,off+p*3,none⟩)) ?_
 refine tkv 4 37 (.agg #[.string ek,.slice s1a s1n s1c,.slice s2a s2n s2c]) ?_
 refine tkv 5 38 (.agg #[.slice (some ⟨b,off,none⟩) n c]) ?_
 refine tkv 6 39 (.int .i64 (nd:Int)) ?_
 have bd:Below w2.heap.size w2 w2.drew:=by go_grown
 replace bw:=Zo bw bd
 replace pE:=pE.below bd
 replace pR:=pR.below bd
 replace hm9:=hm9.below bd
 replace hA9:=hA9.below bd
 clear bd
 generalize w2.drew=V1 at *
 refine tkz 7 (fun K hK=>?_)
 refine Zq rfl 45 _ _ rfl (w.heap.size+1+1+1) [.string ek,.slice s1a s1n s1c,.slice s2a s2n s2c] rfl rfl pE (by kernel_rfl) rfl rfl ?_
 intro V2 q8 g8
 refine hK.out _ _ ⟨Zp g8 hS0.1 (fun e=>by injection e with e9;dsimp only at e9;omega),Zp g8 hS0.2.1 (fun e=>by injection e with e9;dsimp only at e9;omega),Zp g8 hS0.2.2.1 (fun e=>by injection e with e9;dsimp only at e9;omega),Zp g8 hS0.2.2.2 (fun e=>by injection e with e9;dsimp only at e9;omega)⟩ (fun hS1=>?_)
 clear hK
 try simp only [Act.put,tka,tkb,tkc]
 replace bw:=bw.grown g8 bw.size (fun k hk=>by cases hk;omega)
 replace hm9:=hm9.box pE (Yd ⟨#[]⟩ ((none,0,0),(none,0,0))) g8
 replace hA9:=hA9.box of8 pE (Yd ⟨#[]⟩ ((none,0,0),(none,0,0))) g8
 replace pR:=pR.kept g8 (by simp)
 replace pE:=q8.out
 clear q8 g8
 refine tkz 8 (fun K hK=>?_)
 refine Zq rfl 33 _ _ rfl (w.heap.size+1+1+1+1) [.slice (some ⟨b,off,none⟩) n c] rfl rfl pR (by kernel_rfl) rfl rfl ?_
 intro V3 q9 g9
 refine hK.out _ _ ⟨Zp g9 hS1.1 (fun e=>by injection e with e9;dsimp only at e9;omega),Zp g9 hS1.2.1 (fun e=>by injection e with e9;dsimp only at e9;omega),Zp g9 hS1.2.2.1 (fun e=>by injection e with e9;dsimp only at e9;omega),Zp g9 hS1.2.2.2 (fun e=>by injection e with e9;dsimp only at e9;omega)⟩ (fun hS2=>?_)
 clear hK
 try simp only [Act.put,tka,tkb,tkc]
 replace bw:=bw.grown g9 (Nat.le_trans (by omega) bw.size) (fun k hk=>by cases hk;omega)
 replace hm9:=hm9.box pR (YR _ (by intro k z e;cases e)) g9
 replace hA9:=hA9.box of9 pR (YR _ (by intro k z e;cases e)) g9
 replace pE:=pE.kept g9 (by simp)
 replace pR:=q9.out
 clear q9 g9
 refine tkv 9 10 (.int .i64 (nd:Int)) ?_
 refine tkv 10 11 (.bool true) ?_
 refine wpAnyH_done (by kernel_rfl) ?_ _
 clear hS0 hS1 hS2
 have z0:=pE.cell 0
 have z1:=pE.cell 1
 have z2:=pE.cell 2
 have z3:=pR.cell 0
 simp only [List.getElem?_cons_zero,List.getElem?_cons_succ] at z0 z1 z2 z3
 go_wp2
 refine bodyPost_ret (by simp [results,Tryz.results78,go_sem,z0,z1,z2,z3];try rfl) rfl ?_
 exact ⟨Vt.mk9 (r:=((ek,eb,ez),(es,nd),true)) ((s1a,s1n,s1c),(s2a,s2n,s2c)) hm9 hA9 hnil (.inl ⟨rfl,rfl,rfl⟩),bw⟩
theorem KV {rows:List (List I3)} {cap:Nat} (m:V4) (es:List E3) (nd:Nat) (hI:isE es (Zt m)=false) (hs:Zc m=true) (hU:UpR es) (w:World) (a9:Option Addr) (s:S4) (a:Option Addr) (n c:Nat) (h:Xd w s m) (hA:Y6 w a n c es) (hnil:a=none→c=0) (h0:es.length=2000) :
  Calls Tryz.prog 78 #[.agg #[.slice a9 3 cap],s.val,.agg #[.slice a n c],.int .i64 (nd:Int)] w fun x w'=>Vt x w' w.heap.size a n c (e3d,(es,nd),false)∧Below w.heap.size w w':=by
 obtain ⟨⟨t0a,t0n,t0c⟩,⟨t1a,t1n,t1c⟩,⟨t2a,t2n,t2c⟩,⟨t3a,t3n,t3c⟩⟩:=s
 have ut:S4.val ((t0a,t0n,t0c),(t1a,t1n,t1c),(t2a,t2n,t2c),(t3a,t3n,t3c))=.agg #[.slice t0a t0n t0c,.slice t1a t1n t1c,.slice t2a t2n t2c,.slice t3a t3n t3c]:=rfl
 have hl:=hA.1
 have hn2:n≤2000:=by have:=hU.few;omega
 have kK:=fun (W:World) (b:Below w.heap.size w W)=>Ri ((t0a,t0n,t0c),(t1a,t1n,t1c),(t2a,t2n,t2c),(t3a,t3n,t3c)) m W (h.below b) hs
 have kP:=fun (W:World) (b:Below w.heap.size w W)=>Vg a n c es (Zt m) W (hA.below b) hU
 rw [ut] at kK ⊢
 have bw:Below w.heap.size w (((((w.alloc (.cells #[.slice a9 3 cap] 25)).alloc (.cells #[.slice t0a t0n t0c,.slice t1a t1n t1c,.slice t2a t2n t2c,.slice t3a t3n t3c] 88)).alloc (.cells #[.slice a n c] 33)).alloc (.cells #[.string ⟨#[]⟩,.slice none 0 0,.slice none 0 0] 45)).alloc (.cells #[.slice none 0 0] 33)):=by go_grown
 have pP:Blk (((((w.alloc (.cells #[.slice a9 3 cap] 25)).alloc (.cells #[.slice t0a t0n t0c,.slice t1a t1n t1c,.slice t2a t2n t2c,.slice t3a t3n t3c] 88)).alloc (.cells #[.slice a n c] 33)).alloc (.cells #[.string ⟨#[]⟩,.slice none 0 0,.slice none 0 0] 45)).alloc (.cells #[.slice none 0 0] 33)) (w.heap.size) 25 [.slice a9 3 cap]:=Zl _ (Zl _ (Zl _ (Zl _ (Zj _ _ _ rfl))))
 have pS:Blk (((((w.alloc (.cells #[.slice a9 3 cap] 25)).alloc (.cells #[.slice t0a t0n t0c,.slice t1a t1n t1c,.slice t2a t2n t2c,.slice t3a t3n t3c] 88)).alloc (.cells #[.slice a n c] 33)).alloc (.cells #[.string ⟨#[]⟩,.slice none 0 0,.slice none 0 0] 45)).alloc (.cells #[.slice none 0 0] 33)) (w.heap.size+1) 88 [.slice t0a t0n t0c,.slice t1a t1n t1c,.slice t2a t2n t2c,.slice t3a t3n t3c]:=Zl _ (Zl _ (Zl _ (Zj _ _ _ (by simp))))
 have pM:Blk (((((w.alloc (.cells #[.slice a9 3 cap] 25)).alloc (.cells #[.slice t0a t0n t0c,.slice t1a t1n t1c,.slice t2a t2n t2c,.slice t3a t3n t3c] 88)).alloc (.cells #[.slice a n c] 33)).alloc (.cells #[.string ⟨#[]⟩,.slice none 0 0,.slice none 0 0] 45)).alloc (.cells #[.slice none 0 0] 33)) (w.heap.size+1+1) 33 [.slice a n c]:=Zl _ (Zl _ (Zj _ _ _ (by simp)))
 have pE:Blk (((((w.alloc (.cells #[.slice a9 3 cap] 25)).alloc (.cells #[.slice t0a t0n t0c,.slice t1a t1n t1c,.slice t2a t2n t2c,.slice t3a t3n t3c] 88)).alloc (.cells #[.slice a n c] 33)).alloc (.cells #[.string ⟨#[]⟩,.slice none 0 0,.slice none 0 0] 45)).alloc (.cells #[.slice none 0 0] 33)) (w.heap.size+1+1+1) 45 [.string ⟨#[]⟩,.slice none 0 0,.slice none 0 0]:=Zl _ (Zj _ _ _ (by simp))
 have pR:Blk (((((w.alloc (.cells #[.slice a9 3 cap] 25)).alloc (.cells #[.slice t0a t0n t0c,.slice t1a t1n t1c,.slice t2a t2n t2c,.slice t3a t3n t3c] 88)).alloc (.cells #[.slice a n c] 33)).alloc (.cells #[.string ⟨#[]⟩,.slice none 0 0,.slice none 0 0] 45)).alloc (.cells #[.slice none 0 0] 33)) (w.heap.size+1+1+1+1) 33 [.slice none 0 0]:=Zj _ _ _ (by simp)
 have hszU:w.heap.size+5≤(((((w.alloc (.cells #[.slice a9 3 cap] 25)).alloc (.cells #[.slice t0a t0n t0c,.slice t1a t1n t1c,.slice t2a t2n t2c,.slice t3a t3n t3c] 88)).alloc (.cells #[.slice a n c] 33)).alloc (.cells #[.string ⟨#[]⟩,.slice none 0 0,.slice none 0 0] 45)).alloc (.cells #[.slice none 0 0] 33)).heap.size:=by simp
 rw [hI] at kP
 obtain rfl:n=2000:=by omega
 have of8:ZH a 2000 (w.heap.size+1+1+1):=Zv hA (by omega)
 have of9:ZH a 2000 (w.heap.size+1+1+1+1):=Zv hA (by omega)
 clear hI
 generalize Yf es (Zt m)=p at *
 generalize Zt m=key at *
 go_enter Tryz.func78,Tryz.ntmps78
 go_wp2_with fail
 generalize (((((w.alloc (.cells #[.slice a9 3 cap] 25)).alloc (.cells #[.slice t0a t0n t0c,.slice t1a t1n t1c,.slice t2a t2n t2c,.slice t3a t3n t3c] 88)).alloc (.cells #[.slice a 2000 c] 33)).alloc (.cells #[.string ⟨#[]⟩,.slice none 0 0,.slice none 0 0] 45)).alloc (.cells #[.slice none 0 0] 33))=U0 at *
 go_wp2_with (refine Zd rfl 88 _ rfl (w.heap.size+1) rfl pS _ Tryz.underlying88 rfl (by kernel_rfl) ?_)
 refine (kK _ bw).mono ?_
 rintro x w1 ⟨rfl,hb⟩
 replace bw:=Zo bw hb
 replace pP:=pP.below hb
 replace pS:=pS.below hb
 replace pM:=pM.below hb
 replace pE:=pE.below hb
 replace pR:=pR.below hb
 clear hb kK
 go_wp2_with (refine Zd rfl 33 _ rfl (w.heap.size+1+1) rfl pM _ Tryz.underlying33 rfl (by kernel_rfl) ?_)
 refine (kP _ bw).mono ?_
 rintro x w2 ⟨rfl,hb⟩
 replace bw:=Zo bw hb
 replace pP:=pP.below hb
 replace pS:=pS.below hb
 replace pM:=pM.below hb
 replace pE:=pE.below hb
 replace pR:=pR.below hb
 clear hb kP
 have hA9:=hA.below bw
 have g0:=pM.cell 0
 simp only [List.getElem?_cons_zero] at g0
 go_wp2_with fail
 refine wp_region_held_drew (S:=(fun w'=>w'.cell? ⟨w.heap.size+1+1,0,none⟩=some (.slice a 2000 c))) (by kernel_rfl) g0 (fun hS0=>?_)
 refine tkv 0 44 (.agg #[.string ⟨#[]⟩,.slice none 0 0,.slice none 0 0]) ?_
 refine tkv 1 45 (.agg #[.slice a 2000 c]) ?_
 refine tkv 2 46 (.int .i64 (nd:Int)) ?_
 have bd:Below w2.heap.size w2 w2.drew:=by go_grown
 replace bw:=Zo bw bd
 replace pE:=pE.below bd
 replace pR:=pR.below bd
 replace hA9:=hA9.below bd
 clear bd
 generalize w2.drew=V1 at *
 refine tkz 3 (fun K hK=>?_)
 refine Zq rfl 45 _ _ rfl (w.heap.size+1+1+1) [.string ⟨#[]⟩,.slice none 0 0,.slice none 0 0] rfl rfl pE (by kernel_rfl) rfl rfl ?_
 intro V2 q8 g8
 refine hK.out _ _ (Zp g8 hS0 (fun e=>by injection e with e9;dsimp only at e9;omega)) (fun hS1=>?_)
 clear hK
 try simp only [Act.put,tka,tkb,tkc]
 replace bw:=bw.grown g8 bw.size (fun k hk=>by cases hk;omega)
 replace hA9:=hA9.box of8 pE (Yd ⟨#[]⟩ ((none,0,0),(none,0,0))) g8
 replace pR:=pR.kept g8 (by simp)
 replace pE:=q8.out
 clear q8 g8
 refine tkz 4 (fun K hK=>?_)
 refine Zq rfl 33 _ _ rfl (w.heap.size+1+1+1+1) [.slice a 2000 c] rfl rfl pR (by kernel_rfl) rfl rfl ?_
 intro V3 q9 g9
 refine hK.out _ _ (Zp g9 hS1 (fun e=>by injection e with e9;dsimp only at e9;omega)) (fun hS2=>?_)
 clear hK
 try simp only [Act.put,tka,tkb,tkc]
 replace bw:=bw.grown g9 (Nat.le_trans (by omega) bw.size) (fun k hk=>by cases hk;omega)
 replace hA9:=hA9.box of9 pR (YR _ (by intro k z e;cases e)) g9
 replace pE:=pE.kept g9 (by simp)
 replace pR:=q9.out
 clear q9 g9
 refine tkv 5 10 (.int .i64 (nd:Int)) ?_
 refine tkv 6 11 (.bool false) ?_
 refine wpAnyH_done (by kernel_rfl) ?_ _
 clear hS0 hS1 hS2
 have z0:=pE.cell 0
 have z1:=pE.cell 1
 have z2:=pE.cell 2
 have z3:=pR.cell 0
 simp only [List.getElem?_cons_zero,List.getElem?_cons_succ] at z0 z1 z2 z3
 go_wp2
 refine bodyPost_ret (by simp [results,Tryz.results78,go_sem,z0,z1,z2,z3];try rfl) rfl ?_
 exact ⟨Vt.mk9 (r:=(e3d,(es,nd),false)) ((none,0,0),(none,0,0)) (YK.zero9 _) hA9 hnil (.inl ⟨rfl,rfl,rfl⟩),bw⟩


theorem Gd (m:V4) {k:Nat} (hk:k<3):(Zx m).take (k+1)=(Zx m).take k++[8*(k:Int)+m.1.getD k 0]:=by
 match k,hk with
 | 0,_=>simp [Zx]
 | 1,_=>simp [Zx]
 | 2,_=>simp [Zx]
theorem M3 (s:S4) (m:V4) (w:World) (h:Xd w s m) (hs:Zc m=true) :
  Calls Tryz.prog 118 #[s.val] w fun e w'=>S9 e w' w.heap.size (Zx m)∧Below w.heap.size w w':=by
 obtain ⟨i0,hi,hz0,hz1,hz2⟩:=info_parts XQ
 obtain ⟨h1,_⟩:=h
 have hl3:=(ZS hs).1
 have hpc:=fun k hk=>Mi hs (k:=k) hk
 obtain ⟨⟨a0,n0,c0⟩,⟨a1,n1,c1⟩,⟨a2,n2,c2⟩,⟨a3,n3,c3⟩⟩:=s
 have uA:S4.val ((a0,n0,c0),(a1,n1,c1),(a2,n2,c2),(a3,n3,c3))=.agg #[.slice a0 n0 c0,.slice a1 n1 c1,.slice a2 n2 c2,.slice a3 n3 c3]:=rfl
 simp only [uA] at *
 clear uA
 replace h1:Yn .i64 w a0 n0 c0 m.1:=h1.1
 have bw:Below w.heap.size w ((w.alloc (.cells #[.slice a0 n0 c0,.slice a1 n1 c1,.slice a2 n2 c2,.slice a3 n3 c3] 88)).alloc (.cells #[] 3)):=by go_grown
 have pS:Blk ((w.alloc (.cells #[.slice a0 n0 c0,.slice a1 n1 c1,.slice a2 n2 c2,.slice a3 n3 c3] 88)).alloc (.cells #[] 3)) w.heap.size 88 [.slice a0 n0 c0,.slice a1 n1 c1,.slice a2 n2 c2,.slice a3 n3 c3]:=Zl _ (Zj _ _ _ rfl)
 have q0:=XZ (w.alloc (.cells #[.slice a0 n0 c0,.slice a1 n1 c1,.slice a2 n2 c2,.slice a3 n3 c3] 88)) 3 1 (w.heap.size+1) (by simp)
 go_enter Tryz.func118,Tryz.ntmps118
 go_wp2_with fail
 generalize (w.alloc (.cells #[.slice a0 n0 c0,.slice a1 n1 c1,.slice a2 n2 c2,.slice a3 n3 c3] 88)).alloc (.cells #[] 3)=W0 at *
 simp only [World.size_alloc] at q0
 go_loopw [3,4] (fun so si wr=>∃ (k:Nat) (v:Value),v=so∧k≤3∧si=.int .i64 k∧wr.ownsRow (w.heap.size+1) 3 1 v k (((Zx m).take k).map (Value.int .i64))∧Blk wr w.heap.size 88 [.slice a0 n0 c0,.slice a1 n1 c1,.slice a2 n2 c2,.slice a3 n3 c3]∧Below w.heap.size w wr) (fun _ si _=>3 - (Go.RowKit.intOf si).toNat)
 case atStart=>exact ⟨0,_,rfl,by omega,rfl,q0,pS,bw⟩
 case round =>
  clear q0 pS bw
  obtain ⟨k,so,rfl,hk,rfl,q,pS,bw⟩:=hrel
  by_cases hlt:k<3
  ·have hk3:(k:Int)<3:=by omega
   have hk0:(0:Int)≤(k:Int):=by omega
   have hln:=h1.1
   have hkn:(k:Int)<(n0:Int):=by omega
   have HT:Hid ((Zx m).take (k+1)=(Zx m).take k++[8*(k:Int)+m.1.getD k 0]):=Gd m hlt
   have kI:=Ks (k:Int) (m.1.getD k 0) wr (Xs.2 (by omega)) (hpc k hlt)
   obtain ⟨_,_,_,hcase⟩:=h1.below bw
   rcases hcase with e0 | ⟨b,off,rfl,hb9,hc⟩
   ·omega
   have d0:=hc k (by omega)
   have gS0:wr.cell? ⟨w.heap.size,0,none⟩=some (.slice (some ⟨b,off,none⟩) n0 c0):=by simpa using pS.cell 0
   generalize m.1.getD k 0=p at d0 HT kI
   have hsz:=bw.size
   have hsl:=pS.lt
   clear hc hb9 hln
   go_wp2_with fail
   refine kI.mono ?_
   rintro e w3 ⟨rfl,rfl⟩
   clear kI
   generalize 8*(k:Int)+p=zz at *
   go_wp2_with (at_builtin;refine wpList_append_own _ rfl _ _ 36 rfl (w.heap.size+1) 3 i0 (.int .i64 0) 1 8 Tryz.underlying36 hi hz0 hz1 hz2 rfl (by decide) _ _ _ rfl (q.alloc _) ⟨wr.heap.size,0,none⟩ 1 1 [.int .i64 zz] rfl rfl (cell_one_new _ _ _) (by simp [Value.oneCell']) ?c3 ?c4 ?c5 ?_)
   case c3=>unfold maxLen;omega
   case c4=>omega
   case c5=>simp;omega
   intro v' wn hown' hgrow _
   have R:wn.ownsRow (w.heap.size+1) 3 1 v' (k+1) (((Zx m).take (k+1)).map (Value.int .i64)):=by
    rw [HT.out,List.map_append]
    simpa [List.map_take] using hown'
   have bn:Below w.heap.size w wn:=(bw.alloc hsz _).grown hgrow (by simp;omega) (fun k hk=>by have:=(q.lt k hk).1;omega)
   have pn:Blk wn w.heap.size 88 [.slice (some ⟨b,off,none⟩) n0 c0,.slice a1 n1 c1,.slice a2 n2 c2,.slice a3 n3 c3]:=(pS.below (by go_grown:Below wr.heap.size wr (wr.alloc (.cells #[.int .i64 zz] 3)))).kept hgrow (fun e=>by have:=(q.lt _ e).1;omega)
   clear hown' hgrow q bw pS HT gS0 d0
   go_wp2
   go_roundw
   case rel=>exact ⟨k+1,_,rfl,by omega,by go_num,R,pn,bn⟩
   case measure=>simp [Go.RowKit.intOf];omega
  obtain rfl:k=3:=by omega
  obtain ⟨ga,gc,rfl⟩:=RR q (by omega)
  go_wp2
  go_ret
  exact ⟨⟨_,rfl,Yz q (by omega)⟩,bw⟩
end Go.Proofs.YtgmhhegckcionaaGreatDoor
