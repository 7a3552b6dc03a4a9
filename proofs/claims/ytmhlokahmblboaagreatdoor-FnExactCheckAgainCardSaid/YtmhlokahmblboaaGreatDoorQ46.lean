/-
  Joined: EntZ, VisAZ.
-/
import Derived.Test.YtmhlokahmblboaaGreatDoorQ44

namespace Go.Proofs.YtmhlokahmblboaaGreatDoor
set_option maxRecDepth 100000
set_option maxHeartbeats 16000000
open Go.RowKit
set_option linter.unusedVariables false
set_option linter.unusedSimpArgs false

def Kf (s:Sl2):Prop:=∀ b o sp,s.2.1=some ⟨b,o,sp⟩→o=0
def FI (s:Sl2):Prop:=(s.1.1=none→s.1.2.2=0)∧(s.2.1=none→s.2.2.2=0)∧Kf s
def YM (w:World) (s:Sl2) (e:E3):Prop:=(e.1.size≤maxLen∧FI s)∧Zj w s.1.1 s.1.2.1 s.1.2.2 e.2.1∧W7 w s.2 e.2.2
theorem YM.emem {w:World} {s:Sl2} {e:E3} (h:YM w s e):YL w s e:=⟨⟨h.1.1,h.1.2.1,h.1.2.2.1⟩,h.2⟩
theorem YL.z {w:World} {s:Sl2} {e:E3} (h:YL w s e) (h0:Kf s):YM w s e:=⟨⟨h.1.1,h.1.2.1,h.1.2.2,h0⟩,h.2⟩
theorem YM.below {w w':World} {s:Sl2} {e:E3} (h:YM w s e) (hb:Below w.heap.size w w'):YM w' s e:=⟨h.1,h.2.1.below hb,h.2.2.below hb⟩
theorem YM.box {w w':World} {s:Sl2} {e:E3} {X T:Nat} {cs:List Value} (h:YM w s e) (hB:Blk w X T cs) (hn:T6 cs) (hg:w.grownBy w' (some X)):YM w' s e:=⟨h.1,h.2.1.box hB hn hg,h.2.2.1.box hB hn hg,h.2.2.2⟩
theorem ZW.box0 {k:IntKind} {w w':World} {a:Option Addr} {n c X T:Nat} {zs:List Int} {v:Value} {cs:List Value} (h:ZW k w a n c zs) (h0:∀ b o sp,a=some ⟨b,o,sp⟩→o=0) (hB:Blk w X T (v::cs)) (hn:∀ k z,v≠.int k z) (hg:w.grownBy w' (some X)):ZW k w' a n c zs:=by
 obtain ⟨h1,h3,h4,h5⟩:=h
 refine ⟨h1,h3,h4,?_⟩
 rcases h5 with h5 | ⟨b,off,ha,hlt,hc⟩
 ·exact .inl h5
 by_cases h9:n=0
 ·exact .inl h9
 have ho:=h0 b off none ha
 subst ho
 have hne:b≠X:=by
  rintro rfl
  have h8:=hc 0 (by omega)
  rw [hB.cell] at h8
  simp only [Nat.add_zero,List.getElem?_cons_zero,Option.some.injEq] at h8
  exact hn _ _ h8
 exact .inr ⟨b,0,ha,by have:=hg.size;omega,fun t ht=>Zn hg (hc t ht) (fun e=>hne (by cases e;rfl))⟩
theorem YM.box0 {w w':World} {s:Sl2} {e:E3} {X T:Nat} {v:Value} {cs:List Value} (h:YM w s e) (hB:Blk w X T (v::cs)) (hv:∀ k z,v≠.int k z) (hn:Ng (v::cs)) (hg:w.grownBy w' (some X)):YM w' s e:=⟨h.1,h.2.1.box2 hB hn hg,h.2.2.1.box0 h.1.2.2.2 hB hv hg,h.2.2.2⟩
def Yr (w:World) (a:Option Addr) (len cap:Nat) (es:List E3):Prop:=
 es.length=len∧len≤cap∧cap≤maxLen∧(len=0∨∃ b off,a=some ⟨b,off,none⟩∧b<w.heap.size∧∀ t,t<len →
  ∃ s:Sl2,w.cell? ⟨b,off+t*3,none⟩=some (.string (es.getD t e3d).1)∧w.cell? ⟨b,off+t*3+1,none⟩=some (.slice s.1.1 s.1.2.1 s.1.2.2)∧w.cell? ⟨b,off+t*3+2,none⟩=some (.slice s.2.1 s.2.2.1 s.2.2.2)∧YM w s (es.getD t e3d))
theorem Yr.ents {w:World} {a:Option Addr} {n c:Nat} {es:List E3} (h:Yr w a n c es):XF w a n c es:=by
 obtain ⟨h1,h2,h3,h4⟩:=h
 refine ⟨h1,h2,h3,?_⟩
 rcases h4 with h4 | ⟨b,off,ha,hlt,hc⟩
 ·exact .inl h4
 exact .inr ⟨b,off,ha,hlt,fun t ht=>by
  obtain ⟨s,c0,c1,c2,hm⟩:=hc t ht
  exact ⟨s,c0,c1,c2,hm.emem⟩⟩
theorem Yr.below {w w':World} {a:Option Addr} {len cap:Nat} {es:List E3} (h:Yr w a len cap es) (hb:Below w.heap.size w w'):Yr w' a len cap es:=by
 obtain ⟨h1,h2,h3,h4⟩:=h
 refine ⟨h1,h2,h3,?_⟩
 rcases h4 with h4 | ⟨b,off,ha,hlt,hc⟩
 ·exact .inl h4
 refine .inr ⟨b,off,ha,by have:=hb.size;omega,fun t ht=>?_⟩
 obtain ⟨s,c0,c1,c2,hm⟩:=hc t ht
 exact ⟨s,by rw [hb.cell (p:=⟨b,_,none⟩) hlt];exact c0,by rw [hb.cell (p:=⟨b,_,none⟩) hlt];exact c1,by rw [hb.cell (p:=⟨b,_,none⟩) hlt];exact c2,hm.below hb⟩
theorem Yr.box9 {w w':World} {a:Option Addr} {n c X:Nat} {es:List E3} (h:Yr w a n c es) (hX:YV a n X) (hg:w.grownBy w' (some X)) (hm9:∀ s e,YM w s e→YM w' s e):Yr w' a n c es:=by
 obtain ⟨h1,h2,h3,h4⟩:=h
 refine ⟨h1,h2,h3,?_⟩
 rcases h4 with h4 | ⟨b,off,ha,hlt,hc⟩
 ·exact .inl h4
 refine .inr ⟨b,off,ha,by have:=hg.size;omega,fun t ht=>?_⟩
 have hne:b≠X:=by
  rcases hX with h9 | h9
  ·omega
  exact h9 b off ha
 obtain ⟨s,c0,c1,c2,hm⟩:=hc t ht
 exact ⟨s,Zn hg c0 (fun e=>hne (by cases e;rfl)),Zn hg c1 (fun e=>hne (by cases e;rfl)),Zn hg c2 (fun e=>hne (by cases e;rfl)),hm9 _ _ hm⟩
theorem Yr.box {w w':World} {a:Option Addr} {n c X T:Nat} {es:List E3} {cs:List Value} (h:Yr w a n c es) (hX:YV a n X) (hB:Blk w X T cs) (hn:T6 cs) (hg:w.grownBy w' (some X)):Yr w' a n c es:=h.box9 hX hg (fun _ _ h9=>h9.box hB hn hg)
theorem Yr.box0 {w w':World} {a:Option Addr} {n c X T:Nat} {es:List E3} {v:Value} {cs:List Value} (h:Yr w a n c es) (hX:YV a n X) (hB:Blk w X T (v::cs)) (hv:∀ k z,v≠.int k z) (hn:Ng (v::cs)) (hg:w.grownBy w' (some X)):Yr w' a n c es:=h.box9 hX hg (fun _ _ h9=>h9.box0 hB hv hn hg)
theorem Ym {w:World} {a:Option Addr} {n c X:Nat} {es:List E3} (h:Yr w a n c es) (hX:w.heap.size≤X):YV a n X:=GJ h.ents hX
theorem YM.zero9 (w:World):YM w ((none,0,0),(none,0,0)) e3d:=(YL.zero9 w).z (fun b o sp h=>by cases h)
theorem Jb {w:World} {B e sz n:Nat} {v:Value} {xs:List Value} {a:Option Addr} {c:Nat} (h:w.ownsRow B e sz (.slice a n c) n xs):∀ b o sp,a=some ⟨b,o,sp⟩→o=0:=by
 intro b o sp ha
 rcases h.2 with ⟨h1,_⟩ | ⟨g,cap,cur,h1,_⟩
 ·injection h1 with h3
  rw [ha] at h3
  cases h3
 injection h1 with h3
 rw [ha] at h3
 injection h3 with h4
 injection h4 with _ h5
theorem Y0.memZ {w:World} {B:Nat} {s:Sl2} {e:E3} (h:Y0 w B (.slice s.1.1 s.1.2.1 s.1.2.2) (.slice s.2.1 s.2.2.1 s.2.2.2) e) (hf:e.fits):YM w s e:=by
 refine (Y0.mem h hf).z ?_
 obtain ⟨a,c,h1⟩:=ZH h.2
 injection h1 with h2 h3 h4
 have h5:=h.2
 rw [h3] at h5
 exact Jb (v:=.slice none 0 0) h5
theorem XC.entsZ {w:World} {a:Option Addr} {n c:Nat} {L:List EQ} (h:XC w a n c L) (h0:∀ x ∈ L,Kf x.2):Yr w a n c (L.map (·.1)):=by
 obtain ⟨h1,h2,h3,h4,h5⟩:=h
 refine ⟨by simpa using h1,h2,h3,?_⟩
 rcases h5 with h9 | ⟨b,off,ha,hlt,hc⟩
 ·exact .inl h9
 refine .inr ⟨b,off,ha,hlt,fun t ht=>?_⟩
 have hx:L[t]?=some L[t]:=List.getElem?_eq_getElem (by omega)
 rw [QT hx]
 refine ⟨L[t].2,?_,?_,?_,(h4 _ (List.getElem_mem _)).z (h0 _ (List.getElem_mem _))⟩
 ·exact hc _ _ (by have:=XK hx (j:=0) (by omega);rw [Nat.add_zero] at this;rw [this];rfl)
 ·rw [Nat.add_assoc];exact hc _ _ (by rw [XK hx (j:=1) (by omega)];rfl)
 rw [Nat.add_assoc];exact hc _ _ (by rw [XK hx (j:=2) (by omega)];rfl)
theorem Yr.q {w:World} {a:Option Addr} {n c:Nat} {es:List E3} (h:Yr w a n c es):∃ L:List EQ,L.map (·.1)=es∧XC w a n c L∧∀ x ∈ L,Kf x.2:=by
 obtain ⟨h1,h2,h3,h4⟩:=h
 rcases h4 with h0 | ⟨b,off,ha,hlt,hc⟩
 ·obtain rfl:es=[]:=List.eq_nil_of_length_eq_zero (h1.trans h0)
  exact ⟨[],rfl,⟨by simpa using h1,h2,h3,by simp,.inl h0⟩,by simp⟩
 obtain ⟨Y,hY⟩:=Go.Deep.choose_lt (α:=Sl2) (n:=n) hc
 have hat:∀ t,t<n→((List.range n).map fun i=>((es.getD i e3d,Y i):EQ))[t]?=some (es.getD t e3d,Y t):=fun t ht=>by simp [List.getElem?_map,List.getElem?_range ht]
 refine ⟨(List.range n).map fun i=>(es.getD i e3d,Y i),?_,⟨by simp,h2,h3,?_,.inr ⟨b,off,ha,hlt,fun j u hj=>?_⟩⟩,?_⟩
 ·apply List.ext_getElem?
  intro t
  by_cases ht:t<n
  ·rw [List.getElem?_map,hat t ht]
   simp [List.getD,List.getElem?_eq_getElem (show t<es.length by omega)]
  rw [List.getElem?_eq_none (by simp;omega),List.getElem?_eq_none (by omega)]
 ·intro x hx
  obtain ⟨i,hi,rfl⟩:=List.mem_map.1 hx
  exact (hY i (List.mem_range.1 hi)).2.2.2.emem
 ·obtain ⟨t,i,x,rfl,hi,hx,hu⟩:=UO hj
  have ht:t<n:=by
   have:=(List.getElem?_eq_some_iff.1 hx).1
   simpa using this
  rw [hat t ht] at hx
  cases hx
  obtain ⟨c0,c1,c2,_⟩:=hY t ht
  match i,hi with
  | 0,_=>simp [Yl] at hu;rw [← hu];exact c0
  | 1,_=>simp [Yl] at hu;rw [← hu,← Nat.add_assoc];exact c1
  | 2,_=>simp [Yl] at hu;rw [← hu,← Nat.add_assoc];exact c2
 intro x hx
 obtain ⟨i,hi,rfl⟩:=List.mem_map.1 hx
 exact (hY i (List.mem_range.1 hi)).2.2.2.1.2.2.2
def Gr (x:Ending) (w':World) (B:Nat) (es:List E3):Prop:=∃ a n c,x=.returned (.agg #[.slice a n c])∧Yr w' a n c es∧(a=none→c=0)∧∀ b o,a=some ⟨b,o,none⟩→B≤b
theorem NN (a:Option Addr) (n c:Nat) (es:List E3) (e:E3) (s:Sl2) (w:World) (h:Yr w a n c es) (hnil:a=none→c=0) (hok:UpR es) (hE:YM w s e) :
  Calls Tryz.prog 152 #[.agg #[.slice a n c],ZU e.1 s] w fun x w'=>Gr x w' w.heap.size (Wy es e)∧Below w.heap.size w w':=by
 obtain ⟨L,rfl,hQ,hZ⟩:=h.q
 refine (NO a n c L e s w hQ hnil hok hE.1.1).mono ?_
 rintro x w' ⟨⟨v,rfl,q⟩,hb⟩
 have q0:=q
 obtain ⟨va,vc,rfl⟩:=ZH q
 refine ⟨⟨va,_,vc,rfl,?_,?_,?_⟩,hb⟩
 ·rw [← Tw L e s]
  refine (XC.of_owns q (fun x hx=>?_)).entsZ (fun x hx=>?_)
  ·rcases Tx hx with h9 | h9
   ·exact (hQ.2.2.2.1 x h9).below hb
   rw [h9];exact hE.emem.below hb
  rcases Tx hx with h9 | h9
  ·exact hZ x h9
  rw [h9];exact hE.1.2.2.2
 ·intro hv
  rcases q0.2 with ⟨h1,_⟩ | ⟨g,cap,cur,h1,_⟩
  ·injection h1
  injection h1 with h3
  rw [hv] at h3
  cases h3
 intro b o hv
 rcases q0.2 with ⟨h1,_⟩ | ⟨g,cap,cur,h1,h2,_⟩
 ·injection h1 with h3
  rw [hv] at h3
  cases h3
 injection h1 with h3
 rw [hv] at h3
 injection h3 with h4
 injection h4 with h5
 rw [h5]
 exact h2


def XI (x:Ending) (w':World) (B:Nat) (a:Option Addr) (n c:Nat) (r:E3 × (List E3 × Nat) × Bool):Prop:=∃ (s:Sl2) (a':Option Addr) (n' c':Nat),x=.returned (.tuple #[ZU r.1.1 s,.agg #[.slice a' n' c'],.int .i64 (r.2.1.2:Int),.bool r.2.2])∧YM w' s r.1∧Yr w' a' n' c' r.2.1.1∧(a'=none→c'=0)∧((a'=a∧n'=n∧c'=c)∨∀ b o,a'=some ⟨b,o,none⟩→B≤b)
theorem XI.mk9 {w':World} {B n c n' c':Nat} {a a':Option Addr} {r:E3 × (List E3 × Nat) × Bool} (s:Sl2) (h:YM w' s r.1) (hA:Yr w' a' n' c' r.2.1.1) (hn:a'=none→c'=0) (ho:(a'=a∧n'=n∧c'=c)∨∀ b o,a'=some ⟨b,o,none⟩→B≤b):XI (.returned (.tuple #[ZU r.1.1 s,.agg #[.slice a' n' c'],.int .i64 (r.2.1.2:Int),.bool r.2.2])) w' B a n c r:=⟨s,a',n',c',rfl,h,hA,hn,ho⟩

theorem Nd {rows:List (List I3)} {cap:Nat} (m:V4) (es:List E3) (nd:Nat) (hI:isE es (ZC m)=true) (hs:Ze m=true) (hU:UpR es) (w:World) (a9:Option Addr) (s:S4) (a:Option Addr) (n c:Nat) (h:Yv w s m) (hA:Yr w a n c es) (hnil:a=none→c=0) :
  Calls Tryz.prog 100 #[.agg #[.slice a9 3 cap],s.val,.agg #[.slice a n c],.int .i64 (nd:Int)] w fun x w'=>XI x w' w.heap.size a n c (Vc es (ZC m),(es,nd),true)∧Below w.heap.size w w':=by
 obtain ⟨⟨t0a,t0n,t0c⟩,⟨t1a,t1n,t1c⟩,⟨t2a,t2n,t2c⟩,⟨t3a,t3n,t3c⟩⟩:=s
 have ut:S4.val ((t0a,t0n,t0c),(t1a,t1n,t1c),(t2a,t2n,t2c),(t3a,t3n,t3c))=.agg #[.slice t0a t0n t0c,.slice t1a t1n t1c,.slice t2a t2n t2c,.slice t3a t3n t3c]:=rfl
 have hl:=hA.1
 have hn2:n≤2000:=by have:=hU.few;omega
 have kK:=fun (W:World) (b:Below w.heap.size w W)=>TQ ((t0a,t0n,t0c),(t1a,t1n,t1c),(t2a,t2n,t2c),(t3a,t3n,t3c)) m W (h.below b) hs
 have kP:=fun (W:World) (b:Below w.heap.size w W)=>Ww a n c es (ZC m) W (hA.below b).ents hU
 rw [ut] at kK ⊢
 have bw:Below w.heap.size w (((((w.alloc (.cells #[.slice a9 3 cap] 25)).alloc (.cells #[.slice t0a t0n t0c,.slice t1a t1n t1c,.slice t2a t2n t2c,.slice t3a t3n t3c] 74)).alloc (.cells #[.slice a n c] 47)).alloc (.cells #[.string ⟨#[]⟩,.slice none 0 0,.slice none 0 0] 109)).alloc (.cells #[.slice none 0 0] 47)):=by go_grown
 have pP:Blk (((((w.alloc (.cells #[.slice a9 3 cap] 25)).alloc (.cells #[.slice t0a t0n t0c,.slice t1a t1n t1c,.slice t2a t2n t2c,.slice t3a t3n t3c] 74)).alloc (.cells #[.slice a n c] 47)).alloc (.cells #[.string ⟨#[]⟩,.slice none 0 0,.slice none 0 0] 109)).alloc (.cells #[.slice none 0 0] 47)) (w.heap.size) 25 [.slice a9 3 cap]:=Zf _ (Zf _ (Zf _ (Zf _ (Zh _ _ _ rfl))))
 have pS:Blk (((((w.alloc (.cells #[.slice a9 3 cap] 25)).alloc (.cells #[.slice t0a t0n t0c,.slice t1a t1n t1c,.slice t2a t2n t2c,.slice t3a t3n t3c] 74)).alloc (.cells #[.slice a n c] 47)).alloc (.cells #[.string ⟨#[]⟩,.slice none 0 0,.slice none 0 0] 109)).alloc (.cells #[.slice none 0 0] 47)) (w.heap.size+1) 74 [.slice t0a t0n t0c,.slice t1a t1n t1c,.slice t2a t2n t2c,.slice t3a t3n t3c]:=Zf _ (Zf _ (Zf _ (Zh _ _ _ (by simp))))
 have pM:Blk (((((w.alloc (.cells #[.slice a9 3 cap] 25)).alloc (.cells #[.slice t0a t0n t0c,.slice t1a t1n t1c,.slice t2a t2n t2c,.slice t3a t3n t3c] 74)).alloc (.cells #[.slice a n c] 47)).alloc (.cells #[.string ⟨#[]⟩,.slice none 0 0,.slice none 0 0] 109)).alloc (.cells #[.slice none 0 0] 47)) (w.heap.size+1+1) 47 [.slice a n c]:=Zf _ (Zf _ (Zh _ _ _ (by simp)))
 have pE:Blk (((((w.alloc (.cells #[.slice a9 3 cap] 25)).alloc (.cells #[.slice t0a t0n t0c,.slice t1a t1n t1c,.slice t2a t2n t2c,.slice t3a t3n t3c] 74)).alloc (.cells #[.slice a n c] 47)).alloc (.cells #[.string ⟨#[]⟩,.slice none 0 0,.slice none 0 0] 109)).alloc (.cells #[.slice none 0 0] 47)) (w.heap.size+1+1+1) 109 [.string ⟨#[]⟩,.slice none 0 0,.slice none 0 0]:=Zf _ (Zh _ _ _ (by simp))
 have pR:Blk (((((w.alloc (.cells #[.slice a9 3 cap] 25)).alloc (.cells #[.slice t0a t0n t0c,.slice t1a t1n t1c,.slice t2a t2n t2c,.slice t3a t3n t3c] 74)).alloc (.cells #[.slice a n c] 47)).alloc (.cells #[.string ⟨#[]⟩,.slice none 0 0,.slice none 0 0] 109)).alloc (.cells #[.slice none 0 0] 47)) (w.heap.size+1+1+1+1) 47 [.slice none 0 0]:=Zh _ _ _ (by simp)
 have hszU:w.heap.size+5≤(((((w.alloc (.cells #[.slice a9 3 cap] 25)).alloc (.cells #[.slice t0a t0n t0c,.slice t1a t1n t1c,.slice t2a t2n t2c,.slice t3a t3n t3c] 74)).alloc (.cells #[.slice a n c] 47)).alloc (.cells #[.string ⟨#[]⟩,.slice none 0 0,.slice none 0 0] 109)).alloc (.cells #[.slice none 0 0] 47)).heap.size:=by simp
 have hpl:Yn es (ZC m)<n:=by
  simp only [isE,Bool.and_eq_true,decide_eq_true_eq] at hI
  omega
 have hfe:Vc es (ZC m)=es.getD (Yn es (ZC m)) e3d:=by unfold Vc;rw [if_pos hI]
 rw [hI] at kP
 rw [hfe]
 rcases hA.2.2.2 with e0 | ⟨b,off,rfl,hblt,hcell⟩
 ·omega
 obtain ⟨s9,c0,c1,c2,hm9⟩:=hcell (Yn es (ZC m)) hpl
 have of8:YV (some ⟨b,off,none⟩) n (w.heap.size+1+1+1):=Ym hA (by omega)
 have of9:YV (some ⟨b,off,none⟩) n (w.heap.size+1+1+1+1):=Ym hA (by omega)
 clear hcell hfe hI
 generalize Yn es (ZC m)=p at *
 generalize es.getD p e3d=ee at *
 generalize ZC m=key at *
 obtain ⟨ek,eb,ez⟩:=ee
 obtain ⟨⟨s1a,s1n,s1c⟩,⟨s2a,s2n,s2c⟩⟩:=s9
 simp only at c0 c1 c2
 have hp0:(0:Int)≤(p:Int):=by omega
 have hpn:(p:Int)<(n:Int):=by omega
 go_enter Tryz.func100,Tryz.ntmps100
 go_wp2_with fail
 generalize (((((w.alloc (.cells #[.slice a9 3 cap] 25)).alloc (.cells #[.slice t0a t0n t0c,.slice t1a t1n t1c,.slice t2a t2n t2c,.slice t3a t3n t3c] 74)).alloc (.cells #[.slice (some ⟨b,off,none⟩) n c] 47)).alloc (.cells #[.string ⟨#[]⟩,.slice none 0 0,.slice none 0 0] 109)).alloc (.cells #[.slice none 0 0] 47))=U0 at *
 go_wp2_with (refine Zc rfl 74 _ rfl (w.heap.size+1) rfl pS _ Tryz.underlying74 rfl (by kernel_rfl) ?_)
 refine (kK _ bw).mono ?_
 rintro x w1 ⟨rfl,hb⟩
 replace bw:=Zm bw hb
 replace pP:=pP.below hb
 replace pS:=pS.below hb
 replace pM:=pM.below hb
 replace pE:=pE.below hb
 replace pR:=pR.below hb
 clear hb kK
 go_wp2_with (refine Zc rfl 47 _ rfl (w.heap.size+1+1) rfl pM _ Tryz.underlying47 rfl (by kernel_rfl) ?_)
 refine (kP _ bw).mono ?_
 rintro x w2 ⟨rfl,hb⟩
 replace bw:=Zm bw hb
 replace pP:=pP.below hb
 replace pS:=pS.below hb
 replace pM:=pM.below hb
 replace pE:=pE.below hb
 replace pR:=pR.below hb
 clear hb kP
 have hA9:=hA.below bw
 replace hm9:=hm9.below bw
 replace c0:=Za bw _ _ c0
 replace c1:=Za bw _ _ c1
 replace c2:=Za bw _ _ c2
 have g0:=pM.cell 0
 simp only [List.getElem?_cons_zero] at g0
 go_wp2_with fail
 refine wp_region_held_drew (S:=(fun w'=>w'.cell? ⟨w.heap.size+1+1,0,none⟩=some (.slice (some ⟨b,off,none⟩) n c)∧w'.cell? ⟨b,off+p*3,none⟩=some (.string ek)∧w'.cell? ⟨b,off+p*3+1,none⟩=some (.slice s1a s1n s1c)∧w'.cell? ⟨b,off+p*3+2,none⟩=some (.slice s2a s2n s2c))) (by kernel_rfl) ⟨g0,c0,c1,c2⟩ (fun hS0=>?_)
 refine tkv 0 33 (.pointer (some ⟨w.heap.size+1+1,0,none⟩)) ?_
 refine tkv 1 34 (.slice (some ⟨b,off,none⟩) n c) ?_
 refine tkv 2 35 (.int .i64 (p:Int)) ?_
 refine tkv 3 36 (.pointer (some ⟨b,off+p*3,none⟩)) ?_
 refine tkv 4 37 (.agg #[.string ek,.slice s1a s1n s1c,.slice s2a s2n s2c]) ?_
 refine tkv 5 38 (.agg #[.slice (some ⟨b,off,none⟩) n c]) ?_
 refine tkv 6 39 (.int .i64 (nd:Int)) ?_
 have bd:Below w2.heap.size w2 w2.drew:=by go_grown
 replace bw:=Zm bw bd
 replace pE:=pE.below bd
 replace pR:=pR.below bd
 replace hm9:=hm9.below bd
 replace hA9:=hA9.below bd
 clear bd
 generalize w2.drew=V1 at *
 refine tkz 7 (fun K hK=>?_)
 refine Zl rfl 109 _ _ rfl (w.heap.size+1+1+1) [.string ek,.slice s1a s1n s1c,.slice s2a s2n s2c] rfl rfl pE (by kernel_rfl) rfl rfl ?_
 intro V2 q8 g8
 refine hK.out _ _ ⟨Zn g8 hS0.1 (fun e=>by injection e with e9;dsimp only at e9;omega),Zn g8 hS0.2.1 (fun e=>by injection e with e9;dsimp only at e9;omega),Zn g8 hS0.2.2.1 (fun e=>by injection e with e9;dsimp only at e9;omega),Zn g8 hS0.2.2.2 (fun e=>by injection e with e9;dsimp only at e9;omega)⟩ (fun hS1=>?_)
 clear hK
 try simp only [Act.put,tka,tkb,tkc]
 replace bw:=bw.grown g8 bw.size (fun k hk=>by cases hk;omega)
 replace hm9:=hm9.box pE (Ye ⟨#[]⟩ ((none,0,0),(none,0,0))) g8
 replace hA9:=hA9.box of8 pE (Ye ⟨#[]⟩ ((none,0,0),(none,0,0))) g8
 replace pR:=pR.kept g8 (by simp)
 replace pE:=q8.out
 clear q8 g8
 refine tkz 8 (fun K hK=>?_)
 refine Zl rfl 47 _ _ rfl (w.heap.size+1+1+1+1) [.slice (some ⟨b,off,none⟩) n c] rfl rfl pR (by kernel_rfl) rfl rfl ?_
 intro V3 q9 g9
 refine hK.out _ _ ⟨Zn g9 hS1.1 (fun e=>by injection e with e9;dsimp only at e9;omega),Zn g9 hS1.2.1 (fun e=>by injection e with e9;dsimp only at e9;omega),Zn g9 hS1.2.2.1 (fun e=>by injection e with e9;dsimp only at e9;omega),Zn g9 hS1.2.2.2 (fun e=>by injection e with e9;dsimp only at e9;omega)⟩ (fun hS2=>?_)
 clear hK
 try simp only [Act.put,tka,tkb,tkc]
 replace bw:=bw.grown g9 (Nat.le_trans (by omega) bw.size) (fun k hk=>by cases hk;omega)
 replace hm9:=hm9.box pR (Yy _ (by intro k z e;cases e)) g9
 replace hA9:=hA9.box of9 pR (Yy _ (by intro k z e;cases e)) g9
 replace pE:=pE.kept g9 (by simp)
 replace pR:=q9.out
 clear q9 g9
 refine tkv 9 10 (.int .i64 (nd:Int)) ?_
 refine tkv 10 11 (.bool true) ?_
 refine wpAnyH_done (by kernel_rfl) ?_ _
 clear hS0 hS1 hS2
 have z0:=pE.cell 0
 have z1:=pE.cell 1
 have z2:=pE.cell 2
 have z3:=pR.cell 0
 simp only [List.getElem?_cons_zero,List.getElem?_cons_succ] at z0 z1 z2 z3
 go_wp2
 refine bodyPost_ret (by simp [results,Tryz.results100,go_sem,z0,z1,z2,z3];try rfl) rfl ?_
 exact ⟨XI.mk9 (r:=((ek,eb,ez),(es,nd),true)) ((s1a,s1n,s1c),(s2a,s2n,s2c)) hm9 hA9 hnil (.inl ⟨rfl,rfl,rfl⟩),bw⟩
theorem Mz {rows:List (List I3)} {cap:Nat} (m:V4) (es:List E3) (nd:Nat) (hI:isE es (ZC m)=false) (hs:Ze m=true) (hU:UpR es) (w:World) (a9:Option Addr) (s:S4) (a:Option Addr) (n c:Nat) (h:Yv w s m) (hA:Yr w a n c es) (hnil:a=none→c=0) (h0:es.length=2000) :
  Calls Tryz.prog 100 #[.agg #[.slice a9 3 cap],s.val,.agg #[.slice a n c],.int .i64 (nd:Int)] w fun x w'=>XI x w' w.heap.size a n c (e3d,(es,nd),false)∧Below w.heap.size w w':=by
 obtain ⟨⟨t0a,t0n,t0c⟩,⟨t1a,t1n,t1c⟩,⟨t2a,t2n,t2c⟩,⟨t3a,t3n,t3c⟩⟩:=s
 have ut:S4.val ((t0a,t0n,t0c),(t1a,t1n,t1c),(t2a,t2n,t2c),(t3a,t3n,t3c))=.agg #[.slice t0a t0n t0c,.slice t1a t1n t1c,.slice t2a t2n t2c,.slice t3a t3n t3c]:=rfl
 have hl:=hA.1
 have hn2:n≤2000:=by have:=hU.few;omega
 have kK:=fun (W:World) (b:Below w.heap.size w W)=>TQ ((t0a,t0n,t0c),(t1a,t1n,t1c),(t2a,t2n,t2c),(t3a,t3n,t3c)) m W (h.below b) hs
 have kP:=fun (W:World) (b:Below w.heap.size w W)=>Ww a n c es (ZC m) W (hA.below b).ents hU
 rw [ut] at kK ⊢
 have bw:Below w.heap.size w (((((w.alloc (.cells #[.slice a9 3 cap] 25)).alloc (.cells #[.slice t0a t0n t0c,.slice t1a t1n t1c,.slice t2a t2n t2c,.slice t3a t3n t3c] 74)).alloc (.cells #[.slice a n c] 47)).alloc (.cells #[.string ⟨#[]⟩,.slice none 0 0,.slice none 0 0] 109)).alloc (.cells #[.slice none 0 0] 47)):=by go_grown
 have pP:Blk (((((w.alloc (.cells #[.slice a9 3 cap] 25)).alloc (.cells #[.slice t0a t0n t0c,.slice t1a t1n t1c,.slice t2a t2n t2c,.slice t3a t3n t3c] 74)).alloc (.cells #[.slice a n c] 47)).alloc (.cells #[.string ⟨#[]⟩,.slice none 0 0,.slice none 0 0] 109)).alloc (.cells #[.slice none 0 0] 47)) (w.heap.size) 25 [.slice a9 3 cap]:=Zf _ (Zf _ (Zf _ (Zf _ (Zh _ _ _ rfl))))
 have pS:Blk (((((w.alloc (.cells #[.slice a9 3 cap] 25)).alloc (.cells #[.slice t0a t0n t0c,.slice t1a t1n t1c,.slice t2a t2n t2c,.slice t3a t3n t3c] 74)).alloc (.cells #[.slice a n c] 47)).alloc (.cells #[.string ⟨#[]⟩,.slice none 0 0,.slice none 0 0] 109)).alloc (.cells #[.slice none 0 0] 47)) (w.heap.size+1) 74 [.slice t0a t0n t0c,.slice t1a t1n t1c,.slice t2a t2n t2c,.slice t3a t3n t3c]:=Zf _ (Zf _ (Zf _ (Zh _ _ _ (by simp))))
 have pM:Blk (((((w.alloc (.cells #[.slice a9 3 cap] 25)).alloc (.cells #[.slice t0a t0n t0c,.slice t1a t1n t1c,.slice t2a t2n t2c,.slice t3a t3n t3c] 74)).alloc (.cells #[.slice a n c] 47)).alloc (.cells #[.string ⟨#[]⟩,.slice none 0 0,.slice none 0 0] 109)).alloc (.cells #[.slice none 0 0] 47)) (w.heap.size+1+1) 47 [.slice a n c]:=Zf _ (Zf _ (Zh _ _ _ (by simp)))
 have pE:Blk (((((w.alloc (.cells #[.slice a9 3 cap] 25)).alloc (.cells #[.slice t0a t0n t0c,.slice t1a t1n t1c,.slice t2a t2n t2c,.slice t3a t3n t3c] 74)).alloc (.cells #[.slice a n c] 47)).alloc (.cells #[.string ⟨#[]⟩,.slice none 0 0,.slice none 0 0] 109)).alloc (.cells #[.slice none 0 0] 47)) (w.heap.size+1+1+1) 109 [.string ⟨#[]⟩,.slice none 0 0,.slice none 0 0]:=Zf _ (Zh _ _ _ (by simp))
 have pR:Blk (((((w.alloc (.cells #[.slice a9 3 cap] 25)).alloc (.cells #[.slice t0a t0n t0c,.slice t1a t1n t1c,.slice t2a t2n t2c,.slice t3a t3n t3c] 74)).alloc (.cells #[.slice a n c] 47)).alloc (.cells #[.string ⟨#[]⟩,.slice none 0 0,.slice none 0 0] 109)).alloc (.cells #[.slice none 0 0] 47)) (w.heap.size+1+1+1+1) 47 [.slice none 0 0]:=Zh _ _ _ (by simp)
 have hszU:w.heap.size+5≤(((((w.alloc (.cells #[.slice a9 3 cap] 25)).alloc (.cells #[.slice t0a t0n t0c,.slice t1a t1n t1c,.slice t2a t2n t2c,.slice t3a t3n t3c] 74)).alloc (.cells #[.slice a n c] 47)).alloc (.cells #[.string ⟨#[]⟩,.slice none 0 0,.slice none 0 0] 109)).alloc (.cells #[.slice none 0 0] 47)).heap.size:=by simp
 rw [hI] at kP
 obtain rfl:n=2000:=by omega
 have of8:YV a 2000 (w.heap.size+1+1+1):=Ym hA (by omega)
 have of9:YV a 2000 (w.heap.size+1+1+1+1):=Ym hA (by omega)
 clear hI
 generalize Yn es (ZC m)=p at *
 generalize ZC m=key at *
 go_enter Tryz.func100,Tryz.ntmps100
 go_wp2_with fail
 generalize (((((w.alloc (.cells #[.slice a9 3 cap] 25)).alloc (.cells #[.slice t0a t0n t0c,.slice t1a t1n t1c,.slice t2a t2n t2c,.slice t3a t3n t3c] 74)).alloc (.cells #[.slice a 2000 c] 47)).alloc (.cells #[.string ⟨#[]⟩,.slice none 0 0,.slice none 0 0] 109)).alloc (.cells #[.slice none 0 0] 47))=U0 at *
 go_wp2_with (refine Zc rfl 74 _ rfl (w.heap.size+1) rfl pS _ Tryz.underlying74 rfl (by kernel_rfl) ?_)
 refine (kK _ bw).mono ?_
 rintro x w1 ⟨rfl,hb⟩
 replace bw:=Zm bw hb
 replace pP:=pP.below hb
 replace pS:=pS.below hb
 replace pM:=pM.below hb
 replace pE:=pE.below hb
 replace pR:=pR.below hb
 clear hb kK
 go_wp2_with (refine Zc rfl 47 _ rfl (w.heap.size+1+1) rfl pM _ Tryz.underlying47 rfl (by kernel_rfl) ?_)
 refine (kP _ bw).mono ?_
 rintro x w2 ⟨rfl,hb⟩
 replace bw:=Zm bw hb
 replace pP:=pP.below hb
 replace pS:=pS.below hb
 replace pM:=pM.below hb
 replace pE:=pE.below hb
 replace pR:=pR.below hb
 clear hb kP
 have hA9:=hA.below bw
 have g0:=pM.cell 0
 simp only [List.getElem?_cons_zero] at g0
 go_wp2_with fail
 refine wp_region_held_drew (S:=(fun w'=>w'.cell? ⟨w.heap.size+1+1,0,none⟩=some (.slice a 2000 c))) (by kernel_rfl) g0 (fun hS0=>?_)
 refine tkv 0 44 (.agg #[.string ⟨#[]⟩,.slice none 0 0,.slice none 0 0]) ?_
 refine tkv 1 45 (.agg #[.slice a 2000 c]) ?_
 refine tkv 2 46 (.int .i64 (nd:Int)) ?_
 have bd:Below w2.heap.size w2 w2.drew:=by go_grown
 replace bw:=Zm bw bd
 replace pE:=pE.below bd
 replace pR:=pR.below bd
 replace hA9:=hA9.below bd
 clear bd
 generalize w2.drew=V1 at *
 refine tkz 3 (fun K hK=>?_)
 refine Zl rfl 109 _ _ rfl (w.heap.size+1+1+1) [.string ⟨#[]⟩,.slice none 0 0,.slice none 0 0] rfl rfl pE (by kernel_rfl) rfl rfl ?_
 intro V2 q8 g8
 refine hK.out _ _ (Zn g8 hS0 (fun e=>by injection e with e9;dsimp only at e9;omega)) (fun hS1=>?_)
 clear hK
 try simp only [Act.put,tka,tkb,tkc]
 replace bw:=bw.grown g8 bw.size (fun k hk=>by cases hk;omega)
 replace hA9:=hA9.box of8 pE (Ye ⟨#[]⟩ ((none,0,0),(none,0,0))) g8
 replace pR:=pR.kept g8 (by simp)
 replace pE:=q8.out
 clear q8 g8
 refine tkz 4 (fun K hK=>?_)
 refine Zl rfl 47 _ _ rfl (w.heap.size+1+1+1+1) [.slice a 2000 c] rfl rfl pR (by kernel_rfl) rfl rfl ?_
 intro V3 q9 g9
 refine hK.out _ _ (Zn g9 hS1 (fun e=>by injection e with e9;dsimp only at e9;omega)) (fun hS2=>?_)
 clear hK
 try simp only [Act.put,tka,tkb,tkc]
 replace bw:=bw.grown g9 (Nat.le_trans (by omega) bw.size) (fun k hk=>by cases hk;omega)
 replace hA9:=hA9.box of9 pR (Yy _ (by intro k z e;cases e)) g9
 replace pE:=pE.kept g9 (by simp)
 replace pR:=q9.out
 clear q9 g9
 refine tkv 5 10 (.int .i64 (nd:Int)) ?_
 refine tkv 6 11 (.bool false) ?_
 refine wpAnyH_done (by kernel_rfl) ?_ _
 clear hS0 hS1 hS2
 have z0:=pE.cell 0
 have z1:=pE.cell 1
 have z2:=pE.cell 2
 have z3:=pR.cell 0
 simp only [List.getElem?_cons_zero,List.getElem?_cons_succ] at z0 z1 z2 z3
 go_wp2
 refine bodyPost_ret (by simp [results,Tryz.results100,go_sem,z0,z1,z2,z3];try rfl) rfl ?_
 exact ⟨XI.mk9 (r:=(e3d,(es,nd),false)) ((none,0,0),(none,0,0)) (YM.zero9 _) hA9 hnil (.inl ⟨rfl,rfl,rfl⟩),bw⟩
end Go.Proofs.YtmhlokahmblboaaGreatDoor
