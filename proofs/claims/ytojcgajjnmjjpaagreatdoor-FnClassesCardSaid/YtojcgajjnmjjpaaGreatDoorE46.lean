/-
  Joined: RwI, ClsL, PutI.
-/
import Derived.Test.YtojcgajjnmjjpaaGreatDoorE42
import Derived.Test.YtojcgajjnmjjpaaGreatDoorE43

namespace Go.Proofs.YtojcgajjnmjjpaaGreatDoor
set_option maxRecDepth 100000
set_option maxHeartbeats 16000000
open Go.RowKit
set_option linter.unusedVariables false
set_option linter.unusedSimpArgs false

def IsL (w:World) (v:Value) (xs:List Int):Prop:=∃ la ln lc,v=.slice la ln lc∧YV .i64 w la ln lc xs
theorem IsL.below {w w':World} {v:Value} {xs:List Int} (h:IsL w v xs) (hb:Below w.heap.size w w'):IsL w' v xs:=by
 obtain ⟨la,ln,lc,rfl,hi⟩:=h
 exact ⟨la,ln,lc,rfl,hi.below hb⟩
def Pp (w:World) (vs:List Value) (xss:List (List Int)):Prop:=vs.length=xss.length∧∀ t,t<xss.length→IsL w (vs.getD t undef) (xss.getD t [])
theorem Pp.below {w w':World} {vs:List Value} {xss:List (List Int)} (h:Pp w vs xss) (hb:Below w.heap.size w w'):Pp w' vs xss:=⟨h.1,fun t ht=>(h.2 t ht).below hb⟩
theorem Pp.snoc {w:World} {vs:List Value} {xss:List (List Int)} {v:Value} {xs:List Int} (h:Pp w vs xss) (hv:IsL w v xs):Pp w (vs++[v]) (xss++[xs]):=by
 refine ⟨by simp [h.1],fun t ht=>?_⟩
 by_cases h9:t<xss.length
 ·have e1:(vs++[v]).getD t undef=vs.getD t undef:=by simp [List.getD,List.getElem?_append_left (show t<vs.length by have:=h.1;omega)]
  have e2:(xss++[xs]).getD t []=xss.getD t []:=by simp [List.getD,List.getElem?_append_left h9]
  rw [e1,e2]
  exact h.2 t h9
 have e9:t=xss.length:=by simp at ht;omega
 subst e9
 have e1:(vs++[v]).getD xss.length undef=v:=by rw [← h.1];simp [List.getD]
 have e2:(xss++[xs]).getD xss.length []=xs:=by simp [List.getD]
 rw [e1,e2]
 exact hv
def Wr (w:World) (a:Option Addr) (n c:Nat) (xss:List (List Int)):Prop:=
 xss.length=n∧n≤c∧c≤maxLen∧∃ vs,Pp w vs xss∧(n=0∨∃ b off,a=some ⟨b,off,none⟩∧b<w.heap.size∧∀ t,t<n→w.cell? ⟨b,off+t,none⟩=some (vs.getD t undef))
theorem Wr.below {w w':World} {a:Option Addr} {n c:Nat} {xss:List (List Int)} (h:Wr w a n c xss) (hb:Below w.heap.size w w'):Wr w' a n c xss:=by
 obtain ⟨h1,h2,h3,vs,h4,h5⟩:=h
 refine ⟨h1,h2,h3,vs,h4.below hb,?_⟩
 rcases h5 with h5 | ⟨b,off,h6,h7,h8⟩
 ·exact .inl h5
 exact .inr ⟨b,off,h6,Nat.lt_of_lt_of_le h7 hb.size,fun t ht=>by rw [hb.cell (p:=⟨b,off+t,none⟩) h7];exact h8 t ht⟩
theorem Wr.cell {w:World} {a:Option Addr} {n c:Nat} {xss:List (List Int)} (h:Wr w a n c xss) {t:Nat} (ht:t<n):∃ b off la ln lc,a=some ⟨b,off,none⟩∧w.cell? ⟨b,off+t,none⟩=some (.slice la ln lc)∧YV .i64 w la ln lc (xss.getD t []):=by
 obtain ⟨h1,h2,h3,vs,h4,h5⟩:=h
 rcases h5 with h5 | ⟨b,off,h6,h7,h8⟩
 ·omega
 obtain ⟨la,ln,lc,e,hi⟩:=h4.2 t (by omega)
 exact ⟨b,off,la,ln,lc,h6,by rw [h8 t ht,e],hi⟩
theorem Wr.own {w:World} {B n c:Nat} {a:Option Addr} {vs:List Value} {xss:List (List Int)} (h:w.ownsRow B 35 1 (.slice a n c) n vs) (hl:xss.length=n) (hA:Pp w vs xss):Wr w a n c xss:=by
 rcases h.2 with ⟨e,h0⟩ | ⟨b,cc,cur,e,h1,h2,h3,h4⟩
 ·cases e
  exact ⟨by omega,by omega,by unfold maxLen;omega,vs,hA,.inl (by omega)⟩
 cases e
 refine ⟨hl,by omega,by omega,vs,hA,.inr ⟨b,0,rfl,(h.lt b rfl).2,fun t ht=>?_⟩⟩
 rw [Nat.zero_add,h.cellAt t (by omega)]
 have hq:=hA.1
 simp [List.getD,show t<vs.length by omega]


theorem MI:(Tryz.prog.info? 35).map (fun i=>(i.zero,i.size,i.bytes))=some (some (.slice none 0 0),1,24):=by kernel_rfl
def JA (e:Ending) (w:World) (r:List (List Int) × Bool):Prop:=∃ rb ro rn rc,e=.returned (.tuple #[.slice (some ⟨rb,ro,none⟩) rn rc,.bool r.2])∧Wr w (some ⟨rb,ro,none⟩) rn rc r.1
theorem Wr.news {w:World} {b off n c:Nat} {xss:List (List Int)} (h:Wr w (some ⟨b,off,none⟩) n c xss):∃ vs,Pp w vs xss∧vs.length=n∧(∀ j u,vs[j]?=some u→w.cell? ((⟨b,off,none⟩:Addr).add j)=some u)∧∀ u ∈ vs,u.oneCell'=true:=by
 obtain ⟨h1,h2,h3,vs,h4,h5⟩:=h
 have hv:=h4.1
 refine ⟨vs,h4,by omega,fun j u hj=>?_,fun u hu=>?_⟩
 ·have hl:=(List.getElem?_eq_some_iff.1 hj).1
  rcases h5 with h5 | ⟨b',off',h6,h7,h8⟩
  ·omega
  cases h6
  have h9:=h8 j (by omega)
  have e9:vs.getD j undef=u:=by simp [List.getD,hj]
  rw [e9] at h9
  by_cases e0:j=0
  ·subst e0;simpa [Addr.add] using h9
  simpa [Addr.add,e0] using h9
 obtain ⟨j,hj,rfl⟩:=List.getElem_of_mem hu
 obtain ⟨la,ln,lc,e,_⟩:=h4.2 j (by omega)
 have e9:vs.getD j undef=vs[j]:=by simp [List.getD,hj]
 rw [← e9,e]
 rfl

theorem Pw {rows:List (List I3)} {cap:Nat} (hp:Zn rows=true) {m:V4} {ls:List Int} {out:List (List Int)} (hs:Zk m=true) (hz:(ZH rows Zl [] ls).2.2=0) (hll:ls.length≤60) (ho:out.length≤300) (hEm:Zj rows m 3=[]) (w:World) (a9:Option Addr) (cs:Sl × Sl × Sl) (s:S4) (la:Option Addr) (lc ob oo oc:Nat) (hR:Z7 w a9 cs rows) (h:Yl w s m) (hL:YV .i64 w la ls.length lc ls) (hO:Wr w (some ⟨ob,oo,none⟩) out.length oc out) :
  Calls Tryz.prog 39 #[.agg #[.slice a9 3 cap],s.val,.slice la ls.length lc,.slice (some ⟨ob,oo,none⟩) out.length oc] w fun e w'=>JA e w' (X2 (out,true) (nfG rows ls))∧Below w.heap.size w w':=by
 obtain ⟨⟨t0a,t0n,t0c⟩,⟨t1a,t1n,t1c⟩,⟨t2a,t2n,t2c⟩,⟨t3a,t3n,t3c⟩⟩:=s
 have ut:S4.val ((t0a,t0n,t0c),(t1a,t1n,t1c),(t2a,t2n,t2c),(t3a,t3n,t3c))=.agg #[.slice t0a t0n t0c,.slice t1a t1n t1c,.slice t2a t2n t2c,.slice t3a t3n t3c]:=rfl
 have kE:=fun (W:World) (b:Below w.heap.size w W)=>XA a9 3 cap rows ((t0a,t0n,t0c),(t1a,t1n,t1c),(t2a,t2n,t2c),(t3a,t3n,t3c)) m cs W rfl (hR.below b) (h.below b) hp hs
 rw [ut,hEm] at kE
 rw [ut]
 obtain ⟨i1,hi1,hy0,hy1,hy2⟩:=info_parts MI
 have kV:=fun (W:World) (b:Below w.heap.size w W)=>PP (cap:=cap) (hR.below b) hp (hL.below b) (by omega)
 rw [hz,if_pos rfl] at kV
 have h3:=WN ls Zl [] hz
 have HEL:Hid ((YN rows Zl ls).length=ls.length):=RF rows ls Zl
 have kN:=fun (W:World) (ea:Option Addr) (n ec:Nat) (hn:n≤4096) (hEv:Evs W ea n (YN rows Zl ls))=>PQ ea n ec (YN rows Zl ls) W hEv hn h3
 have hfn:nfG rows ls=Uf (YN rows Zl ls):=rfl
 rw [hfn]
 generalize Uf (YN rows Zl ls)=fm at *
 generalize YN rows Zl ls=es at *
 clear hfn h3 hz hs hEm ut h hR hp
 have bw:Below w.heap.size w ((w.alloc (.cells #[.slice a9 3 cap] 25)).alloc (.cells #[.slice t0a t0n t0c,.slice t1a t1n t1c,.slice t2a t2n t2c,.slice t3a t3n t3c] 37)):=by go_grown
 have pP:Blk ((w.alloc (.cells #[.slice a9 3 cap] 25)).alloc (.cells #[.slice t0a t0n t0c,.slice t1a t1n t1c,.slice t2a t2n t2c,.slice t3a t3n t3c] 37)) w.heap.size 25 [.slice a9 3 cap]:=Zu _ (Zp _ _ _ rfl)
 have pS:Blk ((w.alloc (.cells #[.slice a9 3 cap] 25)).alloc (.cells #[.slice t0a t0n t0c,.slice t1a t1n t1c,.slice t2a t2n t2c,.slice t3a t3n t3c] 37)) (w.heap.size+1) 37 [.slice t0a t0n t0c,.slice t1a t1n t1c,.slice t2a t2n t2c,.slice t3a t3n t3c]:=Zp _ _ _ (by simp)
 have kEx:=kE ((w.alloc (.cells #[.slice a9 3 cap] 25)).alloc (.cells #[.slice t0a t0n t0c,.slice t1a t1n t1c,.slice t2a t2n t2c,.slice t3a t3n t3c] 37)) bw
 go_enter Tryz.func39,Tryz.ntmps39
 go_wp2_with (first | refine Zc rfl 25 _ rfl w.heap.size rfl pP _ Tryz.underlying25 rfl (by kernel_rfl) ?_ | refine Zc rfl 37 _ rfl (w.heap.size+1) rfl pS _ Tryz.underlying37 rfl (by kernel_rfl) ?_)
 generalize ((w.alloc (.cells #[.slice a9 3 cap] 25)).alloc (.cells #[.slice t0a t0n t0c,.slice t1a t1n t1c,.slice t2a t2n t2c,.slice t3a t3n t3c] 37))=w1 at *
 refine kEx.mono ?_
 rintro e w2 ⟨⟨⟨ea,en,ec⟩,rfl,hE⟩,hb⟩
 have hLn:en=0:=by have:=hE.1;simp at this;omega
 subst hLn
 replace pP:=pP.below hb
 replace bw:=Zb bw hb
 clear hb kEx kE hE pS
 have kVx:=kV w2 bw
 go_wp2_with (first | refine Zc rfl 25 _ rfl w.heap.size rfl pP _ Tryz.underlying25 rfl (by kernel_rfl) ?_)
 refine kVx.mono ?_
 rintro e w3 ⟨⟨v,rfl,q⟩,hb⟩
 obtain ⟨va,vc,rfl,hEv⟩:=Uv q
 replace bw:=Zb bw hb
 have kNx:=kN w3 va es.length vc (by rw [HEL.out];omega) hEv
 clear hb kVx kV kN q hEv pP
 go_wp2_with fail
 refine kNx.mono ?_
 rintro e w4 ⟨⟨v,rfl,q⟩,hb⟩
 obtain ⟨fa,fc,rfl,hF⟩:=KV q
 replace bw:=Zb bw hb
 replace hO:=hO.below bw
 clear hb kNx q hL HEL
 have HX:Hid (∀ j,j<0→out.getD j []≠fm):=fun j hj=>absurd hj (Nat.not_lt_zero _)
 go_wp2_with fail
 go_loopw [14] (fun si wz=>∃ t:Nat,t≤out.length∧si=.int .i64 t∧Hid (∀ j,j<t→out.getD j []≠fm)∧Below w4.heap.size w4 wz) (fun si _=>out.length - (Go.RowKit.intOf si).toNat)
 case atStart=>exact ⟨0,by omega,rfl,HX,Below.refl _ _⟩
 case round =>
  clear HX
  obtain ⟨t,ht,rfl,HX,bz⟩:=hrel
  by_cases hlt:t<out.length
  ·obtain ⟨ob',oo',ra,rn,rc,e9,c0,hI⟩:=(hO.below bz).cell hlt
   cases e9
   have hlt':(t:Int)<(out.length:Int):=by omega
   have ht0:(0:Int)≤(t:Int):=by omega
   have kS:=MM ra rn rc (out.getD t []) fa fm.length fc fm wr hI (hF.below bz)
   by_cases hq:out.getD t []=fm
   ·have HA:Hid (X2 (out,true) fm=(out,true)):=by
     have hm:fm ∈ out:=by
      rw [← hq]
      simp only [List.getD,List.getElem?_eq_getElem hlt,Option.getD_some]
      exact List.getElem_mem hlt
     rw [Hid];simp [X2,hm]
    rw [decide_eq_true hq] at kS
    have hO9:=hO.below bz
    clear hq hI
    go_wp2_with fail
    refine kS.mono ?_
    rintro e z1 ⟨rfl,d,rfl⟩
    have bb:Below w.heap.size w (wr.drewN d):=below_drewN (Zb bw bz) d
    have hO8:=hO9.below (below_drewN (Below.refl wr.heap.size wr) d)
    clear kS hO hO9 hF bz bw c0
    generalize wr.drewN d=z1 at *
    go_wp2
    go_ret2
    rw [HA.out]
    exact ⟨⟨ob,oo,out.length,oc,rfl,hO8⟩,bb⟩
   rw [decide_eq_false hq] at kS
   have HX2:Hid (∀ j,j<t+1→out.getD j []≠fm):=fun j hj=>by
    by_cases e:j=t
    ·rw [e];exact hq
    exact HX.out j (by omega)
   clear hq hI HX
   go_wp2_with fail
   refine kS.mono ?_
   rintro e z1 ⟨rfl,d,rfl⟩
   replace bz:=below_drewN bz d
   clear kS c0
   generalize wr.drewN d=z1 at *
   go_wp2
   go_roundw
   case rel=>exact ⟨t+1,by omega,by go_num,HX2,bz⟩
   case measure=>simp [Go.RowKit.intOf];omega
  obtain rfl:t=out.length:=by omega
  have HA:Hid (X2 (out,true) fm=(out++[fm],decide (out.length<300))):=by
   have hm:fm ∉ out:=fun hm=>by
    obtain ⟨j,hj,e⟩:=List.getElem_of_mem hm
    exact HX.out j hj (by simp [List.getD,hj,e])
   rw [Hid];simp [X2,hm]
  replace hO:=hO.below bz
  replace hF:=hF.below bz
  replace bw:=Zb bw bz
  clear HX bz
  generalize wr=V0 at *
  obtain ⟨vs,hA,hvl,hnw,h1c⟩:=hO.news
  have q0:=MC V0 35 1 V0.heap.size (Nat.le_refl _)
  have ha:Below V0.heap.size V0 (V0.alloc (.cells #[] 35)):=by go_grown
  have hnw2:∀ j u,vs[j]?=some u→(V0.alloc (.cells #[] 35)).cell? ((⟨ob,oo,none⟩:Addr).add j)=some u:=fun j u hj=>Fp ha (hnw j u hj)
  have hdd:decide ((out.length:Int)<300)=decide (out.length<300):=by
   by_cases h9:out.length<300
   ·rw [decide_eq_true h9,decide_eq_true (by omega)]
   rw [decide_eq_false h9,decide_eq_false (by omega)]
  have HDD:Hid (decide ((out.length:Int)<300)=decide (out.length<300)):=hdd
  clear hnw hO hdd
  go_wp2_with (at_builtin;refine wpList_append_own _ rfl _ _ 81 rfl V0.heap.size 35 i1 (.slice none 0 0) 1 24 Tryz.underlying81 hi1 hy0 hy1 hy2 rfl (by decide) _ _ _ rfl q0 ⟨ob,oo,none⟩ out.length oc vs rfl (by rw [hvl];omega) hnw2 h1c ?c3 ?c4 ?c5 ?_)
  case c3=>unfold maxLen;omega
  case c4=>omega
  case c5=>simp
  intro v3 w3 q3 g3 _
  have b3:Below V0.heap.size V0 w3:=ha.grown g3 ha.size (fun q e=>(q0.lt q e).1)
  have q4:w3.ownsRow V0.heap.size 35 1 v3 out.length vs:=by simpa using q3
  have hs3:=b3.size
  clear q3 g3 q0 ha hnw2 h1c
  generalize hfl:fm.length=fl at *
  go_wp2_with (at_builtin;refine wpList_append_own _ rfl _ _ 81 rfl V0.heap.size 35 i1 (.slice none 0 0) 1 24 Tryz.underlying81 hi1 hy0 hy1 hy2 rfl (by decide) _ _ _ rfl (q4.alloc _) ⟨w3.heap.size,0,none⟩ 1 1 [.slice fa fl fc] rfl rfl (cell_one_new _ _ _) (by simp [Value.oneCell']) ?c3 ?c4 ?c5 ?_)
  case c3=>unfold maxLen;omega
  case c4=>omega
  case c5=>simp;omega
  intro v5 w5 q5 g5 _
  have b5:Below V0.heap.size V0 w5:=(P9 b3 (by go_grown:Below w3.heap.size w3 (w3.alloc (.cells #[.slice fa fl fc] 35)))).grown g5 (by simp;omega) (fun q e=>(q4.lt q e).1)
  obtain ⟨g,c,rfl⟩:=UR q5 (by omega)
  have hR5:Wr w5 (some ⟨g,0,none⟩) (out.length+1) c (out++[fm]):=Wr.own q5 (by simp) ((hA.below b5).snoc ⟨fa,fl,fc,rfl,hF.below b5⟩)
  replace bw:=P9 bw b5
  clear q5 g5 q4 b3 b5 hA
  go_wp2
  go_ret2
  rw [HA.out]
  exact ⟨⟨g,0,_,c,by simp only [HDD.out];rfl,hR5⟩,bw⟩


theorem Hk {w:World} {G:Nat} {a:Value} (h0:w.cell? ⟨G,0,none⟩=some a):∀ j u,[a][j]?=some u→w.cell? ((⟨G,0,none⟩:Addr).add j)=some u:=by
 intro j u hj
 match j,hj with
 | 0,hj=>simp at hj;subst hj;simpa [Addr.add] using h0
 | (j+1),hj=>simp at hj
end Go.Proofs.YtojcgajjnmjjpaaGreatDoor
