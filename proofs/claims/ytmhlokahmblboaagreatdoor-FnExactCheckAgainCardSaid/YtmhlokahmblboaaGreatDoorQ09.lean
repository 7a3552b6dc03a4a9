/-
  Joined: Kit8, MachI.
-/
import Derived.Maps.AppendAt
import Derived.Lib.Hide
import Derived.BigRegion
import Derived.Test.YtmhlokahmblboaaGreatDoorQ08

namespace Go.Proofs.YtmhlokahmblboaaGreatDoor
set_option maxRecDepth 100000
set_option maxHeartbeats 16000000
open Go.RowKit
set_option linter.unusedVariables false

def TK (e:Ending) (w':World) (B:Nat) (xs:List Int):Prop:=∃ v,e=.returned v∧w'.ownsRow B 3 1 v xs.length (xs.map (Value.int .i64))
theorem Zm {a b c:World} (h:Below a.heap.size a b) (k:Below b.heap.size b c):Below a.heap.size a c:=h.trans (k.mono h.size)
theorem FB {a b:World} (h:Below a.heap.size a b) (d:Nat):Below a.heap.size a (b.drewN d):=h.trans ⟨rfl,rfl,rfl,Nat.le_refl _,fun _ _=>rfl⟩
theorem Zp {B e k n:Nat} {v:Value} {xs:List Value} {w w':World} (h:w.ownsRow B e k v n xs) (hb:Below w.heap.size w w'):w'.ownsRow B e k v n xs:=
 h.kept (row:=none) ⟨hb.os,hb.tape,hb.output,hb.size,fun i hi _=>hb.block i hi⟩ (by cases v.ownBlock<;>simp)
theorem Zy {w w':World} (h:Below w.heap.size w w') {p:Addr} {v:Value} (hv:w.cell? p=some v):w'.cell? p=some v:=by
 rw [h.cell (World.block_lt_of_cell? _ _ hv)]
 exact hv
theorem Zn {w w':World} {row:Option Nat} (g:w.grownBy w' row) {p:Addr} {v:Value} (hc:w.cell? p=some v) (hne:some p.block≠row):w'.cell? p=some v:=by
 have hl:=World.block_lt_of_cell? _ _ hc
 rw [← hc]
 unfold World.cell?
 rw [g.block p.block hl hne]
theorem ZT {w:World} {B B' e s n:Nat} {v:Value} {cs:List Value} (h:w.ownsRow B e s v n cs) (hB:B'≤B):w.ownsRow B' e s v n cs:=by
 refine ⟨h.1,?_⟩
 rcases h.2 with h0 | ⟨g,cap,cur,hv,hg,rest⟩
 ·exact .inl h0
 exact .inr ⟨g,cap,cur,hv,by omega,rest⟩
theorem SB {w:World} {B e s n:Nat} {v:Value} {cs:List Value} (h:w.ownsRow B e s v n cs) (hn:0<n):∃ g c,v=.slice (some ⟨g,0,none⟩) n c:=by
 rcases h.2 with ⟨rfl,h0⟩ | ⟨g,cap,cur,hv,_⟩
 ·omega
 exact ⟨g,cap,hv⟩
theorem ZH {w:World} {B e s n:Nat} {v:Value} {cs:List Value} (h:w.ownsRow B e s v n cs):∃ a c,v=.slice a n c:=by
 rcases h.2 with ⟨rfl,h0⟩ | ⟨g,cap,cur,hv,_⟩
 ·subst h0;exact ⟨none,0,rfl⟩
 exact ⟨some ⟨g,0,none⟩,cap,hv⟩
theorem Xu (w:World) (t s B:Nat) (hB:B≤w.heap.size):(w.alloc (.cells #[] t)).ownsRow B t s (.slice (some ⟨w.heap.size,0,none⟩) 0 0) 0 []:=World.ownsRow_lit w #[] 0 hB (by unfold maxLen;omega) (by simp)
theorem QW {w:World} {B n c:Nat} {a:Option Addr} {xs:List Int} (h:w.ownsRow B 3 1 (.slice a n c) n (xs.map (Value.int .i64))):ZW .i64 w a n c xs:=by
 rcases h.2 with ⟨e,h0⟩ | ⟨b,cc,cur,e,h1,h2,h3,h4⟩
 ·cases e
  have hl:=h.1
  exact ⟨by simpa using hl,Nat.le_refl _,by unfold maxLen;omega,.inl rfl⟩
 cases e
 exact ZW.of_owns h
theorem Up {w:World} {b off n c:Nat} {xs:List Int} (h:ZW .i64 w (some ⟨b,off,none⟩) n c xs):∀ j u,(xs.map (Value.int .i64))[j]?=some u→w.cell? ((⟨b,off,none⟩:Addr).add j)=some u:=by
 intro j u hj
 obtain ⟨hl,_,_,hcase⟩:=h
 have hjl:j<xs.length:=by simpa using (List.getElem?_eq_some_iff.1 hj).1
 rcases hcase with h0 | ⟨b',off',he,hb,hc⟩
 ·omega
 cases he
 have:=hc j (by omega)
 have e:(⟨b,off,none⟩:Addr).add j=⟨b,off+j,none⟩:=by unfold Addr.add;split<;>simp_all
 rw [e,this]
 simp [List.getElem?_eq_getElem hjl] at hj
 simp [List.getD,List.getElem?_eq_getElem hjl,hj]
theorem TY (xs:List Int):∀ u ∈ xs.map (Value.int .i64),u.oneCell'=true:=by
 intro u hu
 obtain ⟨x,_,rfl⟩:=List.mem_map.1 hu
 rfl
theorem YZ {P:Program} {ops:Array Oper} {o:Oper} {a:Act} {w:World} {K:Act→World→Prop} {Q:Exit→Act→World→Prop} {E:Prop}
  (hg:o.guard=none) (s x:Operand) (t:TypeId) (hop:o.op=Op.call { callee:=Callee.builtin Builtin.append,args:=#[s,x],argTypes:=#[t,t] })
  (base:Nat) (e:TypeId) (i:TypeInfo) (z:Value) (size bytes:Nat) (h1:P.underlying t=some (.slice e)) (h2:P.info? e=some i) (h3:i.zero=some z) (h4:i.size=size) (h5:i.bytes=bytes) (h6:z.cells.size=size) (h7:0<size)
  (v:Value) (n:Nat) (olds:List Value) (hs:a.eval s=v) (hown:w.ownsRow base e size v n olds)
  (ad:Addr) (m c:Nat) (news:List Value) (hx:a.eval x=.slice (some ad) m c) (hn:news.length=m*size) (hc:∀ j u,news[j]?=some u→w.cell? (ad.add j)=some u) (h1c:∀ u ∈ news,u.oneCell'=true)
  (b1:n+m≤maxLen) (b2:(n+m)*bytes≤140737488355328) (hbw:base≤w.heap.size)
  (hK:∀ v' w',w'.ownsRow base e size v' (n+m) (olds++news)→w.grownBy w' v.ownBlock→(v'.ownBlock=v.ownBlock∨v'.ownBlock=some w.heap.size)→K (a.put o.dst v') w') :
  if Region.wanted o (yielded ops a.tmps)=true then Oper.wp P o a w K Q else E:=by
 have hw:Region.wanted o (yielded ops a.tmps)=true:=by simp [Region.wanted,hg]
 rw [if_pos hw]
 obtain ⟨v',w',hrun,r1,r2,_,r4⟩:=run_append_own_at (P:=P) (w:=w) base t o.type e i z size bytes h1 h2 h3 h4 h5 h6 h7 v n olds hown ad m c news hn hc h1c b1 b2 hbw
 subst hs
 unfold Oper.wp
 simp [execOp,hop,resolve,invoke,builtin,hx,hrun,Result.andThen]
 exact hK v' w' r1 r2 r4
theorem WR {w:World} {b off len cap hi:Nat} {xs:List Int} (h:ZW .i64 w (some ⟨b,off,none⟩) len cap xs) (h2:hi≤len) :
  (∀ W,(Instr.slice 72 (.slice (some ⟨b,off,none⟩) len cap) none (some (.int .i64 (hi:Int))) none).run Tryz.prog W=.ok (.slice (some ⟨b,off,none⟩) hi cap) W)∧ZW .i64 w (some ⟨b,off,none⟩) hi cap (xs.take hi):=by
 obtain ⟨hl,hlc,hcm,hcase⟩:=h
 have hhc:(hi:Int)≤(cap:Int):=by omega
 refine ⟨fun W=>?_,by rw [List.length_take];omega,by omega,by omega,?_⟩
 ·go_simp
  try omega
 rcases hcase with h0 | ⟨b',off',he,hb,hc⟩
 ·exact .inl (by omega)
 cases he
 refine .inr ⟨b,off,rfl,hb,fun t ht=>?_⟩
 rw [hc t (by omega)]
 simp [List.getD,ht]
theorem Hy {w:World} {b off len cap lo:Nat} {xs:List Int} (h:ZW .i64 w (some ⟨b,off,none⟩) len cap xs) (h1:lo≤len) :
  ∃ o2,(∀ W,(Instr.slice 72 (.slice (some ⟨b,off,none⟩) len cap) (some (.int .i64 (lo:Int))) none none).run Tryz.prog W=.ok (.slice (some ⟨b,o2,none⟩) (len - lo) (cap - lo)) W)∧ZW .i64 w (some ⟨b,o2,none⟩) (len - lo) (cap - lo) (xs.drop lo):=by
 obtain ⟨hl,hlc,hcm,hcase⟩:=h
 have hlh:(lo:Int)≤(len:Int):=by omega
 by_cases hz:cap - lo=0
 ·refine ⟨off,fun W=>?_,by rw [List.length_drop];omega,by omega,by omega,.inl (by omega)⟩
  go_simp
  omega
 refine ⟨off+lo,fun W=>?_,by rw [List.length_drop];omega,by omega,by omega,?_⟩
 ·go_simp
  omega
 rcases hcase with h0 | ⟨b',off',he,hb,hc⟩
 ·exact .inl (by omega)
 cases he
 refine .inr ⟨b,off+lo,rfl,hb,fun t ht=>?_⟩
 have:=hc (lo+t) (by omega)
 rw [show off+lo+t=off+(lo+t) by omega,this]
 simp [List.getD]


theorem YJ {w:World} (n:Nat):Below w.heap.size w (w.drewN n):=⟨rfl,rfl,rfl,Nat.le_refl _,fun _ _=>rfl⟩

theorem SW (g o:Nat) (a:Option Addr) (n c:Nat) (pc:Int) (w:World) (h0:w.cell? ⟨g,o,none⟩=some (.slice a n c)) (h1:w.cell? ⟨g,o+1,none⟩=some (.int .i64 pc)) :
  Calls Tryz.prog 85 #[.pointer (some ⟨g,o,none⟩)] w fun e w'=>e=.returned (.bool (decide ((n:Int)≤pc)))∧∃ d,w'=w.drewN d:=by
 obtain ⟨x,hx⟩:∃ x,x=decide ((n:Int)≤pc):=⟨_,rfl⟩
 have hd:decide ((n:Int)≤pc)=x:=hx.symm
 rw [← hx]
 clear hx
 go_enter Tryz.func85,Tryz.ntmps85
 go_wp2_with fail
 go_quiet (fail)
 go_wp2
 go_ret
 exact ⟨rfl,_,rfl⟩

theorem Ls (g k:Nat) (a:Option Addr) (n c:Nat) (pc:Int) (w:World) (hk:k<3) (h0:w.cell? ⟨g,k*4,none⟩=some (.slice a n c)) (h1:w.cell? ⟨g,k*4+1,none⟩=some (.int .i64 pc)) (hd:(n:Int)≤pc) :
  Calls Tryz.prog 86 #[.pointer (some ⟨g,0,none⟩),.int .i64 k] w fun e w'=>e=.returned (.bool false)∧Below w.heap.size w w':=by
 have kD:=SW g (k*4) a n c pc w h0 h1
 rw [decide_eq_true hd] at kD
 have hk3:(k:Int)<3:=by omega
 go_enter Tryz.func86,Tryz.ntmps86
 go_wp2_with fail
 refine kD.mono ?_
 rintro e w1 ⟨rfl,d,rfl⟩
 go_wp2
 go_ret
 exact ⟨rfl,YJ _⟩

theorem Lt (g k p b off:Nat) (n c:Nat) (x0 x1 x2:Int) (w:World) (hk:k<3) (hd:p<n)
  (h0:w.cell? ⟨g,k*4,none⟩=some (.slice (some ⟨b,off,none⟩) n c)) (h1:w.cell? ⟨g,k*4+1,none⟩=some (.int .i64 p)) (c0:w.cell? ⟨b,off+p*3,none⟩=some (.int .i64 x0)) (c1:w.cell? ⟨b,off+p*3+1,none⟩=some (.int .i64 x1)) (c2:w.cell? ⟨b,off+p*3+2,none⟩=some (.int .i64 x2)) (hx:x0≠5) :
  Calls Tryz.prog 86 #[.pointer (some ⟨g,0,none⟩),.int .i64 k] w fun e w'=>e=.returned (.bool false)∧Below w.heap.size w w':=by
 have kD:=SW g (k*4) (some ⟨b,off,none⟩) n c p w h0 h1
 rw [decide_eq_false (by omega)] at kD
 have hk3:(k:Int)<3:=by omega
 have hpn:(p:Int)<(n:Int):=by omega
 go_enter Tryz.func86,Tryz.ntmps86
 go_wp2_with fail
 refine kD.mono ?_
 rintro e w1 ⟨rfl,d,rfl⟩
 clear kD
 go_wp2_with fail
 replace h0:(w.drewN d).cell? ⟨g,k*4,none⟩=some (.slice (some ⟨b,off,none⟩) n c):=h0
 replace h1:(w.drewN d).cell? ⟨g,k*4+1,none⟩=some (.int .i64 p):=h1
 replace c0:(w.drewN d).cell? ⟨b,off+p*3,none⟩=some (.int .i64 x0):=c0
 replace c1:(w.drewN d).cell? ⟨b,off+p*3+1,none⟩=some (.int .i64 x1):=c1
 replace c2:(w.drewN d).cell? ⟨b,off+p*3+2,none⟩=some (.int .i64 x2):=c2
 have bw:Below w.heap.size w (w.drewN d):=YJ _
 generalize w.drewN d=W at *
 refine wp_region_held_drew (S:=(fun w'=>w'.cell? ⟨g,k*4,none⟩=some (.slice (some ⟨b,off,none⟩) n c)∧w'.cell? ⟨g,k*4+1,none⟩=some (.int .i64 p)∧w'.cell? ⟨b,off+p*3,none⟩=some (.int .i64 x0)∧w'.cell? ⟨b,off+p*3+1,none⟩=some (.int .i64 x1)∧w'.cell? ⟨b,off+p*3+2,none⟩=some (.int .i64 x2))) (by kernel_rfl) ⟨h0,h1,c0,c1,c2⟩ (fun hS0=>?_)
 refine tkm 0 14 (.pointer (some ⟨g,k*4,none⟩)) ?_
 refine tkm 1 15 (.pointer (some ⟨g,k*4,none⟩)) ?_
 refine tkm 2 16 (.pointer (some ⟨g,k*4,none⟩)) ?_
 refine tkm 3 17 (.slice (some ⟨b,off,none⟩) n c) ?_
 refine tkm 4 18 (.pointer (some ⟨g,k*4,none⟩)) ?_
 refine tkm 5 19 (.pointer (some ⟨g,k*4,none⟩)) ?_
 refine tkm 6 20 (.pointer (some ⟨g,k*4+1,none⟩)) ?_
 refine tkm 7 21 (.int .i64 p) ?_
 refine tkm 8 22 (.pointer (some ⟨b,off+p*3,none⟩)) ?_
 refine tkm 9 23 (.agg #[.int .i64 x0,.int .i64 x1,.int .i64 x2]) ?_
 refine tkr 10 6 (fun K hK=>?_)
 have hal:Below W.drew.heap.size W.drew (W.drew.alloc (.cells #[.int .i64 0,.int .i64 0,.int .i64 0] 122)):=by go_grown
 go_simp
 refine hK.out _ _ ?_ (fun hS1=>?_)
 ·exact ⟨Za hal _ _ hS0.1,Za hal _ _ hS0.2.1,Za hal _ _ hS0.2.2.1,Za hal _ _ hS0.2.2.2.1,Za hal _ _ hS0.2.2.2.2⟩
 clear hK
 try simp only [Act.put,tka,tkb,tkc]
 refine tkz 11 (fun K hK=>?_)
 have hal2:Below W.drew.heap.size W.drew (W.drew.alloc (.cells #[.int .i64 x0,.int .i64 x1,.int .i64 x2] 122)):=by go_grown
 go_simp
 refine hK.out _ _ ?_ (fun hS2=>?_)
 ·exact ⟨Za hal2 _ _ hS0.1,Za hal2 _ _ hS0.2.1,Za hal2 _ _ hS0.2.2.1,Za hal2 _ _ hS0.2.2.2.1,Za hal2 _ _ hS0.2.2.2.2⟩
 clear hK
 try simp only [Act.put,tka,tkb,tkc]
 refine wpAnyH_done (by kernel_rfl) ?_ _
 replace bw:Below w.heap.size w (W.alloc (.cells #[.int .i64 x0,.int .i64 x1,.int .i64 x2] 122)).drew:=Zb bw (by go_grown)
 have pX:Blk (W.alloc (.cells #[.int .i64 x0,.int .i64 x1,.int .i64 x2] 122)).drew W.heap.size 122 [.int .i64 x0,.int .i64 x1,.int .i64 x2]:=Blk.new W 122 [.int .i64 x0,.int .i64 x1,.int .i64 x2]
 have q0:=pX.cell 0
 have q1:=pX.cell 1
 simp only [List.getElem?_cons_zero,List.getElem?_cons_succ] at q0 q1
 clear hal hal2 hS0 hS1 h0 h1 c0 c1 c2 pX
 clear hS2
 have hx5:(x0 == 5)=false:=by simp [hx]
 go_wp2_with fail
 generalize (W.alloc (.cells #[.int .i64 x0,.int .i64 x1,.int .i64 x2] 122)).drew=W2 at *
 generalize W.heap.size=gx at *
 go_quiet (fail)
 have bz:Below w.heap.size w (W2.drewN nq):=Zb bw (YJ _)
 go_wp2
 go_ret
 exact ⟨rfl,bz⟩

theorem Lu (g k p b off:Nat) (n c:Nat) (x2:Int) (q:Nat) (hv:Int) (w:World) (hk:k<3) (hd:p<n)
  (h0:w.cell? ⟨g,k*4,none⟩=some (.slice (some ⟨b,off,none⟩) n c)) (h1:w.cell? ⟨g,k*4+1,none⟩=some (.int .i64 p)) (c0:w.cell? ⟨b,off+p*3,none⟩=some (.int .i64 5)) (c1:w.cell? ⟨b,off+p*3+1,none⟩=some (.int .i64 q)) (c2:w.cell? ⟨b,off+p*3+2,none⟩=some (.int .i64 x2)) (h6:w.cell? ⟨g,16+q,none⟩=some (.int .i64 hv)) (hq:q<2) (z:Bool) (hz:z=!decide (hv=0)) :
  Calls Tryz.prog 86 #[.pointer (some ⟨g,0,none⟩),.int .i64 k] w fun e w'=>e=.returned (.bool z)∧Below w.heap.size w w':=by
 have kD:=SW g (k*4) (some ⟨b,off,none⟩) n c p w h0 h1
 rw [decide_eq_false (by omega)] at kD
 have hk3:(k:Int)<3:=by omega
 have hpn:(p:Int)<(n:Int):=by omega
 go_enter Tryz.func86,Tryz.ntmps86
 go_wp2_with fail
 refine kD.mono ?_
 rintro e w1 ⟨rfl,d,rfl⟩
 clear kD
 go_wp2_with fail
 replace h0:(w.drewN d).cell? ⟨g,k*4,none⟩=some (.slice (some ⟨b,off,none⟩) n c):=h0
 replace h1:(w.drewN d).cell? ⟨g,k*4+1,none⟩=some (.int .i64 p):=h1
 replace c0:(w.drewN d).cell? ⟨b,off+p*3,none⟩=some (.int .i64 5):=c0
 replace c1:(w.drewN d).cell? ⟨b,off+p*3+1,none⟩=some (.int .i64 q):=c1
 replace c2:(w.drewN d).cell? ⟨b,off+p*3+2,none⟩=some (.int .i64 x2):=c2
 replace h6:(w.drewN d).cell? ⟨g,16+q,none⟩=some (.int .i64 hv):=h6
 have bw:Below w.heap.size w (w.drewN d):=YJ _
 generalize w.drewN d=W at *
 refine wp_region_held_drew (S:=(fun w'=>w'.cell? ⟨g,k*4,none⟩=some (.slice (some ⟨b,off,none⟩) n c)∧w'.cell? ⟨g,k*4+1,none⟩=some (.int .i64 p)∧w'.cell? ⟨b,off+p*3,none⟩=some (.int .i64 5)∧w'.cell? ⟨b,off+p*3+1,none⟩=some (.int .i64 q)∧w'.cell? ⟨b,off+p*3+2,none⟩=some (.int .i64 x2)∧w'.cell? ⟨g,16+q,none⟩=some (.int .i64 hv))) (by kernel_rfl) ⟨h0,h1,c0,c1,c2,h6⟩ (fun hS0=>?_)
 refine tkm 0 14 (.pointer (some ⟨g,k*4,none⟩)) ?_
 refine tkm 1 15 (.pointer (some ⟨g,k*4,none⟩)) ?_
 refine tkm 2 16 (.pointer (some ⟨g,k*4,none⟩)) ?_
 refine tkm 3 17 (.slice (some ⟨b,off,none⟩) n c) ?_
 refine tkm 4 18 (.pointer (some ⟨g,k*4,none⟩)) ?_
 refine tkm 5 19 (.pointer (some ⟨g,k*4,none⟩)) ?_
 refine tkm 6 20 (.pointer (some ⟨g,k*4+1,none⟩)) ?_
 refine tkm 7 21 (.int .i64 p) ?_
 refine tkm 8 22 (.pointer (some ⟨b,off+p*3,none⟩)) ?_
 refine tkm 9 23 (.agg #[.int .i64 5,.int .i64 q,.int .i64 x2]) ?_
 refine tkr 10 6 (fun K hK=>?_)
 have hal:Below W.drew.heap.size W.drew (W.drew.alloc (.cells #[.int .i64 0,.int .i64 0,.int .i64 0] 122)):=by go_grown
 go_simp
 refine hK.out _ _ ?_ (fun hS1=>?_)
 ·exact ⟨Za hal _ _ hS0.1,Za hal _ _ hS0.2.1,Za hal _ _ hS0.2.2.1,Za hal _ _ hS0.2.2.2.1,Za hal _ _ hS0.2.2.2.2.1,Za hal _ _ hS0.2.2.2.2.2⟩
 clear hK
 try simp only [Act.put,tka,tkb,tkc]
 refine tkz 11 (fun K hK=>?_)
 have hal2:Below W.drew.heap.size W.drew (W.drew.alloc (.cells #[.int .i64 5,.int .i64 q,.int .i64 x2] 122)):=by go_grown
 go_simp
 refine hK.out _ _ ?_ (fun hS2=>?_)
 ·exact ⟨Za hal2 _ _ hS0.1,Za hal2 _ _ hS0.2.1,Za hal2 _ _ hS0.2.2.1,Za hal2 _ _ hS0.2.2.2.1,Za hal2 _ _ hS0.2.2.2.2.1,Za hal2 _ _ hS0.2.2.2.2.2⟩
 clear hK
 try simp only [Act.put,tka,tkb,tkc]
 refine wpAnyH_done (by kernel_rfl) ?_ _
 replace bw:Below w.heap.size w (W.alloc (.cells #[.int .i64 5,.int .i64 q,.int .i64 x2] 122)).drew:=Zb bw (by go_grown)
 have pX:Blk (W.alloc (.cells #[.int .i64 5,.int .i64 q,.int .i64 x2] 122)).drew W.heap.size 122 [.int .i64 5,.int .i64 q,.int .i64 x2]:=Blk.new W 122 [.int .i64 5,.int .i64 q,.int .i64 x2]
 have q0:=pX.cell 0
 have q1:=pX.cell 1
 simp only [List.getElem?_cons_zero,List.getElem?_cons_succ] at q0 q1
 clear hal hal2 hS0 hS1 h0 h1 c0 c1 c2 h6 pX
 replace hS2:=hS2.2.2.2.2.2
 have hq2:(q:Int)<2:=by omega
 have hv0:(hv != 0)=z:=by rw [hz];by_cases h:hv=0<;>simp [h]
 clear hz
 go_wp2_with fail
 generalize (W.alloc (.cells #[.int .i64 5,.int .i64 q,.int .i64 x2] 122)).drew=W2 at *
 generalize W.heap.size=gx at *
 go_quiet (fail)
 have bz:Below w.heap.size w (W2.drewN nq):=Zb bw (YJ _)
 go_wp2
 go_ret
 exact ⟨rfl,bz⟩

def slK (cs:Sl × Sl × Sl):Nat→Sl
 | 0=>cs.1
 | 1=>cs.2.1
 | _=>cs.2.2
def YB (w:World) (g:Nat) (cs:Sl × Sl × Sl) (rows:List (List I3)) (m:V4):Prop:=
 Blk w g 69 (Zi cs.1.val cs.2.1.val cs.2.2.val m)∧∀ k,k<3→Zj w (slK cs k).1 (slK cs k).2.1 (slK cs k).2.2 (Xn rows k)
theorem YB.below {w w':World} {g:Nat} {cs:Sl × Sl × Sl} {rows:List (List I3)} {m:V4} (h:YB w g cs rows m) (hb:Below w.heap.size w w'):YB w' g cs rows m:=⟨h.1.below hb,fun k hk=>(h.2 k hk).below hb⟩
theorem JR (cs:Sl × Sl × Sl) {k:Nat} (hk:k<3):GW cs.1.val cs.2.1.val cs.2.2.val k=(slK cs k).val:=by
 match k,hk with
 | 0,_=>rfl
 | 1,_=>rfl
 | 2,_=>rfl
theorem YB.code {w:World} {g:Nat} {cs:Sl × Sl × Sl} {rows:List (List I3)} {m:V4} (h:YB w g cs rows m) {k:Nat} (hk:k<3):w.cell? ⟨g,k*4,none⟩=some (.slice (slK cs k).1 (slK cs k).2.1 (slK cs k).2.2):=by
 rw [h.1.cell,GD _ _ _ _ hk,JR cs hk];rfl
theorem YB.pc {w:World} {g:Nat} {cs:Sl × Sl × Sl} {rows:List (List I3)} {m:V4} (h:YB w g cs rows m) {k:Nat} (hk:k<3):w.cell? ⟨g,k*4+1,none⟩=some (.int .i64 (m.1.getD k 0)):=by
 rw [h.1.cell,G8 _ _ _ _ hk]
theorem YB.held {w:World} {g:Nat} {cs:Sl × Sl × Sl} {rows:List (List I3)} {m:V4} (h:YB w g cs rows m) {a:Nat} (ha:a<2):w.cell? ⟨g,16+a,none⟩=some (.int .i64 (m.2.2.1.getD a 0)):=by
 rw [h.1.cell,S2 _ _ _ _ ha]

theorem PO {w:World} {a:Option Addr} {n c:Nat} {xs:List I3} (h:Zj w a n c xs) {p:Nat} (hp:p<xs.length):∃ b off,a=some ⟨b,off,none⟩∧p<n ∧
  w.cell? ⟨b,off+p*3,none⟩=some (.int .i64 (xs.getD p (0,0,0)).1)∧w.cell? ⟨b,off+p*3+1,none⟩=some (.int .i64 (xs.getD p (0,0,0)).2.1)∧w.cell? ⟨b,off+p*3+2,none⟩=some (.int .i64 (xs.getD p (0,0,0)).2.2):=by
 obtain ⟨hl,_,_,_,h0 | ⟨b,off,ha,_,hc⟩⟩:=h
 ·omega
 exact ⟨b,off,ha,by omega,hc p (by omega)⟩
theorem WC {rows:List (List I3)} (hp:Zq rows=true) {k:Nat} (hk:k<3):(Xn rows k).length≤6∧∀ x ∈ Xn rows k,okI x=true:=by
 obtain ⟨h3,hr⟩:=Wx hp
 exact hr _ (by unfold Xn;simp [List.getD,show k<rows.length by omega])
theorem VO {rows:List (List I3)} {m:V4} (hp:Zq rows=true) (hs:Ze m=true) {k:Nat} (hk:k<3) (hd:Ys rows m k=false):∃ p:Nat,m.1.getD k 0=p∧p<(Xn rows k).length∧Xj rows m k=(Xn rows k).getD p (0,0,0)∧okI (Xj rows m k)=true:=by
 have hb:=Vv (Yq hs).1 (by decide) k
 unfold Ys at hd
 simp only [decide_eq_false_iff_not] at hd
 have e:m.1.getD k 0=((m.1.getD k 0).toNat:Int):=by omega
 refine ⟨(m.1.getD k 0).toNat,e,by omega,rfl,?_⟩
 refine (WC hp hk).2 _ ?_
 unfold Xj
 have hlt:(m.1.getD k 0).toNat<(Xn rows k).length:=by omega
 rw [List.getD,List.getElem?_eq_getElem hlt,Option.getD_some]
 exact List.getElem_mem hlt
theorem N2 {x:I3} (h:okI x=true) (h5:x.1=5):∃ q:Nat,x.2.1=q∧q<2:=by
 unfold okI at h
 simp only [h5] at h
 have h2:inB x.2.1 0 1=true:=by
  have:=h
  simp at this
  exact this.1
 rw [Zv] at h2
 exact ⟨x.2.1.toNat,by omega,by omega⟩

theorem Np {w:World} {g:Nat} {cs:Sl × Sl × Sl} {rows:List (List I3)} {m:V4} (h:YB w g cs rows m) {k:Nat} (hk:k<3) :
  Calls Tryz.prog 85 #[.pointer (some ⟨g,k*4,none⟩)] w fun e w'=>e=.returned (.bool (Ys rows m k))∧∃ d,w'=w.drewN d:=by
 have hl:=(h.2 k hk).1
 have:=SW g (k*4) _ _ _ _ w (h.code hk) (h.pc hk)
 unfold Ys
 rw [hl]
 exact this

theorem Gk {w:World} {g:Nat} {cs:Sl × Sl × Sl} {rows:List (List I3)} {m:V4} (h:YB w g cs rows m) (hp:Zq rows=true) (hs:Ze m=true) {k:Nat} (hk:k<3) :
  Calls Tryz.prog 86 #[.pointer (some ⟨g,0,none⟩),.int .i64 k] w fun e w'=>e=.returned (.bool (Qk rows m k))∧Below w.heap.size w w':=by
 unfold Qk
 cases hd:Ys rows m k
 ·obtain ⟨p,ep,hlt,hi,hok⟩:=VO hp hs hk hd
  have h0:=h.code hk
  have h1:=h.pc hk
  rw [ep] at h1
  obtain ⟨b,off,ea,hpn,c0,c1,c2⟩:=PO (h.2 k hk) hlt
  rw [← hi] at c0 c1 c2
  rw [ea] at h0
  by_cases h5:(Xj rows m k).1=5
  ·obtain ⟨q,hq,hq2⟩:=N2 hok h5
   rw [h5] at c0
   rw [hq] at c1
   have hh:=h.held hq2
   have e:Va m (Xj rows m k)=!decide (m.2.2.1.getD q 0=0):=by
    unfold Va
    rw [h5,hq]
    simp
   rw [e]
   exact Lu g k p b off _ _ _ q _ w hk hpn h0 h1 c0 c1 c2 hh hq2 _ rfl
  have e:Va m (Xj rows m k)=false:=by unfold Va;simp [h5]
  rw [e]
  exact Lt g k p b off _ _ _ _ _ w hk hpn h0 h1 c0 c1 c2 h5
 have h0:=h.code hk
 have h1:=h.pc hk
 unfold Ys at hd
 simp only [decide_eq_true_eq] at hd
 rw [(h.2 k hk).1] at hd
 exact Ls g k _ _ _ _ w hk h0 h1 hd
end Go.Proofs.YtmhlokahmblboaaGreatDoor
