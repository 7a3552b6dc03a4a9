/-
  Joined: ItmI, Kit8, LokI, SetP, DfsP, FotP.
-/
import Derived.Lib.Hide
import Derived.Test.YtojcgajjnmjjpaaGreatDoorT37

namespace Go.Proofs.YtojcgajjnmjjpaaGreatDoor
set_option maxRecDepth 100000
set_option maxHeartbeats 16000000
open Go.RowKit
set_option linter.unusedVariables false

def inB8 (n a b:Int):Bool:=decide (a≤n∧n≤b)
theorem inB8_true {n a b:Int}:inB8 n a b=true↔a≤n∧n≤b:=by simp [inB8]
theorem inB8_false {n a b:Int}:inB8 n a b=false↔¬ (a≤n∧n≤b):=by simp only [inB8,decide_eq_false_iff_not]
theorem isThread8 (n:Int) (w:World):Calls Tryz.prog 102 #[.int .i64 n] w fun e w'=>e=.returned (.bool (inB8 n 0 2))∧w=w':=by
 cases h:inB8 n 0 2
 ·rw [inB8_false] at h
  by_cases h1:0≤n
  ·have h2:decide (n<3)=false:=by simp;omega
   clear h
   go_enter Tryz.func102,Tryz.ntmps102
   go_wp2
   go_ret
   exact ⟨rfl,rfl⟩
  ·clear h
   go_enter Tryz.func102,Tryz.ntmps102
   go_wp2
   go_ret
   exact ⟨rfl,rfl⟩
 ·rw [inB8_true] at h
  obtain ⟨h1,h3⟩:=h
  have h2:decide (n<3)=true:=by simp;omega
  clear h3
  go_enter Tryz.func102,Tryz.ntmps102
  go_wp2
  go_ret
  exact ⟨by simp_all,rfl⟩

theorem isPlace8 (n:Int) (w:World):Calls Tryz.prog 137 #[.int .i64 n] w fun e w'=>e=.returned (.bool (inB8 n 0 6))∧w=w':=by
 cases h:inB8 n 0 6
 ·rw [inB8_false] at h
  by_cases h1:0≤n
  ·have h2:decide (n≤6)=false:=by simp;omega
   clear h
   go_enter Tryz.func137,Tryz.ntmps137
   go_wp2
   go_ret
   exact ⟨rfl,rfl⟩
  ·clear h
   go_enter Tryz.func137,Tryz.ntmps137
   go_wp2
   go_ret
   exact ⟨rfl,rfl⟩
 ·rw [inB8_true] at h
  obtain ⟨h1,h3⟩:=h
  have h2:decide (n≤6)=true:=by simp;omega
  clear h3
  go_enter Tryz.func137,Tryz.ntmps137
  go_wp2
  go_ret
  exact ⟨by simp_all,rfl⟩

def itemV (k pc:Int):Value:=if inB8 k 0 2=true∧inB8 pc 0 6=true then .tuple #[.int .i64 (8*k+pc),.int .i64 0] else .tuple #[.int .i64 0,.int .i64 4]
theorem itemV_yes {k pc:Int} (h1:inB8 k 0 2=true) (h2:inB8 pc 0 6=true):itemV k pc=.tuple #[.int .i64 (8*k+pc),.int .i64 0]:=if_pos ⟨h1,h2⟩
theorem itemV_no1 {k pc:Int} (h1:inB8 k 0 2=false):itemV k pc=.tuple #[.int .i64 0,.int .i64 4]:=if_neg (by rw [h1];simp)
theorem itemV_no2 {k pc:Int} (h2:inB8 pc 0 6=false):itemV k pc=.tuple #[.int .i64 0,.int .i64 4]:=if_neg (by rw [h2];simp)

theorem implItemOf_is (k pc:Int) (w:World):Calls Tryz.prog 101 #[.int .i64 k,.int .i64 pc] w fun e w'=>e=.returned (itemV k pc)∧w=w':=by
 have kT:=isThread8 k
 have kP:=isPlace8 pc
 cases hA:inB8 k 0 2
 ·rw [itemV_no1 hA]
  rw [hA] at kT
  clear hA
  go_enter Tryz.func101,Tryz.ntmps101
  go_wp2_with fail
  refine (kT _).mono ?_
  rintro e w1 ⟨rfl,rfl⟩
  go_wp2
  go_ret2
  exact ⟨rfl,rfl⟩
 ·cases hB:inB8 pc 0 6
  ·rw [itemV_no2 hB]
   rw [hA] at kT
   rw [hB] at kP
   clear hA hB
   go_enter Tryz.func101,Tryz.ntmps101
   go_wp2_with fail
   refine (kT _).mono ?_
   rintro e w1 ⟨rfl,rfl⟩
   go_wp2_with fail
   refine (kP _).mono ?_
   rintro e w1 ⟨rfl,rfl⟩
   go_wp2
   go_ret2
   exact ⟨rfl,rfl⟩
  ·rw [itemV_yes hA hB]
   rw [hA] at kT
   rw [hB] at kP
   obtain ⟨a1,a2⟩:=inB8_true.1 hA
   obtain ⟨b1,b2⟩:=inB8_true.1 hB
   clear hA hB
   have q1:IntKind.i64.wrap (8*k)=8*k:=by rw [IntKind.wrap_i64];omega
   have q2:IntKind.i64.wrap (8*k+pc)=8*k+pc:=by rw [IntKind.wrap_i64];omega
   go_enter Tryz.func101,Tryz.ntmps101
   go_wp2_with fail
   refine (kT _).mono ?_
   rintro e w1 ⟨rfl,rfl⟩
   go_wp2_with fail
   refine (kP _).mono ?_
   rintro e w1 ⟨rfl,rfl⟩
   go_wp2
   go_ret2
   exact ⟨rfl,rfl⟩

theorem l08Item_is (k pc:Int) (w:World) (h1:inB8 k 0 2=true) (h2:inB8 pc 0 6=true):Calls Tryz.prog 136 #[.int .i64 k,.int .i64 pc] w fun e w'=>e=.returned (.int .i64 (8*k+pc))∧w=w':=by
 obtain ⟨a1,a2⟩:=inB8_true.1 h1
 obtain ⟨b1,b2⟩:=inB8_true.1 h2
 clear h1 h2
 have q1:IntKind.i64.wrap (8*k)=8*k:=by rw [IntKind.wrap_i64];omega
 have q2:IntKind.i64.wrap (8*k+pc)=8*k+pc:=by rw [IntKind.wrap_i64];omega
 go_enter Tryz.func136,Tryz.ntmps136
 go_wp2
 go_ret
 exact ⟨rfl,rfl⟩

def itOk (n:Int):Bool:=decide (0≤n∧n≤22∧n % 8≤6)
def atV (n:Int):Value:=if itOk n=true then .tuple #[.int .i64 (n / 8),.int .i64 (n % 8),.int .i64 0] else .tuple #[.int .i64 0,.int .i64 0,.int .i64 4]
theorem atV_yes {n:Int} (h:itOk n=true):atV n=.tuple #[.int .i64 (n / 8),.int .i64 (n % 8),.int .i64 0]:=if_pos h
theorem atV_no {n:Int} (h:itOk n=false):atV n=.tuple #[.int .i64 0,.int .i64 0,.int .i64 4]:=if_neg (by rw [h];simp)

theorem quo8 (n:Int) (h:-9223372036854775808≤n∧n≤9223372036854775807):∃ q r:Int,n.tdiv 8=q∧n.tmod 8=r∧IntKind.i64.wrap q=q∧IntKind.i64.wrap r=r∧itOk n=(inB8 q 0 2 && inB8 r 0 6)∧(itOk n=true→q=n / 8∧r=n % 8)∧(0≤n→q=n / 8∧r=n % 8):=by
 rcases Int.lt_or_le n 0 with hn | hn
 ·have e1:n.tdiv 8=- ((-n) / 8):=by
   have:n=- (- n):=by omega
   rw [this,Int.neg_tdiv,Int.tdiv_eq_ediv_of_nonneg (by omega)];omega
  have e2:n.tmod 8=- ((-n) % 8):=by
   have:n=- (- n):=by omega
   rw [this,Int.neg_tmod,Int.tmod_eq_emod_of_nonneg (by omega)];omega
  refine ⟨_,_,e1,e2,by rw [IntKind.wrap_i64];omega,by rw [IntKind.wrap_i64];omega,?_,?_,by omega⟩
  ·have hz:itOk n=false:=by simp only [itOk,decide_eq_false_iff_not];omega
   rw [hz]
   symm
   rw [Bool.and_eq_false_iff]
   rcases Int.lt_or_le ((-n) / 8) 1 with h1 | h1
   ·right;rw [inB8_false];omega
   ·left;rw [inB8_false];omega
  ·intro hz
   simp only [itOk,decide_eq_true_eq] at hz
   omega
 ·have e1:n.tdiv 8=n / 8:=Int.tdiv_eq_ediv_of_nonneg hn
  have e2:n.tmod 8=n % 8:=Int.tmod_eq_emod_of_nonneg hn
  refine ⟨_,_,e1,e2,by rw [IntKind.wrap_i64];omega,by rw [IntKind.wrap_i64];omega,?_,fun _=>⟨rfl,rfl⟩,fun _=>⟨rfl,rfl⟩⟩
  rw [Bool.eq_iff_iff,Bool.and_eq_true,inB8_true,inB8_true]
  simp only [itOk,decide_eq_true_eq]
  omega

theorem implItemAt_is (n:Int) (hn:-9223372036854775808≤n∧n≤9223372036854775807) (w:World):Calls Tryz.prog 138 #[.int .i64 n] w fun e w'=>e=.returned (atV n)∧w=w':=by
 obtain ⟨q,r,e1,e2,u1,u2,hOk,hYes,_⟩:=quo8 n hn
 clear hn
 have kT:=isThread8 q
 have kP:=isPlace8 r
 cases hA:inB8 q 0 2
 ·rw [atV_no (by rw [hOk,hA];rfl)]
  rw [hA] at kT
  clear hA hOk hYes
  go_enter Tryz.func138,Tryz.ntmps138
  go_wp2_with fail
  refine (kT _).mono ?_
  rintro e w1 ⟨rfl,rfl⟩
  go_wp2
  go_ret3
  exact ⟨rfl,rfl⟩
 ·cases hB:inB8 r 0 6
  ·rw [atV_no (by rw [hOk,hA,hB];rfl)]
   rw [hA] at kT
   rw [hB] at kP
   clear hA hB hOk hYes
   go_enter Tryz.func138,Tryz.ntmps138
   go_wp2_with fail
   refine (kT _).mono ?_
   rintro e w1 ⟨rfl,rfl⟩
   go_wp2_with fail
   refine (kP _).mono ?_
   rintro e w1 ⟨rfl,rfl⟩
   go_wp2
   go_ret3
   exact ⟨rfl,rfl⟩
  ·have hz:itOk n=true:=by rw [hOk,hA,hB];rfl
   rw [atV_yes hz]
   obtain ⟨f1,f2⟩:=hYes hz
   rw [hA] at kT
   rw [hB] at kP
   rw [← f1,← f2]
   clear hA hB hOk hYes hz f1 f2
   go_enter Tryz.func138,Tryz.ntmps138
   go_wp2_with fail
   refine (kT _).mono ?_
   rintro e w1 ⟨rfl,rfl⟩
   go_wp2_with fail
   refine (kP _).mono ?_
   rintro e w1 ⟨rfl,rfl⟩
   go_wp2
   go_ret3
   exact ⟨rfl,rfl⟩

theorem isItem_is (n:Int) (hn:-9223372036854775808≤n∧n≤9223372036854775807) (w:World):Calls Tryz.prog 104 #[.int .i64 n] w fun e w'=>e=.returned (.bool (itOk n))∧w=w':=by
 have kO:=implItemAt_is n hn
 clear hn
 cases hA:itOk n
 ·rw [atV_no hA] at kO
  clear hA
  go_enter Tryz.func104,Tryz.ntmps104
  go_wp2_with fail
  refine (kO _).mono ?_
  rintro e w1 ⟨rfl,rfl⟩
  go_wp2
  go_ret
  exact ⟨rfl,rfl⟩
 ·rw [atV_yes hA] at kO
  clear hA
  go_enter Tryz.func104,Tryz.ntmps104
  go_wp2_with fail
  refine (kO _).mono ?_
  rintro e w1 ⟨rfl,rfl⟩
  go_wp2
  go_ret
  exact ⟨rfl,rfl⟩

theorem in_wf8 {n:Int} (h:(Lit.int .i64 n).wf=true):-9223372036854775808≤n∧n≤9223372036854775807:=by
 have h1:IntKind.i64.min=-9223372036854775808:=by decide
 have h2:IntKind.i64.max=9223372036854775807:=by decide
 simp [Lit.wf,h1,h2] at h
 omega


def RowGot (e:Ending) (w':World) (B:Nat) (xs:List Int):Prop:=∃ v,e=.returned v∧w'.ownsRow B 3 1 v xs.length (xs.map (Value.int .i64))
theorem bel8 {a b c:World} (h:Below a.heap.size a b) (k:Below b.heap.size b c):Below a.heap.size a c:=h.trans (k.mono h.size)
theorem owns8 {B e k n:Nat} {v:Value} {xs:List Value} {w w':World} (h:w.ownsRow B e k v n xs) (hb:Below w.heap.size w w'):w'.ownsRow B e k v n xs:=
 h.kept (row:=none) ⟨hb.os,hb.tape,hb.output,hb.size,fun i hi _=>hb.block i hi⟩ (by cases v.ownBlock<;>simp)
theorem cell8 {w w':World} (h:Below w.heap.size w w') {p:Addr} {v:Value} (hv:w.cell? p=some v):w'.cell? p=some v:=by
 rw [h.cell (World.block_lt_of_cell? _ _ hv)]
 exact hv
theorem grown8 {w w':World} {row:Option Nat} (g:w.grownBy w' row) {p:Addr} {v:Value} (hc:w.cell? p=some v) (hne:some p.block≠row):w'.cell? p=some v:=by
 have hl:=World.block_lt_of_cell? _ _ hc
 rw [← hc]
 unfold World.cell?
 rw [g.block p.block hl hne]
theorem lower8 {w:World} {B B' e s n:Nat} {v:Value} {cs:List Value} (h:w.ownsRow B e s v n cs) (hB:B'≤B):w.ownsRow B' e s v n cs:=by
 refine ⟨h.1,?_⟩
 rcases h.2 with h0 | ⟨g,cap,cur,hv,hg,rest⟩
 ·exact .inl h0
 ·exact .inr ⟨g,cap,cur,hv,by omega,rest⟩
theorem some8 {w:World} {B e s n:Nat} {v:Value} {cs:List Value} (h:w.ownsRow B e s v n cs) (hn:0<n):∃ g c,v=.slice (some ⟨g,0,none⟩) n c:=by
 rcases h.2 with ⟨rfl,h0⟩ | ⟨g,cap,cur,hv,_⟩
 ·omega
 ·exact ⟨g,cap,hv⟩
theorem slice8 {w:World} {B e s n:Nat} {v:Value} {cs:List Value} (h:w.ownsRow B e s v n cs):∃ a c,v=.slice a n c:=by
 rcases h.2 with ⟨rfl,h0⟩ | ⟨g,cap,cur,hv,_⟩
 ·subst h0;exact ⟨none,0,rfl⟩
 ·exact ⟨some ⟨g,0,none⟩,cap,hv⟩
theorem empty8 (w:World) (t s B:Nat) (hB:B≤w.heap.size):(w.alloc (.cells #[] t)).ownsRow B t s (.slice (some ⟨w.heap.size,0,none⟩) 0 0) 0 []:=World.ownsRow_lit w #[] 0 hB (by unfold maxLen;omega) (by simp)
theorem ints8 {w:World} {B n c:Nat} {a:Option Addr} {xs:List Int} (h:w.ownsRow B 3 1 (.slice a n c) n (xs.map (Value.int .i64))):Ints .i64 w a n c xs:=by
 rcases h.2 with ⟨e,h0⟩ | ⟨b,cc,cur,e,h1,h2,h3,h4⟩
 ·cases e
  have hl:=h.1
  exact ⟨by simpa using hl,Nat.le_refl _,by unfold maxLen;omega,.inl rfl⟩
 ·cases e
  exact Ints.of_owns h
theorem news8 {w:World} {b off n c:Nat} {xs:List Int} (h:Ints .i64 w (some ⟨b,off,none⟩) n c xs):∀ j u,(xs.map (Value.int .i64))[j]?=some u→w.cell? ((⟨b,off,none⟩:Addr).add j)=some u:=by
 intro j u hj
 obtain ⟨hl,_,_,hcase⟩:=h
 have hjl:j<xs.length:=by simpa using (List.getElem?_eq_some_iff.1 hj).1
 rcases hcase with h0 | ⟨b',off',he,hb,hc⟩
 ·omega
 ·cases he
  have:=hc j (by omega)
  have e:(⟨b,off,none⟩:Addr).add j=⟨b,off+j,none⟩:=by unfold Addr.add;split<;>simp_all
  rw [e,this]
  simp [List.getElem?_eq_getElem hjl] at hj
  simp [List.getD,List.getElem?_eq_getElem hjl,hj]
theorem one8 (xs:List Int):∀ u ∈ xs.map (Value.int .i64),u.oneCell'=true:=by
 intro u hu
 obtain ⟨x,_,rfl⟩:=List.mem_map.1 hu
 rfl
theorem step_app8 {P:Program} {ops:Array Oper} {o:Oper} {a:Act} {w:World} {K:Act→World→Prop} {Q:Exit→Act→World→Prop} {E:Prop}
  (hg:o.guard=none) (s x:Operand) (t:TypeId) (hop:o.op=Op.call { callee:=Callee.builtin Builtin.append,args:=#[s,x],argTypes:=#[t,t] })
  (base:Nat) (e:TypeId) (i:TypeInfo) (z:Value) (size bytes:Nat) (h1:P.underlying t=some (.slice e)) (h2:P.info? e=some i) (h3:i.zero=some z) (h4:i.size=size) (h5:i.bytes=bytes) (h6:z.cells.size=size) (h7:0<size)
  (v:Value) (n:Nat) (olds:List Value) (hs:a.eval s=v) (hown:w.ownsRow base e size v n olds)
  (ad:Addr) (m c:Nat) (news:List Value) (hx:a.eval x=.slice (some ad) m c) (hn:news.length=m*size) (hc:∀ j u,news[j]?=some u→w.cell? (ad.add j)=some u) (h1c:∀ u ∈ news,u.oneCell'=true)
  (b1:n+m≤maxLen) (b2:(n+m)*bytes≤140737488355328) (hbw:base≤w.heap.size)
  (hK:∀ v' w',w'.ownsRow base e size v' (n+m) (olds++news)→w.grownBy w' v.ownBlock→(v'.ownBlock=v.ownBlock∨v'.ownBlock=some w.heap.size)→K (a.put o.dst v') w') :
  if Region.wanted o (yielded ops a.tmps)=true then Oper.wp P o a w K Q else E:=by
 have hw:Region.wanted o (yielded ops a.tmps)=true:=by simp [Region.wanted,hg]
 rw [if_pos hw]
 obtain ⟨v',w',hrun,r1,r2,_,r4⟩:=run_append_own_at (P:=P) (w:=w) base t o.type e i z size bytes h1 h2 h3 h4 h5 h6 h7 v n olds hown ad m c news hn hc h1c b1 b2 hbw
 subst hs
 unfold Oper.wp
 simp [execOp,hop,resolve,invoke,builtin,hx,hrun,Result.andThen]
 exact hK v' w' r1 r2 r4
theorem slice_h8 {w:World} {b off len cap hi:Nat} {xs:List Int} (h:Ints .i64 w (some ⟨b,off,none⟩) len cap xs) (h2:hi≤len) :
  (∀ W,(Instr.slice 35 (.slice (some ⟨b,off,none⟩) len cap) none (some (.int .i64 (hi:Int))) none).run Tryz.prog W=.ok (.slice (some ⟨b,off,none⟩) hi cap) W)∧Ints .i64 w (some ⟨b,off,none⟩) hi cap (xs.take hi):=by
 obtain ⟨hl,hlc,hcm,hcase⟩:=h
 have hhc:(hi:Int)≤(cap:Int):=by omega
 refine ⟨fun W=>?_,by rw [List.length_take];omega,by omega,by omega,?_⟩
 ·go_simp
  try omega
 ·rcases hcase with h0 | ⟨b',off',he,hb,hc⟩
  ·exact .inl (by omega)
  ·cases he
   refine .inr ⟨b,off,rfl,hb,fun t ht=>?_⟩
   rw [hc t (by omega)]
   simp [List.getD,ht]
theorem slice_l8 {w:World} {b off len cap lo:Nat} {xs:List Int} (h:Ints .i64 w (some ⟨b,off,none⟩) len cap xs) (h1:lo≤len) :
  ∃ o2,(∀ W,(Instr.slice 35 (.slice (some ⟨b,off,none⟩) len cap) (some (.int .i64 (lo:Int))) none none).run Tryz.prog W=.ok (.slice (some ⟨b,o2,none⟩) (len - lo) (cap - lo)) W)∧Ints .i64 w (some ⟨b,o2,none⟩) (len - lo) (cap - lo) (xs.drop lo):=by
 obtain ⟨hl,hlc,hcm,hcase⟩:=h
 have hlh:(lo:Int)≤(len:Int):=by omega
 by_cases hz:cap - lo=0
 ·refine ⟨off,fun W=>?_,by rw [List.length_drop];omega,by omega,by omega,.inl (by omega)⟩
  go_simp
  omega
 ·refine ⟨off+lo,fun W=>?_,by rw [List.length_drop];omega,by omega,by omega,?_⟩
  ·go_simp
   omega
  ·rcases hcase with h0 | ⟨b',off',he,hb,hc⟩
   ·exact .inl (by omega)
   ·cases he
    refine .inr ⟨b,off+lo,rfl,hb,fun t ht=>?_⟩
    have:=hc (lo+t) (by omega)
    rw [show off+lo+t=off+(lo+t) by omega,this]
    simp [List.getD]

set_option linter.unusedSimpArgs false

def lookM (m:V4):List Int:=[m.1.getD 0 0,8+m.1.getD 1 0,16+m.1.getD 2 0]
theorem look_ok {m:V4} (hs:shapeOk m=true):∀ z ∈ lookM m,itOk z=true:=by
 obtain ⟨h,_⟩:=shape_bounds hs
 obtain ⟨hl,_⟩:=shape_parts hs
 have hp:∀ k,k<3→0≤m.1.getD k 0∧m.1.getD k 0≤6:=fun k hk=>h _ (by simp [List.getD,List.getElem?_eq_getElem (show k<m.1.length by omega)])
 have p0:=hp 0 (by omega)
 have p1:=hp 1 (by omega)
 have p2:=hp 2 (by omega)
 intro z hz
 simp only [lookM,List.mem_cons,List.not_mem_nil,or_false] at hz
 simp only [itOk,decide_eq_true_eq]
 rcases hz with rfl | rfl | rfl<;>omega
theorem pcs_ok {m:V4} (hs:shapeOk m=true) {k:Nat} (hk:k<3):inB8 (m.1.getD k 0) 0 6=true:=by
 obtain ⟨h,_⟩:=shape_bounds hs
 obtain ⟨hl,_⟩:=shape_parts hs
 exact inB8_true.2 (h _ (by simp [List.getD,List.getElem?_eq_getElem (show k<m.1.length by omega)]))
def lookR (p0 p1 p2:Int) (k:Nat):List Int:=[p0,8+p1,16+p2].take k
theorem looks_raw (g o:Nat) (a0 a1 a2:Option Addr) (n0 d0 n1 d1 n2 d2:Nat) (p0 x0 y0 p1 x1 y1 p2 x2 y2:Int) (w:World) (h:w.rangeAt g o [.slice a0 n0 d0,.int .i64 p0,.int .i64 x0,.int .i64 y0,.slice a1 n1 d1,.int .i64 p1,.int .i64 x1,.int .i64 y1,.slice a2 n2 d2,.int .i64 p2,.int .i64 x2,.int .i64 y2]) (f0:inB8 p0 0 6=true) (f1:inB8 p1 0 6=true) (f2:inB8 p2 0 6=true) :
  Calls Tryz.prog 53 #[.pointer (some ⟨g,o,none⟩)] w fun e w'=>RowGot e w' w.heap.size [p0,8+p1,16+p2]∧Below w.heap.size w w':=by
 obtain ⟨i0,hi,hz0,hz1,hz2⟩:=info_parts info_int
 have k0:=@idxT_0
 have k1:=@idxT_1
 have k2:=@idxT_2
 go_enter Tryz.func53,Tryz.ntmps53
 go_wp2_with (refine wpList_load_mid rfl 67 _ rfl g o rfl [.slice a0 n0 d0,.int .i64 p0,.int .i64 x0,.int .i64 y0,.slice a1 n1 d1,.int .i64 p1,.int .i64 x1,.int .i64 y1,.slice a2 n2 d2,.int .i64 p2,.int .i64 x2,.int .i64 y2] _ h Tryz.underlying67 rfl (by kernel_rfl) ?_)
 clear h
 go_loopw [3,12] (fun so si wr=>∃ (k:Nat) (v:Value),v=so∧k≤3∧si=.int .i64 k∧wr.ownsRow w.heap.size 3 1 v k ((lookR p0 p1 p2 k).map (Value.int .i64))∧Below w.heap.size w wr) (fun _ si _=>3 - (Go.RowKit.intOf si).toNat)
 case atStart=>exact ⟨0,_,rfl,by omega,rfl,World.ownsRow_nil _ _ _ _,Below.refl _ _⟩
 case round =>
  obtain ⟨k,so,rfl,hk,rfl,q,bw⟩:=hrel
  have hk4:k=0∨k=1∨k=2∨k=3:=by omega
  rcases hk4 with rfl | rfl | rfl | rfl
  ·clear k1 k2
   have pN:=Blk.new wr 66 [.slice none 0 0,.int .i64 0,.int .i64 0,.int .i64 0]
   have bN:Below wr.heap.size wr (wr.alloc (.cells #[.slice none 0 0,.int .i64 0,.int .i64 0,.int .i64 0] 66)):=by go_grown
   have kI:=implItemOf_is 0 p0
   rw [itemV_yes (by decide) f0,show 8*(0:Int)+p0=p0 by omega] at kI
   go_wp2_with (refine wpList_store_blk rfl 66 _ _ rfl wr.heap.size [.slice a0 n0 d0,.int .i64 p0,.int .i64 x0,.int .i64 y0] rfl rfl pN (by kernel_rfl) rfl rfl ?_)
   intro w2 p2x g2
   have pM:=p2x.out
   have b2:Below wr.heap.size wr w2:=bN.grown g2 bN.size (fun k e=>by cases e;exact Nat.le_refl _)
   have q2:=owns8 q b2
   have bw2:=bel8 bw b2
   have hc1:w2.cell? ⟨wr.heap.size,1,none⟩=some (.int .i64 p0):=by simpa using pM.cell 1
   have hsz:=bw2.size
   clear p2x g2 bN pN b2 q pM bw
   generalize wr.heap.size=G at *
   go_wp2_with fail
   refine (kI _).mono ?_
   rintro e w3 ⟨rfl,rfl⟩
   clear kI
   go_wp2_with (at_builtin;refine wpList_append_own _ rfl _ _ 35 rfl w.heap.size 3 i0 (.int .i64 0) 1 8 Tryz.underlying35 hi hz0 hz1 hz2 rfl (by decide) _ _ _ rfl (q2.alloc _) ⟨w2.heap.size,0,none⟩ 1 1 [.int .i64 p0] rfl rfl (cell_one_new _ _ _) (by simp [Value.oneCell']) ?c3 ?c4 ?c5 ?_)
   case c3=>unfold maxLen;omega
   case c4=>omega
   case c5=>simp;omega
   intro v' wn hown' hgrow _
   have bn:Below w.heap.size w wn:=(bw2.alloc hsz _).grown hgrow (by simp;omega) (fun k hk=>(q2.lt k hk).1)
   clear hgrow q2 bw2 hc1
   go_wp2
   go_roundw
   case rel =>
    have R9:wn.ownsRow w.heap.size 3 1 v' 1 ((lookR p0 p1 p2 1).map (Value.int .i64)):=by exact hown'
    first | exact ⟨1,_,rfl,by omega,by go_num,R9,bn⟩ | exact ⟨_,_,_,_,_,_,_,_,_,_,_,_,_,_,_,_,_,_,_,_,_,⟨1,_,rfl,by omega,by go_num,R9,bn⟩,rfl⟩
   case measure=>first | (simp [Go.RowKit.intOf];done) | decide
  ·clear k0 k2
   have pN:=Blk.new wr 66 [.slice none 0 0,.int .i64 0,.int .i64 0,.int .i64 0]
   have bN:Below wr.heap.size wr (wr.alloc (.cells #[.slice none 0 0,.int .i64 0,.int .i64 0,.int .i64 0] 66)):=by go_grown
   have kI:=implItemOf_is 1 p1
   rw [itemV_yes (by decide) f1,show 8*(1:Int)+p1=8+p1 by omega] at kI
   go_wp2_with (refine wpList_store_blk rfl 66 _ _ rfl wr.heap.size [.slice a1 n1 d1,.int .i64 p1,.int .i64 x1,.int .i64 y1] rfl rfl pN (by kernel_rfl) rfl rfl ?_)
   intro w2 p2x g2
   have pM:=p2x.out
   have b2:Below wr.heap.size wr w2:=bN.grown g2 bN.size (fun k e=>by cases e;exact Nat.le_refl _)
   have q2:=owns8 q b2
   have bw2:=bel8 bw b2
   have hc1:w2.cell? ⟨wr.heap.size,1,none⟩=some (.int .i64 p1):=by simpa using pM.cell 1
   have hsz:=bw2.size
   clear p2x g2 bN pN b2 q pM bw
   generalize wr.heap.size=G at *
   go_wp2_with fail
   refine (kI _).mono ?_
   rintro e w3 ⟨rfl,rfl⟩
   clear kI
   generalize hzz:8+p1=zz at *
   go_wp2_with (at_builtin;refine wpList_append_own _ rfl _ _ 35 rfl w.heap.size 3 i0 (.int .i64 0) 1 8 Tryz.underlying35 hi hz0 hz1 hz2 rfl (by decide) _ _ _ rfl (q2.alloc _) ⟨w2.heap.size,0,none⟩ 1 1 [.int .i64 zz] rfl rfl (cell_one_new _ _ _) (by simp [Value.oneCell']) ?c3 ?c4 ?c5 ?_)
   case c3=>unfold maxLen;omega
   case c4=>omega
   case c5=>simp;omega
   intro v' wn hown' hgrow _
   have bn:Below w.heap.size w wn:=(bw2.alloc hsz _).grown hgrow (by simp;omega) (fun k hk=>(q2.lt k hk).1)
   clear hgrow q2 bw2 hc1
   go_wp2
   go_roundw
   case rel =>
    have R9:wn.ownsRow w.heap.size 3 1 v' 2 ((lookR p0 p1 p2 2).map (Value.int .i64)):=by subst hzz;exact hown'
    first | exact ⟨2,_,rfl,by omega,by go_num,R9,bn⟩ | exact ⟨_,_,_,_,_,_,_,_,_,_,_,_,_,_,_,_,_,_,_,_,_,⟨2,_,rfl,by omega,by go_num,R9,bn⟩,rfl⟩
   case measure=>first | (simp [Go.RowKit.intOf];done) | decide
  ·clear k0 k1
   have pN:=Blk.new wr 66 [.slice none 0 0,.int .i64 0,.int .i64 0,.int .i64 0]
   have bN:Below wr.heap.size wr (wr.alloc (.cells #[.slice none 0 0,.int .i64 0,.int .i64 0,.int .i64 0] 66)):=by go_grown
   have kI:=implItemOf_is 2 p2
   rw [itemV_yes (by decide) f2,show 8*(2:Int)+p2=16+p2 by omega] at kI
   go_wp2_with (refine wpList_store_blk rfl 66 _ _ rfl wr.heap.size [.slice a2 n2 d2,.int .i64 p2,.int .i64 x2,.int .i64 y2] rfl rfl pN (by kernel_rfl) rfl rfl ?_)
   intro w2 p2x g2
   have pM:=p2x.out
   have b2:Below wr.heap.size wr w2:=bN.grown g2 bN.size (fun k e=>by cases e;exact Nat.le_refl _)
   have q2:=owns8 q b2
   have bw2:=bel8 bw b2
   have hc1:w2.cell? ⟨wr.heap.size,1,none⟩=some (.int .i64 p2):=by simpa using pM.cell 1
   have hsz:=bw2.size
   clear p2x g2 bN pN b2 q pM bw
   generalize wr.heap.size=G at *
   go_wp2_with fail
   refine (kI _).mono ?_
   rintro e w3 ⟨rfl,rfl⟩
   clear kI
   generalize hzz:16+p2=zz at *
   go_wp2_with (at_builtin;refine wpList_append_own _ rfl _ _ 35 rfl w.heap.size 3 i0 (.int .i64 0) 1 8 Tryz.underlying35 hi hz0 hz1 hz2 rfl (by decide) _ _ _ rfl (q2.alloc _) ⟨w2.heap.size,0,none⟩ 1 1 [.int .i64 zz] rfl rfl (cell_one_new _ _ _) (by simp [Value.oneCell']) ?c3 ?c4 ?c5 ?_)
   case c3=>unfold maxLen;omega
   case c4=>omega
   case c5=>simp;omega
   intro v' wn hown' hgrow _
   have bn:Below w.heap.size w wn:=(bw2.alloc hsz _).grown hgrow (by simp;omega) (fun k hk=>(q2.lt k hk).1)
   clear hgrow q2 bw2 hc1
   go_wp2
   go_roundw
   case rel =>
    have R9:wn.ownsRow w.heap.size 3 1 v' 3 ((lookR p0 p1 p2 3).map (Value.int .i64)):=by subst hzz;exact hown'
    first | exact ⟨3,_,rfl,by omega,by go_num,R9,bn⟩ | exact ⟨_,_,_,_,_,_,_,_,_,_,_,_,_,_,_,_,_,_,_,_,_,⟨3,_,rfl,by omega,by go_num,R9,bn⟩,rfl⟩
   case measure=>first | (simp [Go.RowKit.intOf];done) | decide
  ·obtain ⟨ga,gc,rfl⟩:=some8 q (by omega)
   clear k0 k1 k2
   go_wp2
   go_ret
   exact ⟨⟨_,rfl,q⟩,bw⟩
theorem looks_is (g o:Nat) (cs:Sl × Sl × Sl) (m:V4) (w:World) (h:w.rangeAt g o (machCells cs.1.val cs.2.1.val cs.2.2.val m)) (hs:shapeOk m=true) :
  Calls Tryz.prog 53 #[.pointer (some ⟨g,o,none⟩)] w fun e w'=>RowGot e w' w.heap.size (lookM m)∧Below w.heap.size w w':=by
 obtain ⟨⟨a0,n0,d0⟩,⟨a1,n1,d1⟩,⟨a2,n2,d2⟩⟩:=cs
 refine looks_raw g o a0 a1 a2 n0 d0 n1 d1 n2 d2 (m.1.getD 0 0) (m.2.2.2.getD 0 0) (m.2.2.2.getD 1 0) (m.1.getD 1 0) (m.2.2.2.getD 2 0) (m.2.2.2.getD 3 0) (m.1.getD 2 0) (m.2.2.2.getD 4 0) (m.2.2.2.getD 5 0) w (fun j v hj=>?_) (pcs_ok hs (by omega)) (pcs_ok hs (by omega)) (pcs_ok hs (by omega))
 refine h j v ?_
 have hl:=(List.getElem?_eq_some_iff.1 hj).1
 simp only [List.length_cons,List.length_nil] at hl
 match j,hl with
 | 0,_=>exact hj
 | 1,_=>exact hj
 | 2,_=>exact hj
 | 3,_=>exact hj
 | 4,_=>exact hj
 | 5,_=>exact hj
 | 6,_=>exact hj
 | 7,_=>exact hj
 | 8,_=>exact hj
 | 9,_=>exact hj
 | 10,_=>exact hj
 | 11,_=>exact hj


def putI:List Int→Int→List Int
 | [],n=>[n]
 | x::xs,n=>if x<n then x::putI xs n else if x=n then x::xs else n::x::xs
def mrgI (xs:List Int):List Int:=xs.foldl putI []
theorem putI_mem:∀ (xs:List Int) (n y:Int),y ∈ putI xs n↔y=n∨y ∈ xs
 | [],n,y=>by simp [putI]
 | x::xs,n,y=>by
  unfold putI
  split
  ·simp only [List.mem_cons,putI_mem xs n y]
   constructor
   ·rintro (h | h | h)
    ·exact .inr (.inl h)
    ·exact .inl h
    ·exact .inr (.inr h)
   ·rintro (h | h | h)
    ·exact .inr (.inl h)
    ·exact .inl h
    ·exact .inr (.inr h)
  ·split
   ·rename_i h
    subst h
    simp
   ·simp
theorem putI_rises:∀ (xs:List Int) (n:Int),xs.Pairwise (· < ·)→(putI xs n).Pairwise (· < ·)
 | [],n,_=>by simp [putI]
 | x::xs,n,h=>by
  obtain ⟨h1,h2⟩:=List.pairwise_cons.1 h
  unfold putI
  split
  ·rename_i hx
   refine List.pairwise_cons.2 ⟨fun y hy=>?_,putI_rises xs n h2⟩
   rcases (putI_mem xs n y).1 hy with rfl | hy
   ·exact hx
   ·exact h1 y hy
  ·split
   ·exact h
   ·refine List.pairwise_cons.2 ⟨fun y hy=>?_,h⟩
    rcases List.mem_cons.1 hy with rfl | hy
    ·omega
    ·have:=h1 y hy
     omega
theorem foldl_putI:∀ (xs acc:List Int),acc.Pairwise (· < ·)→(xs.foldl putI acc).Pairwise (· < ·)∧∀ y,y ∈ xs.foldl putI acc↔y ∈ acc∨y ∈ xs
 | [],acc,h=>⟨h,fun y=>by simp⟩
 | x::xs,acc,h=>by
  obtain ⟨h1,h2⟩:=foldl_putI xs (putI acc x) (putI_rises acc x h)
  refine ⟨h1,fun y=>?_⟩
  rw [List.foldl_cons,h2,putI_mem,List.mem_cons]
  constructor
  ·rintro ((h | h) | h)
   ·exact .inr (.inl h)
   ·exact .inl h
   ·exact .inr (.inr h)
  ·rintro (h | h | h)
   ·exact .inl (.inr h)
   ·exact .inl (.inl h)
   ·exact .inr h
theorem mrgI_rises (xs:List Int):(mrgI xs).Pairwise (· < ·):=(foldl_putI xs [] List.Pairwise.nil).1
theorem mrgI_mem (xs:List Int) (y:Int):y ∈ mrgI xs↔y ∈ xs:=by
 have:=(foldl_putI xs [] List.Pairwise.nil).2 y
 simpa [mrgI] using this
theorem rises_nodup {xs:List Int} (h:xs.Pairwise (· < ·)):xs.Nodup:=h.imp (fun h e=>by subst e;exact absurd h (by omega))
theorem rises_eq {xs ys:List Int} (h:xs.Pairwise (· < ·)) (h':ys.Pairwise (· < ·)) (hm:∀ y,y ∈ xs↔y ∈ ys):xs=ys:=by
 have hp:xs.Perm ys:=(List.perm_ext_iff_of_nodup (rises_nodup h) (rises_nodup h')).2 hm
 exact hp.eq_of_pairwise (le:=fun a b=>a<b) (fun a b _ _ h1 h2=>absurd h1 (by omega)) h h'
theorem mrgI_eq {xs ys:List Int} (h:∀ y,y ∈ xs↔y ∈ ys):mrgI xs=mrgI ys:=rises_eq (mrgI_rises xs) (mrgI_rises ys) (fun y=>by rw [mrgI_mem,mrgI_mem,h])
theorem putI_len (xs:List Int) (n:Int):(putI xs n).length≤xs.length+1:=by
 induction xs with
 | nil=>simp [putI]
 | cons x xs ih =>
  unfold putI
  split
  ·simp;omega
  ·split<;>simp
theorem foldl_putI_len:∀ (xs acc:List Int),(xs.foldl putI acc).length≤acc.length+xs.length
 | [],acc=>by simp
 | x::xs,acc=>by
  have:=foldl_putI_len xs (putI acc x)
  have:=putI_len acc x
  simp
  omega
theorem mrgI_len (xs:List Int):(mrgI xs).length≤xs.length:=by simpa [mrgI] using foldl_putI_len xs []
theorem putI_at:∀ (xs:List Int) (n:Int) (k:Nat),k≤xs.length→(∀ i,i<k→xs.getD i 0<n)→(k=xs.length∨¬ xs.getD k 0<n)→putI xs n=if k<xs.length∧xs.getD k 0=n then xs else xs.take k++[n]++xs.drop k
 | [],n,k,hk,_,_=>by
  have:k=0:=by simpa using hk
  subst this
  simp [putI]
 | x::xs,n,0,_,_,h=>by
  have hx:¬ x<n:=by simpa using h
  unfold putI
  rw [if_neg hx]
  simp
 | x::xs,n,k+1,hk,hl,h=>by
  have hx:x<n:=by simpa using hl 0 (by omega)
  unfold putI
  rw [if_pos hx]
  have ih:=putI_at xs n k (by simpa using hk) (fun i hi=>by simpa using hl (i+1) (by omega)) (by simpa using h)
  rw [ih]
  simp only [List.length_cons,Nat.add_lt_add_iff_right,List.getD_cons_succ,List.take_succ_cons,List.drop_succ_cons]
  split<;>simp


section
variable {σ : Type} [DecidableEq σ] (nx : σ → List σ) (lk : σ → List Int)
abbrev St8 (σ:Type):=List σ × List Int
def dfsF:Nat→σ→St8 σ→St8 σ
 | 0,_,st=>st
 | f+1,m,st=>if m ∈ st.1 then st else (nx m).foldl (fun st x=>if st.1.length<2000 then dfsF f x st else st) (st.1++[m],mrgI (st.2++lk m))
def dfsL (f:Nat) (xs:List σ) (st:St8 σ):St8 σ:=xs.foldl (fun st x=>if st.1.length<2000 then dfsF nx lk f x st else st) st
theorem dfsL_cons (f:Nat) (x:σ) (xs:List σ) (st:St8 σ):dfsL nx lk f (x::xs) st=dfsL nx lk f xs (if st.1.length<2000 then dfsF nx lk f x st else st):=rfl
theorem dfsF_old (f:Nat) {m:σ} {st:St8 σ} (h:m ∈ st.1):dfsF nx lk (f+1) m st=st:=if_pos h
theorem dfsF_new (f:Nat) {m:σ} {st:St8 σ} (h:m ∉ st.1):dfsF nx lk (f+1) m st=dfsL nx lk f (nx m) (st.1++[m],mrgI (st.2++lk m)):=if_neg h
theorem dfsL_full (f:Nat) (xs:List σ) {st:St8 σ} (h:¬ st.1.length<2000):dfsL nx lk f xs st=st:=by
 induction xs with
 | nil=>rfl
 | cons x xs ih=>rw [dfsL_cons,if_neg h,ih]
theorem dfs_inv (I:St8 σ→Prop) (R:σ→Prop) (hR:∀ x,R x→∀ y ∈ nx x,R y) (hS:∀ m st,R m→I st→m ∉ st.1→st.1.length<2000→I (st.1++[m],mrgI (st.2++lk m))) :
  ∀ (f:Nat),(∀ (m:σ) (st:St8 σ),R m→I st→st.1.length<2000→I (dfsF nx lk f m st))∧∀ (xs:List σ) (st:St8 σ),(∀ x ∈ xs,R x)→I st→I (dfsL nx lk f xs st):=by
 have fold:∀ f,(∀ (m:σ) (st:St8 σ),R m→I st→st.1.length<2000→I (dfsF nx lk f m st))→∀ (xs:List σ) (st:St8 σ),(∀ x ∈ xs,R x)→I st→I (dfsL nx lk f xs st):=by
  intro f hf xs
  induction xs with
  | nil=>exact fun st _ h=>h
  | cons x xs ih =>
   intro st hx h
   rw [dfsL_cons]
   refine ih _ (fun y hy=>hx y (List.mem_cons_of_mem _ hy)) ?_
   split
   ·rename_i h9
    exact hf x st (hx x List.mem_cons_self) h h9
   ·exact h
 intro f
 induction f with
 | zero=>exact ⟨fun m st _ h _=>h,fold 0 (fun m st _ h _=>h)⟩
 | succ f ih =>
  have hF:∀ (m:σ) (st:St8 σ),R m→I st→st.1.length<2000→I (dfsF nx lk (f+1) m st):=by
   intro m st hm h hl
   by_cases h9:m ∈ st.1
   ·rw [dfsF_old nx lk f h9];exact h
   ·rw [dfsF_new nx lk f h9]
    exact ih.2 _ _ (hR m hm) (hS m st hm h h9 hl)
  exact ⟨hF,fold (f+1) hF⟩
theorem dfs_pre:∀ (f:Nat),(∀ (m:σ) (st:St8 σ),st.1 <+: (dfsF nx lk f m st).1)∧∀ (xs:List σ) (st:St8 σ),st.1 <+: (dfsL nx lk f xs st).1:=by
 have fold:∀ f,(∀ (m:σ) (st:St8 σ),st.1 <+: (dfsF nx lk f m st).1)→∀ (xs:List σ) (st:St8 σ),st.1 <+: (dfsL nx lk f xs st).1:=by
  intro f hf xs
  induction xs with
  | nil=>exact fun st=>List.prefix_refl _
  | cons x xs ih =>
   intro st
   rw [dfsL_cons]
   refine List.IsPrefix.trans ?_ (ih _)
   split
   ·exact hf x st
   ·exact List.prefix_refl _
 intro f
 induction f with
 | zero=>exact ⟨fun m st=>List.prefix_refl _,fold 0 (fun m st=>List.prefix_refl _)⟩
 | succ f ih =>
  have hF:∀ (m:σ) (st:St8 σ),st.1 <+: (dfsF nx lk (f+1) m st).1:=by
   intro m st
   by_cases h9:m ∈ st.1
   ·rw [dfsF_old nx lk f h9];exact List.prefix_refl _
   ·rw [dfsF_new nx lk f h9]
    exact List.IsPrefix.trans (List.prefix_append st.1 [m]) (ih.2 (nx m) (st.1++[m],mrgI (st.2++lk m)))
  exact ⟨hF,fold (f+1) hF⟩
theorem dfs_closed (rk:σ→Nat) (R:σ→Prop) (hR:∀ x,R x→∀ y ∈ nx x,R y∧rk y<rk x) :
  ∀ (f:Nat),(∀ (m:σ) (st:St8 σ),R m→rk m<f→(dfsF nx lk f m st).1.length<2000→m ∈ (dfsF nx lk f m st).1∧∀ x ∈ (dfsF nx lk f m st).1,x ∉ st.1→∀ y ∈ nx x,y ∈ (dfsF nx lk f m st).1) ∧
   ∀ (xs:List σ) (st:St8 σ),(∀ x ∈ xs,R x∧rk x<f)→(dfsL nx lk f xs st).1.length<2000→(∀ x ∈ xs,x ∈ (dfsL nx lk f xs st).1)∧∀ x ∈ (dfsL nx lk f xs st).1,x ∉ st.1→∀ y ∈ nx x,y ∈ (dfsL nx lk f xs st).1:=by
 have fold:∀ f,(∀ (m:σ) (st:St8 σ),R m→rk m<f→(dfsF nx lk f m st).1.length<2000→m ∈ (dfsF nx lk f m st).1∧∀ x ∈ (dfsF nx lk f m st).1,x ∉ st.1→∀ y ∈ nx x,y ∈ (dfsF nx lk f m st).1) →
   ∀ (xs:List σ) (st:St8 σ),(∀ x ∈ xs,R x∧rk x<f)→(dfsL nx lk f xs st).1.length<2000→(∀ x ∈ xs,x ∈ (dfsL nx lk f xs st).1)∧∀ x ∈ (dfsL nx lk f xs st).1,x ∉ st.1→∀ y ∈ nx x,y ∈ (dfsL nx lk f xs st).1:=by
  intro f hf xs
  induction xs with
  | nil=>exact fun st _ _=>⟨fun x hx=>by simp at hx,fun x hx hn=>absurd hx hn⟩
  | cons x xs ih =>
   intro st hx hl
   have hp:=((dfs_pre nx lk f).2 (x::xs) st).length_le
   have h9:st.1.length<2000:=by omega
   rw [dfsL_cons,if_pos h9] at hl ⊢
   have hp1:=(dfs_pre nx lk f).2 xs (dfsF nx lk f x st)
   have hl1:(dfsF nx lk f x st).1.length<2000:=by have:=hp1.length_le;omega
   obtain ⟨c1,c2⟩:=hf x st (hx x List.mem_cons_self).1 (hx x List.mem_cons_self).2 hl1
   obtain ⟨c3,c4⟩:=ih (dfsF nx lk f x st) (fun y hy=>hx y (List.mem_cons_of_mem _ hy)) hl
   refine ⟨fun y hy=>?_,fun z hz hn y hy=>?_⟩
   ·rcases List.mem_cons.1 hy with rfl | hy
    ·exact hp1.subset c1
    ·exact c3 y hy
   ·by_cases hz1:z ∈ (dfsF nx lk f x st).1
    ·exact hp1.subset (c2 z hz1 hn y hy)
    ·exact c4 z hz hz1 y hy
 intro f
 induction f with
 | zero=>exact ⟨fun m st _ h=>by omega,fold 0 (fun m st _ h=>by omega)⟩
 | succ f ih =>
  have hF:∀ (m:σ) (st:St8 σ),R m→rk m<f+1→(dfsF nx lk (f+1) m st).1.length<2000→m ∈ (dfsF nx lk (f+1) m st).1∧∀ x ∈ (dfsF nx lk (f+1) m st).1,x ∉ st.1→∀ y ∈ nx x,y ∈ (dfsF nx lk (f+1) m st).1:=by
   intro m st hm hr hl
   by_cases h9:m ∈ st.1
   ·rw [dfsF_old nx lk f h9] at hl ⊢
    exact ⟨h9,fun x hx hn=>absurd hx hn⟩
   ·rw [dfsF_new nx lk f h9] at hl ⊢
    obtain ⟨c1,c2⟩:=ih.2 (nx m) (st.1++[m],mrgI (st.2++lk m)) (fun y hy=>⟨(hR m hm y hy).1,by have:=(hR m hm y hy).2;omega⟩) hl
    have hp:=(dfs_pre nx lk f).2 (nx m) (st.1++[m],mrgI (st.2++lk m))
    refine ⟨hp.subset (by simp),fun x hx hn y hy=>?_⟩
    by_cases e:x=m
    ·subst e
     exact c1 y hy
    ·exact c2 x hx (by simp [hn,e]) y hy
  exact ⟨hF,fold (f+1) hF⟩
theorem mrgI_more (xs ys:List Int):mrgI (mrgI xs++ys)=mrgI (xs++ys):=mrgI_eq (fun y=>by simp [mrgI_mem])
theorem dfs_foot (f:Nat) (m:σ):(dfsF nx lk f m ([],[])).2=mrgI ((dfsF nx lk f m ([],[])).1.flatMap lk):=
 (dfs_inv nx lk (fun st=>st.2=mrgI (st.1.flatMap lk)) (fun _=>True) (fun _ _ _ _=>trivial) (fun m st _ h _ _=>by
  show mrgI (st.2++lk m)=mrgI ((st.1++[m]).flatMap lk)
  rw [h,mrgI_more]
  simp) f).1 m ([],[]) trivial rfl (by simp)
theorem dfs_nodup (f:Nat) (m:σ):(dfsF nx lk f m ([],[])).1.Nodup:=
 (dfs_inv nx lk (fun st=>st.1.Nodup) (fun _=>True) (fun _ _ _ _=>trivial) (fun m st _ h hn _=>by
  show (st.1++[m]).Nodup
  exact List.nodup_append.2 ⟨h,by simp,fun a ha b hb=>by simp at hb;subst hb;exact fun e=>hn (e▸ha)⟩) f).1 m ([],[]) trivial (by simp) (by simp)
theorem dfs_in (f:Nat) (m:σ) (R:σ→Prop) (hm:R m) (hR:∀ x,R x→∀ y ∈ nx x,R y):∀ x ∈ (dfsF nx lk f m ([],[])).1,R x:=
 (dfs_inv nx lk (fun st=>∀ x ∈ st.1,R x) R hR (fun m st hm h hn _=>by
  intro x hx
  rcases List.mem_append.1 hx with hx | hx
  ·exact h x hx
  ·simp at hx;subst hx;exact hm) f).1 m ([],[]) hm (by simp) (by simp)
theorem dfs_all (f:Nat) (z:σ) (F:List σ) (rk:σ→Nat) (R:σ→Prop) (hz:R z) (hR:∀ x,R x→∀ y ∈ nx x,R y∧rk y<rk x) (hf:rk z<f)
  (hF0:z ∈ F) (hFn:F.Nodup) (hFc:F.length<2000→∀ x ∈ F,∀ y ∈ nx x,y ∈ F) (hFr:∀ C:σ→Prop,C z→(∀ x,C x→∀ y ∈ nx x,C y)→∀ x ∈ F,C x) :
  (F.length<2000→(dfsF nx lk f z ([],[])).1.length<2000∧(dfsF nx lk f z ([],[])).2=mrgI (F.flatMap lk))∧(¬ F.length<2000→¬ (dfsF nx lk f z ([],[])).1.length<2000):=by
 have hcl:(dfsF nx lk f z ([],[])).1.length<2000→∀ x ∈ F,x ∈ (dfsF nx lk f z ([],[])).1:=fun hl=>by
  obtain ⟨c1,c2⟩:=(dfs_closed nx lk rk R hR f).1 z ([],[]) hz hf hl
  exact hFr _ c1 (fun x hx y hy=>c2 x hx (by simp) y hy)
 constructor
 ·intro hl
  have hsub:∀ x ∈ (dfsF nx lk f z ([],[])).1,x ∈ F:=dfs_in nx lk f z (fun x=>x ∈ F) hF0 (hFc hl)
  have hlen:(dfsF nx lk f z ([],[])).1.length≤F.length:=List.Nodup.length_le_of_subset (dfs_nodup nx lk f z) hsub
  refine ⟨by omega,?_⟩
  rw [dfs_foot]
  refine mrgI_eq (fun y=>?_)
  simp only [List.mem_flatMap]
  constructor
  ·rintro ⟨x,hx,hy⟩
   exact ⟨x,hsub x hx,hy⟩
  ·rintro ⟨x,hx,hy⟩
   exact ⟨x,hcl (by omega) x hx,hy⟩
 ·intro hl hd
  have:=List.Nodup.length_le_of_subset hFn (hcl hd)
  omega
end


def footC (rows:List (List I3)) (m:V4):Int:=if (progOk rows && shapeOk m)=true then (if (fullM rows m).length<2000 then 0 else 15) else 1
def footA (rows:List (List I3)) (m:V4):List Int:=if (progOk rows && shapeOk m)=true∧(fullM rows m).length<2000 then mrgI ((fullM rows m).flatMap fun r=>lookM r.1) else []
theorem footC_bad {rows:List (List I3)} {m:V4} (h:(progOk rows && shapeOk m)=false):footC rows m=1:=if_neg (by rw [h];simp)
theorem footA_bad {rows:List (List I3)} {m:V4} (h:(progOk rows && shapeOk m)=false):footA rows m=[]:=if_neg (by rw [h];simp)
theorem footC_ok {rows:List (List I3)} {m:V4} (h:(progOk rows && shapeOk m)=true) (h2:(fullM rows m).length<2000):footC rows m=0:=by unfold footC;rw [if_pos h,if_pos h2]
theorem footA_ok {rows:List (List I3)} {m:V4} (h:(progOk rows && shapeOk m)=true) (h2:(fullM rows m).length<2000):footA rows m=mrgI ((fullM rows m).flatMap fun r=>lookM r.1):=if_pos ⟨h,h2⟩
theorem footC_much {rows:List (List I3)} {m:V4} (h:(progOk rows && shapeOk m)=true) (h2:¬ (fullM rows m).length<2000):footC rows m=15:=by unfold footC;rw [if_pos h,if_neg h2]
theorem footA_much {rows:List (List I3)} {m:V4} (h:(progOk rows && shapeOk m)=true) (h2:¬ (fullM rows m).length<2000):footA rows m=[]:=if_neg (fun e=>h2 e.2)
theorem fullM_shaped {rows:List (List I3)} (hp:progOk rows=true) {m:V4} (hs:shapeOk m=true):Shaped (fullM rows m):=srch_shaped hp _ _ _ (fun r hr=>by simp at hr;subst hr;exact hs)
theorem fullM_head (rows:List (List I3)) (m:V4):(fullM rows m)[0]?=some (m,0,0):=by
 have h:=srch_pre (nxM rows) 2000 0 [(m,0,0)]
 obtain ⟨t,ht⟩:=h
 unfold fullM
 rw [← ht]
 rfl
theorem fullM_nodup (rows:List (List I3)) (m:V4):((fullM rows m).map (·.1)).Nodup:=srch_nodup _ _ _ (by simp)
theorem fullM_came (rows:List (List I3)) (m:V4):Came (nxM rows) (fullM rows m):=srch_came _ _ _ (fun j r hj hr=>by
 have:=(List.getElem?_eq_some_iff.1 hr).1
 simp at this
 omega)
theorem fullM_closed {rows:List (List I3)} {m:V4} (h:(fullM rows m).length≤2000):∀ r ∈ fullM rows m,∀ t ∈ nxM rows r.1,t.2 ∈ (fullM rows m).map (·.1):=
 srch_closed 2000 0 [(m,0,0)] (fun j r hj=>by omega) (by simp) (by rw [Nat.zero_add];exact h)
theorem fullM_ind {rows:List (List I3)} {m:V4} (C:V4→Prop) (h0:C m) (hC:∀ x,C x→∀ t ∈ nxM rows x,C t.2):∀ r ∈ fullM rows m,C r.1:=by
 have hh:=fullM_head rows m
 have hc:=fullM_came rows m
 have key:∀ (n j:Nat) (r:Rec6 V4),j≤n→(fullM rows m)[j]?=some r→C r.1:=by
  intro n
  induction n with
  | zero =>
   intro j r hj hr
   have:j=0:=by omega
   subst this
   rw [hh] at hr
   cases hr
   exact h0
  | succ n ih =>
   intro j r hj hr
   rcases Nat.eq_zero_or_pos j with rfl | hp
   ·rw [hh] at hr
    cases hr
    exact h0
   ·obtain ⟨h1,q,h2,h3⟩:=hc j r hp hr
    exact hC q.1 (ih _ q (by omega) h2) _ h3
 intro r hr
 obtain ⟨j,hj,e⟩:=List.getElem_of_mem hr
 exact key j j r (Nat.le_refl _) (by rw [List.getElem?_eq_getElem hj,e])
end Go.Proofs.YtojcgajjnmjjpaaGreatDoor
