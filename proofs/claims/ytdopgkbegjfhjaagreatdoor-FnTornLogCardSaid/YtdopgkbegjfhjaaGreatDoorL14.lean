/-
  Joined: EntP, RwI, MapI, SetP, Kit8, PutI.
-/
import Derived.Lib.Hide
import Derived.Laws.Strings
import Derived.Maps.OwnSet
import Derived.Maps.OwnOps
import Derived.Maps.Own
import Derived.Maps.AppendAt
import Derived.Test.YtdopgkbegjfhjaaGreatDoorL08
import Derived.Test.YtdopgkbegjfhjaaGreatDoorL12

namespace Go.Proofs.YtdopgkbegjfhjaaGreatDoor
set_option maxRecDepth 100000
set_option maxHeartbeats 16000000
open Go.RowKit
set_option linter.unusedVariables false
set_option linter.unusedSimpArgs false

theorem allR_false {f:Nat→Bool} {n k:Nat} (hk:k<n) (h:f k=false):(List.range n).all f=false:=by
 rw [List.all_eq_false]
 exact ⟨k,List.mem_range.2 hk,by rw [h];simp⟩
theorem allR_true {f:Nat→Bool} {n:Nat} (h:∀ k,k<n→f k=true):(List.range n).all f=true:=by
 rw [List.all_eq_true]
 exact fun k hk=>h k (List.mem_range.1 hk)
theorem allR_at {f:Nat→Bool} {n k:Nat} (h:(List.range n).all f=true) (hk:k<n):f k=true:=List.all_eq_true.1 h k (List.mem_range.2 hk)

def bStep (xs:List I3) (i:Nat):Bool:=okB (xs.getD i (0,0,0)) && (decide (i=0) || ltB (xs.getD (i - 1) (0,0,0)) (xs.getD i (0,0,0)))
def riseB (xs:List I3):Bool:=(List.range xs.length).all (bStep xs)
def iStep (zs:List Int) (i:Nat):Bool:=itOk (zs.getD i 0) && (decide (i=0) || decide (zs.getD (i - 1) 0<zs.getD i 0))
def riseI (zs:List Int):Bool:=(List.range zs.length).all (iStep zs)
def keyOk9 (k:ByteArray):Bool:=decide (k.size=15) && shapeOk (bytesV k)
def entOk (e:E3):Bool:=keyOk9 e.1 && (riseB e.2.1 && (riseI e.2.2 && decide (e.2.1.length≤30)))


def IsL (w:World) (v:Value) (xs:List Int):Prop:=∃ la ln lc,v=.slice la ln lc∧Ints .i64 w la ln lc xs
theorem IsL.below {w w':World} {v:Value} {xs:List Int} (h:IsL w v xs) (hb:Below w.heap.size w w'):IsL w' v xs:=by
 obtain ⟨la,ln,lc,rfl,hi⟩:=h
 exact ⟨la,ln,lc,rfl,hi.below hb⟩
def AllL (w:World) (vs:List Value) (xss:List (List Int)):Prop:=vs.length=xss.length∧∀ t,t<xss.length→IsL w (vs.getD t undef) (xss.getD t [])
theorem AllL.below {w w':World} {vs:List Value} {xss:List (List Int)} (h:AllL w vs xss) (hb:Below w.heap.size w w'):AllL w' vs xss:=⟨h.1,fun t ht=>(h.2 t ht).below hb⟩
theorem AllL.nil (w:World):AllL w [] []:=⟨rfl,fun t ht=>by simp at ht⟩
def RowsI (w:World) (a:Option Addr) (n c:Nat) (xss:List (List Int)):Prop:=
 xss.length=n∧n≤c∧c≤maxLen∧∃ vs,AllL w vs xss∧(n=0∨∃ b off,a=some ⟨b,off,none⟩∧b<w.heap.size∧∀ t,t<n→w.cell? ⟨b,off+t,none⟩=some (vs.getD t undef))
theorem RowsI.below {w w':World} {a:Option Addr} {n c:Nat} {xss:List (List Int)} (h:RowsI w a n c xss) (hb:Below w.heap.size w w'):RowsI w' a n c xss:=by
 obtain ⟨h1,h2,h3,vs,h4,h5⟩:=h
 refine ⟨h1,h2,h3,vs,h4.below hb,?_⟩
 rcases h5 with h5 | ⟨b,off,h6,h7,h8⟩
 ·exact .inl h5
 ·exact .inr ⟨b,off,h6,Nat.lt_of_lt_of_le h7 hb.size,fun t ht=>by rw [hb.cell (p:=⟨b,off+t,none⟩) h7];exact h8 t ht⟩
theorem RowsI.cell {w:World} {a:Option Addr} {n c:Nat} {xss:List (List Int)} (h:RowsI w a n c xss) {t:Nat} (ht:t<n):∃ b off la ln lc,a=some ⟨b,off,none⟩∧w.cell? ⟨b,off+t,none⟩=some (.slice la ln lc)∧Ints .i64 w la ln lc (xss.getD t []):=by
 obtain ⟨h1,h2,h3,vs,h4,h5⟩:=h
 rcases h5 with h5 | ⟨b,off,h6,h7,h8⟩
 ·omega
 ·obtain ⟨la,ln,lc,e,hi⟩:=h4.2 t (by omega)
  exact ⟨b,off,la,ln,lc,h6,by rw [h8 t ht,e],hi⟩


structure SetD (D:DataW Unit) (xs:List Int):Prop where
 has:∀ x:Int,Maps.has D (.int .i64 x)=true↔x ∈ xs
 bnd:∀ x c:Int,D.atKey (.int .i64 x) (.lit (.int .i64 0))=.lit (.int .i64 c)→0≤c∧c≤xs.length
theorem lit_ne8 {s t:Int} (h:s≠t):(Lit.int .i64 s)≠Lit.int .i64 t:=fun e=>by
 injection e with _ e
 exact h e
theorem SetD.put {D:DataW Unit} {xs:List Int} (h:SetD D xs) (hm:Maps.IsMap D) {x c:Int} (hc0:0≤c) (hc:c≤xs.length) :
  SetD (D.put (.int .i64 x) (.lit (.int .i64 (c+1)))) (xs++[x]):=by
 have hkl:WideAt.IsKeyLit (.int .i64 x):=trivial
 refine ⟨fun t=>?_,fun y d hd=>?_⟩
 ·by_cases e:t=x
  ·subst e
   rw [Maps.has_put_same hm hkl]
   simp
  ·rw [Maps.has_put_other (lit_ne8 e),h.has]
   simp [e]
 ·by_cases e:y=x
  ·subst e
   rw [Maps.atKey_put_same hm hkl] at hd
   injection hd with hd
   injection hd with _ hd
   subst hd
   simp
   omega
  ·rw [Maps.atKey_put_other (lit_ne8 e)] at hd
   have:=h.bnd y d hd
   simp
   omega
theorem fits8 {z:Int} (h:0≤z) (h':z≤2000000000):(Lit.int .i64 z).wf=true:=by
 simp only [Lit.wf,Bool.and_eq_true,decide_eq_true_eq]
 have h1:IntKind.i64.min=-9223372036854775808:=by decide
 have h2:IntKind.i64.max=9223372036854775807:=by decide
 omega
theorem take_snoc8 {Z:List Int} {k:Nat} (h:k<Z.length):Z.take (k+1)=Z.take k++[Z.getD k 0]:=by
 rw [List.take_succ_eq_append_getElem h]
 simp [List.getD,List.getElem?_eq_getElem h]


def putI:List Int→Int→List Int
 | [],n=>[n]
 | x::xs,n=>if x<n then x::putI xs n else if x=n then x::xs else n::x::xs
def mrgI (xs:List Int):List Int:=xs.foldl putI []
theorem putI_mem:∀ (xs:List Int) (n y:Int),y ∈ putI xs n↔y=n∨y ∈ xs
 | [],n,y=>by simp [putI]
 | x::xs,n,y=>by
  unfold putI
  split
  ·simp only [List.mem_cons,putI_mem xs n y]
   constructor
   ·rintro (h | h | h)
    ·exact .inr (.inl h)
    ·exact .inl h
    ·exact .inr (.inr h)
   ·rintro (h | h | h)
    ·exact .inr (.inl h)
    ·exact .inl h
    ·exact .inr (.inr h)
  ·split
   ·rename_i h
    subst h
    simp
   ·simp
theorem putI_rises:∀ (xs:List Int) (n:Int),xs.Pairwise (· < ·)→(putI xs n).Pairwise (· < ·)
 | [],n,_=>by simp [putI]
 | x::xs,n,h=>by
  obtain ⟨h1,h2⟩:=List.pairwise_cons.1 h
  unfold putI
  split
  ·rename_i hx
   refine List.pairwise_cons.2 ⟨fun y hy=>?_,putI_rises xs n h2⟩
   rcases (putI_mem xs n y).1 hy with rfl | hy
   ·exact hx
   ·exact h1 y hy
  ·split
   ·exact h
   ·refine List.pairwise_cons.2 ⟨fun y hy=>?_,h⟩
    rcases List.mem_cons.1 hy with rfl | hy
    ·omega
    ·have:=h1 y hy
     omega
theorem foldl_putI:∀ (xs acc:List Int),acc.Pairwise (· < ·)→(xs.foldl putI acc).Pairwise (· < ·)∧∀ y,y ∈ xs.foldl putI acc↔y ∈ acc∨y ∈ xs
 | [],acc,h=>⟨h,fun y=>by simp⟩
 | x::xs,acc,h=>by
  obtain ⟨h1,h2⟩:=foldl_putI xs (putI acc x) (putI_rises acc x h)
  refine ⟨h1,fun y=>?_⟩
  rw [List.foldl_cons,h2,putI_mem,List.mem_cons]
  constructor
  ·rintro ((h | h) | h)
   ·exact .inr (.inl h)
   ·exact .inl h
   ·exact .inr (.inr h)
  ·rintro (h | h | h)
   ·exact .inl (.inr h)
   ·exact .inl (.inl h)
   ·exact .inr h
theorem mrgI_rises (xs:List Int):(mrgI xs).Pairwise (· < ·):=(foldl_putI xs [] List.Pairwise.nil).1
theorem mrgI_mem (xs:List Int) (y:Int):y ∈ mrgI xs↔y ∈ xs:=by
 have:=(foldl_putI xs [] List.Pairwise.nil).2 y
 simpa [mrgI] using this
theorem putI_len (xs:List Int) (n:Int):(putI xs n).length≤xs.length+1:=by
 induction xs with
 | nil=>simp [putI]
 | cons x xs ih =>
  unfold putI
  split
  ·simp;omega
  ·split<;>simp
theorem foldl_putI_len:∀ (xs acc:List Int),(xs.foldl putI acc).length≤acc.length+xs.length
 | [],acc=>by simp
 | x::xs,acc=>by
  have:=foldl_putI_len xs (putI acc x)
  have:=putI_len acc x
  simp
  omega
theorem mrgI_len (xs:List Int):(mrgI xs).length≤xs.length:=by simpa [mrgI] using foldl_putI_len xs []
theorem putI_at:∀ (xs:List Int) (n:Int) (k:Nat),k≤xs.length→(∀ i,i<k→xs.getD i 0<n)→(k=xs.length∨¬ xs.getD k 0<n)→putI xs n=if k<xs.length∧xs.getD k 0=n then xs else xs.take k++[n]++xs.drop k
 | [],n,k,hk,_,_=>by
  have:k=0:=by simpa using hk
  subst this
  simp [putI]
 | x::xs,n,0,_,_,h=>by
  have hx:¬ x<n:=by simpa using h
  unfold putI
  rw [if_neg hx]
  simp
 | x::xs,n,k+1,hk,hl,h=>by
  have hx:x<n:=by simpa using hl 0 (by omega)
  unfold putI
  rw [if_pos hx]
  have ih:=putI_at xs n k (by simpa using hk) (fun i hi=>by simpa using hl (i+1) (by omega)) (by simpa using h)
  rw [ih]
  simp only [List.length_cons,Nat.add_lt_add_iff_right,List.getD_cons_succ,List.take_succ_cons,List.drop_succ_cons]
  split<;>simp


def RowGot (e:Ending) (w':World) (B:Nat) (xs:List Int):Prop:=∃ v,e=.returned v∧w'.ownsRow B 3 1 v xs.length (xs.map (Value.int .i64))
theorem bel8 {a b c:World} (h:Below a.heap.size a b) (k:Below b.heap.size b c):Below a.heap.size a c:=h.trans (k.mono h.size)
theorem drew8 {a b:World} (h:Below a.heap.size a b) (d:Nat):Below a.heap.size a (b.drewN d):=h.trans ⟨rfl,rfl,rfl,Nat.le_refl _,fun _ _=>rfl⟩
theorem owns8 {B e k n:Nat} {v:Value} {xs:List Value} {w w':World} (h:w.ownsRow B e k v n xs) (hb:Below w.heap.size w w'):w'.ownsRow B e k v n xs:=
 h.kept (row:=none) ⟨hb.os,hb.tape,hb.output,hb.size,fun i hi _=>hb.block i hi⟩ (by cases v.ownBlock<;>simp)
theorem cell8 {w w':World} (h:Below w.heap.size w w') {p:Addr} {v:Value} (hv:w.cell? p=some v):w'.cell? p=some v:=by
 rw [h.cell (World.block_lt_of_cell? _ _ hv)]
 exact hv
theorem grown8 {w w':World} {row:Option Nat} (g:w.grownBy w' row) {p:Addr} {v:Value} (hc:w.cell? p=some v) (hne:some p.block≠row):w'.cell? p=some v:=by
 have hl:=World.block_lt_of_cell? _ _ hc
 rw [← hc]
 unfold World.cell?
 rw [g.block p.block hl hne]
theorem lower8 {w:World} {B B' e s n:Nat} {v:Value} {cs:List Value} (h:w.ownsRow B e s v n cs) (hB:B'≤B):w.ownsRow B' e s v n cs:=by
 refine ⟨h.1,?_⟩
 rcases h.2 with h0 | ⟨g,cap,cur,hv,hg,rest⟩
 ·exact .inl h0
 ·exact .inr ⟨g,cap,cur,hv,by omega,rest⟩
theorem some8 {w:World} {B e s n:Nat} {v:Value} {cs:List Value} (h:w.ownsRow B e s v n cs) (hn:0<n):∃ g c,v=.slice (some ⟨g,0,none⟩) n c:=by
 rcases h.2 with ⟨rfl,h0⟩ | ⟨g,cap,cur,hv,_⟩
 ·omega
 ·exact ⟨g,cap,hv⟩
theorem slice8 {w:World} {B e s n:Nat} {v:Value} {cs:List Value} (h:w.ownsRow B e s v n cs):∃ a c,v=.slice a n c:=by
 rcases h.2 with ⟨rfl,h0⟩ | ⟨g,cap,cur,hv,_⟩
 ·subst h0;exact ⟨none,0,rfl⟩
 ·exact ⟨some ⟨g,0,none⟩,cap,hv⟩
theorem empty8 (w:World) (t s B:Nat) (hB:B≤w.heap.size):(w.alloc (.cells #[] t)).ownsRow B t s (.slice (some ⟨w.heap.size,0,none⟩) 0 0) 0 []:=World.ownsRow_lit w #[] 0 hB (by unfold maxLen;omega) (by simp)
theorem ints8 {w:World} {B n c:Nat} {a:Option Addr} {xs:List Int} (h:w.ownsRow B 3 1 (.slice a n c) n (xs.map (Value.int .i64))):Ints .i64 w a n c xs:=by
 rcases h.2 with ⟨e,h0⟩ | ⟨b,cc,cur,e,h1,h2,h3,h4⟩
 ·cases e
  have hl:=h.1
  exact ⟨by simpa using hl,Nat.le_refl _,by unfold maxLen;omega,.inl rfl⟩
 ·cases e
  exact Ints.of_owns h
theorem news8 {w:World} {b off n c:Nat} {xs:List Int} (h:Ints .i64 w (some ⟨b,off,none⟩) n c xs):∀ j u,(xs.map (Value.int .i64))[j]?=some u→w.cell? ((⟨b,off,none⟩:Addr).add j)=some u:=by
 intro j u hj
 obtain ⟨hl,_,_,hcase⟩:=h
 have hjl:j<xs.length:=by simpa using (List.getElem?_eq_some_iff.1 hj).1
 rcases hcase with h0 | ⟨b',off',he,hb,hc⟩
 ·omega
 ·cases he
  have:=hc j (by omega)
  have e:(⟨b,off,none⟩:Addr).add j=⟨b,off+j,none⟩:=by unfold Addr.add;split<;>simp_all
  rw [e,this]
  simp [List.getElem?_eq_getElem hjl] at hj
  simp [List.getD,List.getElem?_eq_getElem hjl,hj]
theorem one8 (xs:List Int):∀ u ∈ xs.map (Value.int .i64),u.oneCell'=true:=by
 intro u hu
 obtain ⟨x,_,rfl⟩:=List.mem_map.1 hu
 rfl
theorem step_app8 {P:Program} {ops:Array Oper} {o:Oper} {a:Act} {w:World} {K:Act→World→Prop} {Q:Exit→Act→World→Prop} {E:Prop}
  (hg:o.guard=none) (s x:Operand) (t:TypeId) (hop:o.op=Op.call { callee:=Callee.builtin Builtin.append,args:=#[s,x],argTypes:=#[t,t] })
  (base:Nat) (e:TypeId) (i:TypeInfo) (z:Value) (size bytes:Nat) (h1:P.underlying t=some (.slice e)) (h2:P.info? e=some i) (h3:i.zero=some z) (h4:i.size=size) (h5:i.bytes=bytes) (h6:z.cells.size=size) (h7:0<size)
  (v:Value) (n:Nat) (olds:List Value) (hs:a.eval s=v) (hown:w.ownsRow base e size v n olds)
  (ad:Addr) (m c:Nat) (news:List Value) (hx:a.eval x=.slice (some ad) m c) (hn:news.length=m*size) (hc:∀ j u,news[j]?=some u→w.cell? (ad.add j)=some u) (h1c:∀ u ∈ news,u.oneCell'=true)
  (b1:n+m≤maxLen) (b2:(n+m)*bytes≤140737488355328) (hbw:base≤w.heap.size)
  (hK:∀ v' w',w'.ownsRow base e size v' (n+m) (olds++news)→w.grownBy w' v.ownBlock→(v'.ownBlock=v.ownBlock∨v'.ownBlock=some w.heap.size)→K (a.put o.dst v') w') :
  if Region.wanted o (yielded ops a.tmps)=true then Oper.wp P o a w K Q else E:=by
 have hw:Region.wanted o (yielded ops a.tmps)=true:=by simp [Region.wanted,hg]
 rw [if_pos hw]
 obtain ⟨v',w',hrun,r1,r2,_,r4⟩:=run_append_own_at (P:=P) (w:=w) base t o.type e i z size bytes h1 h2 h3 h4 h5 h6 h7 v n olds hown ad m c news hn hc h1c b1 b2 hbw
 subst hs
 unfold Oper.wp
 simp [execOp,hop,resolve,invoke,builtin,hx,hrun,Result.andThen]
 exact hK v' w' r1 r2 r4
theorem slice_h8 {w:World} {b off len cap hi:Nat} {xs:List Int} (h:Ints .i64 w (some ⟨b,off,none⟩) len cap xs) (h2:hi≤len) :
  (∀ W,(Instr.slice 40 (.slice (some ⟨b,off,none⟩) len cap) none (some (.int .i64 (hi:Int))) none).run Tryz.prog W=.ok (.slice (some ⟨b,off,none⟩) hi cap) W)∧Ints .i64 w (some ⟨b,off,none⟩) hi cap (xs.take hi):=by
 obtain ⟨hl,hlc,hcm,hcase⟩:=h
 have hhc:(hi:Int)≤(cap:Int):=by omega
 refine ⟨fun W=>?_,by rw [List.length_take];omega,by omega,by omega,?_⟩
 ·go_simp
  try omega
 ·rcases hcase with h0 | ⟨b',off',he,hb,hc⟩
  ·exact .inl (by omega)
  ·cases he
   refine .inr ⟨b,off,rfl,hb,fun t ht=>?_⟩
   rw [hc t (by omega)]
   simp [List.getD,ht]
theorem slice_l8 {w:World} {b off len cap lo:Nat} {xs:List Int} (h:Ints .i64 w (some ⟨b,off,none⟩) len cap xs) (h1:lo≤len) :
  ∃ o2,(∀ W,(Instr.slice 40 (.slice (some ⟨b,off,none⟩) len cap) (some (.int .i64 (lo:Int))) none none).run Tryz.prog W=.ok (.slice (some ⟨b,o2,none⟩) (len - lo) (cap - lo)) W)∧Ints .i64 w (some ⟨b,o2,none⟩) (len - lo) (cap - lo) (xs.drop lo):=by
 obtain ⟨hl,hlc,hcm,hcase⟩:=h
 have hlh:(lo:Int)≤(len:Int):=by omega
 by_cases hz:cap - lo=0
 ·refine ⟨off,fun W=>?_,by rw [List.length_drop];omega,by omega,by omega,.inl (by omega)⟩
  go_simp
  omega
 ·refine ⟨off+lo,fun W=>?_,by rw [List.length_drop];omega,by omega,by omega,?_⟩
  ·go_simp
   omega
  ·rcases hcase with h0 | ⟨b',off',he,hb,hc⟩
   ·exact .inl (by omega)
   ·cases he
    refine .inr ⟨b,off+lo,rfl,hb,fun t ht=>?_⟩
    have:=hc (lo+t) (by omega)
    rw [show off+lo+t=off+(lo+t) by omega,this]
    simp [List.getD]


theorem lone8 {w:World} {G:Nat} {a:Value} (h0:w.cell? ⟨G,0,none⟩=some a):∀ j u,[a][j]?=some u→w.cell? ((⟨G,0,none⟩:Addr).add j)=some u:=by
 intro j u hj
 match j,hj with
 | 0,hj=>simp at hj;subst hj;simpa [Addr.add] using h0
 | (j+1),hj=>simp at hj
theorem l08Put_is (b off n cap:Nat) (xs:List Int) (y:Int) (w:World) (h:Ints .i64 w (some ⟨b,off,none⟩) n cap xs) (hn:n≤1000000) :
  Calls Tryz.prog 119 #[.slice (some ⟨b,off,none⟩) n cap,.int .i64 y] w fun e w'=>RowGot e w' w.heap.size (putI xs y)∧Below w.heap.size w w':=by
 obtain ⟨i0,hi,hz0,hz1,hz2⟩:=info_parts info_int
 have hl:=h.1
 have bw:Below w.heap.size w w:=Below.refl _ _
 have hsz:w.heap.size≤w.heap.size:=Nat.le_refl _
 go_enter Tryz.func119,Tryz.ntmps119
 go_wp2_with fail
 go_loopw [5] (fun si wr=>∃ k:Nat,k≤n∧si=.int .i64 k∧Hid (∀ i,i<k→xs.getD i 0<y)∧w=wr) (fun si _=>n - (Go.RowKit.intOf si).toNat)
 case atStart=>exact ⟨0,by omega,rfl,fun i hi=>by omega,rfl⟩
 case round =>
  obtain ⟨k,hkn,rfl,HY,rfl⟩:=hrel
  have hPut:=putI_at xs y k (by omega) HY.out
  obtain ⟨o2,rD,hD⟩:=slice_l8 h hkn
  have rT:=(slice_h8 h hkn).1
  by_cases hlt:k<n
  ·have hki:(k:Int)<(n:Int):=by omega
   have hk0:(0:Int)≤(k:Int):=by omega
   have hX':=h
   obtain ⟨_,_,_,hcase⟩:=hX'
   rcases hcase with h0 | ⟨b',off',he,hb,hc⟩
   ·omega
   cases he
   have d0:=hc k hlt
   clear hc hb
   obtain ⟨x,hx⟩:∃ x,x=xs.getD k 0:=⟨_,rfl⟩
   rw [← hx] at d0 hPut
   by_cases hxy:x<y
   ·have HN:Hid (∀ i,i<k+1→xs.getD i 0<y):=fun i hi=>by
     by_cases e:i=k
     ·subst e;rw [← hx];exact hxy
     ·exact HY.out i (by omega)
    clear hPut HY rD rT hD hx
    go_wp2
    go_roundw
    case rel=>exact ⟨k+1,by omega,by go_num,HN,by first | rfl | trivial⟩
    case measure=>simp [Go.RowKit.intOf];omega
   ·have hP2:=hPut (.inr hxy)
    clear hPut HY hx
    have hxy':decide (x<y)=false:=by simp;omega
    by_cases hE:x=y
    ·subst hE
     have HQ:Hid (putI xs x=xs):=by
      rw [Hid,hP2,if_pos ⟨by omega,rfl⟩]
     have hxx0:(x == x)=true:=by simp
     clear hP2 rD rT hD hxy
     go_wp2_with (at_builtin;refine wpList_append_own _ rfl _ _ 40 rfl w.heap.size 3 i0 (.int .i64 0) 1 8 Tryz.underlying40 hi hz0 hz1 hz2 rfl (by decide) _ _ _ rfl (empty8 w 3 1 w.heap.size hsz) ⟨b,off,none⟩ n cap (xs.map (Value.int .i64)) rfl (by rw [List.length_map];omega) (news8 (h.below (by go_grown))) (one8 _) ?c3 ?c4 ?c5 ?_)
     case c3=>unfold maxLen;omega
     case c4=>omega
     case c5=>simp
     intro v7 w7 hown7 hgrow7 _
     replace hown7:w7.ownsRow w.heap.size 3 1 v7 n (xs.map (Value.int .i64)):=by simpa using hown7
     have bw7:Below w.heap.size w w7:=(show Below w.heap.size w (w.alloc (.cells #[] 3)) by go_grown).grown hgrow7 (by simp) (fun g hg=>by simp [Value.ownBlock] at hg;omega)
     obtain ⟨g,c,rfl⟩:=some8 hown7 (by omega)
     have hQ:w7.ownsRow w.heap.size 3 1 (.slice (some ⟨g,0,none⟩) n c) (putI xs x).length ((putI xs x).map (Value.int .i64)):=by
      rw [HQ.out,hl]
      exact hown7
     clear hown7 hgrow7
     go_wp2
     go_ret
     exact ⟨⟨_,rfl,hQ⟩,bw7⟩
    ·have HP:Hid (∀ (v:Value) (W:World),W.ownsRow w.heap.size 3 1 v (0+k+1+(n - k)) (([]++(xs.take k).map (Value.int .i64)++[.int .i64 y])++(xs.drop k).map (Value.int .i64))→W.ownsRow w.heap.size 3 1 v (putI xs y).length ((putI xs y).map (Value.int .i64))):=by
      intro v W q
      rw [if_neg (fun e=>hE e.2)] at hP2
      have hlen:(putI xs y).length=0+k+1+(n - k):=by rw [hP2];simp;omega
      rw [hlen,hP2]
      simpa using q
     have hE':(x == y)=false:=by simp [hE]
     clear hP2 hE hxy
     go_wp2_with fail
     refine wp_region_held_drew (S:=(fun w'=>w.heap.size≤w'.heap.size)) (by kernel_rfl) hsz (fun hS0=>?_)
     refine tkm 1 36 (.slice (some ⟨b,off,none⟩) n cap) ?_
     refine tkm 2 37 (.int .i64 (k:Int)) ?_
     refine tkm 3 38 (.slice (some ⟨b,off,none⟩) k cap) ?_
     refine tkm 5 40 (.int .i64 y) ?_
     refine tkm 8 43 (.slice (some ⟨b,off,none⟩) n cap) ?_
     refine tkm 9 44 (.int .i64 (k:Int)) ?_
     refine tkm 10 45 (.slice (some ⟨b,o2,none⟩) (n - k) (cap - k)) ?_
     refine wpAnyH_ready (rs:=[0,6]) (by kernel_rfl) (by simp) ?_
     refine AllReadyH.cons (o:=⟨some 35,_,_,_,_,_⟩) rfl (fun K hK=>?_) (AllReadyH.cons (o:=⟨some 41,_,_,_,_,_⟩) rfl (fun K hK=>?_) AllReadyH.nil)
     focus
      have q:=(empty8 w 3 1 w.heap.size hsz).drew
      obtain ⟨V1,hV⟩:∃ V,V=w.heap.size:=⟨_,rfl⟩
      have hal:Below w.heap.size w (w.alloc (.cells #[] 3)).drew:=by go_grown
      replace bw:=bel8 bw hal
      replace hsz:w.heap.size≤(w.alloc (.cells #[] 3)).drew.heap.size:=Nat.le_trans hsz hal.size
      go_simp
      rw [← hV]
      refine hK.out _ _ hsz (fun hS1=>?_)
      clear hK hal
      replace q:(w.alloc (.cells #[] 3)).drew.ownsRow w.heap.size 3 1 (.slice (some ⟨V1,0,none⟩) 0 0) 0 []:=by rw [hV];exact q
      clear hV
      generalize (w.alloc (.cells #[] 3)).drew=U1 at *
      try simp only [Act.put,tka,tkb,tkc]
      refine wpAnyH_ready (rs:=[4,6]) (by kernel_rfl) (by simp) ?_
      refine AllReadyH.cons (o:=⟨some 39,_,_,_,_,_⟩) rfl (fun K hK=>?_) (AllReadyH.cons (o:=⟨some 41,_,_,_,_,_⟩) rfl (fun K hK=>?_) AllReadyH.nil)
      focus
       refine step_app8 rfl _ _ 40 rfl w.heap.size 3 i0 (.int .i64 0) 1 8 Tryz.underlying40 hi hz0 hz1 hz2 rfl (by decide) (.slice (some ⟨V1,0,none⟩) 0 0) 0 [] rfl q ⟨b,off,none⟩ k cap ((xs.take k).map (Value.int .i64)) rfl (by rw [List.length_map,List.length_take];omega) (news8 ((slice_h8 h hkn).2.below bw)) (one8 _) (by unfold maxLen;omega) (by omega) hsz ?_
       intro v2 U2 q2 gr hob
       replace bw:=bw.grown gr bw.size (fun g hg=>(q.lt g hg).1)
       replace hsz:w.heap.size≤U2.heap.size:=Nat.le_trans hsz gr.size
       refine hK.out _ _ hsz (fun hS2=>?_)
       clear hK q gr hob
       have q:=q2
       clear q2
       try simp only [Act.put,tka,tkb,tkc]
       refine tkr 6 41 (fun K hK=>?_)
       obtain ⟨G,hG⟩:∃ G,G=U2.heap.size:=⟨_,rfl⟩
       have e0:(U2.alloc (.cells #[.int .i64 y] 3)).cell? ⟨G,0,none⟩=some (.int .i64 y):=by subst hG;simp [go_sem]
       have hal:Below U2.heap.size U2 (U2.alloc (.cells #[.int .i64 y] 3)):=by go_grown
       have hap:∀ g,Value.ownBlock v2=some g→g≠G:=fun g hg e=>by have:=(q.lt g hg).2;omega
       replace q:=owns8 q hal
       replace bw:=bel8 bw hal
       replace hsz:w.heap.size≤(U2.alloc (.cells #[.int .i64 y] 3)).heap.size:=Nat.le_trans hsz hal.size
       go_simp
       rw [← hG]
       refine hK.out _ _ hsz (fun hS3=>?_)
       clear hK hal
       clear hG
       generalize (U2.alloc (.cells #[.int .i64 y] 3))=U3 at *
      rotate_left
      focus
       obtain ⟨G,hG⟩:∃ G,G=U1.heap.size:=⟨_,rfl⟩
       have e0:(U1.alloc (.cells #[.int .i64 y] 3)).cell? ⟨G,0,none⟩=some (.int .i64 y):=by subst hG;simp [go_sem]
       have hal:Below U1.heap.size U1 (U1.alloc (.cells #[.int .i64 y] 3)):=by go_grown
       have hap:∀ g,Value.ownBlock (.slice (some ⟨V1,0,none⟩) 0 0)=some g→g≠G:=fun g hg e=>by have:=(q.lt g hg).2;omega
       replace q:=owns8 q hal
       replace bw:=bel8 bw hal
       replace hsz:w.heap.size≤(U1.alloc (.cells #[.int .i64 y] 3)).heap.size:=Nat.le_trans hsz hal.size
       go_simp
       rw [← hG]
       refine hK.out _ _ hsz (fun hS6=>?_)
       clear hK hal
       clear hG
       generalize (U1.alloc (.cells #[.int .i64 y] 3))=U6 at *
       try simp only [Act.put,tka,tkb,tkc]
       refine tkr 4 39 (fun K hK=>?_)
       have hGl:=World.block_lt_of_cell? _ _ e0
       refine step_app8 rfl _ _ 40 rfl w.heap.size 3 i0 (.int .i64 0) 1 8 Tryz.underlying40 hi hz0 hz1 hz2 rfl (by decide) (.slice (some ⟨V1,0,none⟩) 0 0) 0 [] rfl q ⟨b,off,none⟩ k cap ((xs.take k).map (Value.int .i64)) rfl (by rw [List.length_map,List.length_take];omega) (news8 ((slice_h8 h hkn).2.below bw)) (one8 _) (by unfold maxLen;omega) (by omega) hsz ?_
       intro v2 U7 q2 gr hob
       replace e0:=grown8 gr e0 (fun e=>hap _ e.symm rfl)
       have hap2:∀ g,Value.ownBlock v2=some g→g≠G:=fun g hg e=>by
        rcases hob with hu | hu
        ·exact hap g (hu▸hg) e
        ·rw [hu] at hg
         simp at hg hGl
         omega
       clear hap hGl
       have hap:=hap2
       clear hap2
       replace bw:=bw.grown gr bw.size (fun g hg=>(q.lt g hg).1)
       replace hsz:w.heap.size≤U7.heap.size:=Nat.le_trans hsz gr.size
       refine hK.out _ _ hsz (fun hS7=>?_)
       clear hK q gr hob
       have q:=q2
       clear q2
     rotate_left 2
     focus
      obtain ⟨G,hG⟩:∃ G,G=w.heap.size:=⟨_,rfl⟩
      have e0:(w.alloc (.cells #[.int .i64 y] 3)).drew.cell? ⟨G,0,none⟩=some (.int .i64 y):=by subst hG;simp [go_sem]
      have hal:Below w.heap.size w (w.alloc (.cells #[.int .i64 y] 3)).drew:=by go_grown
      replace bw:=bel8 bw hal
      replace hsz:w.heap.size≤(w.alloc (.cells #[.int .i64 y] 3)).drew.heap.size:=Nat.le_trans hsz hal.size
      go_simp
      rw [← hG]
      refine hK.out _ _ hsz (fun hS10=>?_)
      clear hK hal
      clear hG
      generalize (w.alloc (.cells #[.int .i64 y] 3)).drew=U10 at *
      try simp only [Act.put,tka,tkb,tkc]
      refine tkr 0 35 (fun K hK=>?_)
      have q:=(empty8 U10 3 1 w.heap.size hsz)
      obtain ⟨V11,hV⟩:∃ V,V=U10.heap.size:=⟨_,rfl⟩
      have hap:∀ g,(Value.slice (some ⟨U10.heap.size,0,none⟩) 0 0).ownBlock=some g→g≠G:=fun g hg e=>by have hGl:=World.block_lt_of_cell? _ _ e0;simp [Value.ownBlock] at hg;simp at hGl;omega
      have hal:Below U10.heap.size U10 (U10.alloc (.cells #[] 3)):=by go_grown
      replace e0:=cell8 hal e0
      replace bw:=bel8 bw hal
      replace hsz:w.heap.size≤(U10.alloc (.cells #[] 3)).heap.size:=Nat.le_trans hsz hal.size
      go_simp
      rw [← hV]
      refine hK.out _ _ hsz (fun hS11=>?_)
      clear hK hal
      replace q:(U10.alloc (.cells #[] 3)).ownsRow w.heap.size 3 1 (.slice (some ⟨V11,0,none⟩) 0 0) 0 []:=by rw [hV];exact q
      replace hap:∀ g,(Value.slice (some ⟨V11,0,none⟩) 0 0).ownBlock=some g→g≠G:=by rw [hV];exact hap
      clear hV
      generalize (U10.alloc (.cells #[] 3))=U11 at *
      try simp only [Act.put,tka,tkb,tkc]
      refine tkr 4 39 (fun K hK=>?_)
      have hGl:=World.block_lt_of_cell? _ _ e0
      refine step_app8 rfl _ _ 40 rfl w.heap.size 3 i0 (.int .i64 0) 1 8 Tryz.underlying40 hi hz0 hz1 hz2 rfl (by decide) (.slice (some ⟨V11,0,none⟩) 0 0) 0 [] rfl q ⟨b,off,none⟩ k cap ((xs.take k).map (Value.int .i64)) rfl (by rw [List.length_map,List.length_take];omega) (news8 ((slice_h8 h hkn).2.below bw)) (one8 _) (by unfold maxLen;omega) (by omega) hsz ?_
      intro v2 U12 q2 gr hob
      replace e0:=grown8 gr e0 (fun e=>hap _ e.symm rfl)
      have hap2:∀ g,Value.ownBlock v2=some g→g≠G:=fun g hg e=>by
       rcases hob with hu | hu
       ·exact hap g (hu▸hg) e
       ·rw [hu] at hg
        simp at hg hGl
        omega
      clear hap hGl
      have hap:=hap2
      clear hap2
      replace bw:=bw.grown gr bw.size (fun g hg=>(q.lt g hg).1)
      replace hsz:w.heap.size≤U12.heap.size:=Nat.le_trans hsz gr.size
      refine hK.out _ _ hsz (fun hS12=>?_)
      clear hK q gr hob
      have q:=q2
      clear q2
     all_goals
      try simp only [Act.put,tka,tkb,tkc]
      refine tkr 7 42 (fun K hK=>?_)
      refine step_app8 rfl _ _ 40 rfl w.heap.size 3 i0 (.int .i64 0) 1 8 Tryz.underlying40 hi hz0 hz1 hz2 rfl (by decide) v2 (0+k) ([]++(xs.take k).map (Value.int .i64)) rfl q ⟨G,0,none⟩ 1 1 [.int .i64 y] rfl rfl (lone8 e0) (one8 [y]) (by unfold maxLen;omega) (by omega) hsz ?_
      intro v4 U4 q2 gr hob
      replace bw:=bw.grown gr bw.size (fun g hg=>(q.lt g hg).1)
      replace hsz:w.heap.size≤U4.heap.size:=Nat.le_trans hsz gr.size
      refine hK.out _ _ hsz (fun hS4=>?_)
      clear hK q gr hob
      have q:=q2
      clear q2
      clear e0 hap
      try simp only [Act.put,tka,tkb,tkc]
      refine tkr 11 46 (fun K hK=>?_)
      refine step_app8 rfl _ _ 40 rfl w.heap.size 3 i0 (.int .i64 0) 1 8 Tryz.underlying40 hi hz0 hz1 hz2 rfl (by decide) v4 (0+k+1) (([]++(xs.take k).map (Value.int .i64))++[.int .i64 y]) rfl q ⟨b,o2,none⟩ (n - k) (cap - k) ((xs.drop k).map (Value.int .i64)) rfl (by rw [List.length_map,List.length_drop];omega) (news8 (hD.below bw)) (one8 _) (by unfold maxLen;omega) (by omega) hsz ?_
      intro v5 U5 q2 gr hob
      replace bw:=bw.grown gr bw.size (fun g hg=>(q.lt g hg).1)
      replace hsz:w.heap.size≤U5.heap.size:=Nat.le_trans hsz gr.size
      refine hK.out _ _ hsz (fun hS5=>?_)
      clear hK q gr hob
      have q:=q2
      clear q2
      try simp only [Act.put,tka,tkb,tkc]
      refine tkm 12 4 v5 ?_
      refine wpAnyH_done (by kernel_rfl) ?_ _
      have hQ:=HP.out _ _ q
      obtain ⟨g,c,rfl⟩:=some8 q (by omega)
      clear q rT rD
      go_wp2
      go_ret
      exact ⟨⟨_,rfl,hQ⟩,bw⟩
  ·obtain rfl:k=n:=by omega
   have hkk:¬ ((k:Int)<(k:Int)):=by omega
   have hkb:decide ((k:Int)<(k:Int))=false:=by simp
   have hP2:=hPut (.inl (by omega))
   have HP:Hid (∀ (v:Value) (W:World),W.ownsRow w.heap.size 3 1 v (0+k+1+0) (([]++(xs.take k).map (Value.int .i64)++[.int .i64 y])++(xs.drop k).map (Value.int .i64))→W.ownsRow w.heap.size 3 1 v (putI xs y).length ((putI xs y).map (Value.int .i64))):=by
    intro v W q
    rw [if_neg (by omega)] at hP2
    have hlen:(putI xs y).length=0+k+1+0:=by rw [hP2];simp;omega
    rw [hlen,hP2]
    simpa using q
   clear hPut HY hP2
   go_wp2_with fail
   refine wp_region_held_drew (S:=(fun w'=>w.heap.size≤w'.heap.size)) (by kernel_rfl) hsz (fun hS0=>?_)
   refine tkm 1 36 (.slice (some ⟨b,off,none⟩) k cap) ?_
   refine tkm 2 37 (.int .i64 (k:Int)) ?_
   refine tkm 3 38 (.slice (some ⟨b,off,none⟩) k cap) ?_
   refine tkm 5 40 (.int .i64 y) ?_
   refine tkm 8 43 (.slice (some ⟨b,off,none⟩) k cap) ?_
   refine tkm 9 44 (.int .i64 (k:Int)) ?_
   refine tkm 10 45 (.slice (some ⟨b,o2,none⟩) 0 (cap - k)) ?_
   refine wpAnyH_ready (rs:=[0,6]) (by kernel_rfl) (by simp) ?_
   refine AllReadyH.cons (o:=⟨some 35,_,_,_,_,_⟩) rfl (fun K hK=>?_) (AllReadyH.cons (o:=⟨some 41,_,_,_,_,_⟩) rfl (fun K hK=>?_) AllReadyH.nil)
   focus
    have q:=(empty8 w 3 1 w.heap.size hsz).drew
    obtain ⟨V15,hV⟩:∃ V,V=w.heap.size:=⟨_,rfl⟩
    have hal:Below w.heap.size w (w.alloc (.cells #[] 3)).drew:=by go_grown
    replace bw:=bel8 bw hal
    replace hsz:w.heap.size≤(w.alloc (.cells #[] 3)).drew.heap.size:=Nat.le_trans hsz hal.size
    go_simp
    rw [← hV]
    refine hK.out _ _ hsz (fun hS15=>?_)
    clear hK hal
    replace q:(w.alloc (.cells #[] 3)).drew.ownsRow w.heap.size 3 1 (.slice (some ⟨V15,0,none⟩) 0 0) 0 []:=by rw [hV];exact q
    clear hV
    generalize (w.alloc (.cells #[] 3)).drew=U15 at *
    try simp only [Act.put,tka,tkb,tkc]
    refine wpAnyH_ready (rs:=[4,6]) (by kernel_rfl) (by simp) ?_
    refine AllReadyH.cons (o:=⟨some 39,_,_,_,_,_⟩) rfl (fun K hK=>?_) (AllReadyH.cons (o:=⟨some 41,_,_,_,_,_⟩) rfl (fun K hK=>?_) AllReadyH.nil)
    focus
     refine step_app8 rfl _ _ 40 rfl w.heap.size 3 i0 (.int .i64 0) 1 8 Tryz.underlying40 hi hz0 hz1 hz2 rfl (by decide) (.slice (some ⟨V15,0,none⟩) 0 0) 0 [] rfl q ⟨b,off,none⟩ k cap ((xs.take k).map (Value.int .i64)) rfl (by rw [List.length_map,List.length_take];omega) (news8 ((slice_h8 h hkn).2.below bw)) (one8 _) (by unfold maxLen;omega) (by omega) hsz ?_
     intro v16 U16 q2 gr hob
     replace bw:=bw.grown gr bw.size (fun g hg=>(q.lt g hg).1)
     replace hsz:w.heap.size≤U16.heap.size:=Nat.le_trans hsz gr.size
     refine hK.out _ _ hsz (fun hS16=>?_)
     clear hK q gr hob
     have q:=q2
     clear q2
     try simp only [Act.put,tka,tkb,tkc]
     refine tkr 6 41 (fun K hK=>?_)
     obtain ⟨G,hG⟩:∃ G,G=U16.heap.size:=⟨_,rfl⟩
     have e0:(U16.alloc (.cells #[.int .i64 y] 3)).cell? ⟨G,0,none⟩=some (.int .i64 y):=by subst hG;simp [go_sem]
     have hal:Below U16.heap.size U16 (U16.alloc (.cells #[.int .i64 y] 3)):=by go_grown
     have hap:∀ g,Value.ownBlock v16=some g→g≠G:=fun g hg e=>by have:=(q.lt g hg).2;omega
     replace q:=owns8 q hal
     replace bw:=bel8 bw hal
     replace hsz:w.heap.size≤(U16.alloc (.cells #[.int .i64 y] 3)).heap.size:=Nat.le_trans hsz hal.size
     go_simp
     rw [← hG]
     refine hK.out _ _ hsz (fun hS17=>?_)
     clear hK hal
     clear hG
     generalize (U16.alloc (.cells #[.int .i64 y] 3))=U17 at *
    rotate_left
    focus
     obtain ⟨G,hG⟩:∃ G,G=U15.heap.size:=⟨_,rfl⟩
     have e0:(U15.alloc (.cells #[.int .i64 y] 3)).cell? ⟨G,0,none⟩=some (.int .i64 y):=by subst hG;simp [go_sem]
     have hal:Below U15.heap.size U15 (U15.alloc (.cells #[.int .i64 y] 3)):=by go_grown
     have hap:∀ g,Value.ownBlock (.slice (some ⟨V15,0,none⟩) 0 0)=some g→g≠G:=fun g hg e=>by have:=(q.lt g hg).2;omega
     replace q:=owns8 q hal
     replace bw:=bel8 bw hal
     replace hsz:w.heap.size≤(U15.alloc (.cells #[.int .i64 y] 3)).heap.size:=Nat.le_trans hsz hal.size
     go_simp
     rw [← hG]
     refine hK.out _ _ hsz (fun hS20=>?_)
     clear hK hal
     clear hG
     generalize (U15.alloc (.cells #[.int .i64 y] 3))=U20 at *
     try simp only [Act.put,tka,tkb,tkc]
     refine tkr 4 39 (fun K hK=>?_)
     have hGl:=World.block_lt_of_cell? _ _ e0
     refine step_app8 rfl _ _ 40 rfl w.heap.size 3 i0 (.int .i64 0) 1 8 Tryz.underlying40 hi hz0 hz1 hz2 rfl (by decide) (.slice (some ⟨V15,0,none⟩) 0 0) 0 [] rfl q ⟨b,off,none⟩ k cap ((xs.take k).map (Value.int .i64)) rfl (by rw [List.length_map,List.length_take];omega) (news8 ((slice_h8 h hkn).2.below bw)) (one8 _) (by unfold maxLen;omega) (by omega) hsz ?_
     intro v16 U21 q2 gr hob
     replace e0:=grown8 gr e0 (fun e=>hap _ e.symm rfl)
     have hap2:∀ g,Value.ownBlock v16=some g→g≠G:=fun g hg e=>by
      rcases hob with hu | hu
      ·exact hap g (hu▸hg) e
      ·rw [hu] at hg
       simp at hg hGl
       omega
     clear hap hGl
     have hap:=hap2
     clear hap2
     replace bw:=bw.grown gr bw.size (fun g hg=>(q.lt g hg).1)
     replace hsz:w.heap.size≤U21.heap.size:=Nat.le_trans hsz gr.size
     refine hK.out _ _ hsz (fun hS21=>?_)
     clear hK q gr hob
     have q:=q2
     clear q2
   rotate_left 2
   focus
    obtain ⟨G,hG⟩:∃ G,G=w.heap.size:=⟨_,rfl⟩
    have e0:(w.alloc (.cells #[.int .i64 y] 3)).drew.cell? ⟨G,0,none⟩=some (.int .i64 y):=by subst hG;simp [go_sem]
    have hal:Below w.heap.size w (w.alloc (.cells #[.int .i64 y] 3)).drew:=by go_grown
    replace bw:=bel8 bw hal
    replace hsz:w.heap.size≤(w.alloc (.cells #[.int .i64 y] 3)).drew.heap.size:=Nat.le_trans hsz hal.size
    go_simp
    rw [← hG]
    refine hK.out _ _ hsz (fun hS24=>?_)
    clear hK hal
    clear hG
    generalize (w.alloc (.cells #[.int .i64 y] 3)).drew=U24 at *
    try simp only [Act.put,tka,tkb,tkc]
    refine tkr 0 35 (fun K hK=>?_)
    have q:=(empty8 U24 3 1 w.heap.size hsz)
    obtain ⟨V25,hV⟩:∃ V,V=U24.heap.size:=⟨_,rfl⟩
    have hap:∀ g,(Value.slice (some ⟨U24.heap.size,0,none⟩) 0 0).ownBlock=some g→g≠G:=fun g hg e=>by have hGl:=World.block_lt_of_cell? _ _ e0;simp [Value.ownBlock] at hg;simp at hGl;omega
    have hal:Below U24.heap.size U24 (U24.alloc (.cells #[] 3)):=by go_grown
    replace e0:=cell8 hal e0
    replace bw:=bel8 bw hal
    replace hsz:w.heap.size≤(U24.alloc (.cells #[] 3)).heap.size:=Nat.le_trans hsz hal.size
    go_simp
    rw [← hV]
    refine hK.out _ _ hsz (fun hS25=>?_)
    clear hK hal
    replace q:(U24.alloc (.cells #[] 3)).ownsRow w.heap.size 3 1 (.slice (some ⟨V25,0,none⟩) 0 0) 0 []:=by rw [hV];exact q
    replace hap:∀ g,(Value.slice (some ⟨V25,0,none⟩) 0 0).ownBlock=some g→g≠G:=by rw [hV];exact hap
    clear hV
    generalize (U24.alloc (.cells #[] 3))=U25 at *
    try simp only [Act.put,tka,tkb,tkc]
    refine tkr 4 39 (fun K hK=>?_)
    have hGl:=World.block_lt_of_cell? _ _ e0
    refine step_app8 rfl _ _ 40 rfl w.heap.size 3 i0 (.int .i64 0) 1 8 Tryz.underlying40 hi hz0 hz1 hz2 rfl (by decide) (.slice (some ⟨V25,0,none⟩) 0 0) 0 [] rfl q ⟨b,off,none⟩ k cap ((xs.take k).map (Value.int .i64)) rfl (by rw [List.length_map,List.length_take];omega) (news8 ((slice_h8 h hkn).2.below bw)) (one8 _) (by unfold maxLen;omega) (by omega) hsz ?_
    intro v16 U26 q2 gr hob
    replace e0:=grown8 gr e0 (fun e=>hap _ e.symm rfl)
    have hap2:∀ g,Value.ownBlock v16=some g→g≠G:=fun g hg e=>by
     rcases hob with hu | hu
     ·exact hap g (hu▸hg) e
     ·rw [hu] at hg
      simp at hg hGl
      omega
    clear hap hGl
    have hap:=hap2
    clear hap2
    replace bw:=bw.grown gr bw.size (fun g hg=>(q.lt g hg).1)
    replace hsz:w.heap.size≤U26.heap.size:=Nat.le_trans hsz gr.size
    refine hK.out _ _ hsz (fun hS26=>?_)
    clear hK q gr hob
    have q:=q2
    clear q2
   all_goals
    try simp only [Act.put,tka,tkb,tkc]
    refine tkr 7 42 (fun K hK=>?_)
    refine step_app8 rfl _ _ 40 rfl w.heap.size 3 i0 (.int .i64 0) 1 8 Tryz.underlying40 hi hz0 hz1 hz2 rfl (by decide) v16 (0+k) ([]++(xs.take k).map (Value.int .i64)) rfl q ⟨G,0,none⟩ 1 1 [.int .i64 y] rfl rfl (lone8 e0) (one8 [y]) (by unfold maxLen;omega) (by omega) hsz ?_
    intro v18 U18 q2 gr hob
    replace bw:=bw.grown gr bw.size (fun g hg=>(q.lt g hg).1)
    replace hsz:w.heap.size≤U18.heap.size:=Nat.le_trans hsz gr.size
    refine hK.out _ _ hsz (fun hS18=>?_)
    clear hK q gr hob
    have q:=q2
    clear q2
    clear e0 hap
    try simp only [Act.put,tka,tkb,tkc]
    refine tkr 11 46 (fun K hK=>?_)
    refine step_app8 rfl _ _ 40 rfl w.heap.size 3 i0 (.int .i64 0) 1 8 Tryz.underlying40 hi hz0 hz1 hz2 rfl (by decide) v18 (0+k+1) (([]++(xs.take k).map (Value.int .i64))++[.int .i64 y]) rfl q ⟨b,o2,none⟩ 0 (cap - k) ((xs.drop k).map (Value.int .i64)) rfl (by rw [List.length_map,List.length_drop];omega) (news8 (hD.below bw)) (one8 _) (by unfold maxLen;omega) (by omega) hsz ?_
    intro v19 U19 q2 gr hob
    replace bw:=bw.grown gr bw.size (fun g hg=>(q.lt g hg).1)
    replace hsz:w.heap.size≤U19.heap.size:=Nat.le_trans hsz gr.size
    refine hK.out _ _ hsz (fun hS19=>?_)
    clear hK q gr hob
    have q:=q2
    clear q2
    try simp only [Act.put,tka,tkb,tkc]
    refine tkm 12 4 v19 ?_
    refine wpAnyH_done (by kernel_rfl) ?_ _
    have hQ:=HP.out _ _ q
    obtain ⟨g,c,rfl⟩:=some8 q (by omega)
    clear q rT rD
    go_wp2
    go_ret
    exact ⟨⟨_,rfl,hQ⟩,bw⟩
end Go.Proofs.YtdopgkbegjfhjaaGreatDoor
