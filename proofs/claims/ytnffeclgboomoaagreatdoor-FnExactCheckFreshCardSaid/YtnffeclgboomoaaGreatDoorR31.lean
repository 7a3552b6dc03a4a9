/-
  Joined: EntP, RwI, MapI, SetP, MrgI, PutI.
-/
import Derived.Maps.OwnSet
import Derived.Maps.OwnOps
import Derived.Maps.Own
import Derived.Shelf.SlIterI.Nil
import Derived.Shelf.SortM.Plain
import Derived.Shelf.SortM.SortNone
import Derived.Test.YtnffeclgboomoaaGreatDoorR29

namespace Go.Proofs.YtnffeclgboomoaaGreatDoor
set_option maxRecDepth 100000
set_option maxHeartbeats 16000000
open Go.RowKit
set_option linter.unusedVariables false
set_option linter.unusedSimpArgs false

theorem Ur {f:Nat→Bool} {n k:Nat} (hk:k<n) (h:f k=false):(List.range n).all f=false:=by
 rw [List.all_eq_false]
 exact ⟨k,List.mem_range.2 hk,by rw [h];simp⟩
theorem Uc {f:Nat→Bool} {n:Nat} (h:∀ k,k<n→f k=true):(List.range n).all f=true:=by
 rw [List.all_eq_true]
 exact fun k hk=>h k (List.mem_range.1 hk)
theorem Vn {f:Nat→Bool} {n k:Nat} (h:(List.range n).all f=true) (hk:k<n):f k=true:=List.all_eq_true.1 h k (List.mem_range.2 hk)

def MU (xs:List I3) (i:Nat):Bool:=okB (xs.getD i (0,0,0)) && (decide (i=0) || ltB (xs.getD (i - 1) (0,0,0)) (xs.getD i (0,0,0)))
def VZ (xs:List I3):Bool:=(List.range xs.length).all (MU xs)
def P1 (zs:List Int) (i:Nat):Bool:=XO (zs.getD i 0) && (decide (i=0) || decide (zs.getD (i - 1) 0<zs.getD i 0))
def St (zs:List Int):Bool:=(List.range zs.length).all (P1 zs)
def WH (k:ByteArray):Bool:=decide (k.size=15) && Zh (XL k)
def Ve (e:E3):Bool:=WH e.1 && (VZ e.2.1 && (St e.2.2 && decide (e.2.1.length≤30)))
def Nj (es:List E3) (i:Nat):Bool:=Ve (es.getD i e3d) && (decide (i=0) || ltS (es.getD (i - 1) e3d).1 (es.getD i e3d).1)
def Y5 (es:List E3):Bool:=(List.range es.length).all (Nj es) && decide (es.length≤2000)

theorem Uh {es:List E3} (h:Y5 es=true):es.length≤2000:=by
 simp only [Y5,Bool.and_eq_true,decide_eq_true_eq] at h
 exact h.2
theorem Kl {es:List E3} (h:Y5 es=true) {i:Nat} (hi:i<es.length):Ve (es.getD i e3d)=true:=by
 simp only [Y5,Bool.and_eq_true,decide_eq_true_eq] at h
 have:=Vn h.1 hi
 simp only [Nj,Bool.and_eq_true] at this
 exact this.1
theorem Ms {es:List E3} (h:Y5 es=true) {i:Nat} (hi:i+1<es.length):ltS (es.getD i e3d).1 (es.getD (i+1) e3d).1=true:=by
 simp only [Y5,Bool.and_eq_true,decide_eq_true_eq] at h
 have:=Vn h.1 hi
 simp only [Nj,Bool.and_eq_true,Bool.or_eq_true,decide_eq_true_eq] at this
 rcases this.2 with h0 | h1
 ·omega
 simpa using h1
theorem Nk {es:List E3} (h:Y5 es=true):∀ {j i:Nat},i<j→j<es.length→ltS (es.getD i e3d).1 (es.getD j e3d).1=true
 | 0,i,hi,_=>by omega
 | j+1,i,hi,hj=>by
  have hn:=Ms h (i:=j) hj
  by_cases e:i=j
  ·rw [e];exact hn
  exact Vg (Nk h (j:=j) (i:=i) (by omega) (by omega)) hn

def Yp (es:List E3) (k:ByteArray):Nat:=(es.takeWhile fun e=>ltS e.1 k).length
theorem PA (es:List E3) (k:ByteArray):Yp es k≤es.length:=by
 unfold Yp
 exact (List.takeWhile_prefix _).length_le
theorem NP {α:Type} {p:α→Bool} {d:α}:∀ {l:List α} {i:Nat},i<(l.takeWhile p).length→p (l.getD i d)=true
 | [],i,h=>by simp at h
 | x::l,i,h=>by
  by_cases hx:p x=true
  ·rw [List.takeWhile_cons_of_pos hx] at h
   cases i with
   | zero=>simpa using hx
   | succ i=>simpa using NP (l:=l) (i:=i) (by simpa using h)
  rw [List.takeWhile_cons_of_neg hx] at h
  simp at h
theorem RN {α:Type} {p:α→Bool} {d:α}:∀ {l:List α},(l.takeWhile p).length<l.length→p (l.getD (l.takeWhile p).length d)=false
 | [],h=>by simp at h
 | x::l,h=>by
  by_cases hx:p x=true
  ·rw [List.takeWhile_cons_of_pos hx] at h ⊢
   simpa using RN (l:=l) (by simpa using h)
  rw [List.takeWhile_cons_of_neg hx]
  simpa using hx
theorem Vy {es:List E3} {k:ByteArray} {i:Nat} (h:i<Yp es k):ltS (es.getD i e3d).1 k=true:=NP (p:=fun e:E3=>ltS e.1 k) (d:=e3d) h
theorem TY {es:List E3} {k:ByteArray} (h:Yp es k<es.length):ltS (es.getD (Yp es k) e3d).1 k=false:=RN (p:=fun e:E3=>ltS e.1 k) (d:=e3d) h
theorem PB {es:List E3} {k:ByteArray} {n:Nat} (h1:∀ i,i<n→ltS (es.getD i e3d).1 k=true) (hn:n≤es.length) (h2:n<es.length→ltS (es.getD n e3d).1 k=false):Yp es k=n:=by
 by_cases hlt:Yp es k<n
 ·have a:=TY (k:=k) (show Yp es k<es.length by omega)
  rw [h1 _ hlt] at a
  cases a
 by_cases hgt:n<Yp es k
 ·have a:=Vy hgt
  have b:=h2 (by have:=PA es k;omega)
  rw [a] at b
  cases b
 omega
def isE (es:List E3) (k:ByteArray):Bool:=decide (Yp es k<es.length) && decide ((es.getD (Yp es k) e3d).1=k)
def WU (es:List E3) (k:ByteArray):E3:=if isE es k then es.getD (Yp es k) e3d else e3d
def Ws (es:List E3) (e:E3):List E3:=(es.take (Yp es e.1)++[e])++es.drop (if isE es e.1 then Yp es e.1+1 else Yp es e.1)


def IsL (w:World) (v:Value) (xs:List Int):Prop:=∃ la ln lc,v=.slice la ln lc∧Yi .i64 w la ln lc xs
theorem IsL.below {w w':World} {v:Value} {xs:List Int} (h:IsL w v xs) (hb:Below w.heap.size w w'):IsL w' v xs:=by
 obtain ⟨la,ln,lc,rfl,hi⟩:=h
 exact ⟨la,ln,lc,rfl,hi.below hb⟩
def Lw (w:World) (vs:List Value) (xss:List (List Int)):Prop:=vs.length=xss.length∧∀ t,t<xss.length→IsL w (vs.getD t undef) (xss.getD t [])
theorem Lw.below {w w':World} {vs:List Value} {xss:List (List Int)} (h:Lw w vs xss) (hb:Below w.heap.size w w'):Lw w' vs xss:=⟨h.1,fun t ht=>(h.2 t ht).below hb⟩
def Um (w:World) (a:Option Addr) (n c:Nat) (xss:List (List Int)):Prop:=
 xss.length=n∧n≤c∧c≤maxLen∧∃ vs,Lw w vs xss∧(n=0∨∃ b off,a=some ⟨b,off,none⟩∧b<w.heap.size∧∀ t,t<n→w.cell? ⟨b,off+t,none⟩=some (vs.getD t undef))
theorem Um.below {w w':World} {a:Option Addr} {n c:Nat} {xss:List (List Int)} (h:Um w a n c xss) (hb:Below w.heap.size w w'):Um w' a n c xss:=by
 obtain ⟨h1,h2,h3,vs,h4,h5⟩:=h
 refine ⟨h1,h2,h3,vs,h4.below hb,?_⟩
 rcases h5 with h5 | ⟨b,off,h6,h7,h8⟩
 ·exact .inl h5
 exact .inr ⟨b,off,h6,Nat.lt_of_lt_of_le h7 hb.size,fun t ht=>by rw [hb.cell (p:=⟨b,off+t,none⟩) h7];exact h8 t ht⟩
theorem Um.cell {w:World} {a:Option Addr} {n c:Nat} {xss:List (List Int)} (h:Um w a n c xss) {t:Nat} (ht:t<n):∃ b off la ln lc,a=some ⟨b,off,none⟩∧w.cell? ⟨b,off+t,none⟩=some (.slice la ln lc)∧Yi .i64 w la ln lc (xss.getD t []):=by
 obtain ⟨h1,h2,h3,vs,h4,h5⟩:=h
 rcases h5 with h5 | ⟨b,off,h6,h7,h8⟩
 ·omega
 obtain ⟨la,ln,lc,e,hi⟩:=h4.2 t (by omega)
 exact ⟨b,off,la,ln,lc,h6,by rw [h8 t ht,e],hi⟩
theorem Um.own {w:World} {B n c:Nat} {a:Option Addr} {vs:List Value} {xss:List (List Int)} (h:w.ownsRow B 36 1 (.slice a n c) n vs) (hl:xss.length=n) (hA:Lw w vs xss):Um w a n c xss:=by
 rcases h.2 with ⟨e,h0⟩ | ⟨b,cc,cur,e,h1,h2,h3,h4⟩
 ·cases e
  exact ⟨by omega,by omega,by unfold maxLen;omega,vs,hA,.inl (by omega)⟩
 cases e
 refine ⟨hl,by omega,by omega,vs,hA,.inr ⟨b,0,rfl,(h.lt b rfl).2,fun t ht=>?_⟩⟩
 rw [Nat.zero_add,h.cellAt t (by omega)]
 have hq:=hA.1
 simp [List.getD,show t<vs.length by omega]


theorem Rm:Maps.Keyed Tryz.prog 3:=Maps.int_keyed Tryz.underlying3
theorem KW (w:World):(zeroValue 3).run Tryz.prog w=.ok (.int .i64 0) w:=by kernel_rfl
structure SX (D:DataW Unit) (xs:List Int):Prop where
 has:∀ x:Int,Maps.has D (.int .i64 x)=true↔x ∈ xs
 bnd:∀ x c:Int,D.atKey (.int .i64 x) (.lit (.int .i64 0))=.lit (.int .i64 c)→0≤c∧c≤xs.length
theorem SX.start:SX (.map []) []:=⟨fun t=>by simp [Maps.has],fun x c h=>by
 simp [DataW.atKey] at h
 subst h
 simp⟩
theorem M3 {s t:Int} (h:s≠t):(Lit.int .i64 s)≠Lit.int .i64 t:=fun e=>by
 injection e with _ e
 exact h e
theorem SX.put {D:DataW Unit} {xs:List Int} (h:SX D xs) (hm:Maps.IsMap D) {x c:Int} (hc0:0≤c) (hc:c≤xs.length) :
  SX (D.put (.int .i64 x) (.lit (.int .i64 (c+1)))) (xs++[x]):=by
 have hkl:WideAt.IsKeyLit (.int .i64 x):=trivial
 refine ⟨fun t=>?_,fun y d hd=>?_⟩
 ·by_cases e:t=x
  ·subst e
   rw [Maps.has_put_same hm hkl]
   simp
  rw [Maps.has_put_other (M3 e),h.has]
  simp [e]
 by_cases e:y=x
 ·subst e
  rw [Maps.atKey_put_same hm hkl] at hd
  injection hd with hd
  injection hd with _ hd
  subst hd
  simp
  omega
 rw [Maps.atKey_put_other (M3 e)] at hd
 have:=h.bnd y d hd
 simp
 omega
theorem H7 {z:Int} (h:0≤z) (h':z≤2000000000):(Lit.int .i64 z).wf=true:=by
 simp only [Lit.wf,Bool.and_eq_true,decide_eq_true_eq]
 have h1:IntKind.i64.min=-9223372036854775808:=by decide
 have h2:IntKind.i64.max=9223372036854775807:=by decide
 omega
theorem Ji {x:Int} (h:(Lit.int .i64 x).wf=true):keyOf Tryz.prog 3 (.int .i64 x)=some (.int .i64 x):=by
 simp [keyOf,Tryz.underlying3,mapKey,h]
def Gt (e:Ending) (w':World) (B:Nat) (xs:List Int):Prop:=e=.returned (.map (some B))∧∃ D:DataW Unit,w'.ownsMap Tryz.prog 3 (plainElem Tryz.prog 3) B xs.length D∧SX D xs

theorem LH {xss:List (List Int)} {i:Nat} (h:i<xss.length):(xss.take (i+1)).flatten=(xss.take i).flatten++xss.getD i []:=by
 have e:xss.getD i []=xss[i]:=by simp [List.getD,List.getElem?_eq_getElem h]
 rw [List.take_succ_eq_append_getElem h,List.flatten_append,e]
 simp only [List.flatten_cons,List.flatten_nil,List.append_nil]
theorem K9 (xss:List (List Int)) (i:Nat):(xss.take i).flatten.length≤xss.flatten.length:=by
 conv=>rhs;rw [← List.take_append_drop i xss]
 rw [List.flatten_append,List.length_append]
 omega
theorem RO {Z:List Int} {k:Nat} (h:k<Z.length):Z.take (k+1)=Z.take k++[Z.getD k 0]:=by
 rw [List.take_succ_eq_append_getElem h]
 simp [List.getD,List.getElem?_eq_getElem h]

theorem Jq (a:Option Addr) (n c:Nat) (xss:List (List Int)) (w:World) (h:Um w a n c xss) (hn:n≤1000000) (hT:xss.flatten.length≤1000000000) (hF:∀ x ∈ xss.flatten,(Lit.int .i64 x).wf=true) :
  Calls Tryz.prog 156 #[.slice a n c] w fun e w'=>Gt e w' w.heap.size xss.flatten∧Below w.heap.size w w':=by
 have hmm:=@run_makeMap Tryz.prog
 have hl:=h.1
 have hm0:(w.alloc (.map #[] 0)).ownsMap Tryz.prog 3 (plainElem Tryz.prog 3) w.heap.size 0 (.map []:DataW Unit):=World.ownsMap_made (H:=Unit) w Tryz.prog 3 (plainElem Tryz.prog 3)
 have hb0:Below w.heap.size w (w.alloc (.map #[] 0)):=⟨rfl,rfl,rfl,by simp,fun k hk=>Below.heap_alloc w _ k hk⟩
 obtain ⟨R,hR⟩:∃ R:World→Nat→List Int→Prop,∀ wr tot xs,R wr tot xs↔(∃ D:DataW Unit,wr.ownsMap Tryz.prog 3 (plainElem Tryz.prog 3) w.heap.size tot D∧SX D xs)∧Below w.heap.size w wr:=⟨fun wr tot xs=>(∃ D:DataW Unit,wr.ownsMap Tryz.prog 3 (plainElem Tryz.prog 3) w.heap.size tot D∧SX D xs)∧Below w.heap.size w wr,fun _ _ _=>Iff.rfl⟩
 have hR0:R (w.alloc (.map #[] 0)) 0 []:=(hR _ _ _).2 ⟨⟨_,hm0,SX.start⟩,hb0⟩
 clear hm0 hb0
 go_enter Tryz.func156,Tryz.ntmps156
 go_wp2_with fail
 go_loopw [11] (fun si wr=>∃ i:Nat,i≤n∧si=.int .i64 i∧R wr ((xss.take i).flatten.length) ((xss.take i).flatten)) (fun si _=>n - (Go.RowKit.intOf si).toNat)
 case atStart=>exact ⟨0,by omega,rfl,by simpa using hR0⟩
 case round =>
  obtain ⟨i,hi,rfl,hr⟩:=hrel
  by_cases hlt:i<n
  ·have hlt':(i:Int)<(n:Int):=by omega
   obtain ⟨b,off,la,ln,lc,rfl,hcw,hI⟩:=h.cell hlt
   have hI0:=hI
   have hc:=hcw
   rw [← ((hR _ _ _).1 hr).2.cell (p:=⟨b,off+i,none⟩) (Uz hcw)] at hc
   obtain ⟨zs,hzs⟩:∃ zs,zs=xss.getD i []:=⟨_,rfl⟩
   have hfl:=LH (xss:=xss) (i:=i) (by omega)
   have hle:=K9 xss (i+1)
   rw [hfl,List.length_append] at hle
   rw [← hzs] at hI hI0 hfl hle
   have hlz:=hI.1
   have hzm:∀ x ∈ zs,(Lit.int .i64 x).wf=true:=fun x hx=>hF x (by
    rw [hzs] at hx
    have hi2:i<xss.length:=by omega
    rw [List.mem_flatten]
    refine ⟨xss.getD i [],?_,hx⟩
    simp [List.getD,List.getElem?_eq_getElem hi2])
   clear hzs
   obtain ⟨ys,hys⟩:∃ ys,ys=(xss.take i).flatten:=⟨_,rfl⟩
   rw [← hys] at hr hfl hle
   have HF:Hid ((xss.take (i+1)).flatten=ys++zs):=hfl
   have hbW:=((hR _ _ _).1 hr).2
   clear hys hfl
   go_wp2_with fail
   go_loopw [17] (fun sj wq=>∃ j:Nat,j≤ln∧sj=.int .i64 j∧R wq (ys.length+j) (ys++zs.take j)) (fun sj _=>ln - (Go.RowKit.intOf sj).toNat)
   case atStart=>exact ⟨0,by omega,rfl,by simpa using hr⟩
   case round =>
    obtain ⟨j,hj,rfl,hq⟩:=hrel
    by_cases hlj:j<ln
    ·have hlj':(j:Int)<(ln:Int):=by omega
     obtain ⟨⟨D,hm,hS⟩,hbl⟩:=(hR _ _ _).1 hq
     obtain ⟨_,_,_,hcase⟩:=hI0.below hbl
     rcases hcase with e0 | ⟨lb,lo,rfl,_,hcc⟩
     ·omega
     have d0:=hcc j hlj
     have hx:=hzm (zs.getD j 0) (by simp [List.getD,List.getElem?_eq_getElem (show j<zs.length by omega)])
     have hsn:ys++zs.take (j+1)=(ys++zs.take j)++[zs.getD j 0]:=by rw [RO (by omega),List.append_assoc]
     have HS:Hid (ys++zs.take (j+1)=(ys++zs.take j)++[zs.getD j 0]):=hsn
     have hlen:(ys++zs.take j).length=ys.length+j:=by simp;omega
     generalize zs.getD j 0=x at d0 hx HS
     have hkey:=Ji hx
     have hT2:ys.length+j≤1000000000:=by omega
     clear hcc hI hI0 hzm hc hcw hsn hF hx
     have hbn:∀ c:Int,D.atKey (.int .i64 x) (.lit (.int .i64 0))=.lit (.int .i64 c)→(0≤c∧c≤1000000000)∧SX (D.put (.int .i64 x) (.lit (.int .i64 (c+1)))) (ys++zs.take j++[x]):=fun c hat=>by
      have:=hS.bnd x c hat
      exact ⟨by omega,hS.put hm.isMap this.1 this.2⟩
     clear hS hlen
     go_wp2_with (first | (at_lookup;refine wpList_lookup_own_int _ rfl _ _ 223 rfl 3 3 .i64 Rm Tryz.underlying223 Tryz.underlying3 (KW _) w.heap.size (ys.length+j) D rfl hm _ _ rfl hkey ?_;intro cc hat hwc;obtain ⟨⟨hc0,hc1⟩,hSP⟩:=hbn cc hat;clear hbn hat hwc) | (at_mapUpdate;refine wpList_mapUpdate_own _ rfl _ _ _ 223 rfl 3 3 Rm Tryz.underlying223 _ w.heap.size (ys.length+j) D rfl hm (by unfold maxLen;omega) _ _ _ rfl rfl hkey _ [] (plainElem_int Tryz.underlying3 (H7 (by omega) (by omega))) ?_;intro w3 hm3 g3))
     have hb3:Below w.heap.size w w3:=hbl.grown g3 hbl.size (fun k e=>by cases e;exact Nat.le_refl _)
     go_roundw
     case rel=>exact ⟨j+1,by omega,by go_num,(hR _ _ _).2 ⟨⟨_,by rw [← Nat.add_assoc];exact hm3,by rw [HS.out];exact hSP⟩,hb3⟩⟩
     case measure=>simp [Go.RowKit.intOf];omega
    obtain rfl:j=ln:=by omega
    have e9:zs.take j=zs:=List.take_of_length_le (by omega)
    rw [e9,← hlz,← List.length_append,← HF.out] at hq
    clear e9 HF
    go_wp2
    go_roundw
    case rel=>exact ⟨i+1,by omega,by go_num,hq⟩
    case measure=>simp [Go.RowKit.intOf];omega
  obtain rfl:i=n:=by omega
  have e9:xss.take i=xss:=List.take_of_length_le (by omega)
  rw [e9,hR] at hr
  obtain ⟨⟨D,hm,hS⟩,hbl⟩:=hr
  clear e9
  go_wp2
  go_ret
  exact ⟨⟨rfl,D,hm,hS⟩,hbl⟩


def Yg:List Int→Int→List Int
 | [],n=>[n]
 | x::xs,n=>if x<n then x::Yg xs n else if x=n then x::xs else n::x::xs
def YA (xs:List Int):List Int:=xs.foldl Yg []
theorem Vh:∀ (xs:List Int) (n y:Int),y ∈ Yg xs n↔y=n∨y ∈ xs
 | [],n,y=>by simp [Yg]
 | x::xs,n,y=>by
  unfold Yg
  split
  ·simp only [List.mem_cons,Vh xs n y]
   constructor
   ·rintro (h | h | h)
    ·exact .inr (.inl h)
    ·exact .inl h
    exact .inr (.inr h)
   rintro (h | h | h)
   ·exact .inr (.inl h)
   ·exact .inl h
   exact .inr (.inr h)
  split
  ·rename_i h
   subst h
   simp
  simp
theorem RD:∀ (xs:List Int) (n:Int),xs.Pairwise (· < ·)→(Yg xs n).Pairwise (· < ·)
 | [],n,_=>by simp [Yg]
 | x::xs,n,h=>by
  obtain ⟨h1,h2⟩:=List.pairwise_cons.1 h
  unfold Yg
  split
  ·rename_i hx
   refine List.pairwise_cons.2 ⟨fun y hy=>?_,RD xs n h2⟩
   rcases (Vh xs n y).1 hy with rfl | hy
   ·exact hx
   exact h1 y hy
  split
  ·exact h
  refine List.pairwise_cons.2 ⟨fun y hy=>?_,h⟩
  rcases List.mem_cons.1 hy with rfl | hy
  ·omega
  have:=h1 y hy
  omega
theorem Uu:∀ (xs acc:List Int),acc.Pairwise (· < ·)→(xs.foldl Yg acc).Pairwise (· < ·)∧∀ y,y ∈ xs.foldl Yg acc↔y ∈ acc∨y ∈ xs
 | [],acc,h=>⟨h,fun y=>by simp⟩
 | x::xs,acc,h=>by
  obtain ⟨h1,h2⟩:=Uu xs (Yg acc x) (RD acc x h)
  refine ⟨h1,fun y=>?_⟩
  rw [List.foldl_cons,h2,Vh,List.mem_cons]
  constructor
  ·rintro ((h | h) | h)
   ·exact .inr (.inl h)
   ·exact .inl h
   exact .inr (.inr h)
  rintro (h | h | h)
  ·exact .inl (.inr h)
  ·exact .inl (.inl h)
  exact .inr h
theorem Xe (xs:List Int):(YA xs).Pairwise (· < ·):=(Uu xs [] List.Pairwise.nil).1
theorem Wg (xs:List Int) (y:Int):y ∈ YA xs↔y ∈ xs:=by
 have:=(Uu xs [] List.Pairwise.nil).2 y
 simpa [YA] using this
theorem WR {xs:List Int} (h:xs.Pairwise (· < ·)):xs.Nodup:=h.imp (fun h e=>by subst e;exact absurd h (by omega))
theorem JB {xs ys:List Int} (h:xs.Pairwise (· < ·)) (h':ys.Pairwise (· < ·)) (hm:∀ y,y ∈ xs↔y ∈ ys):xs=ys:=by
 have hp:xs.Perm ys:=(List.perm_ext_iff_of_nodup (WR h) (WR h')).2 hm
 exact hp.eq_of_pairwise (le:=fun a b=>a<b) (fun a b _ _ h1 h2=>absurd h1 (by omega)) h h'
theorem Jx (xs:List Int) (n:Int):(Yg xs n).length≤xs.length+1:=by
 induction xs with
 | nil=>simp [Yg]
 | cons x xs ih =>
  unfold Yg
  split
  ·simp;omega
  split<;>simp
theorem XE:∀ (xs acc:List Int),(xs.foldl Yg acc).length≤acc.length+xs.length
 | [],acc=>by simp
 | x::xs,acc=>by
  have:=XE xs (Yg acc x)
  have:=Jx acc x
  simp
  omega
theorem Jt (xs:List Int):(YA xs).length≤xs.length:=by simpa [YA] using XE xs []
theorem Li:∀ (xs:List Int) (n:Int) (k:Nat),k≤xs.length→(∀ i,i<k→xs.getD i 0<n)→(k=xs.length∨¬ xs.getD k 0<n)→Yg xs n=if k<xs.length∧xs.getD k 0=n then xs else xs.take k++[n]++xs.drop k
 | [],n,k,hk,_,_=>by
  have:k=0:=by simpa using hk
  subst this
  simp [Yg]
 | x::xs,n,0,_,_,h=>by
  have hx:¬ x<n:=by simpa using h
  unfold Yg
  rw [if_neg hx]
  simp
 | x::xs,n,k+1,hk,hl,h=>by
  have hx:x<n:=by simpa using hl 0 (by omega)
  unfold Yg
  rw [if_pos hx]
  have ih:=Li xs n k (by simpa using hk) (fun i hi=>by simpa using hl (i+1) (by omega)) (by simpa using h)
  rw [ih]
  simp only [List.length_cons,Nat.add_lt_add_iff_right,List.getD_cons_succ,List.take_succ_cons,List.drop_succ_cons]
  split<;>simp

open Go.RowKit Go.Maps Go.Sort Go.Shelf

def QB:Go.Shelf.Ren:=⟨fun | 7=>155 | 10=>198 | n=>n,fun | 23=>223 | 26=>3 | 3=>3 | 28=>221 | 0=>0 | 27=>220 | 33=>163 | 4=>4 | n=>n,fun | n=>n⟩
theorem H9:Go.Proofs.SlLaysZI.n7 Tryz.prog QB:={
 mixed:=by kernel_rfl
 f7:=⟨Tryz.f155.name,by decide,Tryz.func155.trans (congrArg some (by kernel_rfl))⟩
 f10:=⟨Tryz.f198.name,by decide,Tryz.func198.trans (congrArg some (by kernel_rfl))⟩
 t0:=Tryz.underlying0
 a0:=Tryz.isAgg0
 z0:=Tryz.sizeOf0
 v0:=Tryz.zeroValue0
 t4:=Tryz.underlying4
 a4:=Tryz.isAgg4
 z4:=Tryz.sizeOf4
 v4:=Tryz.zeroValue4
 t23:=Tryz.underlying223
 a23:=Tryz.isAgg223
 z23:=Tryz.sizeOf223
 v23:=Tryz.zeroValue223
 t26:=Tryz.underlying3
 a26:=Tryz.isAgg3
 z26:=Tryz.sizeOf3
 v26:=Tryz.zeroValue3
 t27:=Tryz.underlying220
 a27:=Tryz.isAgg220
 z27:=Tryz.sizeOf220
 v27:=Tryz.zeroValue220
 t28:=Tryz.underlying221
 a28:=Tryz.isAgg221
 z28:=Tryz.sizeOf221
 v28:=Tryz.zeroValue221
 t33:=Tryz.underlying163
 a33:=Tryz.isAgg163
 z33:=Tryz.sizeOf163
 v33:=Tryz.zeroValue163 }
def Sw:Go.Shelf.Ren:=⟨fun | 6=>154 | 8=>196 | 9=>197 | 11=>222 | 13=>216 | 12=>223 | 23=>234 | 24=>235 | 14=>245 | 15=>246 | 16=>247 | 17=>248 | 18=>249 | 19=>250 | 20=>251 | 21=>252 | 22=>253 | 25=>263 | 26=>255 | 27=>256 | 28=>264 | 29=>265 | 30=>165 | 31=>268 | n=>n,fun | 26=>3 | 28=>221 | 24=>36 | 0=>0 | 3=>3 | 37=>252 | 48=>300 | 50=>302 | 4=>4 | 40=>294 | 39=>293 | 45=>138 | 5=>5 | 9=>9 | 51=>314 | 55=>318 | 57=>324 | 58=>167 | 33=>163 | n=>n,fun | n=>n⟩
theorem HJ:Go.Proofs.SlLaysZI.n6 Tryz.prog Sw:={
 mixed:=by kernel_rfl
 f6:=⟨Tryz.f154.name,by decide,Tryz.func154.trans (congrArg some (by kernel_rfl))⟩
 f8:=⟨Tryz.f196.name,by decide,Tryz.func196.trans (congrArg some (by kernel_rfl))⟩
 f11:=⟨Tryz.f222.name,by decide,Tryz.func222.trans (congrArg some (by kernel_rfl))⟩
 t0:=Tryz.underlying0
 a0:=Tryz.isAgg0
 z0:=Tryz.sizeOf0
 v0:=Tryz.zeroValue0
 t24:=Tryz.underlying36
 a24:=Tryz.isAgg36
 z24:=Tryz.sizeOf36
 v24:=Tryz.zeroValue36
 t26:=Tryz.underlying3
 a26:=Tryz.isAgg3
 z26:=Tryz.sizeOf3
 v26:=Tryz.zeroValue3
 t28:=Tryz.underlying221
 a28:=Tryz.isAgg221
 z28:=Tryz.sizeOf221
 v28:=Tryz.zeroValue221
 i26:=by kernel_rfl }
def KC:Go.Shelf.Ren:=⟨fun | 5=>197 | 8=>216 | 7=>223 | 19=>234 | 20=>235 | 10=>245 | 11=>246 | 12=>247 | 13=>248 | 14=>249 | 15=>250 | 16=>251 | 17=>252 | 18=>253 | 30=>263 | 31=>255 | 32=>256 | 33=>264 | 34=>265 | 35=>165 | 40=>268 | n=>n,fun | 23=>36 | 25=>3 | 3=>3 | 32=>252 | 22=>36 | 0=>0 | 44=>300 | 46=>302 | 4=>4 | 36=>294 | 35=>293 | 41=>138 | 5=>5 | 9=>9 | 53=>314 | 57=>318 | 63=>324 | 64=>167 | n=>n,fun | n=>n⟩
theorem Gj:Go.Proofs.SlLaysM.n5 Tryz.prog KC:={
 mixed:=by kernel_rfl
 f5:=⟨Tryz.f197.name,by decide,Tryz.func197.trans (congrArg some (by kernel_rfl))⟩
 f7:=⟨Tryz.f223.name,by decide,Tryz.func223.trans (congrArg some (by kernel_rfl))⟩
 f8:=Tryz.func216.trans (congrArg some (by kernel_rfl))
 f10:=⟨Tryz.f245.name,by decide,Tryz.func245.trans (congrArg some (by kernel_rfl))⟩
 f11:=⟨Tryz.f246.name,by decide,Tryz.func246.trans (congrArg some (by kernel_rfl))⟩
 f12:=⟨Tryz.f247.name,by decide,Tryz.func247.trans (congrArg some (by kernel_rfl))⟩
 f13:=⟨Tryz.f248.name,by decide,Tryz.func248.trans (congrArg some (by kernel_rfl))⟩
 f14:=⟨Tryz.f249.name,by decide,Tryz.func249.trans (congrArg some (by kernel_rfl))⟩
 f15:=⟨Tryz.f250.name,by decide,Tryz.func250.trans (congrArg some (by kernel_rfl))⟩
 f16:=⟨Tryz.f251.name,by decide,Tryz.func251.trans (congrArg some (by kernel_rfl))⟩
 f17:=⟨Tryz.f252.name,by decide,Tryz.func252.trans (congrArg some (by kernel_rfl))⟩
 f18:=⟨Tryz.f253.name,by decide,Tryz.func253.trans (congrArg some (by kernel_rfl))⟩
 f19:=Tryz.func234.trans (congrArg some (by kernel_rfl))
 f20:=Tryz.func235.trans (congrArg some (by kernel_rfl))
 f30:=⟨Tryz.f263.name,by decide,Tryz.func263.trans (congrArg some (by kernel_rfl))⟩
 f31:=Tryz.func255.trans (congrArg some (by kernel_rfl))
 f32:=Tryz.func256.trans (congrArg some (by kernel_rfl))
 f33:=⟨Tryz.f264.name,by decide,Tryz.func264.trans (congrArg some (by kernel_rfl))⟩
 f34:=⟨Tryz.f265.name,by decide,Tryz.func265.trans (congrArg some (by kernel_rfl))⟩
 f35:=⟨Tryz.f165.name,by decide,Tryz.func165.trans (congrArg some (by kernel_rfl))⟩
 f40:=⟨Tryz.f268.name,by decide,Tryz.func268.trans (congrArg some (by kernel_rfl))⟩
 t0:=Tryz.underlying0
 a0:=Tryz.isAgg0
 z0:=Tryz.sizeOf0
 v0:=Tryz.zeroValue0
 t3:=Tryz.underlying3
 a3:=Tryz.isAgg3
 z3:=Tryz.sizeOf3
 v3:=Tryz.zeroValue3
 t4:=Tryz.underlying4
 a4:=Tryz.isAgg4
 z4:=Tryz.sizeOf4
 v4:=Tryz.zeroValue4
 t5:=Tryz.underlying5
 a5:=Tryz.isAgg5
 z5:=Tryz.sizeOf5
 v5:=Tryz.zeroValue5
 t9:=Tryz.underlying9
 a9:=Tryz.isAgg9
 z9:=Tryz.sizeOf9
 v9:=Tryz.zeroValue9
 t22:=Tryz.underlying36
 a22:=Tryz.isAgg36
 z22:=Tryz.sizeOf36
 v22:=Tryz.zeroValue36
 t23:=Tryz.underlying36
 a23:=Tryz.isAgg36
 z23:=Tryz.sizeOf36
 v23:=Tryz.zeroValue36
 t25:=Tryz.underlying3
 a25:=Tryz.isAgg3
 z25:=Tryz.sizeOf3
 v25:=Tryz.zeroValue3
 t32:=Tryz.underlying252
 a32:=Tryz.isAgg252
 z32:=Tryz.sizeOf252
 v32:=Tryz.zeroValue252
 t35:=Tryz.underlying293
 a35:=Tryz.isAgg293
 z35:=Tryz.sizeOf293
 v35:=Tryz.zeroValue293
 t36:=Tryz.underlying294
 a36:=Tryz.isAgg294
 z36:=Tryz.sizeOf294
 v36:=Tryz.zeroValue294
 t41:=Tryz.underlying138
 a41:=Tryz.isAgg138
 z41:=Tryz.sizeOf138
 v41:=Tryz.zeroValue138
 t44:=Tryz.underlying300
 a44:=Tryz.isAgg300
 z44:=Tryz.sizeOf300
 v44:=Tryz.zeroValue300
 t46:=Tryz.underlying302
 a46:=Tryz.isAgg302
 z46:=Tryz.sizeOf302
 v46:=Tryz.zeroValue302
 t53:=Tryz.underlying314
 a53:=Tryz.isAgg314
 z53:=Tryz.sizeOf314
 v53:=Tryz.zeroValue314
 t57:=Tryz.underlying318
 a57:=Tryz.isAgg318
 z57:=Tryz.sizeOf318
 v57:=Tryz.zeroValue318
 t63:=Tryz.underlying324
 a63:=Tryz.isAgg324
 z63:=Tryz.sizeOf324
 v63:=Tryz.zeroValue324
 t64:=Tryz.underlying167
 a64:=Tryz.isAgg167
 z64:=Tryz.sizeOf167
 v64:=Tryz.zeroValue167 }

theorem GG (m:Nat):AnyZI.SortsIn Tryz.prog Sw Fence.wide m:=
 ⟨fun blk off cap ss W hH hblk hsz=>callsIn_wide.2 (AnyM.slices_Sort_int Gj blk off cap ss W hH hblk hsz),
  fun p cap W=>callsIn_wide.2 (AnyM.slices_Sort_int_none Gj p cap W)⟩
theorem GN (mb:Option Nat) (W:World):Calls Tryz.prog 155 #[.map mb] W fun e w'=>e=.returned (.func (.func 198) #[] #[.pointer (some ⟨W.heap.size,0,none⟩)])∧w'=W.alloc (.cells #[.map mb] 223):=
 callsIn_wide.1 (AnyZI.keys_in H9 Fence.wide 5 trivial rfl mb W)
theorem HH (b nn:Nat) (D0:DataW Unit) (w:World) (hown:w.ownsMap Tryz.prog 3 (plainElem Tryz.prog 3) b nn D0) (hmax:nn≤1000000000) :
  Calls Tryz.prog 154 #[.func (.func 198) #[] #[.pointer (some ⟨w.heap.size,0,none⟩)]] (w.alloc (.cells #[.map (some b)] 223)) fun e w'=>∃ (v:Value) (ss:List Int),e=.returned v∧ss.Perm (intKeys D0) ∧
   w'.ownsRow (w.alloc (.cells #[.map (some b)] 223)).heap.size 3 1 v ss.length ((ss.mergeSort (fun x y=>decide (x≤y))).map encZ)∧(v=.slice none 0 0↔ss=[])∧Below (w.alloc (.cells #[.map (some b)] 223)).heap.size (w.alloc (.cells #[.map (some b)] 223)) w':=by
 have hbl:=hown.lt
 have hsz:=hown.size_le
 have hseq:SeqGives Fence.wide 2 Tryz.prog 198 #[.pointer (some ⟨w.heap.size,0,none⟩)] encZ (fun ss=>ss.Perm (intKeys D0)) (Maps.size D0) (w.alloc (.cells #[.map (some b)] 223)):=
  AnyZI.keys_gives (ρ:=QB) { H9 with } Fence.wide _ trivial rfl (by omega) w.heap.size b nn D0 _ (by simp) (by simp) (by
   obtain ⟨es,clock,hb,Ft,hs,hD⟩:=hown
   exact ⟨es,clock,(Below.heap_alloc _ _ b hbl).trans hb,Ft,hs,hD⟩)
 have cS:=AnyZI.sorted_in HJ Fence.wide 5 trivial trivial trivial trivial rfl (by omega) (GG _) (enters_of Tryz.func197 (by kernel_rfl) rfl) 198 #[.pointer (some ⟨w.heap.size,0,none⟩)] trivial (enters_of Tryz.func198 (by kernel_rfl) rfl) _ _ (by unfold maxLen;omega) (by omega) _ hseq
 exact callsIn_wide.1 cS
theorem Jk {w:World} {b nn:Nat} {D:DataW Unit} {xs ss:List Int} (hown:w.ownsMap Tryz.prog 3 (plainElem Tryz.prog 3) b nn D) (hS:SX D xs) (hp:ss.Perm (intKeys D)):ss.mergeSort (fun x y=>decide (x≤y))=YA xs:=by
 obtain ⟨es,hD,hpw,_⟩:=hown.entries Rm
 obtain ⟨es',hD',hko⟩:=hown.keysOf
 obtain rfl:es=es':=by rw [hD] at hD';simpa using hD'
 subst hD
 have hp2:(YA xs).Perm (intKeys (.map es)):=perm_intKeys hpw (fun p hp=>by obtain ⟨v,hv⟩:=hko p hp;obtain ⟨x,_,hx,_⟩:=Maps.keyOf_i64 Tryz.underlying3 hv;exact ⟨x,hx⟩) (WR (Xe xs)) (fun x=>by rw [Wg,hS.has])
 have hp3:(ss.mergeSort (fun x y=>decide (x≤y))).Perm (YA xs):=(List.mergeSort_perm _ _).trans (hp.trans hp2.symm)
 have tr:∀ a b c:Int,decide (a≤b)=true→decide (b≤c)=true→decide (a≤c)=true:=fun a b c h1 h2=>by simp only [decide_eq_true_eq] at *;exact Int.le_trans h1 h2
 have to:∀ a b:Int,(decide (a≤b) || decide (b≤a))=true:=fun a b=>by simp only [Bool.or_eq_true,decide_eq_true_eq];exact Int.le_total a b
 refine hp3.eq_of_pairwise (le:=fun a b=>a≤b) (fun a b _ _ h1 h2=>Int.le_antisymm h1 h2) ?_ ((Xe xs).imp (fun h=>Int.le_of_lt h))
 have:=List.pairwise_mergeSort tr to ss
 exact this.imp (fun h=>by simpa using h)
theorem Kn (a:Option Addr) (n c:Nat) (xss:List (List Int)) (w:World) (h:Um w a n c xss) (hn:n≤1000000) (hT:xss.flatten.length≤1000000000) (hF:∀ x ∈ xss.flatten,(Lit.int .i64 x).wf=true) :
  Calls Tryz.prog 104 #[.slice a n c] w fun e w'=>TD e w' w.heap.size (YA xss.flatten)∧Below w.heap.size w w':=by
 have kM:=Jq a n c xss w h hn hT hF
 clear h hF
 generalize xss.flatten=xs at *
 have HL:Hid (xs.length≤1000000000):=hT
 clear hT
 go_enter Tryz.func104,Tryz.ntmps104
 go_wp2_with fail
 refine kM.mono ?_
 rintro e w1 ⟨⟨rfl,D,hm,hS⟩,hb⟩
 have kS:=HH w.heap.size xs.length D w1 hm HL.out
 go_wp2_with fail
 refine (GN _ _).mono ?_
 rintro e w2 ⟨rfl,rfl⟩
 go_wp2_with fail
 refine kS.mono ?_
 rintro e w3 ⟨v,ss,rfl,hp,ho,hnil,hb3⟩
 go_wp2
 go_ret
 have hsz:=hb.size
 refine ⟨⟨v,rfl,?_⟩,hb.trans ?_⟩
 ·have e1:=Jk hm hS hp
  have e2:ss.length=(YA xs).length:=by rw [← e1,List.length_mergeSort]
  rw [e1,e2] at ho
  exact ownsRow_base_a ho (by simp;omega)
 exact ((Below.refl _ w1).alloc (Nat.le_refl _) _).mono hsz |>.trans (hb3.mono (by simp;omega))


theorem QI {w:World} {G:Nat} {a:Value} (h0:w.cell? ⟨G,0,none⟩=some a):∀ j u,[a][j]?=some u→w.cell? ((⟨G,0,none⟩:Addr).add j)=some u:=by
 intro j u hj
 match j,hj with
 | 0,hj=>simp at hj;subst hj;simpa [Addr.add] using h0
 | (j+1),hj=>simp at hj
theorem QE (b off n cap:Nat) (xs:List Int) (y:Int) (w:World) (h:Yi .i64 w (some ⟨b,off,none⟩) n cap xs) (hn:n≤1000000) :
  Calls Tryz.prog 209 #[.slice (some ⟨b,off,none⟩) n cap,.int .i64 y] w fun e w'=>TD e w' w.heap.size (Yg xs y)∧Below w.heap.size w w':=by
 obtain ⟨i0,hi,hz0,hz1,hz2⟩:=info_parts XF
 have hl:=h.1
 have bw:Below w.heap.size w w:=Below.refl _ _
 have hsz:w.heap.size≤w.heap.size:=Nat.le_refl _
 go_enter Tryz.func209,Tryz.ntmps209
 go_wp2_with fail
 go_loopw [5] (fun si wr=>∃ k:Nat,k≤n∧si=.int .i64 k∧Hid (∀ i,i<k→xs.getD i 0<y)∧w=wr) (fun si _=>n - (Go.RowKit.intOf si).toNat)
 case atStart=>exact ⟨0,by omega,rfl,fun i hi=>by omega,rfl⟩
 case round =>
  obtain ⟨k,hkn,rfl,HY,rfl⟩:=hrel
  have hPut:=Li xs y k (by omega) HY.out
  obtain ⟨o2,rD,hD⟩:=JE h hkn
  have rT:=(WK h hkn).1
  by_cases hlt:k<n
  ·have hki:(k:Int)<(n:Int):=by omega
   have hk0:(0:Int)≤(k:Int):=by omega
   have hX':=h
   obtain ⟨_,_,_,hcase⟩:=hX'
   rcases hcase with h0 | ⟨b',off',he,hb,hc⟩
   ·omega
   cases he
   have d0:=hc k hlt
   clear hc hb
   obtain ⟨x,hx⟩:∃ x,x=xs.getD k 0:=⟨_,rfl⟩
   rw [← hx] at d0 hPut
   by_cases hxy:x<y
   ·have HN:Hid (∀ i,i<k+1→xs.getD i 0<y):=fun i hi=>by
     by_cases e:i=k
     ·subst e;rw [← hx];exact hxy
     exact HY.out i (by omega)
    clear hPut HY rD rT hD hx
    go_wp2
    go_roundw
    case rel=>exact ⟨k+1,by omega,by go_num,HN,by first | rfl | trivial⟩
    case measure=>simp [Go.RowKit.intOf];omega
   have hP2:=hPut (.inr hxy)
   clear hPut HY hx
   have hxy':decide (x<y)=false:=by simp;omega
   by_cases hE:x=y
   ·subst hE
    have HQ:Hid (Yg xs x=xs):=by
     rw [Hid,hP2,if_pos ⟨by omega,rfl⟩]
    have hxx0:(x == x)=true:=by simp
    clear hP2 rD rT hD hxy
    go_wp2_with (at_builtin;refine wpList_append_own _ rfl _ _ 36 rfl w.heap.size 3 i0 (.int .i64 0) 1 8 Tryz.underlying36 hi hz0 hz1 hz2 rfl (by decide) _ _ _ rfl (Xw w 3 1 w.heap.size hsz) ⟨b,off,none⟩ n cap (xs.map (Value.int .i64)) rfl (by rw [List.length_map];omega) (WQ (h.below (by go_grown))) (W6 _) ?c3 ?c4 ?c5 ?_)
    case c3=>unfold maxLen;omega
    case c4=>omega
    case c5=>simp
    intro v7 w7 hown7 hgrow7 _
    replace hown7:w7.ownsRow w.heap.size 3 1 v7 n (xs.map (Value.int .i64)):=by simpa using hown7
    have bw7:Below w.heap.size w w7:=(show Below w.heap.size w (w.alloc (.cells #[] 3)) by go_grown).grown hgrow7 (by simp) (fun g hg=>by simp [Value.ownBlock] at hg;omega)
    obtain ⟨g,c,rfl⟩:=VD hown7 (by omega)
    have hQ:w7.ownsRow w.heap.size 3 1 (.slice (some ⟨g,0,none⟩) n c) (Yg xs x).length ((Yg xs x).map (Value.int .i64)):=by
     rw [HQ.out,hl]
     exact hown7
    clear hown7 hgrow7
    go_wp2
    go_ret
    exact ⟨⟨_,rfl,hQ⟩,bw7⟩
   have HP:Hid (∀ (v:Value) (W:World),W.ownsRow w.heap.size 3 1 v (0+k+1+(n - k)) (([]++(xs.take k).map (Value.int .i64)++[.int .i64 y])++(xs.drop k).map (Value.int .i64))→W.ownsRow w.heap.size 3 1 v (Yg xs y).length ((Yg xs y).map (Value.int .i64))):=by
    intro v W q
    rw [if_neg (fun e=>hE e.2)] at hP2
    have hlen:(Yg xs y).length=0+k+1+(n - k):=by rw [hP2];simp;omega
    rw [hlen,hP2]
    simpa using q
   have hE':(x == y)=false:=by simp [hE]
   clear hP2 hE hxy
   go_wp2_with fail
   refine wp_region_held_drew (S:=(fun w'=>w.heap.size≤w'.heap.size)) (by kernel_rfl) hsz (fun hS0=>?_)
   refine tkm 1 36 (.slice (some ⟨b,off,none⟩) n cap) ?_
   refine tkm 2 37 (.int .i64 (k:Int)) ?_
   refine tkm 3 38 (.slice (some ⟨b,off,none⟩) k cap) ?_
   refine tkm 5 40 (.int .i64 y) ?_
   refine tkm 8 43 (.slice (some ⟨b,off,none⟩) n cap) ?_
   refine tkm 9 44 (.int .i64 (k:Int)) ?_
   refine tkm 10 45 (.slice (some ⟨b,o2,none⟩) (n - k) (cap - k)) ?_
   refine wpAnyH_ready (rs:=[0,6]) (by kernel_rfl) (by simp) ?_
   refine AllReadyH.cons (o:=⟨some 35,_,_,_,_,_⟩) rfl (fun K hK=>?_) (AllReadyH.cons (o:=⟨some 41,_,_,_,_,_⟩) rfl (fun K hK=>?_) AllReadyH.nil)
   ·have q:=(Xw w 3 1 w.heap.size hsz).drew
    obtain ⟨V1,hV⟩:∃ V,V=w.heap.size:=⟨_,rfl⟩
    have hal:Below w.heap.size w (w.alloc (.cells #[] 3)).drew:=by go_grown
    replace bw:=Zn bw hal
    replace hsz:w.heap.size≤(w.alloc (.cells #[] 3)).drew.heap.size:=Nat.le_trans hsz hal.size
    go_simp
    rw [← hV]
    refine hK.out _ _ hsz (fun hS1=>?_)
    clear hK hal
    replace q:(w.alloc (.cells #[] 3)).drew.ownsRow w.heap.size 3 1 (.slice (some ⟨V1,0,none⟩) 0 0) 0 []:=by rw [hV];exact q
    clear hV
    generalize (w.alloc (.cells #[] 3)).drew=U1 at *
    try simp only [Act.put,tka,tkb,tkc]
    refine wpAnyH_ready (rs:=[4,6]) (by kernel_rfl) (by simp) ?_
    refine AllReadyH.cons (o:=⟨some 39,_,_,_,_,_⟩) rfl (fun K hK=>?_) (AllReadyH.cons (o:=⟨some 41,_,_,_,_,_⟩) rfl (fun K hK=>?_) AllReadyH.nil)
    ·refine Z3 rfl _ _ 36 rfl w.heap.size 3 i0 (.int .i64 0) 1 8 Tryz.underlying36 hi hz0 hz1 hz2 rfl (by decide) (.slice (some ⟨V1,0,none⟩) 0 0) 0 [] rfl q ⟨b,off,none⟩ k cap ((xs.take k).map (Value.int .i64)) rfl (by rw [List.length_map,List.length_take];omega) (WQ ((WK h hkn).2.below bw)) (W6 _) (by unfold maxLen;omega) (by omega) hsz ?_
     intro v2 U2 q2 gr hob
     replace bw:=bw.grown gr bw.size (fun g hg=>(q.lt g hg).1)
     replace hsz:w.heap.size≤U2.heap.size:=Nat.le_trans hsz gr.size
     refine hK.out _ _ hsz (fun hS2=>?_)
     clear hK q gr hob
     have q:=q2
     clear q2
     try simp only [Act.put,tka,tkb,tkc]
     refine tkr 6 41 (fun K hK=>?_)
     obtain ⟨G,hG⟩:∃ G,G=U2.heap.size:=⟨_,rfl⟩
     have e0:(U2.alloc (.cells #[.int .i64 y] 3)).cell? ⟨G,0,none⟩=some (.int .i64 y):=by subst hG;simp [go_sem]
     have hal:Below U2.heap.size U2 (U2.alloc (.cells #[.int .i64 y] 3)):=by go_grown
     have hap:∀ g,Value.ownBlock v2=some g→g≠G:=fun g hg e=>by have:=(q.lt g hg).2;omega
     replace q:=Zs q hal
     replace bw:=Zn bw hal
     replace hsz:w.heap.size≤(U2.alloc (.cells #[.int .i64 y] 3)).heap.size:=Nat.le_trans hsz hal.size
     go_simp
     rw [← hG]
     refine hK.out _ _ hsz (fun hS3=>?_)
     clear hK hal
     clear hG
     generalize (U2.alloc (.cells #[.int .i64 y] 3))=U3 at *
     try simp only [Act.put,tka,tkb,tkc]
     refine tkr 7 42 (fun K hK=>?_)
     refine Z3 rfl _ _ 36 rfl w.heap.size 3 i0 (.int .i64 0) 1 8 Tryz.underlying36 hi hz0 hz1 hz2 rfl (by decide) v2 (0+k) ([]++(xs.take k).map (Value.int .i64)) rfl q ⟨G,0,none⟩ 1 1 [.int .i64 y] rfl rfl (QI e0) (W6 [y]) (by unfold maxLen;omega) (by omega) hsz ?_
     intro v4 U4 q2 gr hob
     replace bw:=bw.grown gr bw.size (fun g hg=>(q.lt g hg).1)
     replace hsz:w.heap.size≤U4.heap.size:=Nat.le_trans hsz gr.size
     refine hK.out _ _ hsz (fun hS4=>?_)
     clear hK q gr hob
     have q:=q2
     clear q2
     clear e0 hap
     try simp only [Act.put,tka,tkb,tkc]
     refine tkr 11 46 (fun K hK=>?_)
     refine Z3 rfl _ _ 36 rfl w.heap.size 3 i0 (.int .i64 0) 1 8 Tryz.underlying36 hi hz0 hz1 hz2 rfl (by decide) v4 (0+k+1) (([]++(xs.take k).map (Value.int .i64))++[.int .i64 y]) rfl q ⟨b,o2,none⟩ (n - k) (cap - k) ((xs.drop k).map (Value.int .i64)) rfl (by rw [List.length_map,List.length_drop];omega) (WQ (hD.below bw)) (W6 _) (by unfold maxLen;omega) (by omega) hsz ?_
     intro v5 U5 q2 gr hob
     replace bw:=bw.grown gr bw.size (fun g hg=>(q.lt g hg).1)
     replace hsz:w.heap.size≤U5.heap.size:=Nat.le_trans hsz gr.size
     refine hK.out _ _ hsz (fun hS5=>?_)
     clear hK q gr hob
     have q:=q2
     clear q2
     try simp only [Act.put,tka,tkb,tkc]
     refine tkm 12 4 v5 ?_
     refine wpAnyH_done (by kernel_rfl) ?_ _
     have hQ:=HP.out _ _ q
     obtain ⟨g,c,rfl⟩:=VD q (by omega)
     clear q rT rD
     go_wp2
     go_ret
     exact ⟨⟨_,rfl,hQ⟩,bw⟩
    obtain ⟨G,hG⟩:∃ G,G=U1.heap.size:=⟨_,rfl⟩
    have e0:(U1.alloc (.cells #[.int .i64 y] 3)).cell? ⟨G,0,none⟩=some (.int .i64 y):=by subst hG;simp [go_sem]
    have hal:Below U1.heap.size U1 (U1.alloc (.cells #[.int .i64 y] 3)):=by go_grown
    have hap:∀ g,Value.ownBlock (.slice (some ⟨V1,0,none⟩) 0 0)=some g→g≠G:=fun g hg e=>by have:=(q.lt g hg).2;omega
    replace q:=Zs q hal
    replace bw:=Zn bw hal
    replace hsz:w.heap.size≤(U1.alloc (.cells #[.int .i64 y] 3)).heap.size:=Nat.le_trans hsz hal.size
    go_simp
    rw [← hG]
    refine hK.out _ _ hsz (fun hS6=>?_)
    clear hK hal
    clear hG
    generalize (U1.alloc (.cells #[.int .i64 y] 3))=U6 at *
    try simp only [Act.put,tka,tkb,tkc]
    refine tkr 4 39 (fun K hK=>?_)
    have hGl:=World.block_lt_of_cell? _ _ e0
    refine Z3 rfl _ _ 36 rfl w.heap.size 3 i0 (.int .i64 0) 1 8 Tryz.underlying36 hi hz0 hz1 hz2 rfl (by decide) (.slice (some ⟨V1,0,none⟩) 0 0) 0 [] rfl q ⟨b,off,none⟩ k cap ((xs.take k).map (Value.int .i64)) rfl (by rw [List.length_map,List.length_take];omega) (WQ ((WK h hkn).2.below bw)) (W6 _) (by unfold maxLen;omega) (by omega) hsz ?_
    intro v7 U7 q2 gr hob
    replace e0:=Zg gr e0 (fun e=>hap _ e.symm rfl)
    have hap2:∀ g,Value.ownBlock v7=some g→g≠G:=fun g hg e=>by
     rcases hob with hu | hu
     ·exact hap g (hu▸hg) e
     rw [hu] at hg
     simp at hg hGl
     omega
    clear hap hGl
    have hap:=hap2
    clear hap2
    replace bw:=bw.grown gr bw.size (fun g hg=>(q.lt g hg).1)
    replace hsz:w.heap.size≤U7.heap.size:=Nat.le_trans hsz gr.size
    refine hK.out _ _ hsz (fun hS7=>?_)
    clear hK q gr hob
    have q:=q2
    clear q2
    try simp only [Act.put,tka,tkb,tkc]
    refine tkr 7 42 (fun K hK=>?_)
    refine Z3 rfl _ _ 36 rfl w.heap.size 3 i0 (.int .i64 0) 1 8 Tryz.underlying36 hi hz0 hz1 hz2 rfl (by decide) v7 (0+k) ([]++(xs.take k).map (Value.int .i64)) rfl q ⟨G,0,none⟩ 1 1 [.int .i64 y] rfl rfl (QI e0) (W6 [y]) (by unfold maxLen;omega) (by omega) hsz ?_
    intro v8 U8 q2 gr hob
    replace bw:=bw.grown gr bw.size (fun g hg=>(q.lt g hg).1)
    replace hsz:w.heap.size≤U8.heap.size:=Nat.le_trans hsz gr.size
    refine hK.out _ _ hsz (fun hS8=>?_)
    clear hK q gr hob
    have q:=q2
    clear q2
    clear e0 hap
    try simp only [Act.put,tka,tkb,tkc]
    refine tkr 11 46 (fun K hK=>?_)
    refine Z3 rfl _ _ 36 rfl w.heap.size 3 i0 (.int .i64 0) 1 8 Tryz.underlying36 hi hz0 hz1 hz2 rfl (by decide) v8 (0+k+1) (([]++(xs.take k).map (Value.int .i64))++[.int .i64 y]) rfl q ⟨b,o2,none⟩ (n - k) (cap - k) ((xs.drop k).map (Value.int .i64)) rfl (by rw [List.length_map,List.length_drop];omega) (WQ (hD.below bw)) (W6 _) (by unfold maxLen;omega) (by omega) hsz ?_
    intro v9 U9 q2 gr hob
    replace bw:=bw.grown gr bw.size (fun g hg=>(q.lt g hg).1)
    replace hsz:w.heap.size≤U9.heap.size:=Nat.le_trans hsz gr.size
    refine hK.out _ _ hsz (fun hS9=>?_)
    clear hK q gr hob
    have q:=q2
    clear q2
    try simp only [Act.put,tka,tkb,tkc]
    refine tkm 12 4 v9 ?_
    refine wpAnyH_done (by kernel_rfl) ?_ _
    have hQ:=HP.out _ _ q
    obtain ⟨g,c,rfl⟩:=VD q (by omega)
    clear q rT rD
    go_wp2
    go_ret
    exact ⟨⟨_,rfl,hQ⟩,bw⟩
   obtain ⟨G,hG⟩:∃ G,G=w.heap.size:=⟨_,rfl⟩
   have e0:(w.alloc (.cells #[.int .i64 y] 3)).drew.cell? ⟨G,0,none⟩=some (.int .i64 y):=by subst hG;simp [go_sem]
   have hal:Below w.heap.size w (w.alloc (.cells #[.int .i64 y] 3)).drew:=by go_grown
   replace bw:=Zn bw hal
   replace hsz:w.heap.size≤(w.alloc (.cells #[.int .i64 y] 3)).drew.heap.size:=Nat.le_trans hsz hal.size
   go_simp
   rw [← hG]
   refine hK.out _ _ hsz (fun hS10=>?_)
   clear hK hal
   clear hG
   generalize (w.alloc (.cells #[.int .i64 y] 3)).drew=U10 at *
   try simp only [Act.put,tka,tkb,tkc]
   refine tkr 0 35 (fun K hK=>?_)
   have q:=(Xw U10 3 1 w.heap.size hsz)
   obtain ⟨V11,hV⟩:∃ V,V=U10.heap.size:=⟨_,rfl⟩
   have hap:∀ g,(Value.slice (some ⟨U10.heap.size,0,none⟩) 0 0).ownBlock=some g→g≠G:=fun g hg e=>by have hGl:=World.block_lt_of_cell? _ _ e0;simp [Value.ownBlock] at hg;simp at hGl;omega
   have hal:Below U10.heap.size U10 (U10.alloc (.cells #[] 3)):=by go_grown
   replace e0:=XK hal e0
   replace bw:=Zn bw hal
   replace hsz:w.heap.size≤(U10.alloc (.cells #[] 3)).heap.size:=Nat.le_trans hsz hal.size
   go_simp
   rw [← hV]
   refine hK.out _ _ hsz (fun hS11=>?_)
   clear hK hal
   replace q:(U10.alloc (.cells #[] 3)).ownsRow w.heap.size 3 1 (.slice (some ⟨V11,0,none⟩) 0 0) 0 []:=by rw [hV];exact q
   replace hap:∀ g,(Value.slice (some ⟨V11,0,none⟩) 0 0).ownBlock=some g→g≠G:=by rw [hV];exact hap
   clear hV
   generalize (U10.alloc (.cells #[] 3))=U11 at *
   try simp only [Act.put,tka,tkb,tkc]
   refine tkr 4 39 (fun K hK=>?_)
   have hGl:=World.block_lt_of_cell? _ _ e0
   refine Z3 rfl _ _ 36 rfl w.heap.size 3 i0 (.int .i64 0) 1 8 Tryz.underlying36 hi hz0 hz1 hz2 rfl (by decide) (.slice (some ⟨V11,0,none⟩) 0 0) 0 [] rfl q ⟨b,off,none⟩ k cap ((xs.take k).map (Value.int .i64)) rfl (by rw [List.length_map,List.length_take];omega) (WQ ((WK h hkn).2.below bw)) (W6 _) (by unfold maxLen;omega) (by omega) hsz ?_
   intro v12 U12 q2 gr hob
   replace e0:=Zg gr e0 (fun e=>hap _ e.symm rfl)
   have hap2:∀ g,Value.ownBlock v12=some g→g≠G:=fun g hg e=>by
    rcases hob with hu | hu
    ·exact hap g (hu▸hg) e
    rw [hu] at hg
    simp at hg hGl
    omega
   clear hap hGl
   have hap:=hap2
   clear hap2
   replace bw:=bw.grown gr bw.size (fun g hg=>(q.lt g hg).1)
   replace hsz:w.heap.size≤U12.heap.size:=Nat.le_trans hsz gr.size
   refine hK.out _ _ hsz (fun hS12=>?_)
   clear hK q gr hob
   have q:=q2
   clear q2
   try simp only [Act.put,tka,tkb,tkc]
   refine tkr 7 42 (fun K hK=>?_)
   refine Z3 rfl _ _ 36 rfl w.heap.size 3 i0 (.int .i64 0) 1 8 Tryz.underlying36 hi hz0 hz1 hz2 rfl (by decide) v12 (0+k) ([]++(xs.take k).map (Value.int .i64)) rfl q ⟨G,0,none⟩ 1 1 [.int .i64 y] rfl rfl (QI e0) (W6 [y]) (by unfold maxLen;omega) (by omega) hsz ?_
   intro v13 U13 q2 gr hob
   replace bw:=bw.grown gr bw.size (fun g hg=>(q.lt g hg).1)
   replace hsz:w.heap.size≤U13.heap.size:=Nat.le_trans hsz gr.size
   refine hK.out _ _ hsz (fun hS13=>?_)
   clear hK q gr hob
   have q:=q2
   clear q2
   clear e0 hap
   try simp only [Act.put,tka,tkb,tkc]
   refine tkr 11 46 (fun K hK=>?_)
   refine Z3 rfl _ _ 36 rfl w.heap.size 3 i0 (.int .i64 0) 1 8 Tryz.underlying36 hi hz0 hz1 hz2 rfl (by decide) v13 (0+k+1) (([]++(xs.take k).map (Value.int .i64))++[.int .i64 y]) rfl q ⟨b,o2,none⟩ (n - k) (cap - k) ((xs.drop k).map (Value.int .i64)) rfl (by rw [List.length_map,List.length_drop];omega) (WQ (hD.below bw)) (W6 _) (by unfold maxLen;omega) (by omega) hsz ?_
   intro v14 U14 q2 gr hob
   replace bw:=bw.grown gr bw.size (fun g hg=>(q.lt g hg).1)
   replace hsz:w.heap.size≤U14.heap.size:=Nat.le_trans hsz gr.size
   refine hK.out _ _ hsz (fun hS14=>?_)
   clear hK q gr hob
   have q:=q2
   clear q2
   try simp only [Act.put,tka,tkb,tkc]
   refine tkm 12 4 v14 ?_
   refine wpAnyH_done (by kernel_rfl) ?_ _
   have hQ:=HP.out _ _ q
   obtain ⟨g,c,rfl⟩:=VD q (by omega)
   clear q rT rD
   go_wp2
   go_ret
   exact ⟨⟨_,rfl,hQ⟩,bw⟩
  obtain rfl:k=n:=by omega
  have hkk:¬ ((k:Int)<(k:Int)):=by omega
  have hkb:decide ((k:Int)<(k:Int))=false:=by simp
  have hP2:=hPut (.inl (by omega))
  have HP:Hid (∀ (v:Value) (W:World),W.ownsRow w.heap.size 3 1 v (0+k+1+0) (([]++(xs.take k).map (Value.int .i64)++[.int .i64 y])++(xs.drop k).map (Value.int .i64))→W.ownsRow w.heap.size 3 1 v (Yg xs y).length ((Yg xs y).map (Value.int .i64))):=by
   intro v W q
   rw [if_neg (by omega)] at hP2
   have hlen:(Yg xs y).length=0+k+1+0:=by rw [hP2];simp;omega
   rw [hlen,hP2]
   simpa using q
  clear hPut HY hP2
  go_wp2_with fail
  refine wp_region_held_drew (S:=(fun w'=>w.heap.size≤w'.heap.size)) (by kernel_rfl) hsz (fun hS0=>?_)
  refine tkm 1 36 (.slice (some ⟨b,off,none⟩) k cap) ?_
  refine tkm 2 37 (.int .i64 (k:Int)) ?_
  refine tkm 3 38 (.slice (some ⟨b,off,none⟩) k cap) ?_
  refine tkm 5 40 (.int .i64 y) ?_
  refine tkm 8 43 (.slice (some ⟨b,off,none⟩) k cap) ?_
  refine tkm 9 44 (.int .i64 (k:Int)) ?_
  refine tkm 10 45 (.slice (some ⟨b,o2,none⟩) 0 (cap - k)) ?_
  refine wpAnyH_ready (rs:=[0,6]) (by kernel_rfl) (by simp) ?_
  refine AllReadyH.cons (o:=⟨some 35,_,_,_,_,_⟩) rfl (fun K hK=>?_) (AllReadyH.cons (o:=⟨some 41,_,_,_,_,_⟩) rfl (fun K hK=>?_) AllReadyH.nil)
  ·have q:=(Xw w 3 1 w.heap.size hsz).drew
   obtain ⟨V15,hV⟩:∃ V,V=w.heap.size:=⟨_,rfl⟩
   have hal:Below w.heap.size w (w.alloc (.cells #[] 3)).drew:=by go_grown
   replace bw:=Zn bw hal
   replace hsz:w.heap.size≤(w.alloc (.cells #[] 3)).drew.heap.size:=Nat.le_trans hsz hal.size
   go_simp
   rw [← hV]
   refine hK.out _ _ hsz (fun hS15=>?_)
   clear hK hal
   replace q:(w.alloc (.cells #[] 3)).drew.ownsRow w.heap.size 3 1 (.slice (some ⟨V15,0,none⟩) 0 0) 0 []:=by rw [hV];exact q
   clear hV
   generalize (w.alloc (.cells #[] 3)).drew=U15 at *
   try simp only [Act.put,tka,tkb,tkc]
   refine wpAnyH_ready (rs:=[4,6]) (by kernel_rfl) (by simp) ?_
   refine AllReadyH.cons (o:=⟨some 39,_,_,_,_,_⟩) rfl (fun K hK=>?_) (AllReadyH.cons (o:=⟨some 41,_,_,_,_,_⟩) rfl (fun K hK=>?_) AllReadyH.nil)
   ·refine Z3 rfl _ _ 36 rfl w.heap.size 3 i0 (.int .i64 0) 1 8 Tryz.underlying36 hi hz0 hz1 hz2 rfl (by decide) (.slice (some ⟨V15,0,none⟩) 0 0) 0 [] rfl q ⟨b,off,none⟩ k cap ((xs.take k).map (Value.int .i64)) rfl (by rw [List.length_map,List.length_take];omega) (WQ ((WK h hkn).2.below bw)) (W6 _) (by unfold maxLen;omega) (by omega) hsz ?_
    intro v16 U16 q2 gr hob
    replace bw:=bw.grown gr bw.size (fun g hg=>(q.lt g hg).1)
    replace hsz:w.heap.size≤U16.heap.size:=Nat.le_trans hsz gr.size
    refine hK.out _ _ hsz (fun hS16=>?_)
    clear hK q gr hob
    have q:=q2
    clear q2
    try simp only [Act.put,tka,tkb,tkc]
    refine tkr 6 41 (fun K hK=>?_)
    obtain ⟨G,hG⟩:∃ G,G=U16.heap.size:=⟨_,rfl⟩
    have e0:(U16.alloc (.cells #[.int .i64 y] 3)).cell? ⟨G,0,none⟩=some (.int .i64 y):=by subst hG;simp [go_sem]
    have hal:Below U16.heap.size U16 (U16.alloc (.cells #[.int .i64 y] 3)):=by go_grown
    have hap:∀ g,Value.ownBlock v16=some g→g≠G:=fun g hg e=>by have:=(q.lt g hg).2;omega
    replace q:=Zs q hal
    replace bw:=Zn bw hal
    replace hsz:w.heap.size≤(U16.alloc (.cells #[.int .i64 y] 3)).heap.size:=Nat.le_trans hsz hal.size
    go_simp
    rw [← hG]
    refine hK.out _ _ hsz (fun hS17=>?_)
    clear hK hal
    clear hG
    generalize (U16.alloc (.cells #[.int .i64 y] 3))=U17 at *
    try simp only [Act.put,tka,tkb,tkc]
    refine tkr 7 42 (fun K hK=>?_)
    refine Z3 rfl _ _ 36 rfl w.heap.size 3 i0 (.int .i64 0) 1 8 Tryz.underlying36 hi hz0 hz1 hz2 rfl (by decide) v16 (0+k) ([]++(xs.take k).map (Value.int .i64)) rfl q ⟨G,0,none⟩ 1 1 [.int .i64 y] rfl rfl (QI e0) (W6 [y]) (by unfold maxLen;omega) (by omega) hsz ?_
    intro v18 U18 q2 gr hob
    replace bw:=bw.grown gr bw.size (fun g hg=>(q.lt g hg).1)
    replace hsz:w.heap.size≤U18.heap.size:=Nat.le_trans hsz gr.size
    refine hK.out _ _ hsz (fun hS18=>?_)
    clear hK q gr hob
    have q:=q2
    clear q2
    clear e0 hap
    try simp only [Act.put,tka,tkb,tkc]
    refine tkr 11 46 (fun K hK=>?_)
    refine Z3 rfl _ _ 36 rfl w.heap.size 3 i0 (.int .i64 0) 1 8 Tryz.underlying36 hi hz0 hz1 hz2 rfl (by decide) v18 (0+k+1) (([]++(xs.take k).map (Value.int .i64))++[.int .i64 y]) rfl q ⟨b,o2,none⟩ 0 (cap - k) ((xs.drop k).map (Value.int .i64)) rfl (by rw [List.length_map,List.length_drop];omega) (WQ (hD.below bw)) (W6 _) (by unfold maxLen;omega) (by omega) hsz ?_
    intro v19 U19 q2 gr hob
    replace bw:=bw.grown gr bw.size (fun g hg=>(q.lt g hg).1)
    replace hsz:w.heap.size≤U19.heap.size:=Nat.le_trans hsz gr.size
    refine hK.out _ _ hsz (fun hS19=>?_)
    clear hK q gr hob
    have q:=q2
    clear q2
    try simp only [Act.put,tka,tkb,tkc]
    refine tkm 12 4 v19 ?_
    refine wpAnyH_done (by kernel_rfl) ?_ _
    have hQ:=HP.out _ _ q
    obtain ⟨g,c,rfl⟩:=VD q (by omega)
    clear q rT rD
    go_wp2
    go_ret
    exact ⟨⟨_,rfl,hQ⟩,bw⟩
   obtain ⟨G,hG⟩:∃ G,G=U15.heap.size:=⟨_,rfl⟩
   have e0:(U15.alloc (.cells #[.int .i64 y] 3)).cell? ⟨G,0,none⟩=some (.int .i64 y):=by subst hG;simp [go_sem]
   have hal:Below U15.heap.size U15 (U15.alloc (.cells #[.int .i64 y] 3)):=by go_grown
   have hap:∀ g,Value.ownBlock (.slice (some ⟨V15,0,none⟩) 0 0)=some g→g≠G:=fun g hg e=>by have:=(q.lt g hg).2;omega
   replace q:=Zs q hal
   replace bw:=Zn bw hal
   replace hsz:w.heap.size≤(U15.alloc (.cells #[.int .i64 y] 3)).heap.size:=Nat.le_trans hsz hal.size
   go_simp
   rw [← hG]
   refine hK.out _ _ hsz (fun hS20=>?_)
   clear hK hal
   clear hG
   generalize (U15.alloc (.cells #[.int .i64 y] 3))=U20 at *
   try simp only [Act.put,tka,tkb,tkc]
   refine tkr 4 39 (fun K hK=>?_)
   have hGl:=World.block_lt_of_cell? _ _ e0
   refine Z3 rfl _ _ 36 rfl w.heap.size 3 i0 (.int .i64 0) 1 8 Tryz.underlying36 hi hz0 hz1 hz2 rfl (by decide) (.slice (some ⟨V15,0,none⟩) 0 0) 0 [] rfl q ⟨b,off,none⟩ k cap ((xs.take k).map (Value.int .i64)) rfl (by rw [List.length_map,List.length_take];omega) (WQ ((WK h hkn).2.below bw)) (W6 _) (by unfold maxLen;omega) (by omega) hsz ?_
   intro v21 U21 q2 gr hob
   replace e0:=Zg gr e0 (fun e=>hap _ e.symm rfl)
   have hap2:∀ g,Value.ownBlock v21=some g→g≠G:=fun g hg e=>by
    rcases hob with hu | hu
    ·exact hap g (hu▸hg) e
    rw [hu] at hg
    simp at hg hGl
    omega
   clear hap hGl
   have hap:=hap2
   clear hap2
   replace bw:=bw.grown gr bw.size (fun g hg=>(q.lt g hg).1)
   replace hsz:w.heap.size≤U21.heap.size:=Nat.le_trans hsz gr.size
   refine hK.out _ _ hsz (fun hS21=>?_)
   clear hK q gr hob
   have q:=q2
   clear q2
   try simp only [Act.put,tka,tkb,tkc]
   refine tkr 7 42 (fun K hK=>?_)
   refine Z3 rfl _ _ 36 rfl w.heap.size 3 i0 (.int .i64 0) 1 8 Tryz.underlying36 hi hz0 hz1 hz2 rfl (by decide) v21 (0+k) ([]++(xs.take k).map (Value.int .i64)) rfl q ⟨G,0,none⟩ 1 1 [.int .i64 y] rfl rfl (QI e0) (W6 [y]) (by unfold maxLen;omega) (by omega) hsz ?_
   intro v22 U22 q2 gr hob
   replace bw:=bw.grown gr bw.size (fun g hg=>(q.lt g hg).1)
   replace hsz:w.heap.size≤U22.heap.size:=Nat.le_trans hsz gr.size
   refine hK.out _ _ hsz (fun hS22=>?_)
   clear hK q gr hob
   have q:=q2
   clear q2
   clear e0 hap
   try simp only [Act.put,tka,tkb,tkc]
   refine tkr 11 46 (fun K hK=>?_)
   refine Z3 rfl _ _ 36 rfl w.heap.size 3 i0 (.int .i64 0) 1 8 Tryz.underlying36 hi hz0 hz1 hz2 rfl (by decide) v22 (0+k+1) (([]++(xs.take k).map (Value.int .i64))++[.int .i64 y]) rfl q ⟨b,o2,none⟩ 0 (cap - k) ((xs.drop k).map (Value.int .i64)) rfl (by rw [List.length_map,List.length_drop];omega) (WQ (hD.below bw)) (W6 _) (by unfold maxLen;omega) (by omega) hsz ?_
   intro v23 U23 q2 gr hob
   replace bw:=bw.grown gr bw.size (fun g hg=>(q.lt g hg).1)
   replace hsz:w.heap.size≤U23.heap.size:=Nat.le_trans hsz gr.size
   refine hK.out _ _ hsz (fun hS23=>?_)
   clear hK q gr hob
   have q:=q2
   clear q2
   try simp only [Act.put,tka,tkb,tkc]
   refine tkm 12 4 v23 ?_
   refine wpAnyH_done (by kernel_rfl) ?_ _
   have hQ:=HP.out _ _ q
   obtain ⟨g,c,rfl⟩:=VD q (by omega)
   clear q rT rD
   go_wp2
   go_ret
   exact ⟨⟨_,rfl,hQ⟩,bw⟩
  obtain ⟨G,hG⟩:∃ G,G=w.heap.size:=⟨_,rfl⟩
  have e0:(w.alloc (.cells #[.int .i64 y] 3)).drew.cell? ⟨G,0,none⟩=some (.int .i64 y):=by subst hG;simp [go_sem]
  have hal:Below w.heap.size w (w.alloc (.cells #[.int .i64 y] 3)).drew:=by go_grown
  replace bw:=Zn bw hal
  replace hsz:w.heap.size≤(w.alloc (.cells #[.int .i64 y] 3)).drew.heap.size:=Nat.le_trans hsz hal.size
  go_simp
  rw [← hG]
  refine hK.out _ _ hsz (fun hS24=>?_)
  clear hK hal
  clear hG
  generalize (w.alloc (.cells #[.int .i64 y] 3)).drew=U24 at *
  try simp only [Act.put,tka,tkb,tkc]
  refine tkr 0 35 (fun K hK=>?_)
  have q:=(Xw U24 3 1 w.heap.size hsz)
  obtain ⟨V25,hV⟩:∃ V,V=U24.heap.size:=⟨_,rfl⟩
  have hap:∀ g,(Value.slice (some ⟨U24.heap.size,0,none⟩) 0 0).ownBlock=some g→g≠G:=fun g hg e=>by have hGl:=World.block_lt_of_cell? _ _ e0;simp [Value.ownBlock] at hg;simp at hGl;omega
  have hal:Below U24.heap.size U24 (U24.alloc (.cells #[] 3)):=by go_grown
  replace e0:=XK hal e0
  replace bw:=Zn bw hal
  replace hsz:w.heap.size≤(U24.alloc (.cells #[] 3)).heap.size:=Nat.le_trans hsz hal.size
  go_simp
  rw [← hV]
  refine hK.out _ _ hsz (fun hS25=>?_)
  clear hK hal
  replace q:(U24.alloc (.cells #[] 3)).ownsRow w.heap.size 3 1 (.slice (some ⟨V25,0,none⟩) 0 0) 0 []:=by rw [hV];exact q
  replace hap:∀ g,(Value.slice (some ⟨V25,0,none⟩) 0 0).ownBlock=some g→g≠G:=by rw [hV];exact hap
  clear hV
  generalize (U24.alloc (.cells #[] 3))=U25 at *
  try simp only [Act.put,tka,tkb,tkc]
  refine tkr 4 39 (fun K hK=>?_)
  have hGl:=World.block_lt_of_cell? _ _ e0
  refine Z3 rfl _ _ 36 rfl w.heap.size 3 i0 (.int .i64 0) 1 8 Tryz.underlying36 hi hz0 hz1 hz2 rfl (by decide) (.slice (some ⟨V25,0,none⟩) 0 0) 0 [] rfl q ⟨b,off,none⟩ k cap ((xs.take k).map (Value.int .i64)) rfl (by rw [List.length_map,List.length_take];omega) (WQ ((WK h hkn).2.below bw)) (W6 _) (by unfold maxLen;omega) (by omega) hsz ?_
  intro v26 U26 q2 gr hob
  replace e0:=Zg gr e0 (fun e=>hap _ e.symm rfl)
  have hap2:∀ g,Value.ownBlock v26=some g→g≠G:=fun g hg e=>by
   rcases hob with hu | hu
   ·exact hap g (hu▸hg) e
   rw [hu] at hg
   simp at hg hGl
   omega
  clear hap hGl
  have hap:=hap2
  clear hap2
  replace bw:=bw.grown gr bw.size (fun g hg=>(q.lt g hg).1)
  replace hsz:w.heap.size≤U26.heap.size:=Nat.le_trans hsz gr.size
  refine hK.out _ _ hsz (fun hS26=>?_)
  clear hK q gr hob
  have q:=q2
  clear q2
  try simp only [Act.put,tka,tkb,tkc]
  refine tkr 7 42 (fun K hK=>?_)
  refine Z3 rfl _ _ 36 rfl w.heap.size 3 i0 (.int .i64 0) 1 8 Tryz.underlying36 hi hz0 hz1 hz2 rfl (by decide) v26 (0+k) ([]++(xs.take k).map (Value.int .i64)) rfl q ⟨G,0,none⟩ 1 1 [.int .i64 y] rfl rfl (QI e0) (W6 [y]) (by unfold maxLen;omega) (by omega) hsz ?_
  intro v27 U27 q2 gr hob
  replace bw:=bw.grown gr bw.size (fun g hg=>(q.lt g hg).1)
  replace hsz:w.heap.size≤U27.heap.size:=Nat.le_trans hsz gr.size
  refine hK.out _ _ hsz (fun hS27=>?_)
  clear hK q gr hob
  have q:=q2
  clear q2
  clear e0 hap
  try simp only [Act.put,tka,tkb,tkc]
  refine tkr 11 46 (fun K hK=>?_)
  refine Z3 rfl _ _ 36 rfl w.heap.size 3 i0 (.int .i64 0) 1 8 Tryz.underlying36 hi hz0 hz1 hz2 rfl (by decide) v27 (0+k+1) (([]++(xs.take k).map (Value.int .i64))++[.int .i64 y]) rfl q ⟨b,o2,none⟩ 0 (cap - k) ((xs.drop k).map (Value.int .i64)) rfl (by rw [List.length_map,List.length_drop];omega) (WQ (hD.below bw)) (W6 _) (by unfold maxLen;omega) (by omega) hsz ?_
  intro v28 U28 q2 gr hob
  replace bw:=bw.grown gr bw.size (fun g hg=>(q.lt g hg).1)
  replace hsz:w.heap.size≤U28.heap.size:=Nat.le_trans hsz gr.size
  refine hK.out _ _ hsz (fun hS28=>?_)
  clear hK q gr hob
  have q:=q2
  clear q2
  try simp only [Act.put,tka,tkb,tkc]
  refine tkm 12 4 v28 ?_
  refine wpAnyH_done (by kernel_rfl) ?_ _
  have hQ:=HP.out _ _ q
  obtain ⟨g,c,rfl⟩:=VD q (by omega)
  clear q rT rD
  go_wp2
  go_ret
  exact ⟨⟨_,rfl,hQ⟩,bw⟩
end Go.Proofs.YtnffeclgboomoaaGreatDoor
