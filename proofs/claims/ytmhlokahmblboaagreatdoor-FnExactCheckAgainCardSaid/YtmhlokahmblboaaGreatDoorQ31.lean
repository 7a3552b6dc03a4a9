/-
  Joined: EntP, RwI, MapI, SetP, MrgI.
-/
import Derived.Maps.OwnSet
import Derived.Maps.OwnOps
import Derived.Maps.Own
import Derived.Shelf.SlIterI.Nil
import Derived.Shelf.SortM.Plain
import Derived.Shelf.SortM.SortNone
import Derived.Test.YtmhlokahmblboaaGreatDoorQ29
import Derived.Test.YtmhlokahmblboaaGreatDoorQ30

namespace Go.Proofs.YtmhlokahmblboaaGreatDoor
set_option maxRecDepth 100000
set_option maxHeartbeats 16000000
open Go.RowKit
set_option linter.unusedVariables false
set_option linter.unusedSimpArgs false

theorem YW {f:Nat→Bool} {n k:Nat} (hk:k<n) (h:f k=false):(List.range n).all f=false:=by
 rw [List.all_eq_false]
 exact ⟨k,List.mem_range.2 hk,by rw [h];simp⟩
theorem XQ {f:Nat→Bool} {n:Nat} (h:∀ k,k<n→f k=true):(List.range n).all f=true:=by
 rw [List.all_eq_true]
 exact fun k hk=>h k (List.mem_range.1 hk)
theorem Vt {f:Nat→Bool} {n k:Nat} (h:(List.range n).all f=true) (hk:k<n):f k=true:=List.all_eq_true.1 h k (List.mem_range.2 hk)

def T7 (xs:List I3) (i:Nat):Bool:=okB (xs.getD i (0,0,0)) && (decide (i=0) || ltB (xs.getD (i - 1) (0,0,0)) (xs.getD i (0,0,0)))
def Ws (xs:List I3):Bool:=(List.range xs.length).all (T7 xs)
def UX (zs:List Int) (i:Nat):Bool:=Xq (zs.getD i 0) && (decide (i=0) || decide (zs.getD (i - 1) 0<zs.getD i 0))
def Vr (zs:List Int):Bool:=(List.range zs.length).all (UX zs)
def Y1 (k:ByteArray):Bool:=decide (k.size=15) && Ze (Yh k)
def Wi (e:E3):Bool:=Y1 e.1 && (Ws e.2.1 && (Vr e.2.2 && decide (e.2.1.length≤30)))
def VJ (es:List E3) (i:Nat):Bool:=Wi (es.getD i e3d) && (decide (i=0) || ltS (es.getD (i - 1) e3d).1 (es.getD i e3d).1)
def YQ (es:List E3):Bool:=(List.range es.length).all (VJ es) && decide (es.length≤2000)

theorem Ul {es:List E3} (h:YQ es=true):es.length≤2000:=by
 simp only [YQ,Bool.and_eq_true,decide_eq_true_eq] at h
 exact h.2
theorem K2 {es:List E3} (h:YQ es=true) {i:Nat} (hi:i<es.length):Wi (es.getD i e3d)=true:=by
 simp only [YQ,Bool.and_eq_true,decide_eq_true_eq] at h
 have:=Vt h.1 hi
 simp only [VJ,Bool.and_eq_true] at this
 exact this.1
theorem M3 {es:List E3} (h:YQ es=true) {i:Nat} (hi:i+1<es.length):ltS (es.getD i e3d).1 (es.getD (i+1) e3d).1=true:=by
 simp only [YQ,Bool.and_eq_true,decide_eq_true_eq] at h
 have:=Vt h.1 hi
 simp only [VJ,Bool.and_eq_true,Bool.or_eq_true,decide_eq_true_eq] at this
 rcases this.2 with h0 | h1
 ·omega
 simpa using h1
theorem NU {es:List E3} (h:YQ es=true):∀ {j i:Nat},i<j→j<es.length→ltS (es.getD i e3d).1 (es.getD j e3d).1=true
 | 0,i,hi,_=>by omega
 | j+1,i,hi,hj=>by
  have hn:=M3 h (i:=j) hj
  by_cases e:i=j
  ·rw [e];exact hn
  exact Vn (NU h (j:=j) (i:=i) (by omega) (by omega)) hn

def Yn (es:List E3) (k:ByteArray):Nat:=(es.takeWhile fun e=>ltS e.1 k).length
theorem P2 (es:List E3) (k:ByteArray):Yn es k≤es.length:=by
 unfold Yn
 exact (List.takeWhile_prefix _).length_le
theorem Mq {α:Type} {p:α→Bool} {d:α}:∀ {l:List α} {i:Nat},i<(l.takeWhile p).length→p (l.getD i d)=true
 | [],i,h=>by simp at h
 | x::l,i,h=>by
  by_cases hx:p x=true
  ·rw [List.takeWhile_cons_of_pos hx] at h
   cases i with
   | zero=>simpa using hx
   | succ i=>simpa using Mq (l:=l) (i:=i) (by simpa using h)
  rw [List.takeWhile_cons_of_neg hx] at h
  simp at h
theorem R6 {α:Type} {p:α→Bool} {d:α}:∀ {l:List α},(l.takeWhile p).length<l.length→p (l.getD (l.takeWhile p).length d)=false
 | [],h=>by simp at h
 | x::l,h=>by
  by_cases hx:p x=true
  ·rw [List.takeWhile_cons_of_pos hx] at h ⊢
   simpa using R6 (l:=l) (by simpa using h)
  rw [List.takeWhile_cons_of_neg hx]
  simpa using hx
theorem VF {es:List E3} {k:ByteArray} {i:Nat} (h:i<Yn es k):ltS (es.getD i e3d).1 k=true:=Mq (p:=fun e:E3=>ltS e.1 k) (d:=e3d) h
theorem T1 {es:List E3} {k:ByteArray} (h:Yn es k<es.length):ltS (es.getD (Yn es k) e3d).1 k=false:=R6 (p:=fun e:E3=>ltS e.1 k) (d:=e3d) h
theorem P3 {es:List E3} {k:ByteArray} {n:Nat} (h1:∀ i,i<n→ltS (es.getD i e3d).1 k=true) (hn:n≤es.length) (h2:n<es.length→ltS (es.getD n e3d).1 k=false):Yn es k=n:=by
 by_cases hlt:Yn es k<n
 ·have a:=T1 (k:=k) (show Yn es k<es.length by omega)
  rw [h1 _ hlt] at a
  cases a
 by_cases hgt:n<Yn es k
 ·have a:=VF hgt
  have b:=h2 (by have:=P2 es k;omega)
  rw [a] at b
  cases b
 omega
def isE (es:List E3) (k:ByteArray):Bool:=decide (Yn es k<es.length) && decide ((es.getD (Yn es k) e3d).1=k)
def Vc (es:List E3) (k:ByteArray):E3:=if isE es k then es.getD (Yn es k) e3d else e3d
def Wy (es:List E3) (e:E3):List E3:=(es.take (Yn es e.1)++[e])++es.drop (if isE es e.1 then Yn es e.1+1 else Yn es e.1)


def IsL (w:World) (v:Value) (xs:List Int):Prop:=∃ la ln lc,v=.slice la ln lc∧ZW .i64 w la ln lc xs
theorem IsL.below {w w':World} {v:Value} {xs:List Int} (h:IsL w v xs) (hb:Below w.heap.size w w'):IsL w' v xs:=by
 obtain ⟨la,ln,lc,rfl,hi⟩:=h
 exact ⟨la,ln,lc,rfl,hi.below hb⟩
def Ke (w:World) (vs:List Value) (xss:List (List Int)):Prop:=vs.length=xss.length∧∀ t,t<xss.length→IsL w (vs.getD t undef) (xss.getD t [])
theorem Ke.below {w w':World} {vs:List Value} {xss:List (List Int)} (h:Ke w vs xss) (hb:Below w.heap.size w w'):Ke w' vs xss:=⟨h.1,fun t ht=>(h.2 t ht).below hb⟩
def Uo (w:World) (a:Option Addr) (n c:Nat) (xss:List (List Int)):Prop:=
 xss.length=n∧n≤c∧c≤maxLen∧∃ vs,Ke w vs xss∧(n=0∨∃ b off,a=some ⟨b,off,none⟩∧b<w.heap.size∧∀ t,t<n→w.cell? ⟨b,off+t,none⟩=some (vs.getD t undef))
theorem Uo.below {w w':World} {a:Option Addr} {n c:Nat} {xss:List (List Int)} (h:Uo w a n c xss) (hb:Below w.heap.size w w'):Uo w' a n c xss:=by
 obtain ⟨h1,h2,h3,vs,h4,h5⟩:=h
 refine ⟨h1,h2,h3,vs,h4.below hb,?_⟩
 rcases h5 with h5 | ⟨b,off,h6,h7,h8⟩
 ·exact .inl h5
 exact .inr ⟨b,off,h6,Nat.lt_of_lt_of_le h7 hb.size,fun t ht=>by rw [hb.cell (p:=⟨b,off+t,none⟩) h7];exact h8 t ht⟩
theorem Uo.cell {w:World} {a:Option Addr} {n c:Nat} {xss:List (List Int)} (h:Uo w a n c xss) {t:Nat} (ht:t<n):∃ b off la ln lc,a=some ⟨b,off,none⟩∧w.cell? ⟨b,off+t,none⟩=some (.slice la ln lc)∧ZW .i64 w la ln lc (xss.getD t []):=by
 obtain ⟨h1,h2,h3,vs,h4,h5⟩:=h
 rcases h5 with h5 | ⟨b,off,h6,h7,h8⟩
 ·omega
 obtain ⟨la,ln,lc,e,hi⟩:=h4.2 t (by omega)
 exact ⟨b,off,la,ln,lc,h6,by rw [h8 t ht,e],hi⟩
theorem Uo.own {w:World} {B n c:Nat} {a:Option Addr} {vs:List Value} {xss:List (List Int)} (h:w.ownsRow B 72 1 (.slice a n c) n vs) (hl:xss.length=n) (hA:Ke w vs xss):Uo w a n c xss:=by
 rcases h.2 with ⟨e,h0⟩ | ⟨b,cc,cur,e,h1,h2,h3,h4⟩
 ·cases e
  exact ⟨by omega,by omega,by unfold maxLen;omega,vs,hA,.inl (by omega)⟩
 cases e
 refine ⟨hl,by omega,by omega,vs,hA,.inr ⟨b,0,rfl,(h.lt b rfl).2,fun t ht=>?_⟩⟩
 rw [Nat.zero_add,h.cellAt t (by omega)]
 have hq:=hA.1
 simp [List.getD,show t<vs.length by omega]


theorem RC:Maps.Keyed Tryz.prog 3:=Maps.int_keyed Tryz.underlying3
theorem JE (w:World):(zeroValue 3).run Tryz.prog w=.ok (.int .i64 0) w:=by kernel_rfl
structure S8 (D:DataW Unit) (xs:List Int):Prop where
 has:∀ x:Int,Maps.has D (.int .i64 x)=true↔x ∈ xs
 bnd:∀ x c:Int,D.atKey (.int .i64 x) (.lit (.int .i64 0))=.lit (.int .i64 c)→0≤c∧c≤xs.length
theorem S8.start:S8 (.map []) []:=⟨fun t=>by simp [Maps.has],fun x c h=>by
 simp [DataW.atKey] at h
 subst h
 simp⟩
theorem LG {s t:Int} (h:s≠t):(Lit.int .i64 s)≠Lit.int .i64 t:=fun e=>by
 injection e with _ e
 exact h e
theorem S8.put {D:DataW Unit} {xs:List Int} (h:S8 D xs) (hm:Maps.IsMap D) {x c:Int} (hc0:0≤c) (hc:c≤xs.length) :
  S8 (D.put (.int .i64 x) (.lit (.int .i64 (c+1)))) (xs++[x]):=by
 have hkl:WideAt.IsKeyLit (.int .i64 x):=trivial
 refine ⟨fun t=>?_,fun y d hd=>?_⟩
 ·by_cases e:t=x
  ·subst e
   rw [Maps.has_put_same hm hkl]
   simp
  rw [Maps.has_put_other (LG e),h.has]
  simp [e]
 by_cases e:y=x
 ·subst e
  rw [Maps.atKey_put_same hm hkl] at hd
  injection hd with hd
  injection hd with _ hd
  subst hd
  simp
  omega
 rw [Maps.atKey_put_other (LG e)] at hd
 have:=h.bnd y d hd
 simp
 omega
theorem GX {z:Int} (h:0≤z) (h':z≤2000000000):(Lit.int .i64 z).wf=true:=by
 simp only [Lit.wf,Bool.and_eq_true,decide_eq_true_eq]
 have h1:IntKind.i64.min=-9223372036854775808:=by decide
 have h2:IntKind.i64.max=9223372036854775807:=by decide
 omega
theorem J0 {x:Int} (h:(Lit.int .i64 x).wf=true):keyOf Tryz.prog 3 (.int .i64 x)=some (.int .i64 x):=by
 simp [keyOf,Tryz.underlying3,mapKey,h]
def Fg (e:Ending) (w':World) (B:Nat) (xs:List Int):Prop:=e=.returned (.map (some B))∧∃ D:DataW Unit,w'.ownsMap Tryz.prog 3 (plainElem Tryz.prog 3) B xs.length D∧S8 D xs

theorem Kq {xss:List (List Int)} {i:Nat} (h:i<xss.length):(xss.take (i+1)).flatten=(xss.take i).flatten++xss.getD i []:=by
 have e:xss.getD i []=xss[i]:=by simp [List.getD,List.getElem?_eq_getElem h]
 rw [List.take_succ_eq_append_getElem h,List.flatten_append,e]
 simp only [List.flatten_cons,List.flatten_nil,List.append_nil]
theorem JS (xss:List (List Int)) (i:Nat):(xss.take i).flatten.length≤xss.flatten.length:=by
 conv=>rhs;rw [← List.take_append_drop i xss]
 rw [List.flatten_append,List.length_append]
 omega
theorem R7 {Z:List Int} {k:Nat} (h:k<Z.length):Z.take (k+1)=Z.take k++[Z.getD k 0]:=by
 rw [List.take_succ_eq_append_getElem h]
 simp [List.getD,List.getElem?_eq_getElem h]

theorem J8 (a:Option Addr) (n c:Nat) (xss:List (List Int)) (w:World) (h:Uo w a n c xss) (hn:n≤1000000) (hT:xss.flatten.length≤1000000000) (hF:∀ x ∈ xss.flatten,(Lit.int .i64 x).wf=true) :
  Calls Tryz.prog 208 #[.slice a n c] w fun e w'=>Fg e w' w.heap.size xss.flatten∧Below w.heap.size w w':=by
 have hmm:=@run_makeMap Tryz.prog
 have hl:=h.1
 have hm0:(w.alloc (.map #[] 0)).ownsMap Tryz.prog 3 (plainElem Tryz.prog 3) w.heap.size 0 (.map []:DataW Unit):=World.ownsMap_made (H:=Unit) w Tryz.prog 3 (plainElem Tryz.prog 3)
 have hb0:Below w.heap.size w (w.alloc (.map #[] 0)):=⟨rfl,rfl,rfl,by simp,fun k hk=>Below.heap_alloc w _ k hk⟩
 obtain ⟨R,hR⟩:∃ R:World→Nat→List Int→Prop,∀ wr tot xs,R wr tot xs↔(∃ D:DataW Unit,wr.ownsMap Tryz.prog 3 (plainElem Tryz.prog 3) w.heap.size tot D∧S8 D xs)∧Below w.heap.size w wr:=⟨fun wr tot xs=>(∃ D:DataW Unit,wr.ownsMap Tryz.prog 3 (plainElem Tryz.prog 3) w.heap.size tot D∧S8 D xs)∧Below w.heap.size w wr,fun _ _ _=>Iff.rfl⟩
 have hR0:R (w.alloc (.map #[] 0)) 0 []:=(hR _ _ _).2 ⟨⟨_,hm0,S8.start⟩,hb0⟩
 clear hm0 hb0
 go_enter Tryz.func208,Tryz.ntmps208
 go_wp2_with fail
 go_loopw [11] (fun si wr=>∃ i:Nat,i≤n∧si=.int .i64 i∧R wr ((xss.take i).flatten.length) ((xss.take i).flatten)) (fun si _=>n - (Go.RowKit.intOf si).toNat)
 case atStart=>exact ⟨0,by omega,rfl,by simpa using hR0⟩
 case round =>
  obtain ⟨i,hi,rfl,hr⟩:=hrel
  by_cases hlt:i<n
  ·have hlt':(i:Int)<(n:Int):=by omega
   obtain ⟨b,off,la,ln,lc,rfl,hcw,hI⟩:=h.cell hlt
   have hI0:=hI
   have hc:=hcw
   rw [← ((hR _ _ _).1 hr).2.cell (p:=⟨b,off+i,none⟩) (WO hcw)] at hc
   obtain ⟨zs,hzs⟩:∃ zs,zs=xss.getD i []:=⟨_,rfl⟩
   have hfl:=Kq (xss:=xss) (i:=i) (by omega)
   have hle:=JS xss (i+1)
   rw [hfl,List.length_append] at hle
   rw [← hzs] at hI hI0 hfl hle
   have hlz:=hI.1
   have hzm:∀ x ∈ zs,(Lit.int .i64 x).wf=true:=fun x hx=>hF x (by
    rw [hzs] at hx
    have hi2:i<xss.length:=by omega
    rw [List.mem_flatten]
    refine ⟨xss.getD i [],?_,hx⟩
    simp [List.getD,List.getElem?_eq_getElem hi2])
   clear hzs
   obtain ⟨ys,hys⟩:∃ ys,ys=(xss.take i).flatten:=⟨_,rfl⟩
   rw [← hys] at hr hfl hle
   have HF:Hid ((xss.take (i+1)).flatten=ys++zs):=hfl
   have hbW:=((hR _ _ _).1 hr).2
   clear hys hfl
   go_wp2_with fail
   go_loopw [17] (fun sj wq=>∃ j:Nat,j≤ln∧sj=.int .i64 j∧R wq (ys.length+j) (ys++zs.take j)) (fun sj _=>ln - (Go.RowKit.intOf sj).toNat)
   case atStart=>exact ⟨0,by omega,rfl,by simpa using hr⟩
   case round =>
    obtain ⟨j,hj,rfl,hq⟩:=hrel
    by_cases hlj:j<ln
    ·have hlj':(j:Int)<(ln:Int):=by omega
     obtain ⟨⟨D,hm,hS⟩,hbl⟩:=(hR _ _ _).1 hq
     obtain ⟨_,_,_,hcase⟩:=hI0.below hbl
     rcases hcase with e0 | ⟨lb,lo,rfl,_,hcc⟩
     ·omega
     have d0:=hcc j hlj
     have hx:=hzm (zs.getD j 0) (by simp [List.getD,List.getElem?_eq_getElem (show j<zs.length by omega)])
     have hsn:ys++zs.take (j+1)=(ys++zs.take j)++[zs.getD j 0]:=by rw [R7 (by omega),List.append_assoc]
     have HS:Hid (ys++zs.take (j+1)=(ys++zs.take j)++[zs.getD j 0]):=hsn
     have hlen:(ys++zs.take j).length=ys.length+j:=by simp;omega
     generalize zs.getD j 0=x at d0 hx HS
     have hkey:=J0 hx
     have hT2:ys.length+j≤1000000000:=by omega
     clear hcc hI hI0 hzm hc hcw hsn hF hx
     have hbn:∀ c:Int,D.atKey (.int .i64 x) (.lit (.int .i64 0))=.lit (.int .i64 c)→(0≤c∧c≤1000000000)∧S8 (D.put (.int .i64 x) (.lit (.int .i64 (c+1)))) (ys++zs.take j++[x]):=fun c hat=>by
      have:=hS.bnd x c hat
      exact ⟨by omega,hS.put hm.isMap this.1 this.2⟩
     clear hS hlen
     go_wp2_with (first | (at_lookup;refine wpList_lookup_own_int _ rfl _ _ 281 rfl 3 3 .i64 RC Tryz.underlying281 Tryz.underlying3 (JE _) w.heap.size (ys.length+j) D rfl hm _ _ rfl hkey ?_;intro cc hat hwc;obtain ⟨⟨hc0,hc1⟩,hSP⟩:=hbn cc hat;clear hbn hat hwc) | (at_mapUpdate;refine wpList_mapUpdate_own _ rfl _ _ _ 281 rfl 3 3 RC Tryz.underlying281 _ w.heap.size (ys.length+j) D rfl hm (by unfold maxLen;omega) _ _ _ rfl rfl hkey _ [] (plainElem_int Tryz.underlying3 (GX (by omega) (by omega))) ?_;intro w3 hm3 g3))
     have hb3:Below w.heap.size w w3:=hbl.grown g3 hbl.size (fun k e=>by cases e;exact Nat.le_refl _)
     go_roundw
     case rel=>exact ⟨j+1,by omega,by go_num,(hR _ _ _).2 ⟨⟨_,by rw [← Nat.add_assoc];exact hm3,by rw [HS.out];exact hSP⟩,hb3⟩⟩
     case measure=>simp [Go.RowKit.intOf];omega
    obtain rfl:j=ln:=by omega
    have e9:zs.take j=zs:=List.take_of_length_le (by omega)
    rw [e9,← hlz,← List.length_append,← HF.out] at hq
    clear e9 HF
    go_wp2
    go_roundw
    case rel=>exact ⟨i+1,by omega,by go_num,hq⟩
    case measure=>simp [Go.RowKit.intOf];omega
  obtain rfl:i=n:=by omega
  have e9:xss.take i=xss:=List.take_of_length_le (by omega)
  rw [e9,hR] at hr
  obtain ⟨⟨D,hm,hS⟩,hbl⟩:=hr
  clear e9
  go_wp2
  go_ret
  exact ⟨⟨rfl,D,hm,hS⟩,hbl⟩


def Z9:List Int→Int→List Int
 | [],n=>[n]
 | x::xs,n=>if x<n then x::Z9 xs n else if x=n then x::xs else n::x::xs
def YK (xs:List Int):List Int:=xs.foldl Z9 []
theorem Vp:∀ (xs:List Int) (n y:Int),y ∈ Z9 xs n↔y=n∨y ∈ xs
 | [],n,y=>by simp [Z9]
 | x::xs,n,y=>by
  unfold Z9
  split
  ·simp only [List.mem_cons,Vp xs n y]
   constructor
   ·rintro (h | h | h)
    ·exact .inr (.inl h)
    ·exact .inl h
    exact .inr (.inr h)
   rintro (h | h | h)
   ·exact .inr (.inl h)
   ·exact .inl h
   exact .inr (.inr h)
  split
  ·rename_i h
   subst h
   simp
  simp
theorem RV:∀ (xs:List Int) (n:Int),xs.Pairwise (· < ·)→(Z9 xs n).Pairwise (· < ·)
 | [],n,_=>by simp [Z9]
 | x::xs,n,h=>by
  obtain ⟨h1,h2⟩:=List.pairwise_cons.1 h
  unfold Z9
  split
  ·rename_i hx
   refine List.pairwise_cons.2 ⟨fun y hy=>?_,RV xs n h2⟩
   rcases (Vp xs n y).1 hy with rfl | hy
   ·exact hx
   exact h1 y hy
  split
  ·exact h
  refine List.pairwise_cons.2 ⟨fun y hy=>?_,h⟩
  rcases List.mem_cons.1 hy with rfl | hy
  ·omega
  have:=h1 y hy
  omega
theorem Ux:∀ (xs acc:List Int),acc.Pairwise (· < ·)→(xs.foldl Z9 acc).Pairwise (· < ·)∧∀ y,y ∈ xs.foldl Z9 acc↔y ∈ acc∨y ∈ xs
 | [],acc,h=>⟨h,fun y=>by simp⟩
 | x::xs,acc,h=>by
  obtain ⟨h1,h2⟩:=Ux xs (Z9 acc x) (RV acc x h)
  refine ⟨h1,fun y=>?_⟩
  rw [List.foldl_cons,h2,Vp,List.mem_cons]
  constructor
  ·rintro ((h | h) | h)
   ·exact .inr (.inl h)
   ·exact .inl h
   exact .inr (.inr h)
  rintro (h | h | h)
  ·exact .inl (.inr h)
  ·exact .inl (.inl h)
  exact .inr h
theorem Xv (xs:List Int):(YK xs).Pairwise (· < ·):=(Ux xs [] List.Pairwise.nil).1
theorem WP (xs:List Int) (y:Int):y ∈ YK xs↔y ∈ xs:=by
 have:=(Ux xs [] List.Pairwise.nil).2 y
 simpa [YK] using this
theorem Ub {xs:List Int} (h:xs.Pairwise (· < ·)):xs.Nodup:=h.imp (fun h e=>by subst e;exact absurd h (by omega))
theorem Hv {xs ys:List Int} (h:xs.Pairwise (· < ·)) (h':ys.Pairwise (· < ·)) (hm:∀ y,y ∈ xs↔y ∈ ys):xs=ys:=by
 have hp:xs.Perm ys:=(List.perm_ext_iff_of_nodup (Ub h) (Ub h')).2 hm
 exact hp.eq_of_pairwise (le:=fun a b=>a<b) (fun a b _ _ h1 h2=>absurd h1 (by omega)) h h'
theorem Hr (xs:List Int) (n:Int):(Z9 xs n).length≤xs.length+1:=by
 induction xs with
 | nil=>simp [Z9]
 | cons x xs ih =>
  unfold Z9
  split
  ·simp;omega
  split<;>simp
theorem XM:∀ (xs acc:List Int),(xs.foldl Z9 acc).length≤acc.length+xs.length
 | [],acc=>by simp
 | x::xs,acc=>by
  have:=XM xs (Z9 acc x)
  have:=Hr acc x
  simp
  omega
theorem Hf (xs:List Int):(YK xs).length≤xs.length:=by simpa [YK] using XM xs []
theorem LZ:∀ (xs:List Int) (n:Int) (k:Nat),k≤xs.length→(∀ i,i<k→xs.getD i 0<n)→(k=xs.length∨¬ xs.getD k 0<n)→Z9 xs n=if k<xs.length∧xs.getD k 0=n then xs else xs.take k++[n]++xs.drop k
 | [],n,k,hk,_,_=>by
  have:k=0:=by simpa using hk
  subst this
  simp [Z9]
 | x::xs,n,0,_,_,h=>by
  have hx:¬ x<n:=by simpa using h
  unfold Z9
  rw [if_neg hx]
  simp
 | x::xs,n,k+1,hk,hl,h=>by
  have hx:x<n:=by simpa using hl 0 (by omega)
  unfold Z9
  rw [if_pos hx]
  have ih:=LZ xs n k (by simpa using hk) (fun i hi=>by simpa using hl (i+1) (by omega)) (by simpa using h)
  rw [ih]
  simp only [List.length_cons,Nat.add_lt_add_iff_right,List.getD_cons_succ,List.take_succ_cons,List.drop_succ_cons]
  split<;>simp

open Go.RowKit Go.Maps Go.Sort Go.Shelf

def QZ:Go.Shelf.Ren:=⟨fun | 7=>207 | 10=>225 | n=>n,fun | 23=>281 | 26=>3 | 3=>3 | 28=>279 | 0=>0 | 27=>278 | 33=>138 | 4=>4 | n=>n,fun | n=>n⟩
theorem GZ:Go.Proofs.SlLaysZI.n7 Tryz.prog QZ:={
 mixed:=by kernel_rfl
 f7:=⟨Tryz.f207.name,by decide,Tryz.func207.trans (congrArg some (by kernel_rfl))⟩
 f10:=⟨Tryz.f225.name,by decide,Tryz.func225.trans (congrArg some (by kernel_rfl))⟩
 t0:=Tryz.underlying0
 a0:=Tryz.isAgg0
 z0:=Tryz.sizeOf0
 v0:=Tryz.zeroValue0
 t4:=Tryz.underlying4
 a4:=Tryz.isAgg4
 z4:=Tryz.sizeOf4
 v4:=Tryz.zeroValue4
 t23:=Tryz.underlying281
 a23:=Tryz.isAgg281
 z23:=Tryz.sizeOf281
 v23:=Tryz.zeroValue281
 t26:=Tryz.underlying3
 a26:=Tryz.isAgg3
 z26:=Tryz.sizeOf3
 v26:=Tryz.zeroValue3
 t27:=Tryz.underlying278
 a27:=Tryz.isAgg278
 z27:=Tryz.sizeOf278
 v27:=Tryz.zeroValue278
 t28:=Tryz.underlying279
 a28:=Tryz.isAgg279
 z28:=Tryz.sizeOf279
 v28:=Tryz.zeroValue279
 t33:=Tryz.underlying138
 a33:=Tryz.isAgg138
 z33:=Tryz.sizeOf138
 v33:=Tryz.zeroValue138 }
def SC:Go.Shelf.Ren:=⟨fun | 6=>206 | 8=>223 | 9=>224 | 11=>238 | 13=>140 | 12=>239 | 23=>192 | 24=>193 | 14=>244 | 15=>245 | 16=>246 | 17=>247 | 18=>248 | 19=>249 | 20=>250 | 21=>251 | 22=>252 | 25=>254 | 26=>214 | 27=>215 | 28=>255 | 29=>256 | 30=>194 | 31=>257 | n=>n,fun | 26=>3 | 28=>279 | 24=>72 | 0=>0 | 3=>3 | 37=>223 | 48=>268 | 50=>270 | 4=>4 | 40=>262 | 39=>261 | 45=>228 | 5=>5 | 9=>9 | 51=>287 | 55=>291 | 57=>308 | 58=>27 | 33=>138 | n=>n,fun | n=>n⟩
theorem GR:Go.Proofs.SlLaysZI.n6 Tryz.prog SC:={
 mixed:=by kernel_rfl
 f6:=⟨Tryz.f206.name,by decide,Tryz.func206.trans (congrArg some (by kernel_rfl))⟩
 f8:=⟨Tryz.f223.name,by decide,Tryz.func223.trans (congrArg some (by kernel_rfl))⟩
 f11:=⟨Tryz.f238.name,by decide,Tryz.func238.trans (congrArg some (by kernel_rfl))⟩
 t0:=Tryz.underlying0
 a0:=Tryz.isAgg0
 z0:=Tryz.sizeOf0
 v0:=Tryz.zeroValue0
 t24:=Tryz.underlying72
 a24:=Tryz.isAgg72
 z24:=Tryz.sizeOf72
 v24:=Tryz.zeroValue72
 t26:=Tryz.underlying3
 a26:=Tryz.isAgg3
 z26:=Tryz.sizeOf3
 v26:=Tryz.zeroValue3
 t28:=Tryz.underlying279
 a28:=Tryz.isAgg279
 z28:=Tryz.sizeOf279
 v28:=Tryz.zeroValue279
 i26:=by kernel_rfl }
def Jk:Go.Shelf.Ren:=⟨fun | 5=>224 | 8=>140 | 7=>239 | 19=>192 | 20=>193 | 10=>244 | 11=>245 | 12=>246 | 13=>247 | 14=>248 | 15=>249 | 16=>250 | 17=>251 | 18=>252 | 30=>254 | 31=>214 | 32=>215 | 33=>255 | 34=>256 | 35=>194 | 40=>257 | n=>n,fun | 23=>72 | 25=>3 | 3=>3 | 32=>223 | 22=>72 | 0=>0 | 44=>268 | 46=>270 | 4=>4 | 36=>262 | 35=>261 | 41=>228 | 5=>5 | 9=>9 | 53=>287 | 57=>291 | 63=>308 | 64=>27 | n=>n,fun | n=>n⟩
theorem Fa:Go.Proofs.SlLaysM.n5 Tryz.prog Jk:={
 mixed:=by kernel_rfl
 f5:=⟨Tryz.f224.name,by decide,Tryz.func224.trans (congrArg some (by kernel_rfl))⟩
 f7:=⟨Tryz.f239.name,by decide,Tryz.func239.trans (congrArg some (by kernel_rfl))⟩
 f8:=Tryz.func140.trans (congrArg some (by kernel_rfl))
 f10:=⟨Tryz.f244.name,by decide,Tryz.func244.trans (congrArg some (by kernel_rfl))⟩
 f11:=⟨Tryz.f245.name,by decide,Tryz.func245.trans (congrArg some (by kernel_rfl))⟩
 f12:=⟨Tryz.f246.name,by decide,Tryz.func246.trans (congrArg some (by kernel_rfl))⟩
 f13:=⟨Tryz.f247.name,by decide,Tryz.func247.trans (congrArg some (by kernel_rfl))⟩
 f14:=⟨Tryz.f248.name,by decide,Tryz.func248.trans (congrArg some (by kernel_rfl))⟩
 f15:=⟨Tryz.f249.name,by decide,Tryz.func249.trans (congrArg some (by kernel_rfl))⟩
 f16:=⟨Tryz.f250.name,by decide,Tryz.func250.trans (congrArg some (by kernel_rfl))⟩
 f17:=⟨Tryz.f251.name,by decide,Tryz.func251.trans (congrArg some (by kernel_rfl))⟩
 f18:=⟨Tryz.f252.name,by decide,Tryz.func252.trans (congrArg some (by kernel_rfl))⟩
 f19:=Tryz.func192.trans (congrArg some (by kernel_rfl))
 f20:=Tryz.func193.trans (congrArg some (by kernel_rfl))
 f30:=⟨Tryz.f254.name,by decide,Tryz.func254.trans (congrArg some (by kernel_rfl))⟩
 f31:=Tryz.func214.trans (congrArg some (by kernel_rfl))
 f32:=Tryz.func215.trans (congrArg some (by kernel_rfl))
 f33:=⟨Tryz.f255.name,by decide,Tryz.func255.trans (congrArg some (by kernel_rfl))⟩
 f34:=⟨Tryz.f256.name,by decide,Tryz.func256.trans (congrArg some (by kernel_rfl))⟩
 f35:=⟨Tryz.f194.name,by decide,Tryz.func194.trans (congrArg some (by kernel_rfl))⟩
 f40:=⟨Tryz.f257.name,by decide,Tryz.func257.trans (congrArg some (by kernel_rfl))⟩
 t0:=Tryz.underlying0
 a0:=Tryz.isAgg0
 z0:=Tryz.sizeOf0
 v0:=Tryz.zeroValue0
 t3:=Tryz.underlying3
 a3:=Tryz.isAgg3
 z3:=Tryz.sizeOf3
 v3:=Tryz.zeroValue3
 t4:=Tryz.underlying4
 a4:=Tryz.isAgg4
 z4:=Tryz.sizeOf4
 v4:=Tryz.zeroValue4
 t5:=Tryz.underlying5
 a5:=Tryz.isAgg5
 z5:=Tryz.sizeOf5
 v5:=Tryz.zeroValue5
 t9:=Tryz.underlying9
 a9:=Tryz.isAgg9
 z9:=Tryz.sizeOf9
 v9:=Tryz.zeroValue9
 t22:=Tryz.underlying72
 a22:=Tryz.isAgg72
 z22:=Tryz.sizeOf72
 v22:=Tryz.zeroValue72
 t23:=Tryz.underlying72
 a23:=Tryz.isAgg72
 z23:=Tryz.sizeOf72
 v23:=Tryz.zeroValue72
 t25:=Tryz.underlying3
 a25:=Tryz.isAgg3
 z25:=Tryz.sizeOf3
 v25:=Tryz.zeroValue3
 t32:=Tryz.underlying223
 a32:=Tryz.isAgg223
 z32:=Tryz.sizeOf223
 v32:=Tryz.zeroValue223
 t35:=Tryz.underlying261
 a35:=Tryz.isAgg261
 z35:=Tryz.sizeOf261
 v35:=Tryz.zeroValue261
 t36:=Tryz.underlying262
 a36:=Tryz.isAgg262
 z36:=Tryz.sizeOf262
 v36:=Tryz.zeroValue262
 t41:=Tryz.underlying228
 a41:=Tryz.isAgg228
 z41:=Tryz.sizeOf228
 v41:=Tryz.zeroValue228
 t44:=Tryz.underlying268
 a44:=Tryz.isAgg268
 z44:=Tryz.sizeOf268
 v44:=Tryz.zeroValue268
 t46:=Tryz.underlying270
 a46:=Tryz.isAgg270
 z46:=Tryz.sizeOf270
 v46:=Tryz.zeroValue270
 t53:=Tryz.underlying287
 a53:=Tryz.isAgg287
 z53:=Tryz.sizeOf287
 v53:=Tryz.zeroValue287
 t57:=Tryz.underlying291
 a57:=Tryz.isAgg291
 z57:=Tryz.sizeOf291
 v57:=Tryz.zeroValue291
 t63:=Tryz.underlying308
 a63:=Tryz.isAgg308
 z63:=Tryz.sizeOf308
 v63:=Tryz.zeroValue308
 t64:=Tryz.underlying27
 a64:=Tryz.isAgg27
 z64:=Tryz.sizeOf27
 v64:=Tryz.zeroValue27 }

theorem Fs (m:Nat):AnyZI.SortsIn Tryz.prog SC Fence.wide m:=
 ⟨fun blk off cap ss W hH hblk hsz=>callsIn_wide.2 (AnyM.slices_Sort_int Fa blk off cap ss W hH hblk hsz),
  fun p cap W=>callsIn_wide.2 (AnyM.slices_Sort_int_none Fa p cap W)⟩
theorem FC (mb:Option Nat) (W:World):Calls Tryz.prog 207 #[.map mb] W fun e w'=>e=.returned (.func (.func 225) #[] #[.pointer (some ⟨W.heap.size,0,none⟩)])∧w'=W.alloc (.cells #[.map mb] 281):=
 callsIn_wide.1 (AnyZI.keys_in GZ Fence.wide 5 trivial rfl mb W)
theorem GQ (b nn:Nat) (D0:DataW Unit) (w:World) (hown:w.ownsMap Tryz.prog 3 (plainElem Tryz.prog 3) b nn D0) (hmax:nn≤1000000000) :
  Calls Tryz.prog 206 #[.func (.func 225) #[] #[.pointer (some ⟨w.heap.size,0,none⟩)]] (w.alloc (.cells #[.map (some b)] 281)) fun e w'=>∃ (v:Value) (ss:List Int),e=.returned v∧ss.Perm (intKeys D0) ∧
   w'.ownsRow (w.alloc (.cells #[.map (some b)] 281)).heap.size 3 1 v ss.length ((ss.mergeSort (fun x y=>decide (x≤y))).map encZ)∧(v=.slice none 0 0↔ss=[])∧Below (w.alloc (.cells #[.map (some b)] 281)).heap.size (w.alloc (.cells #[.map (some b)] 281)) w':=by
 have hbl:=hown.lt
 have hsz:=hown.size_le
 have hseq:SeqGives Fence.wide 2 Tryz.prog 225 #[.pointer (some ⟨w.heap.size,0,none⟩)] encZ (fun ss=>ss.Perm (intKeys D0)) (Maps.size D0) (w.alloc (.cells #[.map (some b)] 281)):=
  AnyZI.keys_gives (ρ:=QZ) { GZ with } Fence.wide _ trivial rfl (by omega) w.heap.size b nn D0 _ (by simp) (by simp) (by
   obtain ⟨es,clock,hb,Ft,hs,hD⟩:=hown
   exact ⟨es,clock,(Below.heap_alloc _ _ b hbl).trans hb,Ft,hs,hD⟩)
 have cS:=AnyZI.sorted_in GR Fence.wide 5 trivial trivial trivial trivial rfl (by omega) (Fs _) (enters_of Tryz.func224 (by kernel_rfl) rfl) 225 #[.pointer (some ⟨w.heap.size,0,none⟩)] trivial (enters_of Tryz.func225 (by kernel_rfl) rfl) _ _ (by unfold maxLen;omega) (by omega) _ hseq
 exact callsIn_wide.1 cS
theorem J2 {w:World} {b nn:Nat} {D:DataW Unit} {xs ss:List Int} (hown:w.ownsMap Tryz.prog 3 (plainElem Tryz.prog 3) b nn D) (hS:S8 D xs) (hp:ss.Perm (intKeys D)):ss.mergeSort (fun x y=>decide (x≤y))=YK xs:=by
 obtain ⟨es,hD,hpw,_⟩:=hown.entries RC
 obtain ⟨es',hD',hko⟩:=hown.keysOf
 obtain rfl:es=es':=by rw [hD] at hD';simpa using hD'
 subst hD
 have hp2:(YK xs).Perm (intKeys (.map es)):=perm_intKeys hpw (fun p hp=>by obtain ⟨v,hv⟩:=hko p hp;obtain ⟨x,_,hx,_⟩:=Maps.keyOf_i64 Tryz.underlying3 hv;exact ⟨x,hx⟩) (Ub (Xv xs)) (fun x=>by rw [WP,hS.has])
 have hp3:(ss.mergeSort (fun x y=>decide (x≤y))).Perm (YK xs):=(List.mergeSort_perm _ _).trans (hp.trans hp2.symm)
 have tr:∀ a b c:Int,decide (a≤b)=true→decide (b≤c)=true→decide (a≤c)=true:=fun a b c h1 h2=>by simp only [decide_eq_true_eq] at *;exact Int.le_trans h1 h2
 have to:∀ a b:Int,(decide (a≤b) || decide (b≤a))=true:=fun a b=>by simp only [Bool.or_eq_true,decide_eq_true_eq];exact Int.le_total a b
 refine hp3.eq_of_pairwise (le:=fun a b=>a≤b) (fun a b _ _ h1 h2=>Int.le_antisymm h1 h2) ?_ ((Xv xs).imp (fun h=>Int.le_of_lt h))
 have:=List.pairwise_mergeSort tr to ss
 exact this.imp (fun h=>by simpa using h)
theorem K4 (a:Option Addr) (n c:Nat) (xss:List (List Int)) (w:World) (h:Uo w a n c xss) (hn:n≤1000000) (hT:xss.flatten.length≤1000000000) (hF:∀ x ∈ xss.flatten,(Lit.int .i64 x).wf=true) :
  Calls Tryz.prog 166 #[.slice a n c] w fun e w'=>TK e w' w.heap.size (YK xss.flatten)∧Below w.heap.size w w':=by
 have kM:=J8 a n c xss w h hn hT hF
 clear h hF
 generalize xss.flatten=xs at *
 have HL:Hid (xs.length≤1000000000):=hT
 clear hT
 go_enter Tryz.func166,Tryz.ntmps166
 go_wp2_with fail
 refine kM.mono ?_
 rintro e w1 ⟨⟨rfl,D,hm,hS⟩,hb⟩
 have kS:=GQ w.heap.size xs.length D w1 hm HL.out
 go_wp2_with fail
 refine (FC _ _).mono ?_
 rintro e w2 ⟨rfl,rfl⟩
 go_wp2_with fail
 refine kS.mono ?_
 rintro e w3 ⟨v,ss,rfl,hp,ho,hnil,hb3⟩
 go_wp2
 go_ret
 have hsz:=hb.size
 refine ⟨⟨v,rfl,?_⟩,hb.trans ?_⟩
 ·have e1:=J2 hm hS hp
  have e2:ss.length=(YK xs).length:=by rw [← e1,List.length_mergeSort]
  rw [e1,e2] at ho
  exact ownsRow_base_a ho (by simp;omega)
 exact ((Below.refl _ w1).alloc (Nat.le_refl _) _).mono hsz |>.trans (hb3.mono (by simp;omega))
end Go.Proofs.YtmhlokahmblboaaGreatDoor
