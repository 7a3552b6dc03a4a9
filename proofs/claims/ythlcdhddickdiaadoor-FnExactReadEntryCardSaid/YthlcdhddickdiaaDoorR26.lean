/-
  Joined: EntP, RwI, MapI, MgiI.
-/
import Derived.Laws.Strings
import Derived.Maps.OwnSet
import Derived.Maps.OwnOps
import Derived.Maps.Own
import Derived.Shelf.SlIterI.Nil
import Derived.Shelf.SortM.Plain
import Derived.Shelf.SortM.SortNone
import Derived.Test.YthlcdhddickdiaaDoorR20
import Derived.Test.YthlcdhddickdiaaDoorR24

namespace Go.Proofs.YthlcdhddickdiaaDoor
set_option maxRecDepth 100000
set_option maxHeartbeats 16000000
open Go.RowKit
set_option linter.unusedVariables false
set_option linter.unusedSimpArgs false

theorem allR_false {f:Nat→Bool} {n k:Nat} (hk:k<n) (h:f k=false):(List.range n).all f=false:=by
 rw [List.all_eq_false]
 exact ⟨k,List.mem_range.2 hk,by rw [h];simp⟩
theorem allR_true {f:Nat→Bool} {n:Nat} (h:∀ k,k<n→f k=true):(List.range n).all f=true:=by
 rw [List.all_eq_true]
 exact fun k hk=>h k (List.mem_range.1 hk)
theorem allR_at {f:Nat→Bool} {n k:Nat} (h:(List.range n).all f=true) (hk:k<n):f k=true:=List.all_eq_true.1 h k (List.mem_range.2 hk)

def bStep (xs:List I3) (i:Nat):Bool:=okB (xs.getD i (0,0,0)) && (decide (i=0) || ltB (xs.getD (i - 1) (0,0,0)) (xs.getD i (0,0,0)))
def riseB (xs:List I3):Bool:=(List.range xs.length).all (bStep xs)
def iStep (zs:List Int) (i:Nat):Bool:=itOk (zs.getD i 0) && (decide (i=0) || decide (zs.getD (i - 1) 0<zs.getD i 0))
def riseI (zs:List Int):Bool:=(List.range zs.length).all (iStep zs)
def keyOk9 (k:ByteArray):Bool:=decide (k.size=15) && shapeOk (bytesV k)
def entOk (e:E3):Bool:=keyOk9 e.1 && (riseB e.2.1 && (riseI e.2.2 && decide (e.2.1.length≤30)))


def IsL (w:World) (v:Value) (xs:List Int):Prop:=∃ la ln lc,v=.slice la ln lc∧Ints .i64 w la ln lc xs
theorem IsL.below {w w':World} {v:Value} {xs:List Int} (h:IsL w v xs) (hb:Below w.heap.size w w'):IsL w' v xs:=by
 obtain ⟨la,ln,lc,rfl,hi⟩:=h
 exact ⟨la,ln,lc,rfl,hi.below hb⟩
def AllL (w:World) (vs:List Value) (xss:List (List Int)):Prop:=vs.length=xss.length∧∀ t,t<xss.length→IsL w (vs.getD t undef) (xss.getD t [])
theorem AllL.below {w w':World} {vs:List Value} {xss:List (List Int)} (h:AllL w vs xss) (hb:Below w.heap.size w w'):AllL w' vs xss:=⟨h.1,fun t ht=>(h.2 t ht).below hb⟩
theorem AllL.nil (w:World):AllL w [] []:=⟨rfl,fun t ht=>by simp at ht⟩
def RowsI (w:World) (a:Option Addr) (n c:Nat) (xss:List (List Int)):Prop:=
 xss.length=n∧n≤c∧c≤maxLen∧∃ vs,AllL w vs xss∧(n=0∨∃ b off,a=some ⟨b,off,none⟩∧b<w.heap.size∧∀ t,t<n→w.cell? ⟨b,off+t,none⟩=some (vs.getD t undef))
theorem RowsI.below {w w':World} {a:Option Addr} {n c:Nat} {xss:List (List Int)} (h:RowsI w a n c xss) (hb:Below w.heap.size w w'):RowsI w' a n c xss:=by
 obtain ⟨h1,h2,h3,vs,h4,h5⟩:=h
 refine ⟨h1,h2,h3,vs,h4.below hb,?_⟩
 rcases h5 with h5 | ⟨b,off,h6,h7,h8⟩
 ·exact .inl h5
 ·exact .inr ⟨b,off,h6,Nat.lt_of_lt_of_le h7 hb.size,fun t ht=>by rw [hb.cell (p:=⟨b,off+t,none⟩) h7];exact h8 t ht⟩
theorem RowsI.cell {w:World} {a:Option Addr} {n c:Nat} {xss:List (List Int)} (h:RowsI w a n c xss) {t:Nat} (ht:t<n):∃ b off la ln lc,a=some ⟨b,off,none⟩∧w.cell? ⟨b,off+t,none⟩=some (.slice la ln lc)∧Ints .i64 w la ln lc (xss.getD t []):=by
 obtain ⟨h1,h2,h3,vs,h4,h5⟩:=h
 rcases h5 with h5 | ⟨b,off,h6,h7,h8⟩
 ·omega
 ·obtain ⟨la,ln,lc,e,hi⟩:=h4.2 t (by omega)
  exact ⟨b,off,la,ln,lc,h6,by rw [h8 t ht,e],hi⟩


structure SetD (D:DataW Unit) (xs:List Int):Prop where
 has:∀ x:Int,Maps.has D (.int .i64 x)=true↔x ∈ xs
 bnd:∀ x c:Int,D.atKey (.int .i64 x) (.lit (.int .i64 0))=.lit (.int .i64 c)→0≤c∧c≤xs.length
theorem lit_ne8 {s t:Int} (h:s≠t):(Lit.int .i64 s)≠Lit.int .i64 t:=fun e=>by
 injection e with _ e
 exact h e
theorem SetD.put {D:DataW Unit} {xs:List Int} (h:SetD D xs) (hm:Maps.IsMap D) {x c:Int} (hc0:0≤c) (hc:c≤xs.length) :
  SetD (D.put (.int .i64 x) (.lit (.int .i64 (c+1)))) (xs++[x]):=by
 have hkl:WideAt.IsKeyLit (.int .i64 x):=trivial
 refine ⟨fun t=>?_,fun y d hd=>?_⟩
 ·by_cases e:t=x
  ·subst e
   rw [Maps.has_put_same hm hkl]
   simp
  ·rw [Maps.has_put_other (lit_ne8 e),h.has]
   simp [e]
 ·by_cases e:y=x
  ·subst e
   rw [Maps.atKey_put_same hm hkl] at hd
   injection hd with hd
   injection hd with _ hd
   subst hd
   simp
   omega
  ·rw [Maps.atKey_put_other (lit_ne8 e)] at hd
   have:=h.bnd y d hd
   simp
   omega


def allIt (xs:List Int):Bool:=xs.all itOk
def wfs (xs:List Int):Prop:=∀ x ∈ xs,(Lit.int .i64 x).wf=true
theorem allIt_drop {xs:List Int} {k:Nat} (h:k<xs.length):allIt (xs.drop k)=(itOk (xs.getD k 0) && allIt (xs.drop (k+1))):=by
 unfold allIt
 rw [List.drop_eq_getElem_cons h,List.all_cons]
 simp [List.getD,List.getElem?_eq_getElem h]
end Go.Proofs.YthlcdhddickdiaaDoor
