/-
  Joined: RpP, Prog5, ProgL, ProgM, StrS, RpM.
-/
import Derived.Laws.BytesArg
import Derived.Laws.RangeString
import Derived.Laws.RangeAny
import Derived.Laws.Bits
import Derived.Lib.FieldsP
import Derived.Maps.AppendAt
import Derived.Test.YtmhlokahmblboaaGreatDoorK04

namespace Go.Proofs.YtmhlokahmblboaaGreatDoor
set_option maxRecDepth 100000
set_option maxHeartbeats 16000000
open Go.RowKit

theorem Hs {x:I3} (h:okI x=true):I3.fits x:=by
 obtain ⟨h0,h1,h2⟩:=KZ h
 have wf:∀ z:Int,0≤z∧z≤9→(Lit.int .i64 z).wf=true:=fun z hz=>by
  simp [Lit.wf,IntKind.min,IntKind.max,IntKind.signed,IntKind.bits]
  omega
 exact ⟨wf _ h0,wf _ h1,wf _ h2⟩


def XN (w:World) (B k:Nat) (vs:List Value) (rows:List (List I3)):Prop:=
 (∀ t,t<k→w.ownsRow B 122 3 (vs.getD t undef) (rows.getD t []).length (Zr (rows.getD t []))) ∧
 ∀ t t',t<k→t'<k→t≠t'→(vs.getD t undef).ownBlock=none∨(vs.getD t undef).ownBlock≠(vs.getD t' undef).ownBlock

theorem YU.low {w:World} {B:Nat} {v:Value} {rows:List (List I3)} (h:YU w B v rows) {p:Addr} (hp:p.block<B) (u:Value):YU (w.setCell p u) B v rows:=by
 obtain ⟨vs,h1,h2,h3,h4⟩:=h
 exact ⟨vs,ownsRow_setCell_below h1 hp _,h2,fun t ht=>ownsRow_setCell_below (h3 t ht) hp _,h4⟩


theorem UX {w:World} {B B' e s n:Nat} {v:Value} {cs:List Value} (h:w.ownsRow B e s v n cs) (hB:B'≤B):w.ownsRow B' e s v n cs:=by
 refine ⟨h.1,?_⟩
 rcases h.2 with h0 | ⟨g,cap,cur,hv,hg,r⟩
 ·exact .inl h0
 exact .inr ⟨g,cap,cur,hv,by omega,r⟩


theorem YU.lower {w:World} {B B':Nat} {v:Value} {rows:List (List I3)} (h:YU w B v rows) (hB:B'≤B):YU w B' v rows:=by
 obtain ⟨vs,h1,h2,h3,h4⟩:=h
 exact ⟨vs,UX h1 hB,h2,fun t ht=>UX (h3 t ht) hB,h4⟩


def Strs (w:World) (a:Option Addr) (len cap:Nat) (ts:List ByteArray):Prop:=
 ts.length=len∧len≤cap∧cap≤maxLen ∧
 (len=0∨∃ b off,a=some ⟨b,off,none⟩∧b<w.heap.size∧∀ t,t<len→w.cell? ⟨b,off+t,none⟩=some (.string (ts.getD t ByteArray.empty)))

def JG (base:Nat) (w:World) (a:Option Addr) (n cap:Nat) (ts:List ByteArray):Prop:=
 ts.length=n∧n≤cap∧cap≤maxLen∧(n=0∨∃ g,a=some ⟨g,0,none⟩∧w.ownsRow base 9 1 (.slice (some ⟨g,0,none⟩) n cap) n (ts.map Value.string))

theorem JG.strs {base:Nat} {w:World} {a:Option Addr} {n cap:Nat} {ts:List ByteArray} (h:JG base w a n cap ts):Strs w a n cap ts:=by
 obtain ⟨h1,h2,h3,h4⟩:=h
 refine ⟨h1,h2,h3,?_⟩
 rcases h4 with h4 | ⟨g,ha,h4⟩
 ·exact .inl h4
 refine .inr ⟨g,0,ha,(h4.lt g rfl).2,fun t ht=>?_⟩
 have:=h4.cellAt t (by simp;omega)
 rw [Nat.zero_add,this]
 simp [List.getElem?_eq_getElem (show t<ts.length by omega)]

theorem JG.of_owns {base:Nat} {w:World} {v:Value} {n:Nat} {ts:List ByteArray} (h:w.ownsRow base 9 1 v n (ts.map Value.string)):∃ a cap,v=.slice a n cap∧JG base w a n cap ts:=by
 have hl:ts.length=n:=by simpa using h.1
 rcases h.2 with ⟨h0,hn⟩ | ⟨g',cap',cur,hv,_,_,hn,hcap,_,_⟩
 ·subst hn
  exact ⟨none,0,h0,hl,Nat.le_refl _,by unfold maxLen;omega,.inl rfl⟩
 subst hv
 exact ⟨some ⟨g',0,none⟩,cap',rfl,hl,hn,hcap,.inr ⟨g',rfl,h⟩⟩


theorem Vr {w:World} {B B' e e' s s' n n' c' X:Nat} {v:Value} {xs xs':List Value} (h:w.ownsRow B e s v n xs) (hX:w.ownsRow B' e' s' (.slice (some ⟨X,0,none⟩) n' c') n' xs') (he:e≠e'):v.ownBlock≠some X:=by
 rcases Yh h hX he with h0 | h0
 ·rw [h0];simp
 exact h0
theorem JM (w:World) (v:Value) (t:TypeId) (B:Nat) (hB:B≤w.heap.size):(w.alloc (.cells #[v] t)).ownsRow B t 1 (.slice (some ⟨w.heap.size,0,none⟩) 1 1) 1 [v]:=World.ownsRow_lit w #[v] 1 hB (by unfold maxLen;omega) rfl
theorem QH (xs:List I3) (x:I3):Zr (xs++[x])=Zr xs++[.int .i64 x.1,.int .i64 x.2.1,.int .i64 x.2.2]:=by simp [Zr,I3.cells]
end Go.Proofs.YtmhlokahmblboaaGreatDoor
