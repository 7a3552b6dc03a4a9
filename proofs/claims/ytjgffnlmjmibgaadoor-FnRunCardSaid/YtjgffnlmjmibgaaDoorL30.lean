/-
  Joined: Take, NumP, RpP, Prog5.
-/
import Derived.Laws.RangeString
import Derived.Laws.RangeAny
import Derived.Laws.Bits
import Derived.Lib.FieldsP
import Derived.Test.YtjgffnlmjmibgaaDoorL07

namespace Go.Proofs.YtjgffnlmjmibgaaDoor
set_option maxRecDepth 100000
set_option maxHeartbeats 16000000

def bt (s:ByteArray) (k:Nat):Nat:=if h:k<s.size then (s[k]'h).toNat else 0
def hv (s:ByteArray) (p k:Nat):Nat→Nat
 | 0=>0
 | j+1=>hv s p k j*128+bt s (p+k - 1 - j) % 128


def digVal (s:ByteArray):Nat→Nat
 | 0=>0
 | k+1=>10*digVal s k+(bt s k - 48)
def allDig (s:ByteArray) (k:Nat):Prop:=∀ i,i<k→48≤bt s i∧bt s i≤57
theorem digVal_lt {s:ByteArray}:∀ {k:Nat},allDig s k→digVal s k<10 ^ k
 | 0,_=>by simp [digVal]
 | k+1,h=>by
  have ih:=digVal_lt (k:=k) (fun i hi=>h i (by omega))
  have:=h k (by omega)
  rw [digVal,Nat.pow_succ]
  omega
theorem digVal_small {s:ByteArray} {k:Nat} (h:allDig s k) (hk:k≤18):digVal s k<1000000000000000000:=by
 have h1:=digVal_lt h
 have h2:10 ^ k≤10 ^ 18:=Nat.pow_le_pow_right (by omega) hk
 have:(10:Nat) ^ 18=1000000000000000000:=by decide
 omega
def IsDec (s:ByteArray) (n:Nat):Prop:=1≤s.size∧s.size≤18∧¬ (1<s.size∧bt s 0=48)∧allDig s s.size∧n=digVal s s.size
theorem IsDec.lt {s:ByteArray} {n:Nat} (h:IsDec s n):n<1000000000000000000:=by
 obtain ⟨_,h2,_,h4,rfl⟩:=h
 exact digVal_small h4 h2

open Go.RowKit

theorem okI_fits {x:I3} (h:okI x=true):I3.fits x:=by
 obtain ⟨h0,h1,h2⟩:=okI_small h
 have wf:∀ z:Int,0≤z∧z≤9→(Lit.int .i64 z).wf=true:=fun z hz=>by
  simp [Lit.wf,IntKind.min,IntKind.max,IntKind.signed,IntKind.bits]
  omega
 exact ⟨wf _ h0,wf _ h1,wf _ h2⟩


def RowsOwn (w:World) (B k:Nat) (vs:List Value) (rows:List (List I3)):Prop:=
 (∀ t,t<k→w.ownsRow B 103 3 (vs.getD t undef) (rows.getD t []).length (flat (rows.getD t []))) ∧
 ∀ t t',t<k→t'<k→t≠t'→(vs.getD t undef).ownBlock=none∨(vs.getD t undef).ownBlock≠(vs.getD t' undef).ownBlock

theorem RowsOwn.below {w w':World} {B k:Nat} {vs:List Value} {rows:List (List I3)} (h:RowsOwn w B k vs rows) (hb:Below w.heap.size w w'):RowsOwn w' B k vs rows:=⟨fun t ht=>owns_below (h.1 t ht) hb,h.2⟩

theorem RowsOwn.put {w w':World} {B P k G len:Nat} {vs:List Value} {rows:List (List I3)} (h:RowsOwn w B k vs rows) (hb:Below w.heap.size w w') (hk:k<vs.length) (hG:w.heap.size≤G)
  (hn:w'.ownsRow B 103 3 (.slice (some ⟨G,0,none⟩) len len) (rows.getD k []).length (flat (rows.getD k []))) (hP:P<w.heap.size) (hPn:∀ t,t<k→(vs.getD t undef).ownBlock≠some P) :
  RowsOwn (w'.setCell ⟨P,k,none⟩ (.slice (some ⟨G,0,none⟩) len len)) B (k+1) (vs.set k (.slice (some ⟨G,0,none⟩) len len)) rows:=by
 have hold:∀ t,t≠k→(vs.set k (.slice (some ⟨G,0,none⟩) len len)).getD t undef=vs.getD t undef:=fun t ht=>by simp [List.getD,List.getElem?_set_ne (Ne.symm ht)]
 have hnew:(vs.set k (.slice (some ⟨G,0,none⟩) len len)).getD k undef=.slice (some ⟨G,0,none⟩) len len:=by simp [List.getD,hk]
 refine ⟨fun t ht=>?_,fun t t' ht ht' hne=>?_⟩
 ·by_cases e:t=k
  ·subst e
   rw [hnew]
   exact ownsRow_setCell_other hn (by simp [Value.ownBlock];omega) _
  ·rw [hold t e]
   exact ownsRow_setCell_other (owns_below (h.1 t (by omega)) hb) (hPn t (by omega)) _
 ·by_cases e:t=k
  ·subst e
   rw [hnew,hold t' (Ne.symm hne)]
   refine .inr ?_
   simp only [Value.ownBlock,ne_eq]
   intro h'
   have:=((h.1 t' (by omega)).lt G h'.symm).2
   omega
  ·rw [hold t e]
   by_cases e':t'=k
   ·subst e'
    rw [hnew]
    rcases hbk:(vs.getD t undef).ownBlock with _ | x
    ·exact .inl rfl
    ·refine .inr ?_
     simp only [Value.ownBlock,ne_eq,Option.some.injEq]
     have:=((h.1 t (by omega)).lt x hbk).2
     omega
   ·rw [hold t' e']
    exact h.2 t t' (by omega) (by omega) hne

theorem OwnProg.low {w:World} {B:Nat} {v:Value} {rows:List (List I3)} (h:OwnProg w B v rows) {p:Addr} (hp:p.block<B) (u:Value):OwnProg (w.setCell p u) B v rows:=by
 obtain ⟨vs,h1,h2,h3,h4⟩:=h
 exact ⟨vs,ownsRow_setCell_below h1 hp _,h2,fun t ht=>ownsRow_setCell_below (h3 t ht) hp _,h4⟩

end Go.Proofs.YtjgffnlmjmibgaaDoor
