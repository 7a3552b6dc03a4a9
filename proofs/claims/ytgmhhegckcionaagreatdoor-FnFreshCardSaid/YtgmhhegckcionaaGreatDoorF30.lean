/-
  Joined: VmOfS, EntP, TchI.
-/
import Derived.Test.YtgmhhegckcionaaGreatDoorF29

namespace Go.Proofs.YtgmhhegckcionaaGreatDoor
set_option maxRecDepth 100000
set_option maxHeartbeats 16000000
open Go.RowKit
set_option linter.unusedVariables false

def CL (s:ByteArray):V4:=if s.size≠15 then ([],[],[],[]) else if Zc (Yh s) then Yh s else ([],[],[],[])
def Dx (s:ByteArray):Int:=if 65536<s.size then 2 else if s.size≠15 then 3 else if Zc (Yh s) then 0 else 3
theorem MR (s:ByteArray) (w:World) (hs:s.size≤1048576) (hV:ZN w) :
  Calls Tryz.prog 72 #[.string s] w fun e w'=>Xy e w' w.heap.size (CL s) (Dx s)∧Below w.heap.size w w':=by
 unfold CL Dx
 by_cases hl:65536<s.size
 ·rw [if_pos (show s.size≠15 by omega),if_pos hl]
  refine (Ps s w hs hl).mono ?_
  rintro e w' ⟨rfl,hb⟩
  exact ⟨Xy.mk9 ((none,0,0),(none,0,0),(none,0,0),(none,0,0)) rfl (SO _ _),hb⟩
 rw [if_neg hl]
 by_cases h15:s.size=15
 ·have hn:¬ (s.size≠15):=fun h=>h h15
  simp only [if_neg hn]
  exact RH s w h15 hV
 rw [if_pos h15,if_pos h15]
 refine (Pt s w (by omega) h15).mono ?_
 rintro e w' ⟨rfl,hb⟩
 exact ⟨Xy.mk9 ((none,0,0),(none,0,0),(none,0,0),(none,0,0)) rfl (SO _ _),hb⟩

set_option linter.unusedSimpArgs false

theorem TZ {f:Nat→Bool} {n k:Nat} (hk:k<n) (h:f k=false):(List.range n).all f=false:=by
 rw [List.all_eq_false]
 exact ⟨k,List.mem_range.2 hk,by rw [h];simp⟩
theorem Vi {f:Nat→Bool} {n:Nat} (h:∀ k,k<n→f k=true):(List.range n).all f=true:=by
 rw [List.all_eq_true]
 exact fun k hk=>h k (List.mem_range.1 hk)
theorem Uo {f:Nat→Bool} {n k:Nat} (h:(List.range n).all f=true) (hk:k<n):f k=true:=List.all_eq_true.1 h k (List.mem_range.2 hk)

def Mw (xs:List I3) (i:Nat):Bool:=okB (xs.getD i (0,0,0)) && (decide (i=0) || ltB (xs.getD (i - 1) (0,0,0)) (xs.getD i (0,0,0)))
def UN (xs:List I3):Bool:=(List.range xs.length).all (Mw xs)
def P0 (zs:List Int) (i:Nat):Bool:=Wj (zs.getD i 0) && (decide (i=0) || decide (zs.getD (i - 1) 0<zs.getD i 0))
def TW (zs:List Int):Bool:=(List.range zs.length).all (P0 zs)
def Wz (k:ByteArray):Bool:=decide (k.size=15) && Zc (Yh k)
def YY (e:E3):Bool:=Wz e.1 && (UN e.2.1 && (TW e.2.2 && decide (e.2.1.length≤30)))
def La (es:List E3) (i:Nat):Bool:=YY (es.getD i e3d) && (decide (i=0) || ltS (es.getD (i - 1) e3d).1 (es.getD i e3d).1)
def Yl (es:List E3):Bool:=(List.range es.length).all (La es) && decide (es.length≤2000)

theorem WB {es:List E3} (h:Yl es=true):es.length≤2000:=by
 simp only [Yl,Bool.and_eq_true,decide_eq_true_eq] at h
 exact h.2
theorem Gg {es:List E3} (h:Yl es=true) {i:Nat} (hi:i<es.length):YY (es.getD i e3d)=true:=by
 simp only [Yl,Bool.and_eq_true,decide_eq_true_eq] at h
 have:=Uo h.1 hi
 simp only [La,Bool.and_eq_true] at this
 exact this.1
theorem Kx {es:List E3} (h:Yl es=true) {i:Nat} (hi:i+1<es.length):ltS (es.getD i e3d).1 (es.getD (i+1) e3d).1=true:=by
 simp only [Yl,Bool.and_eq_true,decide_eq_true_eq] at h
 have:=Uo h.1 hi
 simp only [La,Bool.and_eq_true,Bool.or_eq_true,decide_eq_true_eq] at this
 rcases this.2 with h0 | h1
 ·omega
 simpa using h1
theorem Tg {es:List E3} (h:Yl es=true):∀ {j i:Nat},i<j→j<es.length→ltS (es.getD i e3d).1 (es.getD j e3d).1=true
 | 0,i,hi,_=>by omega
 | j+1,i,hi,hj=>by
  have hn:=Kx h (i:=j) hj
  by_cases e:i=j
  ·rw [e];exact hn
  exact WA (Tg h (j:=j) (i:=i) (by omega) (by omega)) hn

def Yf (es:List E3) (k:ByteArray):Nat:=(es.takeWhile fun e=>ltS e.1 k).length
theorem Mk (es:List E3) (k:ByteArray):Yf es k≤es.length:=by
 unfold Yf
 exact (List.takeWhile_prefix _).length_le
theorem LJ {α:Type} {p:α→Bool} {d:α}:∀ {l:List α} {i:Nat},i<(l.takeWhile p).length→p (l.getD i d)=true
 | [],i,h=>by simp at h
 | x::l,i,h=>by
  by_cases hx:p x=true
  ·rw [List.takeWhile_cons_of_pos hx] at h
   cases i with
   | zero=>simpa using hx
   | succ i=>simpa using LJ (l:=l) (i:=i) (by simpa using h)
  rw [List.takeWhile_cons_of_neg hx] at h
  simp at h
theorem Pa {α:Type} {p:α→Bool} {d:α}:∀ {l:List α},(l.takeWhile p).length<l.length→p (l.getD (l.takeWhile p).length d)=false
 | [],h=>by simp at h
 | x::l,h=>by
  by_cases hx:p x=true
  ·rw [List.takeWhile_cons_of_pos hx] at h ⊢
   simpa using Pa (l:=l) (by simpa using h)
  rw [List.takeWhile_cons_of_neg hx]
  simpa using hx
theorem WG {es:List E3} {k:ByteArray} {i:Nat} (h:i<Yf es k):ltS (es.getD i e3d).1 k=true:=LJ (p:=fun e:E3=>ltS e.1 k) (d:=e3d) h
theorem Uj {es:List E3} {k:ByteArray} (h:Yf es k<es.length):ltS (es.getD (Yf es k) e3d).1 k=false:=Pa (p:=fun e:E3=>ltS e.1 k) (d:=e3d) h
theorem Qd {es:List E3} {k:ByteArray} {n:Nat} (h1:∀ i,i<n→ltS (es.getD i e3d).1 k=true) (hn:n≤es.length) (h2:n<es.length→ltS (es.getD n e3d).1 k=false):Yf es k=n:=by
 by_cases hlt:Yf es k<n
 ·have a:=Uj (k:=k) (show Yf es k<es.length by omega)
  rw [h1 _ hlt] at a
  cases a
 by_cases hgt:n<Yf es k
 ·have a:=WG hgt
  have b:=h2 (by have:=Mk es k;omega)
  rw [a] at b
  cases b
 omega
theorem Lm {es:List E3} (h:Yl es=true) {k:ByteArray} {i:Nat} (hi:Yf es k≤i) (hl:i<es.length):ltS (es.getD i e3d).1 k=false:=by
 by_cases e:i=Yf es k
 ·rw [e];exact Uj (by omega)
 cases hc:ltS (es.getD i e3d).1 k
 ·rfl
 have:=WA (Tg h (i:=Yf es k) (j:=i) (by omega) hl) hc
 rw [Uj (by omega)] at this
 cases this
def isE (es:List E3) (k:ByteArray):Bool:=decide (Yf es k<es.length) && decide ((es.getD (Yf es k) e3d).1=k)
def Vz (es:List E3) (k:ByteArray):E3:=if isE es k then es.getD (Yf es k) e3d else e3d
def XE (es:List E3) (e:E3):List E3:=(es.take (Yf es e.1)++[e])++es.drop (if isE es e.1 then Yf es e.1+1 else Yf es e.1)


def Bb (xs ys:List Int):Bool:=xs.any (fun x=>decide (x ∈ ys))
end Go.Proofs.YtgmhhegckcionaaGreatDoor
