/-
  Joined: UnProgS.
-/
import Derived.Test.YtdopgkbegjfhjaaGreatDoorL15

namespace Go.Proofs.YtdopgkbegjfhjaaGreatDoor
set_option maxRecDepth 100000
set_option maxHeartbeats 16000000
open Go.RowKit

theorem RowsOwn.push {w:World} {B k s0:Nat} {vs:List Value} {sv:Value} {done:List (List I3)} {r:List I3} (h:RowsOwn w B k vs done) (hv:vs.length=k) (hd:done.length=k) (hlow:∀ t x,t<k→(vs.getD t undef).ownBlock=some x→x<s0)
  (hn:w.ownsRow s0 109 3 sv r.length (flat r)) (hB:B≤s0):RowsOwn w B (k+1) (vs++[sv]) (done++[r]):=by
 have hold:∀ t,t<k→(done++[r]).getD t []=done.getD t []:=fun t ht=>by simp [List.getD,List.getElem?_append_left (show t<done.length by omega)]
 have hnew:(done++[r]).getD k []=r:=by subst hd;simp [List.getD]
 have hvold:∀ t,t<k→(vs++[sv]).getD t undef=vs.getD t undef:=fun t ht=>by simp [List.getD,List.getElem?_append_left (show t<vs.length by omega)]
 have hvnew:(vs++[sv]).getD k undef=sv:=by subst hv;simp [List.getD]
 refine ⟨fun t ht=>?_,fun t t' ht ht' hne=>?_⟩
 ·by_cases e:t=k
  ·subst e
   rw [hnew,hvnew]
   exact owns_lower hn hB
  ·rw [hold t (by omega),hvold t (by omega)]
   exact h.1 t (by omega)
 ·by_cases e:t=k
  ·subst e
   rw [hvnew,hvold t' (by omega)]
   rcases hb:sv.ownBlock with _ | x
   ·exact .inl rfl
   ·refine .inr fun h'=>?_
    have h1:=(hn.lt x hb).1
    have h2:=hlow t' x (by omega) h'.symm
    omega
  ·rw [hvold t (by omega)]
   by_cases e':t'=k
   ·subst e'
    rw [hvnew]
    rcases hb:(vs.getD t undef).ownBlock with _ | x
    ·exact .inl rfl
    ·refine .inr fun h'=>?_
     have h1:=(hn.lt x h'.symm).1
     have h2:=hlow t x (by omega) hb
     omega
   ·rw [hvold t' (by omega)]
    exact h.2 t t' (by omega) (by omega) hne
theorem own_dr {w:World} {B e k n:Nat} {v:Value} {cs:List Value} (h:w.ownsRow B e k v n cs):w.drew.ownsRow B e k v n cs:=h
theorem three_dr (w:World) (x y z:Value) (t:TypeId):∀ j u,[x,y,z][j]?=some u→(w.alloc (.cells #[x,y,z] t)).drew.cell? ((⟨w.heap.size,0,none⟩:Addr).add j)=some u:=cell_three_new w x y z t
theorem below_app3 {B e k n:Nat} {wr w3:World} {o:Obj} {v:Value} {cs:List Value} (hb:B≤wr.heap.size) (hr:wr.ownsRow B e k v n cs) (hg:(wr.alloc o).drew.grownBy w3 v.ownBlock):Below B wr w3:=
 ((by go_grown:Below wr.heap.size wr (wr.alloc o).drew).mono hb).grown hg (by simp;omega) (fun j hj=>(hr.lt _ hj).1)
theorem cells_lo3 {B:Nat} {wr w3:World} (h:Below B wr w3) {p:Addr} {v:Value} (hp:p.block<B) (hc:wr.cell? p=some v):w3.cell? p=some v:=by rw [h.cell hp];exact hc
end Go.Proofs.YtdopgkbegjfhjaaGreatDoor
