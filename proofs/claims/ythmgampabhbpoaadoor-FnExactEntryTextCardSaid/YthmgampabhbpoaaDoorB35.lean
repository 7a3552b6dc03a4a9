/-
  Joined: Plain, Parts.
-/
import Derived.Laws.BytesArg
import Derived.Handy
import Derived.OwnWalk
import Derived.Shelf.Abstract
import Derived.Deep.RegionLaw
import Derived.Laws.OwnMore
import Derived.Test.YthmgampabhbpoaaDoorB02

namespace Go.Proofs.YthmgampabhbpoaaDoor
set_option maxRecDepth 100000
set_option maxHeartbeats 16000000

def pack (n:Nat):List Int:=
 if n<128 then [(n:Int)]
 else if n<16384 then [(n:Int) % 128+128,(n:Int) / 128]
 else if n<2097152 then [(n:Int) % 128+128,(n:Int) / 128 % 128+128,(n:Int) / 16384]
 else if n<268435456 then [(n:Int) % 128+128,(n:Int) / 128 % 128+128,(n:Int) / 16384 % 128+128,(n:Int) / 2097152]
 else [(n:Int) % 128+128,(n:Int) / 128 % 128+128,(n:Int) / 16384 % 128+128,(n:Int) / 2097152 % 128+128,(n:Int) / 268435456]

theorem pack_small {n:Nat} (h:n<128):pack n=[(n:Int)]:=by unfold pack;rw [if_pos h]
theorem pack2 {n:Nat} (h:128≤n) (k:n<16384):pack n=[(n:Int) % 128+128,(n:Int) / 128]:=by
 unfold pack;rw [if_neg (by omega),if_pos k]
theorem pack3 {n:Nat} (h:16384≤n) (k:n<2097152):pack n=[(n:Int) % 128+128,(n:Int) / 128 % 128+128,(n:Int) / 16384]:=by
 unfold pack;rw [if_neg (by omega),if_neg (by omega),if_pos k]
theorem pack4 {n:Nat} (h:2097152≤n) (k:n<268435456):pack n=[(n:Int) % 128+128,(n:Int) / 128 % 128+128,(n:Int) / 16384 % 128+128,(n:Int) / 2097152]:=by
 unfold pack;rw [if_neg (by omega),if_neg (by omega),if_neg (by omega),if_pos k]
theorem pack5 {n:Nat} (h:268435456≤n):pack n=[(n:Int) % 128+128,(n:Int) / 128 % 128+128,(n:Int) / 16384 % 128+128,(n:Int) / 2097152 % 128+128,(n:Int) / 268435456]:=by
 unfold pack;rw [if_neg (by omega),if_neg (by omega),if_neg (by omega),if_neg (by omega)]
theorem pack_step {n:Nat} (h:128≤n) (h2:n<34359738368):pack n=((n:Int) % 128+128)::pack (n / 128):=by
 have hc:((n / 128:Nat):Int)=(n:Int) / 128:=by omega
 by_cases h3:n<16384
 ·rw [pack2 h h3,pack_small (by omega),hc]
 by_cases h4:n<2097152
 ·rw [pack3 (by omega) h4,pack2 (by omega) (by omega),hc]
  simp only [List.cons.injEq,true_and,and_true]
  omega
 by_cases h5:n<268435456
 ·rw [pack4 (by omega) h5,pack3 (by omega) (by omega),hc]
  simp only [List.cons.injEq,true_and,and_true]
  omega
 rw [pack5 (by omega),pack4 (by omega) (by omega),hc]
 simp only [List.cons.injEq,true_and,and_true]
 omega
theorem pack_len (n:Nat):1≤(pack n).length∧(pack n).length≤5:=by
 unfold pack
 repeat' split
 all_goals simp
theorem str_append (xs ys:List Int):strOfNums (xs++ys)=strOfNums xs++strOfNums ys:=by
 apply ByteArray.ext
 simp [strOfNums]

open Go.RowKit

def rowNums (xs:List I3):List Int:=xs.flatMap fun x=>[x.1,x.2.1,x.2.2]
theorem rowNums_length (xs:List I3):(rowNums xs).length=xs.length*3:=by
 induction xs with
 | nil=>rfl
 | cons x xs ih=>simp [rowNums] at *;omega
theorem rowNums_step {xs:List I3} {k:Nat} (hk:k<xs.length):rowNums (xs.take (k+1))=rowNums (xs.take k)++[(xs.getD k (0,0,0)).1,(xs.getD k (0,0,0)).2.1,(xs.getD k (0,0,0)).2.2]:=by
 unfold rowNums
 rw [List.take_succ_eq_append_getElem hk,List.flatMap_append]
 simp [List.getD,hk]
end Go.Proofs.YthmgampabhbpoaaDoor
