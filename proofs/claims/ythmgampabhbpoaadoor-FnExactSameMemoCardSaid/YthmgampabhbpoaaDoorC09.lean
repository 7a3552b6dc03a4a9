/-
  Joined: Plain, Conv.
-/
import Derived.Test.YthmgampabhbpoaaDoorProg
import Derived.Deep.RegionHeld3
import Derived.KernelRfl
import Derived.Tactics
import Derived.WalkKit
import Derived.Laws.BytesArg
import Derived.WalkSpells
import Derived.WalkLawsBesides

namespace Go.Proofs.YthmgampabhbpoaaDoor
set_option maxRecDepth 100000
set_option maxHeartbeats 16000000

def pack (n:Nat):List Int:=
 if n<128 then [(n:Int)]
 else if n<16384 then [(n:Int) % 128+128,(n:Int) / 128]
 else if n<2097152 then [(n:Int) % 128+128,(n:Int) / 128 % 128+128,(n:Int) / 16384]
 else if n<268435456 then [(n:Int) % 128+128,(n:Int) / 128 % 128+128,(n:Int) / 16384 % 128+128,(n:Int) / 2097152]
 else [(n:Int) % 128+128,(n:Int) / 128 % 128+128,(n:Int) / 16384 % 128+128,(n:Int) / 2097152 % 128+128,(n:Int) / 268435456]

theorem pack_small {n:Nat} (h:n<128):pack n=[(n:Int)]:=by unfold pack;rw [if_pos h]
theorem pack2 {n:Nat} (h:128≤n) (k:n<16384):pack n=[(n:Int) % 128+128,(n:Int) / 128]:=by
 unfold pack;rw [if_neg (by omega),if_pos k]
theorem pack3 {n:Nat} (h:16384≤n) (k:n<2097152):pack n=[(n:Int) % 128+128,(n:Int) / 128 % 128+128,(n:Int) / 16384]:=by
 unfold pack;rw [if_neg (by omega),if_neg (by omega),if_pos k]
theorem pack4 {n:Nat} (h:2097152≤n) (k:n<268435456):pack n=[(n:Int) % 128+128,(n:Int) / 128 % 128+128,(n:Int) / 16384 % 128+128,(n:Int) / 2097152]:=by
 unfold pack;rw [if_neg (by omega),if_neg (by omega),if_neg (by omega),if_pos k]
theorem pack5 {n:Nat} (h:268435456≤n):pack n=[(n:Int) % 128+128,(n:Int) / 128 % 128+128,(n:Int) / 16384 % 128+128,(n:Int) / 2097152 % 128+128,(n:Int) / 268435456]:=by
 unfold pack;rw [if_neg (by omega),if_neg (by omega),if_neg (by omega),if_neg (by omega)]
theorem pack_step {n:Nat} (h:128≤n) (h2:n<34359738368):pack n=((n:Int) % 128+128)::pack (n / 128):=by
 have hc:((n / 128:Nat):Int)=(n:Int) / 128:=by omega
 by_cases h3:n<16384
 ·rw [pack2 h h3,pack_small (by omega),hc]
 by_cases h4:n<2097152
 ·rw [pack3 (by omega) h4,pack2 (by omega) (by omega),hc]
  simp only [List.cons.injEq,true_and,and_true]
  omega
 by_cases h5:n<268435456
 ·rw [pack4 (by omega) h5,pack3 (by omega) (by omega),hc]
  simp only [List.cons.injEq,true_and,and_true]
  omega
 rw [pack5 (by omega),pack4 (by omega) (by omega),hc]
 simp only [List.cons.injEq,true_and,and_true]
 omega
theorem pack_len (n:Nat):1≤(pack n).length∧(pack n).length≤5:=by
 unfold pack
 repeat' split
 all_goals simp
theorem pack_byte (n:Nat) (h2:n<34359738368):∀ x ∈ pack n,0≤x∧x≤255:=by
 unfold pack
 repeat' split
 all_goals (intro x hx;simp at hx;omega)

theorem str_append (xs ys:List Int):strOfNums (xs++ys)=strOfNums xs++strOfNums ys:=by
 apply ByteArray.ext
 simp [strOfNums]

open Go.RowKit

theorem info_u8:(Tryd.prog.info? 5).map (fun i=>(i.zero,i.size,i.bytes))=some (some (.int .u8 0),1,1):=by kernel_rfl
abbrev u8s (xs:List Int):List Value:=xs.map (Value.int .u8)

theorem conv_owned {w:World} {base n:Nat} {v:Value} {xs:List Int} (h:w.ownsRow base 5 1 v n (u8s xs)) :
  (convert 128 9 v).run Tryd.prog w=.ok (.string (strOfNums xs)) w:=by
 obtain ⟨hl,h2⟩:=h
 simp at hl
 rcases h2 with ⟨rfl,rfl⟩ | ⟨g,cap,cur,rfl,hg,hh,hn,hc,hs,ht⟩
 ·have:xs=[]:=by simpa using hl
  subst this
  exact run_convert_bytes_nil w 128 5 Tryd.underlying128 Tryd.underlying5 0 0 9 Tryd.underlying9
 ·refine run_convert_bytes_arg w 128 5 Tryd.underlying128 Tryd.underlying5 g 0 n cap xs hl (fun i hi=>?_) 9 Tryd.underlying9
  have hown:w.ownsRow base 5 1 (.slice (some ⟨g,0,none⟩) n cap) n (u8s xs):=⟨by simpa using hl,.inr ⟨g,cap,cur,rfl,hg,hh,hn,hc,hs,ht⟩⟩
  have:=hown.cellAt i (by omega)
  rw [Nat.zero_add,this]
  simp [List.getElem?_eq_getElem (show i<xs.length by omega)]

theorem one_u8 (n:Int):∀ u ∈ [Value.int .u8 n],u.oneCell'=true:=by intro u hu;simp at hu;subst hu;rfl
end Go.Proofs.YthmgampabhbpoaaDoor
