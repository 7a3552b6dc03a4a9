/-
  Joined: FindS, SizeB, Vars.
-/
import Derived.ProofKit
import Derived.WalkSmall
import Derived.ChangeOld
import Derived.Test.YtfpopbbmnbehiaaGreatDoorC09

namespace Go.Proofs.YtfpopbbmnbehiaaGreatDoor
set_option maxRecDepth 100000
set_option maxHeartbeats 16000000
open Go.RowKit
set_option linter.unusedVariables false
set_option linter.unusedSimpArgs false

theorem beq_tf {x t:ByteArray} (h:¬ x=t):(x.toList == t.toList)=false:=by
 rw [beq_eq_false_iff_ne]
 intro e
 rw [ByteArray.toList_eq,ByteArray.toList_eq] at e
 exact h (ByteArray.ext (Array.ext' e))
def findT (ts:List ByteArray) (t:ByteArray):Nat→Int
 | 0=>-1
 | n+1=>if ts.getD n ByteArray.empty=t then (n:Int) else findT ts t n
theorem findT_iff {ts:List ByteArray} {t:ByteArray}:∀ n,n≤ts.length→(0≤findT ts t n↔t ∈ ts.take n)
 | 0,_=>by simp [findT]
 | n+1,h=>by
  have ih:=findT_iff (ts:=ts) (t:=t) n (by omega)
  have e:ts.take (n+1)=ts.take n++[ts.getD n ByteArray.empty]:=by
   rw [List.take_add_one,List.getElem?_eq_getElem (show n<ts.length by omega)]
   simp [List.getD,show n<ts.length by omega]
  rw [e,List.mem_append,List.mem_singleton]
  unfold findT
  by_cases h1:ts.getD n ByteArray.empty=t
  ·rw [if_pos h1]
   exact ⟨fun _=>.inr h1.symm,fun _=>by omega⟩
  ·rw [if_neg h1,ih]
   exact ⟨.inl,fun h2=>h2.elim id (fun h3=>absurd h3.symm h1)⟩

theorem l06Find_is (a:Option Addr) (n c:Nat) (ts:List ByteArray) (t:ByteArray) (w:World) (h:Strs w a n c ts) (hn:n≤1000000) :
  Calls Tryz.prog 103 #[.slice a n c,.string t] w fun e w'=>e=.returned (.int .i64 (findT ts t n))∧w=w':=by
 obtain ⟨hl,hlc,hcm,hcase⟩:=h
 obtain ⟨f,hf⟩:∃ f,f=findT ts t n:=⟨_,rfl⟩
 have HF:Hid (f=findT ts t n):=hf
 rw [← hf]
 clear hf hl hcm
 go_enter Tryz.func103,Tryz.ntmps103
 go_wp2_with fail
 go_loopw [5] (fun si wr=>∃ ii:Nat,ii≤n∧si=.int .i64 ((ii:Int) - 1)∧Hid (f=findT ts t ii)∧w=wr) (fun si _=>(intOf si+1).toNat)
 case atStart=>exact ⟨n,Nat.le_refl _,rfl,HF,rfl⟩
 case round =>
  obtain ⟨ii,hii,rfl,HG,rfl⟩:=hrel
  rcases Nat.eq_zero_or_pos ii with rfl | hpos
  ·have HE:Hid (f=-1):=HG.out
   go_wp2
   go_ret
   exact ⟨by rw [HE.out];rfl,rfl⟩
  ·obtain ⟨i,rfl⟩:∃ i,ii=i+1:=⟨ii - 1,by omega⟩
   have hi0:((i+1:Nat):Int) - 1=(i:Int):=by omega
   rw [hi0]
   have hi9:(0:Int)≤(i:Int):=by omega
   have hin:(i:Int)<(n:Int):=by omega
   rcases hcase with h0 | ⟨b,off,rfl,hb,hcell⟩
   ·omega
   have hc:=hcell i (by omega)
   have HG2:Hid (f=if ts.getD i ByteArray.empty=t then (i:Int) else findT ts t i):=HG.out
   clear hcell HG
   generalize ts.getD i ByteArray.empty=x at *
   by_cases hx:x=t
   ·have hxx:(x.toList == t.toList)=true:=by rw [hx];simp
    have HE:Hid (f=i):=by rw [Hid,HG2.out,if_pos hx]
    clear HG2 hx
    go_wp2
    go_ret
    exact ⟨by rw [HE.out];rfl,rfl⟩
   ·have hxx:(x.toList == t.toList)=false:=beq_tf hx
    have HE:Hid (f=findT ts t i):=by rw [Hid,HG2.out,if_neg hx]
    clear HG2 hx
    go_wp2
    go_roundw
    case rel=>exact ⟨i,by omega,by go_num,HE,by first | rfl | trivial⟩
    case measure=>simp [intOf]<;>omega


theorem lessAll_each:∀ (rows:List (List I3)) (left:Int),0≤lessAll left rows→0≤left→∀ r ∈ rows,(r.length:Int)≤left
 | [],_,_,_,r,hr=>by cases hr
 | x::xs,left,h,h0,r,hr=>by
  unfold lessAll at h
  split at h
  ·omega
  ·rcases List.mem_cons.1 hr with rfl | hr
   ·omega
   ·have:=lessAll_each xs (left - x.length) h (by omega) r hr
    omega

theorem getD_length_le {rows:List (List I3)} {n:Nat} (h:∀ r ∈ rows,r.length≤n) (t:Nat):(rows.getD t []).length≤n:=by
 by_cases ht:t<rows.length
 ·have:rows.getD t []=rows[t]:=by simp [List.getD,ht]
  rw [this]
  exact h _ (List.getElem_mem ht)
 ·have:rows.getD t []=[]:=by simp [List.getD,List.getElem?_eq_none (Nat.le_of_not_lt ht)]
  rw [this]
  exact Nat.zero_le _

theorem size_bounds {rows:List (List I3)} {left:Int} (hm:left≤1048576) (h:0≤sizeLeft left rows) (h0:0≤left):rows.length≤1048576∧∀ t,(rows.getD t []).length≤1048576:=by
 unfold sizeLeft at h
 split at h
 ·omega
 ·refine ⟨by omega,fun t=>getD_length_le (fun r hr=>?_) t⟩
  have:=lessAll_each rows _ h (by omega) r hr
  omega


def varsFit (P:Program) (ns:List String):Bool:=ns.all fun n =>
 match P.globalNamed n with
 | some g=>match (P.globals[g]?).map (·.type) with
  | some t=>P.readableRec t && decide (t<P.types.size)
  | none=>false
 | none=>false

theorem var?_lt {P:Program} {W:World} {n:String} {g:Nat} {cs:Array Value} (hg:P.globalNamed n=some g) (hv:W.var? P n=some cs):g<W.heap.size:=by
 rcases Nat.lt_or_ge g W.heap.size with h | h
 ·exact h
 ·unfold World.var? at hv
  simp [hg,Array.getElem?_eq_none h] at hv

theorem vars_below {H:Type} {enc:TypeId × Value→H} {P:Program} {W W':World} (hl:laidOutB P=true) (bel:Below W.heap.size W W') :
  ∀ {ns:List String} {gs:List (DataW H)} {ps:List MemPlace},varsFit P ns=true→DataW.TrodVars enc P W (fun _=>true) ns gs ps→DataW.TrodVars enc P W' (fun b=>decide (b<W.heap.size)) ns gs ps
 | [],[],ps,_,h=>h
 | [],_::_,_,_,h=>by cases h
 | _::_,[],_,_,h=>by cases h
 | n::ns,d::ds,ps,hf,h=>by
  obtain ⟨g,t,cs,fuel,p,q,hg,ht,hv,hd,hr,e⟩:=h
  simp only [varsFit,List.all_cons,Bool.and_eq_true] at hf
  obtain ⟨hf1,hf2⟩:=hf
  rw [hg] at hf1
  simp only [ht,Bool.and_eq_true,decide_eq_true_eq] at hf1
  obtain ⟨fuel',hd'⟩:=Below.trod hl hf1.1 hf1.2 (v:=.agg cs) (⟨fuel,by simpa [Value.cells] using hd⟩:DataW.Trod enc P W 0 (fun _=>true) true t (.agg cs) d p) bel (DataW.trod_lt fuel _ _ _ hd)
  exact ⟨g,t,cs,fuel',p,q,hg,ht,var?_below bel hg (var?_lt hg hv) hv,by simpa [Value.cells] using hd',vars_below hl bel hf2 hr,e⟩

theorem vars_len {H:Type} {enc:TypeId × Value→H} {P:Program} {W:World} {spare:Nat→Bool}:∀ {ns:List String} {gs:List (DataW H)} {ps:List MemPlace},DataW.TrodVars enc P W spare ns gs ps→gs.length=ns.length
 | [],[],_,_=>rfl
 | [],_::_,_,h=>by cases h
 | _::_,[],_,h=>by cases h
 | _::_,_::_,_,h=>by
  obtain ⟨_,_,_,_,_,_,_,_,_,_,hr,_⟩:=h
  simp [vars_len hr]
end Go.Proofs.YtfpopbbmnbehiaaGreatDoor
