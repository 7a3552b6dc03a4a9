/-
  Joined: EntX.
-/
import Derived.Test.YthlcdhddickdiaaDoorE39

namespace Go.Proofs.YthlcdhddickdiaaDoor
set_option maxRecDepth 100000
set_option maxHeartbeats 16000000
open Go.RowKit
set_option linter.unusedVariables false
set_option linter.unusedSimpArgs false

theorem getD9 {es:List E3} {t:Nat} (h:t<es.length):es.getD t e3d=es[t]:=by simp [List.getD,List.getElem?_eq_getElem h]
theorem memOk_iff {es:List E3}:memOk es=true↔(∀ e ∈ es,entOk e=true)∧es.Pairwise (fun a b=>ltS a.1 b.1=true)∧es.length≤2000:=by
 constructor
 ·intro h
  refine ⟨fun e he=>?_,?_,memOk_len h⟩
  ·obtain ⟨t,ht,rfl⟩:=List.getElem_of_mem he
   rw [← getD9 ht]
   exact memOk_ent h ht
  ·rw [List.pairwise_iff_getElem]
   intro i j hi hj hij
   rw [← getD9 hi,← getD9 hj]
   exact memOk_lt h hij hj
 ·rintro ⟨h1,h2,h3⟩
  simp only [memOk,Bool.and_eq_true,decide_eq_true_eq]
  refine ⟨allR_true fun k hk=>?_,h3⟩
  simp only [mStep,Bool.and_eq_true,Bool.or_eq_true,decide_eq_true_eq]
  refine ⟨?_,?_⟩
  ·rw [getD9 hk]
   exact h1 _ (List.getElem_mem _)
  ·by_cases h0:k=0
   ·exact .inl h0
   ·right
    rw [getD9 hk,getD9 (show k - 1<es.length by omega)]
    exact List.pairwise_iff_getElem.1 h2 (k - 1) k (by omega) hk (by omega)
theorem isE_at {es:List E3} (h:memOk es=true) {t:Nat} (ht:t<es.length):plcE es (es.getD t e3d).1=t∧isE es (es.getD t e3d).1=true:=by
 have hp:plcE es (es.getD t e3d).1=t:=plcE_of (fun i hi=>memOk_lt h hi ht) (by omega) (fun _=>ltS_irrefl _)
 refine ⟨hp,?_⟩
 rw [isE,hp,decide_eq_true ht,decide_eq_true rfl]
 rfl
theorem isE_iff {es:List E3} (h:memOk es=true) {k:ByteArray}:isE es k=true↔∃ e ∈ es,e.1=k:=by
 constructor
 ·intro hi
  simp only [isE,Bool.and_eq_true,decide_eq_true_eq] at hi
  refine ⟨es.getD (plcE es k) e3d,?_,hi.2⟩
  rw [getD9 hi.1]
  exact List.getElem_mem _
 ·rintro ⟨e,he,rfl⟩
  obtain ⟨t,ht,rfl⟩:=List.getElem_of_mem he
  rw [← getD9 ht]
  exact (isE_at h ht).2
theorem mem_take9 {es:List E3} {n:Nat} {e:E3} (h:e ∈ es.take n):∃ t,t<n∧t<es.length∧e=es.getD t e3d:=by
 obtain ⟨t,ht,rfl⟩:=List.getElem_of_mem h
 rw [List.length_take] at ht
 refine ⟨t,by omega,by omega,?_⟩
 rw [getD9 (by omega)]
 simp
theorem mem_drop9 {es:List E3} {n:Nat} {e:E3} (h:e ∈ es.drop n):∃ t,n≤t∧t<es.length∧e=es.getD t e3d:=by
 obtain ⟨t,ht,rfl⟩:=List.getElem_of_mem h
 rw [List.length_drop] at ht
 refine ⟨n+t,by omega,by omega,?_⟩
 rw [getD9 (by omega)]
 simp
theorem putE_len {es:List E3} {e:E3}:(putE es e).length=if isE es e.1 then es.length else es.length+1:=by
 have h1:=plcE_le es e.1
 unfold putE
 rw [List.length_append,List.length_append,List.length_take,List.length_singleton,List.length_drop]
 cases hc:isE es e.1
 ·simp
  omega
 ·have:plcE es e.1<es.length:=by
   simp only [isE,Bool.and_eq_true,decide_eq_true_eq] at hc
   exact hc.1
  simp
  omega
theorem putE_behind {es:List E3} (h:memOk es=true) {k:ByteArray} {t:Nat} (h1:(if isE es k then plcE es k+1 else plcE es k)≤t) (ht:t<es.length):ltS k (es.getD t e3d).1=true:=by
 cases hc:isE es k
 ·rw [hc] at h1
  simp at h1
  cases hk:ltS k (es.getD t e3d).1
  ·have:=ltS_total (plcE_behind h h1 ht) hk
   have hi:=(isE_iff h (k:=k)).2 ⟨es.getD t e3d,by rw [getD9 ht];exact List.getElem_mem _,this⟩
   rw [hc] at hi
   cases hi
  ·rfl
 ·rw [hc] at h1
  simp at h1
  simp only [isE,Bool.and_eq_true,decide_eq_true_eq] at hc
  have:=memOk_lt h (i:=plcE es k) (j:=t) (by omega) ht
  rw [hc.2] at this
  exact this
theorem putE_ok {es:List E3} {e:E3} (h:memOk es=true) (he:entOk e=true) (hr:isE es e.1=true∨es.length<2000):memOk (putE es e)=true:=by
 have h9:=memOk_iff.1 h
 refine memOk_iff.2 ⟨fun x hx=>?_,?_,?_⟩
 ·unfold putE at hx
  simp only [List.mem_append,List.mem_singleton] at hx
  rcases hx with (hx | rfl) | hx
  ·exact h9.1 x (List.mem_of_mem_take hx)
  ·exact he
  ·exact h9.1 x (List.mem_of_mem_drop hx)
 ·unfold putE
  rw [List.pairwise_append,List.pairwise_append]
  refine ⟨⟨h9.2.1.sublist (List.take_sublist _ _),by simp,?_⟩,h9.2.1.sublist (List.drop_sublist _ _),?_⟩
  ·intro a ha b hb
   simp only [List.mem_singleton] at hb
   subst hb
   obtain ⟨t,h1,h2,rfl⟩:=mem_take9 ha
   exact plcE_ahead h1
  ·intro a ha b hb
   obtain ⟨t,h1,h2,rfl⟩:=mem_drop9 hb
   have hk:=putE_behind h h1 h2
   simp only [List.mem_append,List.mem_singleton] at ha
   rcases ha with ha | rfl
   ·obtain ⟨t',h3,h4,rfl⟩:=mem_take9 ha
    exact ltS_trans (plcE_ahead h3) hk
   ·exact hk
 ·rw [putE_len]
  have:=memOk_len h
  split
  ·exact this
  ·rename_i hn
   rcases hr with hr | hr
   ·exact absurd hr hn
   ·omega
theorem riseI_at {zs:List Int} (h:riseI zs=true):∀ i,i<zs.length→(i:Int)≤zs.getD i 0∧itOk (zs.getD i 0)=true
 | 0,hi=>by
  have:=allR_at h hi
  simp only [iStep,Bool.and_eq_true,Bool.or_eq_true,decide_eq_true_eq] at this
  refine ⟨?_,this.1⟩
  have h1:=this.1
  simp only [itOk,decide_eq_true_eq] at h1
  omega
 | i+1,hi=>by
  have h0:=riseI_at h i (by omega)
  have:=allR_at h hi
  simp only [iStep,Bool.and_eq_true,Bool.or_eq_true,decide_eq_true_eq] at this
  refine ⟨?_,this.1⟩
  rcases this.2 with h1 | h1
  ·omega
  ·rw [Nat.add_sub_cancel] at h1
   omega
theorem riseI_len {zs:List Int} (h:riseI zs=true):zs.length≤23:=by
 by_cases h0:zs.length=0
 ·omega
 ·obtain ⟨h1,h2⟩:=riseI_at h (zs.length - 1) (by omega)
  simp only [itOk,decide_eq_true_eq] at h2
  omega
theorem entOk_bugs {e:E3} (h:entOk e=true):e.2.1.length≤30:=by
 simp only [entOk,Bool.and_eq_true,decide_eq_true_eq] at h
 exact h.2.2.2
theorem entOk_foot {e:E3} (h:entOk e=true):e.2.2.length≤23:=by
 simp only [entOk,Bool.and_eq_true,decide_eq_true_eq] at h
 exact riseI_len h.2.2.1
theorem entOk_key {e:E3} (h:entOk e=true):e.1.size=15:=by
 simp only [entOk,keyOk9,Bool.and_eq_true,decide_eq_true_eq] at h
 exact h.1.1
def keepE (es:List E3) (ch:List Int):List E3:=es.filter fun e=>!tchB e.2.2 ch
end Go.Proofs.YthlcdhddickdiaaDoor
