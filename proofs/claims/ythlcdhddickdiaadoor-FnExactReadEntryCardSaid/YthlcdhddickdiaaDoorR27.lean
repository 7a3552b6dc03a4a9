/-
  Joined: EntX, Parse, SlI, ProgM.
-/
import Derived.Test.YthlcdhddickdiaaDoorR26

namespace Go.Proofs.YthlcdhddickdiaaDoor
set_option maxRecDepth 100000
set_option maxHeartbeats 16000000
open Go.RowKit
set_option linter.unusedVariables false
set_option linter.unusedSimpArgs false

theorem riseI_at {zs:List Int} (h:riseI zs=true):∀ i,i<zs.length→(i:Int)≤zs.getD i 0∧itOk (zs.getD i 0)=true
 | 0,hi=>by
  have:=allR_at h hi
  simp only [iStep,Bool.and_eq_true,Bool.or_eq_true,decide_eq_true_eq] at this
  refine ⟨?_,this.1⟩
  have h1:=this.1
  simp only [itOk,decide_eq_true_eq] at h1
  omega
 | i+1,hi=>by
  have h0:=riseI_at h i (by omega)
  have:=allR_at h hi
  simp only [iStep,Bool.and_eq_true,Bool.or_eq_true,decide_eq_true_eq] at this
  refine ⟨?_,this.1⟩
  rcases this.2 with h1 | h1
  ·omega
  ·rw [Nat.add_sub_cancel] at h1
   omega
theorem riseI_len {zs:List Int} (h:riseI zs=true):zs.length≤23:=by
 by_cases h0:zs.length=0
 ·omega
 ·obtain ⟨h1,h2⟩:=riseI_at h (zs.length - 1) (by omega)
  simp only [itOk,decide_eq_true_eq] at h2
  omega
theorem entOk_bugs {e:E3} (h:entOk e=true):e.2.1.length≤30:=by
 simp only [entOk,Bool.and_eq_true,decide_eq_true_eq] at h
 exact h.2.2.2
theorem entOk_foot {e:E3} (h:entOk e=true):e.2.2.length≤23:=by
 simp only [entOk,Bool.and_eq_true,decide_eq_true_eq] at h
 exact riseI_len h.2.2.1


def triples:List Int→List I3
 | a::b::c::r=>(a,b,c)::triples r
 | _=>[]

theorem triples_length:∀ (n:Nat) (zs:List Int),zs.length=3*n→(triples zs).length=n
 | 0,[],_=>rfl
 | 0,_::_,h=>by simp at h
 | n+1,[],h=>by simp at h
 | n+1,[_],h=>by simp at h;omega
 | n+1,[_,_],h=>by simp at h;omega
 | n+1,a::b::c::r,h=>by
  have:=triples_length n r (by simp at h;omega)
  simp [triples,this]
theorem triples_get:∀ (n:Nat) (zs:List Int) (i:Nat),zs.length=3*n→i<n→(triples zs).getD i (0,0,0)=(zs.getD (3*i) 0,zs.getD (3*i+1) 0,zs.getD (3*i+2) 0)
 | 0,_,i,_,h=>by omega
 | n+1,[],i,h,_=>by simp at h
 | n+1,[_],i,h,_=>by simp at h;omega
 | n+1,[_,_],i,h,_=>by simp at h;omega
 | n+1,a::b::c::r,0,_,_=>by simp [triples]
 | n+1,a::b::c::r,i+1,h,hi=>by
  have ih:=triples_get n r i (by simp at h;omega) (by omega)
  rw [triples,List.getD_cons_succ,ih]
  have e0:3*(i+1)=3*i+1+1+1:=by omega
  rw [e0]
  simp [List.getD]

def parse:Nat→List Int→Option (List (List I3))
 | 0,[]=>some []
 | 0,_::_=>none
 | _+1,[]=>none
 | k+1,n::zs=>if (zs.length:Int)<3*n then none else (parse k (zs.drop (3*n.toNat))).map (triples (zs.take (3*n.toNat))::·)

theorem parse_rest {zs:List Int} (h:zs≠[]):parse 0 zs=none:=by
 cases zs with
 | nil=>exact absurd rfl h
 | cons z zs=>rfl

def PState (zs:List Int) (k:Nat) (done:List (List I3)) (rest:List Int):Prop:=parse 3 zs=(parse (3 - k) rest).map (done++·)

theorem PState.fail {zs:List Int} {k:Nat} {done:List (List I3)} {rest:List Int} (h:PState zs k done rest) (hn:parse (3 - k) rest=none):parse 3 zs=none:=by
 rw [h,hn];rfl
theorem PState.empty {zs:List Int} {k:Nat} {done:List (List I3)} (h:PState zs k done []) (hk:k<3):parse 3 zs=none:=by
 refine h.fail ?_
 obtain ⟨j,hj⟩:∃ j,3 - k=j+1:=⟨3 - k - 1,by omega⟩
 rw [hj];rfl
theorem PState.more {zs:List Int} {done:List (List I3)} {rest:List Int} (h:PState zs 3 done rest) (hr:rest≠[]):parse 3 zs=none:=h.fail (parse_rest hr)


theorem slice_lh {w:World} {b off len cap lo hi:Nat} {xs:List Int} (h:Ints .i64 w (some ⟨b,off,none⟩) len cap xs) (h1:lo≤hi) (h2:hi≤len) :
  ∃ a,(∀ W,(Instr.slice 26 (.slice (some ⟨b,off,none⟩) len cap) (some (.int .i64 (lo:Int))) (some (.int .i64 (hi:Int))) none).run Tryd.prog W=.ok (.slice a (hi - lo) (cap - lo)) W)∧Ints .i64 w a (hi - lo) (cap - lo) ((xs.drop lo).take (hi - lo)):=by
 obtain ⟨hl,hlc,hcm,hcase⟩:=h
 have hhc:(hi:Int)≤(cap:Int):=by omega
 have hlh:(lo:Int)≤(hi:Int):=by omega
 by_cases hz:cap - lo=0
 ·refine ⟨some ⟨b,off,none⟩,fun W=>?_,by rw [List.length_take,List.length_drop];omega,by omega,by omega,.inl (by omega)⟩
  go_simp
  omega
 ·refine ⟨some ⟨b,off+lo,none⟩,fun W=>?_,by rw [List.length_take,List.length_drop];omega,by omega,by omega,?_⟩
  ·go_simp
   omega
  ·rcases hcase with h0 | ⟨b',off',he,hb,hc⟩
   ·exact .inl (by omega)
   ·cases he
    refine .inr ⟨b,off+lo,rfl,hb,fun t ht=>?_⟩
    have:=hc (lo+t) (by omega)
    rw [show off+lo+t=off+(lo+t) by omega,this]
    simp [List.getD,ht]
theorem slice_l {w:World} {b off len cap lo:Nat} {xs:List Int} (h:Ints .i64 w (some ⟨b,off,none⟩) len cap xs) (h1:lo≤len) :
  ∃ a,(∀ W,(Instr.slice 26 (.slice (some ⟨b,off,none⟩) len cap) (some (.int .i64 (lo:Int))) none none).run Tryd.prog W=.ok (.slice a (len - lo) (cap - lo)) W)∧Ints .i64 w a (len - lo) (cap - lo) (xs.drop lo):=by
 obtain ⟨hl,hlc,hcm,hcase⟩:=h
 have hlh:(lo:Int)≤(len:Int):=by omega
 by_cases hz:cap - lo=0
 ·refine ⟨some ⟨b,off,none⟩,fun W=>?_,by rw [List.length_drop];omega,by omega,by omega,.inl (by omega)⟩
  go_simp
  omega
 ·refine ⟨some ⟨b,off+lo,none⟩,fun W=>?_,by rw [List.length_drop];omega,by omega,by omega,?_⟩
  ·go_simp
   omega
  ·rcases hcase with h0 | ⟨b',off',he,hb,hc⟩
   ·exact .inl (by omega)
   ·cases he
    refine .inr ⟨b,off+lo,rfl,hb,fun t ht=>?_⟩
    have:=hc (lo+t) (by omega)
    rw [show off+lo+t=off+(lo+t) by omega,this]
    simp [List.getD]


theorem triples_mem:∀ (zs:List Int) (x:I3),x ∈ triples zs→x.1 ∈ zs∧x.2.1 ∈ zs∧x.2.2 ∈ zs
 | [],x,h=>by simp [triples] at h
 | [_],x,h=>by simp [triples] at h
 | [_,_],x,h=>by simp [triples] at h
 | a::b::c::r,x,h=>by
  rw [triples] at h
  rcases List.mem_cons.1 h with rfl | h
  ·simp
  ·obtain ⟨h1,h2,h3⟩:=triples_mem r x h
   simp [h1,h2,h3]
end Go.Proofs.YthlcdhddickdiaaDoor
