/-
  Joined: Conv, Parts.
-/
import Derived.Laws.BytesArg
import Derived.Deep.RegionLaw
import Derived.Laws.OwnMore
import Derived.Test.YtfpopbbmnbehiaaDoorA08

namespace Go.Proofs.YtfpopbbmnbehiaaDoor
set_option maxRecDepth 100000
set_option maxHeartbeats 16000000
open Go.RowKit

theorem info_u8:(Tryd.prog.info? 5).map (fun i=>(i.zero,i.size,i.bytes))=some (some (.int .u8 0),1,1):=by kernel_rfl
abbrev u8s (xs:List Int):List Value:=xs.map (Value.int .u8)

theorem conv_owned {w:World} {base n:Nat} {v:Value} {xs:List Int} (h:w.ownsRow base 5 1 v n (u8s xs)) :
  (convert 113 9 v).run Tryd.prog w=.ok (.string (strOfNums xs)) w:=by
 obtain ⟨hl,h2⟩:=h
 simp at hl
 rcases h2 with ⟨rfl,rfl⟩ | ⟨g,cap,cur,rfl,hg,hh,hn,hc,hs,ht⟩
 ·have:xs=[]:=by simpa using hl
  subst this
  exact run_convert_bytes_nil w 113 5 Tryd.underlying113 Tryd.underlying5 0 0 9 Tryd.underlying9
 ·refine run_convert_bytes_arg w 113 5 Tryd.underlying113 Tryd.underlying5 g 0 n cap xs hl (fun i hi=>?_) 9 Tryd.underlying9
  have hown:w.ownsRow base 5 1 (.slice (some ⟨g,0,none⟩) n cap) n (u8s xs):=⟨by simpa using hl,.inr ⟨g,cap,cur,rfl,hg,hh,hn,hc,hs,ht⟩⟩
  have:=hown.cellAt i (by omega)
  rw [Nat.zero_add,this]
  simp [List.getElem?_eq_getElem (show i<xs.length by omega)]

theorem one_u8 (n:Int):∀ u ∈ [Value.int .u8 n],u.oneCell'=true:=by intro u hu;simp at hu;subst hu;rfl


theorem okFrom_mem {n:Nat}:∀ {xs:List I3} {i:Nat},okFrom n i xs=true→∀ x ∈ xs,okI x=true
 | [],_,_,x,hx=>by cases hx
 | y::ys,i,h,x,hx=>by
  unfold okFrom at h
  simp only [Bool.and_eq_true] at h
  rcases List.mem_cons.1 hx with rfl | hx
  ·exact h.1.1
  ·exact okFrom_mem h.2 x hx
theorem progOk_parts {rows:List (List I3)} (h:progOk rows=true):rows.length=3∧∀ r ∈ rows,r.length≤6∧∀ x ∈ r,okI x=true:=by
 unfold progOk at h
 simp only [Bool.and_eq_true,decide_eq_true_eq,List.all_eq_true] at h
 refine ⟨h.1,fun r hr=>?_⟩
 have:=h.2 r hr
 unfold codeOk at this
 simp only [Bool.and_eq_true,decide_eq_true_eq] at this
 exact ⟨this.1,okFrom_mem this.2⟩
theorem step_append_mine {P:Program} {ops:Array Oper} {o:Oper} {a:Act} {w:World} {K:Act→World→Prop} {Q:Exit→Act→World→Prop} {E:Prop}
  (hg:o.guard=none) (s x:Operand) (t:TypeId) (hop:o.op=Op.call { callee:=Callee.builtin Builtin.append,args:=#[s,x],argTypes:=#[t,t] })
  (base:Nat) (e:TypeId) (i:TypeInfo) (z:Value) (size bytes:Nat) (h1:P.underlying t=some (.slice e)) (h2:P.info? e=some i) (h3:i.zero=some z) (h4:i.size=size) (h5:i.bytes=bytes) (h6:z.cells.size=size) (h7:0<size)
  (v:Value) (n:Nat) (olds:List Value) (hs:a.eval s=v) (hown:w.ownsRow base e size v n olds)
  (ad:Addr) (m c:Nat) (news:List Value) (hx:a.eval x=.slice (some ad) m c) (hn:news.length=m*size) (hc:∀ j u,news[j]?=some u→w.cell? (ad.add j)=some u) (h1c:∀ u ∈ news,u.oneCell'=true)
  (b1:n+m≤maxLen) (b2:(n+m)*bytes≤140737488355328) (hbw:base≤w.heap.size)
  (hK:∀ v' w',w'.ownsRow base e size v' (n+m) (olds++news)→w.grownBy w' v.ownBlock→K (a.put o.dst v') w') :
  if Region.wanted o (yielded ops a.tmps)=true then Oper.wp P o a w K Q else E:=by
 have hw:Region.wanted o (yielded ops a.tmps)=true:=by simp [Region.wanted,hg]
 rw [if_pos hw]
 obtain ⟨v',w',hrun,r1,r2,_⟩:=run_append_own (P:=P) w base t o.type e i z size bytes h1 h2 h3 h4 h5 h6 h7 v n olds hown ad m c news hn hc h1c b1 b2 hbw
 subst hs
 unfold Oper.wp
 simp [execOp,hop,resolve,invoke,builtin,hx,hrun,Result.andThen]
 exact hK v' w' r1 r2
end Go.Proofs.YtfpopbbmnbehiaaDoor
