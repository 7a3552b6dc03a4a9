/-
  Joined: StrS, VmDraw.
-/
import Derived.Test.YtfpopbbmnbehiaaDoorA19
import Derived.Test.YtfpopbbmnbehiaaDoorA27

namespace Go.Proofs.YtfpopbbmnbehiaaDoor
set_option maxRecDepth 100000
set_option maxHeartbeats 16000000
open Go.RowKit

def Strs (w:World) (a:Option Addr) (len cap:Nat) (ts:List ByteArray):Prop:=
 ts.length=len∧len≤cap∧cap≤maxLen ∧
 (len=0∨∃ b off,a=some ⟨b,off,none⟩∧b<w.heap.size∧∀ t,t<len→w.cell? ⟨b,off+t,none⟩=some (.string (ts.getD t ByteArray.empty)))

theorem Strs.below {w w':World} {a:Option Addr} {len cap:Nat} {ts:List ByteArray} (h:Strs w a len cap ts) (hb:Below w.heap.size w w'):Strs w' a len cap ts:=by
 obtain ⟨h1,h2,h3,h4⟩:=h
 refine ⟨h1,h2,h3,?_⟩
 rcases h4 with h4 | ⟨b,off,ha,hlt,hc⟩
 ·exact .inl h4
 ·exact .inr ⟨b,off,ha,by have:=hb.size;omega,fun t ht=>by rw [hb.cell (p:=⟨b,off+t,none⟩) hlt];exact hc t ht⟩

theorem Strs.below_base {w w':World} {a:Option Addr} {len cap base:Nat} {ts:List ByteArray} (h:Strs w a len cap ts) (hlo:∀ x,a=some x→len≠0→x.block<base) (hb:Below base w w'):Strs w' a len cap ts:=by
 obtain ⟨h1,h2,h3,h4⟩:=h
 refine ⟨h1,h2,h3,?_⟩
 rcases h4 with h4 | ⟨b,off,ha,hlt,hc⟩
 ·exact .inl h4
 ·by_cases h0:len=0
  ·exact .inl h0
  have hbl:b<base:=hlo _ ha h0
  exact .inr ⟨b,off,ha,by have:=hb.size;omega,fun t ht=>by rw [hb.cell (p:=⟨b,off+t,none⟩) hbl];exact hc t ht⟩

def OwnT (base:Nat) (w:World) (a:Option Addr) (n cap:Nat) (ts:List ByteArray):Prop:=
 ts.length=n∧n≤cap∧cap≤maxLen∧(n=0∨∃ g,a=some ⟨g,0,none⟩∧w.ownsRow base 9 1 (.slice (some ⟨g,0,none⟩) n cap) n (ts.map Value.string))

theorem OwnT.strs {base:Nat} {w:World} {a:Option Addr} {n cap:Nat} {ts:List ByteArray} (h:OwnT base w a n cap ts):Strs w a n cap ts:=by
 obtain ⟨h1,h2,h3,h4⟩:=h
 refine ⟨h1,h2,h3,?_⟩
 rcases h4 with h4 | ⟨g,ha,h4⟩
 ·exact .inl h4
 ·refine .inr ⟨g,0,ha,(h4.lt g rfl).2,fun t ht=>?_⟩
  have:=h4.cellAt t (by simp;omega)
  rw [Nat.zero_add,this]
  simp [List.getElem?_eq_getElem (show t<ts.length by omega)]

theorem OwnT.of_owns {base:Nat} {w:World} {v:Value} {n:Nat} {ts:List ByteArray} (h:w.ownsRow base 9 1 v n (ts.map Value.string)):∃ a cap,v=.slice a n cap∧OwnT base w a n cap ts:=by
 have hl:ts.length=n:=by simpa using h.1
 rcases h.2 with ⟨h0,hn⟩ | ⟨g',cap',cur,hv,_,_,hn,hcap,_,_⟩
 ·subst hn
  exact ⟨none,0,h0,hl,Nat.le_refl _,by unfold maxLen;omega,.inl rfl⟩
 ·subst hv
  exact ⟨some ⟨g',0,none⟩,cap',rfl,hl,hn,hcap,.inr ⟨g',rfl,h⟩⟩

theorem OwnT.kept {base:Nat} {w w':World} {a:Option Addr} {n cap:Nat} {ts:List ByteArray} (h:OwnT base w a n cap ts) (hb:Below w.heap.size w w'):OwnT base w' a n cap ts:=by
 obtain ⟨h1,h2,h3,h4⟩:=h
 refine ⟨h1,h2,h3,?_⟩
 rcases h4 with h4 | ⟨g,ha,h4⟩
 ·exact .inl h4
 ·refine .inr ⟨g,ha,h4.1,?_⟩
  have hlt:=(h4.lt g rfl).2
  rcases h4.2 with h0 | ⟨g',cap',cur,hv,hg,hh,hr⟩
  ·exact .inl h0
  ·cases hv
   exact .inr ⟨g,cap,cur,rfl,hg,by rw [hb.block _ hlt];exact hh,hr⟩

theorem OwnT.block {base:Nat} {w:World} {a:Option Addr} {n cap:Nat} {ts:List ByteArray} (h:OwnT base w a n cap ts):∀ x,a=some x→n≠0→x.block<w.heap.size:=by
 intro x hx hn
 rcases h.2.2.2 with h0 | ⟨g,e,ho⟩
 ·exact absurd h0 hn
 ·rw [e] at hx
  cases hx
  exact (ho.lt g rfl).2

theorem eqStringS_same (a a':Option Addr) (len cap cap':Nat) (ts:List ByteArray) (w:World) (h:Strs w a len cap ts) (h':Strs w a' len cap' ts) :
  Calls Tryd.prog 11 #[.slice a len cap,.slice a' len cap'] w fun e w'=>e=.returned (.bool true)∧∃ d,w'=w.drewN d:=by
 obtain ⟨hl,hlc,hcm,hcase⟩:=h
 obtain ⟨_,hlc',hcm',hcase'⟩:=h'
 unfold maxLen at hcm hcm'
 have hne:((len:Int) != (len:Int))=false:=by simp
 by_cases h0:len=0
 ·subst h0
  go_enter Tryd.func11,Tryd.ntmps11
  go_wp2
  refine wp_loop_rounds 1 ?_
  rw [rounds_succ]
  go_wp2
  go_ret
  exact ⟨rfl,0,rfl⟩
 ·rcases hcase with h0' | ⟨b,off,rfl,hblt,hcell⟩
  ·exact absurd h0' h0
  rcases hcase' with h0' | ⟨b',off',rfl,hblt',hcell'⟩
  ·exact absurd h0' h0
  go_enter Tryd.func11,Tryd.ntmps11
  go_wp2
  go_loopw [5] (fun si wr=>∃ k d:Nat,k≤len∧si=.int .i64 k∧wr=w.drewN d) (fun si _=>len - (intOf si).toNat)
  case atStart=>exact ⟨0,0,by omega,rfl,rfl⟩
  case round =>
   obtain ⟨k,d,hk,rfl,rfl⟩:=hrel
   by_cases hlt:k<len
   ·have hc:=hcell k hlt
    have hc':=hcell' k hlt
    have hlt':(k:Int)<(len:Int):=by omega
    generalize ts.getD k ByteArray.empty=x at hc hc'
    have hxx:(x.toList != x.toList)=false:=by simp
    have hxy:(x.toList == x.toList)=true:=by simp
    clear hcell hcell'
    go_wp2
    go_quiet (fail)
    go_wp2
    go_roundw
    case rel=>exact ⟨k+1,_,by omega,by go_num,rfl⟩
    case measure=>simp [intOf];omega
   ·go_wp2
    go_ret
    exact ⟨rfl,d,rfl⟩

set_option linter.unusedVariables false
set_option linter.unusedSimpArgs false

theorem zero_shape:shapeOk zeroV=true:=by decide
theorem step_store_blkD {P:Program} {ops:Array Oper} {o:Oper} {a:Act} {w:World} {K:Act→World→Prop} {Q:Exit→Act→World→Prop} {E:Prop} (hgd:o.guard=none) (ty:TypeId) (x y:Operand) (ho:o.op=.store ty x y) (g:Nat) (vs:List Value) (hx:a.eval x=.pointer (some ⟨g,0,none⟩)) (hy:a.eval y=.agg vs.toArray) {t:Nat} {cs:List Value} (hB:Blk w g t cs)
  (hi:(P.info? ty).map (·.size)=some vs.length) (hl:cs.length=vs.length) (h1:vs.all (·.oneCell')=true)
  (h:∀ w',Hid (Blk w' g t vs)→w.grownBy w' (some g)→K (a.put o.dst undef) w'):if Region.wanted o (yielded ops a.tmps)=true then Oper.wp P o a w K Q else E:=by
 have hw:Region.wanted o (yielded ops a.tmps)=true:=by simp [Region.wanted,hgd]
 rw [if_pos hw]
 exact wp_store_row ty x y ho g vs.toArray hx hy t cs.toArray hB (by simpa using hi) (by simpa using hl) (by simpa using h1) (h _ (blk_setRow vs hB) (grown_setRow _ _ _))
end Go.Proofs.YtfpopbbmnbehiaaDoor
