/-
  Joined: CopyG, Tab, MachI, MachP.
-/
import Derived.Laws.CopyOwn
import Derived.Laws.Tables
import Derived.IntWalk
import Derived.BigRegion
import Derived.Test.YtifoggpohlegmaaGreatDoorC05

namespace Go.Proofs.YtifoggpohlegmaaGreatDoor
set_option maxRecDepth 100000
set_option maxHeartbeats 16000000
open Go.RowKit

theorem blkAt {g:Nat} (w:World) (t:Nat) (cs:List Value) (h:g=w.heap.size):Blk (w.alloc (.cells cs.toArray t)) g t cs:=by
 subst h
 exact Blk.new w t cs
theorem blkOld {g t:Nat} {cs:List Value} {w:World} (o:Obj) (h:Blk w g t cs):Blk (w.alloc o) g t cs:=(Below.heap_alloc w o g h.lt).trans h
theorem grown_setRow (w:World) (g:Nat) (cs:Array Value):w.grownBy (w.setRow g cs) (some g):=
 ⟨rfl,rfl,rfl,by simp [World.setRow],fun k _ hk=>setRow_other w g k cs (fun e=>hk (by rw [e]))⟩

theorem step_copy_grown {P:Program} {ops:Array Oper} {o:Oper} {a:Act} {w:World} {K:Act→World→Prop} {Q:Exit→Act→World→Prop} {E:Prop} (hgd:o.guard=none) (d s:Operand) (dT sT:TypeId)
  (ho:o.op=.call { callee:=.builtin .copy,args:=#[d,s],argTypes:=#[dT,sT] }) (elem:TypeId) (hu:P.underlying dT=some (.slice elem)) (hsz:(P.info? elem).map (·.size)=some 1)
  (g off:Nat) (ad:Addr) (dLen dCap sLen sCap:Nat) (hd:a.eval d=.slice (some ⟨g,off,none⟩) dLen dCap) (hs:a.eval s=.slice (some ad) sLen sCap)
  (cur:List Value) (t:TypeId) (hg:Blk w g t cur) (cs:List Value) (r:Value) (hr:goInt cs.length=r) (hn:cs.length=Nat.min sLen dLen)
  (hsrc:∀ j v,cs[j]?=some v→w.cell? (ad.add j)=some v)
  (hfit:off+cs.length≤cur.length) (h1:∀ v ∈ cs,v.oneCell'=true)
  (h:∀ w',Hid (Blk w' g t (splice cur off cs))→w.grownBy w' (some g)→K (a.put o.dst r) w') :
  if Region.wanted o (yielded ops a.tmps)=true then Oper.wp P o a w K Q else E:=by
 have hw:Region.wanted o (yielded ops a.tmps)=true:=by simp [Region.wanted,hgd]
 subst hr
 rw [if_pos hw]
 have hrun:=run_copy_row (P:=P) w dT sT o.type elem g off dLen dCap ad sLen sCap cur.toArray t cs hu hsz hg hn hsrc (by simpa using hfit) h1
 unfold Oper.wp
 simp [execOp,ho,resolve,invoke,builtin,hd,hs,hrun,Result.andThen]
 refine h _ (show _=_ by simpa [splice] using setRow_heap w g _ _ t _ hg) (grown_setRow _ _ _)

theorem Blk.kept {w w':World} {g t:Nat} {cs:List Value} {r:Option Nat} (h:Blk w g t cs) (hg:w.grownBy w' r) (hr:r≠some g):Blk w' g t cs:=(hg.block g h.lt (Ne.symm hr)).trans h
theorem load_blk {P:Program} {w:World} {g t:Nat} {cs:List Value} (ty:TypeId) (d:TypeDesc) (h:Blk w g t cs) (hu:P.underlying ty=some d) (hd:(match d with | .struct _ | .array _ _=>true | _=>false)=true) (hi:(P.info? ty).map (·.size)=some cs.length) :
  (loadVar ty ⟨g,0,none⟩).run P w=.ok (.agg cs.toArray) w:=run_loadVar_row w g t ty cs.toArray (0,0) d h hu hd (by simpa using hi)
theorem blk_setRow {w:World} {g t:Nat} {cs:List Value} (vs:List Value) (h:Blk w g t cs):Blk (w.setRow g vs.toArray) g t vs:=setRow_heap w g _ _ t _ h

section
variable {P : Program} {ops : Array Oper} {rest : List Oper} {o : Oper} {a : Act} {w : World} {Q : Exit → Act → World → Prop}
theorem wpList_load_blk (hgd:o.guard=none) (ty:TypeId) (x:Operand) (ho:o.op=.load ty x) (g:Nat) (hx:a.eval x=.pointer (some ⟨g,0,none⟩)) {t:Nat} {cs:List Value} (hB:Blk w g t cs) (d:TypeDesc)
  (hu:P.underlying ty=some d) (hd:(match d with | .struct _ | .array _ _=>true | _=>false)=true) (hi:(P.info? ty).map (·.size)=some cs.length)
  (h:wpList P ops Q rest (a.put o.dst (.agg cs.toArray)) w):wpList P ops Q (o::rest) a w:=
 wpList_load_row hgd ty x ho g hx t cs.toArray (0,0) d hB hu hd (by simpa using hi) h
theorem wpList_store_blk (hgd:o.guard=none) (ty:TypeId) (x y:Operand) (ho:o.op=.store ty x y) (g:Nat) (vs:List Value) (hx:a.eval x=.pointer (some ⟨g,0,none⟩)) (hy:a.eval y=.agg vs.toArray) {t:Nat} {cs:List Value} (hB:Blk w g t cs)
  (hi:(P.info? ty).map (·.size)=some vs.length) (hl:cs.length=vs.length) (h1:vs.all (·.oneCell')=true)
  (h:∀ w',Hid (Blk w' g t vs)→w.grownBy w' (some g)→wpList P ops Q rest (a.put o.dst undef) w'):wpList P ops Q (o::rest) a w:=
 wpList_store_row hgd ty x y ho g vs.toArray hx hy t cs.toArray hB (by simpa using hi) (by simpa using hl) (by simpa using h1) (h _ (blk_setRow vs hB) (grown_setRow _ _ _))
end

section
variable {P : Program} {fn : Func} {p q r : Tmp} {ty : TypeId}
theorem results_blk1 (h:fn.results=#[.cell p ty]) (tmps:Array Value) (w:World) (g t:Nat) (cs:List Value) (d:TypeDesc) (hp:tmps.getD p undef=.pointer (some ⟨g,0,none⟩)) (hB:Blk w g t cs)
  (hu:P.underlying ty=some d) (hd:(match d with | .struct _ | .array _ _=>true | _=>false)=true) (hi:(P.info? ty).map (·.size)=some cs.length) :
  (results fn tmps).run P w=.ok (.agg cs.toArray) w:=results_cell_row h tmps w g t cs.toArray (0,0) d hp hB hu hd (by simpa using hi)
theorem results_blk2 (h:fn.results=#[.cell p ty,.tmp q]) (tmps:Array Value) (w:World) (g t:Nat) (cs:List Value) (d:TypeDesc) (hp:tmps.getD p undef=.pointer (some ⟨g,0,none⟩)) (hB:Blk w g t cs)
  (hu:P.underlying ty=some d) (hd:(match d with | .struct _ | .array _ _=>true | _=>false)=true) (hi:(P.info? ty).map (·.size)=some cs.length) :
  (results fn tmps).run P w=.ok (.tuple #[.agg cs.toArray,tmps.getD q undef]) w:=by
 have hp':tmps[p]?.getD undef=.pointer (some ⟨g,0,none⟩):=by simpa using hp
 simp [results,h,hp',asAddr,load_blk ty d hB hu hd hi]
theorem results_blk3 (h:fn.results=#[.cell p ty,.tmp q,.tmp r]) (tmps:Array Value) (w:World) (g t:Nat) (cs:List Value) (d:TypeDesc) (hp:tmps.getD p undef=.pointer (some ⟨g,0,none⟩)) (hB:Blk w g t cs)
  (hu:P.underlying ty=some d) (hd:(match d with | .struct _ | .array _ _=>true | _=>false)=true) (hi:(P.info? ty).map (·.size)=some cs.length) :
  (results fn tmps).run P w=.ok (.tuple #[.agg cs.toArray,tmps.getD q undef,tmps.getD r undef]) w:=by
 have hp':tmps[p]?.getD undef=.pointer (some ⟨g,0,none⟩):=by simpa using hp
 simp [results,h,hp',asAddr,load_blk ty d hB hu hd hi]
end

set_option linter.unusedVariables false

def tab (n:Nat) (f:Nat→Value):List Value:=(List.range n).map f
theorem tab_get {n i:Nat} (f:Nat→Value) (h:i<n):(tab n f)[i]?=some (f i):=by simp [tab,h]
theorem tab_congr {n:Nat} {f g:Nat→Value} (h:∀ i,i<n→f i=g i):tab n f=tab n g:=by
 unfold tab
 refine List.map_congr_left (fun i hi=>h i (by simpa using hi))
theorem tab_set (n i:Nat) (f:Nat→Value) (v:Value):(tab n f).set i v=tab n (fun j=>if j=i then v else f j):=by
 refine List.ext_getElem (by simp [tab]) (fun j h1 h2=>?_)
 simp only [tab,List.length_set,List.length_map,List.length_range] at h1
 rw [List.getElem_set]
 simp only [tab,List.getElem_map,List.getElem_range]
 by_cases e:j=i
 ·subst e;simp
 ·simp [e,Ne.symm e]
theorem made_tab (z:Value) (n:Nat):(madeCells #[z] n).toList=tab n fun _=>z:=by
 unfold madeCells tab
 refine List.ext_getElem (by simp) (fun j h1 h2=>?_)
 simp [Nat.mod_one]
theorem made_tab3 (z:Value) (n:Nat):(madeCells #[z,z,z] n).toList=tab n fun _=>z:=by
 unfold madeCells tab
 refine List.ext_getElem (by simp) (fun j h1 h2=>?_)
 have h3:j % 3<3:=Nat.mod_lt _ (by omega)
 simp
 match j % 3,h3 with
 | 0,_=>rfl
 | 1,_=>rfl
 | 2,_=>rfl
theorem blk_of_full {w:World} {B e s g n:Nat} {xs:List Value} (h:w.ownsRow B e s (.slice (some ⟨g,0,none⟩) n n) n xs):Blk w g e xs∧B≤g:=by
 obtain ⟨hl,h | ⟨g',cap,cur,hv,hB,hg,h1,h2,h3,h4⟩⟩:=h
 ·cases h.1
 ·cases hv
  refine ⟨?_,hB⟩
  unfold Blk
  rw [hg,← h4,List.take_of_length_le (by simp [h3])]
def tab2 (n:Nat) (F:Nat→Nat→Bool):List Value:=tab (n*n) fun j=>.bool (F (j / n) (j % n))
theorem at_two {n i k:Nat} (hi:i<n) (hk:k<n):i*n+k<n*n∧(i*n+k) / n=i∧(i*n+k) % n=k:=by
 refine ⟨?_,?_,?_⟩
 ·have:(i+1)*n≤n*n:=Nat.mul_le_mul_right n (by omega)
  rw [Nat.add_mul] at this
  omega
 ·rw [Nat.mul_comm,Nat.mul_add_div (by omega),Nat.div_eq_of_lt hk,Nat.add_zero]
 ·rw [Nat.mul_comm,Nat.mul_add_mod,Nat.mod_eq_of_lt hk]
theorem tab2_get {n i k:Nat} (F:Nat→Nat→Bool) (hi:i<n) (hk:k<n):(tab2 n F)[i*n+k]?=some (.bool (F i k)):=by
 obtain ⟨h1,h2,h3⟩:=at_two hi hk
 unfold tab2
 rw [tab_get _ h1,h2,h3]
theorem tab2_congr {n:Nat} {F G:Nat→Nat→Bool} (h:∀ i k,i<n→k<n→F i k=G i k):tab2 n F=tab2 n G:=by
 refine tab_congr (fun j hj=>?_)
 have hn:0<n:=by
  rcases Nat.eq_zero_or_pos n with e | e
  ·subst e;simp at hj
  ·exact e
 rw [h _ _ ((Nat.div_lt_iff_lt_mul hn).2 hj) (Nat.mod_lt _ hn)]
theorem tab2_set {n i k:Nat} (F:Nat→Nat→Bool) (b:Bool) (hi:i<n) (hk:k<n):(tab2 n F).set (i*n+k) (.bool b)=tab2 n (fun h c=>if h=i∧c=k then b else F h c):=by
 obtain ⟨h1,h2,h3⟩:=at_two hi hk
 unfold tab2
 rw [tab_set]
 refine tab_congr (fun j hj=>?_)
 by_cases e:j=i*n+k
 ·subst e
  rw [if_pos rfl,h2,h3]
  simp only [and_self,if_true]
 ·rw [if_neg e]
  have e9:¬ (j / n=i∧j % n=k):=by
   rintro ⟨e1,e2⟩
   apply e
   have:=Nat.div_add_mod j n
   rw [e1,e2,Nat.mul_comm] at this
   exact this.symm
  simp only [if_neg e9]
theorem ix_two {n i k N:Nat} (hN:N=n*n) (hb:N≤16777216) (hi:i<n) (hk:k<n):∃ M P:Nat,wrap64 ((i:Int)*(n:Int))=(M:Int)∧wrap64 ((M:Int)+(k:Int))=(P:Int)∧(P:Int)<(N:Int)∧(0:Int)≤(P:Int)∧P=i*n+k:=by
 have h1:=(at_two hi hk).1
 rw [← hN] at h1
 refine ⟨i*n,i*n+k,?_,?_,Int.ofNat_lt.2 h1,Int.natCast_nonneg _,rfl⟩
 ·rw [← Int.natCast_mul]
  generalize i*n=M at h1
  exact IntWalk.wrap64_in _ ⟨by omega,by omega⟩
 ·rw [← Int.natCast_add]
  generalize i*n+k=P at h1
  exact IntWalk.wrap64_in _ ⟨by omega,by omega⟩
theorem wrap_sq {n N:Nat} (hN:N=n*n) (hb:N≤16777216):wrap64 ((n:Int)*(n:Int))=(N:Int):=by
 rw [← Int.natCast_mul,← hN]
 exact IntWalk.wrap64_in _ ⟨by omega,by omega⟩


theorem below_dN {w:World} (n:Nat):Below w.heap.size w (w.drewN n):=⟨rfl,rfl,rfl,Nat.le_refl _,fun _ _=>rfl⟩

theorem done_is (g o:Nat) (a:Option Addr) (n c:Nat) (pc:Int) (w:World) (h0:w.cell? ⟨g,o,none⟩=some (.slice a n c)) (h1:w.cell? ⟨g,o+1,none⟩=some (.int .i64 pc)) :
  Calls Tryz.prog 74 #[.pointer (some ⟨g,o,none⟩)] w fun e w'=>e=.returned (.bool (decide ((n:Int)≤pc)))∧∃ d,w'=w.drewN d:=by
 obtain ⟨x,hx⟩:∃ x,x=decide ((n:Int)≤pc):=⟨_,rfl⟩
 have hd:decide ((n:Int)≤pc)=x:=hx.symm
 rw [← hx]
 clear hx
 go_enter Tryz.func74,Tryz.ntmps74
 go_wp2_with fail
 go_quiet (fail)
 go_wp2
 go_ret
 exact ⟨rfl,_,rfl⟩

theorem waits_done (g k:Nat) (a:Option Addr) (n c:Nat) (pc:Int) (w:World) (hk:k<3) (h0:w.cell? ⟨g,k*4,none⟩=some (.slice a n c)) (h1:w.cell? ⟨g,k*4+1,none⟩=some (.int .i64 pc)) (hd:(n:Int)≤pc) :
  Calls Tryz.prog 75 #[.pointer (some ⟨g,0,none⟩),.int .i64 k] w fun e w'=>e=.returned (.bool false)∧Below w.heap.size w w':=by
 have kD:=done_is g (k*4) a n c pc w h0 h1
 rw [decide_eq_true hd] at kD
 have hk3:(k:Int)<3:=by omega
 go_enter Tryz.func75,Tryz.ntmps75
 go_wp2_with fail
 refine kD.mono ?_
 rintro e w1 ⟨rfl,d,rfl⟩
 go_wp2
 go_ret
 exact ⟨rfl,below_dN _⟩

theorem waits_free (g k p b off:Nat) (n c:Nat) (x0 x1 x2:Int) (w:World) (hk:k<3) (hd:p<n)
  (h0:w.cell? ⟨g,k*4,none⟩=some (.slice (some ⟨b,off,none⟩) n c)) (h1:w.cell? ⟨g,k*4+1,none⟩=some (.int .i64 p)) (c0:w.cell? ⟨b,off+p*3,none⟩=some (.int .i64 x0)) (c1:w.cell? ⟨b,off+p*3+1,none⟩=some (.int .i64 x1)) (c2:w.cell? ⟨b,off+p*3+2,none⟩=some (.int .i64 x2)) (hx:x0≠5) :
  Calls Tryz.prog 75 #[.pointer (some ⟨g,0,none⟩),.int .i64 k] w fun e w'=>e=.returned (.bool false)∧Below w.heap.size w w':=by
 have kD:=done_is g (k*4) (some ⟨b,off,none⟩) n c p w h0 h1
 rw [decide_eq_false (by omega)] at kD
 have hk3:(k:Int)<3:=by omega
 have hpn:(p:Int)<(n:Int):=by omega
 go_enter Tryz.func75,Tryz.ntmps75
 go_wp2_with fail
 refine kD.mono ?_
 rintro e w1 ⟨rfl,d,rfl⟩
 clear kD
 go_wp2_with fail
 replace h0:(w.drewN d).cell? ⟨g,k*4,none⟩=some (.slice (some ⟨b,off,none⟩) n c):=h0
 replace h1:(w.drewN d).cell? ⟨g,k*4+1,none⟩=some (.int .i64 p):=h1
 replace c0:(w.drewN d).cell? ⟨b,off+p*3,none⟩=some (.int .i64 x0):=c0
 replace c1:(w.drewN d).cell? ⟨b,off+p*3+1,none⟩=some (.int .i64 x1):=c1
 replace c2:(w.drewN d).cell? ⟨b,off+p*3+2,none⟩=some (.int .i64 x2):=c2
 have bw:Below w.heap.size w (w.drewN d):=below_dN _
 generalize w.drewN d=W at *
 refine wp_region_held_drew (S:=(fun w'=>w'.cell? ⟨g,k*4,none⟩=some (.slice (some ⟨b,off,none⟩) n c)∧w'.cell? ⟨g,k*4+1,none⟩=some (.int .i64 p)∧w'.cell? ⟨b,off+p*3,none⟩=some (.int .i64 x0)∧w'.cell? ⟨b,off+p*3+1,none⟩=some (.int .i64 x1)∧w'.cell? ⟨b,off+p*3+2,none⟩=some (.int .i64 x2))) (by kernel_rfl) ⟨h0,h1,c0,c1,c2⟩ (fun hS0=>?_)
 refine tkm 0 14 (.pointer (some ⟨g,k*4,none⟩)) ?_
 refine tkm 1 15 (.pointer (some ⟨g,k*4,none⟩)) ?_
 refine tkm 2 16 (.pointer (some ⟨g,k*4,none⟩)) ?_
 refine tkm 3 17 (.slice (some ⟨b,off,none⟩) n c) ?_
 refine tkm 4 18 (.pointer (some ⟨g,k*4,none⟩)) ?_
 refine tkm 5 19 (.pointer (some ⟨g,k*4,none⟩)) ?_
 refine tkm 6 20 (.pointer (some ⟨g,k*4+1,none⟩)) ?_
 refine tkm 7 21 (.int .i64 p) ?_
 refine tkm 8 22 (.pointer (some ⟨b,off+p*3,none⟩)) ?_
 refine tkm 9 23 (.agg #[.int .i64 x0,.int .i64 x1,.int .i64 x2]) ?_
 refine tkr 10 6 (fun K hK=>?_)
 have hal:Below W.drew.heap.size W.drew (W.drew.alloc (.cells #[.int .i64 0,.int .i64 0,.int .i64 0] 159)):=by go_grown
 go_simp
 refine hK.out _ _ ?_ (fun hS1=>?_)
 ·exact ⟨cells_kept hal _ _ hS0.1,cells_kept hal _ _ hS0.2.1,cells_kept hal _ _ hS0.2.2.1,cells_kept hal _ _ hS0.2.2.2.1,cells_kept hal _ _ hS0.2.2.2.2⟩
 clear hK
 try simp only [Act.put,tka,tkb,tkc]
 refine tkz 11 (fun K hK=>?_)
 have hal2:Below W.drew.heap.size W.drew (W.drew.alloc (.cells #[.int .i64 x0,.int .i64 x1,.int .i64 x2] 159)):=by go_grown
 go_simp
 refine hK.out _ _ ?_ (fun hS2=>?_)
 ·exact ⟨cells_kept hal2 _ _ hS0.1,cells_kept hal2 _ _ hS0.2.1,cells_kept hal2 _ _ hS0.2.2.1,cells_kept hal2 _ _ hS0.2.2.2.1,cells_kept hal2 _ _ hS0.2.2.2.2⟩
 clear hK
 try simp only [Act.put,tka,tkb,tkc]
 refine wpAnyH_done (by kernel_rfl) ?_ _
 replace bw:Below w.heap.size w (W.alloc (.cells #[.int .i64 x0,.int .i64 x1,.int .i64 x2] 159)).drew:=bel_trans bw (by go_grown)
 have pX:Blk (W.alloc (.cells #[.int .i64 x0,.int .i64 x1,.int .i64 x2] 159)).drew W.heap.size 159 [.int .i64 x0,.int .i64 x1,.int .i64 x2]:=Blk.new W 159 [.int .i64 x0,.int .i64 x1,.int .i64 x2]
 have q0:=pX.cell 0
 have q1:=pX.cell 1
 simp only [List.getElem?_cons_zero,List.getElem?_cons_succ] at q0 q1
 clear hal hal2 hS0 hS1 h0 h1 c0 c1 c2 pX
 clear hS2
 have hx5:(x0 == 5)=false:=by simp [hx]
 go_wp2_with fail
 generalize (W.alloc (.cells #[.int .i64 x0,.int .i64 x1,.int .i64 x2] 159)).drew=W2 at *
 generalize W.heap.size=gx at *
 go_quiet (fail)
 have bz:Below w.heap.size w (W2.drewN nq):=bel_trans bw (below_dN _)
 go_wp2
 go_ret
 exact ⟨rfl,bz⟩

theorem waits_lock (g k p b off:Nat) (n c:Nat) (x2:Int) (q:Nat) (hv:Int) (w:World) (hk:k<3) (hd:p<n)
  (h0:w.cell? ⟨g,k*4,none⟩=some (.slice (some ⟨b,off,none⟩) n c)) (h1:w.cell? ⟨g,k*4+1,none⟩=some (.int .i64 p)) (c0:w.cell? ⟨b,off+p*3,none⟩=some (.int .i64 5)) (c1:w.cell? ⟨b,off+p*3+1,none⟩=some (.int .i64 q)) (c2:w.cell? ⟨b,off+p*3+2,none⟩=some (.int .i64 x2)) (h6:w.cell? ⟨g,16+q,none⟩=some (.int .i64 hv)) (hq:q<2) (z:Bool) (hz:z=!decide (hv=0)) :
  Calls Tryz.prog 75 #[.pointer (some ⟨g,0,none⟩),.int .i64 k] w fun e w'=>e=.returned (.bool z)∧Below w.heap.size w w':=by
 have kD:=done_is g (k*4) (some ⟨b,off,none⟩) n c p w h0 h1
 rw [decide_eq_false (by omega)] at kD
 have hk3:(k:Int)<3:=by omega
 have hpn:(p:Int)<(n:Int):=by omega
 go_enter Tryz.func75,Tryz.ntmps75
 go_wp2_with fail
 refine kD.mono ?_
 rintro e w1 ⟨rfl,d,rfl⟩
 clear kD
 go_wp2_with fail
 replace h0:(w.drewN d).cell? ⟨g,k*4,none⟩=some (.slice (some ⟨b,off,none⟩) n c):=h0
 replace h1:(w.drewN d).cell? ⟨g,k*4+1,none⟩=some (.int .i64 p):=h1
 replace c0:(w.drewN d).cell? ⟨b,off+p*3,none⟩=some (.int .i64 5):=c0
 replace c1:(w.drewN d).cell? ⟨b,off+p*3+1,none⟩=some (.int .i64 q):=c1
 replace c2:(w.drewN d).cell? ⟨b,off+p*3+2,none⟩=some (.int .i64 x2):=c2
 replace h6:(w.drewN d).cell? ⟨g,16+q,none⟩=some (.int .i64 hv):=h6
 have bw:Below w.heap.size w (w.drewN d):=below_dN _
 generalize w.drewN d=W at *
 refine wp_region_held_drew (S:=(fun w'=>w'.cell? ⟨g,k*4,none⟩=some (.slice (some ⟨b,off,none⟩) n c)∧w'.cell? ⟨g,k*4+1,none⟩=some (.int .i64 p)∧w'.cell? ⟨b,off+p*3,none⟩=some (.int .i64 5)∧w'.cell? ⟨b,off+p*3+1,none⟩=some (.int .i64 q)∧w'.cell? ⟨b,off+p*3+2,none⟩=some (.int .i64 x2)∧w'.cell? ⟨g,16+q,none⟩=some (.int .i64 hv))) (by kernel_rfl) ⟨h0,h1,c0,c1,c2,h6⟩ (fun hS0=>?_)
 refine tkm 0 14 (.pointer (some ⟨g,k*4,none⟩)) ?_
 refine tkm 1 15 (.pointer (some ⟨g,k*4,none⟩)) ?_
 refine tkm 2 16 (.pointer (some ⟨g,k*4,none⟩)) ?_
 refine tkm 3 17 (.slice (some ⟨b,off,none⟩) n c) ?_
 refine tkm 4 18 (.pointer (some ⟨g,k*4,none⟩)) ?_
 refine tkm 5 19 (.pointer (some ⟨g,k*4,none⟩)) ?_
 refine tkm 6 20 (.pointer (some ⟨g,k*4+1,none⟩)) ?_
 refine tkm 7 21 (.int .i64 p) ?_
 refine tkm 8 22 (.pointer (some ⟨b,off+p*3,none⟩)) ?_
 refine tkm 9 23 (.agg #[.int .i64 5,.int .i64 q,.int .i64 x2]) ?_
 refine tkr 10 6 (fun K hK=>?_)
 have hal:Below W.drew.heap.size W.drew (W.drew.alloc (.cells #[.int .i64 0,.int .i64 0,.int .i64 0] 159)):=by go_grown
 go_simp
 refine hK.out _ _ ?_ (fun hS1=>?_)
 ·exact ⟨cells_kept hal _ _ hS0.1,cells_kept hal _ _ hS0.2.1,cells_kept hal _ _ hS0.2.2.1,cells_kept hal _ _ hS0.2.2.2.1,cells_kept hal _ _ hS0.2.2.2.2.1,cells_kept hal _ _ hS0.2.2.2.2.2⟩
 clear hK
 try simp only [Act.put,tka,tkb,tkc]
 refine tkz 11 (fun K hK=>?_)
 have hal2:Below W.drew.heap.size W.drew (W.drew.alloc (.cells #[.int .i64 5,.int .i64 q,.int .i64 x2] 159)):=by go_grown
 go_simp
 refine hK.out _ _ ?_ (fun hS2=>?_)
 ·exact ⟨cells_kept hal2 _ _ hS0.1,cells_kept hal2 _ _ hS0.2.1,cells_kept hal2 _ _ hS0.2.2.1,cells_kept hal2 _ _ hS0.2.2.2.1,cells_kept hal2 _ _ hS0.2.2.2.2.1,cells_kept hal2 _ _ hS0.2.2.2.2.2⟩
 clear hK
 try simp only [Act.put,tka,tkb,tkc]
 refine wpAnyH_done (by kernel_rfl) ?_ _
 replace bw:Below w.heap.size w (W.alloc (.cells #[.int .i64 5,.int .i64 q,.int .i64 x2] 159)).drew:=bel_trans bw (by go_grown)
 have pX:Blk (W.alloc (.cells #[.int .i64 5,.int .i64 q,.int .i64 x2] 159)).drew W.heap.size 159 [.int .i64 5,.int .i64 q,.int .i64 x2]:=Blk.new W 159 [.int .i64 5,.int .i64 q,.int .i64 x2]
 have q0:=pX.cell 0
 have q1:=pX.cell 1
 simp only [List.getElem?_cons_zero,List.getElem?_cons_succ] at q0 q1
 clear hal hal2 hS0 hS1 h0 h1 c0 c1 c2 h6 pX
 replace hS2:=hS2.2.2.2.2.2
 have hq2:(q:Int)<2:=by omega
 have hv0:(hv != 0)=z:=by rw [hz];by_cases h:hv=0<;>simp [h]
 clear hz
 go_wp2_with fail
 generalize (W.alloc (.cells #[.int .i64 5,.int .i64 q,.int .i64 x2] 159)).drew=W2 at *
 generalize W.heap.size=gx at *
 go_quiet (fail)
 have bz:Below w.heap.size w (W2.drewN nq):=bel_trans bw (below_dN _)
 go_wp2
 go_ret
 exact ⟨rfl,bz⟩

def slK (cs:Sl × Sl × Sl):Nat→Sl
 | 0=>cs.1
 | 1=>cs.2.1
 | _=>cs.2.2
def MachAt (w:World) (g:Nat) (cs:Sl × Sl × Sl) (rows:List (List I3)) (m:V4):Prop:=
 Blk w g 89 (machCells cs.1.val cs.2.1.val cs.2.2.val m)∧∀ k,k<3→Instrs w (slK cs k).1 (slK cs k).2.1 (slK cs k).2.2 (codeM rows k)
theorem MachAt.below {w w':World} {g:Nat} {cs:Sl × Sl × Sl} {rows:List (List I3)} {m:V4} (h:MachAt w g cs rows m) (hb:Below w.heap.size w w'):MachAt w' g cs rows m:=⟨h.1.below hb,fun k hk=>(h.2 k hk).below hb⟩
theorem codeV_sl (cs:Sl × Sl × Sl) {k:Nat} (hk:k<3):codeV cs.1.val cs.2.1.val cs.2.2.val k=(slK cs k).val:=by
 match k,hk with
 | 0,_=>rfl
 | 1,_=>rfl
 | 2,_=>rfl
theorem MachAt.code {w:World} {g:Nat} {cs:Sl × Sl × Sl} {rows:List (List I3)} {m:V4} (h:MachAt w g cs rows m) {k:Nat} (hk:k<3):w.cell? ⟨g,k*4,none⟩=some (.slice (slK cs k).1 (slK cs k).2.1 (slK cs k).2.2):=by
 rw [h.1.cell,mc_code _ _ _ _ hk,codeV_sl cs hk];rfl
theorem MachAt.pc {w:World} {g:Nat} {cs:Sl × Sl × Sl} {rows:List (List I3)} {m:V4} (h:MachAt w g cs rows m) {k:Nat} (hk:k<3):w.cell? ⟨g,k*4+1,none⟩=some (.int .i64 (m.1.getD k 0)):=by
 rw [h.1.cell,mc_pc _ _ _ _ hk]
theorem MachAt.held {w:World} {g:Nat} {cs:Sl × Sl × Sl} {rows:List (List I3)} {m:V4} (h:MachAt w g cs rows m) {a:Nat} (ha:a<2):w.cell? ⟨g,16+a,none⟩=some (.int .i64 (m.2.2.1.getD a 0)):=by
 rw [h.1.cell,mc_held _ _ _ _ ha]

theorem ins_at {w:World} {a:Option Addr} {n c:Nat} {xs:List I3} (h:Instrs w a n c xs) {p:Nat} (hp:p<xs.length):∃ b off,a=some ⟨b,off,none⟩∧p<n ∧
  w.cell? ⟨b,off+p*3,none⟩=some (.int .i64 (xs.getD p (0,0,0)).1)∧w.cell? ⟨b,off+p*3+1,none⟩=some (.int .i64 (xs.getD p (0,0,0)).2.1)∧w.cell? ⟨b,off+p*3+2,none⟩=some (.int .i64 (xs.getD p (0,0,0)).2.2):=by
 obtain ⟨hl,_,_,_,h0 | ⟨b,off,ha,_,hc⟩⟩:=h
 ·omega
 ·exact ⟨b,off,ha,by omega,hc p (by omega)⟩
theorem codeM_len {rows:List (List I3)} (hp:progOk rows=true) {k:Nat} (hk:k<3):(codeM rows k).length≤6∧∀ x ∈ codeM rows k,okI x=true:=by
 obtain ⟨h3,hr⟩:=progOk_parts hp
 exact hr _ (by unfold codeM;simp [List.getD,show k<rows.length by omega])
theorem at_ins {rows:List (List I3)} {m:V4} (hp:progOk rows=true) (hs:shapeOk m=true) {k:Nat} (hk:k<3) (hd:doneM rows m k=false):∃ p:Nat,m.1.getD k 0=p∧p<(codeM rows k).length∧insM rows m k=(codeM rows k).getD p (0,0,0)∧okI (insM rows m k)=true:=by
 have hb:=getD_in (shape_bounds hs).1 (by decide) k
 unfold doneM at hd
 simp only [decide_eq_false_iff_not] at hd
 have e:m.1.getD k 0=((m.1.getD k 0).toNat:Int):=by omega
 refine ⟨(m.1.getD k 0).toNat,e,by omega,rfl,?_⟩
 refine (codeM_len hp hk).2 _ ?_
 unfold insM
 have hlt:(m.1.getD k 0).toNat<(codeM rows k).length:=by omega
 rw [List.getD,List.getElem?_eq_getElem hlt,Option.getD_some]
 exact List.getElem_mem hlt
theorem okI_lock {x:I3} (h:okI x=true) (h5:x.1=5):∃ q:Nat,x.2.1=q∧q<2:=by
 unfold okI at h
 simp only [h5] at h
 have h2:inB x.2.1 0 1=true:=by
  have:=h
  simp at this
  exact this.1
 rw [inB_true] at h2
 exact ⟨x.2.1.toNat,by omega,by omega⟩

set_option linter.unusedSimpArgs false

def LenOk (m:V4):Prop:=m.1.length=3∧m.2.1.length=4∧m.2.2.1.length=2∧m.2.2.2.length=6
theorem LenOk.of {m:V4} (h:shapeOk m=true):LenOk m:=by
 obtain ⟨a,b,c,d,_⟩:=shape_parts h
 exact ⟨a,b,c,d⟩
theorem LenOk.lists {m:V4} (h:LenOk m):∃ p0 p1 p2 v0 v1 v2 v3 h0 h1 x0 y0 x1 y1 x2 y2:Int,m=([p0,p1,p2],[v0,v1,v2,v3],[h0,h1],[x0,y0,x1,y1,x2,y2]):=by
 obtain ⟨l0,l1,l2,l3⟩:=h
 obtain ⟨a,b,c,d⟩:=m
 simp only at l0 l1 l2 l3
 match a,b,c,d,l0,l1,l2,l3 with
 | [p0,p1,p2],[v0,v1,v2,v3],[h0,h1],[x0,y0,x1,y1,x2,y2],_,_,_,_=>exact ⟨p0,p1,p2,v0,v1,v2,v3,h0,h1,x0,y0,x1,y1,x2,y2,rfl⟩
section
variable (c0 c1 c2 : Value) (m : V4) (h : LenOk m)
include h
end
theorem LenOk.pc {m:V4} (h:LenOk m) (k:Nat) (v:Int):LenOk (m.1.set k v,m.2):=⟨by simpa using h.1,h.2⟩
theorem grown_tr {a b c:World} {r:Option Nat} (h:a.grownBy b r) (k:b.grownBy c r):a.grownBy c r:=grownBy_tr h k
theorem grown_new {a b:World} {r:Option Nat} (h:Below a.heap.size a b):a.grownBy b r:=⟨h.os,h.tape,h.output,h.size,fun i hi _=>h.block i hi⟩
theorem grown_cell (W:World) (g i:Nat) (v:Value):W.grownBy (W.setCell ⟨g,i,none⟩ v) (some g):=grownBy_set W g i v

theorem grown_drew {a b:World} {r:Option Nat} (h:a.grownBy b r):a.grownBy b.drew r:=⟨h.os,h.tape,h.output,h.size,h.block⟩
theorem grown_drewN {a b:World} {r:Option Nat} (h:a.grownBy b r) (d:Nat):a.grownBy (b.drewN d) r:=⟨h.os,h.tape,h.output,h.size,h.block⟩

end Go.Proofs.YtifoggpohlegmaaGreatDoor
