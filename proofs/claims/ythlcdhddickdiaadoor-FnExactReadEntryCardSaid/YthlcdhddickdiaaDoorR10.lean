/-
  Joined: Marks, Mk8, CopyG, Ent2.
-/
import Derived.Laws.CopyOwn
import Derived.Laws.Tables
import Derived.Test.YthlcdhddickdiaaDoorR07
import Derived.Test.YthlcdhddickdiaaDoorR09

namespace Go.Proofs.YthlcdhddickdiaaDoor
set_option maxRecDepth 100000
set_option maxHeartbeats 16000000
open Go.RowKit

def mkTo:Int→List Int→Nat→List Int
 | _,xs,0=>xs
 | _,[],_+1=>[]
 | k,_::xs,j+1=>k::mkTo (k+1) xs j
theorem mkTo_len:∀ (k:Int) (xs:List Int) (j:Nat),(mkTo k xs j).length=xs.length
 | _,xs,0=>by simp [mkTo]
 | _,[],_+1=>by simp [mkTo]
 | k,_::xs,j+1=>by simp [mkTo,mkTo_len]
theorem markIntS_none (a:Option Addr) (cap:Nat) (k:Int) (w:World) :
  Calls Tryd.prog 45 #[.slice a 0 cap,.int .i64 k] w fun e w'=>e=.returned (.int .i64 k)∧w=w':=by
 go_enter Tryd.func45,Tryd.ntmps45
 go_wp2
 refine wp_loop_rounds 1 ?_
 rw [rounds_succ]
 go_wp2
 go_ret
 exact ⟨rfl,rfl⟩

theorem heldIntS_yes (a:Option Addr) (n cap:Nat) (k:Int) (zs:List Int) (w:World) (hk0:0≤k) (hk:k≤1000000000) (hn:n≤1048576) (h:Ints .i64 w a n cap zs) (hm:∀ i,i<n→zs.getD i 0=k+i) :
  Calls Tryd.prog 51 #[.slice a n cap,.int .i64 k] w fun e w'=>e=.returned (.int .i64 (k+n))∧w=w':=by
 obtain ⟨hl,hlc,hcm,hcase⟩:=h
 unfold maxLen at hcm
 by_cases h0:n=0
 ·subst h0
  have e0:k+((0:Nat):Int)=k:=by omega
  rw [e0]
  go_enter Tryd.func51,Tryd.ntmps51
  go_wp2
  refine wp_loop_rounds 1 ?_
  rw [rounds_succ]
  go_wp2
  go_ret
  exact ⟨rfl,rfl⟩
 ·rcases hcase with h0' | ⟨b,off,rfl,hblt,hcell⟩
  ·exact absurd h0' h0
  go_enter Tryd.func51,Tryd.ntmps51
  go_wp2
  go_loop [1,5] (fun sk si=>∃ j:Nat,j≤n∧si=.int .i64 j∧sk=.int .i64 (k+j)) (fun _ si=>n - (intOf si).toNat)
  case atStart=>exact ⟨0,by omega,rfl,by go_num⟩
  case round =>
   obtain ⟨j,hj,rfl,rfl⟩:=hrel
   by_cases hlt:j<n
   ·have hc:=hcell j hlt
    rw [hm j hlt] at hc
    have hne:((k+(j:Int)) != (k+(j:Int)))=false:=by simp
    clear hcell hm
    go_wp2
    go_round
    case rel=>exact ⟨j+1,by omega,by go_num,by go_num⟩
    case measure=>simp [intOf];omega
   ·obtain rfl:j=n:=by omega
    go_wp2
    go_ret
    exact ⟨rfl,rfl⟩

set_option linter.unusedVariables false

theorem eq8 (a a':Option Addr) (len cap cap':Nat) (xs:List Int) (w:World) (h:Ints .i64 w a len cap xs) (h':Ints .i64 w a' len cap' xs) :
  Calls Tryd.prog 43 #[.slice a len cap,.slice a' len cap'] w fun e w'=>e=.returned (.bool true)∧Below w.heap.size w w':=by
 refine (eqIntS_same a a' len cap cap' xs w h h').mono ?_
 rintro e w' ⟨rfl,d,rfl⟩
 exact ⟨rfl,⟨rfl,rfl,rfl,Nat.le_refl _,fun _ _=>rfl⟩⟩


theorem blkAt {g:Nat} (w:World) (t:Nat) (cs:List Value) (h:g=w.heap.size):Blk (w.alloc (.cells cs.toArray t)) g t cs:=by
 subst h
 exact Blk.new w t cs
theorem blkOld {g t:Nat} {cs:List Value} {w:World} (o:Obj) (h:Blk w g t cs):Blk (w.alloc o) g t cs:=(Below.heap_alloc w o g h.lt).trans h
theorem grown_setRow (w:World) (g:Nat) (cs:Array Value):w.grownBy (w.setRow g cs) (some g):=
 ⟨rfl,rfl,rfl,by simp [World.setRow],fun k _ hk=>setRow_other w g k cs (fun e=>hk (by rw [e]))⟩

theorem Blk.kept {w w':World} {g t:Nat} {cs:List Value} {r:Option Nat} (h:Blk w g t cs) (hg:w.grownBy w' r) (hr:r≠some g):Blk w' g t cs:=(hg.block g h.lt (Ne.symm hr)).trans h
theorem load_blk {P:Program} {w:World} {g t:Nat} {cs:List Value} (ty:TypeId) (d:TypeDesc) (h:Blk w g t cs) (hu:P.underlying ty=some d) (hd:(match d with | .struct _ | .array _ _=>true | _=>false)=true) (hi:(P.info? ty).map (·.size)=some cs.length) :
  (loadVar ty ⟨g,0,none⟩).run P w=.ok (.agg cs.toArray) w:=run_loadVar_row w g t ty cs.toArray (0,0) d h hu hd (by simpa using hi)
theorem blk_setRow {w:World} {g t:Nat} {cs:List Value} (vs:List Value) (h:Blk w g t cs):Blk (w.setRow g vs.toArray) g t vs:=setRow_heap w g _ _ t _ h

section
variable {P : Program} {ops : Array Oper} {rest : List Oper} {o : Oper} {a : Act} {w : World} {Q : Exit → Act → World → Prop}
theorem wpList_load_blk (hgd:o.guard=none) (ty:TypeId) (x:Operand) (ho:o.op=.load ty x) (g:Nat) (hx:a.eval x=.pointer (some ⟨g,0,none⟩)) {t:Nat} {cs:List Value} (hB:Blk w g t cs) (d:TypeDesc)
  (hu:P.underlying ty=some d) (hd:(match d with | .struct _ | .array _ _=>true | _=>false)=true) (hi:(P.info? ty).map (·.size)=some cs.length)
  (h:wpList P ops Q rest (a.put o.dst (.agg cs.toArray)) w):wpList P ops Q (o::rest) a w:=
 wpList_load_row hgd ty x ho g hx t cs.toArray (0,0) d hB hu hd (by simpa using hi) h
theorem wpList_store_blk (hgd:o.guard=none) (ty:TypeId) (x y:Operand) (ho:o.op=.store ty x y) (g:Nat) (vs:List Value) (hx:a.eval x=.pointer (some ⟨g,0,none⟩)) (hy:a.eval y=.agg vs.toArray) {t:Nat} {cs:List Value} (hB:Blk w g t cs)
  (hi:(P.info? ty).map (·.size)=some vs.length) (hl:cs.length=vs.length) (h1:vs.all (·.oneCell')=true)
  (h:∀ w',Hid (Blk w' g t vs)→w.grownBy w' (some g)→wpList P ops Q rest (a.put o.dst undef) w'):wpList P ops Q (o::rest) a w:=
 wpList_store_row hgd ty x y ho g vs.toArray hx hy t cs.toArray hB (by simpa using hi) (by simpa using hl) (by simpa using h1) (h _ (blk_setRow vs hB) (grown_setRow _ _ _))
end

section
variable {P : Program} {fn : Func} {p q r : Tmp} {ty : TypeId}
theorem results_blk2 (h:fn.results=#[.cell p ty,.tmp q]) (tmps:Array Value) (w:World) (g t:Nat) (cs:List Value) (d:TypeDesc) (hp:tmps.getD p undef=.pointer (some ⟨g,0,none⟩)) (hB:Blk w g t cs)
  (hu:P.underlying ty=some d) (hd:(match d with | .struct _ | .array _ _=>true | _=>false)=true) (hi:(P.info? ty).map (·.size)=some cs.length) :
  (results fn tmps).run P w=.ok (.tuple #[.agg cs.toArray,tmps.getD q undef]) w:=by
 have hp':tmps[p]?.getD undef=.pointer (some ⟨g,0,none⟩):=by simpa using hp
 simp [results,h,hp',asAddr,load_blk ty d hB hu hd hi]
end

set_option linter.unusedSimpArgs false

def OwnE (w:World) (B:Nat) (vb vf:Value) (e:E3):Prop:=w.ownsRow B 93 3 vb e.2.1.length (flat e.2.1)∧w.ownsRow B 3 1 vf e.2.2.length (e.2.2.map (Value.int .i64))
theorem OwnE.below {w w':World} {B:Nat} {vb vf:Value} {e:E3} (h:OwnE w B vb vf e) (hb:Below w.heap.size w w'):OwnE w' B vb vf e:=⟨owns8 h.1 hb,owns8 h.2 hb⟩
theorem OwnE.lower {w:World} {B B':Nat} {vb vf:Value} {e:E3} (h:OwnE w B vb vf e) (hB:B'≤B):OwnE w B' vb vf e:=⟨lower8 h.1 hB,lower8 h.2 hB⟩
theorem Instrs.of_ownB9 {w:World} {B:Nat} {v:Value} {xs:List I3} (h:w.ownsRow B 93 3 v xs.length (flat xs)) (hf:∀ x ∈ xs,I3.fits x):∃ a cap,v=.slice a xs.length cap∧Instrs w a xs.length cap xs:=by
 rcases h.2 with ⟨hv,h0⟩ | ⟨g,cap,cur,hv,_⟩
 ·obtain rfl:xs=[]:=List.eq_nil_of_length_eq_zero h0
  exact ⟨none,0,hv,rfl,Nat.le_refl _,by unfold maxLen;omega,by simp,.inl rfl⟩
 ·subst hv
  exact ⟨_,_,rfl,Instrs.of_owns h rfl hf rfl⟩
def E3.fits (e:E3):Prop:=e.1.size≤maxLen∧(∀ x ∈ e.2.1,I3.fits x)∧∀ z ∈ e.2.2,(Lit.int .i64 z).wf=true
theorem Emem.fits {w:World} {s:Sl2} {e:E3} (h:Emem w s e):e.fits:=⟨h.1.1,h.2.1.2.2.2.1,h.2.2.2⟩
theorem own_nil0 {w:World} {B e s n:Nat} {a:Option Addr} {m c:Nat} {xs:List Value} (h:w.ownsRow B e s (.slice a m c) n xs):a=none→c=0:=by
 rcases h.2 with ⟨hv,_⟩ | ⟨g,cap,cur,hv,_⟩
 ·injection hv with e1 e2 e3
  exact fun _=>e3
 ·injection hv with e1 e2 e3
  intro ha
  rw [ha] at e1
  cases e1
theorem OwnE.mem {w:World} {B:Nat} {s:Sl2} {e:E3} (h:OwnE w B (.slice s.1.1 s.1.2.1 s.1.2.2) (.slice s.2.1 s.2.2.1 s.2.2.2) e) (hf:e.fits):Emem w s e:=by
 obtain ⟨⟨a1,n1,c1⟩,⟨a2,n2,c2⟩⟩:=s
 obtain ⟨h1,h2⟩:=h
 simp only at h1 h2
 refine ⟨⟨hf.1,own_nil0 h1,own_nil0 h2⟩,?_,?_,hf.2.2⟩
 ·obtain ⟨a,cap,hv,hI⟩:=Instrs.of_ownB9 h1 hf.2.1
  injection hv with e1 e2 e3
  subst e1 e2 e3
  exact hI
 ·obtain ⟨a,cap,hv⟩:=slice8 h2
  injection hv with e1 e2 e3
  subst e1 e2 e3
  exact ints8 h2

end Go.Proofs.YthlcdhddickdiaaDoor
