/-
  Joined: CopyG, Marks, MarkV, MarkW, OwnS.
-/
import Derived.Laws.CopyOwn
import Derived.Laws.Tables
import Derived.Test.YtojcgajjnmjjpaaGreatDoorF10

namespace Go.Proofs.YtojcgajjnmjjpaaGreatDoor
set_option maxRecDepth 100000
open Go.RowKit

theorem blkAt {g:Nat} (w:World) (t:Nat) (cs:List Value) (h:g=w.heap.size):Blk (w.alloc (.cells cs.toArray t)) g t cs:=by
 subst h
 exact Blk.new w t cs
theorem blkOld {g t:Nat} {cs:List Value} {w:World} (o:Obj) (h:Blk w g t cs):Blk (w.alloc o) g t cs:=(Below.heap_alloc w o g h.lt).trans h
theorem grown_setRow (w:World) (g:Nat) (cs:Array Value):w.grownBy (w.setRow g cs) (some g):=
 ⟨rfl,rfl,rfl,by simp [World.setRow],fun k _ hk=>setRow_other w g k cs (fun e=>hk (by rw [e]))⟩

theorem step_copy_grown {P:Program} {ops:Array Oper} {o:Oper} {a:Act} {w:World} {K:Act→World→Prop} {Q:Exit→Act→World→Prop} {E:Prop} (hgd:o.guard=none) (d s:Operand) (dT sT:TypeId)
  (ho:o.op=.call { callee:=.builtin .copy,args:=#[d,s],argTypes:=#[dT,sT] }) (elem:TypeId) (hu:P.underlying dT=some (.slice elem)) (hsz:(P.info? elem).map (·.size)=some 1)
  (g off:Nat) (ad:Addr) (dLen dCap sLen sCap:Nat) (hd:a.eval d=.slice (some ⟨g,off,none⟩) dLen dCap) (hs:a.eval s=.slice (some ad) sLen sCap)
  (cur:List Value) (t:TypeId) (hg:Blk w g t cur) (cs:List Value) (r:Value) (hr:goInt cs.length=r) (hn:cs.length=Nat.min sLen dLen)
  (hsrc:∀ j v,cs[j]?=some v→w.cell? (ad.add j)=some v)
  (hfit:off+cs.length≤cur.length) (h1:∀ v ∈ cs,v.oneCell'=true)
  (h:∀ w',Hid (Blk w' g t (splice cur off cs))→w.grownBy w' (some g)→K (a.put o.dst r) w') :
  if Region.wanted o (yielded ops a.tmps)=true then Oper.wp P o a w K Q else E:=by
 have hw:Region.wanted o (yielded ops a.tmps)=true:=by simp [Region.wanted,hgd]
 subst hr
 rw [if_pos hw]
 have hrun:=run_copy_row (P:=P) w dT sT o.type elem g off dLen dCap ad sLen sCap cur.toArray t cs hu hsz hg hn hsrc (by simpa using hfit) h1
 unfold Oper.wp
 simp [execOp,ho,resolve,invoke,builtin,hd,hs,hrun,Result.andThen]
 refine h _ (show _=_ by simpa [splice] using setRow_heap w g _ _ t _ hg) (grown_setRow _ _ _)

theorem Blk.kept {w w':World} {g t:Nat} {cs:List Value} {r:Option Nat} (h:Blk w g t cs) (hg:w.grownBy w' r) (hr:r≠some g):Blk w' g t cs:=(hg.block g h.lt (Ne.symm hr)).trans h
theorem blk_ne {w:World} {g g' t t':Nat} {cs cs':List Value} (h:Blk w g t cs) (h':Blk w g' t' cs') (ht:t≠t'):g≠g':=by
 rintro rfl
 unfold Blk at h h'
 rw [h] at h'
 simp at h'
 exact ht h'.2
theorem load_blk {P:Program} {w:World} {g t:Nat} {cs:List Value} (ty:TypeId) (d:TypeDesc) (h:Blk w g t cs) (hu:P.underlying ty=some d) (hd:(match d with | .struct _ | .array _ _=>true | _=>false)=true) (hi:(P.info? ty).map (·.size)=some cs.length) :
  (loadVar ty ⟨g,0,none⟩).run P w=.ok (.agg cs.toArray) w:=run_loadVar_row w g t ty cs.toArray (0,0) d h hu hd (by simpa using hi)
theorem blk_setRow {w:World} {g t:Nat} {cs:List Value} (vs:List Value) (h:Blk w g t cs):Blk (w.setRow g vs.toArray) g t vs:=setRow_heap w g _ _ t _ h

section
variable {P : Program} {ops : Array Oper} {rest : List Oper} {o : Oper} {a : Act} {w : World} {Q : Exit → Act → World → Prop}
theorem wpList_load_blk (hgd:o.guard=none) (ty:TypeId) (x:Operand) (ho:o.op=.load ty x) (g:Nat) (hx:a.eval x=.pointer (some ⟨g,0,none⟩)) {t:Nat} {cs:List Value} (hB:Blk w g t cs) (d:TypeDesc)
  (hu:P.underlying ty=some d) (hd:(match d with | .struct _ | .array _ _=>true | _=>false)=true) (hi:(P.info? ty).map (·.size)=some cs.length)
  (h:wpList P ops Q rest (a.put o.dst (.agg cs.toArray)) w):wpList P ops Q (o::rest) a w:=
 wpList_load_row hgd ty x ho g hx t cs.toArray (0,0) d hB hu hd (by simpa using hi) h
theorem wpList_store_blk (hgd:o.guard=none) (ty:TypeId) (x y:Operand) (ho:o.op=.store ty x y) (g:Nat) (vs:List Value) (hx:a.eval x=.pointer (some ⟨g,0,none⟩)) (hy:a.eval y=.agg vs.toArray) {t:Nat} {cs:List Value} (hB:Blk w g t cs)
  (hi:(P.info? ty).map (·.size)=some vs.length) (hl:cs.length=vs.length) (h1:vs.all (·.oneCell')=true)
  (h:∀ w',Hid (Blk w' g t vs)→w.grownBy w' (some g)→wpList P ops Q rest (a.put o.dst undef) w'):wpList P ops Q (o::rest) a w:=
 wpList_store_row hgd ty x y ho g vs.toArray hx hy t cs.toArray hB (by simpa using hi) (by simpa using hl) (by simpa using h1) (h _ (blk_setRow vs hB) (grown_setRow _ _ _))
end

section
variable {P : Program} {fn : Func} {p q r : Tmp} {ty : TypeId}
theorem results_blk1 (h:fn.results=#[.cell p ty]) (tmps:Array Value) (w:World) (g t:Nat) (cs:List Value) (d:TypeDesc) (hp:tmps.getD p undef=.pointer (some ⟨g,0,none⟩)) (hB:Blk w g t cs)
  (hu:P.underlying ty=some d) (hd:(match d with | .struct _ | .array _ _=>true | _=>false)=true) (hi:(P.info? ty).map (·.size)=some cs.length) :
  (results fn tmps).run P w=.ok (.agg cs.toArray) w:=results_cell_row h tmps w g t cs.toArray (0,0) d hp hB hu hd (by simpa using hi)
theorem results_blk2 (h:fn.results=#[.cell p ty,.tmp q]) (tmps:Array Value) (w:World) (g t:Nat) (cs:List Value) (d:TypeDesc) (hp:tmps.getD p undef=.pointer (some ⟨g,0,none⟩)) (hB:Blk w g t cs)
  (hu:P.underlying ty=some d) (hd:(match d with | .struct _ | .array _ _=>true | _=>false)=true) (hi:(P.info? ty).map (·.size)=some cs.length) :
  (results fn tmps).run P w=.ok (.tuple #[.agg cs.toArray,tmps.getD q undef]) w:=by
 have hp':tmps[p]?.getD undef=.pointer (some ⟨g,0,none⟩):=by simpa using hp
 simp [results,h,hp',asAddr,load_blk ty d hB hu hd hi]
end


def mkTo:Int→List Int→Nat→List Int
 | _,xs,0=>xs
 | _,[],_+1=>[]
 | k,_::xs,j+1=>k::mkTo (k+1) xs j
theorem mkTo_len:∀ (k:Int) (xs:List Int) (j:Nat),(mkTo k xs j).length=xs.length
 | _,xs,0=>by simp [mkTo]
 | _,[],_+1=>by simp [mkTo]
 | k,_::xs,j+1=>by simp [mkTo,mkTo_len]
theorem mkTo_set:∀ (k:Int) (xs:List Int) (j:Nat),j<xs.length→(mkTo k xs j).set j (k+j)=mkTo k xs (j+1)
 | _,[],j,h=>by simp at h
 | k,x::xs,0,_=>by simp [mkTo]
 | k,x::xs,j+1,h=>by
  have ih:=mkTo_set (k+1) xs j (by simpa using h)
  have e:k+((j+1:Nat):Int)=k+1+(j:Int):=by omega
  rw [e]
  simp only [mkTo,List.set_cons_succ,ih]
theorem mkTo_get:∀ (k:Int) (xs:List Int) (j i:Nat),i<j→j≤xs.length→(mkTo k xs j).getD i 0=k+i
 | _,xs,0,i,h,_=>by omega
 | _,[],j+1,i,_,h=>by simp at h
 | k,x::xs,j+1,0,_,_=>by simp [mkTo]
 | k,x::xs,j+1,i+1,h,hl=>by
  have ih:=mkTo_get (k+1) xs j i (by omega) (by simpa using hl)
  have e:k+((i+1:Nat):Int)=k+1+(i:Int):=by omega
  rw [e,← ih]
  simp [mkTo]

theorem markIntS_none (a:Option Addr) (cap:Nat) (k:Int) (w:World) :
  Calls Tryz.prog 27 #[.slice a 0 cap,.int .i64 k] w fun e w'=>e=.returned (.int .i64 k)∧w=w':=by
 go_enter Tryz.func27,Tryz.ntmps27
 go_wp2
 refine wp_loop_rounds 1 ?_
 rw [rounds_succ]
 go_wp2
 go_ret
 exact ⟨rfl,rfl⟩

set_option maxHeartbeats 1000000 in
theorem heldIntS_yes (a:Option Addr) (n cap:Nat) (k:Int) (zs:List Int) (w:World) (hk0:0≤k) (hk:k≤1000000000) (hn:n≤1048576) (h:Ints .i64 w a n cap zs) (hm:∀ i,i<n→zs.getD i 0=k+i) :
  Calls Tryz.prog 28 #[.slice a n cap,.int .i64 k] w fun e w'=>e=.returned (.int .i64 (k+n))∧w=w':=by
 obtain ⟨hl,hlc,hcm,hcase⟩:=h
 unfold maxLen at hcm
 by_cases h0:n=0
 ·subst h0
  have e0:k+((0:Nat):Int)=k:=by omega
  rw [e0]
  go_enter Tryz.func28,Tryz.ntmps28
  go_wp2
  refine wp_loop_rounds 1 ?_
  rw [rounds_succ]
  go_wp2
  go_ret
  exact ⟨rfl,rfl⟩
 ·rcases hcase with h0' | ⟨b,off,rfl,hblt,hcell⟩
  ·exact absurd h0' h0
  go_enter Tryz.func28,Tryz.ntmps28
  go_wp2
  go_loop [1,5] (fun sk si=>∃ j:Nat,j≤n∧si=.int .i64 j∧sk=.int .i64 (k+j)) (fun _ si=>n - (intOf si).toNat)
  case atStart=>exact ⟨0,by omega,rfl,by go_num⟩
  case round =>
   obtain ⟨j,hj,rfl,rfl⟩:=hrel
   by_cases hlt:j<n
   ·have hc:=hcell j hlt
    rw [hm j hlt] at hc
    have hne:((k+(j:Int)) != (k+(j:Int)))=false:=by simp
    clear hcell hm
    go_wp2
    go_round
    case rel=>exact ⟨j+1,by omega,by go_num,by go_num⟩
    case measure=>simp [intOf];omega
   ·obtain rfl:j=n:=by omega
    go_wp2
    go_ret
    exact ⟨rfl,rfl⟩


theorem Sl.some_or {w:World} {B:Nat} {s:Sl} {zs:List Int} (h:OwnI w B s zs):(s=(none,0,0)∧zs=[])∨∃ g n c,s=(some ⟨g,0,none⟩,n,c):=by
 obtain ⟨a,n,c⟩:=s
 unfold OwnI at h
 simp only at h
 rcases h.2 with ⟨h0,h1⟩ | ⟨g,cap,cur,hv,_⟩
 ·cases h0
  exact .inl ⟨rfl,by simpa using h.1⟩
 ·cases hv
  exact .inr ⟨g,n,c,rfl⟩

set_option maxHeartbeats 1000000 in
theorem markIntS_grown0 (base g n cap:Nat) (k:Int) (xs:List Int) (w:World) (hk0:0≤k) (hk:k≤1000000000) (hn:n≤1048576) (ho:w.ownsRow base 3 1 (.slice (some ⟨g,0,none⟩) n cap) n (xs.map (Value.int .i64))) :
  Calls Tryz.prog 27 #[.slice (some ⟨g,0,none⟩) n cap,.int .i64 k] w fun e w'=>e=.returned (.int .i64 (k+n)) ∧
   w'.ownsRow base 3 1 (.slice (some ⟨g,0,none⟩) n cap) n ((mkTo k xs n).map (Value.int .i64))∧w.grownBy w' (some g):=by
 have hlen:xs.length=n:=by simpa using ho.1
 go_enter Tryz.func27,Tryz.ntmps27
 go_wp2
 go_loopw [1,5] (fun sk si wr=>∃ j:Nat,j≤n∧si=.int .i64 j∧sk=.int .i64 (k+j)∧wr.ownsRow base 3 1 (.slice (some ⟨g,0,none⟩) n cap) n ((mkTo k xs j).map (Value.int .i64))∧w.grownBy wr (some g)) (fun _ si _=>n - (intOf si).toNat)
 case atStart=>exact ⟨0,by omega,rfl,by go_num,by simpa [mkTo] using ho,World.grownBy.refl _ _⟩
 case round =>
  obtain ⟨j,hj,rfl,rfl,hr,hbel⟩:=hrel
  by_cases hlt:j<n
  ·have hf:=hr.frozenAt j
   have hst:=(hr.stored j (.int .i64 (k+j))).1
   rw [← List.map_set,mkTo_set k xs j (by omega)] at hst
   have hold:∃ u,wr.cell? ⟨g,j,none⟩=some u:=by
    have:=hr.cellAt j (by omega)
    rw [this]
    exact ⟨_,List.getElem?_eq_getElem (by simp [mkTo_len];omega)⟩
   obtain ⟨u,hu⟩:=hold
   have hb1:=grownBy_tr hbel (grownBy_set wr g j (.int .i64 (k+j)))
   clear hr ho
   go_wp2
   go_roundw
   case rel=>exact ⟨j+1,by omega,by go_num,by go_num,hst,hb1⟩
   case measure=>simp [intOf];omega
  ·obtain rfl:j=n:=by omega
   go_wp2
   go_ret
   exact ⟨rfl,hr,hbel⟩

theorem markIntS_grown (B:Nat) (s:Sl) (k:Int) (xs:List Int) (w:World) (hk0:0≤k) (hk:k≤1000000000) (hn:s.2.1≤1048576) (ho:OwnI w B s xs) :
  Calls Tryz.prog 27 #[.slice s.1 s.2.1 s.2.2,.int .i64 k] w fun e w'=>e=.returned (.int .i64 (k+s.2.1))∧OwnI w' B s (mkTo k xs s.2.1)∧w.grownBy w' (Value.slice s.1 s.2.1 s.2.2).ownBlock:=by
 rcases Sl.some_or ho with ⟨rfl,rfl⟩ | ⟨g,n,c,rfl⟩
 ·refine (markIntS_none none 0 k w).mono ?_
  rintro e w' ⟨rfl,rfl⟩
  exact ⟨by simp,ho,World.grownBy.refl _ _⟩
 ·exact markIntS_grown0 B g n c k xs w hk0 hk hn ho

def KeptOff (s:S4) (w w':World):Prop:=∀ j,j<w.heap.size→(Value.slice s.1.1 s.1.2.1 s.1.2.2).ownBlock≠some j→(Value.slice s.2.1.1 s.2.1.2.1 s.2.1.2.2).ownBlock≠some j→(Value.slice s.2.2.1.1 s.2.2.1.2.1 s.2.2.1.2.2).ownBlock≠some j→(Value.slice s.2.2.2.1 s.2.2.2.2.1 s.2.2.2.2.2).ownBlock≠some j→w'.heap[j]?=w.heap[j]?

def mkV (k:Int) (m:V4):V4:=
 (mkTo k m.1 m.1.length,mkTo (k+m.1.length) m.2.1 m.2.1.length,mkTo (k+m.1.length+m.2.1.length) m.2.2.1 m.2.2.1.length,mkTo (k+m.1.length+m.2.1.length+m.2.2.1.length) m.2.2.2 m.2.2.2.length)
def cntV (m:V4):Int:=(m.1.length:Int)+m.2.1.length+m.2.2.1.length+m.2.2.2.length

theorem OwnI.len {w:World} {B:Nat} {s:Sl} {zs:List Int} (h:OwnI w B s zs):zs.length=s.2.1:=by
 have:=h.1
 simpa using this
theorem OwnI.kept {w w':World} {B:Nat} {s s':Sl} {zs:List Int} (h:OwnI w B s zs) (hg:w.grownBy w' (Value.slice s'.1 s'.2.1 s'.2.2).ownBlock) (ha:Apart s s'):OwnI w' B s zs:=by
 refine World.ownsRow.kept h hg ?_
 cases hb:(Value.slice s.1 s.2.1 s.2.2).ownBlock with
 | none=>exact .inl rfl
 | some g=>exact .inr fun e=>ha g hb e.symm
theorem Apart.symm {s s':Sl} (h:Apart s s'):Apart s' s:=fun g h1 h2=>h g h2 h1

theorem Hid.mk9 {p:Prop} (h:p):Hid p:=h

set_option maxHeartbeats 4000000 in
theorem markVm_own (B:Nat) (s:S4) (k:Int) (m:V4) (w:World) (hk0:0≤k) (hk:k≤100000000) (h:OwnV w B s m) (hB:B≤w.heap.size)
  (l0:m.1.length≤1048576) (l1:m.2.1.length≤1048576) (l2:m.2.2.1.length≤1048576) (l3:m.2.2.2.length≤1048576) :
  Calls Tryz.prog 26 #[s.val,.int .i64 k] w fun e w'=>e=.returned (.int .i64 (k+cntV m))∧OwnV w' B s (mkV k m)∧KeptOff s w w'∧Below B w w':=by
 obtain ⟨⟨o0,o1,o2,o3⟩,a01,a02,a03,a12,a13,a23⟩:=h
 have e0:=o0.len
 have e1:=o1.len
 have e2:=o2.len
 have e3:=o3.len
 unfold cntV mkV
 obtain ⟨m0,m1,m2,m3⟩:=m
 have HK:Hid (∀ w1 w2 w3 w4 w5:World,Below w.heap.size w w1→w1.grownBy w2 (Value.slice s.1.1 s.1.2.1 s.1.2.2).ownBlock→w2.grownBy w3 (Value.slice s.2.1.1 s.2.1.2.1 s.2.1.2.2).ownBlock→w3.grownBy w4 (Value.slice s.2.2.1.1 s.2.2.1.2.1 s.2.2.1.2.2).ownBlock→w4.grownBy w5 (Value.slice s.2.2.2.1 s.2.2.2.2.1 s.2.2.2.2.2).ownBlock→KeptOff s w w5∧Below B w w5):=by
  intro w1 w2 w3 w4 w5 hb g1 g2 g3 g4
  have z1:=hb.size
  have z2:=g1.size
  have z3:=g2.size
  have z4:=g3.size
  refine ⟨fun j hj n0 n1 n2 n3=>?_,?_⟩
  ·rw [g4.block j (by omega) (Ne.symm n3),g3.block j (by omega) (Ne.symm n2),g2.block j (by omega) (Ne.symm n1),g1.block j (by omega) (Ne.symm n0),hb.block j hj]
  ·have b1:Below B w w1:=hb.mono hB
   have b2:=b1.grown g1 (by omega) (fun x hx=>(o0.lt x hx).1)
   have b3:=b2.grown g2 (by omega) (fun x hx=>(o1.lt x hx).1)
   have b4:=b3.grown g3 (by omega) (fun x hx=>(o2.lt x hx).1)
   exact b4.grown g4 (by omega) (fun x hx=>(o3.lt x hx).1)
 obtain ⟨⟨b0,n0,c0⟩,⟨b1,n1,c1⟩,⟨b2,n2,c2⟩,⟨b3,n3,c3⟩⟩:=s
 unfold S4.val
 simp only at e0 e1 e2 e3 l0 l1 l2 l3 o0 o1 o2 o3 HK a01 a02 a03 a12 a13 a23 ⊢
 subst e0 e1 e2 e3
 have bw:Below w.heap.size w (w.alloc (.cells #[.slice b0 m0.length c0,.slice b1 m1.length c1,.slice b2 m2.length c2,.slice b3 m3.length c3] 37)):=by go_grown
 have pP:=box4 w (.slice b0 m0.length c0) (.slice b1 m1.length c1) (.slice b2 m2.length c2) (.slice b3 m3.length c3) 37 w.heap.size (Nat.le_refl _)
 replace o0:=o0.below bw
 replace o1:=o1.below bw
 replace o2:=o2.below bw
 replace o3:=o3.below bw
 have H1:=fun w2 w3 w4 w5=>HK.out _ w2 w3 w4 w5 bw
 replace H1:=Hid.mk9 H1
 clear HK bw
 go_enter Tryz.func26,Tryz.ntmps26
 go_wp2_with fail
 generalize (w.alloc (.cells #[.slice b0 m0.length c0,.slice b1 m1.length c1,.slice b2 m2.length c2,.slice b3 m3.length c3] 37))=W0 at *
 generalize w.heap.size=g at pP ⊢
 refine (markIntS_grown B (b0,m0.length,c0) k m0 _ hk0 (by omega) l0 o0).mono ?_
 rintro e w1 ⟨rfl,r0,g1⟩
 replace pP:=pP.kept g1 (owns_ne pP o0 (by decide))
 replace o1:=o1.kept (s':=(b0,m0.length,c0)) g1 a01.symm
 replace o2:=o2.kept (s':=(b0,m0.length,c0)) g1 a02.symm
 replace o3:=o3.kept (s':=(b0,m0.length,c0)) g1 a03.symm
 have y1:w1.cell? ⟨g,1,none⟩=some (.slice b1 m1.length c1):=by simpa using pP.cellAt 1 (by simp)
 simp only
 go_wp2_with fail
 refine (markIntS_grown B (b1,m1.length,c1) (k+m0.length) m1 _ (by omega) (by omega) l1 o1).mono ?_
 rintro e w2 ⟨rfl,r1,g2⟩
 replace pP:=pP.kept g2 (owns_ne pP o1 (by decide))
 replace r0:=OwnI.kept r0 (s':=(b1,m1.length,c1)) g2 a01
 replace o2:=o2.kept (s':=(b1,m1.length,c1)) g2 a12.symm
 replace o3:=o3.kept (s':=(b1,m1.length,c1)) g2 a13.symm
 have y2:w2.cell? ⟨g,2,none⟩=some (.slice b2 m2.length c2):=by simpa using pP.cellAt 2 (by simp)
 simp only
 clear y1
 go_wp2_with fail
 refine (markIntS_grown B (b2,m2.length,c2) (k+m0.length+m1.length) m2 _ (by omega) (by omega) l2 o2).mono ?_
 rintro e w3 ⟨rfl,r2,g3⟩
 replace pP:=pP.kept g3 (owns_ne pP o2 (by decide))
 replace r0:=OwnI.kept r0 (s':=(b2,m2.length,c2)) g3 a02
 replace r1:=OwnI.kept r1 (s':=(b2,m2.length,c2)) g3 a12
 replace o3:=o3.kept (s':=(b2,m2.length,c2)) g3 a23.symm
 have y3:w3.cell? ⟨g,3,none⟩=some (.slice b3 m3.length c3):=by simpa using pP.cellAt 3 (by simp)
 simp only
 clear y2
 go_wp2_with fail
 refine (markIntS_grown B (b3,m3.length,c3) (k+m0.length+m1.length+m2.length) m3 _ (by omega) (by omega) l3 o3).mono ?_
 rintro e w4 ⟨rfl,r3,g4⟩
 replace r0:=OwnI.kept r0 (s':=(b3,m3.length,c3)) g4 a03
 replace r1:=OwnI.kept r1 (s':=(b3,m3.length,c3)) g4 a13
 replace r2:=OwnI.kept r2 (s':=(b3,m3.length,c3)) g4 a23
 obtain ⟨z1,z2⟩:=H1.out w1 w2 w3 w4 g1 g2 g3 g4
 simp only
 clear y3 H1 g1 g2 g3 g4 pP
 have hfin:k+(m0.length:Int)+m1.length+m2.length+m3.length=k+((m0.length:Int)+m1.length+m2.length+m3.length):=by omega
 rw [hfin]
 clear hfin
 go_wp2
 go_ret
 exact ⟨rfl,⟨⟨r0,r1,r2,r3⟩,a01,a02,a03,a12,a13,a23⟩,z1,z2⟩


theorem OwnProg.codes9 {w:World} {B:Nat} {a:Option Addr} {len cap:Nat} {rows:List (List I3)} (h:OwnProg w B (.slice a len cap) rows) {w0:World} {a0:Option Addr} {len0 cap0:Nat} (h0:Codes w0 a0 len0 cap0 rows):Codes w a len cap rows:=by
 refine h.codes fun r hr x hx=>?_
 obtain ⟨hl,_,_,hc⟩:=h0
 obtain ⟨t,ht,rfl⟩:=List.getElem_of_mem hr
 rcases hc with hc | ⟨b,off,_,_,hc⟩
 ·omega
 ·obtain ⟨_,_,_,_,hI⟩:=hc t (by omega)
  have e:rows.getD t []=rows[t]:=by simp [List.getD,ht]
  rw [e] at hI
  exact hI.2.2.2.1 x hx
theorem OwnI.lower9 {w:World} {B B':Nat} {s:Sl} {zs:List Int} (h:OwnI w B s zs) (hB:B'≤B):OwnI w B' s zs:=own_lower h hB
theorem OwnV.lower9 {w:World} {B B':Nat} {s:S4} {m:V4} (h:OwnV w B s m) (hB:B'≤B):OwnV w B' s m:=⟨⟨h.1.1.lower9 hB,h.1.2.1.lower9 hB,h.1.2.2.1.lower9 hB,h.1.2.2.2.lower9 hB⟩,h.2⟩
def Blocks (s:S4) (n:Nat):Prop:=(∀ g,(Value.slice s.1.1 s.1.2.1 s.1.2.2).ownBlock=some g→g<n)∧(∀ g,(Value.slice s.2.1.1 s.2.1.2.1 s.2.1.2.2).ownBlock=some g→g<n)∧(∀ g,(Value.slice s.2.2.1.1 s.2.2.1.2.1 s.2.2.1.2.2).ownBlock=some g→g<n)∧∀ g,(Value.slice s.2.2.2.1 s.2.2.2.2.1 s.2.2.2.2.2).ownBlock=some g→g<n
theorem OwnV.blocks {w:World} {B:Nat} {s:S4} {m:V4} (h:OwnV w B s m):Blocks s w.heap.size:=⟨fun g hg=>(h.1.1.lt g hg).2,fun g hg=>(h.1.2.1.lt g hg).2,fun g hg=>(h.1.2.2.1.lt g hg).2,fun g hg=>(h.1.2.2.2.lt g hg).2⟩
theorem Blocks.lt9 {s:S4} {n k:Nat} (h:Blocks s n) (hn:n≤k):Blocks s k:=⟨fun g hg=>Nat.lt_of_lt_of_le (h.1 g hg) hn,fun g hg=>Nat.lt_of_lt_of_le (h.2.1 g hg) hn,fun g hg=>Nat.lt_of_lt_of_le (h.2.2.1 g hg) hn,fun g hg=>Nat.lt_of_lt_of_le (h.2.2.2 g hg) hn⟩
theorem OwnI.but9 {t:Nat} {w w':World} {B:Nat} {s:Sl} {zs:List Int} (h:OwnI w B s zs) (hK:KeptBut t w w') (ht:3≠t):OwnI w' B s zs:=hK.owns h ht
theorem OwnV.but9 {t:Nat} {w w':World} {B:Nat} {s:S4} {m:V4} (h:OwnV w B s m) (hK:KeptBut t w w') (ht:3≠t):OwnV w' B s m:=⟨⟨h.1.1.but9 hK ht,h.1.2.1.but9 hK ht,h.1.2.2.1.but9 hK ht,h.1.2.2.2.but9 hK ht⟩,h.2⟩
theorem KeptBut.blk9 {t:Nat} {w w':World} {g e:Nat} {cs:List Value} (hK:KeptBut t w w') (h:Blk w g e cs) (he:e≠t):Blk w' g e cs:=hK g _ e _ h he
theorem OwnI.off9 {w w':World} {B n:Nat} {s:S4} {r:Sl} {zs:List Int} (h:OwnI w B r zs) (hK:KeptOff s w w') (hs:Blocks s n) (hn:n≤B):OwnI w' B r zs:=by
 refine ⟨h.1,?_⟩
 rcases h.2 with h0 | ⟨g,cap,cur,hv,hg,hh,rest⟩
 ·exact .inl h0
 ·refine .inr ⟨g,cap,cur,hv,hg,?_,rest⟩
  rw [hK g (Array.getElem?_eq_some_iff.1 hh).1 (fun e=>by have:=hs.1 g e;omega) (fun e=>by have:=hs.2.1 g e;omega) (fun e=>by have:=hs.2.2.1 g e;omega) (fun e=>by have:=hs.2.2.2 g e;omega)]
  exact hh
theorem OwnV.off9 {w w':World} {B n:Nat} {s:S4} {r:S4} {m:V4} (h:OwnV w B r m) (hK:KeptOff s w w') (hs:Blocks s n) (hn:n≤B):OwnV w' B r m:=⟨⟨h.1.1.off9 hK hs hn,h.1.2.1.off9 hK hs hn,h.1.2.2.1.off9 hK hs hn,h.1.2.2.2.off9 hK hs hn⟩,h.2⟩
theorem own_ne_blk9 {w:World} {B e s n g t:Nat} {v:Value} {xs cs:List Value} (h:w.ownsRow B e s v n xs) (hB:Blk w g t cs) (he:e≠t):v.ownBlock≠some g:=by
 rcases h.2 with ⟨rfl,_⟩ | ⟨g',cap,cur,rfl,_,hg,_⟩
 ·simp [Value.ownBlock]
 ·simp only [Value.ownBlock,ne_eq,Option.some.injEq]
  rintro rfl
  unfold Blk at hB
  rw [hg] at hB
  simp at hB
  exact he hB.2
theorem Blk.off9 {w w':World} {B g e:Nat} {s:S4} {m:V4} {cs:List Value} (h:Blk w g e cs) (hK:KeptOff s w w') (hX:OwnV w B s m) (he:3≠e):Blk w' g e cs:=
 (hK g h.lt (own_ne_blk9 hX.1.1 h he) (own_ne_blk9 hX.1.2.1 h he) (own_ne_blk9 hX.1.2.2.1 h he) (own_ne_blk9 hX.1.2.2.2 h he)).trans h


theorem OwnI.at9 {w:World} {B g n c:Nat} {zs:List Int} (h:OwnI w B (some ⟨g,0,none⟩,n,c) zs) {j:Nat} (hj:j<n):w.cell? ⟨g,j,none⟩=some (.int .i64 (zs.getD j 0)):=by
 have hl:=h.len
 simp only at hl
 have:=h.cellAt j (by simp only;omega)
 rw [this]
 simp [List.getElem?_eq_getElem (show j<zs.length by omega)]
theorem OwnI.frz9 {w:World} {B g n c:Nat} {zs:List Int} (h:OwnI w B (some ⟨g,0,none⟩,n,c) zs) (j:Nat):w.frozen? ⟨g,j,none⟩=false:=h.frozenAt j
theorem OwnI.set9 {w:World} {B g n c:Nat} {zs:List Int} (h:OwnI w B (some ⟨g,0,none⟩,n,c) zs) (j:Nat) (v:Int):OwnI (w.setCell ⟨g,j,none⟩ (.int .i64 v)) B (some ⟨g,0,none⟩,n,c) (zs.set j v):=by
 have:=(h.stored j (.int .i64 v)).1
 rw [← List.map_set] at this
 exact this
theorem OwnI.away9 {w:World} {B g n c:Nat} {s:Sl} {zs:List Int} (h:OwnI w B s zs) (ha:Apart (some ⟨g,0,none⟩,n,c) s) (j:Nat) (v:Value):OwnI (w.setCell ⟨g,j,none⟩ v) B s zs:=
 ownsRow_setCell_other h (fun e=>ha g rfl e) v
theorem OwnI.lo9 {w:World} {B g n c:Nat} {zs:List Int} (h:OwnI w B (some ⟨g,0,none⟩,n,c) zs):B≤g∧g<w.heap.size:=h.lt g rfl

section
variable {w : World} {B g n c : Nat} {s0 s1 s2 s3 : Sl} {m : V4}
theorem OwnV.set0 (h:OwnV w B ((some ⟨g,0,none⟩,n,c),s1,s2,s3) m) (j:Nat) (v:Int):OwnV (w.setCell ⟨g,j,none⟩ (.int .i64 v)) B ((some ⟨g,0,none⟩,n,c),s1,s2,s3) (m.1.set j v,m.2):=
 ⟨⟨h.1.1.set9 j v,h.1.2.1.away9 h.2.1 j _,h.1.2.2.1.away9 h.2.2.1 j _,h.1.2.2.2.away9 h.2.2.2.1 j _⟩,h.2⟩
theorem OwnV.set1 (h:OwnV w B (s0,(some ⟨g,0,none⟩,n,c),s2,s3) m) (j:Nat) (v:Int):OwnV (w.setCell ⟨g,j,none⟩ (.int .i64 v)) B (s0,(some ⟨g,0,none⟩,n,c),s2,s3) (m.1,m.2.1.set j v,m.2.2):=
 ⟨⟨h.1.1.away9 h.2.1.symm j _,h.1.2.1.set9 j v,h.1.2.2.1.away9 h.2.2.2.2.1 j _,h.1.2.2.2.away9 h.2.2.2.2.2.1 j _⟩,h.2⟩
theorem OwnV.set2 (h:OwnV w B (s0,s1,(some ⟨g,0,none⟩,n,c),s3) m) (j:Nat) (v:Int):OwnV (w.setCell ⟨g,j,none⟩ (.int .i64 v)) B (s0,s1,(some ⟨g,0,none⟩,n,c),s3) (m.1,m.2.1,m.2.2.1.set j v,m.2.2.2):=
 ⟨⟨h.1.1.away9 h.2.2.1.symm j _,h.1.2.1.away9 h.2.2.2.2.1.symm j _,h.1.2.2.1.set9 j v,h.1.2.2.2.away9 h.2.2.2.2.2.2 j _⟩,h.2⟩
theorem OwnV.set3 (h:OwnV w B (s0,s1,s2,(some ⟨g,0,none⟩,n,c)) m) (j:Nat) (v:Int):OwnV (w.setCell ⟨g,j,none⟩ (.int .i64 v)) B (s0,s1,s2,(some ⟨g,0,none⟩,n,c)) (m.1,m.2.1,m.2.2.1,m.2.2.2.set j v):=
 ⟨⟨h.1.1.away9 h.2.2.2.1.symm j _,h.1.2.1.away9 h.2.2.2.2.2.1.symm j _,h.1.2.2.1.away9 h.2.2.2.2.2.2.symm j _,h.1.2.2.2.set9 j v⟩,h.2⟩
end
theorem OwnI.some9 {w:World} {B:Nat} {s:Sl} {zs:List Int} {k:Nat} (h:OwnI w B s zs) (hl:zs.length=k) (hk:0<k):∃ g c,s=(some ⟨g,0,none⟩,k,c)∧k≤c∧c≤maxLen:=by
 have hi:=h.ints
 rcases Sl.some_or h with ⟨rfl,rfl⟩ | ⟨g,n,c,rfl⟩
 ·simp at hl;omega
 ·obtain ⟨h1,h2,h3,_⟩:=hi
  simp only at h1 h2 h3
  exact ⟨g,c,by rw [← h1,hl],by omega,h3⟩
theorem OwnV.ne9 {w:World} {B g n c X t:Nat} {s1 s2 s3:Sl} {m:V4} {cs:List Value} (h:OwnV w B ((some ⟨g,0,none⟩,n,c),s1,s2,s3) m) (hX:Blk w X t cs) (ht:3≠t):X≠g:=fun e=>own_ne_blk9 h.1.1 hX ht (by rw [e];rfl)
theorem OwnI.ne9 {w:World} {B g n c X t:Nat} {zs:List Int} {cs:List Value} (h:OwnI w B (some ⟨g,0,none⟩,n,c) zs) (hX:Blk w X t cs) (ht:3≠t):X≠g:=fun e=>own_ne_blk9 h hX ht (by rw [e];rfl)
theorem OwnI.kept9 {w w':World} {B X t:Nat} {s:Sl} {zs:List Int} {cs:List Value} (h:OwnI w B s zs) (hg:w.grownBy w' (some X)) (hX:Blk w X t cs) (ht:3≠t):OwnI w' B s zs:=World.ownsRow.kept h hg (.inr (own_ne_blk9 h hX ht))
theorem OwnI.awayB9 {w:World} {B X t:Nat} {s:Sl} {zs:List Int} {cs:List Value} (h:OwnI w B s zs) (hX:Blk w X t cs) (ht:3≠t) (j:Nat) (v:Value):OwnI (w.setCell ⟨X,j,none⟩ v) B s zs:=ownsRow_setCell_other h (own_ne_blk9 h hX ht) v
theorem OwnV.awayB9 {w:World} {B X t:Nat} {s:S4} {m:V4} {cs:List Value} (h:OwnV w B s m) (hX:Blk w X t cs) (ht:3≠t) (j:Nat) (v:Value):OwnV (w.setCell ⟨X,j,none⟩ v) B s m:=⟨⟨h.1.1.awayB9 hX ht j v,h.1.2.1.awayB9 hX ht j v,h.1.2.2.1.awayB9 hX ht j v,h.1.2.2.2.awayB9 hX ht j v⟩,h.2⟩
theorem OwnV.kept9 {w w':World} {B X t:Nat} {s:S4} {m:V4} {cs:List Value} (h:OwnV w B s m) (hg:w.grownBy w' (some X)) (hX:Blk w X t cs) (ht:3≠t):OwnV w' B s m:=⟨⟨h.1.1.kept9 hg hX ht,h.1.2.1.kept9 hg hX ht,h.1.2.2.1.kept9 hg hX ht,h.1.2.2.2.kept9 hg hX ht⟩,h.2⟩
end Go.Proofs.YtojcgajjnmjjpaaGreatDoor
