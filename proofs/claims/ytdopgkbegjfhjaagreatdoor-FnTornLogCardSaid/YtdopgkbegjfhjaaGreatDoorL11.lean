/-
  Joined: Marks, MarkV, CopyG, MarkW, OwnS.
-/
import Derived.Laws.CopyOwn
import Derived.Laws.Tables
import Derived.Test.YtdopgkbegjfhjaaGreatDoorL04

namespace Go.Proofs.YtdopgkbegjfhjaaGreatDoor
set_option maxRecDepth 100000
set_option maxHeartbeats 16000000
open Go.RowKit

def mkTo:Int→List Int→Nat→List Int
 | _,xs,0=>xs
 | _,[],_+1=>[]
 | k,_::xs,j+1=>k::mkTo (k+1) xs j


theorem Sl.some_or {w:World} {B:Nat} {s:Sl} {zs:List Int} (h:OwnI w B s zs):(s=(none,0,0)∧zs=[])∨∃ g n c,s=(some ⟨g,0,none⟩,n,c):=by
 obtain ⟨a,n,c⟩:=s
 unfold OwnI at h
 simp only at h
 rcases h.2 with ⟨h0,h1⟩ | ⟨g,cap,cur,hv,_⟩
 ·cases h0
  exact .inl ⟨rfl,by simpa using h.1⟩
 ·cases hv
  exact .inr ⟨g,n,c,rfl⟩

theorem OwnI.len {w:World} {B:Nat} {s:Sl} {zs:List Int} (h:OwnI w B s zs):zs.length=s.2.1:=by
 have:=h.1
 simpa using this
theorem OwnI.kept {w w':World} {B:Nat} {s s':Sl} {zs:List Int} (h:OwnI w B s zs) (hg:w.grownBy w' (Value.slice s'.1 s'.2.1 s'.2.2).ownBlock) (ha:Apart s s'):OwnI w' B s zs:=by
 refine World.ownsRow.kept h hg ?_
 cases hb:(Value.slice s.1 s.2.1 s.2.2).ownBlock with
 | none=>exact .inl rfl
 | some g=>exact .inr fun e=>ha g hb e.symm
theorem Apart.symm {s s':Sl} (h:Apart s s'):Apart s' s:=fun g h1 h2=>h g h2 h1


theorem blkAt {g:Nat} (w:World) (t:Nat) (cs:List Value) (h:g=w.heap.size):Blk (w.alloc (.cells cs.toArray t)) g t cs:=by
 subst h
 exact Blk.new w t cs
theorem blkOld {g t:Nat} {cs:List Value} {w:World} (o:Obj) (h:Blk w g t cs):Blk (w.alloc o) g t cs:=(Below.heap_alloc w o g h.lt).trans h
theorem grown_setRow (w:World) (g:Nat) (cs:Array Value):w.grownBy (w.setRow g cs) (some g):=
 ⟨rfl,rfl,rfl,by simp [World.setRow],fun k _ hk=>setRow_other w g k cs (fun e=>hk (by rw [e]))⟩

theorem Blk.kept {w w':World} {g t:Nat} {cs:List Value} {r:Option Nat} (h:Blk w g t cs) (hg:w.grownBy w' r) (hr:r≠some g):Blk w' g t cs:=(hg.block g h.lt (Ne.symm hr)).trans h
theorem blk_ne {w:World} {g g' t t':Nat} {cs cs':List Value} (h:Blk w g t cs) (h':Blk w g' t' cs') (ht:t≠t'):g≠g':=by
 rintro rfl
 unfold Blk at h h'
 rw [h] at h'
 simp at h'
 exact ht h'.2
theorem load_blk {P:Program} {w:World} {g t:Nat} {cs:List Value} (ty:TypeId) (d:TypeDesc) (h:Blk w g t cs) (hu:P.underlying ty=some d) (hd:(match d with | .struct _ | .array _ _=>true | _=>false)=true) (hi:(P.info? ty).map (·.size)=some cs.length) :
  (loadVar ty ⟨g,0,none⟩).run P w=.ok (.agg cs.toArray) w:=run_loadVar_row w g t ty cs.toArray (0,0) d h hu hd (by simpa using hi)
theorem blk_setRow {w:World} {g t:Nat} {cs:List Value} (vs:List Value) (h:Blk w g t cs):Blk (w.setRow g vs.toArray) g t vs:=setRow_heap w g _ _ t _ h

section
variable {P : Program} {ops : Array Oper} {rest : List Oper} {o : Oper} {a : Act} {w : World} {Q : Exit → Act → World → Prop}
theorem wpList_load_blk (hgd:o.guard=none) (ty:TypeId) (x:Operand) (ho:o.op=.load ty x) (g:Nat) (hx:a.eval x=.pointer (some ⟨g,0,none⟩)) {t:Nat} {cs:List Value} (hB:Blk w g t cs) (d:TypeDesc)
  (hu:P.underlying ty=some d) (hd:(match d with | .struct _ | .array _ _=>true | _=>false)=true) (hi:(P.info? ty).map (·.size)=some cs.length)
  (h:wpList P ops Q rest (a.put o.dst (.agg cs.toArray)) w):wpList P ops Q (o::rest) a w:=
 wpList_load_row hgd ty x ho g hx t cs.toArray (0,0) d hB hu hd (by simpa using hi) h
theorem wpList_store_blk (hgd:o.guard=none) (ty:TypeId) (x y:Operand) (ho:o.op=.store ty x y) (g:Nat) (vs:List Value) (hx:a.eval x=.pointer (some ⟨g,0,none⟩)) (hy:a.eval y=.agg vs.toArray) {t:Nat} {cs:List Value} (hB:Blk w g t cs)
  (hi:(P.info? ty).map (·.size)=some vs.length) (hl:cs.length=vs.length) (h1:vs.all (·.oneCell')=true)
  (h:∀ w',Hid (Blk w' g t vs)→w.grownBy w' (some g)→wpList P ops Q rest (a.put o.dst undef) w'):wpList P ops Q (o::rest) a w:=
 wpList_store_row hgd ty x y ho g vs.toArray hx hy t cs.toArray hB (by simpa using hi) (by simpa using hl) (by simpa using h1) (h _ (blk_setRow vs hB) (grown_setRow _ _ _))
end

section
variable {P : Program} {fn : Func} {p q r : Tmp} {ty : TypeId}
theorem results_blk1 (h:fn.results=#[.cell p ty]) (tmps:Array Value) (w:World) (g t:Nat) (cs:List Value) (d:TypeDesc) (hp:tmps.getD p undef=.pointer (some ⟨g,0,none⟩)) (hB:Blk w g t cs)
  (hu:P.underlying ty=some d) (hd:(match d with | .struct _ | .array _ _=>true | _=>false)=true) (hi:(P.info? ty).map (·.size)=some cs.length) :
  (results fn tmps).run P w=.ok (.agg cs.toArray) w:=results_cell_row h tmps w g t cs.toArray (0,0) d hp hB hu hd (by simpa using hi)
theorem results_blk2 (h:fn.results=#[.cell p ty,.tmp q]) (tmps:Array Value) (w:World) (g t:Nat) (cs:List Value) (d:TypeDesc) (hp:tmps.getD p undef=.pointer (some ⟨g,0,none⟩)) (hB:Blk w g t cs)
  (hu:P.underlying ty=some d) (hd:(match d with | .struct _ | .array _ _=>true | _=>false)=true) (hi:(P.info? ty).map (·.size)=some cs.length) :
  (results fn tmps).run P w=.ok (.tuple #[.agg cs.toArray,tmps.getD q undef]) w:=by
 have hp':tmps[p]?.getD undef=.pointer (some ⟨g,0,none⟩):=by simpa using hp
 simp [results,h,hp',asAddr,load_blk ty d hB hu hd hi]
end


theorem OwnI.lower9 {w:World} {B B':Nat} {s:Sl} {zs:List Int} (h:OwnI w B s zs) (hB:B'≤B):OwnI w B' s zs:=own_lower h hB
theorem OwnV.lower9 {w:World} {B B':Nat} {s:S4} {m:V4} (h:OwnV w B s m) (hB:B'≤B):OwnV w B' s m:=⟨⟨h.1.1.lower9 hB,h.1.2.1.lower9 hB,h.1.2.2.1.lower9 hB,h.1.2.2.2.lower9 hB⟩,h.2⟩
theorem KeptBut.blk9 {t:Nat} {w w':World} {g e:Nat} {cs:List Value} (hK:KeptBut t w w') (h:Blk w g e cs) (he:e≠t):Blk w' g e cs:=hK g _ e _ h he
theorem own_ne_blk9 {w:World} {B e s n g t:Nat} {v:Value} {xs cs:List Value} (h:w.ownsRow B e s v n xs) (hB:Blk w g t cs) (he:e≠t):v.ownBlock≠some g:=by
 rcases h.2 with ⟨rfl,_⟩ | ⟨g',cap,cur,rfl,_,hg,_⟩
 ·simp [Value.ownBlock]
 ·simp only [Value.ownBlock,ne_eq,Option.some.injEq]
  rintro rfl
  unfold Blk at hB
  rw [hg] at hB
  simp at hB
  exact he hB.2


theorem OwnI.at9 {w:World} {B g n c:Nat} {zs:List Int} (h:OwnI w B (some ⟨g,0,none⟩,n,c) zs) {j:Nat} (hj:j<n):w.cell? ⟨g,j,none⟩=some (.int .i64 (zs.getD j 0)):=by
 have hl:=h.len
 simp only at hl
 have:=h.cellAt j (by simp only;omega)
 rw [this]
 simp [List.getElem?_eq_getElem (show j<zs.length by omega)]
theorem OwnI.frz9 {w:World} {B g n c:Nat} {zs:List Int} (h:OwnI w B (some ⟨g,0,none⟩,n,c) zs) (j:Nat):w.frozen? ⟨g,j,none⟩=false:=h.frozenAt j
theorem OwnI.set9 {w:World} {B g n c:Nat} {zs:List Int} (h:OwnI w B (some ⟨g,0,none⟩,n,c) zs) (j:Nat) (v:Int):OwnI (w.setCell ⟨g,j,none⟩ (.int .i64 v)) B (some ⟨g,0,none⟩,n,c) (zs.set j v):=by
 have:=(h.stored j (.int .i64 v)).1
 rw [← List.map_set] at this
 exact this
theorem OwnI.away9 {w:World} {B g n c:Nat} {s:Sl} {zs:List Int} (h:OwnI w B s zs) (ha:Apart (some ⟨g,0,none⟩,n,c) s) (j:Nat) (v:Value):OwnI (w.setCell ⟨g,j,none⟩ v) B s zs:=
 ownsRow_setCell_other h (fun e=>ha g rfl e) v
theorem OwnI.lo9 {w:World} {B g n c:Nat} {zs:List Int} (h:OwnI w B (some ⟨g,0,none⟩,n,c) zs):B≤g∧g<w.heap.size:=h.lt g rfl

section
variable {w : World} {B g n c : Nat} {s0 s1 s2 s3 : Sl} {m : V4}
theorem OwnV.set0 (h:OwnV w B ((some ⟨g,0,none⟩,n,c),s1,s2,s3) m) (j:Nat) (v:Int):OwnV (w.setCell ⟨g,j,none⟩ (.int .i64 v)) B ((some ⟨g,0,none⟩,n,c),s1,s2,s3) (m.1.set j v,m.2):=
 ⟨⟨h.1.1.set9 j v,h.1.2.1.away9 h.2.1 j _,h.1.2.2.1.away9 h.2.2.1 j _,h.1.2.2.2.away9 h.2.2.2.1 j _⟩,h.2⟩
theorem OwnV.set1 (h:OwnV w B (s0,(some ⟨g,0,none⟩,n,c),s2,s3) m) (j:Nat) (v:Int):OwnV (w.setCell ⟨g,j,none⟩ (.int .i64 v)) B (s0,(some ⟨g,0,none⟩,n,c),s2,s3) (m.1,m.2.1.set j v,m.2.2):=
 ⟨⟨h.1.1.away9 h.2.1.symm j _,h.1.2.1.set9 j v,h.1.2.2.1.away9 h.2.2.2.2.1 j _,h.1.2.2.2.away9 h.2.2.2.2.2.1 j _⟩,h.2⟩
theorem OwnV.set2 (h:OwnV w B (s0,s1,(some ⟨g,0,none⟩,n,c),s3) m) (j:Nat) (v:Int):OwnV (w.setCell ⟨g,j,none⟩ (.int .i64 v)) B (s0,s1,(some ⟨g,0,none⟩,n,c),s3) (m.1,m.2.1,m.2.2.1.set j v,m.2.2.2):=
 ⟨⟨h.1.1.away9 h.2.2.1.symm j _,h.1.2.1.away9 h.2.2.2.2.1.symm j _,h.1.2.2.1.set9 j v,h.1.2.2.2.away9 h.2.2.2.2.2.2 j _⟩,h.2⟩
theorem OwnV.set3 (h:OwnV w B (s0,s1,s2,(some ⟨g,0,none⟩,n,c)) m) (j:Nat) (v:Int):OwnV (w.setCell ⟨g,j,none⟩ (.int .i64 v)) B (s0,s1,s2,(some ⟨g,0,none⟩,n,c)) (m.1,m.2.1,m.2.2.1,m.2.2.2.set j v):=
 ⟨⟨h.1.1.away9 h.2.2.2.1.symm j _,h.1.2.1.away9 h.2.2.2.2.2.1.symm j _,h.1.2.2.1.away9 h.2.2.2.2.2.2.symm j _,h.1.2.2.2.set9 j v⟩,h.2⟩
end
theorem OwnI.some9 {w:World} {B:Nat} {s:Sl} {zs:List Int} {k:Nat} (h:OwnI w B s zs) (hl:zs.length=k) (hk:0<k):∃ g c,s=(some ⟨g,0,none⟩,k,c)∧k≤c∧c≤maxLen:=by
 have hi:=h.ints
 rcases Sl.some_or h with ⟨rfl,rfl⟩ | ⟨g,n,c,rfl⟩
 ·simp at hl;omega
 ·obtain ⟨h1,h2,h3,_⟩:=hi
  simp only at h1 h2 h3
  exact ⟨g,c,by rw [← h1,hl],by omega,h3⟩
theorem OwnV.ne9 {w:World} {B g n c X t:Nat} {s1 s2 s3:Sl} {m:V4} {cs:List Value} (h:OwnV w B ((some ⟨g,0,none⟩,n,c),s1,s2,s3) m) (hX:Blk w X t cs) (ht:3≠t):X≠g:=fun e=>own_ne_blk9 h.1.1 hX ht (by rw [e];rfl)
theorem OwnI.ne9 {w:World} {B g n c X t:Nat} {zs:List Int} {cs:List Value} (h:OwnI w B (some ⟨g,0,none⟩,n,c) zs) (hX:Blk w X t cs) (ht:3≠t):X≠g:=fun e=>own_ne_blk9 h hX ht (by rw [e];rfl)
theorem ownV_nil (w:World) (B:Nat):OwnV w B ((none,0,0),(none,0,0),(none,0,0),(none,0,0)) ([],[],[],[]):=by
 have h:OwnI w B (none,0,0) []:=World.ownsRow_nil _ _ _ _
 have a:Apart (none,0,0) (none,0,0):=fun g hg=>by simp [Value.ownBlock] at hg
 exact ⟨⟨h,h,h,h⟩,a,a,a,a,a,a⟩
theorem OwnI.kept9 {w w':World} {B X t:Nat} {s:Sl} {zs:List Int} {cs:List Value} (h:OwnI w B s zs) (hg:w.grownBy w' (some X)) (hX:Blk w X t cs) (ht:3≠t):OwnI w' B s zs:=World.ownsRow.kept h hg (.inr (own_ne_blk9 h hX ht))
theorem OwnI.awayB9 {w:World} {B X t:Nat} {s:Sl} {zs:List Int} {cs:List Value} (h:OwnI w B s zs) (hX:Blk w X t cs) (ht:3≠t) (j:Nat) (v:Value):OwnI (w.setCell ⟨X,j,none⟩ v) B s zs:=ownsRow_setCell_other h (own_ne_blk9 h hX ht) v
theorem OwnV.awayB9 {w:World} {B X t:Nat} {s:S4} {m:V4} {cs:List Value} (h:OwnV w B s m) (hX:Blk w X t cs) (ht:3≠t) (j:Nat) (v:Value):OwnV (w.setCell ⟨X,j,none⟩ v) B s m:=⟨⟨h.1.1.awayB9 hX ht j v,h.1.2.1.awayB9 hX ht j v,h.1.2.2.1.awayB9 hX ht j v,h.1.2.2.2.awayB9 hX ht j v⟩,h.2⟩
theorem OwnV.kept9 {w w':World} {B X t:Nat} {s:S4} {m:V4} {cs:List Value} (h:OwnV w B s m) (hg:w.grownBy w' (some X)) (hX:Blk w X t cs) (ht:3≠t):OwnV w' B s m:=⟨⟨h.1.1.kept9 hg hX ht,h.1.2.1.kept9 hg hX ht,h.1.2.2.1.kept9 hg hX ht,h.1.2.2.2.kept9 hg hX ht⟩,h.2⟩
end Go.Proofs.YtdopgkbegjfhjaaGreatDoor
