/-
  Joined: Marks, MarkV, MarkW, OwnS, SpecO.
-/
import Derived.Maps.AppendAt
import Derived.Test.YtgmhhegckcionaaGreatDoorP05

namespace Go.Proofs.YtgmhhegckcionaaGreatDoor
set_option maxRecDepth 100000
set_option maxHeartbeats 16000000
open Go.RowKit

def mkTo:Int→List Int→Nat→List Int
 | _,xs,0=>xs
 | _,[],_+1=>[]
 | k,_::xs,j+1=>k::mkTo (k+1) xs j


theorem Sl.some_or {w:World} {B:Nat} {s:Sl} {zs:List Int} (h:OwnI w B s zs):(s=(none,0,0)∧zs=[])∨∃ g n c,s=(some ⟨g,0,none⟩,n,c):=by
 obtain ⟨a,n,c⟩:=s
 unfold OwnI at h
 simp only at h
 rcases h.2 with ⟨h0,h1⟩ | ⟨g,cap,cur,hv,_⟩
 ·cases h0
  exact .inl ⟨rfl,by simpa using h.1⟩
 ·cases hv
  exact .inr ⟨g,n,c,rfl⟩

theorem OwnI.len {w:World} {B:Nat} {s:Sl} {zs:List Int} (h:OwnI w B s zs):zs.length=s.2.1:=by
 have:=h.1
 simpa using this
theorem OwnI.kept {w w':World} {B:Nat} {s s':Sl} {zs:List Int} (h:OwnI w B s zs) (hg:w.grownBy w' (Value.slice s'.1 s'.2.1 s'.2.2).ownBlock) (ha:Apart s s'):OwnI w' B s zs:=by
 refine World.ownsRow.kept h hg ?_
 cases hb:(Value.slice s.1 s.2.1 s.2.2).ownBlock with
 | none=>exact .inl rfl
 | some g=>exact .inr fun e=>ha g hb e.symm
theorem Apart.symm {s s':Sl} (h:Apart s s'):Apart s' s:=fun g h1 h2=>h g h2 h1


theorem OwnI.lower9 {w:World} {B B':Nat} {s:Sl} {zs:List Int} (h:OwnI w B s zs) (hB:B'≤B):OwnI w B' s zs:=own_lower h hB
theorem OwnV.lower9 {w:World} {B B':Nat} {s:S4} {m:V4} (h:OwnV w B s m) (hB:B'≤B):OwnV w B' s m:=⟨⟨h.1.1.lower9 hB,h.1.2.1.lower9 hB,h.1.2.2.1.lower9 hB,h.1.2.2.2.lower9 hB⟩,h.2⟩
theorem own_ne_blk9 {w:World} {B e s n g t:Nat} {v:Value} {xs cs:List Value} (h:w.ownsRow B e s v n xs) (hB:Blk w g t cs) (he:e≠t):v.ownBlock≠some g:=by
 rcases h.2 with ⟨rfl,_⟩ | ⟨g',cap,cur,rfl,_,hg,_⟩
 ·simp [Value.ownBlock]
 ·simp only [Value.ownBlock,ne_eq,Option.some.injEq]
  rintro rfl
  unfold Blk at hB
  rw [hg] at hB
  simp at hB
  exact he hB.2


theorem OwnI.at9 {w:World} {B g n c:Nat} {zs:List Int} (h:OwnI w B (some ⟨g,0,none⟩,n,c) zs) {j:Nat} (hj:j<n):w.cell? ⟨g,j,none⟩=some (.int .i64 (zs.getD j 0)):=by
 have hl:=h.len
 simp only at hl
 have:=h.cellAt j (by simp only;omega)
 rw [this]
 simp [List.getElem?_eq_getElem (show j<zs.length by omega)]
theorem OwnI.frz9 {w:World} {B g n c:Nat} {zs:List Int} (h:OwnI w B (some ⟨g,0,none⟩,n,c) zs) (j:Nat):w.frozen? ⟨g,j,none⟩=false:=h.frozenAt j
theorem OwnI.set9 {w:World} {B g n c:Nat} {zs:List Int} (h:OwnI w B (some ⟨g,0,none⟩,n,c) zs) (j:Nat) (v:Int):OwnI (w.setCell ⟨g,j,none⟩ (.int .i64 v)) B (some ⟨g,0,none⟩,n,c) (zs.set j v):=by
 have:=(h.stored j (.int .i64 v)).1
 rw [← List.map_set] at this
 exact this
theorem OwnI.away9 {w:World} {B g n c:Nat} {s:Sl} {zs:List Int} (h:OwnI w B s zs) (ha:Apart (some ⟨g,0,none⟩,n,c) s) (j:Nat) (v:Value):OwnI (w.setCell ⟨g,j,none⟩ v) B s zs:=
 ownsRow_setCell_other h (fun e=>ha g rfl e) v
theorem OwnI.lo9 {w:World} {B g n c:Nat} {zs:List Int} (h:OwnI w B (some ⟨g,0,none⟩,n,c) zs):B≤g∧g<w.heap.size:=h.lt g rfl

section
variable {w : World} {B g n c : Nat} {s0 s1 s2 s3 : Sl} {m : V4}
theorem OwnV.set0 (h:OwnV w B ((some ⟨g,0,none⟩,n,c),s1,s2,s3) m) (j:Nat) (v:Int):OwnV (w.setCell ⟨g,j,none⟩ (.int .i64 v)) B ((some ⟨g,0,none⟩,n,c),s1,s2,s3) (m.1.set j v,m.2):=
 ⟨⟨h.1.1.set9 j v,h.1.2.1.away9 h.2.1 j _,h.1.2.2.1.away9 h.2.2.1 j _,h.1.2.2.2.away9 h.2.2.2.1 j _⟩,h.2⟩
theorem OwnV.set1 (h:OwnV w B (s0,(some ⟨g,0,none⟩,n,c),s2,s3) m) (j:Nat) (v:Int):OwnV (w.setCell ⟨g,j,none⟩ (.int .i64 v)) B (s0,(some ⟨g,0,none⟩,n,c),s2,s3) (m.1,m.2.1.set j v,m.2.2):=
 ⟨⟨h.1.1.away9 h.2.1.symm j _,h.1.2.1.set9 j v,h.1.2.2.1.away9 h.2.2.2.2.1 j _,h.1.2.2.2.away9 h.2.2.2.2.2.1 j _⟩,h.2⟩
theorem OwnV.set2 (h:OwnV w B (s0,s1,(some ⟨g,0,none⟩,n,c),s3) m) (j:Nat) (v:Int):OwnV (w.setCell ⟨g,j,none⟩ (.int .i64 v)) B (s0,s1,(some ⟨g,0,none⟩,n,c),s3) (m.1,m.2.1,m.2.2.1.set j v,m.2.2.2):=
 ⟨⟨h.1.1.away9 h.2.2.1.symm j _,h.1.2.1.away9 h.2.2.2.2.1.symm j _,h.1.2.2.1.set9 j v,h.1.2.2.2.away9 h.2.2.2.2.2.2 j _⟩,h.2⟩
theorem OwnV.set3 (h:OwnV w B (s0,s1,s2,(some ⟨g,0,none⟩,n,c)) m) (j:Nat) (v:Int):OwnV (w.setCell ⟨g,j,none⟩ (.int .i64 v)) B (s0,s1,s2,(some ⟨g,0,none⟩,n,c)) (m.1,m.2.1,m.2.2.1,m.2.2.2.set j v):=
 ⟨⟨h.1.1.away9 h.2.2.2.1.symm j _,h.1.2.1.away9 h.2.2.2.2.2.1.symm j _,h.1.2.2.1.away9 h.2.2.2.2.2.2.symm j _,h.1.2.2.2.set9 j v⟩,h.2⟩
end
theorem OwnI.some9 {w:World} {B:Nat} {s:Sl} {zs:List Int} {k:Nat} (h:OwnI w B s zs) (hl:zs.length=k) (hk:0<k):∃ g c,s=(some ⟨g,0,none⟩,k,c)∧k≤c∧c≤maxLen:=by
 have hi:=h.ints
 rcases Sl.some_or h with ⟨rfl,rfl⟩ | ⟨g,n,c,rfl⟩
 ·simp at hl;omega
 ·obtain ⟨h1,h2,h3,_⟩:=hi
  simp only at h1 h2 h3
  exact ⟨g,c,by rw [← h1,hl],by omega,h3⟩
theorem OwnV.ne9 {w:World} {B g n c X t:Nat} {s1 s2 s3:Sl} {m:V4} {cs:List Value} (h:OwnV w B ((some ⟨g,0,none⟩,n,c),s1,s2,s3) m) (hX:Blk w X t cs) (ht:3≠t):X≠g:=fun e=>own_ne_blk9 h.1.1 hX ht (by rw [e];rfl)
theorem OwnI.ne9 {w:World} {B g n c X t:Nat} {zs:List Int} {cs:List Value} (h:OwnI w B (some ⟨g,0,none⟩,n,c) zs) (hX:Blk w X t cs) (ht:3≠t):X≠g:=fun e=>own_ne_blk9 h hX ht (by rw [e];rfl)
theorem ownV_nil (w:World) (B:Nat):OwnV w B ((none,0,0),(none,0,0),(none,0,0),(none,0,0)) ([],[],[],[]):=by
 have h:OwnI w B (none,0,0) []:=World.ownsRow_nil _ _ _ _
 have a:Apart (none,0,0) (none,0,0):=fun g hg=>by simp [Value.ownBlock] at hg
 exact ⟨⟨h,h,h,h⟩,a,a,a,a,a,a⟩
theorem OwnI.kept9 {w w':World} {B X t:Nat} {s:Sl} {zs:List Int} {cs:List Value} (h:OwnI w B s zs) (hg:w.grownBy w' (some X)) (hX:Blk w X t cs) (ht:3≠t):OwnI w' B s zs:=World.ownsRow.kept h hg (.inr (own_ne_blk9 h hX ht))
theorem OwnI.awayB9 {w:World} {B X t:Nat} {s:Sl} {zs:List Int} {cs:List Value} (h:OwnI w B s zs) (hX:Blk w X t cs) (ht:3≠t) (j:Nat) (v:Value):OwnI (w.setCell ⟨X,j,none⟩ v) B s zs:=ownsRow_setCell_other h (own_ne_blk9 h hX ht) v
theorem OwnV.awayB9 {w:World} {B X t:Nat} {s:S4} {m:V4} {cs:List Value} (h:OwnV w B s m) (hX:Blk w X t cs) (ht:3≠t) (j:Nat) (v:Value):OwnV (w.setCell ⟨X,j,none⟩ v) B s m:=⟨⟨h.1.1.awayB9 hX ht j v,h.1.2.1.awayB9 hX ht j v,h.1.2.2.1.awayB9 hX ht j v,h.1.2.2.2.awayB9 hX ht j v⟩,h.2⟩
theorem OwnV.kept9 {w w':World} {B X t:Nat} {s:S4} {m:V4} {cs:List Value} (h:OwnV w B s m) (hg:w.grownBy w' (some X)) (hX:Blk w X t cs) (ht:3≠t):OwnV w' B s m:=⟨⟨h.1.1.kept9 hg hX ht,h.1.2.1.kept9 hg hX ht,h.1.2.2.1.kept9 hg hX ht,h.1.2.2.2.kept9 hg hX ht⟩,h.2⟩

set_option linter.unusedVariables false
set_option linter.unusedSimpArgs false

def VmOne (e:Ending) (w:World) (B:Nat) (z:V4):Prop:=∃ t:S4,e=.returned t.val∧OwnV w B t z
theorem VmOne.mk9 {e:Ending} {w:World} {B:Nat} {z:V4} (t:S4) (h:e=.returned t.val) (hO:OwnV w B t z):VmOne e w B z:=⟨t,h,hO⟩

def Chain (W:World) (B:Nat) (e d:Bool) (x y v:Value) (zs:List Int):Prop:=
 (d=true→e=true∧y=v∧W.ownsRow B 3 1 v zs.length (zs.map (Value.int .i64)))∧(d=false→e=true→x=v∧W.ownsRow B 3 1 v 0 [])∧(e=false→d=false∧v=.slice none 0 0)
def Ap (v u:Value):Prop:=∀ g,v.ownBlock=some g→u.ownBlock≠some g
theorem Ap.symm {v u:Value} (h:Ap v u):Ap u v:=fun g h1 h2=>h g h2 h1
theorem Chain.row {W:World} {B:Nat} {e d:Bool} {x y v:Value} {zs:List Int} (h:Chain W B e d x y v zs):∃ n xs,W.ownsRow B 3 1 v n xs:=by
 cases d
 ·cases e
  ·obtain ⟨_,rfl⟩:=h.2.2 rfl
   exact ⟨0,[],World.ownsRow_nil _ _ _ _⟩
  ·exact ⟨_,_,(h.2.1 rfl rfl).2⟩
 ·exact ⟨_,_,(h.1 rfl).2.2⟩
theorem Chain.lt {W:World} {B:Nat} {e d:Bool} {x y v:Value} {zs:List Int} (h:Chain W B e d x y v zs) {g:Nat} (hg:v.ownBlock=some g):g<W.heap.size:=by
 obtain ⟨n,xs,hr⟩:=h.row
 exact (hr.lt g hg).2
theorem Chain.kept {W W':World} {B:Nat} {e d:Bool} {x y v u:Value} {zs:List Int} (h:Chain W B e d x y v zs) (hg:W.grownBy W' u.ownBlock) (ha:Ap v u):Chain W' B e d x y v zs:=by
 have hn:v.ownBlock=none∨v.ownBlock≠u.ownBlock:=by
  cases hv:v.ownBlock with
  | none=>exact .inl rfl
  | some g=>exact .inr fun e=>ha g hv e.symm
 exact ⟨fun h1=>⟨(h.1 h1).1,(h.1 h1).2.1,(h.1 h1).2.2.kept hg hn⟩,fun h1 h2=>⟨(h.2.1 h1 h2).1,(h.2.1 h1 h2).2.kept hg hn⟩,h.2.2⟩
theorem Ap.grown {W:World} {B:Nat} {e d:Bool} {x y v u u':Value} {zs:List Int} (h:Chain W B e d x y v zs) (ha:Ap v u) (hu:u'.ownBlock=u.ownBlock∨u'.ownBlock=some W.heap.size):Ap v u':=fun g hg h2=>by
 rcases hu with hu | hu
 ·exact ha g hg (hu▸h2)
 ·have:=h.lt hg
  rw [hu] at h2
  simp at h2
  omega

end Go.Proofs.YtgmhhegckcionaaGreatDoor
