/-
  Joined: MarkV.
-/
import Derived.Test.YthmgampabhbpoaaDoorA22

namespace Go.Proofs.YthmgampabhbpoaaDoor
set_option maxRecDepth 100000
set_option maxHeartbeats 16000000
open Go.RowKit

theorem Sl.some_or {w:World} {B:Nat} {s:Sl} {zs:List Int} (h:OwnI w B s zs):(s=(none,0,0)∧zs=[])∨∃ g n c,s=(some ⟨g,0,none⟩,n,c):=by
 obtain ⟨a,n,c⟩:=s
 unfold OwnI at h
 simp only at h
 rcases h.2 with ⟨h0,h1⟩ | ⟨g,cap,cur,hv,_⟩
 ·cases h0
  exact .inl ⟨rfl,by simpa using h.1⟩
 ·cases hv
  exact .inr ⟨g,n,c,rfl⟩

theorem OwnI.len {w:World} {B:Nat} {s:Sl} {zs:List Int} (h:OwnI w B s zs):zs.length=s.2.1:=by
 have:=h.1
 simpa using this
theorem OwnI.kept {w w':World} {B:Nat} {s s':Sl} {zs:List Int} (h:OwnI w B s zs) (hg:w.grownBy w' (Value.slice s'.1 s'.2.1 s'.2.2).ownBlock) (ha:Apart s s'):OwnI w' B s zs:=by
 refine World.ownsRow.kept h hg ?_
 cases hb:(Value.slice s.1 s.2.1 s.2.2).ownBlock with
 | none=>exact .inl rfl
 | some g=>exact .inr fun e=>ha g hb e.symm
theorem Apart.symm {s s':Sl} (h:Apart s s'):Apart s' s:=fun g h1 h2=>h g h2 h1

end Go.Proofs.YthmgampabhbpoaaDoor
