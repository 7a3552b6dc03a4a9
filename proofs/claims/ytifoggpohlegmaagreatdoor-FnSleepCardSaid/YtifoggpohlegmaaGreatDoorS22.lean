/-
  Joined: RpB, RpD.
-/
import Derived.Laws.CopyOwn
import Derived.Laws.Tables
import Derived.Deep.Cut
import Derived.Stop.Asserts
import Derived.Recover
import Derived.Test.YtifoggpohlegmaaGreatDoorS10

namespace Go.Proofs.YtifoggpohlegmaaGreatDoor
set_option maxRecDepth 100000
set_option maxHeartbeats 16000000
open Go.RowKit
set_option linter.unusedVariables false
set_option linter.unusedSimpArgs false

def RunKept (w w':World):Prop:=∀ (j:Nat) (cur:Array Value) (e:TypeId) (fz:Nat × Nat),w.heap[j]?=some (Obj.cells cur e fz)→e≠64→e≠91→w'.heap[j]?=some (Obj.cells cur e fz)
theorem RunKept.refl (w:World):RunKept w w:=fun _ _ _ _ h _ _=>h
theorem RunKept.trans {a b c:World} (h:RunKept a b) (k:RunKept b c):RunKept a c:=fun j cur e fz h0 he h9=>k j cur e fz (h j cur e fz h0 he h9) he h9
theorem RunKept.blk {w w':World} {g t:Nat} {cs:List Value} (h:RunKept w w') (hB:Blk w g t cs) (h1:t≠64) (h2:t≠91):Blk w' g t cs:=h g _ t _ hB h1 h2


def ListAt (w:World) (B:Nat) (a:Option Addr) (n c:Nat) (ks:List Int):Prop:=
 Ints .i64 w a n c ks∧∀ b o,a=some ⟨b,o,none⟩→0<n→b<B∨∃ cur fz,w.heap[b]?=some (Obj.cells cur 3 fz)
theorem ListAt.kept {w w':World} {B:Nat} {a:Option Addr} {n c:Nat} {ks:List Int} (h:ListAt w B a n c ks) (hb:Below B w w') (hk:RunKept w w'):ListAt w' B a n c ks:=by
 obtain ⟨⟨h1,h2,h3,h4⟩,h5⟩:=h
 rcases Nat.eq_zero_or_pos n with hn | hn
 ·exact ⟨⟨h1,h2,h3,.inl hn⟩,fun _ _ _ h0=>absurd hn (by omega)⟩
 rcases h4 with h4 | ⟨b,off,ha,hl,hc⟩
 ·omega
 have e:w'.heap[b]?=w.heap[b]?:=by
  rcases h5 b off ha hn with h6 | ⟨cur,fz,h6⟩
  ·exact hb.block b h6
  ·rw [hk b cur _ fz h6 (by decide) (by decide),h6]
 refine ⟨⟨h1,h2,h3,.inr ⟨b,off,ha,Nat.lt_of_lt_of_le hl hb.size,fun t ht=>?_⟩⟩,fun b' o' ha' h0=>?_⟩
 ·rw [← hc t ht]
  unfold World.cell?
  simp only
  rw [e]
 ·rw [ha] at ha'
  cases ha'
  rcases h5 b off ha hn with h6 | ⟨cur,fz,h6⟩
  ·exact .inl h6
  ·exact .inr ⟨cur,fz,e.trans h6⟩
end Go.Proofs.YtifoggpohlegmaaGreatDoor
