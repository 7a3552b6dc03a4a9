/-
  Joined: OwnS, NewVmI.
-/
import Derived.Test.YtfpopbbmnbehiaaGreatDoorC20
import Derived.Test.YtfpopbbmnbehiaaGreatDoorC21

namespace Go.Proofs.YtfpopbbmnbehiaaGreatDoor
set_option maxRecDepth 100000
set_option maxHeartbeats 16000000
open Go.RowKit

theorem OwnI.at9 {w:World} {B g n c:Nat} {zs:List Int} (h:OwnI w B (some ⟨g,0,none⟩,n,c) zs) {j:Nat} (hj:j<n):w.cell? ⟨g,j,none⟩=some (.int .i64 (zs.getD j 0)):=by
 have hl:=h.len
 simp only at hl
 have:=h.cellAt j (by simp only;omega)
 rw [this]
 simp [List.getElem?_eq_getElem (show j<zs.length by omega)]
theorem OwnI.frz9 {w:World} {B g n c:Nat} {zs:List Int} (h:OwnI w B (some ⟨g,0,none⟩,n,c) zs) (j:Nat):w.frozen? ⟨g,j,none⟩=false:=h.frozenAt j
theorem OwnI.set9 {w:World} {B g n c:Nat} {zs:List Int} (h:OwnI w B (some ⟨g,0,none⟩,n,c) zs) (j:Nat) (v:Int):OwnI (w.setCell ⟨g,j,none⟩ (.int .i64 v)) B (some ⟨g,0,none⟩,n,c) (zs.set j v):=by
 have:=(h.stored j (.int .i64 v)).1
 rw [← List.map_set] at this
 exact this
theorem OwnI.away9 {w:World} {B g n c:Nat} {s:Sl} {zs:List Int} (h:OwnI w B s zs) (ha:Apart (some ⟨g,0,none⟩,n,c) s) (j:Nat) (v:Value):OwnI (w.setCell ⟨g,j,none⟩ v) B s zs:=
 ownsRow_setCell_other h (fun e=>ha g rfl e) v
theorem OwnI.lo9 {w:World} {B g n c:Nat} {zs:List Int} (h:OwnI w B (some ⟨g,0,none⟩,n,c) zs):B≤g∧g<w.heap.size:=h.lt g rfl

section
variable {w : World} {B g n c : Nat} {s0 s1 s2 s3 : Sl} {m : V4}
theorem OwnV.set0 (h:OwnV w B ((some ⟨g,0,none⟩,n,c),s1,s2,s3) m) (j:Nat) (v:Int):OwnV (w.setCell ⟨g,j,none⟩ (.int .i64 v)) B ((some ⟨g,0,none⟩,n,c),s1,s2,s3) (m.1.set j v,m.2):=
 ⟨⟨h.1.1.set9 j v,h.1.2.1.away9 h.2.1 j _,h.1.2.2.1.away9 h.2.2.1 j _,h.1.2.2.2.away9 h.2.2.2.1 j _⟩,h.2⟩
theorem OwnV.set1 (h:OwnV w B (s0,(some ⟨g,0,none⟩,n,c),s2,s3) m) (j:Nat) (v:Int):OwnV (w.setCell ⟨g,j,none⟩ (.int .i64 v)) B (s0,(some ⟨g,0,none⟩,n,c),s2,s3) (m.1,m.2.1.set j v,m.2.2):=
 ⟨⟨h.1.1.away9 h.2.1.symm j _,h.1.2.1.set9 j v,h.1.2.2.1.away9 h.2.2.2.2.1 j _,h.1.2.2.2.away9 h.2.2.2.2.2.1 j _⟩,h.2⟩
theorem OwnV.set2 (h:OwnV w B (s0,s1,(some ⟨g,0,none⟩,n,c),s3) m) (j:Nat) (v:Int):OwnV (w.setCell ⟨g,j,none⟩ (.int .i64 v)) B (s0,s1,(some ⟨g,0,none⟩,n,c),s3) (m.1,m.2.1,m.2.2.1.set j v,m.2.2.2):=
 ⟨⟨h.1.1.away9 h.2.2.1.symm j _,h.1.2.1.away9 h.2.2.2.2.1.symm j _,h.1.2.2.1.set9 j v,h.1.2.2.2.away9 h.2.2.2.2.2.2 j _⟩,h.2⟩
theorem OwnV.set3 (h:OwnV w B (s0,s1,s2,(some ⟨g,0,none⟩,n,c)) m) (j:Nat) (v:Int):OwnV (w.setCell ⟨g,j,none⟩ (.int .i64 v)) B (s0,s1,s2,(some ⟨g,0,none⟩,n,c)) (m.1,m.2.1,m.2.2.1,m.2.2.2.set j v):=
 ⟨⟨h.1.1.away9 h.2.2.2.1.symm j _,h.1.2.1.away9 h.2.2.2.2.2.1.symm j _,h.1.2.2.1.away9 h.2.2.2.2.2.2.symm j _,h.1.2.2.2.set9 j v⟩,h.2⟩
end
theorem OwnI.some9 {w:World} {B:Nat} {s:Sl} {zs:List Int} {k:Nat} (h:OwnI w B s zs) (hl:zs.length=k) (hk:0<k):∃ g c,s=(some ⟨g,0,none⟩,k,c)∧k≤c∧c≤maxLen:=by
 have hi:=h.ints
 rcases Sl.some_or h with ⟨rfl,rfl⟩ | ⟨g,n,c,rfl⟩
 ·simp at hl;omega
 ·obtain ⟨h1,h2,h3,_⟩:=hi
  simp only at h1 h2 h3
  exact ⟨g,c,by rw [← h1,hl],by omega,h3⟩
theorem OwnV.ne9 {w:World} {B g n c X t:Nat} {s1 s2 s3:Sl} {m:V4} {cs:List Value} (h:OwnV w B ((some ⟨g,0,none⟩,n,c),s1,s2,s3) m) (hX:Blk w X t cs) (ht:3≠t):X≠g:=fun e=>own_ne_blk9 h.1.1 hX ht (by rw [e];rfl)
theorem OwnI.ne9 {w:World} {B g n c X t:Nat} {zs:List Int} {cs:List Value} (h:OwnI w B (some ⟨g,0,none⟩,n,c) zs) (hX:Blk w X t cs) (ht:3≠t):X≠g:=fun e=>own_ne_blk9 h hX ht (by rw [e];rfl)
theorem ownV_nil (w:World) (B:Nat):OwnV w B ((none,0,0),(none,0,0),(none,0,0),(none,0,0)) ([],[],[],[]):=by
 have h:OwnI w B (none,0,0) []:=World.ownsRow_nil _ _ _ _
 have a:Apart (none,0,0) (none,0,0):=fun g hg=>by simp [Value.ownBlock] at hg
 exact ⟨⟨h,h,h,h⟩,a,a,a,a,a,a⟩
theorem OwnI.kept9 {w w':World} {B X t:Nat} {s:Sl} {zs:List Int} {cs:List Value} (h:OwnI w B s zs) (hg:w.grownBy w' (some X)) (hX:Blk w X t cs) (ht:3≠t):OwnI w' B s zs:=World.ownsRow.kept h hg (.inr (own_ne_blk9 h hX ht))
theorem OwnI.awayB9 {w:World} {B X t:Nat} {s:Sl} {zs:List Int} {cs:List Value} (h:OwnI w B s zs) (hX:Blk w X t cs) (ht:3≠t) (j:Nat) (v:Value):OwnI (w.setCell ⟨X,j,none⟩ v) B s zs:=ownsRow_setCell_other h (own_ne_blk9 h hX ht) v
theorem OwnV.awayB9 {w:World} {B X t:Nat} {s:S4} {m:V4} {cs:List Value} (h:OwnV w B s m) (hX:Blk w X t cs) (ht:3≠t) (j:Nat) (v:Value):OwnV (w.setCell ⟨X,j,none⟩ v) B s m:=⟨⟨h.1.1.awayB9 hX ht j v,h.1.2.1.awayB9 hX ht j v,h.1.2.2.1.awayB9 hX ht j v,h.1.2.2.2.awayB9 hX ht j v⟩,h.2⟩
theorem OwnV.kept9 {w w':World} {B X t:Nat} {s:S4} {m:V4} {cs:List Value} (h:OwnV w B s m) (hg:w.grownBy w' (some X)) (hX:Blk w X t cs) (ht:3≠t):OwnV w' B s m:=⟨⟨h.1.1.kept9 hg hX ht,h.1.2.1.kept9 hg hX ht,h.1.2.2.1.kept9 hg hX ht,h.1.2.2.2.kept9 hg hX ht⟩,h.2⟩


def zeroV:V4:=([0,0,0],[0,0,0,0],[0,0],[0,0,0,0,0,0])

theorem make3 (w:World):(Instr.makeSlice 31 (.int .i64 3) (.int .i64 3)).run Tryz.prog w=.ok (.slice (some ⟨w.heap.size,0,none⟩) 3 3) (w.alloc (.cells #[.int .i64 0,.int .i64 0,.int .i64 0] 3)):=by kernel_rfl
theorem make4 (w:World):(Instr.makeSlice 31 (.int .i64 4) (.int .i64 4)).run Tryz.prog w=.ok (.slice (some ⟨w.heap.size,0,none⟩) 4 4) (w.alloc (.cells #[.int .i64 0,.int .i64 0,.int .i64 0,.int .i64 0] 3)):=by kernel_rfl
theorem make2 (w:World):(Instr.makeSlice 31 (.int .i64 2) (.int .i64 2)).run Tryz.prog w=.ok (.slice (some ⟨w.heap.size,0,none⟩) 2 2) (w.alloc (.cells #[.int .i64 0,.int .i64 0] 3)):=by kernel_rfl
theorem make6 (w:World):(Instr.makeSlice 31 (.int .i64 6) (.int .i64 6)).run Tryz.prog w=.ok (.slice (some ⟨w.heap.size,0,none⟩) 6 6) (w.alloc (.cells #[.int .i64 0,.int .i64 0,.int .i64 0,.int .i64 0,.int .i64 0,.int .i64 0] 3)):=by kernel_rfl

theorem blk_at {g:Nat} (w:World) (t:Nat) (cs:List Value) (h:g=w.heap.size):Blk (w.alloc (.cells cs.toArray t)) g t cs:=by
 subst h
 exact Blk.new w t cs
theorem blk_old {g t:Nat} {cs:List Value} {w:World} (o:Obj) (h:Blk w g t cs):Blk (w.alloc o) g t cs:=(Below.heap_alloc w o g h.lt).trans h
theorem own_blk {w:World} {B g n:Nat} {zs:List Int} (h:Blk w g 3 (zs.map (Value.int .i64))) (hB:B≤g) (hn:zs.length=n) (hm:n≤1000):OwnI w B (some ⟨g,0,none⟩,n,n) zs:=by
 unfold OwnI
 refine ⟨by simpa using hn,.inr ⟨g,n,_,rfl,hB,h,Nat.le_refl _,by unfold maxLen;omega,by simpa using hn,?_⟩⟩
 simp only [Nat.mul_one]
 exact List.take_of_length_le (by simp [hn])
theorem apart_ne {g g' n n':Nat} (h:g≠g'):Apart (some ⟨g,0,none⟩,n,n) (some ⟨g',0,none⟩,n',n'):=fun x hx h'=>by
 simp [Value.ownBlock] at hx h'
 omega
theorem newVm_own {W:World} {B g3 g4 g2 g6:Nat} (h3:Blk W g3 3 [.int .i64 0,.int .i64 0,.int .i64 0]) (h4:Blk W g4 3 [.int .i64 0,.int .i64 0,.int .i64 0,.int .i64 0]) (h2:Blk W g2 3 [.int .i64 0,.int .i64 0])
  (h6:Blk W g6 3 [.int .i64 0,.int .i64 0,.int .i64 0,.int .i64 0,.int .i64 0,.int .i64 0]) (hB:(B≤g3∧B≤g4)∧B≤g2∧B≤g6) (hne:(g3≠g4∧g3≠g2∧g3≠g6)∧(g4≠g2∧g4≠g6)∧g2≠g6) :
  OwnV W B ((some ⟨g3,0,none⟩,3,3),(some ⟨g4,0,none⟩,4,4),(some ⟨g2,0,none⟩,2,2),(some ⟨g6,0,none⟩,6,6)) zeroV:=
 ⟨⟨own_blk (zs:=[0,0,0]) h3 hB.1.1 rfl (by omega),own_blk (zs:=[0,0,0,0]) h4 hB.1.2 rfl (by omega),own_blk (zs:=[0,0]) h2 hB.2.1 rfl (by omega),own_blk (zs:=[0,0,0,0,0,0]) h6 hB.2.2 rfl (by omega)⟩,
  apart_ne hne.1.1,apart_ne hne.1.2.1,apart_ne hne.1.2.2,apart_ne hne.2.1.1,apart_ne hne.2.1.2,apart_ne hne.2.2⟩

theorem implNewVm_is (w:World) :
  Calls Tryz.prog 52 #[] w fun e w'=>(∃ s:S4,e=.returned s.val∧OwnV w' w.heap.size s zeroV)∧Below w.heap.size w w':=by
 have r3:=make3
 have r4:=make4
 have r2:=make2
 have r6:=make6
 go_enter Tryz.func52,Tryz.ntmps52
 go_wp2
 go_region
 all_goals (clear r3 r4 r2 r6;go_wp2;go_returns;refine ⟨⟨_,rfl,newVm_own (B:=w.heap.size) ?_ ?_ ?_ ?_ ⟨⟨by omega,by omega⟩,by omega,by omega⟩ ⟨⟨by omega,by omega,by omega⟩,⟨by omega,by omega⟩,by omega⟩⟩,by go_grown⟩<;>(refine Blk.drew ?_;repeat (first | exact blk_at _ _ _ (by simp) | refine blk_old _ ?_)))
end Go.Proofs.YtfpopbbmnbehiaaGreatDoor
