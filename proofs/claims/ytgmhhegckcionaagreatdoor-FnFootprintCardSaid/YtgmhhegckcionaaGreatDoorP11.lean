/-
  Joined: NewVmI.
-/
import Derived.Test.YtgmhhegckcionaaGreatDoorP05

namespace Go.Proofs.YtgmhhegckcionaaGreatDoor
set_option maxRecDepth 100000
set_option maxHeartbeats 16000000
open Go.RowKit

def zeroV:V4:=([0,0,0],[0,0,0,0],[0,0],[0,0,0,0,0,0])

theorem make3 (w:World):(Instr.makeSlice 36 (.int .i64 3) (.int .i64 3)).run Tryz.prog w=.ok (.slice (some ⟨w.heap.size,0,none⟩) 3 3) (w.alloc (.cells #[.int .i64 0,.int .i64 0,.int .i64 0] 3)):=by kernel_rfl
theorem make4 (w:World):(Instr.makeSlice 36 (.int .i64 4) (.int .i64 4)).run Tryz.prog w=.ok (.slice (some ⟨w.heap.size,0,none⟩) 4 4) (w.alloc (.cells #[.int .i64 0,.int .i64 0,.int .i64 0,.int .i64 0] 3)):=by kernel_rfl
theorem make2 (w:World):(Instr.makeSlice 36 (.int .i64 2) (.int .i64 2)).run Tryz.prog w=.ok (.slice (some ⟨w.heap.size,0,none⟩) 2 2) (w.alloc (.cells #[.int .i64 0,.int .i64 0] 3)):=by kernel_rfl
theorem make6 (w:World):(Instr.makeSlice 36 (.int .i64 6) (.int .i64 6)).run Tryz.prog w=.ok (.slice (some ⟨w.heap.size,0,none⟩) 6 6) (w.alloc (.cells #[.int .i64 0,.int .i64 0,.int .i64 0,.int .i64 0,.int .i64 0,.int .i64 0] 3)):=by kernel_rfl

theorem blk_at {g:Nat} (w:World) (t:Nat) (cs:List Value) (h:g=w.heap.size):Blk (w.alloc (.cells cs.toArray t)) g t cs:=by
 subst h
 exact Blk.new w t cs
theorem blk_old {g t:Nat} {cs:List Value} {w:World} (o:Obj) (h:Blk w g t cs):Blk (w.alloc o) g t cs:=(Below.heap_alloc w o g h.lt).trans h
theorem own_blk {w:World} {B g n:Nat} {zs:List Int} (h:Blk w g 3 (zs.map (Value.int .i64))) (hB:B≤g) (hn:zs.length=n) (hm:n≤1000):OwnI w B (some ⟨g,0,none⟩,n,n) zs:=by
 unfold OwnI
 refine ⟨by simpa using hn,.inr ⟨g,n,_,rfl,hB,h,Nat.le_refl _,by unfold maxLen;omega,by simpa using hn,?_⟩⟩
 simp only [Nat.mul_one]
 exact List.take_of_length_le (by simp [hn])
theorem apart_ne {g g' n n':Nat} (h:g≠g'):Apart (some ⟨g,0,none⟩,n,n) (some ⟨g',0,none⟩,n',n'):=fun x hx h'=>by
 simp [Value.ownBlock] at hx h'
 omega
theorem newVm_own {W:World} {B g3 g4 g2 g6:Nat} (h3:Blk W g3 3 [.int .i64 0,.int .i64 0,.int .i64 0]) (h4:Blk W g4 3 [.int .i64 0,.int .i64 0,.int .i64 0,.int .i64 0]) (h2:Blk W g2 3 [.int .i64 0,.int .i64 0])
  (h6:Blk W g6 3 [.int .i64 0,.int .i64 0,.int .i64 0,.int .i64 0,.int .i64 0,.int .i64 0]) (hB:(B≤g3∧B≤g4)∧B≤g2∧B≤g6) (hne:(g3≠g4∧g3≠g2∧g3≠g6)∧(g4≠g2∧g4≠g6)∧g2≠g6) :
  OwnV W B ((some ⟨g3,0,none⟩,3,3),(some ⟨g4,0,none⟩,4,4),(some ⟨g2,0,none⟩,2,2),(some ⟨g6,0,none⟩,6,6)) zeroV:=
 ⟨⟨own_blk (zs:=[0,0,0]) h3 hB.1.1 rfl (by omega),own_blk (zs:=[0,0,0,0]) h4 hB.1.2 rfl (by omega),own_blk (zs:=[0,0]) h2 hB.2.1 rfl (by omega),own_blk (zs:=[0,0,0,0,0,0]) h6 hB.2.2 rfl (by omega)⟩,
  apart_ne hne.1.1,apart_ne hne.1.2.1,apart_ne hne.1.2.2,apart_ne hne.2.1.1,apart_ne hne.2.1.2,apart_ne hne.2.2⟩

theorem implNewVm_is (w:World) :
  Calls Tryz.prog 43 #[] w fun e w'=>(∃ s:S4,e=.returned s.val∧OwnV w' w.heap.size s zeroV)∧Below w.heap.size w w':=by
 have r3:=make3
 have r4:=make4
 have r2:=make2
 have r6:=make6
 go_enter Tryz.func43,Tryz.ntmps43
 go_wp2
 go_region
 all_goals (clear r3 r4 r2 r6;go_wp2;go_returns;refine ⟨⟨_,rfl,newVm_own (B:=w.heap.size) ?_ ?_ ?_ ?_ ⟨⟨by omega,by omega⟩,by omega,by omega⟩ ⟨⟨by omega,by omega,by omega⟩,⟨by omega,by omega⟩,by omega⟩⟩,by go_grown⟩<;>(refine Blk.drew ?_;repeat (first | exact blk_at _ _ _ (by simp) | refine blk_old _ ?_)))
end Go.Proofs.YtgmhhegckcionaaGreatDoor
