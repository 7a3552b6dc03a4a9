/-
  Joined: NewVmI.
-/
import Derived.Test.YtgmhhegckcionaaGreatDoorF05

namespace Go.Proofs.YtgmhhegckcionaaGreatDoor
set_option maxRecDepth 100000
set_option maxHeartbeats 16000000
open Go.RowKit

def Zu:V4:=([0,0,0],[0,0,0,0],[0,0],[0,0,0,0,0,0])

theorem CD (w:World):(Instr.makeSlice 36 (.int .i64 3) (.int .i64 3)).run Tryz.prog w=.ok (.slice (some ⟨w.heap.size,0,none⟩) 3 3) (w.alloc (.cells #[.int .i64 0,.int .i64 0,.int .i64 0] 3)):=by kernel_rfl
theorem CE (w:World):(Instr.makeSlice 36 (.int .i64 4) (.int .i64 4)).run Tryz.prog w=.ok (.slice (some ⟨w.heap.size,0,none⟩) 4 4) (w.alloc (.cells #[.int .i64 0,.int .i64 0,.int .i64 0,.int .i64 0] 3)):=by kernel_rfl
theorem CC (w:World):(Instr.makeSlice 36 (.int .i64 2) (.int .i64 2)).run Tryz.prog w=.ok (.slice (some ⟨w.heap.size,0,none⟩) 2 2) (w.alloc (.cells #[.int .i64 0,.int .i64 0] 3)):=by kernel_rfl
theorem CF (w:World):(Instr.makeSlice 36 (.int .i64 6) (.int .i64 6)).run Tryz.prog w=.ok (.slice (some ⟨w.heap.size,0,none⟩) 6 6) (w.alloc (.cells #[.int .i64 0,.int .i64 0,.int .i64 0,.int .i64 0,.int .i64 0,.int .i64 0] 3)):=by kernel_rfl

theorem Fd {g:Nat} (w:World) (t:Nat) (cs:List Value) (h:g=w.heap.size):Blk (w.alloc (.cells cs.toArray t)) g t cs:=by
 subst h
 exact Blk.new w t cs
theorem K2 {g t:Nat} {cs:List Value} {w:World} (o:Obj) (h:Blk w g t cs):Blk (w.alloc o) g t cs:=(Below.heap_alloc w o g h.lt).trans h
theorem Qb {w:World} {B g n:Nat} {zs:List Int} (h:Blk w g 3 (zs.map (Value.int .i64))) (hB:B≤g) (hn:zs.length=n) (hm:n≤1000):Z0 w B (some ⟨g,0,none⟩,n,n) zs:=by
 unfold Z0
 refine ⟨by simpa using hn,.inr ⟨g,n,_,rfl,hB,h,Nat.le_refl _,by unfold maxLen;omega,by simpa using hn,?_⟩⟩
 simp only [Nat.mul_one]
 exact List.take_of_length_le (by simp [hn])
theorem Ua {g g' n n':Nat} (h:g≠g'):VY (some ⟨g,0,none⟩,n,n) (some ⟨g',0,none⟩,n',n'):=fun x hx h'=>by
 simp [Value.ownBlock] at hx h'
 omega
theorem Nd {W:World} {B g3 g4 g2 g6:Nat} (h3:Blk W g3 3 [.int .i64 0,.int .i64 0,.int .i64 0]) (h4:Blk W g4 3 [.int .i64 0,.int .i64 0,.int .i64 0,.int .i64 0]) (h2:Blk W g2 3 [.int .i64 0,.int .i64 0])
  (h6:Blk W g6 3 [.int .i64 0,.int .i64 0,.int .i64 0,.int .i64 0,.int .i64 0,.int .i64 0]) (hB:(B≤g3∧B≤g4)∧B≤g2∧B≤g6) (hne:(g3≠g4∧g3≠g2∧g3≠g6)∧(g4≠g2∧g4≠g6)∧g2≠g6) :
  Z3 W B ((some ⟨g3,0,none⟩,3,3),(some ⟨g4,0,none⟩,4,4),(some ⟨g2,0,none⟩,2,2),(some ⟨g6,0,none⟩,6,6)) Zu:=
 ⟨⟨Qb (zs:=[0,0,0]) h3 hB.1.1 rfl (by omega),Qb (zs:=[0,0,0,0]) h4 hB.1.2 rfl (by omega),Qb (zs:=[0,0]) h2 hB.2.1 rfl (by omega),Qb (zs:=[0,0,0,0,0,0]) h6 hB.2.2 rfl (by omega)⟩,
  Ua hne.1.1,Ua hne.1.2.1,Ua hne.1.2.2,Ua hne.2.1.1,Ua hne.2.1.2,Ua hne.2.2⟩

theorem YZ (w:World) :
  Calls Tryz.prog 43 #[] w fun e w'=>(∃ s:S4,e=.returned s.val∧Z3 w' w.heap.size s Zu)∧Below w.heap.size w w':=by
 have r3:=CD
 have r4:=CE
 have r2:=CC
 have r6:=CF
 go_enter Tryz.func43,Tryz.ntmps43
 go_wp2
 go_region
 all_goals (clear r3 r4 r2 r6;go_wp2;go_returns;refine ⟨⟨_,rfl,Nd (B:=w.heap.size) ?_ ?_ ?_ ?_ ⟨⟨by omega,by omega⟩,by omega,by omega⟩ ⟨⟨by omega,by omega,by omega⟩,⟨by omega,by omega⟩,by omega⟩⟩,by go_grown⟩<;>(refine Blk.drew ?_;repeat (first | exact Fd _ _ _ (by simp) | refine K2 _ ?_)))
end Go.Proofs.YtgmhhegckcionaaGreatDoor
