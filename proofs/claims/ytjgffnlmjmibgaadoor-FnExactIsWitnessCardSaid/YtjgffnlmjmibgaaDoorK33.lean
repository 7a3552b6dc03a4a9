/-
  Joined: RpA.
-/
import Derived.Deep.Cut
import Derived.Stop.Asserts
import Derived.Test.YtjgffnlmjmibgaaDoorK30

namespace Go.Proofs.YtjgffnlmjmibgaaDoor
set_option maxRecDepth 100000
set_option maxHeartbeats 16000000
open Go.RowKit
set_option linter.unusedVariables false
set_option linter.unusedSimpArgs false

theorem rstep_range (g:Nat) (k:Int) (w:World) (hk:inB k 0 2=false) :
  Calls Tryd.prog 62 #[.pointer (some ⟨g,0,none⟩),.int .i64 k] w fun e w'=>e=.returned (.iface 109 (.int .i64 4))∧w=w':=by
 have kT:=isThread_is k
 rw [hk] at kT
 clear hk
 go_enter Tryd.func62,Tryd.ntmps62
 go_wp2_with fail
 refine (kT _).mono ?_
 rintro e w1 ⟨rfl,rfl⟩
 go_wp2
 go_ret
 exact ⟨rfl,rfl⟩

theorem rstep_done {fv:Value} {w:World} {g:Nat} {cs:Sl × Sl × Sl} {rows:List (List I3)} {m:V4} (h:Rp.MachAt fv w g cs rows m) {k:Nat} (hk:k<3) (hd:doneM rows m k=true) :
  Calls Tryd.prog 62 #[.pointer (some ⟨g,0,none⟩),.int .i64 k] w fun e w'=>e=.returned (.iface 109 (.int .i64 10))∧Below w.heap.size w w':=by
 have kT:=isThread_is k
 have ht:inB (k:Int) 0 2=true:=inB_true.2 (by omega)
 have kD:=Rp.doneT_is h hk
 rw [ht] at kT
 rw [hd] at kD
 have hk3:(k:Int)<3:=by omega
 clear hd ht h
 go_enter Tryd.func62,Tryd.ntmps62
 go_wp2_with fail
 refine (kT _).mono ?_
 rintro e w1 ⟨rfl,rfl⟩
 clear kT
 go_wp2_with fail
 refine kD.mono ?_
 rintro e w1 ⟨rfl,d,rfl⟩
 go_wp2
 go_ret
 exact ⟨rfl,below_dN _⟩

theorem rstep_waits {fv:Value} {w:World} {g:Nat} {cs:Sl × Sl × Sl} {rows:List (List I3)} {m:V4} (h:Rp.MachAt fv w g cs rows m) (hp:progOk rows=true) (hs:shapeOk m=true) {k:Nat} (hk:k<3) (hd:doneM rows m k=false) (hw:waitM rows m k=true) :
  Calls Tryd.prog 62 #[.pointer (some ⟨g,0,none⟩),.int .i64 k] w fun e w'=>e=.returned (.iface 109 (.int .i64 11))∧Below w.heap.size w w':=by
 have kT:=isThread_is k
 have ht:inB (k:Int) 0 2=true:=inB_true.2 (by omega)
 have kD:=Rp.doneT_is h hk
 have kW:=fun W (hM:Rp.MachAt fv W g cs rows m)=>Rp.waits_is hM hp hs hk
 rw [ht] at kT
 rw [hd] at kD
 rw [hw] at kW
 have hk3:(k:Int)<3:=by omega
 clear hd ht hw hp hs
 go_enter Tryd.func62,Tryd.ntmps62
 go_wp2_with fail
 refine (kT _).mono ?_
 rintro e w1 ⟨rfl,rfl⟩
 clear kT
 go_wp2_with fail
 refine kD.mono ?_
 rintro e w1 ⟨rfl,d,rfl⟩
 clear kD
 go_wp2_with fail
 refine (kW _ (h.below (below_dN _))).mono ?_
 rintro e w1 ⟨rfl,hb⟩
 have bz:Below w.heap.size w w1:=bel_trans (below_dN _) hb
 clear hb kW h
 go_wp2
 go_ret
 exact ⟨rfl,bz⟩

theorem bug_of_halt (v:Value) (w:World):(Instr.typeAssert (.iface 109 v) 113 40 true).run Tryd.prog w=.ok (.tuple #[.agg #[.int .i64 0,.int .i64 0,.int .i64 0],.bool false]) w:=by kernel_rfl
theorem bug_of_bug (v:Value) (w:World):(Instr.typeAssert (.iface 40 v) 113 40 true).run Tryd.prog w=.ok (.tuple #[v,.bool true]) w:=by kernel_rfl
theorem halt_of_halt (v:Value) (w:World):(Instr.typeAssert (.iface 109 v) 20 109 false).run Tryd.prog w=.ok v w:=by kernel_rfl

theorem keep_halt (g:Nat) (c:Int) (w:World) :
  Calls Tryd.prog 61 #[.pointer (some ⟨g,0,none⟩),.iface 109 (.int .i64 c)] w fun e w'=>e=.panicked [{ v:=.iface 109 (.int .i64 c),recovered:=false }]∧Below w.heap.size w w':=by
 have hA:=bug_of_halt
 go_enter Tryd.func61,Tryd.ntmps61
 go_wp2
 exact ⟨rfl,rfl,by go_grown⟩

theorem keep_ok (g:Nat) (k pc:Int) (w:World) :
  Calls Tryd.prog 61 #[.pointer (some ⟨g,0,none⟩),.iface 40 (.agg #[.int .i64 0,.int .i64 k,.int .i64 pc])] w fun e w'=>e=.returned (.tuple #[])∧Below w.heap.size w w':=by
 have hA:=bug_of_bug
 go_enter Tryd.func61,Tryd.ntmps61
 go_wp2
 go_end0
 exact ⟨rfl,by go_grown⟩
end Go.Proofs.YtjgffnlmjmibgaaDoor
