/-
  Joined: MachO.
-/
import Derived.Test.YtbdfbdbpjijcdaaGreatDoorM05
import Derived.Test.YtbdfbdbpjijcdaaGreatDoorM09

namespace Go.Proofs.YtbdfbdbpjijcdaaGreatDoor
set_option maxRecDepth 100000
set_option maxHeartbeats 16000000
open Go.RowKit

theorem ints_at9 {w:World} {b off n c:Nat} {zs:List Int} (h:Ints .i64 w (some ⟨b,off,none⟩) n c zs) {t:Nat} (ht:t<n):w.cell? ⟨b,off+t,none⟩=some (.int .i64 (zs.getD t 0)):=by
 rcases h.2.2.2 with h0 | ⟨b',off',ha,_,hc⟩
 ·omega
 ·cases ha
  exact hc t ht
def RowsAt (w:World) (a:Option Addr) (cs:Sl × Sl × Sl) (rows:List (List I3)):Prop:=
 ∃ b off,a=some ⟨b,off,none⟩∧b<w.heap.size∧∀ k,k<3→w.cell? ⟨b,off+k,none⟩=some (.slice (slK cs k).1 (slK cs k).2.1 (slK cs k).2.2)∧Instrs w (slK cs k).1 (slK cs k).2.1 (slK cs k).2.2 (codeM rows k)
theorem RowsAt.below {w w':World} {a:Option Addr} {cs:Sl × Sl × Sl} {rows:List (List I3)} (h:RowsAt w a cs rows) (hb:Below w.heap.size w w'):RowsAt w' a cs rows:=by
 obtain ⟨b,off,ha,hlt,hk⟩:=h
 exact ⟨b,off,ha,Nat.lt_of_lt_of_le hlt hb.size,fun k h3=>⟨cells_kept hb _ _ (hk k h3).1,(hk k h3).2.below hb⟩⟩
theorem Codes.rowsAt {w:World} {a:Option Addr} {len cap:Nat} {rows:List (List I3)} (hC:Codes w a len cap rows) (hp:progOk rows=true):len=3∧∃ cs,RowsAt w a cs rows:=by
 obtain ⟨h3,_⟩:=progOk_parts hp
 obtain ⟨hl,hlc,hcm,hcase⟩:=hC
 obtain rfl:len=3:=hl.symm.trans h3
 rcases hcase with h9 | ⟨b,off,ha,hlt,hrow⟩
 ·exact absurd h9 (by decide)
 ·obtain ⟨a0,n0,c0,r0,i0⟩:=hrow 0 (by decide)
  obtain ⟨a1,n1,c1,r1,i1⟩:=hrow 1 (by decide)
  obtain ⟨a2,n2,c2,r2,i2⟩:=hrow 2 (by decide)
  refine ⟨rfl,((a0,n0,c0),(a1,n1,c1),(a2,n2,c2)),b,off,ha,hlt,fun k hk=>?_⟩
  match k,hk with
  | 0,_=>exact ⟨r0,i0⟩
  | 1,_=>exact ⟨r1,i1⟩
  | 2,_=>exact ⟨r2,i2⟩
end Go.Proofs.YtbdfbdbpjijcdaaGreatDoor
