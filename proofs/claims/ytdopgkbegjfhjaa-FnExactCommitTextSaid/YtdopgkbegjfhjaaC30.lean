/-
  Joined: UnProgS.
-/
import Derived.Laws.RangeString
import Derived.Laws.RangeAny
import Derived.Laws.Bits
import Derived.LaidEql
import Derived.Stop.Asserts
import Derived.RowKitTokens
import Derived.Laws.CopyOwn
import Derived.LoopTactic
import Derived.Laws.Runes
import Derived.Test.YtdopgkbegjfhjaaC15

namespace Go.Proofs.Ytdopgkbegjfhjaa
set_option maxRecDepth 100000
set_option maxHeartbeats 16000000
open Go.RowKit

theorem own_dr {w:World} {B e k n:Nat} {v:Value} {cs:List Value} (h:w.ownsRow B e k v n cs):w.drew.ownsRow B e k v n cs:=h
theorem three_dr (w:World) (x y z:Value) (t:TypeId):∀ j u,[x,y,z][j]?=some u→(w.alloc (.cells #[x,y,z] t)).drew.cell? ((⟨w.heap.size,0,none⟩:Addr).add j)=some u:=cell_three_new w x y z t
theorem below_app3 {B e k n:Nat} {wr w3:World} {o:Obj} {v:Value} {cs:List Value} (hb:B≤wr.heap.size) (hr:wr.ownsRow B e k v n cs) (hg:(wr.alloc o).drew.grownBy w3 v.ownBlock):Below B wr w3:=
 ((by go_grown:Below wr.heap.size wr (wr.alloc o).drew).mono hb).grown hg (by simp;omega) (fun j hj=>(hr.lt _ hj).1)
theorem cells_lo3 {B:Nat} {wr w3:World} (h:Below B wr w3) {p:Addr} {v:Value} (hp:p.block<B) (hc:wr.cell? p=some v):w3.cell? p=some v:=by rw [h.cell hp];exact hc
end Go.Proofs.Ytdopgkbegjfhjaa
