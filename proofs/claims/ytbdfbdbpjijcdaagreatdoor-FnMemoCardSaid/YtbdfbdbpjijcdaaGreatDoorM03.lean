/-
  Joined: Leads, Prog4, CodeI.
-/
import Derived.Test.YtbdfbdbpjijcdaaGreatDoorM02

namespace Go.Proofs.YtbdfbdbpjijcdaaGreatDoor
set_option maxRecDepth 100000
set_option maxHeartbeats 16000000
open Go.RowKit

def leads (x:I3) (k n:Int):Bool:=if x.1=7 then inB x.2.2 (k+1) n else true


theorem cells_kept {w w':World} (h:Below w.heap.size w w'):∀ (p:Addr) (v:Value),w.cell? p=some v→w'.cell? p=some v:=by
 intro p v hv
 have hlt:p.block<w.heap.size:=by
  rcases Nat.lt_or_ge p.block w.heap.size with h' | h'
  ·exact h'
  ·simp [World.cell?,Array.getElem?_eq_none h'] at hv
 rw [h.cell hlt]
 exact hv


def okFrom (n:Nat):Nat→List I3→Bool
 | _,[]=>true
 | i,x::xs=>(okI x && leads x i n) && okFrom n (i+1) xs

def codeOk (xs:List I3):Bool:=decide (xs.length≤6) && okFrom xs.length 0 xs

def progOk (rows:List (List I3)):Bool:=decide (rows.length=3) && rows.all codeOk

end Go.Proofs.YtbdfbdbpjijcdaaGreatDoor
