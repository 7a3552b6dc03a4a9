/-
  Joined: Ops, InstrI, Leads, Prog4, CodeI.
-/
import Derived.Handy
import Derived.Shelf.Abstract
import Derived.OwnWalk
import Derived.Test.YthmgampabhbpoaaGreatDoorF01

namespace Go.Proofs.YthmgampabhbpoaaGreatDoor
set_option maxRecDepth 100000
set_option maxHeartbeats 16000000
open Go.RowKit

def inB (n a b:Int):Bool:=decide (a≤n∧n≤b)

theorem inB_true {n a b:Int}:inB n a b=true↔a≤n∧n≤b:=by simp [inB]
theorem inB_false {n a b:Int}:inB n a b=false↔¬ (a≤n∧n≤b):=by simp only [inB,decide_eq_false_iff_not]


def okI (x:I3):Bool:=
 if x.1=1 then inB x.2.1 0 1 && inB x.2.2 0 3
 else if x.1=2 then inB x.2.1 0 3 && inB x.2.2 0 1
 else if x.1=3∨x.1=4∨x.1=8 then inB x.2.1 0 1 && inB x.2.2 0 9
 else if x.1=5∨x.1=6 then inB x.2.1 0 1 && inB x.2.2 0 0
 else if x.1=7 then inB x.2.1 0 1 && inB x.2.2 1 6
 else false

theorem op_cases (x:I3):x.1=1∨x.1=2∨x.1=3∨x.1=4∨x.1=5∨x.1=6∨x.1=7∨x.1=8∨(x.1≠1∧x.1≠2∧x.1≠3∧x.1≠4∧x.1≠5∧x.1≠6∧x.1≠7∧x.1≠8):=by omega


def leads (x:I3) (k n:Int):Bool:=if x.1=7 then inB x.2.2 (k+1) n else true


theorem cells_kept {w w':World} (h:Below w.heap.size w w'):∀ (p:Addr) (v:Value),w.cell? p=some v→w'.cell? p=some v:=by
 intro p v hv
 have hlt:p.block<w.heap.size:=by
  rcases Nat.lt_or_ge p.block w.heap.size with h' | h'
  ·exact h'
  ·simp [World.cell?,Array.getElem?_eq_none h'] at hv
 rw [h.cell hlt]
 exact hv


def okFrom (n:Nat):Nat→List I3→Bool
 | _,[]=>true
 | i,x::xs=>(okI x && leads x i n) && okFrom n (i+1) xs

def codeOk (xs:List I3):Bool:=decide (xs.length≤6) && okFrom xs.length 0 xs

def progOk (rows:List (List I3)):Bool:=decide (rows.length=3) && rows.all codeOk

end Go.Proofs.YthmgampabhbpoaaGreatDoor
