/-
  Joined: Marks, Mk8.
-/
import Derived.Maps.AppendAt
import Derived.Lib.Hide
import Derived.Test.YthmgampabhbpoaaDoorC06
import Derived.Test.YthmgampabhbpoaaDoorC07

namespace Go.Proofs.YthmgampabhbpoaaDoor
set_option maxRecDepth 100000
set_option maxHeartbeats 16000000
open Go.RowKit

def mkTo:Int→List Int→Nat→List Int
 | _,xs,0=>xs
 | _,[],_+1=>[]
 | k,_::xs,j+1=>k::mkTo (k+1) xs j

set_option linter.unusedVariables false

theorem eq8 (a a':Option Addr) (len cap cap':Nat) (xs:List Int) (w:World) (h:Ints .i64 w a len cap xs) (h':Ints .i64 w a' len cap' xs) :
  Calls Tryd.prog 47 #[.slice a len cap,.slice a' len cap'] w fun e w'=>e=.returned (.bool true)∧Below w.heap.size w w':=by
 refine (eqIntS_same a a' len cap cap' xs w h h').mono ?_
 rintro e w' ⟨rfl,d,rfl⟩
 exact ⟨rfl,⟨rfl,rfl,rfl,Nat.le_refl _,fun _ _=>rfl⟩⟩
theorem to8 (a:Option Addr) (len cap:Nat) (zs:List Int) (w:World) (h:Ints .i64 w a len cap zs) (hlen:len≤1048576) :
  Calls Tryd.prog 40 #[.slice a len cap] w fun e w'=>e=.returned (.slice (some ⟨w.heap.size,0,none⟩) len len) ∧
   (∃ g,g=w.heap.size∧w'.ownsRow w.heap.size 3 1 (.slice (some ⟨g,0,none⟩) len len) len (zs.map (Value.int .i64)))∧Below w.heap.size w w':=by
 refine (toIntS_any a len cap zs w h hlen).mono ?_
 rintro e w' ⟨rfl,h1,h2⟩
 exact ⟨rfl,⟨_,rfl,h1⟩,h2⟩
end Go.Proofs.YthmgampabhbpoaaDoor
