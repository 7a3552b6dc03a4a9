/-
  Joined: Src.
-/
import Derived.BigRegion
import Derived.Test.YtojcgajjnmjjpaaDoorL02

namespace Go.Proofs.YtojcgajjnmjjpaaDoor
set_option maxRecDepth 100000
open Go.RowKit

def Code (w:World) (p:Nat) (a:Option Addr) (n cap:Nat):Prop:=∃ zs:List Int,Ints .u8 w a n cap zs∧(∀ z ∈ zs,0≤z∧z≤255)∧n≤1048576∧∀ x,a=some x→n≠0→x.block<p

end Go.Proofs.YtojcgajjnmjjpaaDoor
