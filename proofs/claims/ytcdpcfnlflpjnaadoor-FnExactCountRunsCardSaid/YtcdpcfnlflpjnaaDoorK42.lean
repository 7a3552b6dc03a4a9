/-
  Joined: Parse.
-/
import Derived.Test.YtcdpcfnlflpjnaaDoorProg
import Derived.Deep.RegionHeld3
import Derived.KernelRfl
import Derived.Tactics
import Derived.WalkKit
import Derived.WalkSpells
import Derived.WalkLawsBesides
import Derived.RegionTactic
import Derived.BigQuiet
import Derived.Deep.QuietTactic
import Derived.Deep.Slices
import Derived.Deep.Strs
import Derived.Deep.Fields
import Derived.ChangeSame
import Derived.Handy
import Derived.OwnWalk
import Derived.Test.YtcdpcfnlflpjnaaDoorK01

/-
  Plain mathematics of a program's numbers read back: of each thread its length, and its instructions' three numbers.
-/
namespace Go.Proofs.YtcdpcfnlflpjnaaDoor

def triples : List Int → List I3
  | a :: b :: c :: r => (a, b, c) :: triples r
  | _ => []

def parse : Nat → List Int → Option (List (List I3))
  | 0, [] => some []
  | 0, _ :: _ => none
  | _ + 1, [] => none
  | k + 1, n :: zs => if (zs.length : Int) < 3 * n then none else (parse k (zs.drop (3 * n.toNat))).map (triples (zs.take (3 * n.toNat)) :: ·)

def PState (zs : List Int) (k : Nat) (done : List (List I3)) (rest : List Int) : Prop := parse 3 zs = (parse (3 - k) rest).map (done ++ ·)

theorem PState.fail {zs : List Int} {k : Nat} {done : List (List I3)} {rest : List Int} (h : PState zs k done rest) (hn : parse (3 - k) rest = none) : parse 3 zs = none := by
  rw [h, hn]; rfl
theorem PState.empty {zs : List Int} {k : Nat} {done : List (List I3)} (h : PState zs k done []) (hk : k < 3) : parse 3 zs = none := by
  refine h.fail ?_
  obtain ⟨j, hj⟩ : ∃ j, 3 - k = j + 1 := ⟨3 - k - 1, by omega⟩
  rw [hj]; rfl
end Go.Proofs.YtcdpcfnlflpjnaaDoor

