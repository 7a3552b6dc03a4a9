/-
  fnMemo: what is closed of its row, a theorem each.
-/
import Derived.Test.YtbdfbdbpjijcdaaGreatDoorRows
import Derived.Test.YtbdfbdbpjijcdaaGreatDoorCards
import Derived.Test.YtbdfbdbpjijcdaaGreatDoorTie
import Derived.WalkKit
import Derived.ProofKit
import Derived.OpenShut
import Derived.ShutString
import Derived.ChangeOld
import Derived.Below
import Derived.Stop.Joined
import Derived.SevenTiedAt
import Derived.LaidMore
import Derived.JoinedOf
namespace Go.Proofs.YtbdfbdbpjijcdaaGreatDoor
open Go.ChangeShapes Go.WideShapes Go.ChangeAt Go.RowKit
open Go.ChangeMaps (open_string shut_string)
open Go.Proofs.YtbdfbdbpjijcdaaGreatDoor.Rows
set_option maxRecDepth 100000 in
theorem joinedFacts_of {P : Program} {f : FuncId} {fn : Func} {s : ChangeSpec} {c : OpenClaim} (h1 : (c.wf (OpenSpec.ofChange s)) = true) (h2 : (laidOutB P) = true) (h3 : (mapsRowed P) = true) (h4 : (fn.params.all (P.readableRec ·)) = true) (h5 : (namedTie P c.named s.vars) = true) (h6 : (c.stops == []) = true) (h7 : (P.stops == []) = true) (h8 : (c.knobs == []) = true) (h9 : (P.stopKnobs == []) = true) (h10 : (c.inPlace == P.inPlace f) = true) (h11 : (c.unfollowed == P.unfollowed f) = true) (h12 : (c.recurses == P.recurses f) = true) (h13 : (c.named == P.varsNamed f) = true) (h14 : (c.maps == (fn.params.toList ++ s.plain.varTypes P).any (P.mapsRec ·)) = true) (h15 : (c.ifaces == (fn.params.toList ++ s.plain.varTypes P).any (P.ifacesRec ·)) = true) (h16 : (c.mapsOut == P.mapsAmong fn.resultTypes.toList) = true) (h17 : (c.loops == (fn.params.toList ++ s.plain.varTypes P).any (P.loopsFrom ·)) = true) (h18 : (c.wideKeys == ((fn.params.toList ++ s.plain.varTypes P) ++ fn.resultTypes.toList).any (P.wideKeysFrom ·)) = true) (h19 : (s.vars.all (P.varReadable ·)) = true) (h20 : (fn.resultTypes.all (fun t => P.readableRec t && decide (t < P.types.size))) = true) (h21 : (c.ifacesOut == fn.resultTypes.toList.any (P.ifacesRec ·)) = true) (h22 : (c.loopsOut == fn.resultTypes.toList.any (P.loopsFrom ·)) = true) (h23 : (c.plainKeys == P.plainKeys) = true) (h24 : (c.shortTexts.isNone) = true) (h25 : (P.stopsHeard) = true) (h26 : (P.mayEnter) = true) (h27 : (c.lifted == P.liftsFinal) = true) (h28 : (P.make == some c.make) = true) (h29 : (c.kinds == (if c.domain.isEmpty then [] else fn.params.toList.map fun t => match P.underlying t with | some (.int k) => some k | _ => none)) = true) (h30 : (c.pinned == c.pinnedBy) = true) (h31 : (c.veiled == ((fn.params.toList ++ s.plain.varTypes P) ++ fn.resultTypes.toList).any (P.veiledRec ·)) = true) (h32 : (c.veiledFits P fn.params.toList ((fn.params.toList ++ s.plain.varTypes P) ++ fn.resultTypes.toList)) = true) : joinedFacts P f fn s c = true := by
  unfold joinedFacts
  simp only [Bool.and_eq_true]
  exact ⟨⟨⟨⟨⟨⟨⟨⟨⟨⟨⟨⟨⟨⟨⟨⟨⟨⟨⟨⟨⟨⟨⟨⟨⟨⟨⟨⟨⟨⟨⟨h1, h2⟩, h3⟩, h4⟩, h5⟩, h6⟩, h7⟩, h8⟩, h9⟩, h10⟩, h11⟩, h12⟩, h13⟩, h14⟩, h15⟩, h16⟩, h17⟩, h18⟩, h19⟩, h20⟩, h21⟩, h22⟩, h23⟩, h24⟩, h25⟩, h26⟩, h27⟩, h28⟩, h29⟩, h30⟩, h31⟩, h32⟩
theorem fnMemo_j1 : (fnMemoRow.wf (OpenSpec.ofChange fnMemoSpec)) = true := by kernel_rfl
theorem fnMemo_j2 : (laidOutB Tryz.prog) = true := by kernel_rfl
theorem fnMemo_j3 : (mapsRowed Tryz.prog) = true := by kernel_rfl
theorem fnMemo_j4 : (Tryz.f4.params.all (Tryz.prog.readableRec ·)) = true := by kernel_rfl
theorem fnMemo_j5 : (namedTie Tryz.prog fnMemoRow.named fnMemoSpec.vars) = true := by kernel_rfl
theorem fnMemo_j6 : (fnMemoRow.stops == []) = true := by kernel_rfl
theorem fnMemo_j7 : (Tryz.prog.stops == []) = true := by kernel_rfl
theorem fnMemo_j8 : (fnMemoRow.knobs == []) = true := by kernel_rfl
theorem fnMemo_j9 : (Tryz.prog.stopKnobs == []) = true := by kernel_rfl
theorem fnMemo_j10 : (fnMemoRow.inPlace == Tryz.prog.inPlace 4) = true := by kernel_rfl
theorem fnMemo_j11 : (fnMemoRow.unfollowed == Tryz.prog.unfollowed 4) = true := by kernel_rfl
theorem fnMemo_j12 : (fnMemoRow.recurses == Tryz.prog.recurses 4) = true := by kernel_rfl
theorem fnMemo_j13 : (fnMemoRow.named == Tryz.prog.varsNamed 4) = true := by kernel_rfl
theorem fnMemo_j14 : (fnMemoRow.maps == (Tryz.f4.params.toList ++ fnMemoSpec.plain.varTypes Tryz.prog).any (Tryz.prog.mapsRec ·)) = true := by kernel_rfl
theorem fnMemo_j15 : (fnMemoRow.ifaces == (Tryz.f4.params.toList ++ fnMemoSpec.plain.varTypes Tryz.prog).any (Tryz.prog.ifacesRec ·)) = true := by kernel_rfl
theorem fnMemo_j16 : (fnMemoRow.mapsOut == Tryz.prog.mapsAmong Tryz.f4.resultTypes.toList) = true := by kernel_rfl
theorem fnMemo_j17 : (fnMemoRow.loops == (Tryz.f4.params.toList ++ fnMemoSpec.plain.varTypes Tryz.prog).any (Tryz.prog.loopsFrom ·)) = true := by kernel_rfl
theorem fnMemo_j18 : (fnMemoRow.wideKeys == ((Tryz.f4.params.toList ++ fnMemoSpec.plain.varTypes Tryz.prog) ++ Tryz.f4.resultTypes.toList).any (Tryz.prog.wideKeysFrom ·)) = true := by kernel_rfl
theorem fnMemo_j19 : (fnMemoSpec.vars.all (Tryz.prog.varReadable ·)) = true := by kernel_rfl
theorem fnMemo_j20 : (Tryz.f4.resultTypes.all (fun t => Tryz.prog.readableRec t && decide (t < Tryz.prog.types.size))) = true := by kernel_rfl
theorem fnMemo_j21 : (fnMemoRow.ifacesOut == Tryz.f4.resultTypes.toList.any (Tryz.prog.ifacesRec ·)) = true := by kernel_rfl
theorem fnMemo_j22 : (fnMemoRow.loopsOut == Tryz.f4.resultTypes.toList.any (Tryz.prog.loopsFrom ·)) = true := by kernel_rfl
theorem fnMemo_j23 : (fnMemoRow.plainKeys == Tryz.prog.plainKeys) = true := by kernel_rfl
theorem fnMemo_j24 : (fnMemoRow.shortTexts.isNone) = true := by kernel_rfl
theorem fnMemo_j25 : (Tryz.prog.stopsHeard) = true := by kernel_rfl
theorem fnMemo_j26 : (Tryz.prog.mayEnter) = true := by kernel_rfl
theorem fnMemo_j27 : (fnMemoRow.lifted == Tryz.prog.liftsFinal) = true := by kernel_rfl
theorem fnMemo_j28 : (Tryz.prog.make == some fnMemoRow.make) = true := by kernel_rfl
theorem fnMemo_j29 : (fnMemoRow.kinds == (if fnMemoRow.domain.isEmpty then [] else Tryz.f4.params.toList.map fun t => match Tryz.prog.underlying t with | some (.int k) => some k | _ => none)) = true := by kernel_rfl
theorem fnMemo_j30 : (fnMemoRow.pinned == fnMemoRow.pinnedBy) = true := by kernel_rfl
theorem fnMemo_j31 : (fnMemoRow.veiled == ((Tryz.f4.params.toList ++ fnMemoSpec.plain.varTypes Tryz.prog) ++ Tryz.f4.resultTypes.toList).any (Tryz.prog.veiledRec ·)) = true := by kernel_rfl
theorem fnMemo_j32 : (fnMemoRow.veiledFits Tryz.prog Tryz.f4.params.toList ((Tryz.f4.params.toList ++ fnMemoSpec.plain.varTypes Tryz.prog) ++ Tryz.f4.resultTypes.toList)) = true := by kernel_rfl
theorem fnMemo_facts : joinedFacts Tryz.prog 4 Tryz.f4 fnMemoSpec fnMemoRow = true := joinedFacts_of fnMemo_j1 fnMemo_j2 fnMemo_j3 fnMemo_j4 fnMemo_j5 fnMemo_j6 fnMemo_j7 fnMemo_j8 fnMemo_j9 fnMemo_j10 fnMemo_j11 fnMemo_j12 fnMemo_j13 fnMemo_j14 fnMemo_j15 fnMemo_j16 fnMemo_j17 fnMemo_j18 fnMemo_j19 fnMemo_j20 fnMemo_j21 fnMemo_j22 fnMemo_j23 fnMemo_j24 fnMemo_j25 fnMemo_j26 fnMemo_j27 fnMemo_j28 fnMemo_j29 fnMemo_j30 fnMemo_j31 fnMemo_j32
theorem fnMemo_w : fnMemoRow.wfByText (OpenSpec.ofChange fnMemoSpec) = true := by kernel_rfl
theorem fnMemo_main : Tryz.prog.mainIs = some (true, "4c76fb5ef2e24b4b1c0ff5022a27cc3174e03ca118ee4ce1dc5d5d4c3ffd15d1".toList) := by kernel_rfl
theorem fnMemo_looks : true = Tryz.prog.looks [] := by kernel_rfl
theorem fnMemo_goes : false = fnMemoRow.goesBy Tryz.prog := by kernel_rfl
end Go.Proofs.YtbdfbdbpjijcdaaGreatDoor
