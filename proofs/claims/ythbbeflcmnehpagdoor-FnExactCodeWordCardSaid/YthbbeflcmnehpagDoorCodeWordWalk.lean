/-
  FnExactCodeWord: at every integer the program's CodeWord answers as the specification's, the program's table being as its text lays it: the law's walk, and what the condition on the table gives.
-/
import Derived.Test.YthbbeflcmnehpagDoorWords
import Derived.Test.YthbbeflcmnehpagDoorRows
import Derived.ProofKit
import Derived.LaidMore
import Derived.MakeChecks
namespace Go.Proofs.YthbbeflcmnehpagDoor
open Go.RowKit

set_option maxHeartbeats 1000000 in
theorem fnExactCodeWord_walk (a0 : Int) (_w0 : (Lit.int .i64 a0).wf = true) (w : World) (hT : Table w) :
    Calls Tryd.prog 3 #[.int .i64 a0] w fun e w' => e = .returned (.bool true) ∧ Below w.heap.size w w' := by
  by_cases hr : 0 ≤ a0 ∧ a0 < 20
  · obtain ⟨n, rfl⟩ := Int.eq_ofNat_of_zero_le hr.1
    have hn : n < 20 := by omega
    clear hr
    go_enter Tryd.func3, Tryd.ntmps3
    go_wp2_with fail
    refine (specCodeWord_yes n hn _).mono ?_
    rintro e w1 ⟨rfl, hb1⟩
    have hT1 : Table w1 := hT.below hb1
    go_wp2_with fail
    refine (implCodeWord_yes n hn _ hT1).mono ?_
    rintro e w2 ⟨rfl, rfl⟩
    generalize wordB n = s
    go_wp2
    go_ret
    exact ⟨rfl, hb1⟩
  · have hr' : a0 < 0 ∨ 20 ≤ a0 := by omega
    clear hr
    go_enter Tryd.func3, Tryd.ntmps3
    go_wp2_with fail
    refine (specCodeWord_no a0 hr' _).mono ?_
    rintro e w1 ⟨rfl, hb1⟩
    go_wp2_with fail
    refine (implCodeWord_no a0 hr' _).mono ?_
    rintro e w2 ⟨rfl, rfl⟩
    go_wp2
    go_ret
    exact ⟨rfl, hb1⟩

theorem gWords : Tryd.prog.globalNamed "loop.example/g00632/impl.codeWords" = some 0 := by kernel_rfl
theorem tWords : (Tryd.prog.globals[0]?).map (·.type) = some 29 := by kernel_rfl

/-- What the condition on the table gives the walks. -/
theorem table_of_laid {W : World} {p : List (String × DataW Unit)} (hp : p = [("loop.example/g00632/impl.codeWords", Rows.laid_loop_example_g00632_impl_codeWords)]) (h : laidMetH Tryd.prog p W) : Table W := by
  subst hp
  rw [MakeChecks.laidMetH_plain _ _ _ (by kernel_rfl)] at h
  obtain ⟨ps, ⟨g0, t0, cs0, f0, p0, q0, hg0, ht0, hv0, hd0, _, _⟩, _, _⟩ := h
  obtain rfl := Option.some.inj (gWords.symm.trans hg0)
  obtain rfl := Option.some.inj (tWords.symm.trans ht0)
  have hcs : cs0.toList = wordCells := cells_of_strs (zs := wordsL) Tryd.underlying29 Tryd.underlying9 (by kernel_rfl) (by kernel_rfl) hd0
  have hcs' : cs0 = wordCells.toArray := by rw [← hcs]
  rw [hcs'] at hv0
  unfold World.var? at hv0
  simp only [gWords, Option.bind_some] at hv0
  cases hh : W.heap[0]? with
  | none => rw [hh] at hv0; cases hv0
  | some o =>
    rw [hh] at hv0
    cases o with
    | cells cs t fr => simp only [Option.some.injEq] at hv0; subst hv0; exact ⟨t, fr, hh⟩
    | _ => cases hv0

theorem fnExactCodeWord_laid {W : World} (h : laidMetH Tryd.prog Rows.fnExactCodeWordRow.laid W) : Table W := table_of_laid rfl h
theorem fnExactCodeWord_door_met (os : Os) (args : Array Value) : laidMetH Tryd.prog Rows.fnExactCodeWordRow.laid ((World.doorLaid Tryd.prog 400 os).forCall (fun _ _ => 0) ⟨#[], args, []⟩).memory :=
  laidMetH_of_parts3 (fuel := 8) (laidMet_of_run' 8 (by kernel_rfl) (by kernel_rfl)) (by kernel_rfl) (by kernel_rfl)
end Go.Proofs.YthbbeflcmnehpagDoor
