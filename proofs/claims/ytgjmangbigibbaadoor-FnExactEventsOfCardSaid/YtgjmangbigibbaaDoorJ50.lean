/-
  FnExactEventsOf, part 50 of 50 (EvF, VmLaid, EvEnd).
-/
import Derived.Test.YtgjmangbigibbaaDoorJ49
import Derived.Test.YtgjmangbigibbaaDoorJ17
import Derived.Test.YtgjmangbigibbaaDoorRows
import Derived.ProofKit
import Derived.OpenShut
import Derived.LaidMore
import Derived.MakeChecks
import Derived.Stop.LaidErr
import Derived.Test.YtgjmangbigibbaaDoorJ44

/-
  Both sides' EventsOf.
-/
namespace Go.Proofs.YtgjmangbigibbaaDoor
open Go.RowKit
set_option linter.unusedVariables false
set_option linter.unusedSimpArgs false

set_option maxHeartbeats 800000 in
set_option maxRecDepth 100000 in
theorem implEventsOf_is (a : Option Addr) (len cap : Nat) (rows : List (List I3)) (la : Option Addr) (n c : Nat) (ks : List Int) (w : World) (hC : Codes w a len cap rows) (hV : VmShape w) (hL : Ints .i64 w la n c ks) :
    Calls Tryd.prog 33 #[.agg #[.slice a len cap], .slice la n c] w fun e w' => EvGot e w' w.heap.size (evE rows ks) (evK rows ks) ∧ Below w.heap.size w w' := by
  unfold evE evK
  rw [hL.1]
  have bw : Below w.heap.size w (w.alloc (.cells #[.slice a len cap] 25)) := by go_grown
  have pP : Blk (w.alloc (.cells #[.slice a len cap] 25)) w.heap.size 25 [.slice a len cap] := blkAt _ _ _ rfl
  by_cases hn : 4096 < n
  · have hn' : (4096 : Int) < (n : Int) := by omega
    simp only [if_pos hn]
    clear hC hL hn pP hV
    go_enter Tryd.func33, Tryd.ntmps33
    go_wp2
    go_ret2
    exact ⟨⟨_, rfl, World.ownsRow_nil _ _ _ _⟩, bw⟩
  simp only [if_neg hn]
  have hn' : ¬ (4096 : Int) < (n : Int) := by omega
  cases hp : progOk rows
  · have kN := fun W (b : Below w.heap.size w W) => newReplay_bad (hC.below b) (hV.below b) hp
    simp only [Bool.false_eq_true, if_false]
    clear hp hC hL hn hV
    go_enter Tryd.func33, Tryd.ntmps33
    go_wp2_with fail
    generalize (w.alloc (.cells #[.slice a len cap] 25)) = U at *
    go_wp2_with (first | refine wpList_load_blk rfl 25 _ rfl w.heap.size rfl pP _ Tryd.underlying25 rfl (by kernel_rfl) ?_)
    refine (kN _ bw).mono ?_
    rintro e w1 ⟨rfl, hb⟩
    replace bw := bel_trans bw hb
    have pN := Blk.new w1 88 [.slice none 0 0, .int .i64 0, .int .i64 0, .int .i64 0, .slice none 0 0, .int .i64 0, .int .i64 0, .int .i64 0, .slice none 0 0, .int .i64 0, .int .i64 0, .int .i64 0, .int .i64 0, .int .i64 0, .int .i64 0, .int .i64 0, .int .i64 0, .int .i64 0, .slice none 0 0]
    have ha : Below w1.heap.size w1 (w1.alloc (.cells #[.slice none 0 0, .int .i64 0, .int .i64 0, .int .i64 0, .slice none 0 0, .int .i64 0, .int .i64 0, .int .i64 0, .slice none 0 0, .int .i64 0, .int .i64 0, .int .i64 0, .int .i64 0, .int .i64 0, .int .i64 0, .int .i64 0, .int .i64 0, .int .i64 0, .slice none 0 0] 88)) := by go_grown
    have hgw : w.heap.size ≤ w1.heap.size := bw.size
    clear kN hb pP
    go_wp2_with (refine wpList_store_blk rfl 88 _ _ rfl w1.heap.size [.slice none 0 0, .int .i64 0, .int .i64 0, .int .i64 0, .slice none 0 0, .int .i64 0, .int .i64 0, .int .i64 0, .slice none 0 0, .int .i64 0, .int .i64 0, .int .i64 0, .int .i64 0, .int .i64 0, .int .i64 0, .int .i64 0, .int .i64 0, .int .i64 0, .slice none 0 0] rfl rfl pN (by kernel_rfl) rfl rfl ?_)
    intro W9 pM g1
    replace bw := (bel_trans bw ha).grown g1 (by simp; omega) (fun x hx => by cases hx; omega)
    clear g1 ha pN pM
    generalize w1.heap.size = g at *
    go_wp2
    go_ret2
    exact ⟨⟨_, rfl, World.ownsRow_nil _ _ _ _⟩, bw⟩
  · simp only [if_true]
    obtain ⟨rfl, cs, hR⟩ := hC.rowsAt hp
    exact implEventsOf_ok a cap rows la n c ks w hC hV hp hL hn

set_option maxHeartbeats 800000 in
set_option maxRecDepth 100000 in
theorem l05Ask_is (a : Option Addr) (len cap : Nat) (rows : List (List I3)) (la : Option Addr) (n c : Nat) (w : World) (hC : Codes w a len cap rows) (hn : ¬ 4096 < n) :
    Calls Tryd.prog 66 #[.agg #[.slice a len cap], .slice la n c] w fun e w' => e = .returned (.int .i64 (if progOk rows then 0 else 1)) ∧ Below w.heap.size w w' := by
  have bw : Below w.heap.size w (w.alloc (.cells #[.slice a len cap] 25)) := by go_grown
  have pP : Blk (w.alloc (.cells #[.slice a len cap] 25)) w.heap.size 25 [.slice a len cap] := blkAt _ _ _ rfl
  have hn' : ¬ (4096 : Int) < (n : Int) := by omega
  have kP := fun W (b : Below w.heap.size w W) => specProgramOK_is a len cap rows W (hC.below b)
  cases hp : progOk rows
  · rw [hp] at kP
    clear hC hn hp
    go_enter Tryd.func66, Tryd.ntmps66
    go_wp2_with fail
    generalize (w.alloc (.cells #[.slice a len cap] 25)) = U at *
    go_wp2_with (first | refine wpList_load_blk rfl 25 _ rfl w.heap.size rfl pP _ Tryd.underlying25 rfl (by kernel_rfl) ?_)
    refine (kP _ bw).mono ?_
    rintro e w1 ⟨rfl, hb⟩
    replace bw := bel_trans bw hb
    clear hb kP pP
    go_wp2
    go_ret
    exact ⟨rfl, bw⟩
  · rw [hp] at kP
    clear hC hn hp
    go_enter Tryd.func66, Tryd.ntmps66
    go_wp2_with fail
    generalize (w.alloc (.cells #[.slice a len cap] 25)) = U at *
    go_wp2_with (first | refine wpList_load_blk rfl 25 _ rfl w.heap.size rfl pP _ Tryd.underlying25 rfl (by kernel_rfl) ?_)
    refine (kP _ bw).mono ?_
    rintro e w1 ⟨rfl, hb⟩
    replace bw := bel_trans bw hb
    clear hb kP pP
    go_wp2
    go_ret
    exact ⟨rfl, bw⟩

set_option maxHeartbeats 800000 in
set_option maxRecDepth 100000 in
theorem specEventsOf_is (a : Option Addr) (len cap : Nat) (rows : List (List I3)) (la : Option Addr) (n c : Nat) (ks : List Int) (w : World) (hC : Codes w a len cap rows) (hL : Ints .i64 w la n c ks) :
    Calls Tryd.prog 32 #[.agg #[.slice a len cap], .slice la n c] w fun e w' => EvGot e w' w.heap.size (evE rows ks) (evK rows ks) ∧ Below w.heap.size w w' := by
  unfold evE evK
  rw [hL.1]
  have bw : Below w.heap.size w (w.alloc (.cells #[.slice a len cap] 25)) := by go_grown
  have pP : Blk (w.alloc (.cells #[.slice a len cap] 25)) w.heap.size 25 [.slice a len cap] := blkAt _ _ _ rfl
  by_cases hn : 4096 < n
  · have hn' : (4096 : Int) < (n : Int) := by omega
    simp only [if_pos hn]
    clear hC hL hn pP
    go_enter Tryd.func32, Tryd.ntmps32
    go_wp2
    go_ret2
    exact ⟨⟨_, rfl, by simpa [flat4] using own_emptyB (w.alloc (.cells #[.slice a len cap] 25)) 107 4 w.heap.size (by simp)⟩, bel_trans bw (by go_grown)⟩
  simp only [if_neg hn]
  have hn' : ¬ (4096 : Int) < (n : Int) := by omega
  have kA := fun W (b : Below w.heap.size w W) => l05Ask_is a len cap rows la n c W (hC.below b) hn
  cases hp : progOk rows
  · rw [hp] at kA
    simp only [Bool.false_eq_true, if_false] at kA ⊢
    clear hp hC hL hn
    go_enter Tryd.func32, Tryd.ntmps32
    go_wp2_with fail
    generalize (w.alloc (.cells #[.slice a len cap] 25)) = U at *
    go_wp2_with (first | refine wpList_load_blk rfl 25 _ rfl w.heap.size rfl pP _ Tryd.underlying25 rfl (by kernel_rfl) ?_)
    refine (kA _ bw).mono ?_
    rintro e w1 ⟨rfl, hb⟩
    replace bw := bel_trans bw hb
    have q := own_emptyB w1 107 4 w.heap.size bw.size
    have bz := bel_trans bw (by go_grown : Below w1.heap.size w1 (w1.alloc (.cells #[] 107)))
    clear hb kA pP bw
    go_wp2
    go_ret2
    exact ⟨⟨_, rfl, q⟩, bz⟩
  · rw [hp] at kA
    simp only [if_true] at kA ⊢
    obtain ⟨rfl, cs, hR⟩ := hC.rowsAt hp
    have kE := fun W (b : Below w.heap.size w W) => l05Events_is (cap := cap) (hR.below b) hp (hL.below b) (by omega)
    generalize (if (runI rows zeroV [] ks).2.2 = 0 then evsM rows zeroV ks else []) = es at *
    generalize (runI rows zeroV [] ks).2.2 = cd at *
    clear hp hC hL hn hR
    go_enter Tryd.func32, Tryd.ntmps32
    go_wp2_with fail
    generalize (w.alloc (.cells #[.slice a 3 cap] 25)) = U at *
    go_wp2_with (first | refine wpList_load_blk rfl 25 _ rfl w.heap.size rfl pP _ Tryd.underlying25 rfl (by kernel_rfl) ?_)
    refine (kA _ bw).mono ?_
    rintro e w1 ⟨rfl, hb⟩
    replace bw := bel_trans bw hb
    replace pP := pP.below hb
    clear hb kA
    go_wp2_with (first | refine wpList_load_blk rfl 25 _ rfl w.heap.size rfl pP _ Tryd.underlying25 rfl (by kernel_rfl) ?_)
    refine (kE _ bw).mono ?_
    rintro e w2 ⟨⟨v, rfl, q⟩, hb⟩
    replace q := own_lowerB (B' := w.heap.size) q bw.size
    replace bw := bel_trans bw hb
    clear hb kE pP
    go_wp2
    go_ret2
    exact ⟨⟨_, rfl, q⟩, bw⟩
theorem evE_len (rows : List (List I3)) (ks : List Int) : (evE rows ks).length ≤ 5000 := by
  have key : ∀ (ks : List Int) (m : V4), (evsM rows m ks).length = ks.length := fun ks => by
    induction ks with
    | nil => intro m; rfl
    | cons k ks ih => intro m; simp only [evsM, List.length_cons, ih]
  unfold evE
  split
  · simp
  · split
    · split
      · rw [key]; omega
      · simp
    · simp
end Go.Proofs.YtgjmangbigibbaaDoor


/-
  What the condition on the table vmShape gives the walks.
-/
namespace Go.Proofs.YtgjmangbigibbaaDoor
open Go.RowKit Go.ChangeShapes

theorem gVmShape : Tryd.prog.globalNamed "loop.example/g00632/impl.vmShape" = some 0 := by kernel_rfl
theorem tVmShape : (Tryd.prog.globals[0]?).map (·.type) = some 152 := by kernel_rfl

section
variable {H : Type} {enc : TypeId × Value → H} {w : World} {base : Nat} {spare : Nat → Bool} {held : Bool}
set_option maxRecDepth 100000 in
/-- Two cells that are read as a row of the table. -/
theorem part_cells {fuel : Nat} {cs : List Value} {a b : Int} {p : List MemPlace} (h : DataW.trod enc Tryd.prog w base spare held fuel 151 cs = some (.agg [.lit (.int .i64 a), .lit (.int .i64 b)], p)) : cs = [.int .i64 a, .int .i64 b] := by
  obtain ⟨y0, y1, n, hx, hl, h0, h1⟩ := trod_struct2 Tryd.underlying151 h
  have hl2 : cs.length = 2 := hl.trans (by kernel_rfl)
  have hk : Tryd.prog.cellsOf 3 = 1 := by kernel_rfl
  match cs, hl2 with
  | [c0, c1], _ =>
    simp only [hk] at h0 h1
    obtain ⟨z0, e0, hy0, _⟩ := DataW.trod_int Tryd.underlying3 h0
    obtain ⟨z1, e1, hy1, _⟩ := DataW.trod_int Tryd.underlying3 h1
    simp at e0 e1
    subst hy0 hy1 e0 e1
    simp at hx
    simp [hx]
set_option maxRecDepth 100000 in
theorem shape_cells {fuel : Nat} {cs : List Value} {p : List MemPlace} (h : DataW.trod enc Tryd.prog w base spare held fuel 152 cs = some (Rows.laid_loop_example_g00632_impl_vmShape, p)) : cs = [3, 6, 4, 9, 2, 3, 6, 9].map (Value.int .i64) := by
  obtain ⟨xs, m, _, hx, hl, hn, hi⟩ := DataW.trod_array Tryd.underlying152 h
  have hk : Tryd.prog.cellsOf 151 = 2 := by kernel_rfl
  have hl8 : cs.length = 8 := hl.trans (by kernel_rfl)
  rw [hk] at hi
  match xs, hn with
  | [⟨x0, p0⟩, ⟨x1, p1⟩, ⟨x2, p2⟩, ⟨x3, p3⟩], _ =>
    unfold Rows.laid_loop_example_g00632_impl_vmShape at hx
    simp at hx
    obtain ⟨⟨rfl, rfl, rfl, rfl⟩, _⟩ := hx
    match cs, hl8 with
    | [c0, c1, c2, c3, c4, c5, c6, c7], _ =>
      have g0 := part_cells (hi 0 (by decide))
      have g1 := part_cells (hi 1 (by decide))
      have g2 := part_cells (hi 2 (by decide))
      have g3 := part_cells (hi 3 (by decide))
      simp at g0 g1 g2 g3
      simp [g0, g1, g2, g3]
end

set_option maxRecDepth 100000 in
/-- What the condition on the table gives the walks. -/
theorem vmShape_of_laid {W : World} {p : List (String × DataW Unit)} (hp : p = [("loop.example/g00632/impl.vmShape", Rows.laid_loop_example_g00632_impl_vmShape)]) (h : laidMetH Tryd.prog p W) : VmShape W := by
  subst hp
  rw [MakeChecks.laidMetH_plain _ _ _ (by kernel_rfl)] at h
  obtain ⟨ps, ⟨g0, t0, cs0, f0, p0, q0, hg0, ht0, hv0, hd0, _, _⟩, _, _⟩ := h
  obtain rfl := Option.some.inj (gVmShape.symm.trans hg0)
  obtain rfl := Option.some.inj (tVmShape.symm.trans ht0)
  have hcs := shape_cells hd0
  unfold World.var? at hv0
  simp only [gVmShape, Option.bind_some] at hv0
  cases hh : W.heap[0]? with
  | none => rw [hh] at hv0; cases hv0
  | some o =>
    rw [hh] at hv0
    cases o with
    | cells cs t fr =>
      simp only [Option.some.injEq] at hv0
      subst hv0
      intro i v hi
      rw [← hcs] at hi
      simp only [World.cell?, hh]
      simpa using hi
    | _ => cases hv0
end Go.Proofs.YtgjmangbigibbaaDoor


/-
  FnExactEventsOf: the walk over what both answer, and what the row's condition on vmShape gives it.
-/
namespace Go.Proofs.YtgjmangbigibbaaDoor
open Go.RowKit

theorem fnExactEventsOf_walk (a0 : Option Addr) (n0 c0 : Nat) (r0 : List (List I3)) (a1 : Option Addr) (n1 c1 : Nat) (z1 : List Int) (w : World) (h0 : Codes w a0 n0 c0 r0) (h1 : IsRow .i64 w a1 n1 c1 z1) (hG : VmShape w) :
    Calls Tryd.prog 6 #[.agg #[.slice a0 n0 c0], .slice a1 n1 c1] w fun e w' => e = .returned (.bool true) ∧ Below w.heap.size w w' :=
  fnExactEventsOf_of a0 n0 c0 r0 a1 n1 c1 (z1.take n1) (evE r0 (z1.take n1)) (by have := evE_len r0 (z1.take n1); omega) (evK r0 (z1.take n1)) w h0 (Ints.of_isRow h1) hG
    (fun a n c la ln lc w hC hL => specEventsOf_is a n c r0 la ln lc _ w hC hL)
    (fun a n c la ln lc w hC hL hV => implEventsOf_is a n c r0 la ln lc _ w hC hV hL)

theorem fnExactEventsOf_laid {W : World} (h : laidMetH Tryd.prog Rows.fnExactEventsOfRow.laid W) : VmShape W := vmShape_of_laid rfl h
theorem fnExactEventsOf_door_met (os : Os) (args : Array Value) : laidMetH Tryd.prog Rows.fnExactEventsOfRow.laid ((World.doorLaid Tryd.prog 400 os).forCall (fun _ _ => 0) ⟨#[], args, []⟩).memory :=
  laidMetH_of_parts3 (fuel := 8) (laidMet_of_run' 8 (by kernel_rfl) (by kernel_rfl)) (by kernel_rfl) (by kernel_rfl)
end Go.Proofs.YtgjmangbigibbaaDoor
