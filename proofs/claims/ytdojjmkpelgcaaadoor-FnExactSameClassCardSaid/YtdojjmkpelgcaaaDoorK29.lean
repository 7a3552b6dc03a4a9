/-
  Joined: MrgB, SrtB, RpH, VmLaid, Vars.
-/
import Derived.Test.YtdojjmkpelgcaaaDoorProg
import Derived.Deep.RegionHeld3
import Derived.KernelRfl
import Derived.Tactics
import Derived.WalkKit
import Derived.WalkSpells
import Derived.WalkLawsBesides
import Derived.RegionTactic
import Derived.BigQuiet
import Derived.Deep.QuietTactic
import Derived.Deep.Slices
import Derived.Deep.Strs
import Derived.Deep.Fields
import Derived.ChangeSame
import Derived.Handy
import Derived.OwnWalk
import Derived.Shelf.Abstract
import Derived.Deep.RegionLaw
import Derived.Laws.OwnMore
import Derived.Maps.AppendAt
import Derived.Shelf.SlSortCmp.NoneTotal
import Derived.Shelf.Spec.SlicesGrow
import Derived.Laws.AppendOwnNone
import Derived.Lib.SliceRun
import Derived.ChangeSlices
import Derived.Lib.SmallJoins
import Derived.Laws.BytesArg
import Derived.Laws.CopyOwn
import Derived.Laws.Tables
import Derived.BigRegion
import Derived.Stop.Asserts
import Derived.Recover
import Derived.Laws.RangeString
import Derived.Laws.RangeAny
import Derived.Laws.Bits
import Derived.Lib.FieldsP
import Derived.Test.YtdojjmkpelgcaaaDoorRows
import Derived.ProofKit
import Derived.OpenShut
import Derived.LaidMore
import Derived.MakeChecks
import Derived.Stop.LaidErr
import Derived.WalkSmall
import Derived.ChangeOld
import Derived.Test.YtdojjmkpelgcaaaDoorK01
import Derived.Test.YtdojjmkpelgcaaaDoorK02
import Derived.Test.YtdojjmkpelgcaaaDoorK08
import Derived.Test.YtdojjmkpelgcaaaDoorK11
import Derived.Test.YtdojjmkpelgcaaaDoorK16
import Derived.Test.YtdojjmkpelgcaaaDoorK18
import Derived.Test.YtdojjmkpelgcaaaDoorK19

/-
  The specification's l04Merge, l04All, MergeBugs; the program's bugsOK.
-/
namespace Go.Proofs.YtdojjmkpelgcaaaDoor
open Go.RowKit
set_option linter.unusedVariables false
set_option linter.unusedSimpArgs false

def BugsOne (e : Ending) (w : World) (B : Nat) (zs : List I3) : Prop := ∃ v, e = .returned v ∧ w.ownsRow B 167 3 v zs.length (flat zs)
theorem fits_put {zs : List I3} {x : I3} (h : ∀ z ∈ zs, I3.fits z) (hx : I3.fits x) : ∀ z ∈ putB zs x, I3.fits z := fun z hz => by
  rcases mem_putB.1 hz with e | e
  · exact h z e
  · rw [e]; exact hx
theorem fits_putAll {xs ys : List I3} (h : ∀ z ∈ xs, I3.fits z) (k : ∀ z ∈ ys, I3.fits z) : ∀ z ∈ putAll xs ys, I3.fits z := fun z hz => by
  rcases mem_putAll.1 hz with e | e
  · exact h z e
  · exact k z e
theorem putAll_snoc (out xs : List I3) {k : Nat} (hk : k < xs.length) : putAll out (xs.take (k + 1)) = putB (putAll out (xs.take k)) (xs.getD k (0, 0, 0)) := by
  unfold putAll
  rw [List.take_add_one, List.foldl_append, List.getElem?_eq_getElem hk]
  simp [List.getD, List.getElem?_eq_getElem hk]
theorem getD_memB {xs : List I3} {k : Nat} (hk : k < xs.length) : xs.getD k (0, 0, 0) ∈ xs := by
  rw [List.getD, List.getElem?_eq_getElem hk, Option.getD_some]
  exact List.getElem_mem hk
def Under (w wr : World) (v : Value) (zs : List I3) : Prop := (∃ g c, v = .slice (some ⟨g, 0, none⟩) zs.length c) ∧ wr.ownsRow w.heap.size 167 3 v zs.length (flat zs) ∧ (∀ z ∈ zs, I3.fits z) ∧ zs.length ≤ 1000000


set_option maxHeartbeats 4000000 in
set_option maxRecDepth 100000 in
theorem l04Merge_is (a0 : Option Addr) (n0 c0 : Nat) (xs : List I3) (a1 : Option Addr) (n1 c1 : Nat) (ys : List I3) (w : World) (h0 : Instrs w a0 n0 c0 xs) (h1 : Instrs w a1 n1 c1 ys) (m0 : n0 ≤ 400000) (m1 : n1 ≤ 400000) :
    Calls Tryd.prog 116 #[.slice a0 n0 c0, .slice a1 n1 c1] w fun e w' => BugsOne e w' w.heap.size (mergeB xs ys) ∧ Below w.heap.size w w' := by
  have l0 := h0.1
  have l1 := h1.1
  have f0 := h0.2.2.2.1
  have f1 := h1.2.2.2.1
  have q0 : Under w (w.alloc (.cells #[] 167)) (.slice (some ⟨w.heap.size, 0, none⟩) 0 0) [] := ⟨⟨_, _, rfl⟩, own_emptyB w 167 3 w.heap.size (Nat.le_refl _), by simp, by simp⟩
  have bw0 : Below w.heap.size w (w.alloc (.cells #[] 167)) := by go_grown
  go_enter Tryd.func116, Tryd.ntmps116
  go_wp2_with fail
  generalize w.alloc (.cells #[] 167) = W0 at *
  go_loopw [5, 6] (fun so si wr => ∃ (k : Nat) (v : Value), v = so ∧ k ≤ n0 ∧ si = .int .i64 k ∧ Under w wr v (putAll [] (xs.take k)) ∧ Below w.heap.size w wr) (fun _ si _ => n0 - (intOf si).toNat)
  case atStart => exact ⟨0, _, rfl, by omega, rfl, q0, bw0⟩
  case round =>
    clear q0 bw0
    obtain ⟨k, so, rfl, hk, rfl, ⟨⟨g, c, rfl⟩, hq, hf, hz⟩, bw⟩ := hrel
    by_cases hlt : k < n0
    · obtain ⟨zs, hzs⟩ : ∃ zs, zs = putAll [] (xs.take k) := ⟨_, rfl⟩
      rw [← hzs] at hq hf hz
      try rw [← hzs]
      have hZ := Instrs.of_owns hq rfl hf rfl
      obtain ⟨_, _, _, _, hcase⟩ := h0.below bw
      rcases hcase with e0 | ⟨b, off, rfl, hb, hc⟩
      · omega
      obtain ⟨d0, d1, d2⟩ := hc k hlt
      clear hc hb
      obtain ⟨x, hx⟩ : ∃ x, x = xs.getD k (0, 0, 0) := ⟨_, rfl⟩
      have hfx : I3.fits x := by rw [hx]; exact f0 _ (getD_memB (by omega))
      have hnew : putB zs x = putAll [] (xs.take (k + 1)) := by rw [hzs, hx]; exact (putAll_snoc [] xs (by omega)).symm
      rw [← hx] at d0 d1 d2
      have HN : Hid (putB zs x = putAll [] (xs.take (k + 1))) := hnew
      have hzl : zs.length ≤ k := by rw [hzs]; have := putAll_len (xs.take k) []; simp at this; omega
      clear hx hnew hzs
      have kP := l04Put_is g 0 zs.length c zs x wr hZ (by omega)
      have hpl := putB_len zs x
      have hpf := fits_put hf hfx
      have hp0 : 0 < (putB zs x).length := List.length_pos_of_mem (mem_putB.2 (.inr rfl))
      generalize zs.length = m at *
      obtain ⟨x0, x1, x2⟩ := x
      unfold I3.val at kP
      simp only at d0 d1 d2 kP
      clear hZ hq
      have hlt' : (k : Int) < (n0 : Int) := by omega
      have hk0 : (0 : Int) ≤ (k : Int) := by omega
      go_wp2_with fail
      refine kP.mono ?_
      rintro e w1 ⟨⟨v1, rfl, hq1⟩, hb1⟩
      clear kP d0 d1 d2
      have bw1 := bel_trans bw hb1
      obtain ⟨g1, e1, rfl⟩ := own_someB hq1 hp0
      have hU : Under w w1 (.slice (some ⟨g1, 0, none⟩) (putB zs (x0, x1, x2)).length e1) (putAll [] (xs.take (k + 1))) := by
        rw [← HN.out]
        exact ⟨⟨_, _, rfl⟩, own_lowerB hq1 bw.size, hpf, by omega⟩
      generalize (putB zs (x0, x1, x2)).length = m1 at *
      clear hq1 hpf
      go_wp2
      go_roundw
      case rel => exact ⟨k + 1, _, rfl, by omega, by go_num, hU, bw1⟩
      case measure => simp [intOf]; omega
    · obtain rfl : k = n0 := by omega
      have hU : Under w wr (.slice (some ⟨g, 0, none⟩) (putAll [] (xs.take k)).length c) (putAll (putAll [] xs) (ys.take 0)) := by
        have e : xs.take k = xs := List.take_of_length_le (by omega)
        rw [e] at hq hf hz ⊢
        exact ⟨⟨_, _, rfl⟩, hq, hf, hz⟩
      have hal : (putAll [] xs).length ≤ k := by have := putAll_len xs []; simp at this; omega
      have haf : ∀ z ∈ putAll [] xs, I3.fits z := fits_putAll (by simp) f0
      generalize (putAll [] (xs.take k)).length = m at *
      clear hq hf hz h0
      go_wp2_with fail
      go_loopw [5, 7] (fun so si wr => ∃ (j : Nat) (v : Value), v = so ∧ j ≤ n1 ∧ si = .int .i64 j ∧ Under w wr v (putAll (putAll [] xs) (ys.take j)) ∧ Below w.heap.size w wr) (fun _ si _ => n1 - (intOf si).toNat)
      case atStart => exact ⟨0, _, rfl, by omega, rfl, hU, bw⟩
      case round =>
        clear hU bw
        obtain ⟨j, so, rfl, hj, rfl, ⟨⟨g, c, rfl⟩, hq, hf, hz⟩, bw⟩ := hrel
        by_cases hltj : j < n1
        · obtain ⟨zs, hzs⟩ : ∃ zs, zs = putAll (putAll [] xs) (ys.take j) := ⟨_, rfl⟩
          rw [← hzs] at hq hf hz
          try rw [← hzs]
          have hZ := Instrs.of_owns hq rfl hf rfl
          obtain ⟨_, _, _, _, hcase⟩ := h1.below bw
          rcases hcase with e0 | ⟨b, off, rfl, hb, hc⟩
          · omega
          obtain ⟨d0, d1, d2⟩ := hc j hltj
          clear hc hb
          obtain ⟨x, hx⟩ : ∃ x, x = ys.getD j (0, 0, 0) := ⟨_, rfl⟩
          have hfx : I3.fits x := by rw [hx]; exact f1 _ (getD_memB (by omega))
          have hnew : putB zs x = putAll (putAll [] xs) (ys.take (j + 1)) := by rw [hzs, hx]; exact (putAll_snoc _ ys (by omega)).symm
          rw [← hx] at d0 d1 d2
          have HN : Hid (putB zs x = putAll (putAll [] xs) (ys.take (j + 1))) := hnew
          have hzl : zs.length ≤ k + j := by rw [hzs]; have := putAll_len (ys.take j) (putAll [] xs); simp at this; omega
          clear hx hnew hzs
          have kP := l04Put_is g 0 zs.length c zs x _ hZ (by omega)
          have hpl := putB_len zs x
          have hpf := fits_put hf hfx
          have hp0 : 0 < (putB zs x).length := List.length_pos_of_mem (mem_putB.2 (.inr rfl))
          generalize zs.length = mm at *
          obtain ⟨x0, x1, x2⟩ := x
          unfold I3.val at kP
          simp only at d0 d1 d2 kP
          clear hZ hq
          have hlt' : (j : Int) < (n1 : Int) := by omega
          have hk0 : (0 : Int) ≤ (j : Int) := by omega
          go_wp2_with fail
          refine kP.mono ?_
          rintro e w1 ⟨⟨v1, rfl, hq1⟩, hb1⟩
          clear kP d0 d1 d2
          have bw1 := bel_trans bw hb1
          obtain ⟨g1, e1, rfl⟩ := own_someB hq1 hp0
          have hU : Under w w1 (.slice (some ⟨g1, 0, none⟩) (putB zs (x0, x1, x2)).length e1) (putAll (putAll [] xs) (ys.take (j + 1))) := by
            rw [← HN.out]
            exact ⟨⟨_, _, rfl⟩, own_lowerB hq1 bw.size, hpf, by omega⟩
          generalize (putB zs (x0, x1, x2)).length = m1 at *
          clear hq1 hpf
          go_wp2
          go_roundw
          case rel => exact ⟨j + 1, _, rfl, by omega, by go_num, hU, bw1⟩
          case measure => simp [intOf]; omega
        · obtain rfl : j = n1 := by omega
          have e : ys.take j = ys := List.take_of_length_le (by omega)
          rw [e] at hq hf hz
          try rw [e]
          obtain ⟨mm, hmm⟩ : ∃ mm, mm = (putAll (putAll [] xs) ys).length := ⟨_, rfl⟩
          rw [← hmm]
          have HQ : Hid (∀ e, e = .returned (.slice (some ⟨g, 0, none⟩) mm c) → BugsOne e wr w.heap.size (mergeB xs ys)) := fun e he => ⟨_, he, by rw [hmm]; exact hq⟩
          clear hq hmm hz
          go_wp2
          go_ret
          exact ⟨HQ.out _ rfl, bw⟩


end Go.Proofs.YtdojjmkpelgcaaaDoor


/-
  The program's mergedBugs: concat, sort, compact: both lists merged; MergeBugs.
-/
namespace Go.Proofs.YtdojjmkpelgcaaaDoor
open Go.RowKit Go.Sort Go.Shelf
set_option linter.unusedVariables false
set_option linter.unusedSimpArgs false

def GoodS (a : Option Addr) (c : Nat) : Prop := (a = none → c = 0) ∧ ∀ x, a = some x → x.spot = none
end Go.Proofs.YtdojjmkpelgcaaaDoor


/-
  The program's RunSchedule.
-/
namespace Go.Proofs.YtdojjmkpelgcaaaDoor
open Go.RowKit
set_option linter.unusedVariables false
set_option linter.unusedSimpArgs false

def RunGot (e : Ending) (w : World) (B : Nat) (z : V4) (fs : List I3) (c : Int) : Prop := ∃ (t : S4) (v : Value), e = .returned (.tuple #[t.val, v, .int .i64 c]) ∧ OwnV w B t z ∧ w.ownsRow B 167 3 v fs.length (flat fs)
theorem RunGot.mk9 {e : Ending} {w : World} {B : Nat} {z : V4} {fs : List I3} {c : Int} (t : S4) (v : Value) (he : e = .returned (.tuple #[t.val, v, .int .i64 c])) (h1 : OwnV w B t z) (h2 : w.ownsRow B 167 3 v fs.length (flat fs)) : RunGot e w B z fs c := ⟨t, v, he, h1, h2⟩
end Go.Proofs.YtdojjmkpelgcaaaDoor


/-
  What the condition on the table vmShape gives the walks.
-/
namespace Go.Proofs.YtdojjmkpelgcaaaDoor
open Go.RowKit Go.ChangeShapes

theorem gVmShape : Tryd.prog.globalNamed "loop.example/g00632/impl.vmShape" = some 0 := by kernel_rfl
theorem tVmShape : (Tryd.prog.globals[0]?).map (·.type) = some 204 := by kernel_rfl

section
variable {H : Type} {enc : TypeId × Value → H} {w : World} {base : Nat} {spare : Nat → Bool} {held : Bool}
set_option maxRecDepth 100000 in
theorem part_cells {fuel : Nat} {cs : List Value} {a b : Int} {p : List MemPlace} (h : DataW.trod enc Tryd.prog w base spare held fuel 203 cs = some (.agg [.lit (.int .i64 a), .lit (.int .i64 b)], p)) : cs = [.int .i64 a, .int .i64 b] := by
  obtain ⟨y0, y1, n, hx, hl, h0, h1⟩ := trod_struct2 Tryd.underlying203 h
  have hl2 : cs.length = 2 := hl.trans (by kernel_rfl)
  have hk : Tryd.prog.cellsOf 3 = 1 := by kernel_rfl
  match cs, hl2 with
  | [c0, c1], _ =>
    simp only [hk] at h0 h1
    obtain ⟨z0, e0, hy0, _⟩ := DataW.trod_int Tryd.underlying3 h0
    obtain ⟨z1, e1, hy1, _⟩ := DataW.trod_int Tryd.underlying3 h1
    simp at e0 e1
    subst hy0 hy1 e0 e1
    simp at hx
    simp [hx]
set_option maxRecDepth 100000 in
theorem shape_cells {fuel : Nat} {cs : List Value} {p : List MemPlace} (h : DataW.trod enc Tryd.prog w base spare held fuel 204 cs = some (Rows.laid_loop_example_g00632_impl_vmShape, p)) : cs = [3, 6, 4, 9, 2, 3, 6, 9].map (Value.int .i64) := by
  obtain ⟨xs, m, _, hx, hl, hn, hi⟩ := DataW.trod_array Tryd.underlying204 h
  have hk : Tryd.prog.cellsOf 203 = 2 := by kernel_rfl
  have hl8 : cs.length = 8 := hl.trans (by kernel_rfl)
  rw [hk] at hi
  match xs, hn with
  | [⟨x0, p0⟩, ⟨x1, p1⟩, ⟨x2, p2⟩, ⟨x3, p3⟩], _ =>
    unfold Rows.laid_loop_example_g00632_impl_vmShape at hx
    simp at hx
    obtain ⟨⟨rfl, rfl, rfl, rfl⟩, _⟩ := hx
    match cs, hl8 with
    | [c0, c1, c2, c3, c4, c5, c6, c7], _ =>
      have g0 := part_cells (hi 0 (by decide))
      have g1 := part_cells (hi 1 (by decide))
      have g2 := part_cells (hi 2 (by decide))
      have g3 := part_cells (hi 3 (by decide))
      simp at g0 g1 g2 g3
      simp [g0, g1, g2, g3]
end

set_option maxRecDepth 100000 in
theorem vmShape_of_laid {W : World} {p : List (String × DataW Unit)} (hp : p = [("loop.example/g00632/impl.vmShape", Rows.laid_loop_example_g00632_impl_vmShape)]) (h : laidMetH Tryd.prog p W) : VmShape W := by
  subst hp
  rw [MakeChecks.laidMetH_plain _ _ _ (by kernel_rfl)] at h
  obtain ⟨ps, ⟨g0, t0, cs0, f0, p0, q0, hg0, ht0, hv0, hd0, _, _⟩, _, _⟩ := h
  obtain rfl := Option.some.inj (gVmShape.symm.trans hg0)
  obtain rfl := Option.some.inj (tVmShape.symm.trans ht0)
  have hcs := shape_cells hd0
  unfold World.var? at hv0
  simp only [gVmShape, Option.bind_some] at hv0
  cases hh : W.heap[0]? with
  | none => rw [hh] at hv0; cases hv0
  | some o =>
    rw [hh] at hv0
    cases o with
    | cells cs t fr =>
      simp only [Option.some.injEq] at hv0
      subst hv0
      intro i v hi
      rw [← hcs] at hi
      simp only [World.cell?, hh]
      simpa using hi
    | _ => cases hv0
end Go.Proofs.YtdojjmkpelgcaaaDoor


/-
  The named package-level variables read behind a call as they read before it, where nothing that was there has turned.
-/
namespace Go.Proofs.YtdojjmkpelgcaaaDoor
open Go.RowKit

def varsFit (P : Program) (ns : List String) : Bool := ns.all fun n =>
  match P.globalNamed n with
  | some g => match (P.globals[g]?).map (·.type) with
    | some t => P.readableRec t && decide (t < P.types.size)
    | none => false
  | none => false

theorem var?_lt {P : Program} {W : World} {n : String} {g : Nat} {cs : Array Value} (hg : P.globalNamed n = some g) (hv : W.var? P n = some cs) : g < W.heap.size := by
  rcases Nat.lt_or_ge g W.heap.size with h | h
  · exact h
  · unfold World.var? at hv
    simp [hg, Array.getElem?_eq_none h] at hv

theorem vars_below {H : Type} {enc : TypeId × Value → H} {P : Program} {W W' : World} (hl : laidOutB P = true) (bel : Below W.heap.size W W') :
    ∀ {ns : List String} {gs : List (DataW H)} {ps : List MemPlace}, varsFit P ns = true → DataW.TrodVars enc P W (fun _ => true) ns gs ps → DataW.TrodVars enc P W' (fun b => decide (b < W.heap.size)) ns gs ps
  | [], [], ps, _, h => h
  | [], _ :: _, _, _, h => by cases h
  | _ :: _, [], _, _, h => by cases h
  | n :: ns, d :: ds, ps, hf, h => by
    obtain ⟨g, t, cs, fuel, p, q, hg, ht, hv, hd, hr, e⟩ := h
    simp only [varsFit, List.all_cons, Bool.and_eq_true] at hf
    obtain ⟨hf1, hf2⟩ := hf
    rw [hg] at hf1
    simp only [ht, Bool.and_eq_true, decide_eq_true_eq] at hf1
    obtain ⟨fuel', hd'⟩ := Below.trod hl hf1.1 hf1.2 (v := .agg cs) (⟨fuel, by simpa [Value.cells] using hd⟩ : DataW.Trod enc P W 0 (fun _ => true) true t (.agg cs) d p) bel (DataW.trod_lt fuel _ _ _ hd)
    exact ⟨g, t, cs, fuel', p, q, hg, ht, var?_below bel hg (var?_lt hg hv) hv, by simpa [Value.cells] using hd', vars_below hl bel hf2 hr, e⟩

theorem vars_len {H : Type} {enc : TypeId × Value → H} {P : Program} {W : World} {spare : Nat → Bool} : ∀ {ns : List String} {gs : List (DataW H)} {ps : List MemPlace}, DataW.TrodVars enc P W spare ns gs ps → gs.length = ns.length
  | [], [], _, _ => rfl
  | [], _ :: _, _, h => by cases h
  | _ :: _, [], _, h => by cases h
  | _ :: _, _ :: _, _, h => by
    obtain ⟨_, _, _, _, _, _, _, _, _, _, hr, _⟩ := h
    simp [vars_len hr]
end Go.Proofs.YtdojjmkpelgcaaaDoor

