/-
  Joined: OfBk, FindS, SizeB, VmLaid, Vars.
-/
import Derived.Test.YtcdpcfnlflpjnaaDoorProg
import Derived.Deep.RegionHeld3
import Derived.KernelRfl
import Derived.Tactics
import Derived.WalkKit
import Derived.WalkSpells
import Derived.WalkLawsBesides
import Derived.RegionTactic
import Derived.BigQuiet
import Derived.Deep.QuietTactic
import Derived.Deep.Slices
import Derived.Deep.Strs
import Derived.Deep.Fields
import Derived.ChangeSame
import Derived.ChangeSlices
import Derived.Lib.SmallJoins
import Derived.Handy
import Derived.OwnWalk
import Derived.Shelf.Abstract
import Derived.Laws.BytesArg
import Derived.Deep.RegionLaw
import Derived.Laws.OwnMore
import Derived.Laws.CopyOwn
import Derived.Laws.Tables
import Derived.BigRegion
import Derived.Test.YtcdpcfnlflpjnaaDoorRows
import Derived.ProofKit
import Derived.OpenShut
import Derived.LaidMore
import Derived.MakeChecks
import Derived.Stop.LaidErr
import Derived.WalkSmall
import Derived.ChangeOld
import Derived.Test.YtcdpcfnlflpjnaaDoorK01
import Derived.Test.YtcdpcfnlflpjnaaDoorK02
import Derived.Test.YtcdpcfnlflpjnaaDoorK03
import Derived.Test.YtcdpcfnlflpjnaaDoorK04
import Derived.Test.YtcdpcfnlflpjnaaDoorK10
import Derived.Test.YtcdpcfnlflpjnaaDoorK16
import Derived.Test.YtcdpcfnlflpjnaaDoorK32
import Derived.Test.YtcdpcfnlflpjnaaDoorK35
import Derived.Test.YtcdpcfnlflpjnaaDoorK40

/-
  Stage 6: the specification's l03Of at a state's key; a row's first address and cells.
-/
namespace Go.Proofs.YtcdpcfnlflpjnaaDoor
open Go.RowKit
set_option linter.unusedVariables false
set_option linter.unusedSimpArgs false

theorem l03Of_back {m : V4} (h : shapeOk m = true) (w : World) :
    Calls Tryd.prog 36 #[.string (keyT m)] w fun e w' => (∃ t : S4, e = .returned (.tuple #[t.val, .bool true]) ∧ OwnV w' w.heap.size t m) ∧ Below w.heap.size w w' := by
  refine (l03Of_15 (keyT m) w (keyT_size6 h)).mono ?_
  rintro e w' ⟨⟨z, b, ⟨t, rfl, hO⟩, hb, hz⟩, hw⟩
  rw [key_back6 h, h] at hb
  subst hb
  rw [key_back6 h] at hz
  obtain rfl := hz rfl
  exact ⟨⟨t, rfl, hO⟩, hw⟩
theorem own_some6 {w : World} {B e s n : Nat} {v : Value} {xs : List Value} (h : w.ownsRow B e s v n xs) (hn : 0 < n) : ∃ g c, v = .slice (some ⟨g, 0, none⟩) n c ∧ n ≤ c ∧ c ≤ maxLen := by
  rcases h.2 with ⟨_, h0⟩ | ⟨g, c, cur, hv, _, _, h1, h2, _⟩
  · omega
  · exact ⟨g, c, hv, h1, h2⟩
theorem str_cell6 {w : World} {B g n c : Nat} {ts : List ByteArray} (h : w.ownsRow B 9 1 (.slice (some ⟨g, 0, none⟩) n c) n (ts.map Value.string)) {i : Nat} (hi : i < n) {t : ByteArray} (ht : ts[i]? = some t) : w.cell? ⟨g, i, none⟩ = some (.string t) := by
  have hc := h.cellAt i (by simpa using hi)
  simpa [ht] using hc
end Go.Proofs.YtcdpcfnlflpjnaaDoor


/-
  The specification's l06Find: a key's number.
-/
namespace Go.Proofs.YtcdpcfnlflpjnaaDoor
open Go.RowKit
set_option linter.unusedVariables false
set_option linter.unusedSimpArgs false

theorem beq_tf {x t : ByteArray} (h : ¬ x = t) : (x.toList == t.toList) = false := by
  rw [beq_eq_false_iff_ne]
  intro e
  rw [ByteArray.toList_eq, ByteArray.toList_eq] at e
  exact h (ByteArray.ext (Array.ext' e))
def findT (ts : List ByteArray) (t : ByteArray) : Nat → Int
  | 0 => -1
  | n + 1 => if ts.getD n ByteArray.empty = t then (n : Int) else findT ts t n
theorem findT_iff {ts : List ByteArray} {t : ByteArray} : ∀ n, n ≤ ts.length → (0 ≤ findT ts t n ↔ t ∈ ts.take n)
  | 0, _ => by simp [findT]
  | n + 1, h => by
    have ih := findT_iff (ts := ts) (t := t) n (by omega)
    have e : ts.take (n + 1) = ts.take n ++ [ts.getD n ByteArray.empty] := by
      rw [List.take_add_one, List.getElem?_eq_getElem (show n < ts.length by omega)]
      simp [List.getD, show n < ts.length by omega]
    rw [e, List.mem_append, List.mem_singleton]
    unfold findT
    by_cases h1 : ts.getD n ByteArray.empty = t
    · rw [if_pos h1]
      exact ⟨fun _ => .inr h1.symm, fun _ => by omega⟩
    · rw [if_neg h1, ih]
      exact ⟨.inl, fun h2 => h2.elim id (fun h3 => absurd h3.symm h1)⟩

set_option maxHeartbeats 1000000 in
set_option maxRecDepth 100000 in
theorem l06Find_is (a : Option Addr) (n c : Nat) (ts : List ByteArray) (t : ByteArray) (w : World) (h : Strs w a n c ts) (hn : n ≤ 1000000) :
    Calls Tryd.prog 47 #[.slice a n c, .string t] w fun e w' => e = .returned (.int .i64 (findT ts t n)) ∧ w = w' := by
  obtain ⟨hl, hlc, hcm, hcase⟩ := h
  obtain ⟨f, hf⟩ : ∃ f, f = findT ts t n := ⟨_, rfl⟩
  have HF : Hid (f = findT ts t n) := hf
  rw [← hf]
  clear hf hl hcm
  go_enter Tryd.func47, Tryd.ntmps47
  go_wp2_with fail
  go_loopw [5] (fun si wr => ∃ ii : Nat, ii ≤ n ∧ si = .int .i64 ((ii : Int) - 1) ∧ Hid (f = findT ts t ii) ∧ w = wr) (fun si _ => (intOf si + 1).toNat)
  case atStart => exact ⟨n, Nat.le_refl _, rfl, HF, rfl⟩
  case round =>
    obtain ⟨ii, hii, rfl, HG, rfl⟩ := hrel
    rcases Nat.eq_zero_or_pos ii with rfl | hpos
    · have HE : Hid (f = -1) := HG.out
      go_wp2
      go_ret
      exact ⟨by rw [HE.out]; rfl, rfl⟩
    · obtain ⟨i, rfl⟩ : ∃ i, ii = i + 1 := ⟨ii - 1, by omega⟩
      have hi0 : ((i + 1 : Nat) : Int) - 1 = (i : Int) := by omega
      rw [hi0]
      have hi9 : (0 : Int) ≤ (i : Int) := by omega
      have hin : (i : Int) < (n : Int) := by omega
      rcases hcase with h0 | ⟨b, off, rfl, hb, hcell⟩
      · omega
      have hc := hcell i (by omega)
      have HG2 : Hid (f = if ts.getD i ByteArray.empty = t then (i : Int) else findT ts t i) := HG.out
      clear hcell HG
      generalize ts.getD i ByteArray.empty = x at *
      by_cases hx : x = t
      · have hxx : (x.toList == t.toList) = true := by rw [hx]; simp
        have HE : Hid (f = i) := by rw [Hid, HG2.out, if_pos hx]
        clear HG2 hx
        go_wp2
        go_ret
        exact ⟨by rw [HE.out]; rfl, rfl⟩
      · have hxx : (x.toList == t.toList) = false := beq_tf hx
        have HE : Hid (f = findT ts t i) := by rw [Hid, HG2.out, if_neg hx]
        clear HG2 hx
        go_wp2
        go_roundw
        case rel => exact ⟨i, by omega, by go_num, HE, by first | rfl | trivial⟩
        case measure => simp [intOf] <;> omega
end Go.Proofs.YtcdpcfnlflpjnaaDoor


/-
  What the size of a program that came in tells of its rows.
-/
namespace Go.Proofs.YtcdpcfnlflpjnaaDoor
open Go.RowKit

theorem lessAll_each : ∀ (rows : List (List I3)) (left : Int), 0 ≤ lessAll left rows → 0 ≤ left → ∀ r ∈ rows, (r.length : Int) ≤ left
  | [], _, _, _, r, hr => by cases hr
  | x :: xs, left, h, h0, r, hr => by
    unfold lessAll at h
    split at h
    · omega
    · rcases List.mem_cons.1 hr with rfl | hr
      · omega
      · have := lessAll_each xs (left - x.length) h (by omega) r hr
        omega

theorem getD_length_le {rows : List (List I3)} {n : Nat} (h : ∀ r ∈ rows, r.length ≤ n) (t : Nat) : (rows.getD t []).length ≤ n := by
  by_cases ht : t < rows.length
  · have : rows.getD t [] = rows[t] := by simp [List.getD, ht]
    rw [this]
    exact h _ (List.getElem_mem ht)
  · have : rows.getD t [] = [] := by simp [List.getD, List.getElem?_eq_none (Nat.le_of_not_lt ht)]
    rw [this]
    exact Nat.zero_le _

theorem size_bounds {rows : List (List I3)} {left : Int} (hm : left ≤ 1048576) (h : 0 ≤ sizeLeft left rows) (h0 : 0 ≤ left) : rows.length ≤ 1048576 ∧ ∀ t, (rows.getD t []).length ≤ 1048576 := by
  unfold sizeLeft at h
  split at h
  · omega
  · refine ⟨by omega, fun t => getD_length_le (fun r hr => ?_) t⟩
    have := lessAll_each rows _ h (by omega) r hr
    omega

end Go.Proofs.YtcdpcfnlflpjnaaDoor


/-
  What the condition on the table vmShape gives the walks.
-/
namespace Go.Proofs.YtcdpcfnlflpjnaaDoor
open Go.RowKit Go.ChangeShapes

theorem gVmShape : Tryd.prog.globalNamed "loop.example/g00632/impl.vmShape" = some 0 := by kernel_rfl
theorem tVmShape : (Tryd.prog.globals[0]?).map (·.type) = some 144 := by kernel_rfl

section
variable {H : Type} {enc : TypeId × Value → H} {w : World} {base : Nat} {spare : Nat → Bool} {held : Bool}
set_option maxRecDepth 100000 in
theorem part_cells {fuel : Nat} {cs : List Value} {a b : Int} {p : List MemPlace} (h : DataW.trod enc Tryd.prog w base spare held fuel 143 cs = some (.agg [.lit (.int .i64 a), .lit (.int .i64 b)], p)) : cs = [.int .i64 a, .int .i64 b] := by
  obtain ⟨y0, y1, n, hx, hl, h0, h1⟩ := trod_struct2 Tryd.underlying143 h
  have hl2 : cs.length = 2 := hl.trans (by kernel_rfl)
  have hk : Tryd.prog.cellsOf 3 = 1 := by kernel_rfl
  match cs, hl2 with
  | [c0, c1], _ =>
    simp only [hk] at h0 h1
    obtain ⟨z0, e0, hy0, _⟩ := DataW.trod_int Tryd.underlying3 h0
    obtain ⟨z1, e1, hy1, _⟩ := DataW.trod_int Tryd.underlying3 h1
    simp at e0 e1
    subst hy0 hy1 e0 e1
    simp at hx
    simp [hx]
set_option maxRecDepth 100000 in
theorem shape_cells {fuel : Nat} {cs : List Value} {p : List MemPlace} (h : DataW.trod enc Tryd.prog w base spare held fuel 144 cs = some (Rows.laid_loop_example_g00632_impl_vmShape, p)) : cs = [3, 6, 4, 9, 2, 3, 6, 9].map (Value.int .i64) := by
  obtain ⟨xs, m, _, hx, hl, hn, hi⟩ := DataW.trod_array Tryd.underlying144 h
  have hk : Tryd.prog.cellsOf 143 = 2 := by kernel_rfl
  have hl8 : cs.length = 8 := hl.trans (by kernel_rfl)
  rw [hk] at hi
  match xs, hn with
  | [⟨x0, p0⟩, ⟨x1, p1⟩, ⟨x2, p2⟩, ⟨x3, p3⟩], _ =>
    unfold Rows.laid_loop_example_g00632_impl_vmShape at hx
    simp at hx
    obtain ⟨⟨rfl, rfl, rfl, rfl⟩, _⟩ := hx
    match cs, hl8 with
    | [c0, c1, c2, c3, c4, c5, c6, c7], _ =>
      have g0 := part_cells (hi 0 (by decide))
      have g1 := part_cells (hi 1 (by decide))
      have g2 := part_cells (hi 2 (by decide))
      have g3 := part_cells (hi 3 (by decide))
      simp at g0 g1 g2 g3
      simp [g0, g1, g2, g3]
end

set_option maxRecDepth 100000 in
theorem vmShape_of_laid {W : World} {p : List (String × DataW Unit)} (hp : p = [("loop.example/g00632/impl.vmShape", Rows.laid_loop_example_g00632_impl_vmShape)]) (h : laidMetH Tryd.prog p W) : VmShape W := by
  subst hp
  rw [MakeChecks.laidMetH_plain _ _ _ (by kernel_rfl)] at h
  obtain ⟨ps, ⟨g0, t0, cs0, f0, p0, q0, hg0, ht0, hv0, hd0, _, _⟩, _, _⟩ := h
  obtain rfl := Option.some.inj (gVmShape.symm.trans hg0)
  obtain rfl := Option.some.inj (tVmShape.symm.trans ht0)
  have hcs := shape_cells hd0
  unfold World.var? at hv0
  simp only [gVmShape, Option.bind_some] at hv0
  cases hh : W.heap[0]? with
  | none => rw [hh] at hv0; cases hv0
  | some o =>
    rw [hh] at hv0
    cases o with
    | cells cs t fr =>
      simp only [Option.some.injEq] at hv0
      subst hv0
      intro i v hi
      rw [← hcs] at hi
      simp only [World.cell?, hh]
      simpa using hi
    | _ => cases hv0
end Go.Proofs.YtcdpcfnlflpjnaaDoor


/-
  The named package-level variables read behind a call as they read before it, where nothing that was there has turned.
-/
namespace Go.Proofs.YtcdpcfnlflpjnaaDoor
open Go.RowKit

def varsFit (P : Program) (ns : List String) : Bool := ns.all fun n =>
  match P.globalNamed n with
  | some g => match (P.globals[g]?).map (·.type) with
    | some t => P.readableRec t && decide (t < P.types.size)
    | none => false
  | none => false

theorem var?_lt {P : Program} {W : World} {n : String} {g : Nat} {cs : Array Value} (hg : P.globalNamed n = some g) (hv : W.var? P n = some cs) : g < W.heap.size := by
  rcases Nat.lt_or_ge g W.heap.size with h | h
  · exact h
  · unfold World.var? at hv
    simp [hg, Array.getElem?_eq_none h] at hv

theorem vars_below {H : Type} {enc : TypeId × Value → H} {P : Program} {W W' : World} (hl : laidOutB P = true) (bel : Below W.heap.size W W') :
    ∀ {ns : List String} {gs : List (DataW H)} {ps : List MemPlace}, varsFit P ns = true → DataW.TrodVars enc P W (fun _ => true) ns gs ps → DataW.TrodVars enc P W' (fun b => decide (b < W.heap.size)) ns gs ps
  | [], [], ps, _, h => h
  | [], _ :: _, _, _, h => by cases h
  | _ :: _, [], _, _, h => by cases h
  | n :: ns, d :: ds, ps, hf, h => by
    obtain ⟨g, t, cs, fuel, p, q, hg, ht, hv, hd, hr, e⟩ := h
    simp only [varsFit, List.all_cons, Bool.and_eq_true] at hf
    obtain ⟨hf1, hf2⟩ := hf
    rw [hg] at hf1
    simp only [ht, Bool.and_eq_true, decide_eq_true_eq] at hf1
    obtain ⟨fuel', hd'⟩ := Below.trod hl hf1.1 hf1.2 (v := .agg cs) (⟨fuel, by simpa [Value.cells] using hd⟩ : DataW.Trod enc P W 0 (fun _ => true) true t (.agg cs) d p) bel (DataW.trod_lt fuel _ _ _ hd)
    exact ⟨g, t, cs, fuel', p, q, hg, ht, var?_below bel hg (var?_lt hg hv) hv, by simpa [Value.cells] using hd', vars_below hl bel hf2 hr, e⟩

theorem vars_len {H : Type} {enc : TypeId × Value → H} {P : Program} {W : World} {spare : Nat → Bool} : ∀ {ns : List String} {gs : List (DataW H)} {ps : List MemPlace}, DataW.TrodVars enc P W spare ns gs ps → gs.length = ns.length
  | [], [], _, _ => rfl
  | [], _ :: _, _, h => by cases h
  | _ :: _, [], _, h => by cases h
  | _ :: _, _ :: _, _, h => by
    obtain ⟨_, _, _, _, _, _, _, _, _, _, hr, _⟩ := h
    simp [vars_len hr]
end Go.Proofs.YtcdpcfnlflpjnaaDoor

