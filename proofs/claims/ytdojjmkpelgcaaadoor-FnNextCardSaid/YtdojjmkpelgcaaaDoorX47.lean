/-
  Joined: VmLaid, RowBelow, VmdA, At.
-/
import Derived.Test.YtdojjmkpelgcaaaDoorRows
import Derived.ProofKit
import Derived.OpenShut
import Derived.LaidMore
import Derived.MakeChecks
import Derived.Stop.LaidErr
import Derived.Test.YtdojjmkpelgcaaaDoorX33

namespace Go.Proofs.YtdojjmkpelgcaaaDoor
set_option maxRecDepth 100000
open Go.RowKit Go.ChangeShapes

theorem gVmShape : Tryd.prog.globalNamed "loop.example/g00632/impl.vmShape" = some 0 := by kernel_rfl
theorem tVmShape : (Tryd.prog.globals[0]?).map (·.type) = some 204 := by kernel_rfl

section
variable {H : Type} {enc : TypeId × Value → H} {w : World} {base : Nat} {spare : Nat → Bool} {held : Bool}
theorem part_cells {fuel : Nat} {cs : List Value} {a b : Int} {p : List MemPlace} (h : DataW.trod enc Tryd.prog w base spare held fuel 203 cs = some (.agg [.lit (.int .i64 a), .lit (.int .i64 b)], p)) : cs = [.int .i64 a, .int .i64 b] := by
 obtain ⟨y0, y1, n, hx, hl, h0, h1⟩ := trod_struct2 Tryd.underlying203 h
 have hl2 : cs.length = 2 := hl.trans (by kernel_rfl)
 have hk : Tryd.prog.cellsOf 3 = 1 := by kernel_rfl
 match cs, hl2 with
 | [c0, c1], _ =>
  simp only [hk] at h0 h1
  obtain ⟨z0, e0, hy0, _⟩ := DataW.trod_int Tryd.underlying3 h0
  obtain ⟨z1, e1, hy1, _⟩ := DataW.trod_int Tryd.underlying3 h1
  simp at e0 e1
  subst hy0 hy1 e0 e1
  simp at hx
  simp [hx]
theorem shape_cells {fuel : Nat} {cs : List Value} {p : List MemPlace} (h : DataW.trod enc Tryd.prog w base spare held fuel 204 cs = some (Rows.laid_loop_example_g00632_impl_vmShape, p)) : cs = [3, 6, 4, 9, 2, 3, 6, 9].map (Value.int .i64) := by
 obtain ⟨xs, m, _, hx, hl, hn, hi⟩ := DataW.trod_array Tryd.underlying204 h
 have hk : Tryd.prog.cellsOf 203 = 2 := by kernel_rfl
 have hl8 : cs.length = 8 := hl.trans (by kernel_rfl)
 rw [hk] at hi
 match xs, hn with
 | [⟨x0, p0⟩, ⟨x1, p1⟩, ⟨x2, p2⟩, ⟨x3, p3⟩], _ =>
  unfold Rows.laid_loop_example_g00632_impl_vmShape at hx
  simp at hx
  obtain ⟨⟨rfl, rfl, rfl, rfl⟩, _⟩ := hx
  match cs, hl8 with
  | [c0, c1, c2, c3, c4, c5, c6, c7], _ =>
   have g0 := part_cells (hi 0 (by decide))
   have g1 := part_cells (hi 1 (by decide))
   have g2 := part_cells (hi 2 (by decide))
   have g3 := part_cells (hi 3 (by decide))
   simp at g0 g1 g2 g3
   simp [g0, g1, g2, g3]
end

theorem vmShape_of_laid {W : World} {p : List (String × DataW Unit)} (hp : p = [("loop.example/g00632/impl.vmShape", Rows.laid_loop_example_g00632_impl_vmShape)]) (h : laidMetH Tryd.prog p W) : VmShape W := by
 subst hp
 rw [MakeChecks.laidMetH_plain _ _ _ (by kernel_rfl)] at h
 obtain ⟨ps, ⟨g0, t0, cs0, f0, p0, q0, hg0, ht0, hv0, hd0, _, _⟩, _, _⟩ := h
 obtain rfl := Option.some.inj (gVmShape.symm.trans hg0)
 obtain rfl := Option.some.inj (tVmShape.symm.trans ht0)
 have hcs := shape_cells hd0
 unfold World.var? at hv0
 simp only [gVmShape, Option.bind_some] at hv0
 cases hh : W.heap[0]? with
 | none => rw [hh] at hv0; cases hv0
 | some o =>
  rw [hh] at hv0
  cases o with
  | cells cs t fr =>
   simp only [Option.some.injEq] at hv0
   subst hv0
   intro i v hi
   rw [← hcs] at hi
   simp only [World.cell?, hh]
   simpa using hi
  | _ => cases hv0

open Go.RowKit

theorem IsRow.below {k : IntKind} {w w' : World} {a : Option Addr} {len cap : Nat} {zs : List Int} (h : IsRow k w a len cap zs) (hb : Below w.heap.size w w') : IsRow k w' a len cap zs := by
 rcases h with h | ⟨x, h1, h2, h3, h4, h5, h6⟩
 ·exact .inl h
 ·refine .inr ⟨x, h1, h2, h3, h4, fun i hi => ?_, h6⟩
  have hc := h5 i hi
  have hlt : (x.add i).block < w.heap.size := by
   rcases Nat.lt_or_ge (x.add i).block w.heap.size with h' | h'
   ·exact h'
   ·simp [World.cell?, Array.getElem?_eq_none h'] at hc
  rw [hb.cell hlt]
  exact hc
theorem IsRow.len_le {k : IntKind} {w : World} {a : Option Addr} {len cap : Nat} {zs : List Int} (h : IsRow k w a len cap zs) : len ≤ maxLen := by
 rcases h with ⟨_, rfl, _, _⟩ | ⟨x, h1, h2, h3, _⟩
 ·omega
 ·omega
theorem IsRow.drew {k : IntKind} {w : World} {a : Option Addr} {len cap : Nat} {zs : List Int} (h : IsRow k w a len cap zs) (d : Nat) : IsRow k (w.drewN d) a len cap zs := h

set_option linter.unusedVariables false
set_option linter.unusedSimpArgs false

theorem cell_grownD {w w' : World} {row : Option Nat} (g : w.grownBy w' row) {p : Addr} {v : Value} (hc : w.cell? p = some v) (hne : some p.block ≠ row) : w'.cell? p = some v := by
 have hl := World.block_lt_of_cell? _ _ hc
 rw [← hc]
 unfold World.cell?
 rw [g.block p.block hl hne]
set_option maxHeartbeats 4000000 in
theorem vmDrawn_any (a : Option Addr) (n cap : Nat) (zs : List Int) (aP : Option Addr) (capP : Nat) (rows : List (List I3)) (w : World) (hI : IsRow .u8 w a n cap zs) (hn : n ≤ 1048576) (hP : Codes w aP 3 capP rows) (hok : progOk rows = true) :
  Calls Tryd.prog 10 #[.slice a n cap, .agg #[.slice aP 3 capP]] w fun e w' => (∃ (t : S4) (m : V4), e = .returned t.val ∧ OwnV w' w.heap.size t m ∧ shapeOk m = true) ∧ Below w.heap.size w w' := by
 have hCo := code_of hI hn
 have bw : Below w.heap.size w ((w.alloc (.cells #[.slice aP 3 capP] 25)).alloc (.cells #[.slice none 0 0, .slice none 0 0, .slice none 0 0, .slice none 0 0] 29)) := by go_grown
 have pP : Blk ((w.alloc (.cells #[.slice aP 3 capP] 25)).alloc (.cells #[.slice none 0 0, .slice none 0 0, .slice none 0 0, .slice none 0 0] 29)) w.heap.size 25 [.slice aP 3 capP] := blkOld _ (blkAt _ _ _ rfl)
 have pR : Blk ((w.alloc (.cells #[.slice aP 3 capP] 25)).alloc (.cells #[.slice none 0 0, .slice none 0 0, .slice none 0 0, .slice none 0 0] 29)) (w.heap.size + 1) 29 [.slice none 0 0, .slice none 0 0, .slice none 0 0, .slice none 0 0] := blkAt _ _ _ (by simp)
 go_enter Tryd.func10, Tryd.ntmps10
 go_wp2_with fail
 generalize hW1 : ((w.alloc (.cells #[.slice aP 3 capP] 25)).alloc (.cells #[.slice none 0 0, .slice none 0 0, .slice none 0 0, .slice none 0 0] 29)) = W1 at *
 have bw1 := bw
 have cP : W1.cell? ⟨w.heap.size, 0, none⟩ = some (.slice aP 3 capP) := pP.cell 0
 refine wp_region_held_drew (S := (fun w' => w'.cell? ⟨w.heap.size, 0, none⟩ = some (.slice aP 3 capP))) (by kernel_rfl) cP (fun hS0 => ?_)
 refine tkm 0 5 (.slice a n cap) ?_
 refine tkm 2 7 (.agg #[.slice aP 3 capP]) ?_
 refine tkr 1 6 (fun K hK => ?_)
 go_simp
 refine (l00Source_any a n cap W1.drew hn).mono ?_
 rintro e w2 ⟨rfl, hS, hb⟩
 replace hS : Src w2 W1.heap.size (.slice a n cap) 0 := hS
 replace hb : Below W1.heap.size W1 w2 := ⟨hb.os, hb.tape, hb.output, hb.size, hb.block⟩
 have hpl : W1.heap.size < w2.heap.size := hS.lt
 have hCd : Code w2 W1.heap.size a n cap := by
  obtain ⟨zs', q1, q2, q3, q4⟩ := hCo
  exact ⟨zs', q1.below (bel_trans bw hb), q2, q3, fun x hx h0 => by have := q4 x hx h0; have := bw.size; omega⟩
 replace bw := bel_trans bw hb
 replace pP := pP.below hb
 replace pR := pR.below hb
 have hPr : ∀ W, Below W1.heap.size w2 W → Codes W aP 3 capP rows := fun W h => (hP.below bw1).below (hb.trans h)
 have cP2 : w2.cell? ⟨w.heap.size, 0, none⟩ = some (.slice aP 3 capP) := pP.cell 0
 go_wp2_with fail
 refine hK.out _ _ cP2 (fun hS1 => ?_)
 clear hK
 try simp only [Act.put, tka, tkb, tkc]
 refine tkr 3 8 (fun K hK => ?_)
 go_simp
 refine (vm_any W1.heap.size 0 a n cap aP capP rows w2 hS hCd (by omega) hok hPr).mono ?_
 rintro e w3 ⟨⟨⟨⟨t0a, t0n, t0c⟩, ⟨t1a, t1n, t1c⟩, ⟨t2a, t2n, t2c⟩, ⟨t3a, t3n, t3c⟩⟩, m, rfl, hO, hs⟩, hb3⟩
 have uA : S4.val ((t0a, t0n, t0c), (t1a, t1n, t1c), (t2a, t2n, t2c), (t3a, t3n, t3c)) = .agg #[.slice t0a t0n t0c, .slice t1a t1n t1c, .slice t2a t2n t2c, .slice t3a t3n t3c] := rfl
 rw [uA]
 clear uA
 have hX : w.heap.size + 1 < W1.heap.size := by simp [← hW1]
 replace pR := pR.belowB hb3 hX
 have cP3 : w3.cell? ⟨w.heap.size, 0, none⟩ = some (.slice aP 3 capP) := (pP.belowB hb3 (by omega)).cell 0
 replace bw : Below w.heap.size w w3 := bw.trans (hb3.mono (by omega))
 go_wp2_with fail
 refine hK.out _ _ cP3 (fun hS2 => ?_)
 clear hK
 try simp only [Act.put, tka, tkb, tkc]
 refine tkz 4 (fun K hK => ?_)
 refine step_store_blkD rfl 29 _ _ rfl (w.heap.size + 1) [.slice t0a t0n t0c, .slice t1a t1n t1c, .slice t2a t2n t2c, .slice t3a t3n t3c] rfl rfl pR (by kernel_rfl) rfl rfl ?_
 intro w4 pR2 g2
 have hO4 := (hO.kept9 g2 pR (by decide)).lowerB (B' := w.heap.size) (by have := bw.size; omega)
 have bw4 := bw.grown g2 bw.size (fun k e => by cases e; omega)
 have cP4 := cell_grownD g2 cP3 (fun e => by have h9 := Option.some.inj e; simp at h9)
 refine hK.out _ _ cP4 (fun hS3 => ?_)
 clear hK
 try simp only [Act.put, tka, tkb, tkc]
 refine wpAnyH_done (by kernel_rfl) ?_ _
 clear hS hCd hPr hO g2 bw pR pP hS0 hS1 hS2 hS3 cP2 cP3 cP4
 go_wp2_with fail
 refine bodyPost_ret (results_blk1 Tryd.results10 _ _ _ _ _ _ rfl pR2.out Tryd.underlying29 rfl (by kernel_rfl)) rfl ?_
 exact ⟨⟨((t0a, t0n, t0c), (t1a, t1n, t1c), (t2a, t2n, t2c), (t3a, t3n, t3c)), m, rfl, hO4, hs⟩, bw4⟩


def Chosen (n : Int) (e : Ending) : Prop := ∃ v : Nat, ((v : Int) < n ∨ v = 0) ∧ e = .returned (.int .i64 v)
theorem chosen_mk {n x : Int} (h0 : 0 ≤ x) (h : x < n) : Chosen n (.returned (.int .i64 x)) := ⟨x.toNat, .inl (by omega), by rw [Int.toNat_of_nonneg h0]⟩

set_option maxHeartbeats 4000000 in
theorem at_any (a : Option Addr) (len cap : Nat) (zs : List Int) (i n : Int) (w : World) (hI : IsRow .u8 w a len cap zs) (hlen : len ≤ 1048576) (hi0 : 0 ≤ i) (hi1 : i ≤ 1000000) (hn : n ≤ 1000000000) :
  Calls Tryd.prog 11 #[.slice a len cap, .int .i64 i, .int .i64 n] w fun e w' => Chosen n e ∧ ∃ d, w' = w.drewN d := by
 by_cases h1 : n ≤ 1
 ·go_enter Tryd.func11, Tryd.ntmps11
  go_wp2
  go_ret
  exact ⟨⟨0, .inr rfl, rfl⟩, 0, rfl⟩
 by_cases h0 : len = 0
 ·subst h0
  go_enter Tryd.func11, Tryd.ntmps11
  go_wp2
  go_ret
  exact ⟨chosen_mk (Int.emod_nonneg (i * 7) (by omega)) (Int.emod_lt_of_pos (i * 7) (by omega)), 0, rfl⟩
 ·have hbnd : ∀ j, j < len → 0 ≤ (zs.take len).getD j 0 ∧ (zs.take len).getD j 0 ≤ 255 := by
   intro j hj
   rcases hI with ⟨_, hl0, _, _⟩ | ⟨x, _, hlc, _, hzl, _, hw⟩
   ·exact absurd hl0 h0
   ·have hm : (zs.take len).getD j 0 ∈ zs := by
     have hjz : j < zs.length := by omega
     simp [List.getD, hj, List.getElem?_eq_getElem hjz]
    have hw' := hw _ hm
    generalize (zs.take len).getD j 0 = y at hw' ⊢
    simp [Lit.wf, IntKind.min, IntKind.max, IntKind.signed, IntKind.bits] at hw'
    omega
  obtain ⟨hl, hlc, hcm, hcase⟩ := Ints.of_isRow hI
  unfold maxLen at hcm
  rcases hcase with h0' | ⟨b, off, rfl, hblt, hcell⟩
  ·exact absurd h0' h0
  obtain ⟨k, rfl⟩ := Int.eq_ofNat_of_zero_le hi0
  have hpos : 0 < len := by omega
  obtain ⟨q, hq⟩ : ∃ q : Nat, q = k % len := ⟨_, rfl⟩
  obtain ⟨r, hr⟩ : ∃ r : Nat, r = (k + 1) % len := ⟨_, rfl⟩
  obtain ⟨d, hd⟩ : ∃ d : Nat, d = k / len := ⟨_, rfl⟩
  have hql : q < len := by rw [hq]; exact Nat.mod_lt _ hpos
  have hrl : r < len := by rw [hr]; exact Nat.mod_lt _ hpos
  have hdk : d ≤ k := by rw [hd]; exact Nat.div_le_self _ _
  have t1 : ((k : Int)).tmod (len : Int) = (q : Int) := by rw [hq, Int.tmod_eq_emod_of_nonneg (by omega)]; rfl
  have t2 : ((k : Int) + 1).tmod (len : Int) = (r : Int) := by rw [hr, Int.tmod_eq_emod_of_nonneg (by omega)]; rfl
  have t3 : ((k : Int)).tdiv (len : Int) = (d : Int) := by rw [hd, Int.tdiv_eq_ediv_of_nonneg (by omega)]; rfl
  have cq := hcell q hql
  have cr := hcell r hrl
  obtain ⟨x1, x2⟩ := hbnd q hql
  obtain ⟨y1, y2⟩ := hbnd r hrl
  generalize (zs.take len).getD q 0 = x at cq x1 x2
  generalize (zs.take len).getD r 0 = y at cr y1 y2
  have hq1 : (q : Int) < (len : Int) := by omega
  have hr1 : (r : Int) < (len : Int) := by omega
  have w1 : IntKind.i64.wrap ((k : Int) + 1) = (k : Int) + 1 := IntWalk.i64_in _ ⟨by omega, by omega⟩
  have w2 : IntKind.i64.wrap (d : Int) = (d : Int) := IntWalk.i64_in _ ⟨by omega, by omega⟩
  have w3 : IntKind.i64.wrap x = x := IntWalk.i64_in _ ⟨by omega, by omega⟩
  have w4 : IntKind.i64.wrap y = y := IntWalk.i64_in _ ⟨by omega, by omega⟩
  have w5 : IntKind.i64.wrap (x * 31) = x * 31 := IntWalk.i64_in _ ⟨by omega, by omega⟩
  have w6 : IntKind.i64.wrap (x * 31 + y) = x * 31 + y := IntWalk.i64_in _ ⟨by omega, by omega⟩
  have w7 : IntKind.i64.wrap (x * 31 + y + (d : Int)) = x * 31 + y + (d : Int) := IntWalk.i64_in _ ⟨by omega, by omega⟩
  have t4 : (x * 31 + y + (d : Int)).tmod n = (x * 31 + y + (d : Int)) % n := Int.tmod_eq_emod_of_nonneg (by omega)
  have hne : ((len : Int) == 0) = false := by simp; omega
  have hnn : (n == 0) = false := by simp; omega
  have hne' : ¬ (len : Int) = 0 := by omega
  have hnn' : ¬ n = 0 := by omega
  clear hcell hbnd hI hq hr hd hl
  go_enter Tryd.func11, Tryd.ntmps11
  go_wp2
  go_quiet (fail)
  go_wp2
  go_ret
  exact ⟨chosen_mk (Int.emod_nonneg (x * 31 + y + (d : Int)) (by omega)) (Int.emod_lt_of_pos (x * 31 + y + (d : Int)) (by omega)), _, rfl⟩
end Go.Proofs.YtdojjmkpelgcaaaDoor
