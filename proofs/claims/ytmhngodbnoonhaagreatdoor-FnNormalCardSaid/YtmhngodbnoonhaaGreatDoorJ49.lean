/-
  FnNormal, part 49 of 50 (SchD, WitA, WitB, FrP, Vm5, SameVmI).
-/
import Derived.Test.YtmhngodbnoonhaaGreatDoorJ48
import Derived.Test.YtmhngodbnoonhaaGreatDoorJ45
import Derived.BigQuiet
import Derived.Test.YtmhngodbnoonhaaGreatDoorJ07
import Derived.Deep.RegionHeld3
import Derived.Test.YtmhngodbnoonhaaGreatDoorJ12
import Derived.Deep.QuietTactic

/-
  The specification's ScheduleDrawn.
-/
namespace Go.Proofs.YtmhngodbnoonhaaGreatDoor
open Go.RowKit
set_option linter.unusedVariables false
set_option linter.unusedSimpArgs false

set_option maxHeartbeats 1000000 in
set_option maxRecDepth 100000 in
theorem scheduleDrawn_any (a : Option Addr) (n cap : Nat) (zs : List Int) (aP : Option Addr) (capP : Nat) (rows : List (List I3)) (w : World) (hI : IsRow .u8 w a n cap zs) (hn : n ≤ 1048576) (hP : Codes w aP 3 capP rows) (hok : progOk rows = true) :
    Calls Tryz.prog 7 #[.slice a n cap, .agg #[.slice aP 3 capP]] w fun e w' => SchGot e w' w.heap.size rows ∧ Below w.heap.size w w' := by
  have hCo := code_of hI hn
  have bw : Below w.heap.size w (w.alloc (.cells #[.slice aP 3 capP] 25)) := by go_grown
  have pP : Blk (w.alloc (.cells #[.slice aP 3 capP] 25)) w.heap.size 25 [.slice aP 3 capP] := blkAt _ _ _ rfl
  go_enter Tryz.func7, Tryz.ntmps7
  go_wp2_with fail
  have hX : w.heap.size < (w.alloc (.cells #[.slice aP 3 capP] 25)).heap.size := pP.lt
  generalize (w.alloc (.cells #[.slice aP 3 capP] 25)) = W1 at *
  have bw1 := bw
  have cP : W1.cell? ⟨w.heap.size, 0, none⟩ = some (.slice aP 3 capP) := pP.cell 0
  refine wp_region_held_drew (S := (fun w' => w'.cell? ⟨w.heap.size, 0, none⟩ = some (.slice aP 3 capP))) (by kernel_rfl) cP (fun hS0 => ?_)
  refine wpAnyH_take (i := 0) (oi := { dst := some 5, op := _, type := _, pos := _, after := _, guard := _ }) (v := (.slice a n cap)) rfl (by kernel_rfl) (by kernel_rfl) (by kernel_rfl) (fun _ _ _ h => h) (Or.inl ⟨by rfl, ?_⟩) (by assumption) ?_
  · (intro w' hSw; (try dsimp only at hSw); go_simp; try rfl)
  simp only [Act.put, List.setIfInBounds_toArray, List.set_cons_zero, List.set_cons_succ]
  refine wpAnyH_take (i := 2) (oi := { dst := some 7, op := _, type := _, pos := _, after := _, guard := _ }) (v := (.agg #[.slice aP 3 capP])) rfl (by kernel_rfl) (by kernel_rfl) (by kernel_rfl) (fun _ _ _ h => h) (Or.inl ⟨by rfl, ?_⟩) (by assumption) ?_
  · (intro w' hSw; (try dsimp only at hSw); go_simp; try rfl)
  simp only [Act.put, List.setIfInBounds_toArray, List.set_cons_zero, List.set_cons_succ]
  refine wpAnyH_ready (rs := [1]) (by kernel_rfl) (by simp) ?_
  refine AllReadyH.cons (o := { dst := some 6, op := _, type := _, pos := _, after := _, guard := _ }) rfl (fun K hK => ?_) AllReadyH.nil
  go_simp
  refine (l00Source_any a n cap W1.drew hn).mono ?_
  rintro e w2 ⟨rfl, hS, hb⟩
  replace hS : Src w2 W1.heap.size (.slice a n cap) 0 := hS
  replace hb : Below W1.heap.size W1 w2 := ⟨hb.os, hb.tape, hb.output, hb.size, hb.block⟩
  have hpl : W1.heap.size < w2.heap.size := hS.lt
  have hCd : Code w2 W1.heap.size a n cap := by
    obtain ⟨zs', q1, q2, q3, q4⟩ := hCo
    exact ⟨zs', q1.below (bel_trans bw hb), q2, q3, fun x hx h0 => by have := q4 x hx h0; have := bw.size; omega⟩
  replace bw := bel_trans bw hb
  replace pP := pP.below hb
  have hPr : ∀ W, Below W1.heap.size w2 W → Codes W aP 3 capP rows := fun W h => (hP.below bw1).below (hb.trans h)
  have cP2 : w2.cell? ⟨w.heap.size, 0, none⟩ = some (.slice aP 3 capP) := pP.cell 0
  go_wp2_with fail
  refine hK.out _ _ cP2 (fun hS1 => ?_)
  clear hK
  try simp only [Act.put, List.setIfInBounds_toArray, List.set_cons_zero, List.set_cons_succ]
  refine wpAnyH_ready (rs := [3]) (by kernel_rfl) (by simp) ?_
  refine AllReadyH.cons (o := { dst := some 8, op := _, type := _, pos := _, after := _, guard := _ }) rfl (fun K hK => ?_) AllReadyH.nil
  go_simp
  refine (schedule_any W1.heap.size 0 a n cap aP capP rows w2 hS hCd (by omega) hok hPr).mono ?_
  rintro e w3 ⟨⟨v, ks, m, hsm, rfl, q, hl, hg⟩, hb3⟩
  have cP3 : w3.cell? ⟨w.heap.size, 0, none⟩ = some (.slice aP 3 capP) := (pP.belowB hb3 (by omega)).cell 0
  have hw2 : w.heap.size ≤ w2.heap.size := bw.size
  replace bw : Below w.heap.size w w3 := bw.trans (hb3.mono (by omega))
  go_wp2_with fail
  refine hK.out _ _ cP3 (fun hS2 => ?_)
  clear hK
  try simp only [Act.put, List.setIfInBounds_toArray, List.set_cons_zero, List.set_cons_succ]
  refine wpAnyH_take (i := 4) (oi := { dst := some 4, op := _, type := _, pos := _, after := _, guard := _ }) (v := v) rfl (by kernel_rfl) (by kernel_rfl) (by kernel_rfl) (fun _ _ _ h => h) (Or.inl ⟨by rfl, ?_⟩) (by assumption) ?_
  · (intro w' hSw; (try dsimp only at hSw); go_simp; try rfl)
  simp only [Act.put, List.setIfInBounds_toArray, List.set_cons_zero, List.set_cons_succ]
  refine wpAnyH_done (by kernel_rfl) ?_ _
  have hG : SchGot (.returned v) w3 w.heap.size rows := ⟨v, ks, m, hsm, rfl, own_lowerB q hw2, hl, hg⟩
  clear hS hCd hPr pP hS0 hS1 hS2 cP2 cP3 q hsm
  go_wp2_with fail
  go_ret
  exact ⟨hG, bw⟩
end Go.Proofs.YtmhngodbnoonhaaGreatDoor


/-
  slices.Contains at bugs.
-/
namespace Go.Proofs.YtmhngodbnoonhaaGreatDoor
open Go.RowKit
set_option linter.unusedVariables false
set_option linter.unusedSimpArgs false

def hasW : List I3 → I3 → Bool
  | [], _ => false
  | y :: l, x => decide (y = x) || hasW l x
theorem hasW_iff {x : I3} : ∀ {l : List I3}, hasW l x = true ↔ x ∈ l
  | [] => by simp [hasW]
  | y :: l => by
    have h := hasW_iff (x := x) (l := l)
    show (decide (y = x) || hasW l x) = true ↔ _
    rw [Bool.or_eq_true, h, List.mem_cons, decide_eq_true_iff]
    exact or_congr ⟨Eq.symm, Eq.symm⟩ Iff.rfl
theorem hasW_step {xs : List I3} {k : Nat} (hk : k < xs.length) (y : I3) : hasW (xs.drop k) y = (decide (xs.getD k (0, 0, 0) = y) || hasW (xs.drop (k + 1)) y) := by
  rw [List.drop_eq_getElem_cons hk]
  simp [hasW, List.getD, List.getElem?_eq_getElem hk]
theorem below_dNW {w W : World} (h : Below w.heap.size w W) (d : Nat) : Below w.heap.size w (W.drewN d) := bel_trans h (below_dN d)
/-- An index, or below nought where it is not there. -/
def IdxW (e : Ending) (b : Bool) : Prop := ∃ r : Int, e = .returned (.int .i64 r) ∧ decide (0 ≤ r) = b

end Go.Proofs.YtmhngodbnoonhaaGreatDoor


/-
  Both sides' IsWitness.
-/
namespace Go.Proofs.YtmhngodbnoonhaaGreatDoor
open Go.RowKit
set_option linter.unusedVariables false
set_option linter.unusedSimpArgs false

/-- What IsWitness tells. -/
def witV (rows : List (List I3)) (ks : List Int) (y : I3) : Bool := if 4096 < ks.length then false else if progOk rows && okB y then decide (runC rows ks = 0) && hasW (runF rows ks) y else false
def witC (rows : List (List I3)) (ks : List Int) (y : I3) : Int := if 4096 < ks.length then 2 else if progOk rows && okB y then 0 else 1
theorem runS_runI (rows : List (List I3)) (ks : List Int) : runS rows zeroV [] ks = ((runI rows zeroV [] ks).1, mergeB (runI rows zeroV [] ks).2.1 (deadM rows (runI rows zeroV [] ks).1), (runI rows zeroV [] ks).2.2) := by
  have h0 : ([] : List I3) = mergeB [] (deadM rows zeroV) := by unfold deadM; rw [stuck_zero]; rfl
  obtain ⟨h1, h2, h3⟩ := run_same (rows := rows) ks zeroV [] [] h0
  rw [← h1, ← h2] at *
  exact Prod.ext h1 (Prod.ext h3 rfl)
theorem runF_ok (rows : List (List I3)) (ks : List Int) : (∀ x ∈ runF rows ks, okB x = true) ∧ (runF rows ks).length ≤ 5000 := by
  unfold runF
  split
  · simp
  · split
    · rename_i h1 h2
      have a := runI_ok h2 ks zeroV [] zero_shape (by simp)
      have b := runI_len (rows := rows) ks zeroV []
      have c := mergeB_len (runI rows zeroV [] ks).2.1 (deadM rows (runI rows zeroV [] ks).1)
      have d : (deadM rows (runI rows zeroV [] ks).1).length ≤ 1 := by unfold deadM; split <;> simp
      refine ⟨mergeB_ok a.2 (deadM_ok _ _), ?_⟩
      simp at b
      omega
    · simp

end Go.Proofs.YtmhngodbnoonhaaGreatDoor


/-
  What FnRun asks, in plain words.
-/
namespace Go.Proofs.YtmhngodbnoonhaaGreatDoor
open Go.RowKit
set_option linter.unusedVariables false

theorem goes_run {rows : List (List I3)} {ks : List Int} {m : V4} (hp : progOk rows = true) (h : goesTo rows ks m) (hl : ks.length ≤ 14) : runZ rows ks = m ∧ runC rows ks = 0 ∧ shapeOk m = true := by
  obtain ⟨h1, h2⟩ := h
  have h9 : ¬ 4096 < ks.length := by omega
  unfold runZ runC
  simp only [if_neg h9, if_pos hp]
  refine ⟨h2, h1, ?_⟩
  rw [← h2]
  exact (runI_ok hp ks zeroV [] zero_shape (by simp)).1
theorem goes_beyond {rows : List (List I3)} {ks : List Int} {m : V4} (hp : progOk rows = true) (h : goesTo rows ks m) (hl : ks.length ≤ 14) : runC rows (ks ++ [3]) = 4 := by
  obtain ⟨h1, h2⟩ := h
  unfold runC
  rw [if_neg (by rw [List.length_append]; simp; omega), if_pos hp, runI_snoc rows 3 ks zeroV [] h1]
  have hz : haltM rows (runI rows zeroV [] ks).1 3 = 4 := by unfold haltM; rw [if_neg (by omega)]
  show (if haltM rows (runI rows zeroV [] ks).1 3 = 0 then _ else _ : V4 × List I3 × Int).2.2 = 4
  rw [if_neg (by rw [hz]; decide)]
  exact hz
theorem goes_witness {rows : List (List I3)} {ks : List Int} {m : V4} {y : I3} (hp : progOk rows = true) (h : goesTo rows ks m) (hl : ks.length ≤ 14) (hy : y ∈ runF rows ks) : witV rows ks y = true ∧ witC rows ks y = 0 := by
  have hc := (goes_run hp h hl).2.1
  have ho := (runF_ok rows ks).1 y hy
  have h9 : ¬ 4096 < ks.length := by omega
  unfold witV witC
  rw [hp, ho, hc]
  simp only [if_neg h9]
  simp only [Bool.and_self, if_true, decide_true, Bool.true_and, and_true]
  exact hasW_iff.2 hy
theorem halt_step {rows : List (List I3)} {m : V4} {k : Int} (hp : progOk rows = true) (hs : shapeOk m = true) (hz : haltM rows m k = 0) : stepZ rows m k = (goM rows m k).1 ∧ stepC rows m k = 0 := by
  obtain ⟨h0, h2, hd, hc⟩ := halt_can hz
  have hk3 : (0 : Int) ≤ k ∧ k < 3 := by omega
  unfold stepZ stepC goM
  simp only [hp, hs, Bool.and_self, if_true, hk3, and_self, hd, hc]
theorem getD_memF {xs : List I3} {k : Nat} (hk : k < xs.length) : xs.getD k (0, 0, 0) ∈ xs := by
  simp only [List.getD, List.getElem?_eq_getElem hk, Option.getD_some]
  exact List.getElem_mem hk
end Go.Proofs.YtmhngodbnoonhaaGreatDoor


/-
  The specification's SameVm: both have their shape, and their keys are one.
-/
namespace Go.Proofs.YtmhngodbnoonhaaGreatDoor
open Go.RowKit

/-- What SameVm answers. -/
def sameV (m q : V4) : Bool := shapeOk m && (shapeOk q && ((keyT m).toList == (keyT q).toList))

end Go.Proofs.YtmhngodbnoonhaaGreatDoor


/-
  impl.SameVm: slices.Equal at integers; keys tell states apart; FnExactSameVm's other side.
-/
namespace Go.Proofs.YtmhngodbnoonhaaGreatDoor
open Go.RowKit

theorem digit_inj {a b : Int} (ha : 0 ≤ a ∧ a ≤ 9) (hb : 0 ≤ b ∧ b ≤ 9) (h : UInt8.ofNat (48 + a).toNat = UInt8.ofNat (48 + b).toNat) : a = b := by
  have := congrArg UInt8.toNat h
  rw [UInt8.toNat_ofNat', UInt8.toNat_ofNat'] at this
  omega
theorem digits_inj : ∀ {xs ys : List Int}, (∀ z ∈ xs, 0 ≤ z ∧ z ≤ 9) → (∀ z ∈ ys, 0 ≤ z ∧ z ≤ 9) → (xs.map fun z => 48 + z).map (fun n : Int => UInt8.ofNat n.toNat) = (ys.map fun z => 48 + z).map (fun n : Int => UInt8.ofNat n.toNat) → xs = ys
  | [], [], _, _, _ => rfl
  | [], _ :: _, _, _, h => by simp at h
  | _ :: _, [], _, _, h => by simp at h
  | x :: xs, y :: ys, hx, hy, h => by
    simp only [List.map_cons, List.cons.injEq] at h
    rw [digit_inj (hx x (by simp)) (hy y (by simp)) h.1, digits_inj (fun z hz => hx z (by simp [hz])) (fun z hz => hy z (by simp [hz])) h.2]
theorem keyT_inj {m q : V4} (hm : shapeOk m = true) (hq : shapeOk q = true) (h : (keyT m).toList = (keyT q).toList) : m = q := by
  obtain ⟨l0, l1, l2, l3, d⟩ := shape_parts hm
  obtain ⟨k0, k1, k2, k3, e⟩ := shape_parts hq
  have hall : allOf m = allOf q := by
    refine digits_inj d e ?_
    rw [ByteArray.toList_eq, ByteArray.toList_eq] at h
    exact h
  unfold allOf at hall
  obtain ⟨h1, e3⟩ := List.append_inj hall (by simp; omega)
  obtain ⟨h2, e2⟩ := List.append_inj h1 (by simp; omega)
  obtain ⟨e0, e1⟩ := List.append_inj h2 (by omega)
  obtain ⟨a, b, c, f⟩ := m
  obtain ⟨a', b', c', f'⟩ := q
  simp only at e0 e1 e2 e3
  rw [e0, e1, e2, e3]
theorem sameV_eq (m q : V4) : sameV m q = (shapeOk m && (shapeOk q && decide (m = q))) := by
  unfold sameV
  cases hm : shapeOk m
  · rfl
  cases hq : shapeOk q
  · rfl
  by_cases h : m = q
  · subst h; simp
  · have : ¬ (keyT m).toList = (keyT q).toList := fun e => h (keyT_inj hm hq e)
    simp [h, this]

theorem bel_dN (w : World) (n : Nat) : Below w.heap.size w (w.drewN n) := ⟨rfl, rfl, rfl, Nat.le_refl _, fun _ _ => rfl⟩

set_option maxHeartbeats 1000000 in
set_option maxRecDepth 100000 in
theorem equalI_is (a a' : Option Addr) (len cap cap' : Nat) (xs ys : List Int) (w : World) (h : Ints .i64 w a len cap xs) (h' : Ints .i64 w a' len cap' ys) (hpos : len ≠ 0) :
    Calls Tryz.prog 42 #[.slice a len cap, .slice a' len cap'] w fun e w' => e = .returned (.bool (decide (xs = ys))) ∧ Below w.heap.size w w' := by
  obtain ⟨hl, hlc, hcm, hcase⟩ := h
  obtain ⟨hl', hlc', hcm', hcase'⟩ := h'
  unfold maxLen at hcm hcm'
  rcases hcase with h0' | ⟨b, off, rfl, hblt, hcell⟩
  · exact absurd h0' hpos
  rcases hcase' with h0' | ⟨b', off', rfl, hblt', hcell'⟩
  · exact absurd h0' hpos
  have hne : ((len : Int) != (len : Int)) = false := by simp
  obtain ⟨fin, hfin⟩ : ∃ fin, fin = decide (xs = ys) := ⟨_, rfl⟩
  rw [← hfin]
  have HF : Hid (fin = decide (xs = ys)) := hfin
  clear hfin
  go_enter Tryz.func42, Tryz.ntmps42
  go_wp2
  go_loopw [13] (fun si wr => ∃ (k : Nat), k ≤ len ∧ si = .int .i64 k ∧ Hid (xs.take k = ys.take k) ∧ Below w.heap.size w wr) (fun si _ => len - (intOf si).toNat)
  case atStart => exact ⟨0, by omega, rfl, by simp [Hid], Below.refl _ _⟩
  case round =>
    obtain ⟨k, hk, rfl, hH', hbel⟩ := hrel
    by_cases hlt : k < len
    · have c0 := hcell k hlt
      have e0 := hcell' k hlt
      rw [← hbel.cell (p := ⟨b, _, none⟩) hblt] at c0
      rw [← hbel.cell (p := ⟨b', _, none⟩) hblt'] at e0
      have hlt' : (k : Int) < (len : Int) := by omega
      have hk0 : (0 : Int) ≤ (k : Int) := by omega
      have hxg : Hid (xs.getD k 0 = xs[k]'(by omega) ∧ ys.getD k 0 = ys[k]'(by omega)) := ⟨by simp [List.getD, hl, hlt], by simp [List.getD, hl', hlt]⟩
      by_cases hxy : xs.getD k 0 = ys.getD k 0
      · have hH2 : Hid (xs.take (k + 1) = ys.take (k + 1)) := by
          rw [Hid, List.take_succ_eq_append_getElem (by omega), List.take_succ_eq_append_getElem (by omega), hH'.out, ← hxg.out.1, ← hxg.out.2, hxy]
        rw [← hxy] at e0
        clear hcell hcell' hxg hxy hH'
        generalize xs.getD k 0 = x at c0 e0
        have hxx : (x != x) = false := by simp
        go_wp2_with fail
        go_quiet (fail)
        have hb2 : Below w.heap.size w (wr.drewN nq) := bel_trans hbel (bel_dN _ _)
        go_wp2
        go_roundw
        case rel => exact ⟨k + 1, by omega, by go_num, hH2, hb2⟩
        case measure => simp [intOf]; omega
      · obtain rfl : fin = false := by
          rw [HF.out, decide_eq_false_iff_not]
          intro h
          subst h
          exact hxy rfl
        clear hcell hcell' hxg hH' HF
        generalize xs.getD k 0 = x at c0 hxy
        generalize ys.getD k 0 = y at e0 hxy
        have hxx : (x != y) = true := by simp [hxy]
        have hb2 : ∀ nq, Below w.heap.size w (wr.drewN nq) := fun nq => bel_trans hbel (bel_dN _ _)
        go_wp2_with fail
        go_quiet (fail)
        go_wp2
        go_ret
        exact ⟨rfl, hb2 _⟩
    · obtain rfl : k = len := by omega
      obtain rfl : fin = true := by
        rw [HF.out, decide_eq_true_eq]
        have h9 := hH'.out
        rwa [List.take_of_length_le (by omega), List.take_of_length_le (by omega)] at h9
      clear hcell hcell' hH' HF
      go_wp2
      go_ret
      exact ⟨rfl, hbel⟩

set_option maxHeartbeats 8000000 in
set_option maxRecDepth 100000 in
theorem implSameVm_is (s : S4) (m : V4) (t : S4) (q : V4) (w : World) (hA : Vmem w s m) (hB : Vmem w t q) (hV : VmShape w) :
    Calls Tryz.prog 14 #[s.val, t.val] w fun e w' => e = .returned (.bool (sameV m q)) ∧ Below w.heap.size w w' := by
  have kA := fun w h => right_is s m w h
  have kB := fun w h => right_is t q w h
  have kLA := fun w => lists_is s w
  have kLB := fun w => lists_is t w
  have hMA := fun (W : World) (hb : Below w.heap.size w W) => hA.below hb
  have hMB := fun (W : World) (hb : Below w.heap.size w W) => hB.below hb
  rw [sameV_eq]
  have hpA := fun h : shapeOk m = true => shape_parts h
  have hpB := fun h : shapeOk q = true => shape_parts h
  obtain ⟨⟨i0, _⟩, ⟨i1, _⟩, ⟨i2, _⟩, ⟨i3, _⟩⟩ := hA
  obtain ⟨⟨j0, _⟩, ⟨j1, _⟩, ⟨j2, _⟩, ⟨j3, _⟩⟩ := hB
  obtain ⟨⟨a0, n0, c0⟩, ⟨a1, n1, c1⟩, ⟨a2, n2, c2⟩, ⟨a3, n3, c3⟩⟩ := s
  obtain ⟨⟨b0, k0, d0⟩, ⟨b1, k1, d1⟩, ⟨b2, k2, d2⟩, ⟨b3, k3, d3⟩⟩ := t
  have uA : S4.val ((a0, n0, c0), (a1, n1, c1), (a2, n2, c2), (a3, n3, c3)) = .agg #[.slice a0 n0 c0, .slice a1 n1 c1, .slice a2 n2 c2, .slice a3 n3 c3] := rfl
  have uB : S4.val ((b0, k0, d0), (b1, k1, d1), (b2, k2, d2), (b3, k3, d3)) = .agg #[.slice b0 k0 d0, .slice b1 k1 d1, .slice b2 k2 d2, .slice b3 k3 d3] := rfl
  rw [uA] at kA kLA
  rw [uB] at kB kLB
  rw [uA, uB]
  clear uA uB
  have bw : Below w.heap.size w ((w.alloc (.cells #[.slice a0 n0 c0, .slice a1 n1 c1, .slice a2 n2 c2, .slice a3 n3 c3] 33)).alloc (.cells #[.slice b0 k0 d0, .slice b1 k1 d1, .slice b2 k2 d2, .slice b3 k3 d3] 33)) := by go_grown
  have pA : Blk ((w.alloc (.cells #[.slice a0 n0 c0, .slice a1 n1 c1, .slice a2 n2 c2, .slice a3 n3 c3] 33)).alloc (.cells #[.slice b0 k0 d0, .slice b1 k1 d1, .slice b2 k2 d2, .slice b3 k3 d3] 33)) w.heap.size 33 [.slice a0 n0 c0, .slice a1 n1 c1, .slice a2 n2 c2, .slice a3 n3 c3] := (Blk.new w _ [.slice a0 n0 c0, .slice a1 n1 c1, .slice a2 n2 c2, .slice a3 n3 c3]).below (by go_grown)
  have pB : Blk ((w.alloc (.cells #[.slice a0 n0 c0, .slice a1 n1 c1, .slice a2 n2 c2, .slice a3 n3 c3] 33)).alloc (.cells #[.slice b0 k0 d0, .slice b1 k1 d1, .slice b2 k2 d2, .slice b3 k3 d3] 33)) (w.heap.size + 1) 33 [.slice b0 k0 d0, .slice b1 k1 d1, .slice b2 k2 d2, .slice b3 k3 d3] := by
    have h9 := Blk.new (w.alloc (.cells #[.slice a0 n0 c0, .slice a1 n1 c1, .slice a2 n2 c2, .slice a3 n3 c3] 33)) 33 [.slice b0 k0 d0, .slice b1 k1 d1, .slice b2 k2 d2, .slice b3 k3 d3]
    rwa [World.size_alloc] at h9
  cases hx : shapeOk m
  · rw [hx] at kA
    go_enter Tryz.func14, Tryz.ntmps14
    go_wp2_with fail
    refine (kA _ (hMA _ bw) (hV.below bw)).mono ?_
    rintro e w1 ⟨rfl, hb⟩
    replace bw := bel_trans bw hb
    go_wp2
    go_ret
    exact ⟨rfl, bw⟩
  rw [hx] at kA
  cases hy : shapeOk q
  · rw [hy] at kB
    go_enter Tryz.func14, Tryz.ntmps14
    go_wp2_with fail
    refine (kA _ (hMA _ bw) (hV.below bw)).mono ?_
    rintro e w1 ⟨rfl, hb⟩
    replace bw := bel_trans bw hb
    replace pB := pB.below hb
    have g0 := pB.cell 0
    have g1 := pB.cell 1
    have g2 := pB.cell 2
    have g3 := pB.cell 3
    simp at g0 g1 g2 g3
    go_wp2_with fail
    refine (kB _ (hMB _ bw) (hV.below bw)).mono ?_
    rintro e w2 ⟨rfl, hb2⟩
    replace bw := bel_trans bw hb2
    clear g0 g1 g2 g3
    go_wp2
    go_ret
    exact ⟨rfl, bw⟩
  rw [hy] at kB
  obtain ⟨l0, l1, l2, l3, _⟩ := hpA hx
  obtain ⟨r0, r1, r2, r3, _⟩ := hpB hy
  obtain ⟨m0, m1, m2, m3⟩ := m
  obtain ⟨q0, q1, q2, q3⟩ := q
  simp only at i0 i1 i2 i3 j0 j1 j2 j3 l0 l1 l2 l3 r0 r1 r2 r3
  obtain rfl : n0 = 3 := i0.1.symm.trans l0
  obtain rfl : n1 = 4 := i1.1.symm.trans l1
  obtain rfl : n2 = 2 := i2.1.symm.trans l2
  obtain rfl : n3 = 6 := i3.1.symm.trans l3
  obtain rfl : k0 = 3 := j0.1.symm.trans r0
  obtain rfl : k1 = 4 := j1.1.symm.trans r1
  obtain rfl : k2 = 2 := j2.1.symm.trans r2
  obtain rfl : k3 = 6 := j3.1.symm.trans r3
  have z0 := fun (W : World) (hb : Below w.heap.size w W) => equalI_is a0 b0 3 c0 d0 m0 q0 W (i0.below hb) (j0.below hb) (by decide)
  have z1 := fun (W : World) (hb : Below w.heap.size w W) => equalI_is a1 b1 4 c1 d1 m1 q1 W (i1.below hb) (j1.below hb) (by decide)
  have z2 := fun (W : World) (hb : Below w.heap.size w W) => equalI_is a2 b2 2 c2 d2 m2 q2 W (i2.below hb) (j2.below hb) (by decide)
  have z3 := fun (W : World) (hb : Below w.heap.size w W) => equalI_is a3 b3 6 c3 d3 m3 q3 W (i3.below hb) (j3.below hb) (by decide)
  have hfin : decide ((m0, m1, m2, m3) = (q0, q1, q2, q3)) = (decide (m0 = q0) && (decide (m1 = q1) && (decide (m2 = q2) && decide (m3 = q3)))) := by
    simp only [Prod.mk.injEq, Bool.decide_and]
  rw [hfin]
  clear hfin i0 i1 i2 i3 j0 j1 j2 j3 l0 l1 l2 l3 r0 r1 r2 r3 hpA hpB
  generalize decide (m0 = q0) = x0 at *
  generalize decide (m1 = q1) = x1 at *
  generalize decide (m2 = q2) = x2 at *
  generalize decide (m3 = q3) = x3 at *
  have y0 := idx4_0 (.slice a0 3 c0) (.slice a1 4 c1) (.slice a2 2 c2) (.slice a3 6 c3)
  have y1 := idx4_1 (.slice a0 3 c0) (.slice a1 4 c1) (.slice a2 2 c2) (.slice a3 6 c3)
  have y2 := idx4_2 (.slice a0 3 c0) (.slice a1 4 c1) (.slice a2 2 c2) (.slice a3 6 c3)
  have y3 := idx4_3 (.slice a0 3 c0) (.slice a1 4 c1) (.slice a2 2 c2) (.slice a3 6 c3)
  go_enter Tryz.func14, Tryz.ntmps14
  go_wp2_with fail
  refine (kA _ (hMA _ bw) (hV.below bw)).mono ?_
  rintro e w1 ⟨rfl, hb⟩
  replace bw := bel_trans bw hb
  replace pA := pA.below hb
  replace pB := pB.below hb
  have g0 := pB.cell 0
  have g1 := pB.cell 1
  have g2 := pB.cell 2
  have g3 := pB.cell 3
  simp at g0 g1 g2 g3
  clear hb kA
  go_wp2_with fail
  refine (kB _ (hMB _ bw) (hV.below bw)).mono ?_
  rintro e w2 ⟨rfl, hb⟩
  replace bw := bel_trans bw hb
  replace pA := pA.below hb
  replace pB := pB.below hb
  replace g0 := cells_kept hb _ _ g0
  replace g1 := cells_kept hb _ _ g1
  replace g2 := cells_kept hb _ _ g2
  replace g3 := cells_kept hb _ _ g3
  clear hb kB hMA hMB hV
  go_wp2_with fail
  refine (kLB _).mono ?_
  rintro e w3 ⟨rfl, hb⟩
  replace bw := bel_trans bw hb
  replace pA := pA.below hb
  clear hb kLB g0 g1 g2 g3 pB
  have hb4 : Below w3.heap.size w3 (w3.alloc (.cells #[.slice b0 3 d0, .slice b1 4 d1, .slice b2 2 d2, .slice b3 6 d3] 82)) := by go_grown
  have pC := Blk.new w3 82 [.slice b0 3 d0, .slice b1 4 d1, .slice b2 2 d2, .slice b3 6 d3]
  replace bw := bel_trans bw hb4
  replace pA := pA.below hb4
  clear hb4
  have g0 := pA.cell 0
  have g1 := pA.cell 1
  have g2 := pA.cell 2
  have g3 := pA.cell 3
  simp at g0 g1 g2 g3
  go_wp2_with fail
  generalize (w3.alloc (.cells #[.slice b0 3 d0, .slice b1 4 d1, .slice b2 2 d2, .slice b3 6 d3] 82)) = w4 at *
  generalize w3.heap.size = gC at *
  refine (kLA _).mono ?_
  rintro e w5 ⟨rfl, hb⟩
  replace bw := bel_trans bw hb
  replace pC := pC.below hb
  clear hb kLA g0 g1 g2 g3 pA
  have g0 := pC.cell 0
  simp at g0
  go_wp2_with fail
  refine wp_loop_rounds 5 ?_
  rw [rounds_succ]
  go_wp2_with fail
  refine (z0 _ bw).mono ?_
  rintro e w6 ⟨rfl, hb⟩
  replace bw := bel_trans bw hb
  replace pC := pC.below hb
  clear hb g0 z0
  cases x0
  · go_wp2
    go_ret
    exact ⟨rfl, bw⟩
  have g0 := pC.cell 1
  simp at g0
  go_wp2_with fail
  rw [rounds_succ]
  go_wp2_with fail
  refine (z1 _ bw).mono ?_
  rintro e w7 ⟨rfl, hb⟩
  replace bw := bel_trans bw hb
  replace pC := pC.below hb
  clear hb g0 z1
  cases x1
  · go_wp2
    go_ret
    exact ⟨rfl, bw⟩
  have g0 := pC.cell 2
  simp at g0
  go_wp2_with fail
  rw [rounds_succ]
  go_wp2_with fail
  refine (z2 _ bw).mono ?_
  rintro e w8 ⟨rfl, hb⟩
  replace bw := bel_trans bw hb
  replace pC := pC.below hb
  clear hb g0 z2
  cases x2
  · go_wp2
    go_ret
    exact ⟨rfl, bw⟩
  have g0 := pC.cell 3
  simp at g0
  go_wp2_with fail
  rw [rounds_succ]
  go_wp2_with fail
  refine (z3 _ bw).mono ?_
  rintro e w9 ⟨rfl, hb⟩
  replace bw := bel_trans bw hb
  clear hb g0 z3
  cases x3
  · go_wp2
    go_ret
    exact ⟨rfl, bw⟩
  go_wp2_with fail
  rw [rounds_succ]
  go_wp2
  go_ret
  exact ⟨rfl, bw⟩
end Go.Proofs.YtmhngodbnoonhaaGreatDoor
