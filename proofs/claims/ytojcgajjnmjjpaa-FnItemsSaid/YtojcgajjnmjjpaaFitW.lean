
/-
  FnItems: items are read back from their numbers; merged they rise, each once.
-/
import Derived.Test.YtojcgajjnmjjpaaTchI
import Derived.Test.YtojcgajjnmjjpaaItsD
import Derived.Test.YtojcgajjnmjjpaaSameInts
import Derived.Test.YtojcgajjnmjjpaaRowBelow
namespace Go.Proofs.Ytojcgajjnmjjpaa
open Go.RowKit
set_option linter.unusedVariables false
set_option linter.unusedSimpArgs false

theorem sameI8 (a a' : Option Addr) (len cap cap' : Nat) (zs : List Int) (w : World) (h : Ints .i64 w a len cap zs) (h' : Ints .i64 w a' len cap' zs) :
    Calls Try.prog 11 #[.slice a len cap, .slice a' len cap'] w fun e w' => e = .returned (.bool true) ∧ Below w.heap.size w w' := by
  refine (sameInts_same a a' len cap cap' zs w h h').mono ?_
  rintro e w' ⟨rfl, d, rfl⟩
  exact ⟨rfl, ⟨rfl, rfl, rfl, Nat.le_refl _, fun _ _ => rfl⟩⟩
theorem tchV_sym (xs ys : List Int) : tchV xs ys = tchV ys xs := by
  have h : tchB xs ys = tchB ys xs := by
    unfold tchB
    rw [Bool.eq_iff_iff, List.any_eq_true, List.any_eq_true]
    constructor
    · rintro ⟨x, h1, h2⟩
      exact ⟨x, by simpa using h2, by simpa using h1⟩
    · rintro ⟨x, h1, h2⟩
      exact ⟨x, by simpa using h2, by simpa using h1⟩
  unfold tchV
  rw [h]
  cases decide (xs.length ≤ 4096) <;> cases decide (ys.length ≤ 4096) <;> rfl
theorem tchV_yes {xs ys : List Int} (h1 : xs.length ≤ 4096) (h2 : ys.length ≤ 4096) {x : Int} (h3 : x ∈ xs) (h4 : x ∈ ys) : tchV xs ys = true := by
  unfold tchV
  rw [show decide (xs.length ≤ 4096) = true by simpa using h1, show decide (ys.length ≤ 4096) = true by simpa using h2]
  simp only [Bool.true_and]
  unfold tchB
  rw [List.any_eq_true]
  exact ⟨x, h3, by simpa using h4⟩
theorem item_back {n : Int} (h : itOk n = true) : itemV (n / 8) (n % 8) = .tuple #[.int .i64 n, .int .i64 0] := by
  simp only [itOk, decide_eq_true_eq] at h
  rw [itemV_yes (inB8_true.2 (by omega)) (inB8_true.2 (by omega))]
  have e : 8 * (n / 8) + n % 8 = n := by omega
  rw [e]
theorem rises_get {xs : List Int} (h : xs.Pairwise (· < ·)) {i : Nat} (hi : i + 1 < xs.length) : xs.getD i 0 < xs.getD (i + 1) 0 := by
  have := List.pairwise_iff_getElem.1 h i (i + 1) (by omega) hi (by omega)
  simpa [List.getD, List.getElem?_eq_getElem hi, List.getElem?_eq_getElem (show i < xs.length by omega)] using this

set_option maxHeartbeats 4000000 in
set_option maxRecDepth 100000 in
theorem fnItems_walk (a0 : Option Addr) (len0 cap0 : Nat) (z0 : List Int) (a1 : Option Addr) (len1 cap1 : Nat) (z1 : List Int) (w : World) (h0 : IsRow .u8 w a0 len0 cap0 z0) (h1 : IsRow .u8 w a1 len1 cap1 z1) :
    Calls Try.prog 3 #[.slice a0 len0 cap0, .slice a1 len1 cap1] w fun e w' => e = .returned (.bool true) ∧ Below w.heap.size w w' := by
  have m0 := h0.len_le
  have m1 := h1.len_le
  unfold maxLen at m0 m1
  by_cases b0 : 1048576 < len0
  · clear h0 h1
    go_enter Try.func3, Try.ntmps3
    go_wp2
    go_ret
    exact ⟨rfl, Below.refl _ _⟩
  by_cases b1 : 1048576 < len1
  · clear h0 h1
    go_enter Try.func3, Try.ntmps3
    go_wp2
    go_ret
    exact ⟨rfl, Below.refl _ _⟩
  have n0 : len0 ≤ 1048576 := by omega
  have n1 : len1 ≤ 1048576 := by omega
  clear m0 m1 b0 b1
  have kA := itemsDrawn_any a0 len0 cap0 z0 w h0 n0
  have kB := fun W (hb : Below w.heap.size w W) => itemsDrawn_any a1 len1 cap1 z1 W (h1.below hb) n1
  clear h0 h1
  go_enter Try.func3, Try.ntmps3
  go_wp2_with fail
  refine kA.mono ?_
  rintro e w1 ⟨⟨va, xs, hlx, hox, rfl, qa⟩, hb⟩
  have bw := hb
  obtain ⟨aa, ca, rfl⟩ := slice8 qa
  have iA := ints8 qa
  clear kA hb qa
  go_wp2_with fail
  refine (kB _ bw).mono ?_
  rintro e w2 ⟨⟨vb, ys, hly, hoy, rfl, qb⟩, hb⟩
  replace bw := bel8 bw hb
  replace iA := iA.below hb
  obtain ⟨ab, cb, rfl⟩ := slice8 qb
  have iB := ints8 qb
  clear kB hb qb
  have aX : allIt xs = true := List.all_eq_true.2 hox
  have aY : allIt ys = true := List.all_eq_true.2 hoy
  have fX := allIt_wf aX
  have fY := allIt_wf aY
  have eC : mgC xs ys = 0 := mgC_ok (by omega) (by omega) (by rw [aX, aY]; rfl)
  have eZ : mgZ xs ys = mrgI (xs ++ ys) := mgZ_ok (by omega) (by omega) (by rw [aX, aY]; rfl)
  have kI := implMergeItems_is aa xs.length ca xs ab ys.length cb ys w2 iA iB (by omega) (by omega) fX fY
  have kS := fun W (hb : Below w2.heap.size w2 W) => specMergeItems_is aa xs.length ca xs ab ys.length cb ys W (iA.below hb) (iB.below hb) (by omega) (by omega) fX fY
  have hRise := mrgI_rises (xs ++ ys)
  have hMem := mrgI_mem (xs ++ ys)
  have hLen := mrgI_len (xs ++ ys)
  rw [eC, eZ] at kI kS
  generalize mrgI (xs ++ ys) = Z at *
  have aZ : ∀ z ∈ Z, itOk z = true := fun z hz => by
    rcases List.mem_append.1 ((hMem z).1 hz) with h | h
    · exact hox z h
    · exact hoy z h
  have fZ : wfs Z := fun z hz => itOk_wf (aZ z hz)
  have hLZ : Z.length ≤ 10 := by simp at hLen; omega
  have hTch : 0 < xs.length → tchV Z xs = true := fun h => by
    obtain ⟨x, hx⟩ := List.exists_mem_of_length_pos h
    exact tchV_yes (by omega) (by omega) ((hMem x).2 (List.mem_append_left _ hx)) hx
  have HTch : Hid (0 < xs.length → tchV Z xs = true) := hTch
  have HRise : Hid (Z.Pairwise (· < ·)) := hRise
  have HaZ : Hid (∀ z ∈ Z, itOk z = true) := aZ
  clear eC eZ aX aY hMem hLen hTch hRise aZ hox hoy
  go_wp2_with fail
  refine kI.mono ?_
  rintro e w3 ⟨⟨vx, rfl, qx⟩, hb⟩
  have kS' := kS _ hb
  replace bw := bel8 bw hb
  replace iA := iA.below hb
  replace iB := iB.below hb
  obtain ⟨ax, cx, rfl⟩ := slice8 qx
  have iX := ints8 qx
  clear kI hb qx kS
  go_wp2_with fail
  refine kS'.mono ?_
  rintro e w4 ⟨⟨vs, rfl, qs⟩, hb⟩
  replace bw := bel8 bw hb
  replace iA := iA.below hb
  replace iB := iB.below hb
  replace iX := iX.below hb
  obtain ⟨sx, cs, rfl⟩ := slice8 qs
  have iS := ints8 qs
  clear kS' hb qs
  have kSame := sameI8 ax sx Z.length cx cs Z w4 iX iS
  go_wp2_with fail
  refine kSame.mono ?_
  rintro e w5 ⟨rfl, hb⟩
  replace bw := bel8 bw hb
  replace iA := iA.below hb
  replace iB := iB.below hb
  replace iX := iX.below hb
  clear kSame hb iS
  have kItem := implItemOf_is 2 6
  rw [show itemV 2 6 = .tuple #[.int .i64 22, .int .i64 0] by kernel_rfl] at kItem
  have kT := fun W (hb : Below w5.heap.size w5 W) => implTouches_is ax Z.length cx Z aa xs.length ca xs W (iX.below hb) (iA.below hb) (by omega) (by omega) fZ fX
  have kU := fun W (hb : Below w5.heap.size w5 W) => implTouches_is aa xs.length ca xs ab ys.length cb ys W (iA.below hb) (iB.below hb) (by omega) (by omega) fX fY
  have kV := fun W (hb : Below w5.heap.size w5 W) => implTouches_is ab ys.length cb ys aa xs.length ca xs W (iB.below hb) (iA.below hb) (by omega) (by omega) fY fX
  rw [tchV_sym ys xs] at kV
  have hL : ∀ W : World, Below w5.heap.size w5 W → ∀ i, i < Z.length → ∃ b off, ax = some ⟨b, off, none⟩ ∧ (∀ j, j < Z.length → W.cell? ⟨b, off + j, none⟩ = some (.int .i64 (Z.getD j 0))) := fun W hb i hi => by
    obtain ⟨_, _, _, hcase⟩ := iX.below hb
    rcases hcase with e0 | ⟨b, off, rfl, hb9, hc⟩
    · omega
    · exact ⟨b, off, rfl, hc⟩
  have hcx : Z.length ≤ cx ∧ cx ≤ maxLen := ⟨iX.2.1, iX.2.2.1⟩
  clear iA iB iX fX fY fZ
  by_cases hpos : 0 < xs.length
  · have hp9 : (0 : Int) < (xs.length : Int) := by omega
    have kT' := kT _ (Below.refl _ _)
    rw [HTch.out hpos] at kT'
    clear kT HTch hpos
    go_wp2_with fail
    refine kT'.mono ?_
    rintro e w6 ⟨rfl, b6⟩
    clear kT'
    go_wp2_with fail
    go_loopw [11] (fun si wr => ∃ i : Nat, i ≤ Z.length ∧ si = .int .i64 i ∧ Below w5.heap.size w5 wr) (fun si _ => Z.length - (Go.RowKit.intOf si).toNat)
    case atStart => exact ⟨0, by omega, rfl, b6⟩
    case round =>
      clear b6
      obtain ⟨i, hi, rfl, b6⟩ := hrel
      by_cases hlt : i < Z.length
      · obtain ⟨b, off, rfl, hc⟩ := hL _ b6 i hlt
        have hcI := hc i hlt
        have hok := HaZ.out (Z.getD i 0) (by simp [List.getD, List.getElem?_eq_getElem hlt])
        have hlt' : (i : Int) < (Z.length : Int) := by omega
        have hk0 : (0 : Int) ≤ (i : Int) := by omega
        have hpre : ∀ j, i = j + 1 → wr.cell? ⟨b, off + j, none⟩ = some (.int .i64 (Z.getD j 0)) ∧ Z.getD j 0 < Z.getD i 0 := fun j hj => by
          subst hj
          exact ⟨hc j (by omega), rises_get HRise.out hlt⟩
        generalize Z.getD i 0 = x at hcI hok hpre
        have kAt := implItemAt_is x (in_wf8 (itOk_wf hok))
        have kOf := implItemOf_is (x / 8) (x % 8)
        rw [atV_yes hok] at kAt
        rw [item_back hok] at kOf
        have hxx : (x != x) = false := by simp
        clear hc hok
        generalize x / 8 = q at kAt kOf
        generalize x % 8 = r at kAt kOf
        go_wp2_with fail
        refine (kAt _).mono ?_
        rintro e w7 ⟨rfl, rfl⟩
        go_wp2_with fail
        refine (kOf _).mono ?_
        rintro e w7 ⟨rfl, rfl⟩
        clear kAt kOf
        cases i with
        | zero =>
          clear hpre
          have hcZ : wr.cell? ⟨b, off, none⟩ = some (.int .i64 x) := by simpa using hcI
          have hlz : (0 : Int) < (Z.length : Int) := by omega
          have hnz : decide ((0 : Int) < 0) = false := by simp
          go_wp2_with fail
          go_quiet (fail)
          have b7 := drew8 b6 nq
          generalize wr.drewN nq = w8 at *
          go_wp2
          go_roundw
          case rel => exact ⟨1, by omega, by go_num, b7⟩
          case measure => simp [Go.RowKit.intOf]; omega
        | succ j =>
          obtain ⟨hcJ, hlx⟩ := hpre j rfl
          generalize Z.getD j 0 = y at hcJ hlx
          have hj0 : (0 : Int) < ((j + 1 : Nat) : Int) := by omega
          have hwr : IntKind.i64.wrap (((j + 1 : Nat) : Int) - 1) = (j : Int) := by rw [IntKind.wrap_i64]; omega
          have hjl : (j : Int) < (Z.length : Int) := by omega
          have hj9 : (0 : Int) ≤ (j : Int) := by omega
          have hge : decide (x ≤ y) = false := by simp; omega
          clear hpre
          go_wp2_with fail
          go_quiet (fail)
          have b7 := drew8 b6 nq
          generalize wr.drewN nq = w8 at *
          go_wp2
          go_roundw
          case rel => exact ⟨j + 1 + 1, by omega, by go_num, b7⟩
          case measure => simp [Go.RowKit.intOf]; omega
      · obtain rfl : i = Z.length := by omega
        have kU' := kU _ b6
        clear kU hL
        generalize tchV xs ys = tt at kU' kV
        have htt : (tt == tt) = true := by simp
        go_wp2_with fail
        refine (kItem _).mono ?_
        rintro e w7 ⟨rfl, rfl⟩
        go_wp2_with fail
        refine kU'.mono ?_
        rintro e w7 ⟨rfl, hb7⟩
        have kV' := kV _ (bel8 b6 hb7)
        clear kU' kV
        go_wp2_with fail
        refine kV'.mono ?_
        rintro e w8 ⟨rfl, hb8⟩
        have bz := bel8 bw (bel8 (bel8 b6 hb7) hb8)
        clear hb7 hb8 kV'
        go_wp2
        go_ret
        exact ⟨rfl, bz⟩
  · have hp9 : xs.length = 0 := by omega
    have hp8 : decide ((0 : Int) < (xs.length : Int)) = false := decide_eq_false (by omega)
    have hp7 : ¬ (0 : Int) < (xs.length : Int) := by omega
    have b6 : Below w5.heap.size w5 w5 := Below.refl _ _
    clear kT HTch hpos hp9
    go_wp2_with fail
    go_loopw [11] (fun si wr => ∃ i : Nat, i ≤ Z.length ∧ si = .int .i64 i ∧ Below w5.heap.size w5 wr) (fun si _ => Z.length - (Go.RowKit.intOf si).toNat)
    case atStart => exact ⟨0, by omega, rfl, b6⟩
    case round =>
      clear b6
      obtain ⟨i, hi, rfl, b6⟩ := hrel
      by_cases hlt : i < Z.length
      · obtain ⟨b, off, rfl, hc⟩ := hL _ b6 i hlt
        have hcI := hc i hlt
        have hok := HaZ.out (Z.getD i 0) (by simp [List.getD, List.getElem?_eq_getElem hlt])
        have hlt' : (i : Int) < (Z.length : Int) := by omega
        have hk0 : (0 : Int) ≤ (i : Int) := by omega
        have hpre : ∀ j, i = j + 1 → wr.cell? ⟨b, off + j, none⟩ = some (.int .i64 (Z.getD j 0)) ∧ Z.getD j 0 < Z.getD i 0 := fun j hj => by
          subst hj
          exact ⟨hc j (by omega), rises_get HRise.out hlt⟩
        generalize Z.getD i 0 = x at hcI hok hpre
        have kAt := implItemAt_is x (in_wf8 (itOk_wf hok))
        have kOf := implItemOf_is (x / 8) (x % 8)
        rw [atV_yes hok] at kAt
        rw [item_back hok] at kOf
        have hxx : (x != x) = false := by simp
        clear hc hok
        generalize x / 8 = q at kAt kOf
        generalize x % 8 = r at kAt kOf
        go_wp2_with fail
        refine (kAt _).mono ?_
        rintro e w7 ⟨rfl, rfl⟩
        go_wp2_with fail
        refine (kOf _).mono ?_
        rintro e w7 ⟨rfl, rfl⟩
        clear kAt kOf
        cases i with
        | zero =>
          clear hpre
          have hcZ : wr.cell? ⟨b, off, none⟩ = some (.int .i64 x) := by simpa using hcI
          have hlz : (0 : Int) < (Z.length : Int) := by omega
          have hnz : decide ((0 : Int) < 0) = false := by simp
          go_wp2_with fail
          go_quiet (fail)
          have b7 := drew8 b6 nq
          generalize wr.drewN nq = w8 at *
          go_wp2
          go_roundw
          case rel => exact ⟨1, by omega, by go_num, b7⟩
          case measure => simp [Go.RowKit.intOf]; omega
        | succ j =>
          obtain ⟨hcJ, hlx⟩ := hpre j rfl
          generalize Z.getD j 0 = y at hcJ hlx
          have hj0 : (0 : Int) < ((j + 1 : Nat) : Int) := by omega
          have hwr : IntKind.i64.wrap (((j + 1 : Nat) : Int) - 1) = (j : Int) := by rw [IntKind.wrap_i64]; omega
          have hjl : (j : Int) < (Z.length : Int) := by omega
          have hj9 : (0 : Int) ≤ (j : Int) := by omega
          have hge : decide (x ≤ y) = false := by simp; omega
          clear hpre
          go_wp2_with fail
          go_quiet (fail)
          have b7 := drew8 b6 nq
          generalize wr.drewN nq = w8 at *
          go_wp2
          go_roundw
          case rel => exact ⟨j + 1 + 1, by omega, by go_num, b7⟩
          case measure => simp [Go.RowKit.intOf]; omega
      · obtain rfl : i = Z.length := by omega
        have kU' := kU _ b6
        clear kU hL
        generalize tchV xs ys = tt at kU' kV
        have htt : (tt == tt) = true := by simp
        go_wp2_with fail
        refine (kItem _).mono ?_
        rintro e w7 ⟨rfl, rfl⟩
        go_wp2_with fail
        refine kU'.mono ?_
        rintro e w7 ⟨rfl, hb7⟩
        have kV' := kV _ (bel8 b6 hb7)
        clear kU' kV
        go_wp2_with fail
        refine kV'.mono ?_
        rintro e w8 ⟨rfl, hb8⟩
        have bz := bel8 bw (bel8 (bel8 b6 hb7) hb8)
        clear hb7 hb8 kV'
        go_wp2
        go_ret
        exact ⟨rfl, bz⟩
end Go.Proofs.Ytojcgajjnmjjpaa
