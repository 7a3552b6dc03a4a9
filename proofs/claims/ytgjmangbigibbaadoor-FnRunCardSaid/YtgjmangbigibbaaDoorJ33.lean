/-
  FnRun, part 33 of 50 (MrgB).
-/
import Derived.Test.YtgjmangbigibbaaDoorJ32

/-
  The specification's l04Merge, l04All, MergeBugs; the program's bugsOK.
-/
namespace Go.Proofs.YtgjmangbigibbaaDoor
open Go.RowKit
set_option linter.unusedVariables false
set_option linter.unusedSimpArgs false

def okBs (xs : List I3) : Bool := xs.all okB
/-- What MergeBugs answers, of whatever lists. -/
def mergeZ (xs ys : List I3) : List I3 := if 4096 < xs.length ∨ 4096 < ys.length then [] else if okBs xs && okBs ys then mergeB xs ys else []
def mergeC (xs ys : List I3) : Int := if 4096 < xs.length ∨ 4096 < ys.length then 2 else if okBs xs && okBs ys then 0 else 1
/-- Bugs of one's own are handed back, and a code. -/
def BugsGot (e : Ending) (w : World) (B : Nat) (zs : List I3) (c : Int) : Prop := ∃ v, e = .returned (.tuple #[v, .int .i64 c]) ∧ w.ownsRow B 40 3 v zs.length (flat zs)
def BugsOne (e : Ending) (w : World) (B : Nat) (zs : List I3) : Prop := ∃ v, e = .returned v ∧ w.ownsRow B 40 3 v zs.length (flat zs)
theorem fits_put {zs : List I3} {x : I3} (h : ∀ z ∈ zs, I3.fits z) (hx : I3.fits x) : ∀ z ∈ putB zs x, I3.fits z := fun z hz => by
  rcases mem_putB.1 hz with e | e
  · exact h z e
  · rw [e]; exact hx
theorem fits_merge {xs ys : List I3} (h : ∀ z ∈ xs, I3.fits z) (k : ∀ z ∈ ys, I3.fits z) : ∀ z ∈ mergeB xs ys, I3.fits z := fun z hz => by
  rcases mem_mergeB.1 hz with e | e
  · exact h z e
  · exact k z e
theorem fits_putAll {xs ys : List I3} (h : ∀ z ∈ xs, I3.fits z) (k : ∀ z ∈ ys, I3.fits z) : ∀ z ∈ putAll xs ys, I3.fits z := fun z hz => by
  rcases mem_putAll.1 hz with e | e
  · exact h z e
  · exact k z e
theorem putAll_snoc (out xs : List I3) {k : Nat} (hk : k < xs.length) : putAll out (xs.take (k + 1)) = putB (putAll out (xs.take k)) (xs.getD k (0, 0, 0)) := by
  unfold putAll
  rw [List.take_add_one, List.foldl_append, List.getElem?_eq_getElem hk]
  simp [List.getD, List.getElem?_eq_getElem hk]
theorem getD_memB {xs : List I3} {k : Nat} (hk : k < xs.length) : xs.getD k (0, 0, 0) ∈ xs := by
  rw [List.getD, List.getElem?_eq_getElem hk, Option.getD_some]
  exact List.getElem_mem hk
/-- A row of bugs of one's own, on the way. -/
def Under (w wr : World) (v : Value) (zs : List I3) : Prop := (∃ g c, v = .slice (some ⟨g, 0, none⟩) zs.length c) ∧ wr.ownsRow w.heap.size 40 3 v zs.length (flat zs) ∧ (∀ z ∈ zs, I3.fits z) ∧ zs.length ≤ 1000000


set_option maxHeartbeats 4000000 in
set_option maxRecDepth 100000 in
theorem l04Merge_is (a0 : Option Addr) (n0 c0 : Nat) (xs : List I3) (a1 : Option Addr) (n1 c1 : Nat) (ys : List I3) (w : World) (h0 : Instrs w a0 n0 c0 xs) (h1 : Instrs w a1 n1 c1 ys) (m0 : n0 ≤ 400000) (m1 : n1 ≤ 400000) :
    Calls Tryd.prog 103 #[.slice a0 n0 c0, .slice a1 n1 c1] w fun e w' => BugsOne e w' w.heap.size (mergeB xs ys) ∧ Below w.heap.size w w' := by
  have l0 := h0.1
  have l1 := h1.1
  have f0 := h0.2.2.2.1
  have f1 := h1.2.2.2.1
  have q0 : Under w (w.alloc (.cells #[] 40)) (.slice (some ⟨w.heap.size, 0, none⟩) 0 0) [] := ⟨⟨_, _, rfl⟩, own_emptyB w 40 3 w.heap.size (Nat.le_refl _), by simp, by simp⟩
  have bw0 : Below w.heap.size w (w.alloc (.cells #[] 40)) := by go_grown
  go_enter Tryd.func103, Tryd.ntmps103
  go_wp2_with fail
  generalize w.alloc (.cells #[] 40) = W0 at *
  go_loopw [5, 6] (fun so si wr => ∃ (k : Nat) (v : Value), v = so ∧ k ≤ n0 ∧ si = .int .i64 k ∧ Under w wr v (putAll [] (xs.take k)) ∧ Below w.heap.size w wr) (fun _ si _ => n0 - (intOf si).toNat)
  case atStart => exact ⟨0, _, rfl, by omega, rfl, q0, bw0⟩
  case round =>
    clear q0 bw0
    obtain ⟨k, so, rfl, hk, rfl, ⟨⟨g, c, rfl⟩, hq, hf, hz⟩, bw⟩ := hrel
    by_cases hlt : k < n0
    · obtain ⟨zs, hzs⟩ : ∃ zs, zs = putAll [] (xs.take k) := ⟨_, rfl⟩
      rw [← hzs] at hq hf hz
      try rw [← hzs]
      have hZ := Instrs.of_owns hq rfl hf rfl
      obtain ⟨_, _, _, _, hcase⟩ := h0.below bw
      rcases hcase with e0 | ⟨b, off, rfl, hb, hc⟩
      · omega
      obtain ⟨d0, d1, d2⟩ := hc k hlt
      clear hc hb
      obtain ⟨x, hx⟩ : ∃ x, x = xs.getD k (0, 0, 0) := ⟨_, rfl⟩
      have hfx : I3.fits x := by rw [hx]; exact f0 _ (getD_memB (by omega))
      have hnew : putB zs x = putAll [] (xs.take (k + 1)) := by rw [hzs, hx]; exact (putAll_snoc [] xs (by omega)).symm
      rw [← hx] at d0 d1 d2
      have HN : Hid (putB zs x = putAll [] (xs.take (k + 1))) := hnew
      have hzl : zs.length ≤ k := by rw [hzs]; have := putAll_len (xs.take k) []; simp at this; omega
      clear hx hnew hzs
      have kP := l04Put_is g 0 zs.length c zs x wr hZ (by omega)
      have hpl := putB_len zs x
      have hpf := fits_put hf hfx
      have hp0 : 0 < (putB zs x).length := List.length_pos_of_mem (mem_putB.2 (.inr rfl))
      generalize zs.length = m at *
      obtain ⟨x0, x1, x2⟩ := x
      unfold I3.val at kP
      simp only at d0 d1 d2 kP
      clear hZ hq
      have hlt' : (k : Int) < (n0 : Int) := by omega
      have hk0 : (0 : Int) ≤ (k : Int) := by omega
      go_wp2_with fail
      refine kP.mono ?_
      rintro e w1 ⟨⟨v1, rfl, hq1⟩, hb1⟩
      clear kP d0 d1 d2
      have bw1 := bel_trans bw hb1
      obtain ⟨g1, e1, rfl⟩ := own_someB hq1 hp0
      have hU : Under w w1 (.slice (some ⟨g1, 0, none⟩) (putB zs (x0, x1, x2)).length e1) (putAll [] (xs.take (k + 1))) := by
        rw [← HN.out]
        exact ⟨⟨_, _, rfl⟩, own_lowerB hq1 bw.size, hpf, by omega⟩
      generalize (putB zs (x0, x1, x2)).length = m1 at *
      clear hq1 hpf
      go_wp2
      go_roundw
      case rel => exact ⟨k + 1, _, rfl, by omega, by go_num, hU, bw1⟩
      case measure => simp [intOf]; omega
    · obtain rfl : k = n0 := by omega
      have hU : Under w wr (.slice (some ⟨g, 0, none⟩) (putAll [] (xs.take k)).length c) (putAll (putAll [] xs) (ys.take 0)) := by
        have e : xs.take k = xs := List.take_of_length_le (by omega)
        rw [e] at hq hf hz ⊢
        exact ⟨⟨_, _, rfl⟩, hq, hf, hz⟩
      have hal : (putAll [] xs).length ≤ k := by have := putAll_len xs []; simp at this; omega
      have haf : ∀ z ∈ putAll [] xs, I3.fits z := fits_putAll (by simp) f0
      generalize (putAll [] (xs.take k)).length = m at *
      clear hq hf hz h0
      go_wp2_with fail
      go_loopw [5, 7] (fun so si wr => ∃ (j : Nat) (v : Value), v = so ∧ j ≤ n1 ∧ si = .int .i64 j ∧ Under w wr v (putAll (putAll [] xs) (ys.take j)) ∧ Below w.heap.size w wr) (fun _ si _ => n1 - (intOf si).toNat)
      case atStart => exact ⟨0, _, rfl, by omega, rfl, hU, bw⟩
      case round =>
        clear hU bw
        obtain ⟨j, so, rfl, hj, rfl, ⟨⟨g, c, rfl⟩, hq, hf, hz⟩, bw⟩ := hrel
        by_cases hltj : j < n1
        · obtain ⟨zs, hzs⟩ : ∃ zs, zs = putAll (putAll [] xs) (ys.take j) := ⟨_, rfl⟩
          rw [← hzs] at hq hf hz
          try rw [← hzs]
          have hZ := Instrs.of_owns hq rfl hf rfl
          obtain ⟨_, _, _, _, hcase⟩ := h1.below bw
          rcases hcase with e0 | ⟨b, off, rfl, hb, hc⟩
          · omega
          obtain ⟨d0, d1, d2⟩ := hc j hltj
          clear hc hb
          obtain ⟨x, hx⟩ : ∃ x, x = ys.getD j (0, 0, 0) := ⟨_, rfl⟩
          have hfx : I3.fits x := by rw [hx]; exact f1 _ (getD_memB (by omega))
          have hnew : putB zs x = putAll (putAll [] xs) (ys.take (j + 1)) := by rw [hzs, hx]; exact (putAll_snoc _ ys (by omega)).symm
          rw [← hx] at d0 d1 d2
          have HN : Hid (putB zs x = putAll (putAll [] xs) (ys.take (j + 1))) := hnew
          have hzl : zs.length ≤ k + j := by rw [hzs]; have := putAll_len (ys.take j) (putAll [] xs); simp at this; omega
          clear hx hnew hzs
          have kP := l04Put_is g 0 zs.length c zs x _ hZ (by omega)
          have hpl := putB_len zs x
          have hpf := fits_put hf hfx
          have hp0 : 0 < (putB zs x).length := List.length_pos_of_mem (mem_putB.2 (.inr rfl))
          generalize zs.length = mm at *
          obtain ⟨x0, x1, x2⟩ := x
          unfold I3.val at kP
          simp only at d0 d1 d2 kP
          clear hZ hq
          have hlt' : (j : Int) < (n1 : Int) := by omega
          have hk0 : (0 : Int) ≤ (j : Int) := by omega
          go_wp2_with fail
          refine kP.mono ?_
          rintro e w1 ⟨⟨v1, rfl, hq1⟩, hb1⟩
          clear kP d0 d1 d2
          have bw1 := bel_trans bw hb1
          obtain ⟨g1, e1, rfl⟩ := own_someB hq1 hp0
          have hU : Under w w1 (.slice (some ⟨g1, 0, none⟩) (putB zs (x0, x1, x2)).length e1) (putAll (putAll [] xs) (ys.take (j + 1))) := by
            rw [← HN.out]
            exact ⟨⟨_, _, rfl⟩, own_lowerB hq1 bw.size, hpf, by omega⟩
          generalize (putB zs (x0, x1, x2)).length = m1 at *
          clear hq1 hpf
          go_wp2
          go_roundw
          case rel => exact ⟨j + 1, _, rfl, by omega, by go_num, hU, bw1⟩
          case measure => simp [intOf]; omega
        · obtain rfl : j = n1 := by omega
          have e : ys.take j = ys := List.take_of_length_le (by omega)
          rw [e] at hq hf hz
          try rw [e]
          obtain ⟨mm, hmm⟩ : ∃ mm, mm = (putAll (putAll [] xs) ys).length := ⟨_, rfl⟩
          rw [← hmm]
          have HQ : Hid (∀ e, e = .returned (.slice (some ⟨g, 0, none⟩) mm c) → BugsOne e wr w.heap.size (mergeB xs ys)) := fun e he => ⟨_, he, by rw [hmm]; exact hq⟩
          clear hq hmm hz
          go_wp2
          go_ret
          exact ⟨HQ.out _ rfl, bw⟩


theorem okBs_step {xs : List I3} {k : Nat} (hk : k < xs.length) : okBs (xs.drop k) = (okB (xs.getD k (0, 0, 0)) && okBs (xs.drop (k + 1))) := by
  unfold okBs
  rw [List.drop_eq_getElem_cons hk, List.all_cons, List.getD, List.getElem?_eq_getElem hk, Option.getD_some]
end Go.Proofs.YtgjmangbigibbaaDoor
