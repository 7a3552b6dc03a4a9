/-
  FnBugs, part 46 of 50 (SortL, CmpB).
-/
import Derived.Shelf.SlSortCmp.NoneTotal
import Derived.Test.YtkmnnmgopnoffaaDoorProg
import Derived.Test.YtkmnnmgopnoffaaDoorJ28
import Derived.Test.YtkmnnmgopnoffaaDoorJ09
import Derived.Deep.RegionHeld3

/-
  slices.SortFunc at bugs: the library's contract laid at this program in plain words (the table of numbers, a field a fact).
-/
namespace Go.Proofs.YtkmnnmgopnoffaaDoor
open Go.RowKit Go.Shelf

def sortBug_ren : Go.Shelf.Ren := ⟨fun | 6 => 118 | 15 => 149 | 14 => 148 | 28 => 170 | 29 => 171 | 20 => 162 | 21 => 163 | 22 => 164 | 23 => 165 | 24 => 166 | 25 => 167 | 26 => 168 | 27 => 169 | 46 => 179 | 47 => 180 | 48 => 181 | 49 => 182 | 50 => 183 | 57 => 193 | n => n, fun | 22 => 47 | 24 => 54 | 25 => 151 | 3 => 3 | 39 => 182 | 0 => 0 | 53 => 204 | 55 => 206 | 4 => 4 | 46 => 198 | 45 => 197 | 50 => 175 | 5 => 5 | 9 => 9 | 66 => 217 | 70 => 221 | 76 => 227 | 77 => 228 | n => n, fun | n => n⟩
theorem sortBug : Go.Proofs.SlLaysF0.n6 Tryd.prog sortBug_ren := {
  mixed := by kernel_rfl
  f6 := ⟨Tryd.f118.name, by decide, Tryd.func118.trans (congrArg some (by kernel_rfl))⟩
  f14 := ⟨Tryd.f148.name, by decide, Tryd.func148.trans (congrArg some (by kernel_rfl))⟩
  f15 := Tryd.func149.trans (congrArg some (by kernel_rfl))
  f20 := ⟨Tryd.f162.name, by decide, Tryd.func162.trans (congrArg some (by kernel_rfl))⟩
  f21 := ⟨Tryd.f163.name, by decide, Tryd.func163.trans (congrArg some (by kernel_rfl))⟩
  f22 := ⟨Tryd.f164.name, by decide, Tryd.func164.trans (congrArg some (by kernel_rfl))⟩
  f23 := ⟨Tryd.f165.name, by decide, Tryd.func165.trans (congrArg some (by kernel_rfl))⟩
  f24 := ⟨Tryd.f166.name, by decide, Tryd.func166.trans (congrArg some (by kernel_rfl))⟩
  f25 := ⟨Tryd.f167.name, by decide, Tryd.func167.trans (congrArg some (by kernel_rfl))⟩
  f26 := ⟨Tryd.f168.name, by decide, Tryd.func168.trans (congrArg some (by kernel_rfl))⟩
  f27 := ⟨Tryd.f169.name, by decide, Tryd.func169.trans (congrArg some (by kernel_rfl))⟩
  f28 := Tryd.func170.trans (congrArg some (by kernel_rfl))
  f29 := Tryd.func171.trans (congrArg some (by kernel_rfl))
  f46 := ⟨Tryd.f179.name, by decide, Tryd.func179.trans (congrArg some (by kernel_rfl))⟩
  f47 := Tryd.func180.trans (congrArg some (by kernel_rfl))
  f48 := Tryd.func181.trans (congrArg some (by kernel_rfl))
  f49 := ⟨Tryd.f182.name, by decide, Tryd.func182.trans (congrArg some (by kernel_rfl))⟩
  f50 := ⟨Tryd.f183.name, by decide, Tryd.func183.trans (congrArg some (by kernel_rfl))⟩
  f57 := ⟨Tryd.f193.name, by decide, Tryd.func193.trans (congrArg some (by kernel_rfl))⟩
  t0 := Tryd.underlying0
  a0 := Tryd.isAgg0
  z0 := Tryd.sizeOf0
  v0 := Tryd.zeroValue0
  t3 := Tryd.underlying3
  a3 := Tryd.isAgg3
  z3 := Tryd.sizeOf3
  v3 := Tryd.zeroValue3
  t4 := Tryd.underlying4
  a4 := Tryd.isAgg4
  z4 := Tryd.sizeOf4
  v4 := Tryd.zeroValue4
  t5 := Tryd.underlying5
  a5 := Tryd.isAgg5
  z5 := Tryd.sizeOf5
  v5 := Tryd.zeroValue5
  t9 := Tryd.underlying9
  a9 := Tryd.isAgg9
  z9 := Tryd.sizeOf9
  v9 := Tryd.zeroValue9
  t22 := Tryd.underlying47
  a22 := Tryd.isAgg47
  z22 := Tryd.sizeOf47
  v22 := Tryd.zeroValue47
  t25 := Tryd.underlying151
  a25 := Tryd.isAgg151
  z25 := Tryd.sizeOf151
  v25 := Tryd.zeroValue151
  t39 := Tryd.underlying182
  a39 := Tryd.isAgg182
  z39 := Tryd.sizeOf182
  v39 := Tryd.zeroValue182
  t45 := Tryd.underlying197
  a45 := Tryd.isAgg197
  z45 := Tryd.sizeOf197
  v45 := Tryd.zeroValue197
  t46 := Tryd.underlying198
  a46 := Tryd.isAgg198
  z46 := Tryd.sizeOf198
  v46 := Tryd.zeroValue198
  t50 := Tryd.underlying175
  a50 := Tryd.isAgg175
  z50 := Tryd.sizeOf175
  v50 := Tryd.zeroValue175
  t53 := Tryd.underlying204
  a53 := Tryd.isAgg204
  z53 := Tryd.sizeOf204
  v53 := Tryd.zeroValue204
  t55 := Tryd.underlying206
  a55 := Tryd.isAgg206
  z55 := Tryd.sizeOf206
  v55 := Tryd.zeroValue206
  t66 := Tryd.underlying217
  a66 := Tryd.isAgg217
  z66 := Tryd.sizeOf217
  v66 := Tryd.zeroValue217
  t70 := Tryd.underlying221
  a70 := Tryd.isAgg221
  z70 := Tryd.sizeOf221
  v70 := Tryd.zeroValue221
  t76 := Tryd.underlying227
  a76 := Tryd.isAgg227
  z76 := Tryd.sizeOf227
  v76 := Tryd.zeroValue227
  t77 := Tryd.underlying228
  a77 := Tryd.isAgg228
  z77 := Tryd.sizeOf228
  v77 := Tryd.zeroValue228 }

end Go.Proofs.YtkmnnmgopnoffaaDoor


/-
  The program's order of bugs: cmp.Compare, cmp.Or, compareBugs; it is the same order as the plain one.
-/
namespace Go.Proofs.YtkmnnmgopnoffaaDoor
open Go.RowKit Go.Sort
set_option linter.unusedVariables false
set_option linter.unusedSimpArgs false

def cmpI (a b : Int) : Int := if a < b then -1 else if b < a then 1 else 0
def orI (a b c : Int) : Int := if a ≠ 0 then a else if b ≠ 0 then b else c
def cmpB (x y : I3) : Int := orI (cmpI x.1 y.1) (cmpI x.2.1 y.2.1) (cmpI x.2.2 y.2.2)
theorem cmpB_lt (x y : I3) : ltOf cmpB x y = ltB x y := by
  unfold ltOf cmpB orI cmpI ltB
  by_cases a1 : x.1 < y.1
  · simp [a1]
  by_cases a2 : y.1 < x.1
  · have : ¬ (x.1 = y.1) := by omega
    simp [a1, a2, this]
  have a3 : x.1 = y.1 := by omega
  by_cases b1 : x.2.1 < y.2.1
  · simp [a3, b1]
  by_cases b2 : y.2.1 < x.2.1
  · have : ¬ (x.2.1 = y.2.1) := by omega
    simp [a3, b1, b2, this]
  have b3 : x.2.1 = y.2.1 := by omega
  by_cases c1 : x.2.2 < y.2.2
  · simp [a3, b3, c1]
  by_cases c2 : y.2.2 < x.2.2
  · simp [a3, b3, c1, c2]
  · simp [a3, b3, c1, c2]
theorem cmpB_swo : SWO (ltOf cmpB) where
  irrefl x := by rw [cmpB_lt]; exact ltB_irrefl x
  trans x y z h1 h2 := by rw [cmpB_lt] at *; exact ltB_trans h1 h2
  ntrans x y z h1 h2 := by
    rw [cmpB_lt] at *
    cases h : ltB x z
    · rfl
    · cases k : ltB y x
      · have := ltB_total h1 k
        subst this
        rw [h] at h2
        cases h2
      · have := ltB_trans k h
        rw [this] at h2
        cases h2
theorem cmpB_total (x y : I3) (h : ltOf cmpB x y = false) (k : ltOf cmpB y x = false) : x = y := by
  rw [cmpB_lt] at h k
  exact ltB_total h k

set_option maxHeartbeats 1000000 in
theorem cmpCompare_is (a b : Int) (w : World) : Calls Tryd.prog 151 #[.int .i64 a, .int .i64 b] w fun e w' => e = .returned (.int .i64 (cmpI a b)) ∧ w = w' := by
  have ha : (a != a) = false := by simp
  have hb : (b != b) = false := by simp
  unfold cmpI
  by_cases h1 : a < b
  · rw [if_pos h1]
    go_enter Tryd.func151, Tryd.ntmps151
    go_wp2
    go_ret
    exact ⟨rfl, rfl⟩
  · rw [if_neg h1]
    by_cases h2 : b < a
    · rw [if_pos h2]
      go_enter Tryd.func151, Tryd.ntmps151
      go_wp2
      go_ret
      exact ⟨rfl, rfl⟩
    · rw [if_neg h2]
      go_enter Tryd.func151, Tryd.ntmps151
      go_wp2
      go_ret
      exact ⟨rfl, rfl⟩

set_option maxHeartbeats 2000000 in
theorem cmpOr_is (g : Nat) (a b c : Int) (w : World) (h0 : w.cell? ⟨g, 0, none⟩ = some (.int .i64 a)) (h1 : w.cell? ⟨g, 1, none⟩ = some (.int .i64 b)) (h2 : w.cell? ⟨g, 2, none⟩ = some (.int .i64 c)) :
    Calls Tryd.prog 150 #[.slice (some ⟨g, 0, none⟩) 3 3] w fun e w' => e = .returned (.int .i64 (orI a b c)) ∧ w = w' := by
  unfold orI
  by_cases ha : a = 0
  · subst ha
    simp only [ne_eq, not_true_eq_false, if_false]
    by_cases hb : b = 0
    · subst hb
      simp only [ne_eq, not_true_eq_false, if_false]
      by_cases hc : c = 0
      · subst hc
        go_enter Tryd.func150, Tryd.ntmps150
        go_wp2
        refine wp_loop_rounds 4 ?_
        rw [rounds_succ]
        go_wp2
        rw [rounds_succ]
        go_wp2
        rw [rounds_succ]
        go_wp2
        rw [rounds_succ]
        go_wp2
        go_ret
        exact ⟨rfl, rfl⟩
      · go_enter Tryd.func150, Tryd.ntmps150
        go_wp2
        refine wp_loop_rounds 3 ?_
        rw [rounds_succ]
        go_wp2
        rw [rounds_succ]
        go_wp2
        rw [rounds_succ]
        go_wp2
        go_ret
        exact ⟨rfl, rfl⟩
    · simp only [ne_eq, hb, not_false_eq_true, if_true]
      go_enter Tryd.func150, Tryd.ntmps150
      go_wp2
      refine wp_loop_rounds 2 ?_
      rw [rounds_succ]
      go_wp2
      rw [rounds_succ]
      go_wp2
      go_ret
      exact ⟨rfl, rfl⟩
  · simp only [ne_eq, ha, not_false_eq_true, if_true]
    go_enter Tryd.func150, Tryd.ntmps150
    go_wp2
    refine wp_loop_rounds 1 ?_
    rw [rounds_succ]
    go_wp2
    go_ret
    exact ⟨rfl, rfl⟩

set_option maxHeartbeats 4000000 in
set_option maxRecDepth 100000 in
theorem compareBugs_is (x y : I3) (w : World) :
    Calls Tryd.prog 119 #[.agg #[.int .i64 x.1, .int .i64 x.2.1, .int .i64 x.2.2], .agg #[.int .i64 y.1, .int .i64 y.2.1, .int .i64 y.2.2]] w fun e w' => e = .returned (.int .i64 (cmpB x y)) ∧ ∃ q os, w' = grow (w.drewN q) os := by
  obtain ⟨x0, x1, x2⟩ := x
  obtain ⟨y0, y1, y2⟩ := y
  unfold cmpB
  simp only
  have k0 := fun W => cmpCompare_is x0 y0 W
  have k1 := fun W => cmpCompare_is x1 y1 W
  have k2 := fun W => cmpCompare_is x2 y2 W
  generalize cmpI x0 y0 = p0 at *
  generalize cmpI x1 y1 = p1 at *
  generalize cmpI x2 y2 = p2 at *
  have HW : Hid (∃ q os, ((w.alloc (.cells #[.int .i64 x0, .int .i64 x1, .int .i64 x2] 54)).alloc (.cells #[.int .i64 y0, .int .i64 y1, .int .i64 y2] 54)).drew.alloc (.cells #[.int .i64 p0, .int .i64 p1, .int .i64 p2] 3) = grow (w.drewN q) os) := ⟨1, #[.cells #[.int .i64 x0, .int .i64 x1, .int .i64 x2] 54] ++ #[.cells #[.int .i64 y0, .int .i64 y1, .int .i64 y2] 54] ++ #[.cells #[.int .i64 p0, .int .i64 p1, .int .i64 p2] 3], by
    rw [alloc_eq_grow, alloc_eq_grow, alloc_eq_grow]
    simp only [grow, World.drew, World.drewN, Array.append_assoc]⟩
  have c0 : ((w.alloc (.cells #[.int .i64 x0, .int .i64 x1, .int .i64 x2] 54)).alloc (.cells #[.int .i64 y0, .int .i64 y1, .int .i64 y2] 54)).cell? ⟨w.heap.size, 0, none⟩ = some (.int .i64 x0) := by simp [go_sem]
  have c1 : ((w.alloc (.cells #[.int .i64 x0, .int .i64 x1, .int .i64 x2] 54)).alloc (.cells #[.int .i64 y0, .int .i64 y1, .int .i64 y2] 54)).cell? ⟨w.heap.size, 1, none⟩ = some (.int .i64 x1) := by simp [go_sem]
  have c2 : ((w.alloc (.cells #[.int .i64 x0, .int .i64 x1, .int .i64 x2] 54)).alloc (.cells #[.int .i64 y0, .int .i64 y1, .int .i64 y2] 54)).cell? ⟨w.heap.size, 2, none⟩ = some (.int .i64 x2) := by simp [go_sem]
  have e0 : ((w.alloc (.cells #[.int .i64 x0, .int .i64 x1, .int .i64 x2] 54)).alloc (.cells #[.int .i64 y0, .int .i64 y1, .int .i64 y2] 54)).cell? ⟨w.heap.size + 1, 0, none⟩ = some (.int .i64 y0) := by simp [go_sem]
  have e1 : ((w.alloc (.cells #[.int .i64 x0, .int .i64 x1, .int .i64 x2] 54)).alloc (.cells #[.int .i64 y0, .int .i64 y1, .int .i64 y2] 54)).cell? ⟨w.heap.size + 1, 1, none⟩ = some (.int .i64 y1) := by simp [go_sem]
  have e2 : ((w.alloc (.cells #[.int .i64 x0, .int .i64 x1, .int .i64 x2] 54)).alloc (.cells #[.int .i64 y0, .int .i64 y1, .int .i64 y2] 54)).cell? ⟨w.heap.size + 1, 2, none⟩ = some (.int .i64 y2) := by simp [go_sem]
  go_enter Tryd.func119, Tryd.ntmps119
  go_wp2_with fail
  generalize ((w.alloc (.cells #[.int .i64 x0, .int .i64 x1, .int .i64 x2] 54)).alloc (.cells #[.int .i64 y0, .int .i64 y1, .int .i64 y2] 54)) = W at *
  refine wp_region_held_drew (S := (fun w' => w'.cell? ⟨w.heap.size, 0, none⟩ = some (.int .i64 x0) ∧ w'.cell? ⟨w.heap.size, 1, none⟩ = some (.int .i64 x1) ∧ w'.cell? ⟨w.heap.size, 2, none⟩ = some (.int .i64 x2) ∧ w'.cell? ⟨w.heap.size + 1, 0, none⟩ = some (.int .i64 y0) ∧ w'.cell? ⟨w.heap.size + 1, 1, none⟩ = some (.int .i64 y1) ∧ w'.cell? ⟨w.heap.size + 1, 2, none⟩ = some (.int .i64 y2))) (by kernel_rfl) ⟨c0, c1, c2, e0, e1, e2⟩ (fun hS0 => ?_)
  refine wpAnyH_take (i := 0) (oi := { dst := some 5, op := _, type := _, pos := _, after := _, guard := _ }) (v := (.pointer (some ⟨w.heap.size, 0, none⟩))) rfl (by kernel_rfl) (by kernel_rfl) (by kernel_rfl) (fun _ _ _ h => h) (Or.inl ⟨by rfl, ?_⟩) (by assumption) ?_
  · (intro w' hSw; (try dsimp only at hSw); go_simp; try rfl)
  simp only [Act.put, List.setIfInBounds_toArray, List.set_cons_zero, List.set_cons_succ]
  refine wpAnyH_take (i := 1) (oi := { dst := some 6, op := _, type := _, pos := _, after := _, guard := _ }) (v := (.int .i64 x0)) rfl (by kernel_rfl) (by kernel_rfl) (by kernel_rfl) (fun _ _ _ h => h) (Or.inl ⟨by rfl, ?_⟩) (by assumption) ?_
  · (intro w' hSw; (try dsimp only at hSw); go_simp; try rfl)
  simp only [Act.put, List.setIfInBounds_toArray, List.set_cons_zero, List.set_cons_succ]
  refine wpAnyH_take (i := 2) (oi := { dst := some 7, op := _, type := _, pos := _, after := _, guard := _ }) (v := (.pointer (some ⟨w.heap.size + 1, 0, none⟩))) rfl (by kernel_rfl) (by kernel_rfl) (by kernel_rfl) (fun _ _ _ h => h) (Or.inl ⟨by rfl, ?_⟩) (by assumption) ?_
  · (intro w' hSw; (try dsimp only at hSw); go_simp; try rfl)
  simp only [Act.put, List.setIfInBounds_toArray, List.set_cons_zero, List.set_cons_succ]
  refine wpAnyH_take (i := 3) (oi := { dst := some 8, op := _, type := _, pos := _, after := _, guard := _ }) (v := (.int .i64 y0)) rfl (by kernel_rfl) (by kernel_rfl) (by kernel_rfl) (fun _ _ _ h => h) (Or.inl ⟨by rfl, ?_⟩) (by assumption) ?_
  · (intro w' hSw; (try dsimp only at hSw); go_simp; try rfl)
  simp only [Act.put, List.setIfInBounds_toArray, List.set_cons_zero, List.set_cons_succ]
  refine wpAnyH_take (i := 5) (oi := { dst := some 10, op := _, type := _, pos := _, after := _, guard := _ }) (v := (.pointer (some ⟨w.heap.size, 1, none⟩))) rfl (by kernel_rfl) (by kernel_rfl) (by kernel_rfl) (fun _ _ _ h => h) (Or.inl ⟨by rfl, ?_⟩) (by assumption) ?_
  · (intro w' hSw; (try dsimp only at hSw); go_simp; try rfl)
  simp only [Act.put, List.setIfInBounds_toArray, List.set_cons_zero, List.set_cons_succ]
  refine wpAnyH_take (i := 6) (oi := { dst := some 11, op := _, type := _, pos := _, after := _, guard := _ }) (v := (.int .i64 x1)) rfl (by kernel_rfl) (by kernel_rfl) (by kernel_rfl) (fun _ _ _ h => h) (Or.inl ⟨by rfl, ?_⟩) (by assumption) ?_
  · (intro w' hSw; (try dsimp only at hSw); go_simp; try rfl)
  simp only [Act.put, List.setIfInBounds_toArray, List.set_cons_zero, List.set_cons_succ]
  refine wpAnyH_take (i := 7) (oi := { dst := some 12, op := _, type := _, pos := _, after := _, guard := _ }) (v := (.pointer (some ⟨w.heap.size + 1, 1, none⟩))) rfl (by kernel_rfl) (by kernel_rfl) (by kernel_rfl) (fun _ _ _ h => h) (Or.inl ⟨by rfl, ?_⟩) (by assumption) ?_
  · (intro w' hSw; (try dsimp only at hSw); go_simp; try rfl)
  simp only [Act.put, List.setIfInBounds_toArray, List.set_cons_zero, List.set_cons_succ]
  refine wpAnyH_take (i := 8) (oi := { dst := some 13, op := _, type := _, pos := _, after := _, guard := _ }) (v := (.int .i64 y1)) rfl (by kernel_rfl) (by kernel_rfl) (by kernel_rfl) (fun _ _ _ h => h) (Or.inl ⟨by rfl, ?_⟩) (by assumption) ?_
  · (intro w' hSw; (try dsimp only at hSw); go_simp; try rfl)
  simp only [Act.put, List.setIfInBounds_toArray, List.set_cons_zero, List.set_cons_succ]
  refine wpAnyH_take (i := 10) (oi := { dst := some 15, op := _, type := _, pos := _, after := _, guard := _ }) (v := (.pointer (some ⟨w.heap.size, 2, none⟩))) rfl (by kernel_rfl) (by kernel_rfl) (by kernel_rfl) (fun _ _ _ h => h) (Or.inl ⟨by rfl, ?_⟩) (by assumption) ?_
  · (intro w' hSw; (try dsimp only at hSw); go_simp; try rfl)
  simp only [Act.put, List.setIfInBounds_toArray, List.set_cons_zero, List.set_cons_succ]
  refine wpAnyH_take (i := 11) (oi := { dst := some 16, op := _, type := _, pos := _, after := _, guard := _ }) (v := (.int .i64 x2)) rfl (by kernel_rfl) (by kernel_rfl) (by kernel_rfl) (fun _ _ _ h => h) (Or.inl ⟨by rfl, ?_⟩) (by assumption) ?_
  · (intro w' hSw; (try dsimp only at hSw); go_simp; try rfl)
  simp only [Act.put, List.setIfInBounds_toArray, List.set_cons_zero, List.set_cons_succ]
  refine wpAnyH_take (i := 12) (oi := { dst := some 17, op := _, type := _, pos := _, after := _, guard := _ }) (v := (.pointer (some ⟨w.heap.size + 1, 2, none⟩))) rfl (by kernel_rfl) (by kernel_rfl) (by kernel_rfl) (fun _ _ _ h => h) (Or.inl ⟨by rfl, ?_⟩) (by assumption) ?_
  · (intro w' hSw; (try dsimp only at hSw); go_simp; try rfl)
  simp only [Act.put, List.setIfInBounds_toArray, List.set_cons_zero, List.set_cons_succ]
  refine wpAnyH_take (i := 13) (oi := { dst := some 18, op := _, type := _, pos := _, after := _, guard := _ }) (v := (.int .i64 y2)) rfl (by kernel_rfl) (by kernel_rfl) (by kernel_rfl) (fun _ _ _ h => h) (Or.inl ⟨by rfl, ?_⟩) (by assumption) ?_
  · (intro w' hSw; (try dsimp only at hSw); go_simp; try rfl)
  simp only [Act.put, List.setIfInBounds_toArray, List.set_cons_zero, List.set_cons_succ]
  refine wpAnyH_ready (rs := [4]) (by kernel_rfl) (by simp) ?_
  refine AllReadyH.cons (o := { dst := some 9, op := _, type := _, pos := _, after := _, guard := _ }) rfl (fun K hK => ?_) AllReadyH.nil
  go_simp
  refine (k0 _).mono ?_
  rintro e w5 ⟨rfl, rfl⟩
  go_wp2_with fail
  refine hK.out _ _ ⟨c0, c1, c2, e0, e1, e2⟩ (fun hS1 => ?_)
  clear hK
  try simp only [Act.put, List.setIfInBounds_toArray, List.set_cons_zero, List.set_cons_succ]
  refine wpAnyH_ready (rs := [9]) (by kernel_rfl) (by simp) ?_
  refine AllReadyH.cons (o := { dst := some 14, op := _, type := _, pos := _, after := _, guard := _ }) rfl (fun K hK => ?_) AllReadyH.nil
  go_simp
  refine (k1 _).mono ?_
  rintro e w6 ⟨rfl, rfl⟩
  go_wp2_with fail
  refine hK.out _ _ ⟨c0, c1, c2, e0, e1, e2⟩ (fun hS2 => ?_)
  clear hK
  try simp only [Act.put, List.setIfInBounds_toArray, List.set_cons_zero, List.set_cons_succ]
  refine wpAnyH_ready (rs := [14]) (by kernel_rfl) (by simp) ?_
  refine AllReadyH.cons (o := { dst := some 19, op := _, type := _, pos := _, after := _, guard := _ }) rfl (fun K hK => ?_) AllReadyH.nil
  go_simp
  refine (k2 _).mono ?_
  rintro e w7 ⟨rfl, rfl⟩
  go_wp2_with fail
  refine hK.out _ _ ⟨c0, c1, c2, e0, e1, e2⟩ (fun hS3 => ?_)
  clear hK
  try simp only [Act.put, List.setIfInBounds_toArray, List.set_cons_zero, List.set_cons_succ]
  have f0 : (W.drew.alloc (.cells #[.int .i64 p0, .int .i64 p1, .int .i64 p2] 3)).cell? ⟨W.heap.size, 0, none⟩ = some (.int .i64 p0) := by simp [go_sem]
  have f1 : (W.drew.alloc (.cells #[.int .i64 p0, .int .i64 p1, .int .i64 p2] 3)).cell? ⟨W.heap.size, 1, none⟩ = some (.int .i64 p1) := by simp [go_sem]
  have f2 : (W.drew.alloc (.cells #[.int .i64 p0, .int .i64 p1, .int .i64 p2] 3)).cell? ⟨W.heap.size, 2, none⟩ = some (.int .i64 p2) := by simp [go_sem]
  have hal : Below W.heap.size W (W.drew.alloc (.cells #[.int .i64 p0, .int .i64 p1, .int .i64 p2] 3)) := by go_grown
  refine wpAnyH_ready (rs := [15]) (by kernel_rfl) (by simp) ?_
  refine AllReadyH.cons (o := { dst := some 20, op := _, type := _, pos := _, after := _, guard := _ }) rfl (fun K hK => ?_) AllReadyH.nil
  go_simp
  refine hK.out _ _ ⟨cells_kept hal _ _ c0, cells_kept hal _ _ c1, cells_kept hal _ _ c2, cells_kept hal _ _ e0, cells_kept hal _ _ e1, cells_kept hal _ _ e2⟩ (fun hSa => ?_)
  clear hK
  try simp only [Act.put, List.setIfInBounds_toArray, List.set_cons_zero, List.set_cons_succ]
  refine wpAnyH_ready (rs := [16]) (by kernel_rfl) (by simp) ?_
  refine AllReadyH.cons (o := { dst := some 21, op := _, type := _, pos := _, after := _, guard := _ }) rfl (fun K hK => ?_) AllReadyH.nil
  go_simp
  refine (cmpOr_is W.heap.size p0 p1 p2 _ f0 f1 f2).mono ?_
  rintro e w9 ⟨rfl, rfl⟩
  go_wp2_with fail
  refine hK.out _ _ hSa (fun hSb => ?_)
  clear hK
  try simp only [Act.put, List.setIfInBounds_toArray, List.set_cons_zero, List.set_cons_succ]
  refine wpAnyH_take (i := 17) (oi := { dst := some 4, op := _, type := _, pos := _, after := _, guard := _ }) (v := .int .i64 (orI p0 p1 p2)) rfl (by kernel_rfl) (by kernel_rfl) (by kernel_rfl) (fun _ _ _ h => h) (Or.inl ⟨by rfl, ?_⟩) (by assumption) ?_
  · (intro w' hSw; (try dsimp only at hSw); go_simp; try rfl)
  simp only [Act.put, List.setIfInBounds_toArray, List.set_cons_zero, List.set_cons_succ]
  refine wpAnyH_done (by kernel_rfl) ?_ _
  clear hSa hSb c0 c1 c2 e0 e1 e2 f0 f1 f2 k0 k1 k2
  go_wp2
  go_ret
  exact ⟨rfl, HW.out⟩
end Go.Proofs.YtkmnnmgopnoffaaDoor
