/-
  FnBugs, part 35 of 50 (BugTxt).
-/
import Derived.Test.YtkmnnmgopnoffaaDoorJ27
import Derived.Test.YtkmnnmgopnoffaaDoorJ34
import Derived.Test.YtkmnnmgopnoffaaDoorJ15
import Derived.Test.YtkmnnmgopnoffaaDoorJ16
import Derived.Test.YtkmnnmgopnoffaaDoorJ09

/-
  Bugs' texts: both sides' BugText; the law's walk.
-/
namespace Go.Proofs.YtkmnnmgopnoffaaDoor
open Go.RowKit
set_option linter.unusedVariables false
set_option linter.unusedSimpArgs false

def txtB (k a b : Nat) : ByteArray := (((wordB k ++ ⟨#[32]⟩) ++ digT a) ++ ⟨#[32]⟩) ++ digT b
def dead : ByteArray := wordB 14
theorem wordB_size (k : Nat) (hk : k = 12 ∨ k = 13 ∨ k = 14) : (wordB k).size ≤ 8 := by rcases hk with rfl | rfl | rfl <;> decide
theorem txtB_parts (k a b : Nat) (hk : k = 12 ∨ k = 13) : (wordB k).size ≤ 8 ∧ (wordB k ++ ⟨#[32]⟩).size ≤ 9 ∧ ((wordB k ++ ⟨#[32]⟩) ++ digT a).size ≤ 10 ∧ (((wordB k ++ ⟨#[32]⟩) ++ digT a) ++ ⟨#[32]⟩).size ≤ 11 ∧ (txtB k a b).size ≤ 12 := by
  have h0 := wordB_size k (by omega)
  have h1 := digT_size a
  have h2 := digT_size b
  have h3 : (⟨#[32]⟩ : ByteArray).size = 1 := rfl
  unfold txtB
  simp only [ByteArray.size_append]
  omega
/-- A bug's text. -/
def textB (x : I3) : ByteArray := if okB x then (if x.1 = 14 then dead else txtB x.1.toNat x.2.1.toNat x.2.2.toNat) else ByteArray.empty
def codeB (x : I3) : Int := if okB x then 0 else 1
theorem okB_cases {x : I3} (h : okB x = true) : x = (14, 0, 0) ∨ ∃ k a b : Nat, (k = 12 ∨ k = 13) ∧ a < 3 ∧ b < 6 ∧ x = ((k : Int), (a : Int), (b : Int)) := by
  obtain ⟨c, a, b⟩ := x
  unfold okB at h
  simp only at h
  split at h
  · rename_i e
    simp at h
    exact .inl (by rw [e, h.1, h.2])
  · split at h
    · rename_i e
      simp [inB_true] at h
      refine .inr ⟨c.toNat, a.toNat, b.toNat, by omega, by omega, by omega, ?_⟩
      rw [Int.toNat_of_nonneg (by omega), Int.toNat_of_nonneg (by omega), Int.toNat_of_nonneg (by omega)]
    · cases h

set_option maxHeartbeats 4000000 in
set_option maxRecDepth 100000 in
theorem textOfBug_two (k a b : Nat) (w : World) (hT : Table w) (hk : k = 12 ∨ k = 13) (ha : a < 3) (hb : b < 6) :
    Calls Tryd.prog 85 #[.agg #[.int .i64 (k : Int), .int .i64 (a : Int), .int .i64 (b : Int)]] w fun e w' => e = .returned (.string (txtB k a b)) ∧ Below w.heap.size w w' := by
  obtain ⟨z0, z1, z2, z3, z4⟩ := txtB_parts k a b hk
  have y1 := digT_size a
  have y2 := digT_size b
  have y3 : (⟨#[32]⟩ : ByteArray).size = 1 := rfl
  have hk14 : (((k : Int)) == 14) = false := by simp; omega
  have ha1 := fun W => run_string_add_sum (P := Tryd.prog) W (wordB k) ⟨#[32]⟩ (by omega)
  have ha2 := fun W => run_string_add_sum (P := Tryd.prog) W (wordB k ++ ⟨#[32]⟩) (digT a) (by omega)
  have ha3 := fun W => run_string_add_sum (P := Tryd.prog) W ((wordB k ++ ⟨#[32]⟩) ++ digT a) ⟨#[32]⟩ (by omega)
  have ha4 := fun W => run_string_add_sum (P := Tryd.prog) W (((wordB k ++ ⟨#[32]⟩) ++ digT a) ++ ⟨#[32]⟩) (digT b) (by omega)
  unfold txtB
  have kW := fun W hT => implCodeWord_yes k (by omega) W hT
  have bw : Below w.heap.size w (w.alloc (.cells #[.int .i64 (k : Int), .int .i64 (a : Int), .int .i64 (b : Int)] 54)) := by go_grown
  have hT1 := hT.below bw
  go_enter Tryd.func85, Tryd.ntmps85
  go_wp2_with fail
  refine (kW _ hT1).mono ?_
  rintro e w1 ⟨rfl, rfl⟩
  clear kW hT hT1
  go_wp2_with fail
  go_quiet (first | (go_at_call 122; exact Calls.quiet_of_same ((itoa_digit a (by omega) _).mono fun e w' h => ⟨h.1, h.2.symm⟩)) | (go_at_call 122; exact Calls.quiet_of_same ((itoa_digit b (by omega) _).mono fun e w' h => ⟨h.1, h.2.symm⟩)))
  have b1 : Below w.heap.size w ((w.alloc (.cells #[.int .i64 (k : Int), .int .i64 (a : Int), .int .i64 (b : Int)] 54)).drewN nq) := bel_trans bw (bel_drewN' _ _)
  go_wp2
  go_ret
  exact ⟨rfl, b1⟩

set_option maxHeartbeats 4000000 in
set_option maxRecDepth 100000 in
theorem textOfBug_dead (w : World) (hT : Table w) :
    Calls Tryd.prog 85 #[.agg #[.int .i64 14, .int .i64 0, .int .i64 0]] w fun e w' => e = .returned (.string dead) ∧ Below w.heap.size w w' := by
  have kW := fun W hT => implCodeWord_yes 14 (by omega) W hT
  have bw : Below w.heap.size w (w.alloc (.cells #[.int .i64 14, .int .i64 0, .int .i64 0] 54)) := by go_grown
  have hT1 := hT.below bw
  unfold dead
  go_enter Tryd.func85, Tryd.ntmps85
  go_wp2_with fail
  refine (kW _ hT1).mono ?_
  rintro e w1 ⟨rfl, rfl⟩
  go_wp2
  go_ret
  exact ⟨rfl, bw⟩

set_option maxHeartbeats 4000000 in
set_option maxRecDepth 100000 in
theorem l04Text_two (k a b : Nat) (w : World) (hk : k = 12 ∨ k = 13) (ha : a < 3) (hb : b < 6) :
    Calls Tryd.prog 104 #[.agg #[.int .i64 (k : Int), .int .i64 (a : Int), .int .i64 (b : Int)]] w fun e w' => e = .returned (.string (txtB k a b)) ∧ Below w.heap.size w w' := by
  obtain ⟨z0, z1, z2, z3, z4⟩ := txtB_parts k a b hk
  have y1 := digT_size a
  have y2 := digT_size b
  have y3 : (⟨#[32]⟩ : ByteArray).size = 1 := rfl
  have hk14 : (((k : Int)) == 14) = false := by simp; omega
  have ha1 := fun W => run_string_add_sum (P := Tryd.prog) W (wordB k) ⟨#[32]⟩ (by omega)
  have ha2 := fun W => run_string_add_sum (P := Tryd.prog) W (wordB k ++ ⟨#[32]⟩) (digT a) (by omega)
  have ha3 := fun W => run_string_add_sum (P := Tryd.prog) W ((wordB k ++ ⟨#[32]⟩) ++ digT a) ⟨#[32]⟩ (by omega)
  have ha4 := fun W => run_string_add_sum (P := Tryd.prog) W (((wordB k ++ ⟨#[32]⟩) ++ digT a) ++ ⟨#[32]⟩) (digT b) (by omega)
  unfold txtB
  have kW := fun W => specCodeWord_yes k (by omega) W
  have bw : Below w.heap.size w (w.alloc (.cells #[.int .i64 (k : Int), .int .i64 (a : Int), .int .i64 (b : Int)] 54)) := by go_grown
  have c0 : (w.alloc (.cells #[.int .i64 (k : Int), .int .i64 (a : Int), .int .i64 (b : Int)] 54)).cell? ⟨w.heap.size, 0, none⟩ = some (.int .i64 (k : Int)) := by simp [go_sem]
  have c1 : (w.alloc (.cells #[.int .i64 (k : Int), .int .i64 (a : Int), .int .i64 (b : Int)] 54)).cell? ⟨w.heap.size, 1, none⟩ = some (.int .i64 (a : Int)) := by simp [go_sem]
  have c2 : (w.alloc (.cells #[.int .i64 (k : Int), .int .i64 (a : Int), .int .i64 (b : Int)] 54)).cell? ⟨w.heap.size, 2, none⟩ = some (.int .i64 (b : Int)) := by simp [go_sem]
  go_enter Tryd.func104, Tryd.ntmps104
  go_wp2_with fail
  generalize (w.alloc (.cells #[.int .i64 (k : Int), .int .i64 (a : Int), .int .i64 (b : Int)] 54)) = W0 at *
  refine wp_region_held_drew (S := (fun w' => w'.cell? ⟨w.heap.size, 0, none⟩ = some (.int .i64 (k : Int)) ∧ w'.cell? ⟨w.heap.size, 1, none⟩ = some (.int .i64 (a : Int)) ∧ w'.cell? ⟨w.heap.size, 2, none⟩ = some (.int .i64 (b : Int)))) (by kernel_rfl) ⟨c0, c1, c2⟩ (fun hS0 => ?_)
  refine wpAnyH_take (i := 0) (oi := { dst := some 6, op := _, type := _, pos := _, after := _, guard := _ }) (v := (.pointer (some ⟨w.heap.size, 0, none⟩))) rfl (by kernel_rfl) (by kernel_rfl) (by kernel_rfl) (fun _ _ _ h => h) (Or.inl ⟨by rfl, ?_⟩) (by assumption) ?_
  · (intro w' hSw; (try dsimp only at hSw); go_simp; try rfl)
  simp only [Act.put, List.setIfInBounds_toArray, List.set_cons_zero, List.set_cons_succ]
  refine wpAnyH_take (i := 1) (oi := { dst := some 7, op := _, type := _, pos := _, after := _, guard := _ }) (v := (.int .i64 (k : Int))) rfl (by kernel_rfl) (by kernel_rfl) (by kernel_rfl) (fun _ _ _ h => h) (Or.inl ⟨by rfl, ?_⟩) (by assumption) ?_
  · (intro w' hSw; (try dsimp only at hSw); go_simp; try rfl)
  simp only [Act.put, List.setIfInBounds_toArray, List.set_cons_zero, List.set_cons_succ]
  refine wpAnyH_take (i := 4) (oi := { dst := some 10, op := _, type := _, pos := _, after := _, guard := _ }) (v := (.pointer (some ⟨w.heap.size, 1, none⟩))) rfl (by kernel_rfl) (by kernel_rfl) (by kernel_rfl) (fun _ _ _ h => h) (Or.inl ⟨by rfl, ?_⟩) (by assumption) ?_
  · (intro w' hSw; (try dsimp only at hSw); go_simp; try rfl)
  simp only [Act.put, List.setIfInBounds_toArray, List.set_cons_zero, List.set_cons_succ]
  refine wpAnyH_take (i := 5) (oi := { dst := some 11, op := _, type := _, pos := _, after := _, guard := _ }) (v := (.int .i64 (a : Int))) rfl (by kernel_rfl) (by kernel_rfl) (by kernel_rfl) (fun _ _ _ h => h) (Or.inl ⟨by rfl, ?_⟩) (by assumption) ?_
  · (intro w' hSw; (try dsimp only at hSw); go_simp; try rfl)
  simp only [Act.put, List.setIfInBounds_toArray, List.set_cons_zero, List.set_cons_succ]
  refine wpAnyH_take (i := 9) (oi := { dst := some 15, op := _, type := _, pos := _, after := _, guard := _ }) (v := (.pointer (some ⟨w.heap.size, 2, none⟩))) rfl (by kernel_rfl) (by kernel_rfl) (by kernel_rfl) (fun _ _ _ h => h) (Or.inl ⟨by rfl, ?_⟩) (by assumption) ?_
  · (intro w' hSw; (try dsimp only at hSw); go_simp; try rfl)
  simp only [Act.put, List.setIfInBounds_toArray, List.set_cons_zero, List.set_cons_succ]
  refine wpAnyH_take (i := 10) (oi := { dst := some 16, op := _, type := _, pos := _, after := _, guard := _ }) (v := (.int .i64 (b : Int))) rfl (by kernel_rfl) (by kernel_rfl) (by kernel_rfl) (fun _ _ _ h => h) (Or.inl ⟨by rfl, ?_⟩) (by assumption) ?_
  · (intro w' hSw; (try dsimp only at hSw); go_simp; try rfl)
  simp only [Act.put, List.setIfInBounds_toArray, List.set_cons_zero, List.set_cons_succ]
  refine wpAnyH_ready (rs := [2]) (by kernel_rfl) (by simp) ?_
  refine AllReadyH.cons (o := { dst := some 8, op := _, type := _, pos := _, after := _, guard := _ }) rfl (fun K hK => ?_) AllReadyH.nil
  go_simp
  refine (kW _).mono ?_
  rintro e w1 ⟨rfl, hb⟩
  replace hb : Below W0.heap.size W0 w1 := ⟨hb.os, hb.tape, hb.output, hb.size, hb.block⟩
  replace bw := bel_trans bw hb
  replace c0 := cells_kept hb _ _ c0
  replace c1 := cells_kept hb _ _ c1
  replace c2 := cells_kept hb _ _ c2
  clear hb
  go_wp2_with fail
  refine hK.out _ _ ⟨c0, c1, c2⟩ (fun hS2 => ?_)
  clear hK
  try simp only [Act.put, List.setIfInBounds_toArray, List.set_cons_zero, List.set_cons_succ]
  refine wpAnyH_take (i := 3) (oi := { dst := some 9, op := _, type := _, pos := _, after := _, guard := _ }) (v := .string (wordB k ++ ⟨#[32]⟩)) rfl (by kernel_rfl) (by kernel_rfl) (by kernel_rfl) (fun _ _ _ h => h) (Or.inl ⟨by rfl, ?_⟩) (by assumption) ?_
  · (intro w' hSw; (try dsimp only at hSw); go_simp; try rfl)
  simp only [Act.put, List.setIfInBounds_toArray, List.set_cons_zero, List.set_cons_succ]
  refine wpAnyH_ready (rs := [6]) (by kernel_rfl) (by simp) ?_
  refine AllReadyH.cons (o := { dst := some 12, op := _, type := _, pos := _, after := _, guard := _ }) rfl (fun K hK => ?_) AllReadyH.nil
  go_simp
  refine (l00Digits_digit a (by omega) _).mono ?_
  rintro e w2 ⟨rfl, hb⟩
  replace hb : Below w1.heap.size w1 w2 := ⟨hb.os, hb.tape, hb.output, hb.size, hb.block⟩
  replace bw := bel_trans bw hb
  replace c0 := cells_kept hb _ _ c0
  replace c1 := cells_kept hb _ _ c1
  replace c2 := cells_kept hb _ _ c2
  clear hb
  go_wp2_with fail
  refine hK.out _ _ ⟨c0, c1, c2⟩ (fun hS6 => ?_)
  clear hK
  try simp only [Act.put, List.setIfInBounds_toArray, List.set_cons_zero, List.set_cons_succ]
  refine wpAnyH_take (i := 7) (oi := { dst := some 13, op := _, type := _, pos := _, after := _, guard := _ }) (v := .string ((wordB k ++ ⟨#[32]⟩) ++ digT a)) rfl (by kernel_rfl) (by kernel_rfl) (by kernel_rfl) (fun _ _ _ h => h) (Or.inl ⟨by rfl, ?_⟩) (by assumption) ?_
  · (intro w' hSw; (try dsimp only at hSw); go_simp; try rfl)
  simp only [Act.put, List.setIfInBounds_toArray, List.set_cons_zero, List.set_cons_succ]
  refine wpAnyH_take (i := 8) (oi := { dst := some 14, op := _, type := _, pos := _, after := _, guard := _ }) (v := .string (((wordB k ++ ⟨#[32]⟩) ++ digT a) ++ ⟨#[32]⟩)) rfl (by kernel_rfl) (by kernel_rfl) (by kernel_rfl) (fun _ _ _ h => h) (Or.inl ⟨by rfl, ?_⟩) (by assumption) ?_
  · (intro w' hSw; (try dsimp only at hSw); go_simp; try rfl)
  simp only [Act.put, List.setIfInBounds_toArray, List.set_cons_zero, List.set_cons_succ]
  refine wpAnyH_ready (rs := [11]) (by kernel_rfl) (by simp) ?_
  refine AllReadyH.cons (o := { dst := some 17, op := _, type := _, pos := _, after := _, guard := _ }) rfl (fun K hK => ?_) AllReadyH.nil
  go_simp
  refine (l00Digits_digit b (by omega) _).mono ?_
  rintro e w3 ⟨rfl, hb⟩
  replace hb : Below w2.heap.size w2 w3 := ⟨hb.os, hb.tape, hb.output, hb.size, hb.block⟩
  replace bw := bel_trans bw hb
  replace c0 := cells_kept hb _ _ c0
  replace c1 := cells_kept hb _ _ c1
  replace c2 := cells_kept hb _ _ c2
  clear hb
  go_wp2_with fail
  refine hK.out _ _ ⟨c0, c1, c2⟩ (fun hS11 => ?_)
  clear hK
  try simp only [Act.put, List.setIfInBounds_toArray, List.set_cons_zero, List.set_cons_succ]
  refine wpAnyH_take (i := 12) (oi := { dst := some 18, op := _, type := _, pos := _, after := _, guard := _ }) (v := .string ((((wordB k ++ ⟨#[32]⟩) ++ digT a) ++ ⟨#[32]⟩) ++ digT b)) rfl (by kernel_rfl) (by kernel_rfl) (by kernel_rfl) (fun _ _ _ h => h) (Or.inl ⟨by rfl, ?_⟩) (by assumption) ?_
  · (intro w' hSw; (try dsimp only at hSw); go_simp; try rfl)
  simp only [Act.put, List.setIfInBounds_toArray, List.set_cons_zero, List.set_cons_succ]
  refine wpAnyH_take (i := 13) (oi := { dst := some 2, op := _, type := _, pos := _, after := _, guard := _ }) (v := .string ((((wordB k ++ ⟨#[32]⟩) ++ digT a) ++ ⟨#[32]⟩) ++ digT b)) rfl (by kernel_rfl) (by kernel_rfl) (by kernel_rfl) (fun _ _ _ h => h) (Or.inl ⟨by rfl, ?_⟩) (by assumption) ?_
  · (intro w' hSw; (try dsimp only at hSw); go_simp; try rfl)
  simp only [Act.put, List.setIfInBounds_toArray, List.set_cons_zero, List.set_cons_succ]
  refine wpAnyH_done (by kernel_rfl) ?_ _
  clear hS0 hS2 hS6 hS11 c0 c1 c2
  go_wp2
  go_ret
  exact ⟨rfl, bw⟩

set_option maxHeartbeats 4000000 in
theorem l04Text_dead (w : World) :
    Calls Tryd.prog 104 #[.agg #[.int .i64 14, .int .i64 0, .int .i64 0]] w fun e w' => e = .returned (.string dead) ∧ Below w.heap.size w w' := by
  go_enter Tryd.func104, Tryd.ntmps104
  go_wp2
  go_ret
  exact ⟨rfl, by go_grown⟩


set_option maxHeartbeats 4000000 in
set_option maxRecDepth 100000 in
theorem implBugText_by (x : I3) (t : ByteArray) (w : World) (hT : Table w) (hok : okB x = true) (kT : ∀ W, Table W → Calls Tryd.prog 85 #[x.val] W fun e w' => e = .returned (.string t) ∧ Below W.heap.size W w') :
    Calls Tryd.prog 31 #[x.val] w fun e w' => e = .returned (.tuple #[.string t, .int .i64 0]) ∧ Below w.heap.size w w' := by
  have kO := implBugOK_is x
  rw [hok] at kO
  clear hok
  obtain ⟨x0, x1, x2⟩ := x
  unfold I3.val at *
  simp only at kT kO
  have bw : Below w.heap.size w (w.alloc (.cells #[.int .i64 x0, .int .i64 x1, .int .i64 x2] 54)) := by go_grown
  have c0 : (w.alloc (.cells #[.int .i64 x0, .int .i64 x1, .int .i64 x2] 54)).cell? ⟨w.heap.size, 0, none⟩ = some (.int .i64 x0) := by simp [go_sem]
  have c1 : (w.alloc (.cells #[.int .i64 x0, .int .i64 x1, .int .i64 x2] 54)).cell? ⟨w.heap.size, 1, none⟩ = some (.int .i64 x1) := by simp [go_sem]
  have c2 : (w.alloc (.cells #[.int .i64 x0, .int .i64 x1, .int .i64 x2] 54)).cell? ⟨w.heap.size, 2, none⟩ = some (.int .i64 x2) := by simp [go_sem]
  go_enter Tryd.func31, Tryd.ntmps31
  go_wp2_with fail
  generalize (w.alloc (.cells #[.int .i64 x0, .int .i64 x1, .int .i64 x2] 54)) = W0 at *
  refine (kO _).mono ?_
  rintro e w1 ⟨rfl, hb⟩
  replace bw := bel_trans bw hb
  replace c0 := cells_kept hb _ _ c0
  replace c1 := cells_kept hb _ _ c1
  replace c2 := cells_kept hb _ _ c2
  clear hb kO
  go_wp2_with fail
  refine (kT _ (hT.below bw)).mono ?_
  rintro e w2 ⟨rfl, hb⟩
  replace bw := bel_trans bw hb
  clear hb kT c0 c1 c2
  go_wp2
  go_ret2
  exact ⟨rfl, bw⟩
set_option maxHeartbeats 4000000 in
set_option maxRecDepth 100000 in
theorem implBugText_bad (x : I3) (w : World) (hok : okB x = false) :
    Calls Tryd.prog 31 #[x.val] w fun e w' => e = .returned (.tuple #[.string ByteArray.empty, .int .i64 1]) ∧ Below w.heap.size w w' := by
  have kO := implBugOK_is x
  rw [hok] at kO
  clear hok
  obtain ⟨x0, x1, x2⟩ := x
  unfold I3.val at *
  simp only at kO
  have bw : Below w.heap.size w (w.alloc (.cells #[.int .i64 x0, .int .i64 x1, .int .i64 x2] 54)) := by go_grown
  go_enter Tryd.func31, Tryd.ntmps31
  go_wp2_with fail
  refine (kO _).mono ?_
  rintro e w1 ⟨rfl, hb⟩
  replace bw := bel_trans bw hb
  clear hb kO
  go_wp2
  go_ret2
  exact ⟨rfl, bw⟩
theorem implBugText_is (x : I3) (w : World) (hT : Table w) :
    Calls Tryd.prog 31 #[x.val] w fun e w' => e = .returned (.tuple #[.string (textB x), .int .i64 (codeB x)]) ∧ Below w.heap.size w w' := by
  unfold textB codeB
  cases hok : okB x
  · exact implBugText_bad x w hok
  · simp only [if_true]
    rcases okB_cases hok with rfl | ⟨k, a, b, hk, ha, hb, rfl⟩
    · exact implBugText_by _ dead w hT hok (fun W hT => textOfBug_dead W hT)
    · have hne : ¬ ((k : Int) = 14) := by omega
      simp only [hne, if_false, Int.toNat_natCast]
      exact implBugText_by _ _ w hT hok (fun W hT => textOfBug_two k a b W hT hk ha hb)


set_option maxHeartbeats 4000000 in
set_option maxRecDepth 100000 in
theorem specBugText_by (x : I3) (t : ByteArray) (w : World) (hok : okB x = true) (kT : ∀ W, Calls Tryd.prog 104 #[x.val] W fun e w' => e = .returned (.string t) ∧ Below W.heap.size W w') :
    Calls Tryd.prog 49 #[x.val] w fun e w' => e = .returned (.tuple #[.string t, .int .i64 0]) ∧ Below w.heap.size w w' := by
  have kO := specBugOK_is x
  rw [hok] at kO
  clear hok
  obtain ⟨x0, x1, x2⟩ := x
  unfold I3.val at *
  simp only at kT kO
  have bw : Below w.heap.size w (w.alloc (.cells #[.int .i64 x0, .int .i64 x1, .int .i64 x2] 54)) := by go_grown
  have c0 : (w.alloc (.cells #[.int .i64 x0, .int .i64 x1, .int .i64 x2] 54)).cell? ⟨w.heap.size, 0, none⟩ = some (.int .i64 x0) := by simp [go_sem]
  have c1 : (w.alloc (.cells #[.int .i64 x0, .int .i64 x1, .int .i64 x2] 54)).cell? ⟨w.heap.size, 1, none⟩ = some (.int .i64 x1) := by simp [go_sem]
  have c2 : (w.alloc (.cells #[.int .i64 x0, .int .i64 x1, .int .i64 x2] 54)).cell? ⟨w.heap.size, 2, none⟩ = some (.int .i64 x2) := by simp [go_sem]
  go_enter Tryd.func49, Tryd.ntmps49
  go_wp2_with fail
  generalize (w.alloc (.cells #[.int .i64 x0, .int .i64 x1, .int .i64 x2] 54)) = W0 at *
  refine (kO _).mono ?_
  rintro e w1 ⟨rfl, hb⟩
  replace bw := bel_trans bw hb
  replace c0 := cells_kept hb _ _ c0
  replace c1 := cells_kept hb _ _ c1
  replace c2 := cells_kept hb _ _ c2
  clear hb kO
  go_wp2_with fail
  refine (kT _).mono ?_
  rintro e w2 ⟨rfl, hb⟩
  replace bw := bel_trans bw hb
  clear hb kT c0 c1 c2
  go_wp2
  go_ret2
  exact ⟨rfl, bw⟩
set_option maxHeartbeats 4000000 in
set_option maxRecDepth 100000 in
theorem specBugText_bad (x : I3) (w : World) (hok : okB x = false) :
    Calls Tryd.prog 49 #[x.val] w fun e w' => e = .returned (.tuple #[.string ByteArray.empty, .int .i64 1]) ∧ Below w.heap.size w w' := by
  have kO := specBugOK_is x
  rw [hok] at kO
  clear hok
  obtain ⟨x0, x1, x2⟩ := x
  unfold I3.val at *
  simp only at kO
  have bw : Below w.heap.size w (w.alloc (.cells #[.int .i64 x0, .int .i64 x1, .int .i64 x2] 54)) := by go_grown
  go_enter Tryd.func49, Tryd.ntmps49
  go_wp2_with fail
  refine (kO _).mono ?_
  rintro e w1 ⟨rfl, hb⟩
  replace bw := bel_trans bw hb
  clear hb kO
  go_wp2
  go_ret2
  exact ⟨rfl, bw⟩
theorem specBugText_is (x : I3) (w : World) :
    Calls Tryd.prog 49 #[x.val] w fun e w' => e = .returned (.tuple #[.string (textB x), .int .i64 (codeB x)]) ∧ Below w.heap.size w w' := by
  unfold textB codeB
  cases hok : okB x
  · exact specBugText_bad x w hok
  · simp only [if_true]
    rcases okB_cases hok with rfl | ⟨k, a, b, hk, ha, hb, rfl⟩
    · exact specBugText_by _ dead w hok (fun W => l04Text_dead W)
    · have hne : ¬ ((k : Int) = 14) := by omega
      simp only [hne, if_false, Int.toNat_natCast]
      exact specBugText_by _ _ w hok (fun W => l04Text_two k a b W hk ha hb)


set_option maxHeartbeats 4000000 in
set_option maxRecDepth 100000 in
theorem fnExactBugText_walk (y : I3) (w : World) (_hy : y.fits) (hT : Table w) : Calls Tryd.prog 9 #[y.val] w fun e w' => e = .returned (.bool true) ∧ Below w.heap.size w w' := by
  have kS := specBugText_is y
  have kI := fun W hT => implBugText_is y W hT
  have kT := toBug_same y
  generalize textB y = t at *
  generalize codeB y = c at *
  obtain ⟨y0, y1, y2⟩ := y
  unfold I3.val at *
  simp only at kS kI kT
  have htt : (t.toList != t.toList) = false := by simp
  have hcc : (c != c) = false := by simp
  have bw : Below w.heap.size w (w.alloc (.cells #[.int .i64 y0, .int .i64 y1, .int .i64 y2] 75)) := by go_grown
  have c0 : (w.alloc (.cells #[.int .i64 y0, .int .i64 y1, .int .i64 y2] 75)).cell? ⟨w.heap.size, 0, none⟩ = some (.int .i64 y0) := by simp [go_sem]
  have c1 : (w.alloc (.cells #[.int .i64 y0, .int .i64 y1, .int .i64 y2] 75)).cell? ⟨w.heap.size, 1, none⟩ = some (.int .i64 y1) := by simp [go_sem]
  have c2 : (w.alloc (.cells #[.int .i64 y0, .int .i64 y1, .int .i64 y2] 75)).cell? ⟨w.heap.size, 2, none⟩ = some (.int .i64 y2) := by simp [go_sem]
  replace hT := hT.below bw
  go_enter Tryd.func9, Tryd.ntmps9
  go_wp2_with fail
  generalize (w.alloc (.cells #[.int .i64 y0, .int .i64 y1, .int .i64 y2] 75)) = W0 at *
  refine (kT _).mono ?_
  rintro e w1 ⟨rfl, hb⟩
  replace bw := bel_trans bw hb
  replace hT := hT.below hb
  replace c0 := cells_kept hb _ _ c0
  replace c1 := cells_kept hb _ _ c1
  replace c2 := cells_kept hb _ _ c2
  clear hb
  go_wp2_with fail
  refine (kS _).mono ?_
  rintro e w2 ⟨rfl, hb⟩
  replace bw := bel_trans bw hb
  replace hT := hT.below hb
  replace c0 := cells_kept hb _ _ c0
  replace c1 := cells_kept hb _ _ c1
  replace c2 := cells_kept hb _ _ c2
  clear hb
  go_wp2_with fail
  refine (kT _).mono ?_
  rintro e w3 ⟨rfl, hb⟩
  replace bw := bel_trans bw hb
  replace hT := hT.below hb
  clear hb c0 c1 c2
  go_wp2_with fail
  refine (kI _ hT).mono ?_
  rintro e w4 ⟨rfl, hb⟩
  replace bw := bel_trans bw hb
  clear hb
  go_wp2
  go_ret
  exact ⟨rfl, bw⟩
end Go.Proofs.YtkmnnmgopnoffaaDoor
