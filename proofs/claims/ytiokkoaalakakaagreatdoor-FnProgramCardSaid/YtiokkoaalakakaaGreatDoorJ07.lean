/-
  FnProgram, part 7 of 50 (TextS).
-/
import Derived.Test.YtiokkoaalakakaaGreatDoorJ06
import Derived.BigQuiet
import Derived.Deep.QuietTactic
import Derived.Deep.RegionHeld3

/-
  spec.l02Text: an instruction's text.
-/
namespace Go.Proofs.YtiokkoaalakakaaGreatDoor
open Go.RowKit

def opWL : List (List UInt8) := [[], [108, 111, 97, 100], [115, 116, 111, 114, 101], [115, 101, 116], [97, 100, 100], [108, 111, 99, 107], [117, 110, 108, 111, 99, 107], [106, 117, 109, 112], [97, 115, 115, 101, 114, 116]]
/-- An instruction's word. -/
def opB (k : Nat) : ByteArray := ⟨(opWL.getD k []).toArray⟩

theorem bel_drewN' (w : World) (n : Nat) : Below w.heap.size w (w.drewN n) := ⟨rfl, rfl, rfl, Nat.le_refl _, fun _ _ => rfl⟩

set_option maxHeartbeats 2000000 in
set_option maxRecDepth 100000 in
theorem l02Words_is (w : World) : Calls Tryz.prog 57 #[] w fun e w' => e = .returned (.slice (some ⟨w.heap.size, 0, none⟩) 9 9) ∧ (∀ k, k < 9 → w'.cell? ⟨w.heap.size, k, none⟩ = some (.string (opB k))) ∧ Below w.heap.size w w' := by
  go_enter Tryz.func57, Tryz.ntmps57
  go_wp2
  go_ret
  refine ⟨rfl, ?_, by go_grown⟩
  intro k hk
  match k, hk with
  | 0, _ => simp [go_sem]; rfl
  | 1, _ => simp [go_sem]; rfl
  | 2, _ => simp [go_sem]; rfl
  | 3, _ => simp [go_sem]; rfl
  | 4, _ => simp [go_sem]; rfl
  | 5, _ => simp [go_sem]; rfl
  | 6, _ => simp [go_sem]; rfl
  | 7, _ => simp [go_sem]; rfl
  | 8, _ => simp [go_sem]; rfl

theorem opB_size (k : Nat) : (opB k).size ≤ 6 := by
  match k with
  | 0 => decide
  | 1 => decide
  | 2 => decide
  | 3 => decide
  | 4 => decide
  | 5 => decide
  | 6 => decide
  | 7 => decide
  | 8 => decide
  | (k + 9) =>
    have : opWL.getD (k + 9) [] = [] := by simp [opWL]
    unfold opB
    rw [this]
    decide
theorem digT_size (a : Nat) : (digT a).size = 1 := rfl

/-- The text of an instruction that tells one number. -/
def txt1 (k a : Nat) : ByteArray := (opB k ++ ⟨#[32]⟩) ++ digT a

set_option maxHeartbeats 4000000 in
set_option maxRecDepth 100000 in
theorem l02Text_lock (k a b : Nat) (w : World) (hk : k = 5 ∨ k = 6) (ha : a < 10) :
    Calls Tryz.prog 41 #[.agg #[.int .i64 k, .int .i64 a, .int .i64 b]] w fun e w' => e = .returned (.string (txt1 k a)) ∧ Below w.heap.size w w' := by
  unfold txt1
  have hk9 : k < 9 := by omega
  have hz1 := opB_size k
  have hz2 := digT_size a
  have hz3 : (opB k ++ ⟨#[32]⟩).size ≤ 7 := by rw [ByteArray.size_append]; have : (⟨#[32]⟩ : ByteArray).size = 1 := rfl; omega
  have hz0 : (⟨#[32]⟩ : ByteArray).size = 1 := rfl
  have ha1 := fun W => run_string_add_sum (P := Tryz.prog) W (opB k) ⟨#[32]⟩ (by omega)
  have ha2 := fun W => run_string_add_sum (P := Tryz.prog) W (opB k ++ ⟨#[32]⟩) (digT a) (by omega)
  have hki : (0 : Int) ≤ (k : Int) := by omega
  have hki9 : (k : Int) < 9 := by omega
  go_enter Tryz.func41, Tryz.ntmps41
  go_wp2_with fail
  have c0 : (w.alloc (.cells #[.int .i64 (k : Int), .int .i64 (a : Int), .int .i64 (b : Int)] 36)).cell? ⟨w.heap.size, 0, none⟩ = some (.int .i64 (k : Int)) := by simp [go_sem]
  have c1 : (w.alloc (.cells #[.int .i64 (k : Int), .int .i64 (a : Int), .int .i64 (b : Int)] 36)).cell? ⟨w.heap.size, 1, none⟩ = some (.int .i64 (a : Int)) := by simp [go_sem]
  have c2 : (w.alloc (.cells #[.int .i64 (k : Int), .int .i64 (a : Int), .int .i64 (b : Int)] 36)).cell? ⟨w.heap.size, 2, none⟩ = some (.int .i64 (b : Int)) := by simp [go_sem]
  have b0 : Below w.heap.size w (w.alloc (.cells #[.int .i64 (k : Int), .int .i64 (a : Int), .int .i64 (b : Int)] 36)) := by go_grown
  generalize w.alloc (.cells #[.int .i64 (k : Int), .int .i64 (a : Int), .int .i64 (b : Int)] 36) = w0 at c0 c1 c2 b0
  refine wp_region_held_drew (S := (fun w' => w'.cell? ⟨w.heap.size, 0, none⟩ = some (.int .i64 (k : Int)) ∧ w'.cell? ⟨w.heap.size, 1, none⟩ = some (.int .i64 (a : Int)) ∧ w'.cell? ⟨w.heap.size, 2, none⟩ = some (.int .i64 (b : Int)))) (by kernel_rfl) ⟨c0, c1, c2⟩ (fun hS0 => ?_)
  refine wpAnyH_take (i := 1) (oi := { dst := some 5, op := _, type := _, pos := _, after := _, guard := _ }) (v := .pointer (some ⟨w.heap.size, 0, none⟩)) rfl (by kernel_rfl) (by kernel_rfl) (by kernel_rfl) (fun _ _ _ h => h) (Or.inl ⟨by rfl, ?_⟩) (by assumption) ?_
  · (intro w' hSw; (try dsimp only at hSw); go_simp; try rfl)
  simp only [Act.put, List.setIfInBounds_toArray, List.set_cons_zero, List.set_cons_succ]
  refine wpAnyH_take (i := 2) (oi := { dst := some 6, op := _, type := _, pos := _, after := _, guard := _ }) (v := .int .i64 (k : Int)) rfl (by kernel_rfl) (by kernel_rfl) (by kernel_rfl) (fun _ _ _ h => h) (Or.inl ⟨by rfl, ?_⟩) (by assumption) ?_
  · (intro w' hSw; (try dsimp only at hSw); go_simp; try rfl)
  simp only [Act.put, List.setIfInBounds_toArray, List.set_cons_zero, List.set_cons_succ]
  refine wpAnyH_take (i := 6) (oi := { dst := some 10, op := _, type := _, pos := _, after := _, guard := _ }) (v := .pointer (some ⟨w.heap.size, 1, none⟩)) rfl (by kernel_rfl) (by kernel_rfl) (by kernel_rfl) (fun _ _ _ h => h) (Or.inl ⟨by rfl, ?_⟩) (by assumption) ?_
  · (intro w' hSw; (try dsimp only at hSw); go_simp; try rfl)
  simp only [Act.put, List.setIfInBounds_toArray, List.set_cons_zero, List.set_cons_succ]
  refine wpAnyH_take (i := 7) (oi := { dst := some 11, op := _, type := _, pos := _, after := _, guard := _ }) (v := .int .i64 (a : Int)) rfl (by kernel_rfl) (by kernel_rfl) (by kernel_rfl) (fun _ _ _ h => h) (Or.inl ⟨by rfl, ?_⟩) (by assumption) ?_
  · (intro w' hSw; (try dsimp only at hSw); go_simp; try rfl)
  simp only [Act.put, List.setIfInBounds_toArray, List.set_cons_zero, List.set_cons_succ]
  refine wpAnyH_ready (rs := [0]) (by kernel_rfl) (by simp) ?_
  refine AllReadyH.cons (o := { dst := some 4, op := _, type := _, pos := _, after := _, guard := _ }) rfl (fun K hK => ?_) AllReadyH.nil
  go_simp
  refine (l02Words_is _).mono ?_
  rintro e w1 ⟨rfl, hW, hb1⟩
  go_wp2_with fail
  refine hK.out _ _ ?_ (fun hS1 => ?_)
  · exact ⟨cells_kept hb1 _ _ hS0.1, cells_kept hb1 _ _ hS0.2.1, cells_kept hb1 _ _ hS0.2.2⟩
  clear hK
  have hWk : w1.cell? ⟨w0.heap.size, k, none⟩ = some (.string (opB k)) := hW k hk9
  refine wpAnyH_take (i := 3) (oi := { dst := some 7, op := _, type := _, pos := _, after := _, guard := _ }) (v := .pointer (some ⟨w0.heap.size, k, none⟩)) rfl (by kernel_rfl) (by kernel_rfl) (by kernel_rfl) (fun _ _ _ h => h) (Or.inl ⟨by rfl, ?_⟩) (by assumption) ?_
  · (intro w' hSw; (try dsimp only at hSw); go_simp; try rfl)
  simp only [Act.put, List.setIfInBounds_toArray, List.set_cons_zero, List.set_cons_succ]
  refine wpAnyH_ready (rs := [4, 8]) (by kernel_rfl) (by simp) ?_
  refine AllReadyH.cons (o := { dst := some 8, op := _, type := _, pos := _, after := _, guard := _ }) rfl (fun K hK => ?_) (AllReadyH.cons (o := { dst := some 12, op := _, type := _, pos := _, after := _, guard := _ }) rfl (fun K hK => ?_) AllReadyH.nil)
  · go_simp
    refine hK.out _ _ hS1 (fun hS2 => ?_)
    clear hK
    refine wpAnyH_take (i := 5) (oi := { dst := some 9, op := _, type := _, pos := _, after := _, guard := _ }) (v := .string (opB k ++ ⟨#[32]⟩)) rfl (by kernel_rfl) (by kernel_rfl) (by kernel_rfl) (fun _ _ _ h => h) (Or.inl ⟨by rfl, ?_⟩) (by assumption) ?_
    · (intro w' hSw; (try dsimp only at hSw); go_simp; try rfl)
    simp only [Act.put, List.setIfInBounds_toArray, List.set_cons_zero, List.set_cons_succ]
    refine wpAnyH_ready (rs := [8]) (by kernel_rfl) (by simp) ?_
    refine AllReadyH.cons (o := { dst := some 12, op := _, type := _, pos := _, after := _, guard := _ }) rfl (fun K hK => ?_) AllReadyH.nil
    go_simp
    refine (l00Digits_digit a ha _).mono ?_
    rintro e w2 ⟨rfl, hb2⟩
    go_wp2_with fail
    refine hK.out _ _ ?_ (fun hS3 => ?_)
    · exact ⟨cells_kept hb2 _ _ hS2.1, cells_kept hb2 _ _ hS2.2.1, cells_kept hb2 _ _ hS2.2.2⟩
    clear hK
    refine wpAnyH_take (i := 9) (oi := { dst := some 13, op := _, type := _, pos := _, after := _, guard := _ }) (v := .string ((opB k ++ ⟨#[32]⟩) ++ digT a)) rfl (by kernel_rfl) (by kernel_rfl) (by kernel_rfl) (fun _ _ _ h => h) (Or.inl ⟨by rfl, ?_⟩) (by assumption) ?_
    · (intro w' hSw; (try dsimp only at hSw); go_simp; try rfl)
    simp only [Act.put, List.setIfInBounds_toArray, List.set_cons_zero, List.set_cons_succ]
    refine wpAnyH_take (i := 10) (oi := { dst := some 3, op := _, type := _, pos := _, after := _, guard := _ }) (v := .string ((opB k ++ ⟨#[32]⟩) ++ digT a)) rfl (by kernel_rfl) (by kernel_rfl) (by kernel_rfl) (fun _ _ _ h => h) (Or.inl ⟨by rfl, ?_⟩) (by assumption) ?_
    · (intro w' hSw; (try dsimp only at hSw); go_simp; try rfl)
    simp only [Act.put, List.setIfInBounds_toArray, List.set_cons_zero, List.set_cons_succ]
    refine wpAnyH_done (by kernel_rfl) ?_ _
    have b2 : Below w.heap.size w w2 := bel_trans b0 (bel_trans (by go_grown) (bel_trans hb1 hb2))
    obtain ⟨d0, d1, d2⟩ := hS3
    clear hS0 hS1 hS2 hb1 hb2 hW hWk b0 c0 c1 c2
    rcases hk with rfl | rfl
    · go_wp2
      go_ret
      exact ⟨rfl, b2⟩
    · go_wp2
      go_ret
      exact ⟨rfl, b2⟩
  · go_simp
    refine (l00Digits_digit a ha _).mono ?_
    rintro e w2 ⟨rfl, hb2⟩
    go_wp2_with fail
    refine hK.out _ _ ?_ (fun hS2 => ?_)
    · exact ⟨cells_kept hb2 _ _ hS1.1, cells_kept hb2 _ _ hS1.2.1, cells_kept hb2 _ _ hS1.2.2⟩
    clear hK
    replace hWk := cells_kept hb2 _ _ hWk
    refine wpAnyH_ready (rs := [4]) (by kernel_rfl) (by simp) ?_
    refine AllReadyH.cons (o := { dst := some 8, op := _, type := _, pos := _, after := _, guard := _ }) rfl (fun K hK => ?_) AllReadyH.nil
    go_simp
    refine hK.out _ _ hS2 (fun hS3 => ?_)
    clear hK
    refine wpAnyH_take (i := 5) (oi := { dst := some 9, op := _, type := _, pos := _, after := _, guard := _ }) (v := .string (opB k ++ ⟨#[32]⟩)) rfl (by kernel_rfl) (by kernel_rfl) (by kernel_rfl) (fun _ _ _ h => h) (Or.inl ⟨by rfl, ?_⟩) (by assumption) ?_
    · (intro w' hSw; (try dsimp only at hSw); go_simp; try rfl)
    simp only [Act.put, List.setIfInBounds_toArray, List.set_cons_zero, List.set_cons_succ]
    refine wpAnyH_take (i := 9) (oi := { dst := some 13, op := _, type := _, pos := _, after := _, guard := _ }) (v := .string ((opB k ++ ⟨#[32]⟩) ++ digT a)) rfl (by kernel_rfl) (by kernel_rfl) (by kernel_rfl) (fun _ _ _ h => h) (Or.inl ⟨by rfl, ?_⟩) (by assumption) ?_
    · (intro w' hSw; (try dsimp only at hSw); go_simp; try rfl)
    simp only [Act.put, List.setIfInBounds_toArray, List.set_cons_zero, List.set_cons_succ]
    refine wpAnyH_take (i := 10) (oi := { dst := some 3, op := _, type := _, pos := _, after := _, guard := _ }) (v := .string ((opB k ++ ⟨#[32]⟩) ++ digT a)) rfl (by kernel_rfl) (by kernel_rfl) (by kernel_rfl) (fun _ _ _ h => h) (Or.inl ⟨by rfl, ?_⟩) (by assumption) ?_
    · (intro w' hSw; (try dsimp only at hSw); go_simp; try rfl)
    simp only [Act.put, List.setIfInBounds_toArray, List.set_cons_zero, List.set_cons_succ]
    refine wpAnyH_done (by kernel_rfl) ?_ _
    have b2 : Below w.heap.size w w2 := bel_trans b0 (bel_trans (by go_grown) (bel_trans hb1 hb2))
    obtain ⟨d0, d1, d2⟩ := hS3
    clear hS0 hS1 hS2 hb1 hb2 hW hWk b0 c0 c1 c2
    rcases hk with rfl | rfl
    · go_wp2
      go_ret
      exact ⟨rfl, b2⟩
    · go_wp2
      go_ret
      exact ⟨rfl, b2⟩

/-- .. that tells two. -/
def txt2 (k a b : Nat) : ByteArray := (txt1 k a ++ ⟨#[32]⟩) ++ digT b

set_option maxHeartbeats 4000000 in
set_option maxRecDepth 100000 in
theorem l02Text_two (k a b : Nat) (w : World) (hk : k < 9) (h5 : k ≠ 5) (h6 : k ≠ 6) (ha : a < 10) (hb : b < 10) :
    Calls Tryz.prog 41 #[.agg #[.int .i64 k, .int .i64 a, .int .i64 b]] w fun e w' => e = .returned (.string (txt2 k a b)) ∧ Below w.heap.size w w' := by
  unfold txt2 txt1
  have hk9 : k < 9 := by omega
  have hz1 := opB_size k
  have hz2 := digT_size a
  have hz3 : (opB k ++ ⟨#[32]⟩).size ≤ 7 := by rw [ByteArray.size_append]; have : (⟨#[32]⟩ : ByteArray).size = 1 := rfl; omega
  have hz0 : (⟨#[32]⟩ : ByteArray).size = 1 := rfl
  have ha1 := fun W => run_string_add_sum (P := Tryz.prog) W (opB k) ⟨#[32]⟩ (by omega)
  have ha2 := fun W => run_string_add_sum (P := Tryz.prog) W (opB k ++ ⟨#[32]⟩) (digT a) (by omega)
  have hz4 : (opB k ++ ⟨#[32]⟩ ++ digT a).size ≤ 8 := by rw [ByteArray.size_append]; omega
  have hz5 : (opB k ++ ⟨#[32]⟩ ++ digT a ++ ⟨#[32]⟩).size ≤ 9 := by rw [ByteArray.size_append]; omega
  have hz6 := digT_size b
  have ha3 := fun W => run_string_add_sum (P := Tryz.prog) W (opB k ++ ⟨#[32]⟩ ++ digT a) ⟨#[32]⟩ (by omega)
  have ha4 := fun W => run_string_add_sum (P := Tryz.prog) W (opB k ++ ⟨#[32]⟩ ++ digT a ++ ⟨#[32]⟩) (digT b) (by omega)
  have h5' : ((k : Int) == 5) = false := by simp; omega
  have h6' : ((k : Int) == 6) = false := by simp; omega
  have hki : (0 : Int) ≤ (k : Int) := by omega
  have hki9 : (k : Int) < 9 := by omega
  go_enter Tryz.func41, Tryz.ntmps41
  go_wp2_with fail
  have c0 : (w.alloc (.cells #[.int .i64 (k : Int), .int .i64 (a : Int), .int .i64 (b : Int)] 36)).cell? ⟨w.heap.size, 0, none⟩ = some (.int .i64 (k : Int)) := by simp [go_sem]
  have c1 : (w.alloc (.cells #[.int .i64 (k : Int), .int .i64 (a : Int), .int .i64 (b : Int)] 36)).cell? ⟨w.heap.size, 1, none⟩ = some (.int .i64 (a : Int)) := by simp [go_sem]
  have c2 : (w.alloc (.cells #[.int .i64 (k : Int), .int .i64 (a : Int), .int .i64 (b : Int)] 36)).cell? ⟨w.heap.size, 2, none⟩ = some (.int .i64 (b : Int)) := by simp [go_sem]
  have b0 : Below w.heap.size w (w.alloc (.cells #[.int .i64 (k : Int), .int .i64 (a : Int), .int .i64 (b : Int)] 36)) := by go_grown
  generalize w.alloc (.cells #[.int .i64 (k : Int), .int .i64 (a : Int), .int .i64 (b : Int)] 36) = w0 at c0 c1 c2 b0
  refine wp_region_held_drew (S := (fun w' => w'.cell? ⟨w.heap.size, 0, none⟩ = some (.int .i64 (k : Int)) ∧ w'.cell? ⟨w.heap.size, 1, none⟩ = some (.int .i64 (a : Int)) ∧ w'.cell? ⟨w.heap.size, 2, none⟩ = some (.int .i64 (b : Int)))) (by kernel_rfl) ⟨c0, c1, c2⟩ (fun hS0 => ?_)
  refine wpAnyH_take (i := 1) (oi := { dst := some 5, op := _, type := _, pos := _, after := _, guard := _ }) (v := .pointer (some ⟨w.heap.size, 0, none⟩)) rfl (by kernel_rfl) (by kernel_rfl) (by kernel_rfl) (fun _ _ _ h => h) (Or.inl ⟨by rfl, ?_⟩) (by assumption) ?_
  · (intro w' hSw; (try dsimp only at hSw); go_simp; try rfl)
  simp only [Act.put, List.setIfInBounds_toArray, List.set_cons_zero, List.set_cons_succ]
  refine wpAnyH_take (i := 2) (oi := { dst := some 6, op := _, type := _, pos := _, after := _, guard := _ }) (v := .int .i64 (k : Int)) rfl (by kernel_rfl) (by kernel_rfl) (by kernel_rfl) (fun _ _ _ h => h) (Or.inl ⟨by rfl, ?_⟩) (by assumption) ?_
  · (intro w' hSw; (try dsimp only at hSw); go_simp; try rfl)
  simp only [Act.put, List.setIfInBounds_toArray, List.set_cons_zero, List.set_cons_succ]
  refine wpAnyH_take (i := 6) (oi := { dst := some 10, op := _, type := _, pos := _, after := _, guard := _ }) (v := .pointer (some ⟨w.heap.size, 1, none⟩)) rfl (by kernel_rfl) (by kernel_rfl) (by kernel_rfl) (fun _ _ _ h => h) (Or.inl ⟨by rfl, ?_⟩) (by assumption) ?_
  · (intro w' hSw; (try dsimp only at hSw); go_simp; try rfl)
  simp only [Act.put, List.setIfInBounds_toArray, List.set_cons_zero, List.set_cons_succ]
  refine wpAnyH_take (i := 7) (oi := { dst := some 11, op := _, type := _, pos := _, after := _, guard := _ }) (v := .int .i64 (a : Int)) rfl (by kernel_rfl) (by kernel_rfl) (by kernel_rfl) (fun _ _ _ h => h) (Or.inl ⟨by rfl, ?_⟩) (by assumption) ?_
  · (intro w' hSw; (try dsimp only at hSw); go_simp; try rfl)
  simp only [Act.put, List.setIfInBounds_toArray, List.set_cons_zero, List.set_cons_succ]
  refine wpAnyH_ready (rs := [0]) (by kernel_rfl) (by simp) ?_
  refine AllReadyH.cons (o := { dst := some 4, op := _, type := _, pos := _, after := _, guard := _ }) rfl (fun K hK => ?_) AllReadyH.nil
  go_simp
  refine (l02Words_is _).mono ?_
  rintro e w1 ⟨rfl, hW, hb1⟩
  go_wp2_with fail
  refine hK.out _ _ ?_ (fun hS1 => ?_)
  · exact ⟨cells_kept hb1 _ _ hS0.1, cells_kept hb1 _ _ hS0.2.1, cells_kept hb1 _ _ hS0.2.2⟩
  clear hK
  have hWk : w1.cell? ⟨w0.heap.size, k, none⟩ = some (.string (opB k)) := hW k hk9
  refine wpAnyH_take (i := 3) (oi := { dst := some 7, op := _, type := _, pos := _, after := _, guard := _ }) (v := .pointer (some ⟨w0.heap.size, k, none⟩)) rfl (by kernel_rfl) (by kernel_rfl) (by kernel_rfl) (fun _ _ _ h => h) (Or.inl ⟨by rfl, ?_⟩) (by assumption) ?_
  · (intro w' hSw; (try dsimp only at hSw); go_simp; try rfl)
  simp only [Act.put, List.setIfInBounds_toArray, List.set_cons_zero, List.set_cons_succ]
  refine wpAnyH_ready (rs := [4, 8]) (by kernel_rfl) (by simp) ?_
  refine AllReadyH.cons (o := { dst := some 8, op := _, type := _, pos := _, after := _, guard := _ }) rfl (fun K hK => ?_) (AllReadyH.cons (o := { dst := some 12, op := _, type := _, pos := _, after := _, guard := _ }) rfl (fun K hK => ?_) AllReadyH.nil)
  · go_simp
    refine hK.out _ _ hS1 (fun hS2 => ?_)
    clear hK
    refine wpAnyH_take (i := 5) (oi := { dst := some 9, op := _, type := _, pos := _, after := _, guard := _ }) (v := .string (opB k ++ ⟨#[32]⟩)) rfl (by kernel_rfl) (by kernel_rfl) (by kernel_rfl) (fun _ _ _ h => h) (Or.inl ⟨by rfl, ?_⟩) (by assumption) ?_
    · (intro w' hSw; (try dsimp only at hSw); go_simp; try rfl)
    simp only [Act.put, List.setIfInBounds_toArray, List.set_cons_zero, List.set_cons_succ]
    refine wpAnyH_ready (rs := [8]) (by kernel_rfl) (by simp) ?_
    refine AllReadyH.cons (o := { dst := some 12, op := _, type := _, pos := _, after := _, guard := _ }) rfl (fun K hK => ?_) AllReadyH.nil
    go_simp
    refine (l00Digits_digit a ha _).mono ?_
    rintro e w2 ⟨rfl, hb2⟩
    go_wp2_with fail
    refine hK.out _ _ ?_ (fun hS3 => ?_)
    · exact ⟨cells_kept hb2 _ _ hS2.1, cells_kept hb2 _ _ hS2.2.1, cells_kept hb2 _ _ hS2.2.2⟩
    clear hK
    refine wpAnyH_take (i := 9) (oi := { dst := some 13, op := _, type := _, pos := _, after := _, guard := _ }) (v := .string ((opB k ++ ⟨#[32]⟩) ++ digT a)) rfl (by kernel_rfl) (by kernel_rfl) (by kernel_rfl) (fun _ _ _ h => h) (Or.inl ⟨by rfl, ?_⟩) (by assumption) ?_
    · (intro w' hSw; (try dsimp only at hSw); go_simp; try rfl)
    simp only [Act.put, List.setIfInBounds_toArray, List.set_cons_zero, List.set_cons_succ]
    refine wpAnyH_take (i := 10) (oi := { dst := some 3, op := _, type := _, pos := _, after := _, guard := _ }) (v := .string ((opB k ++ ⟨#[32]⟩) ++ digT a)) rfl (by kernel_rfl) (by kernel_rfl) (by kernel_rfl) (fun _ _ _ h => h) (Or.inl ⟨by rfl, ?_⟩) (by assumption) ?_
    · (intro w' hSw; (try dsimp only at hSw); go_simp; try rfl)
    simp only [Act.put, List.setIfInBounds_toArray, List.set_cons_zero, List.set_cons_succ]
    refine wpAnyH_done (by kernel_rfl) ?_ _
    have b2 : Below w.heap.size w w2 := bel_trans b0 (bel_trans (by go_grown) (bel_trans hb1 hb2))
    obtain ⟨d0, d1, d2⟩ := hS3
    clear hS0 hS1 hS2 hb1 hb2 hW hWk b0 c0 c1 c2
    go_wp2_with fail
    refine (l00Digits_digit b hb _).mono ?_
    rintro e w3 ⟨rfl, hb3⟩
    have b3 := bel_trans b2 hb3
    clear hb3 b2 d0 d1 d2
    go_wp2
    go_ret
    exact ⟨rfl, b3⟩
  · go_simp
    refine (l00Digits_digit a ha _).mono ?_
    rintro e w2 ⟨rfl, hb2⟩
    go_wp2_with fail
    refine hK.out _ _ ?_ (fun hS2 => ?_)
    · exact ⟨cells_kept hb2 _ _ hS1.1, cells_kept hb2 _ _ hS1.2.1, cells_kept hb2 _ _ hS1.2.2⟩
    clear hK
    replace hWk := cells_kept hb2 _ _ hWk
    refine wpAnyH_ready (rs := [4]) (by kernel_rfl) (by simp) ?_
    refine AllReadyH.cons (o := { dst := some 8, op := _, type := _, pos := _, after := _, guard := _ }) rfl (fun K hK => ?_) AllReadyH.nil
    go_simp
    refine hK.out _ _ hS2 (fun hS3 => ?_)
    clear hK
    refine wpAnyH_take (i := 5) (oi := { dst := some 9, op := _, type := _, pos := _, after := _, guard := _ }) (v := .string (opB k ++ ⟨#[32]⟩)) rfl (by kernel_rfl) (by kernel_rfl) (by kernel_rfl) (fun _ _ _ h => h) (Or.inl ⟨by rfl, ?_⟩) (by assumption) ?_
    · (intro w' hSw; (try dsimp only at hSw); go_simp; try rfl)
    simp only [Act.put, List.setIfInBounds_toArray, List.set_cons_zero, List.set_cons_succ]
    refine wpAnyH_take (i := 9) (oi := { dst := some 13, op := _, type := _, pos := _, after := _, guard := _ }) (v := .string ((opB k ++ ⟨#[32]⟩) ++ digT a)) rfl (by kernel_rfl) (by kernel_rfl) (by kernel_rfl) (fun _ _ _ h => h) (Or.inl ⟨by rfl, ?_⟩) (by assumption) ?_
    · (intro w' hSw; (try dsimp only at hSw); go_simp; try rfl)
    simp only [Act.put, List.setIfInBounds_toArray, List.set_cons_zero, List.set_cons_succ]
    refine wpAnyH_take (i := 10) (oi := { dst := some 3, op := _, type := _, pos := _, after := _, guard := _ }) (v := .string ((opB k ++ ⟨#[32]⟩) ++ digT a)) rfl (by kernel_rfl) (by kernel_rfl) (by kernel_rfl) (fun _ _ _ h => h) (Or.inl ⟨by rfl, ?_⟩) (by assumption) ?_
    · (intro w' hSw; (try dsimp only at hSw); go_simp; try rfl)
    simp only [Act.put, List.setIfInBounds_toArray, List.set_cons_zero, List.set_cons_succ]
    refine wpAnyH_done (by kernel_rfl) ?_ _
    have b2 : Below w.heap.size w w2 := bel_trans b0 (bel_trans (by go_grown) (bel_trans hb1 hb2))
    obtain ⟨d0, d1, d2⟩ := hS3
    clear hS0 hS1 hS2 hb1 hb2 hW hWk b0 c0 c1 c2
    go_wp2_with fail
    refine (l00Digits_digit b hb _).mono ?_
    rintro e w3 ⟨rfl, hb3⟩
    have b3 := bel_trans b2 hb3
    clear hb3 b2 d0 d1 d2
    go_wp2
    go_ret
    exact ⟨rfl, b3⟩
end Go.Proofs.YtiokkoaalakakaaGreatDoor
