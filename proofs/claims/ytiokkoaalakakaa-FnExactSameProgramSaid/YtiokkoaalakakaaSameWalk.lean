/-
  FnExactSameProgram: both find the same programs alike; the arguments are left as they were.
-/
import Derived.Test.YtiokkoaalakakaaSameI
namespace Go.Proofs.Ytiokkoaalakakaa
open Go.RowKit

set_option maxHeartbeats 4000000 in
set_option maxRecDepth 100000 in
theorem fnExactSameProgram_walk (a : Option Addr) (len cap : Nat) (ra : List (List I3)) (b : Option Addr) (len' cap' : Nat) (rb : List (List I3)) (w : World) (ha : Codes w a len cap ra) (hb : Codes w b len' cap' rb) :
    Calls Try.prog 6 #[.agg #[.slice a len cap], .agg #[.slice b len' cap']] w fun e w' => e = .returned (.bool true) ∧ Below w.heap.size w w' := by
  have hsz := sizeLeft_or ra 1048576 (by omega)
  have hbd := size_bounds (rows := ra) (left := 1048576) (by omega)
  go_enter Try.func6, Try.ntmps6
  go_wp2_with fail
  refine (szProgram_less a len cap ra 1048576 _ (ha.below (by go_grown)) (by omega) (by omega)).mono ?_
  rintro e w1 ⟨rfl, hb1⟩
  have cA : w1.cell? ⟨w.heap.size, 0, none⟩ = some (.slice a len cap) := by rw [hb1.cell (by simp; omega)]; simp [go_sem]
  have cB : w1.cell? ⟨w.heap.size + 1, 0, none⟩ = some (.slice b len' cap') := by rw [hb1.cell (by simp)]; simp [go_sem]
  have b1 : Below w.heap.size w w1 := bel_trans (by go_grown) hb1
  clear hb1
  generalize sizeLeft 1048576 ra = n at hsz hbd
  rcases hsz with rfl | ⟨hn0, hn1⟩
  · clear hbd
    go_wp2
    go_ret
    exact ⟨rfl, b1⟩
  · obtain ⟨hr, hr'⟩ := hbd hn0 (by omega)
    clear hbd
    have hlen : len ≤ 1048576 := by rw [← ha.1]; exact hr
    have hn : decide (n < 0) = false := by simp; omega
    have hszb := sizeLeft_or rb n hn0
    have hbdb := size_bounds (rows := rb) (left := n) (by omega)
    go_wp2_with fail
    refine (szProgram_less b len' cap' rb n _ (hb.below b1) hn0 (by omega)).mono ?_
    rintro e w2 ⟨rfl, hb2⟩
    have b2 := bel_trans b1 hb2
    replace cA := cells_kept hb2 _ _ cA
    replace cB := cells_kept hb2 _ _ cB
    clear hb2 b1
    generalize sizeLeft n rb = m at hszb hbdb
    rcases hszb with rfl | ⟨hm0, hm1⟩
    · clear hbdb
      go_wp2
      go_ret
      exact ⟨rfl, b2⟩
    · obtain ⟨hs, hs'⟩ := hbdb hm0 hn0
      clear hbdb
      have hlen' : len' ≤ 1048576 := by rw [← hb.1]; exact hs
      have hm : decide (m < 0) = false := by simp; omega
      go_wp2_with fail
      have hA : Codes w2.drew a len cap ra := (ha.below b2).below (by go_grown)
      have hB : Codes w2.drew b len' cap' rb := (hb.below b2).below (by go_grown)
      refine wp_region_held_drew (S := (fun w' => w'.cell? ⟨w.heap.size, 0, none⟩ = some (.slice a len cap) ∧ w'.cell? ⟨w.heap.size + 1, 0, none⟩ = some (.slice b len' cap'))) (by kernel_rfl) ⟨cA, cB⟩ (fun hS0 => ?_)
      refine wpAnyH_take (i := 0) (oi := { dst := some 20, op := _, type := _, pos := _, after := _, guard := _ }) (v := .agg #[.slice a len cap]) rfl (by kernel_rfl) (by kernel_rfl) (by kernel_rfl) (fun _ _ _ h => h) (Or.inl ⟨by rfl, ?_⟩) (by assumption) ?_
      · (intro w' hSw; (try dsimp only at hSw); go_simp; try rfl)
      simp only [Act.put, List.setIfInBounds_toArray, List.set_cons_zero, List.set_cons_succ]
      refine wpAnyH_take (i := 2) (oi := { dst := some 22, op := _, type := _, pos := _, after := _, guard := _ }) (v := .agg #[.slice b len' cap']) rfl (by kernel_rfl) (by kernel_rfl) (by kernel_rfl) (fun _ _ _ h => h) (Or.inl ⟨by rfl, ?_⟩) (by assumption) ?_
      · (intro w' hSw; (try dsimp only at hSw); go_simp; try rfl)
      simp only [Act.put, List.setIfInBounds_toArray, List.set_cons_zero, List.set_cons_succ]
      refine wpAnyH_ready (rs := [1]) (by kernel_rfl) (by simp) ?_
      refine AllReadyH.cons (o := { dst := some 21, op := _, type := _, pos := _, after := _, guard := _ }) rfl (fun K hK => ?_) AllReadyH.nil
      go_simp
      refine (toProgram_copy a len cap ra _ hA hlen (fun t _ => hr' t)).mono ?_
      rintro e w3 ⟨rfl, hC3, hb3⟩
      go_wp2_with fail
      refine hK.out _ _ ?_ (fun hS1 => ?_)
      · exact ⟨cells_kept hb3 _ _ hS0.1, cells_kept hb3 _ _ hS0.2⟩
      clear hK
      refine wpAnyH_ready (rs := [3]) (by kernel_rfl) (by simp) ?_
      refine AllReadyH.cons (o := { dst := some 23, op := _, type := _, pos := _, after := _, guard := _ }) rfl (fun K hK => ?_) AllReadyH.nil
      go_simp
      refine (toProgram_copy b len' cap' rb _ (hB.below hb3) hlen' (fun t _ => hs' t)).mono ?_
      rintro e w4 ⟨rfl, hC4, hb4⟩
      go_wp2_with fail
      refine hK.out _ _ ?_ (fun hS2 => ?_)
      · exact ⟨cells_kept hb4 _ _ hS1.1, cells_kept hb4 _ _ hS1.2⟩
      clear hK
      refine wpAnyH_ready (rs := [4]) (by kernel_rfl) (by simp) ?_
      refine AllReadyH.cons (o := { dst := some 24, op := _, type := _, pos := _, after := _, guard := _ }) rfl (fun K hK => ?_) AllReadyH.nil
      go_simp
      refine (specSame_is _ _ _ ra _ _ _ rb _ (hC3.codes.below hb4) hC4.codes).mono ?_
      rintro e w5 ⟨rfl, hb5⟩
      go_wp2_with fail
      refine hK.out _ _ ?_ (fun hS3 => ?_)
      · exact ⟨cells_kept hb5 _ _ hS2.1, cells_kept hb5 _ _ hS2.2⟩
      clear hK
      refine wpAnyH_take (i := 5) (oi := { dst := some 6, op := _, type := _, pos := _, after := _, guard := _ }) (v := .bool (sameP ra rb)) rfl (by kernel_rfl) (by kernel_rfl) (by kernel_rfl) (fun _ _ _ h => h) (Or.inl ⟨by rfl, ?_⟩) (by assumption) ?_
      · (intro w' hSw; (try dsimp only at hSw); go_simp; try rfl)
      simp only [Act.put, List.setIfInBounds_toArray, List.set_cons_zero, List.set_cons_succ]
      refine wpAnyH_done (by kernel_rfl) ?_ _
      have b5 : Below w.heap.size w w5 := bel_trans b2 (bel_trans (by go_grown) (bel_trans hb3 (bel_trans hb4 hb5)))
      replace cA := hS3.1
      replace cB := hS3.2
      clear hS0 hS1 hS2 hS3 hC3 hC4 hb3 hb4 hb5 hA hB b2
      go_wp2_with fail
      refine (toProgram_copy a len cap ra _ (ha.below b5) hlen (fun t _ => hr' t)).mono ?_
      rintro e w6 ⟨rfl, hC6, hb6⟩
      have b6 := bel_trans b5 hb6
      replace cA := cells_kept hb6 _ _ cA
      replace cB := cells_kept hb6 _ _ cB
      replace hC6 := hC6.codes
      clear hb6 b5
      generalize w5.heap.size + 3 = g at hC6
      have cB' : ∀ o, (w6.alloc o).cell? ⟨w.heap.size + 1, 0, none⟩ = some (.slice b len' cap') := fun o => cells_kept (by go_grown) _ _ cB
      go_wp2_with fail
      clear cB'
      have cX : (w6.alloc (.cells #[.slice (some ⟨g, 0, none⟩) len len] 35)).cell? ⟨w6.heap.size, 0, none⟩ = some (.slice (some ⟨g, 0, none⟩) len len) := by simp [go_sem]
      have hbx : Below w6.heap.size w6 (w6.alloc (.cells #[.slice (some ⟨g, 0, none⟩) len len] 35)) := by go_grown
      replace cA := cells_kept hbx _ _ cA
      replace cB := cells_kept hbx _ _ cB
      replace hC6 := hC6.below hbx
      replace b6 := bel_trans b6 hbx
      clear hbx
      generalize w6.alloc (.cells #[.slice (some ⟨g, 0, none⟩) len len] 35) = w7 at cX cA cB hC6 b6
      generalize w6.heap.size = X at cX
      refine (toProgram_copy b len' cap' rb _ (hb.below b6) hlen' (fun t _ => hs' t)).mono ?_
      rintro e w8 ⟨rfl, hC8, hb8⟩
      have b8 := bel_trans b6 hb8
      replace cA := cells_kept hb8 _ _ cA
      replace cB := cells_kept hb8 _ _ cB
      replace cX := cells_kept hb8 _ _ cX
      replace hC8 := hC8.codes
      replace hC6 := hC6.below hb8
      clear hb8 b6
      generalize w7.heap.size + 3 = g' at hC8
      have cX' : ∀ o, (w8.alloc o).cell? ⟨X, 0, none⟩ = some (.slice (some ⟨g, 0, none⟩) len len) := fun o => cells_kept (by go_grown) _ _ cX
      go_wp2_with fail
      clear cX'
      have cY : (w8.alloc (.cells #[.slice (some ⟨g', 0, none⟩) len' len'] 35)).cell? ⟨w8.heap.size, 0, none⟩ = some (.slice (some ⟨g', 0, none⟩) len' len') := by simp [go_sem]
      have hbx : Below w8.heap.size w8 (w8.alloc (.cells #[.slice (some ⟨g', 0, none⟩) len' len'] 35)) := by go_grown
      replace cA := cells_kept hbx _ _ cA
      replace cB := cells_kept hbx _ _ cB
      replace cX := cells_kept hbx _ _ cX
      replace hC6 := hC6.below hbx
      replace hC8 := hC8.below hbx
      replace b8 := bel_trans b8 hbx
      clear hbx
      generalize w8.alloc (.cells #[.slice (some ⟨g', 0, none⟩) len' len'] 35) = w9 at cX cY cA cB hC6 hC8 b8
      generalize w8.heap.size = Y at cY
      have k10 := implSame_is (some ⟨g, 0, none⟩) len len ra (some ⟨g', 0, none⟩) len' len' rb
      generalize sameP ra rb = p at k10
      have hne : (p != p) = false := by simp
      refine (k10 _ hC6 hC8).mono ?_
      rintro e w10 ⟨rfl, hb10⟩
      have b10 := bel_trans b8 hb10
      replace cA := cells_kept hb10 _ _ cA
      replace cB := cells_kept hb10 _ _ cB
      replace cX := cells_kept hb10 _ _ cX
      replace cY := cells_kept hb10 _ _ cY
      replace hC6 := hC6.below hb10
      replace hC8 := hC8.below hb10
      clear hb10 b8 k10
      go_wp2_with fail
      have hA : Codes w10.drew a len cap ra := (ha.below b10).below (by go_grown)
      have hX : Codes w10.drew (some ⟨g, 0, none⟩) len len ra := hC6.below (by go_grown)
      clear hC6
      go_region_held3 (fun w' => w'.cell? ⟨X, 0, none⟩ = some (.slice (some ⟨g, 0, none⟩) len len) ∧ w'.cell? ⟨w.heap.size, 0, none⟩ = some (.slice a len cap)) (first | (exact ⟨cX, cA⟩) | (exact ⟨cX6, cA6⟩) | (exact ⟨cells_kept hb12 _ _ cX6, cells_kept hb12 _ _ cA6⟩))
        (first | (go_at_call 12; refine (toProgram_copy a len cap ra _ hA hlen (fun t _ => hr' t)).mono ?_; rintro e w11 ⟨rfl, hC11, hb11⟩; have hD := hX.below hb11; have cX6 := cells_kept hb11 _ _ cX; have cA6 := cells_kept hb11 _ _ cA) | (go_at_call 14; refine (eqProgram_same _ _ _ _ _ ra _ hD hC11.codes).mono ?_; rintro e w12 ⟨rfl, hb12⟩))
      have hbw : Below w10.heap.size w10 w12 := bel_trans (by go_grown) (bel_trans hb11 hb12)
      have b12 := bel_trans b10 hbw
      replace cB := cells_kept hbw _ _ cB
      replace cY := cells_kept hbw _ _ cY
      replace hC8 := hC8.below hbw
      clear hbw hb11 hb12 hD hC11 cX6 cA6 hA hX cX cA b10
      go_wp2_with fail
      have hB : Codes w12.drew b len' cap' rb := (hb.below b12).below (by go_grown)
      have hY : Codes w12.drew (some ⟨g', 0, none⟩) len' len' rb := hC8.below (by go_grown)
      clear hC8
      go_region_held3 (fun w' => w'.cell? ⟨Y, 0, none⟩ = some (.slice (some ⟨g', 0, none⟩) len' len') ∧ w'.cell? ⟨w.heap.size + 1, 0, none⟩ = some (.slice b len' cap')) (first | (exact ⟨cY, cB⟩) | (exact ⟨cY6, cB6⟩) | (exact ⟨cells_kept hb14 _ _ cY6, cells_kept hb14 _ _ cB6⟩))
        (first | (go_at_call 12; refine (toProgram_copy b len' cap' rb _ hB hlen' (fun t _ => hs' t)).mono ?_; rintro e w13 ⟨rfl, hC13, hb13⟩; have hD := hY.below hb13; have cY6 := cells_kept hb13 _ _ cY; have cB6 := cells_kept hb13 _ _ cB) | (go_at_call 14; refine (eqProgram_same _ _ _ _ _ rb _ hD hC13.codes).mono ?_; rintro e w14 ⟨rfl, hb14⟩))
      have b14 : Below w.heap.size w w14 := bel_trans b12 (bel_trans (by go_grown) (bel_trans hb13 hb14))
      go_wp2
      go_ret
      exact ⟨rfl, b14⟩
end Go.Proofs.Ytiokkoaalakakaa
