
/-
  The specification's l09Changed.
-/
import Derived.Test.YtleiogcohkfgkaaVerP
import Derived.Test.YtleiogcohkfgkaaVerS
import Derived.Test.YtleiogcohkfgkaaCopyG
import Derived.Test.YtleiogcohkfgkaaDrawn
import Derived.Deep.RegionHeld3
namespace Go.Proofs.Ytleiogcohkfgkaa
open Go.RowKit
set_option linter.unusedVariables false
set_option linter.unusedSimpArgs false

/-- A row of integers of one's own: the items of some places. -/
def OwnP9 (w : World) (B : Nat) (v : Value) (L : List Pl9) : Prop := w.ownsRow B 3 1 v L.length ((L.map itm9).map (Value.int .i64))

set_option maxHeartbeats 4000000 in
set_option maxRecDepth 100000 in
theorem l09Changed_is {w : World} {a : Option Addr} {cap : Nat} {P : List (List I3)} (h : Codes w a 3 cap P) {a' : Option Addr} {cap' : Nat} {Q : List (List I3)} (h' : Codes w a' 3 cap' Q) :
    Calls Try.prog 23 #[.agg #[.slice a 3 cap], .agg #[.slice a' 3 cap']] w fun e w' => RowGot e w' w.heap.size (chgI P Q) ∧ Below w.heap.size w w' := by
  obtain ⟨i0, hi, hz0, hz1, hz2⟩ := info_parts info_int
  have bw : Below w.heap.size w ((w.alloc (.cells #[.slice a 3 cap] 31)).alloc (.cells #[.slice a' 3 cap'] 31)) := by go_grown
  have g0 : ((w.alloc (.cells #[.slice a 3 cap] 31)).alloc (.cells #[.slice a' 3 cap'] 31)).cell? ⟨w.heap.size, 0, none⟩ = some (.slice a 3 cap) := by first | (simp [go_sem]; done) | (simp [World.cell?]; done)
  have g1 : ((w.alloc (.cells #[.slice a 3 cap] 31)).alloc (.cells #[.slice a' 3 cap'] 31)).cell? ⟨w.heap.size + 1, 0, none⟩ = some (.slice a' 3 cap') := by first | (simp [go_sem]; done) | (simp [World.cell?]; done)
  replace h := h.below bw
  replace h' := h'.below bw
  go_enter Try.func23, Try.ntmps23
  have q0 := empty8 ((w.alloc (.cells #[.slice a 3 cap] 31)).alloc (.cells #[.slice a' 3 cap'] 31)) 3 1 _ (Nat.le_refl _)
  have b0 : Below ((w.alloc (.cells #[.slice a 3 cap] 31)).alloc (.cells #[.slice a' 3 cap'] 31)).heap.size ((w.alloc (.cells #[.slice a 3 cap] 31)).alloc (.cells #[.slice a' 3 cap'] 31)) (((w.alloc (.cells #[.slice a 3 cap] 31)).alloc (.cells #[.slice a' 3 cap'] 31)).alloc (.cells #[] 3)) := by go_grown
  have hs2 : ((w.alloc (.cells #[.slice a 3 cap] 31)).alloc (.cells #[.slice a' 3 cap'] 31)).heap.size = w.heap.size + 2 := by simp
  go_wp2_with fail
  generalize ((w.alloc (.cells #[.slice a 3 cap] 31)).alloc (.cells #[.slice a' 3 cap'] 31)) = U at *
  go_loopw [5, 6] (fun so si wr => ∃ (k : Nat) (v : Value), v = so ∧ k ≤ 3 ∧ si = .int .i64 k ∧ OwnP9 wr U.heap.size v (upto9 P Q k) ∧ Below U.heap.size U wr) (fun _ si _ => 3 - (Go.RowKit.intOf si).toNat)
  case atStart => exact ⟨0, _, rfl, by omega, rfl, by have q1 := q0; simp only [hs2] at q1 ⊢; exact q1, b0⟩
  case round =>
    clear q0 b0
    obtain ⟨k, so, rfl, hk, rfl, q, bu⟩ := hrel
    by_cases hlt : k < 3
    · have hlt2 : (k : Int) < 3 := by omega
      have hL := upto9_len P Q k
      go_wp2_with fail
      go_loopw [5, 7] (fun so si wr => ∃ (p : Nat) (v : Value), v = so ∧ p ≤ 7 ∧ si = .int .i64 p ∧ OwnP9 wr U.heap.size v (upto9 P Q k ++ row9 P Q k p) ∧ Below U.heap.size U wr) (fun _ si _ => 7 - (Go.RowKit.intOf si).toNat)
      case atStart => exact ⟨0, _, rfl, by omega, rfl, by rw [row9_zero, List.append_nil]; exact q, bu⟩
      case round =>
        clear q bu
        obtain ⟨p, so, rfl, hp, rfl, q, bu⟩ := hrel
        by_cases hpl : p < 7
        · have hpl2 : (p : Int) ≤ 6 := by omega
          have c0 := cells_kept bu _ _ g0
          have c1 := cells_kept bu _ _ g1
          have kI := fun W => l08Item_is (k : Int) (p : Int) W (inB8_true.2 (by omega)) (inB8_true.2 (by omega))
          have kA := fun W (hb : Below U.heap.size U W) => l09Alike_is (h.below hb) (h'.below hb) hlt hpl rfl
          have bd : Below U.heap.size U wr.drew := bel8 bu (by go_grown)
          have hR := row9_len P Q k p
          have hn9 : (upto9 P Q k ++ row9 P Q k p).length ≤ 21 := by rw [List.length_append]; omega
          by_cases hE : atM9 P k p = atM9 Q k p
          · rw [← row9_same hE] at q
            rw [decide_eq_true hE] at kA
            clear hE
            go_wp2_with fail
            refine wp_region_held_drew (S := (fun w' => w'.cell? ⟨w.heap.size, 0, none⟩ = some (.slice a 3 cap) ∧ w'.cell? ⟨w.heap.size + 1, 0, none⟩ = some (.slice a' 3 cap'))) (by kernel_rfl) ⟨c0, c1⟩ (fun hS0 => ?_)
            refine wpAnyH_take (i := 0) (oi := { dst := some 17, op := _, type := _, pos := _, after := _, guard := _ }) (v := .agg #[.slice a 3 cap]) rfl (by kernel_rfl) (by kernel_rfl) (by kernel_rfl) (fun _ _ _ h => h) (Or.inl ⟨by rfl, ?_⟩) (by assumption) ?_
            · (intro w' hSw; (try dsimp only at hSw); go_simp; try rfl)
            simp only [Act.put, List.setIfInBounds_toArray, List.set_cons_zero, List.set_cons_succ]
            refine wpAnyH_take (i := 1) (oi := { dst := some 18, op := _, type := _, pos := _, after := _, guard := _ }) (v := .agg #[.slice a' 3 cap']) rfl (by kernel_rfl) (by kernel_rfl) (by kernel_rfl) (fun _ _ _ h => h) (Or.inl ⟨by rfl, ?_⟩) (by assumption) ?_
            · (intro w' hSw; (try dsimp only at hSw); go_simp; try rfl)
            simp only [Act.put, List.setIfInBounds_toArray, List.set_cons_zero, List.set_cons_succ]
            refine wpAnyH_take (i := 2) (oi := { dst := some 19, op := _, type := _, pos := _, after := _, guard := _ }) (v := .int .i64 k) rfl (by kernel_rfl) (by kernel_rfl) (by kernel_rfl) (fun _ _ _ h => h) (Or.inl ⟨by rfl, ?_⟩) (by assumption) ?_
            · (intro w' hSw; (try dsimp only at hSw); go_simp; try rfl)
            simp only [Act.put, List.setIfInBounds_toArray, List.set_cons_zero, List.set_cons_succ]
            refine wpAnyH_take (i := 3) (oi := { dst := some 20, op := _, type := _, pos := _, after := _, guard := _ }) (v := .int .i64 p) rfl (by kernel_rfl) (by kernel_rfl) (by kernel_rfl) (fun _ _ _ h => h) (Or.inl ⟨by rfl, ?_⟩) (by assumption) ?_
            · (intro w' hSw; (try dsimp only at hSw); go_simp; try rfl)
            simp only [Act.put, List.setIfInBounds_toArray, List.set_cons_zero, List.set_cons_succ]
            refine wpAnyH_ready (rs := [4]) (by kernel_rfl) (by simp) ?_
            refine AllReadyH.cons (o := { dst := some 21, op := _, type := _, pos := _, after := _, guard := _ }) rfl (fun K hK => ?_) AllReadyH.nil
            go_simp
            refine (kI _).mono ?_
            rintro e w3 ⟨rfl, rfl⟩
            go_wp2_with fail
            refine hK.out _ _ ?_ (fun hS1 => ?_)
            · exact hS0
            clear hK
            refine wpAnyH_ready (rs := [5]) (by kernel_rfl) (by simp) ?_
            refine AllReadyH.cons (o := { dst := some 22, op := _, type := _, pos := _, after := _, guard := _ }) rfl (fun K hK => ?_) AllReadyH.nil
            go_simp
            refine (kA _ bd).mono ?_
            rintro e w4 ⟨rfl, hb⟩
            go_wp2_with fail
            refine hK.out _ _ ?_ (fun hS2 => ?_)
            · exact ⟨cells_kept hb _ _ hS0.1, cells_kept hb _ _ hS0.2⟩
            clear hK
            refine wpAnyH_take (i := 6) (oi := { dst := some 23, op := _, type := _, pos := _, after := _, guard := _ }) (v := .bool false) rfl (by kernel_rfl) (by kernel_rfl) (by kernel_rfl) (fun _ _ _ h => h) (Or.inl ⟨by rfl, ?_⟩) (by assumption) ?_
            · (intro w' hSw; (try dsimp only at hSw); go_simp; try rfl)
            simp only [Act.put, List.setIfInBounds_toArray, List.set_cons_zero, List.set_cons_succ]
            refine wpAnyH_done (by kernel_rfl) ?_ _
            replace bu := bel8 bd hb
            replace q : OwnP9 w4 U.heap.size so (upto9 P Q k ++ row9 P Q k (p + 1)) := owns8 q.drew hb
            clear hS0 hS1 hS2 hb bd c0 c1
            go_wp2
            go_roundw
            case rel => exact ⟨p + 1, _, rfl, by omega, by go_num, q, bu⟩
            case measure => simp [Go.RowKit.intOf]; omega
          · have hq := row9_new hE
            rw [decide_eq_false hE] at kA
            have HQ : Hid (upto9 P Q k ++ row9 P Q k (p + 1) = (upto9 P Q k ++ row9 P Q k p) ++ [(k, p)]) := by rw [Hid, hq, List.append_assoc]
            clear hE hq
            go_wp2_with fail
            refine wp_region_held_drew (S := (fun w' => w'.cell? ⟨w.heap.size, 0, none⟩ = some (.slice a 3 cap) ∧ w'.cell? ⟨w.heap.size + 1, 0, none⟩ = some (.slice a' 3 cap'))) (by kernel_rfl) ⟨c0, c1⟩ (fun hS0 => ?_)
            refine wpAnyH_take (i := 0) (oi := { dst := some 17, op := _, type := _, pos := _, after := _, guard := _ }) (v := .agg #[.slice a 3 cap]) rfl (by kernel_rfl) (by kernel_rfl) (by kernel_rfl) (fun _ _ _ h => h) (Or.inl ⟨by rfl, ?_⟩) (by assumption) ?_
            · (intro w' hSw; (try dsimp only at hSw); go_simp; try rfl)
            simp only [Act.put, List.setIfInBounds_toArray, List.set_cons_zero, List.set_cons_succ]
            refine wpAnyH_take (i := 1) (oi := { dst := some 18, op := _, type := _, pos := _, after := _, guard := _ }) (v := .agg #[.slice a' 3 cap']) rfl (by kernel_rfl) (by kernel_rfl) (by kernel_rfl) (fun _ _ _ h => h) (Or.inl ⟨by rfl, ?_⟩) (by assumption) ?_
            · (intro w' hSw; (try dsimp only at hSw); go_simp; try rfl)
            simp only [Act.put, List.setIfInBounds_toArray, List.set_cons_zero, List.set_cons_succ]
            refine wpAnyH_take (i := 2) (oi := { dst := some 19, op := _, type := _, pos := _, after := _, guard := _ }) (v := .int .i64 k) rfl (by kernel_rfl) (by kernel_rfl) (by kernel_rfl) (fun _ _ _ h => h) (Or.inl ⟨by rfl, ?_⟩) (by assumption) ?_
            · (intro w' hSw; (try dsimp only at hSw); go_simp; try rfl)
            simp only [Act.put, List.setIfInBounds_toArray, List.set_cons_zero, List.set_cons_succ]
            refine wpAnyH_take (i := 3) (oi := { dst := some 20, op := _, type := _, pos := _, after := _, guard := _ }) (v := .int .i64 p) rfl (by kernel_rfl) (by kernel_rfl) (by kernel_rfl) (fun _ _ _ h => h) (Or.inl ⟨by rfl, ?_⟩) (by assumption) ?_
            · (intro w' hSw; (try dsimp only at hSw); go_simp; try rfl)
            simp only [Act.put, List.setIfInBounds_toArray, List.set_cons_zero, List.set_cons_succ]
            refine wpAnyH_ready (rs := [4]) (by kernel_rfl) (by simp) ?_
            refine AllReadyH.cons (o := { dst := some 21, op := _, type := _, pos := _, after := _, guard := _ }) rfl (fun K hK => ?_) AllReadyH.nil
            go_simp
            refine (kI _).mono ?_
            rintro e w3 ⟨rfl, rfl⟩
            go_wp2_with fail
            refine hK.out _ _ ?_ (fun hS1 => ?_)
            · exact hS0
            clear hK
            refine wpAnyH_ready (rs := [5]) (by kernel_rfl) (by simp) ?_
            refine AllReadyH.cons (o := { dst := some 22, op := _, type := _, pos := _, after := _, guard := _ }) rfl (fun K hK => ?_) AllReadyH.nil
            go_simp
            refine (kA _ bd).mono ?_
            rintro e w4 ⟨rfl, hb⟩
            go_wp2_with fail
            refine hK.out _ _ ?_ (fun hS2 => ?_)
            · exact ⟨cells_kept hb _ _ hS0.1, cells_kept hb _ _ hS0.2⟩
            clear hK
            refine wpAnyH_take (i := 6) (oi := { dst := some 23, op := _, type := _, pos := _, after := _, guard := _ }) (v := .bool true) rfl (by kernel_rfl) (by kernel_rfl) (by kernel_rfl) (fun _ _ _ h => h) (Or.inl ⟨by rfl, ?_⟩) (by assumption) ?_
            · (intro w' hSw; (try dsimp only at hSw); go_simp; try rfl)
            simp only [Act.put, List.setIfInBounds_toArray, List.set_cons_zero, List.set_cons_succ]
            refine wpAnyH_done (by kernel_rfl) ?_ _
            replace bu := bel8 bd hb
            replace q : OwnP9 w4 U.heap.size so (upto9 P Q k ++ row9 P Q k p) := owns8 q.drew hb
            clear hS0 hS1 hS2 hb bd c0 c1
            go_wp2_with fail
            refine (kI _).mono ?_
            rintro e w5 ⟨rfl, rfl⟩
            clear kI kA
            unfold OwnP9 at q
            generalize upto9 P Q k ++ row9 P Q k p = L at *
            have hsz := bu.size
            go_wp2_with (at_builtin; refine wpList_append_own _ rfl _ _ 26 rfl U.heap.size 3 i0 (.int .i64 0) 1 8 Try.underlying26 hi hz0 hz1 hz2 rfl (by decide) _ _ _ rfl (q.alloc _) ⟨w4.heap.size, 0, none⟩ 1 1 [.int .i64 (8 * (k : Int) + (p : Int))] rfl rfl (cell_one_new _ _ _) (by simp [Value.oneCell']) ?c3 ?c4 ?c5 ?_)
            case c3 => unfold maxLen; omega
            case c4 => omega
            case c5 => simp; omega
            intro v' wn hown' hgrow _
            have bn : Below U.heap.size U wn := (bu.alloc hsz _).grown hgrow (by simp; omega) (fun k hk => (q.lt k hk).1)
            have qn : OwnP9 wn U.heap.size v' (upto9 P Q k ++ row9 P Q k (p + 1)) := by
              unfold OwnP9
              rw [HQ.out, hs2, List.length_append, List.map_append, List.map_append, List.map_map]
              exact hown'
            clear hgrow q bu hown' HQ
            go_wp2
            go_roundw
            case rel => exact ⟨p + 1, _, rfl, by omega, by go_num, qn, bn⟩
            case measure => simp [Go.RowKit.intOf]; omega
        · obtain rfl : p = 7 := by omega
          rw [← upto9_succ] at q
          go_wp2
          go_roundw
          case rel => exact ⟨k + 1, _, rfl, by omega, by go_num, q, bu⟩
          case measure => simp [Go.RowKit.intOf]; omega
    · obtain rfl : k = 3 := by omega
      go_wp2
      go_ret
      refine ⟨⟨_, rfl, ?_⟩, bel8 bw bu⟩
      have : (chgI P Q).length = (upto9 P Q 3).length := by unfold chgI chg9; rw [List.length_map]
      rw [this]
      exact lower8 q (by omega)
end Go.Proofs.Ytleiogcohkfgkaa
