/-
  spec.l02Read: an instruction read from its words.
-/
import Derived.Test.YtiokkoaalakakaaDoorReadP
import Derived.Test.YtiokkoaalakakaaDoorDigS2
import Derived.Test.YtiokkoaalakakaaDoorStrS
import Derived.Test.YtiokkoaalakakaaDoorMarkP
import Derived.Test.YtiokkoaalakakaaDoorInstrS
import Derived.Deep.RegionHeld3
namespace Go.Proofs.YtiokkoaalakakaaDoor
open Go.RowKit

theorem box3_nw (w : World) (x y z : Value) (t B : Nat) (hB : B ≤ w.heap.size) : (w.alloc (.cells #[x, y, z] t)).ownsRow B t 3 (.slice (some ⟨w.heap.size, 0, none⟩) 1 1) 1 [x, y, z] := World.ownsRow_lit w #[x, y, z] 1 hB (by unfold maxLen; omega) rfl
theorem l01Bit_is (b : Bool) (w : World) : Calls Tryd.prog 60 #[.bool b] w fun e w' => e = .returned (.int .i64 (if b then 1 else 0)) ∧ w = w' := by
  cases b
  · go_enter Tryd.func60, Tryd.ntmps60
    go_wp2
    go_ret
    exact ⟨rfl, rfl⟩
  · go_enter Tryd.func60, Tryd.ntmps60
    go_wp2
    go_ret
    exact ⟨rfl, rfl⟩
/-- The word's number as far as the loop has looked. -/
def opTo (k i : Nat) : Int := if k < i then (k : Int) else 0
theorem opTo_one (k : Nat) : opTo k 1 = 0 := by
  unfold opTo
  split
  · omega
  · rfl
theorem opTo_hit (k : Nat) : opTo k (k + 1) = (k : Int) := by simp [opTo]
theorem opTo_next {k i : Nat} (h : k ≠ i) : opTo k (i + 1) = opTo k i := by
  unfold opTo
  by_cases h' : k < i
  · rw [if_pos h', if_pos (by omega)]
  · rw [if_neg h', if_neg (by omega)]

set_option maxHeartbeats 8000000 in
set_option maxRecDepth 100000 in
theorem l02Read_any (a0 : Option Addr) (n cap : Nat) (ts : List ByteArray) (w : World) (h : Strs w a0 n cap ts) (hn : n ≤ 2000000) (hsz : ∀ t ∈ ts, t.size ≤ maxLen) :
    Calls Tryd.prog 34 #[.slice a0 n cap] w fun e w' => ReadOut ts e ∧ Below w.heap.size w w' := by
  have hR1 := (box3_nw w (.int .i64 0) (.int .i64 0) (.int .i64 0) 26 w.heap.size (Nat.le_refl _)).alloc (.cells #[.int .i64 0, .int .i64 0, .int .i64 0] 26)
  have hX1 := box3_nw (w.alloc (.cells #[.int .i64 0, .int .i64 0, .int .i64 0] 26)) (.int .i64 0) (.int .i64 0) (.int .i64 0) 26 w.heap.size (by simp)
  have bA : Below w.heap.size w ((w.alloc (.cells #[.int .i64 0, .int .i64 0, .int .i64 0] 26)).alloc (.cells #[.int .i64 0, .int .i64 0, .int .i64 0] 26)) := by go_grown
  try simp only [World.size_alloc] at hX1
  have hXw : w.heap.size < w.heap.size + 1 := by omega
  by_cases h0 : n = 0
  · subst h0
    obtain rfl : ts = [] := List.eq_nil_of_length_eq_zero h.1
    have HN : Hid (NoRead []) := noRead_nil
    clear h hsz
    go_enter Tryd.func34, Tryd.ntmps34
    go_wp2
    generalize w.heap.size + 1 = X at hX1 hXw
    generalize (w.alloc (.cells #[.int .i64 0, .int .i64 0, .int .i64 0] 26)).alloc (.cells #[.int .i64 0, .int .i64 0, .int .i64 0] 26) = wA at hR1 hX1 bA
    refine wp_loop_rounds 1 ?_
    rw [rounds_succ]
    go_wp2_with fail
    refine (l02Words_is _).mono ?_
    rintro e w1 ⟨rfl, _, hb1⟩
    have hRr := owns_below hR1 hb1
    have hXr := owns_below hX1 hb1
    have hbw := bel_trans bA hb1
    clear hb1 hR1 hX1 bA
    have x0 : w1.cell? ⟨X, 0, none⟩ = some (.int .i64 0) := by simpa using hXr.cellAt 0 (by omega)
    have x1 : w1.cell? ⟨X, 1, none⟩ = some (.int .i64 0) := by simpa using hXr.cellAt 1 (by omega)
    have x2 : w1.cell? ⟨X, 2, none⟩ = some (.int .i64 0) := by simpa using hXr.cellAt 2 (by omega)
    have kR0 : w1.cell? ⟨w.heap.size, 0, none⟩ = some (.int .i64 0) := by simpa using hRr.cellAt 0 (by omega)
    have kR1 : w1.cell? ⟨w.heap.size, 1, none⟩ = some (.int .i64 0) := by simpa using hRr.cellAt 1 (by omega)
    have kR2 : w1.cell? ⟨w.heap.size, 2, none⟩ = some (.int .i64 0) := by simpa using hRr.cellAt 2 (by omega)
    have fR0 := hRr.frozenAt 0
    have fR1 := hRr.frozenAt 1
    have fR2 := hRr.frozenAt 2
    have hRn := (((hRr.stored 0 (.int .i64 0)).1.stored 1 (.int .i64 0)).1.stored 2 (.int .i64 0)).1
    have hb9 := ((hbw.setCell (p := ⟨w.heap.size, 0, none⟩) (Nat.le_refl _) (.int .i64 0)).setCell (p := ⟨w.heap.size, 1, none⟩) (Nat.le_refl _) (.int .i64 0)).setCell (p := ⟨w.heap.size, 2, none⟩) (Nat.le_refl _) (.int .i64 0)
    clear hRr hbw hXr
    go_wp2
    clear kR0 kR1 kR2 fR0 fR1 fR2
    generalize ((w1.setCell ⟨w.heap.size, 0, none⟩ (.int .i64 0)).setCell ⟨w.heap.size, 1, none⟩ (.int .i64 0)).setCell ⟨w.heap.size, 2, none⟩ (.int .i64 0) = w9 at hRn hb9
    have k0 : w9.cell? ⟨w.heap.size, 0, none⟩ = some (.int .i64 0) := by simpa using hRn.cellAt 0 (by omega)
    have k1 : w9.cell? ⟨w.heap.size, 1, none⟩ = some (.int .i64 0) := by simpa using hRn.cellAt 1 (by omega)
    have k2 : w9.cell? ⟨w.heap.size, 2, none⟩ = some (.int .i64 0) := by simpa using hRn.cellAt 2 (by omega)
    refine bodyPost_ret (by simp [results, Tryd.results34, go_sem, k0, k1, k2]; try rfl) rfl ?_
    exact ⟨.inr ⟨HN.out, (0, 0, 0), rfl⟩, hb9⟩
  have hl := h.1
  have hcm := h.2.2.1
  have hlc := h.2.1
  unfold maxLen at hcm
  obtain ⟨b0, off, rfl, hblt, hcell⟩ : ∃ b off, a0 = some ⟨b, off, none⟩ ∧ b < w.heap.size ∧ ∀ t, t < n → w.cell? ⟨b, off + t, none⟩ = some (.string (ts.getD t ByteArray.empty)) := by
    rcases h.2.2.2 with h' | h'
    · exact absurd h' h0
    · exact h'
  obtain ⟨t0, rest, rfl⟩ : ∃ t0 rest, ts = t0 :: rest := by
    cases ts with
    | nil => simp at hl; omega
    | cons t0 rest => exact ⟨t0, rest, rfl⟩
  have hc0 : w.cell? ⟨b0, off, none⟩ = some (.string t0) := by simpa using hcell 0 (by omega)
  have hnp : (0 : Int) < (n : Int) := by omega
  have hk9 := opK_lt t0
  have hrl : rest.length + 1 = n := by simpa using hl
  clear h
  have h0op : Hid (opK t0 = 0 → NoRead (t0 :: rest)) := fun h => noRead_op rfl h
  have h2op : Hid ((opK t0 = 5 ∨ opK t0 = 6) → n ≠ 2 → NoRead (t0 :: rest)) := fun h h' => noRead_len2 rfl h (by rw [hl]; exact h')
  have h3op : Hid (¬ (opK t0 = 5 ∨ opK t0 = 6) → n ≠ 3 → NoRead (t0 :: rest)) := fun h h' => noRead_len3 rfl h (by rw [hl]; exact h')
  have hEq : ∀ i, i ≠ 0 → i < 9 → (opB i = t0 ↔ opK t0 = i) := fun i hi hi9 => opK_eq hi hi9
  obtain ⟨k, hk⟩ : ∃ k, k = opK t0 := ⟨_, rfl⟩
  rw [← hk] at h0op h2op h3op hk9 hEq
  have HK : Hid (k = opK t0) := hk
  clear hk
  go_enter Tryd.func34, Tryd.ntmps34
  go_wp2
  generalize w.heap.size + 1 = X at hX1 hXw
  generalize (w.alloc (.cells #[.int .i64 0, .int .i64 0, .int .i64 0] 26)).alloc (.cells #[.int .i64 0, .int .i64 0, .int .i64 0] 26) = wA at hR1 hX1 bA
  go_loopw [5] (fun si wr => ∃ i : Nat, 1 ≤ i ∧ i ≤ 9 ∧ si = .int .i64 i ∧ wr.ownsRow w.heap.size 26 3 (.slice (some ⟨X, 0, none⟩) 1 1) 1 [.int .i64 (opTo k i), .int .i64 0, .int .i64 0] ∧ wr.ownsRow w.heap.size 26 3 (.slice (some ⟨w.heap.size, 0, none⟩) 1 1) 1 [.int .i64 0, .int .i64 0, .int .i64 0] ∧ Below w.heap.size w wr) (fun si _ => 9 - (intOf si).toNat)
  case atStart => exact ⟨1, by omega, by omega, rfl, by rw [opTo_one]; exact hX1, hR1, bA⟩
  case round =>
    clear hX1 hR1 bA
    obtain ⟨i, hi1, hi9, rfl, hXr, hRr, hbw⟩ := hrel
    by_cases hlt : i < 9
    · have hlt2 : (i : Int) < 9 := by omega
      have hi0 : (0 : Int) ≤ (i : Int) := by omega
      go_wp2_with fail
      refine (l02Words_is _).mono ?_
      rintro e w1 ⟨rfl, _, hb1⟩
      replace hRr := owns_below hRr hb1
      replace hXr := owns_below hXr hb1
      replace hbw := bel_trans hbw hb1
      clear hb1
      have ct : w1.cell? ⟨b0, off, none⟩ = some (.string t0) := by rw [hbw.cell (p := ⟨b0, _, none⟩) hblt]; exact hc0
      go_wp2_with fail
      refine wp_region_held_drew (S := (fun w' => w'.cell? ⟨b0, off, none⟩ = some (.string t0))) (by kernel_rfl) ct (fun hS0 => ?_)
      refine wpAnyH_take (i := 1) (oi := { dst := some 24, op := _, type := _, pos := _, after := _, guard := _ }) (v := .int .i64 (i : Int)) rfl (by kernel_rfl) (by kernel_rfl) (by kernel_rfl) (fun _ _ _ h => h) (Or.inl ⟨by rfl, ?_⟩) (by assumption) ?_
      · (intro w' hSw; (try dsimp only at hSw); go_simp; try rfl)
      simp only [Act.put, List.setIfInBounds_toArray, List.set_cons_zero, List.set_cons_succ]
      refine wpAnyH_take (i := 4) (oi := { dst := some 27, op := _, type := _, pos := _, after := _, guard := _ }) (v := .slice (some ⟨b0, off, none⟩) n cap) rfl (by kernel_rfl) (by kernel_rfl) (by kernel_rfl) (fun _ _ _ h => h) (Or.inl ⟨by rfl, ?_⟩) (by assumption) ?_
      · (intro w' hSw; (try dsimp only at hSw); go_simp; try rfl)
      simp only [Act.put, List.setIfInBounds_toArray, List.set_cons_zero, List.set_cons_succ]
      refine wpAnyH_take (i := 5) (oi := { dst := some 28, op := _, type := _, pos := _, after := _, guard := _ }) (v := .pointer (some ⟨b0, off, none⟩)) rfl (by kernel_rfl) (by kernel_rfl) (by kernel_rfl) (fun _ _ _ h => h) (Or.inl ⟨by rfl, ?_⟩) (by assumption) ?_
      · (intro w' hSw; (try dsimp only at hSw); go_simp; try rfl)
      simp only [Act.put, List.setIfInBounds_toArray, List.set_cons_zero, List.set_cons_succ]
      refine wpAnyH_take (i := 6) (oi := { dst := some 29, op := _, type := _, pos := _, after := _, guard := _ }) (v := .string t0) rfl (by kernel_rfl) (by kernel_rfl) (by kernel_rfl) (fun _ _ _ h => h) (Or.inl ⟨by rfl, ?_⟩) (by assumption) ?_
      · (intro w' hSw; (try dsimp only at hSw); go_simp; try rfl)
      simp only [Act.put, List.setIfInBounds_toArray, List.set_cons_zero, List.set_cons_succ]
      refine wpAnyH_ready (rs := [0]) (by kernel_rfl) (by simp) ?_
      refine AllReadyH.cons (o := { dst := some 23, op := _, type := _, pos := _, after := _, guard := _ }) rfl (fun K hK => ?_) AllReadyH.nil
      go_simp
      refine (l02Words_is _).mono ?_
      rintro e w2 ⟨rfl, hW, hb2⟩
      go_wp2_with fail
      refine hK.out _ _ ?_ (fun hS1 => ?_)
      · exact cells_kept hb2 _ _ hS0
      clear hK
      have hWk : w2.cell? ⟨w1.heap.size, i, none⟩ = some (.string (opB i)) := hW i (by omega)
      clear hW
      refine wpAnyH_take (i := 2) (oi := { dst := some 25, op := _, type := _, pos := _, after := _, guard := _ }) (v := .pointer (some ⟨w1.heap.size, i, none⟩)) rfl (by kernel_rfl) (by kernel_rfl) (by kernel_rfl) (fun _ _ _ h => h) (Or.inl ⟨by rfl, ?_⟩) (by assumption) ?_
      · (intro w' hSw; (try dsimp only at hSw); go_simp; try rfl)
      simp only [Act.put, List.setIfInBounds_toArray, List.set_cons_zero, List.set_cons_succ]
      refine wpAnyH_ready (rs := [3]) (by kernel_rfl) (by simp) ?_
      refine AllReadyH.cons (o := { dst := some 26, op := _, type := _, pos := _, after := _, guard := _ }) rfl (fun K hK => ?_) AllReadyH.nil
      go_simp
      refine hK.out _ _ hS1 (fun hS2 => ?_)
      clear hK
      replace hRr := owns_below hRr.drew hb2
      replace hXr := owns_below hXr.drew hb2
      replace hbw := bel_trans hbw (bel_trans (by go_grown) hb2)
      by_cases hki : k = i
      · have hto : opB i = t0 := (hEq i (by omega) hlt).2 hki
        have hxx : (t0.toList == t0.toList) = true := by simp
        rw [hto]
        rw [hto] at hWk
        refine wpAnyH_take (i := 7) (oi := { dst := some 30, op := _, type := _, pos := _, after := _, guard := _ }) (v := .bool true) rfl (by kernel_rfl) (by kernel_rfl) (by kernel_rfl) (fun _ _ _ h => h) (Or.inl ⟨by rfl, ?_⟩) (by assumption) ?_
        · (intro w' hSw; (try dsimp only at hSw); go_simp; try rfl)
        simp only [Act.put, List.setIfInBounds_toArray, List.set_cons_zero, List.set_cons_succ]
        refine wpAnyH_done (by kernel_rfl) ?_ _
        have xs : w2.cell? ⟨X, 0, none⟩ = some (.int .i64 (opTo k i)) := by simpa using hXr.cellAt 0 (by omega)
        have fs := hXr.frozenAt 0
        have hXn := (hXr.stored 0 (.int .i64 (i : Int))).1
        have hRn : (w2.setCell ⟨X, 0, none⟩ (.int .i64 (i : Int))).ownsRow w.heap.size 26 3 (.slice (some ⟨w.heap.size, 0, none⟩) 1 1) 1 [.int .i64 0, .int .i64 0, .int .i64 0] := ownsRow_setCell_other hRr (by simp [Value.ownBlock]; omega) _
        have hbn : Below w.heap.size w (w2.setCell ⟨X, 0, none⟩ (.int .i64 (i : Int))) := hbw.setCell (show w.heap.size ≤ X by omega) _
        simp only [List.set_cons_zero] at hXn
        have hE : opTo k (i + 1) = (i : Int) := by rw [← hki]; exact opTo_hit k
        have HE : Hid (opTo k (i + 1) = (i : Int)) := hE
        clear hRr hXr hbw hS0 hS1 hS2 hWk hb2 ct hto hE hki
        go_wp2
        go_roundw
        case rel => exact ⟨i + 1, by omega, by omega, by go_num, by rw [HE.out]; exact hXn, hRn, hbn⟩
        case measure => simp [intOf]; omega
      · have hto : opB i ≠ t0 := fun e => hki ((hEq i (by omega) hlt).1 e)
        have hxx := beq_tx _ _ hto
        have HE : Hid (opTo k (i + 1) = opTo k i) := opTo_next hki
        clear hto hki
        generalize opB i = tk at hWk hxx
        refine wpAnyH_take (i := 7) (oi := { dst := some 30, op := _, type := _, pos := _, after := _, guard := _ }) (v := .bool false) rfl (by kernel_rfl) (by kernel_rfl) (by kernel_rfl) (fun _ _ _ h => h) (Or.inl ⟨by rfl, ?_⟩) (by assumption) ?_
        · (intro w' hSw; (try dsimp only at hSw); go_simp; try rfl)
        simp only [Act.put, List.setIfInBounds_toArray, List.set_cons_zero, List.set_cons_succ]
        refine wpAnyH_done (by kernel_rfl) ?_ _
        clear hS0 hS1 hS2 hWk hb2 ct
        go_wp2
        go_roundw
        case rel => exact ⟨i + 1, by omega, by omega, by go_num, by rw [HE.out]; exact hXr, hRr, hbw⟩
        case measure => simp [intOf]; omega
    · obtain rfl : i = 9 := by omega
      have e9 : opTo k 9 = (k : Int) := by unfold opTo; rw [if_pos hk9]
      rw [e9] at hXr
      clear e9 hEq
      go_wp2_with fail
      refine (l02Words_is _).mono ?_
      rintro e w1 ⟨rfl, _, hb1⟩
      replace hRr := owns_below hRr hb1
      replace hXr := owns_below hXr hb1
      replace hbw := bel_trans hbw hb1
      clear hb1
      have x0 : w1.cell? ⟨X, 0, none⟩ = some (.int .i64 (k : Int)) := by simpa using hXr.cellAt 0 (by omega)
      have x1 : w1.cell? ⟨X, 1, none⟩ = some (.int .i64 0) := by simpa using hXr.cellAt 1 (by omega)
      have x2 : w1.cell? ⟨X, 2, none⟩ = some (.int .i64 0) := by simpa using hXr.cellAt 2 (by omega)
      by_cases hk0 : k = 0
      · have HN : Hid (NoRead (t0 :: rest)) := h0op.out hk0
        subst hk0
        have kR0 : w1.cell? ⟨w.heap.size, 0, none⟩ = some (.int .i64 0) := by simpa using hRr.cellAt 0 (by omega)
        have kR1 : w1.cell? ⟨w.heap.size, 1, none⟩ = some (.int .i64 0) := by simpa using hRr.cellAt 1 (by omega)
        have kR2 : w1.cell? ⟨w.heap.size, 2, none⟩ = some (.int .i64 0) := by simpa using hRr.cellAt 2 (by omega)
        have fR0 := hRr.frozenAt 0
        have fR1 := hRr.frozenAt 1
        have fR2 := hRr.frozenAt 2
        have hRn := (((hRr.stored 0 (.int .i64 0)).1.stored 1 (.int .i64 0)).1.stored 2 (.int .i64 0)).1
        have hb9 := ((hbw.setCell (p := ⟨w.heap.size, 0, none⟩) (Nat.le_refl _) (.int .i64 0)).setCell (p := ⟨w.heap.size, 1, none⟩) (Nat.le_refl _) (.int .i64 0)).setCell (p := ⟨w.heap.size, 2, none⟩) (Nat.le_refl _) (.int .i64 0)
        clear hRr hbw hXr h0op h2op h3op
        go_wp2
        clear kR0 kR1 kR2 fR0 fR1 fR2
        generalize ((w1.setCell ⟨w.heap.size, 0, none⟩ (.int .i64 0)).setCell ⟨w.heap.size, 1, none⟩ (.int .i64 0)).setCell ⟨w.heap.size, 2, none⟩ (.int .i64 0) = w9 at hRn hb9
        have k0 : w9.cell? ⟨w.heap.size, 0, none⟩ = some (.int .i64 0) := by simpa using hRn.cellAt 0 (by omega)
        have k1 : w9.cell? ⟨w.heap.size, 1, none⟩ = some (.int .i64 0) := by simpa using hRn.cellAt 1 (by omega)
        have k2 : w9.cell? ⟨w.heap.size, 2, none⟩ = some (.int .i64 0) := by simpa using hRn.cellAt 2 (by omega)
        refine bodyPost_ret (by simp [results, Tryd.results34, go_sem, k0, k1, k2]; try rfl) rfl ?_
        exact ⟨.inr ⟨HN.out, (0, 0, 0), rfl⟩, hb9⟩
      have hk0' : ((k : Int) == 0) = false := beq_eq_false_iff_ne.2 (by omega)
      by_cases h56 : k = 5 ∨ k = 6
      · clear h0op h3op
        by_cases hn2 : n = 2
        · subst hn2
          obtain ⟨t1, rfl⟩ : ∃ t1, rest = [t1] := by
            match rest, hrl with
            | [t1], _ => exact ⟨t1, rfl⟩
          have c1 : w.cell? ⟨b0, off + 1, none⟩ = some (.string t1) := by simpa using hcell 1 (by omega)
          have hz1 : t1.size ≤ maxLen := hsz t1 (by simp)
          clear h2op hcell hl hrl hsz
          rcases h56 with rfl | rfl
          · go_wp2_with fail
            refine (l01Bit_is true _).mono ?_
            rintro e wb ⟨rfl, rfl⟩
            have ct : w1.cell? ⟨b0, off + 1, none⟩ = some (.string t1) := by rw [hbw.cell (p := ⟨b0, _, none⟩) hblt]; exact c1
            go_wp2_with fail
            refine (l02Number_any t1 _ hz1).mono ?_
            rintro e w2 ⟨hkq, hbq⟩
            replace hRr := owns_below hRr hbq
            replace hXr := owns_below hXr hbq
            replace hbw := bel_trans hbw hbq
            clear hbq
            clear ct x0 x1 x2
            rcases hkq with ⟨a, hD, rfl⟩ | ⟨hN, z, rfl⟩
            · have HYN : Hid ((okI (5, (a : Int), 0) = true → IsRead [t0, t1] (5, (a : Int), 0)) ∧ (okI (5, (a : Int), 0) = false → NoRead [t0, t1])) := by
                refine ⟨fun h => .inl ⟨t0, t1, a, rfl, by rw [← HK.out]; omega, hD, by rw [← HK.out]; rfl, h⟩, fun h => noRead_two_no hD (by rw [← HK.out]; exact h)⟩
              have ha18 := hD.lt
              clear hD
              have xs : w2.cell? ⟨X, 1, none⟩ = some (.int .i64 0) := by simpa using hXr.cellAt 1 (by omega)
              have fs := hXr.frozenAt 1
              have hXn := (hXr.stored 1 (.int .i64 (a : Int))).1
              have hRn : (w2.setCell ⟨X, 1, none⟩ (.int .i64 (a : Int))).ownsRow w.heap.size 26 3 (.slice (some ⟨w.heap.size, 0, none⟩) 1 1) 1 [.int .i64 0, .int .i64 0, .int .i64 0] := ownsRow_setCell_other hRr (by simp [Value.ownBlock]; omega) _
              have hbn : Below w.heap.size w (w2.setCell ⟨X, 1, none⟩ (.int .i64 (a : Int))) := hbw.setCell (show w.heap.size ≤ X by omega) _
              simp only [List.set_cons_succ, List.set_cons_zero] at hXn
              clear hXr hRr hbw
              have hXr := hXn
              have hRr := hRn
              have hbw := hbn
              clear hXn hRn hbn
              have x0s : (w2.setCell ⟨X, 1, none⟩ (.int .i64 (a : Int))).cell? ⟨X, 0, none⟩ = some (.int .i64 5) := by simpa using hXr.cellAt 0 (by omega)
              have x1s : (w2.setCell ⟨X, 1, none⟩ (.int .i64 (a : Int))).cell? ⟨X, 1, none⟩ = some (.int .i64 (a : Int)) := by simpa using hXr.cellAt 1 (by omega)
              have x2s : (w2.setCell ⟨X, 1, none⟩ (.int .i64 (a : Int))).cell? ⟨X, 2, none⟩ = some (.int .i64 0) := by simpa using hXr.cellAt 2 (by omega)
              have KO := specOK_is (5, (a : Int), 0)
              unfold I3.val at KO
              obtain ⟨ok, hok⟩ : ∃ ok, ok = okI (5, (a : Int), 0) := ⟨_, rfl⟩
              rw [← hok] at KO HYN
              clear hok
              go_wp2_with fail
              clear x0s x1s x2s xs fs
              generalize w2.setCell ⟨X, 1, none⟩ (.int .i64 (a : Int)) = W at hXr hRr hbw
              refine (KO _).mono ?_
              rintro e w7 ⟨rfl, hbq⟩
              replace hRr := owns_below hRr hbq
              replace hXr := owns_below hXr hbq
              replace hbw := bel_trans hbw hbq
              clear hbq KO
              cases ok
              · have HN : Hid (NoRead [t0, t1]) := HYN.out.2 rfl
                have kR0 : w7.cell? ⟨w.heap.size, 0, none⟩ = some (.int .i64 0) := by simpa using hRr.cellAt 0 (by omega)
                have kR1 : w7.cell? ⟨w.heap.size, 1, none⟩ = some (.int .i64 0) := by simpa using hRr.cellAt 1 (by omega)
                have kR2 : w7.cell? ⟨w.heap.size, 2, none⟩ = some (.int .i64 0) := by simpa using hRr.cellAt 2 (by omega)
                have fR0 := hRr.frozenAt 0
                have fR1 := hRr.frozenAt 1
                have fR2 := hRr.frozenAt 2
                have hRn := (((hRr.stored 0 (.int .i64 0)).1.stored 1 (.int .i64 0)).1.stored 2 (.int .i64 0)).1
                have hb9 := ((hbw.setCell (p := ⟨w.heap.size, 0, none⟩) (Nat.le_refl _) (.int .i64 0)).setCell (p := ⟨w.heap.size, 1, none⟩) (Nat.le_refl _) (.int .i64 0)).setCell (p := ⟨w.heap.size, 2, none⟩) (Nat.le_refl _) (.int .i64 0)
                clear hRr hbw hXr HYN
                go_wp2
                clear kR0 kR1 kR2 fR0 fR1 fR2
                generalize ((w7.setCell ⟨w.heap.size, 0, none⟩ (.int .i64 0)).setCell ⟨w.heap.size, 1, none⟩ (.int .i64 0)).setCell ⟨w.heap.size, 2, none⟩ (.int .i64 0) = w9 at hRn hb9
                have k0 : w9.cell? ⟨w.heap.size, 0, none⟩ = some (.int .i64 0) := by simpa using hRn.cellAt 0 (by omega)
                have k1 : w9.cell? ⟨w.heap.size, 1, none⟩ = some (.int .i64 0) := by simpa using hRn.cellAt 1 (by omega)
                have k2 : w9.cell? ⟨w.heap.size, 2, none⟩ = some (.int .i64 0) := by simpa using hRn.cellAt 2 (by omega)
                refine bodyPost_ret (by simp [results, Tryd.results34, go_sem, k0, k1, k2]; try rfl) rfl ?_
                exact ⟨.inr ⟨HN.out, (0, 0, 0), rfl⟩, hb9⟩
              · have HYes : Hid (IsRead [t0, t1] (5, (a : Int), 0)) := HYN.out.1 rfl
                clear HYN
                have x0 : w7.cell? ⟨X, 0, none⟩ = some (.int .i64 5) := by simpa using hXr.cellAt 0 (by omega)
                have x1 : w7.cell? ⟨X, 1, none⟩ = some (.int .i64 (a : Int)) := by simpa using hXr.cellAt 1 (by omega)
                have x2 : w7.cell? ⟨X, 2, none⟩ = some (.int .i64 0) := by simpa using hXr.cellAt 2 (by omega)
                have kR0 : w7.cell? ⟨w.heap.size, 0, none⟩ = some (.int .i64 0) := by simpa using hRr.cellAt 0 (by omega)
                have kR1 : w7.cell? ⟨w.heap.size, 1, none⟩ = some (.int .i64 0) := by simpa using hRr.cellAt 1 (by omega)
                have kR2 : w7.cell? ⟨w.heap.size, 2, none⟩ = some (.int .i64 0) := by simpa using hRr.cellAt 2 (by omega)
                have fR0 := hRr.frozenAt 0
                have fR1 := hRr.frozenAt 1
                have fR2 := hRr.frozenAt 2
                have hRn := (((hRr.stored 0 (.int .i64 5)).1.stored 1 (.int .i64 (a : Int))).1.stored 2 (.int .i64 0)).1
                have hb9 := ((hbw.setCell (p := ⟨w.heap.size, 0, none⟩) (Nat.le_refl _) (.int .i64 5)).setCell (p := ⟨w.heap.size, 1, none⟩) (Nat.le_refl _) (.int .i64 (a : Int))).setCell (p := ⟨w.heap.size, 2, none⟩) (Nat.le_refl _) (.int .i64 0)
                clear hRr hbw hXr
                go_wp2
                clear kR0 kR1 kR2 fR0 fR1 fR2 x0 x1 x2
                generalize ((w7.setCell ⟨w.heap.size, 0, none⟩ (.int .i64 5)).setCell ⟨w.heap.size, 1, none⟩ (.int .i64 (a : Int))).setCell ⟨w.heap.size, 2, none⟩ (.int .i64 0) = w9 at hRn hb9
                have k0 : w9.cell? ⟨w.heap.size, 0, none⟩ = some (.int .i64 5) := by simpa using hRn.cellAt 0 (by omega)
                have k1 : w9.cell? ⟨w.heap.size, 1, none⟩ = some (.int .i64 (a : Int)) := by simpa using hRn.cellAt 1 (by omega)
                have k2 : w9.cell? ⟨w.heap.size, 2, none⟩ = some (.int .i64 0) := by simpa using hRn.cellAt 2 (by omega)
                refine bodyPost_ret (by simp [results, Tryd.results34, go_sem, k0, k1, k2]; try rfl) rfl ?_
                exact ⟨.inl ⟨(5, (a : Int), 0), HYes.out, rfl⟩, hb9⟩
            · have HN : Hid (NoRead [t0, t1]) := noRead_two_bad hN
              clear hN
              have xs : w2.cell? ⟨X, 1, none⟩ = some (.int .i64 0) := by simpa using hXr.cellAt 1 (by omega)
              have fs := hXr.frozenAt 1
              have hXn := (hXr.stored 1 (.int .i64 z)).1
              have hRn : (w2.setCell ⟨X, 1, none⟩ (.int .i64 z)).ownsRow w.heap.size 26 3 (.slice (some ⟨w.heap.size, 0, none⟩) 1 1) 1 [.int .i64 0, .int .i64 0, .int .i64 0] := ownsRow_setCell_other hRr (by simp [Value.ownBlock]; omega) _
              have hbn : Below w.heap.size w (w2.setCell ⟨X, 1, none⟩ (.int .i64 z)) := hbw.setCell (show w.heap.size ≤ X by omega) _
              simp only [List.set_cons_succ, List.set_cons_zero] at hXn
              clear hXr hRr hbw
              have hXr := hXn
              have hRr := hRn
              have hbw := hbn
              clear hXn hRn hbn
              have kR0 : (w2.setCell ⟨X, 1, none⟩ (.int .i64 z)).cell? ⟨w.heap.size, 0, none⟩ = some (.int .i64 0) := by simpa using hRr.cellAt 0 (by omega)
              have kR1 : (w2.setCell ⟨X, 1, none⟩ (.int .i64 z)).cell? ⟨w.heap.size, 1, none⟩ = some (.int .i64 0) := by simpa using hRr.cellAt 1 (by omega)
              have kR2 : (w2.setCell ⟨X, 1, none⟩ (.int .i64 z)).cell? ⟨w.heap.size, 2, none⟩ = some (.int .i64 0) := by simpa using hRr.cellAt 2 (by omega)
              have fR0 := hRr.frozenAt 0
              have fR1 := hRr.frozenAt 1
              have fR2 := hRr.frozenAt 2
              have hRn := (((hRr.stored 0 (.int .i64 0)).1.stored 1 (.int .i64 0)).1.stored 2 (.int .i64 0)).1
              have hb9 := ((hbw.setCell (p := ⟨w.heap.size, 0, none⟩) (Nat.le_refl _) (.int .i64 0)).setCell (p := ⟨w.heap.size, 1, none⟩) (Nat.le_refl _) (.int .i64 0)).setCell (p := ⟨w.heap.size, 2, none⟩) (Nat.le_refl _) (.int .i64 0)
              clear hRr hbw hXr
              go_wp2
              clear kR0 kR1 kR2 fR0 fR1 fR2
              generalize (((w2.setCell ⟨X, 1, none⟩ (.int .i64 z)).setCell ⟨w.heap.size, 0, none⟩ (.int .i64 0)).setCell ⟨w.heap.size, 1, none⟩ (.int .i64 0)).setCell ⟨w.heap.size, 2, none⟩ (.int .i64 0) = w9 at hRn hb9
              have k0 : w9.cell? ⟨w.heap.size, 0, none⟩ = some (.int .i64 0) := by simpa using hRn.cellAt 0 (by omega)
              have k1 : w9.cell? ⟨w.heap.size, 1, none⟩ = some (.int .i64 0) := by simpa using hRn.cellAt 1 (by omega)
              have k2 : w9.cell? ⟨w.heap.size, 2, none⟩ = some (.int .i64 0) := by simpa using hRn.cellAt 2 (by omega)
              refine bodyPost_ret (by simp [results, Tryd.results34, go_sem, k0, k1, k2]; try rfl) rfl ?_
              exact ⟨.inr ⟨HN.out, (0, 0, 0), rfl⟩, hb9⟩
          · go_wp2_with fail
            refine (l01Bit_is true _).mono ?_
            rintro e wb ⟨rfl, rfl⟩
            have ct : w1.cell? ⟨b0, off + 1, none⟩ = some (.string t1) := by rw [hbw.cell (p := ⟨b0, _, none⟩) hblt]; exact c1
            go_wp2_with fail
            refine (l02Number_any t1 _ hz1).mono ?_
            rintro e w2 ⟨hkq, hbq⟩
            replace hRr := owns_below hRr hbq
            replace hXr := owns_below hXr hbq
            replace hbw := bel_trans hbw hbq
            clear hbq
            clear ct x0 x1 x2
            rcases hkq with ⟨a, hD, rfl⟩ | ⟨hN, z, rfl⟩
            · have HYN : Hid ((okI (6, (a : Int), 0) = true → IsRead [t0, t1] (6, (a : Int), 0)) ∧ (okI (6, (a : Int), 0) = false → NoRead [t0, t1])) := by
                refine ⟨fun h => .inl ⟨t0, t1, a, rfl, by rw [← HK.out]; omega, hD, by rw [← HK.out]; rfl, h⟩, fun h => noRead_two_no hD (by rw [← HK.out]; exact h)⟩
              have ha18 := hD.lt
              clear hD
              have xs : w2.cell? ⟨X, 1, none⟩ = some (.int .i64 0) := by simpa using hXr.cellAt 1 (by omega)
              have fs := hXr.frozenAt 1
              have hXn := (hXr.stored 1 (.int .i64 (a : Int))).1
              have hRn : (w2.setCell ⟨X, 1, none⟩ (.int .i64 (a : Int))).ownsRow w.heap.size 26 3 (.slice (some ⟨w.heap.size, 0, none⟩) 1 1) 1 [.int .i64 0, .int .i64 0, .int .i64 0] := ownsRow_setCell_other hRr (by simp [Value.ownBlock]; omega) _
              have hbn : Below w.heap.size w (w2.setCell ⟨X, 1, none⟩ (.int .i64 (a : Int))) := hbw.setCell (show w.heap.size ≤ X by omega) _
              simp only [List.set_cons_succ, List.set_cons_zero] at hXn
              clear hXr hRr hbw
              have hXr := hXn
              have hRr := hRn
              have hbw := hbn
              clear hXn hRn hbn
              have x0s : (w2.setCell ⟨X, 1, none⟩ (.int .i64 (a : Int))).cell? ⟨X, 0, none⟩ = some (.int .i64 6) := by simpa using hXr.cellAt 0 (by omega)
              have x1s : (w2.setCell ⟨X, 1, none⟩ (.int .i64 (a : Int))).cell? ⟨X, 1, none⟩ = some (.int .i64 (a : Int)) := by simpa using hXr.cellAt 1 (by omega)
              have x2s : (w2.setCell ⟨X, 1, none⟩ (.int .i64 (a : Int))).cell? ⟨X, 2, none⟩ = some (.int .i64 0) := by simpa using hXr.cellAt 2 (by omega)
              have KO := specOK_is (6, (a : Int), 0)
              unfold I3.val at KO
              obtain ⟨ok, hok⟩ : ∃ ok, ok = okI (6, (a : Int), 0) := ⟨_, rfl⟩
              rw [← hok] at KO HYN
              clear hok
              go_wp2_with fail
              clear x0s x1s x2s xs fs
              generalize w2.setCell ⟨X, 1, none⟩ (.int .i64 (a : Int)) = W at hXr hRr hbw
              refine (KO _).mono ?_
              rintro e w7 ⟨rfl, hbq⟩
              replace hRr := owns_below hRr hbq
              replace hXr := owns_below hXr hbq
              replace hbw := bel_trans hbw hbq
              clear hbq KO
              cases ok
              · have HN : Hid (NoRead [t0, t1]) := HYN.out.2 rfl
                have kR0 : w7.cell? ⟨w.heap.size, 0, none⟩ = some (.int .i64 0) := by simpa using hRr.cellAt 0 (by omega)
                have kR1 : w7.cell? ⟨w.heap.size, 1, none⟩ = some (.int .i64 0) := by simpa using hRr.cellAt 1 (by omega)
                have kR2 : w7.cell? ⟨w.heap.size, 2, none⟩ = some (.int .i64 0) := by simpa using hRr.cellAt 2 (by omega)
                have fR0 := hRr.frozenAt 0
                have fR1 := hRr.frozenAt 1
                have fR2 := hRr.frozenAt 2
                have hRn := (((hRr.stored 0 (.int .i64 0)).1.stored 1 (.int .i64 0)).1.stored 2 (.int .i64 0)).1
                have hb9 := ((hbw.setCell (p := ⟨w.heap.size, 0, none⟩) (Nat.le_refl _) (.int .i64 0)).setCell (p := ⟨w.heap.size, 1, none⟩) (Nat.le_refl _) (.int .i64 0)).setCell (p := ⟨w.heap.size, 2, none⟩) (Nat.le_refl _) (.int .i64 0)
                clear hRr hbw hXr HYN
                go_wp2
                clear kR0 kR1 kR2 fR0 fR1 fR2
                generalize ((w7.setCell ⟨w.heap.size, 0, none⟩ (.int .i64 0)).setCell ⟨w.heap.size, 1, none⟩ (.int .i64 0)).setCell ⟨w.heap.size, 2, none⟩ (.int .i64 0) = w9 at hRn hb9
                have k0 : w9.cell? ⟨w.heap.size, 0, none⟩ = some (.int .i64 0) := by simpa using hRn.cellAt 0 (by omega)
                have k1 : w9.cell? ⟨w.heap.size, 1, none⟩ = some (.int .i64 0) := by simpa using hRn.cellAt 1 (by omega)
                have k2 : w9.cell? ⟨w.heap.size, 2, none⟩ = some (.int .i64 0) := by simpa using hRn.cellAt 2 (by omega)
                refine bodyPost_ret (by simp [results, Tryd.results34, go_sem, k0, k1, k2]; try rfl) rfl ?_
                exact ⟨.inr ⟨HN.out, (0, 0, 0), rfl⟩, hb9⟩
              · have HYes : Hid (IsRead [t0, t1] (6, (a : Int), 0)) := HYN.out.1 rfl
                clear HYN
                have x0 : w7.cell? ⟨X, 0, none⟩ = some (.int .i64 6) := by simpa using hXr.cellAt 0 (by omega)
                have x1 : w7.cell? ⟨X, 1, none⟩ = some (.int .i64 (a : Int)) := by simpa using hXr.cellAt 1 (by omega)
                have x2 : w7.cell? ⟨X, 2, none⟩ = some (.int .i64 0) := by simpa using hXr.cellAt 2 (by omega)
                have kR0 : w7.cell? ⟨w.heap.size, 0, none⟩ = some (.int .i64 0) := by simpa using hRr.cellAt 0 (by omega)
                have kR1 : w7.cell? ⟨w.heap.size, 1, none⟩ = some (.int .i64 0) := by simpa using hRr.cellAt 1 (by omega)
                have kR2 : w7.cell? ⟨w.heap.size, 2, none⟩ = some (.int .i64 0) := by simpa using hRr.cellAt 2 (by omega)
                have fR0 := hRr.frozenAt 0
                have fR1 := hRr.frozenAt 1
                have fR2 := hRr.frozenAt 2
                have hRn := (((hRr.stored 0 (.int .i64 6)).1.stored 1 (.int .i64 (a : Int))).1.stored 2 (.int .i64 0)).1
                have hb9 := ((hbw.setCell (p := ⟨w.heap.size, 0, none⟩) (Nat.le_refl _) (.int .i64 6)).setCell (p := ⟨w.heap.size, 1, none⟩) (Nat.le_refl _) (.int .i64 (a : Int))).setCell (p := ⟨w.heap.size, 2, none⟩) (Nat.le_refl _) (.int .i64 0)
                clear hRr hbw hXr
                go_wp2
                clear kR0 kR1 kR2 fR0 fR1 fR2 x0 x1 x2
                generalize ((w7.setCell ⟨w.heap.size, 0, none⟩ (.int .i64 6)).setCell ⟨w.heap.size, 1, none⟩ (.int .i64 (a : Int))).setCell ⟨w.heap.size, 2, none⟩ (.int .i64 0) = w9 at hRn hb9
                have k0 : w9.cell? ⟨w.heap.size, 0, none⟩ = some (.int .i64 6) := by simpa using hRn.cellAt 0 (by omega)
                have k1 : w9.cell? ⟨w.heap.size, 1, none⟩ = some (.int .i64 (a : Int)) := by simpa using hRn.cellAt 1 (by omega)
                have k2 : w9.cell? ⟨w.heap.size, 2, none⟩ = some (.int .i64 0) := by simpa using hRn.cellAt 2 (by omega)
                refine bodyPost_ret (by simp [results, Tryd.results34, go_sem, k0, k1, k2]; try rfl) rfl ?_
                exact ⟨.inl ⟨(6, (a : Int), 0), HYes.out, rfl⟩, hb9⟩
            · have HN : Hid (NoRead [t0, t1]) := noRead_two_bad hN
              clear hN
              have xs : w2.cell? ⟨X, 1, none⟩ = some (.int .i64 0) := by simpa using hXr.cellAt 1 (by omega)
              have fs := hXr.frozenAt 1
              have hXn := (hXr.stored 1 (.int .i64 z)).1
              have hRn : (w2.setCell ⟨X, 1, none⟩ (.int .i64 z)).ownsRow w.heap.size 26 3 (.slice (some ⟨w.heap.size, 0, none⟩) 1 1) 1 [.int .i64 0, .int .i64 0, .int .i64 0] := ownsRow_setCell_other hRr (by simp [Value.ownBlock]; omega) _
              have hbn : Below w.heap.size w (w2.setCell ⟨X, 1, none⟩ (.int .i64 z)) := hbw.setCell (show w.heap.size ≤ X by omega) _
              simp only [List.set_cons_succ, List.set_cons_zero] at hXn
              clear hXr hRr hbw
              have hXr := hXn
              have hRr := hRn
              have hbw := hbn
              clear hXn hRn hbn
              have kR0 : (w2.setCell ⟨X, 1, none⟩ (.int .i64 z)).cell? ⟨w.heap.size, 0, none⟩ = some (.int .i64 0) := by simpa using hRr.cellAt 0 (by omega)
              have kR1 : (w2.setCell ⟨X, 1, none⟩ (.int .i64 z)).cell? ⟨w.heap.size, 1, none⟩ = some (.int .i64 0) := by simpa using hRr.cellAt 1 (by omega)
              have kR2 : (w2.setCell ⟨X, 1, none⟩ (.int .i64 z)).cell? ⟨w.heap.size, 2, none⟩ = some (.int .i64 0) := by simpa using hRr.cellAt 2 (by omega)
              have fR0 := hRr.frozenAt 0
              have fR1 := hRr.frozenAt 1
              have fR2 := hRr.frozenAt 2
              have hRn := (((hRr.stored 0 (.int .i64 0)).1.stored 1 (.int .i64 0)).1.stored 2 (.int .i64 0)).1
              have hb9 := ((hbw.setCell (p := ⟨w.heap.size, 0, none⟩) (Nat.le_refl _) (.int .i64 0)).setCell (p := ⟨w.heap.size, 1, none⟩) (Nat.le_refl _) (.int .i64 0)).setCell (p := ⟨w.heap.size, 2, none⟩) (Nat.le_refl _) (.int .i64 0)
              clear hRr hbw hXr
              go_wp2
              clear kR0 kR1 kR2 fR0 fR1 fR2
              generalize (((w2.setCell ⟨X, 1, none⟩ (.int .i64 z)).setCell ⟨w.heap.size, 0, none⟩ (.int .i64 0)).setCell ⟨w.heap.size, 1, none⟩ (.int .i64 0)).setCell ⟨w.heap.size, 2, none⟩ (.int .i64 0) = w9 at hRn hb9
              have k0 : w9.cell? ⟨w.heap.size, 0, none⟩ = some (.int .i64 0) := by simpa using hRn.cellAt 0 (by omega)
              have k1 : w9.cell? ⟨w.heap.size, 1, none⟩ = some (.int .i64 0) := by simpa using hRn.cellAt 1 (by omega)
              have k2 : w9.cell? ⟨w.heap.size, 2, none⟩ = some (.int .i64 0) := by simpa using hRn.cellAt 2 (by omega)
              refine bodyPost_ret (by simp [results, Tryd.results34, go_sem, k0, k1, k2]; try rfl) rfl ?_
              exact ⟨.inr ⟨HN.out, (0, 0, 0), rfl⟩, hb9⟩
        · have HN : Hid (NoRead (t0 :: rest)) := h2op.out h56 hn2
          have hn2' : ((n : Int) != 2) = true := by simp; omega
          clear h2op hcell hl hrl
          rcases h56 with rfl | rfl
          · go_wp2_with fail
            refine (l01Bit_is true _).mono ?_
            rintro e wb ⟨rfl, rfl⟩
            have kR0 : w1.cell? ⟨w.heap.size, 0, none⟩ = some (.int .i64 0) := by simpa using hRr.cellAt 0 (by omega)
            have kR1 : w1.cell? ⟨w.heap.size, 1, none⟩ = some (.int .i64 0) := by simpa using hRr.cellAt 1 (by omega)
            have kR2 : w1.cell? ⟨w.heap.size, 2, none⟩ = some (.int .i64 0) := by simpa using hRr.cellAt 2 (by omega)
            have fR0 := hRr.frozenAt 0
            have fR1 := hRr.frozenAt 1
            have fR2 := hRr.frozenAt 2
            have hRn := (((hRr.stored 0 (.int .i64 0)).1.stored 1 (.int .i64 0)).1.stored 2 (.int .i64 0)).1
            have hb9 := ((hbw.setCell (p := ⟨w.heap.size, 0, none⟩) (Nat.le_refl _) (.int .i64 0)).setCell (p := ⟨w.heap.size, 1, none⟩) (Nat.le_refl _) (.int .i64 0)).setCell (p := ⟨w.heap.size, 2, none⟩) (Nat.le_refl _) (.int .i64 0)
            clear hRr hbw hXr
            go_wp2
            clear kR0 kR1 kR2 fR0 fR1 fR2
            generalize ((w1.setCell ⟨w.heap.size, 0, none⟩ (.int .i64 0)).setCell ⟨w.heap.size, 1, none⟩ (.int .i64 0)).setCell ⟨w.heap.size, 2, none⟩ (.int .i64 0) = w9 at hRn hb9
            have k0 : w9.cell? ⟨w.heap.size, 0, none⟩ = some (.int .i64 0) := by simpa using hRn.cellAt 0 (by omega)
            have k1 : w9.cell? ⟨w.heap.size, 1, none⟩ = some (.int .i64 0) := by simpa using hRn.cellAt 1 (by omega)
            have k2 : w9.cell? ⟨w.heap.size, 2, none⟩ = some (.int .i64 0) := by simpa using hRn.cellAt 2 (by omega)
            refine bodyPost_ret (by simp [results, Tryd.results34, go_sem, k0, k1, k2]; try rfl) rfl ?_
            exact ⟨.inr ⟨HN.out, (0, 0, 0), rfl⟩, hb9⟩
          · go_wp2_with fail
            refine (l01Bit_is true _).mono ?_
            rintro e wb ⟨rfl, rfl⟩
            have kR0 : w1.cell? ⟨w.heap.size, 0, none⟩ = some (.int .i64 0) := by simpa using hRr.cellAt 0 (by omega)
            have kR1 : w1.cell? ⟨w.heap.size, 1, none⟩ = some (.int .i64 0) := by simpa using hRr.cellAt 1 (by omega)
            have kR2 : w1.cell? ⟨w.heap.size, 2, none⟩ = some (.int .i64 0) := by simpa using hRr.cellAt 2 (by omega)
            have fR0 := hRr.frozenAt 0
            have fR1 := hRr.frozenAt 1
            have fR2 := hRr.frozenAt 2
            have hRn := (((hRr.stored 0 (.int .i64 0)).1.stored 1 (.int .i64 0)).1.stored 2 (.int .i64 0)).1
            have hb9 := ((hbw.setCell (p := ⟨w.heap.size, 0, none⟩) (Nat.le_refl _) (.int .i64 0)).setCell (p := ⟨w.heap.size, 1, none⟩) (Nat.le_refl _) (.int .i64 0)).setCell (p := ⟨w.heap.size, 2, none⟩) (Nat.le_refl _) (.int .i64 0)
            clear hRr hbw hXr
            go_wp2
            clear kR0 kR1 kR2 fR0 fR1 fR2
            generalize ((w1.setCell ⟨w.heap.size, 0, none⟩ (.int .i64 0)).setCell ⟨w.heap.size, 1, none⟩ (.int .i64 0)).setCell ⟨w.heap.size, 2, none⟩ (.int .i64 0) = w9 at hRn hb9
            have k0 : w9.cell? ⟨w.heap.size, 0, none⟩ = some (.int .i64 0) := by simpa using hRn.cellAt 0 (by omega)
            have k1 : w9.cell? ⟨w.heap.size, 1, none⟩ = some (.int .i64 0) := by simpa using hRn.cellAt 1 (by omega)
            have k2 : w9.cell? ⟨w.heap.size, 2, none⟩ = some (.int .i64 0) := by simpa using hRn.cellAt 2 (by omega)
            refine bodyPost_ret (by simp [results, Tryd.results34, go_sem, k0, k1, k2]; try rfl) rfl ?_
            exact ⟨.inr ⟨HN.out, (0, 0, 0), rfl⟩, hb9⟩
      · have h5' : ((k : Int) == 5) = false := beq_eq_false_iff_ne.2 (by omega)
        have h6' : ((k : Int) == 6) = false := beq_eq_false_iff_ne.2 (by omega)
        clear h0op h2op
        by_cases hn3 : n = 3
        · subst hn3
          obtain ⟨t1, t2, rfl⟩ : ∃ t1 t2, rest = [t1, t2] := by
            match rest, hrl with
            | [t1, t2], _ => exact ⟨t1, t2, rfl⟩
          have c1 : w.cell? ⟨b0, off + 1, none⟩ = some (.string t1) := by simpa using hcell 1 (by omega)
          have c2 : w.cell? ⟨b0, off + 2, none⟩ = some (.string t2) := by simpa using hcell 2 (by omega)
          have hz1 : t1.size ≤ maxLen := hsz t1 (by simp)
          have hz2 : t2.size ≤ maxLen := hsz t2 (by simp)
          clear h3op hcell hl hrl hsz
          go_wp2_with fail
          refine (l01Bit_is false _).mono ?_
          rintro e wb ⟨rfl, rfl⟩
          have ct : w1.cell? ⟨b0, off + 1, none⟩ = some (.string t1) := by rw [hbw.cell (p := ⟨b0, _, none⟩) hblt]; exact c1
          go_wp2_with fail
          refine (l02Number_any t1 _ hz1).mono ?_
          rintro e w2 ⟨hkq, hbq⟩
          replace hRr := owns_below hRr hbq
          replace hXr := owns_below hXr hbq
          replace hbw := bel_trans hbw hbq
          clear hbq
          clear ct x0 x1 x2
          rcases hkq with ⟨a, hD, rfl⟩ | ⟨hN, z, rfl⟩
          · have ha18 := hD.lt
            have xs : w2.cell? ⟨X, 1, none⟩ = some (.int .i64 0) := by simpa using hXr.cellAt 1 (by omega)
            have fs := hXr.frozenAt 1
            have hXn := (hXr.stored 1 (.int .i64 (a : Int))).1
            have hRn : (w2.setCell ⟨X, 1, none⟩ (.int .i64 (a : Int))).ownsRow w.heap.size 26 3 (.slice (some ⟨w.heap.size, 0, none⟩) 1 1) 1 [.int .i64 0, .int .i64 0, .int .i64 0] := ownsRow_setCell_other hRr (by simp [Value.ownBlock]; omega) _
            have hbn : Below w.heap.size w (w2.setCell ⟨X, 1, none⟩ (.int .i64 (a : Int))) := hbw.setCell (show w.heap.size ≤ X by omega) _
            simp only [List.set_cons_succ, List.set_cons_zero] at hXn
            clear hXr hRr hbw
            have hXr := hXn
            have hRr := hRn
            have hbw := hbn
            clear hXn hRn hbn
            have ct : (w2.setCell ⟨X, 1, none⟩ (.int .i64 (a : Int))).cell? ⟨b0, off + 2, none⟩ = some (.string t2) := by rw [hbw.cell (p := ⟨b0, _, none⟩) hblt]; exact c2
            go_wp2_with fail
            clear ct xs fs
            generalize w2.setCell ⟨X, 1, none⟩ (.int .i64 (a : Int)) = w3 at hXr hRr hbw
            refine (l02Number_any t2 _ hz2).mono ?_
            rintro e w4 ⟨hkq, hbq⟩
            replace hRr := owns_below hRr hbq
            replace hXr := owns_below hXr hbq
            replace hbw := bel_trans hbw hbq
            clear hbq
            rcases hkq with ⟨b, hD2, rfl⟩ | ⟨hN2, z2, rfl⟩
            · have HYN : Hid ((okI ((k : Int), (a : Int), (b : Int)) = true → IsRead [t0, t1, t2] ((k : Int), (a : Int), (b : Int))) ∧ (okI ((k : Int), (a : Int), (b : Int)) = false → NoRead [t0, t1, t2])) := by
                refine ⟨fun h => .inr ⟨t0, t1, t2, a, b, rfl, by rw [← HK.out]; exact h56, by rw [← HK.out]; exact hk0, hD, hD2, by rw [← HK.out], h⟩, fun h => noRead_three_no hD hD2 (by rw [← HK.out]; exact h)⟩
              have hb18 := hD2.lt
              clear hD hD2
              have xs : w4.cell? ⟨X, 2, none⟩ = some (.int .i64 0) := by simpa using hXr.cellAt 2 (by omega)
              have fs := hXr.frozenAt 2
              have hXn := (hXr.stored 2 (.int .i64 (b : Int))).1
              have hRn : (w4.setCell ⟨X, 2, none⟩ (.int .i64 (b : Int))).ownsRow w.heap.size 26 3 (.slice (some ⟨w.heap.size, 0, none⟩) 1 1) 1 [.int .i64 0, .int .i64 0, .int .i64 0] := ownsRow_setCell_other hRr (by simp [Value.ownBlock]; omega) _
              have hbn : Below w.heap.size w (w4.setCell ⟨X, 2, none⟩ (.int .i64 (b : Int))) := hbw.setCell (show w.heap.size ≤ X by omega) _
              simp only [List.set_cons_succ, List.set_cons_zero] at hXn
              clear hXr hRr hbw
              have hXr := hXn
              have hRr := hRn
              have hbw := hbn
              clear hXn hRn hbn
              have x0s : (w4.setCell ⟨X, 2, none⟩ (.int .i64 (b : Int))).cell? ⟨X, 0, none⟩ = some (.int .i64 (k : Int)) := by simpa using hXr.cellAt 0 (by omega)
              have x1s : (w4.setCell ⟨X, 2, none⟩ (.int .i64 (b : Int))).cell? ⟨X, 1, none⟩ = some (.int .i64 (a : Int)) := by simpa using hXr.cellAt 1 (by omega)
              have x2s : (w4.setCell ⟨X, 2, none⟩ (.int .i64 (b : Int))).cell? ⟨X, 2, none⟩ = some (.int .i64 (b : Int)) := by simpa using hXr.cellAt 2 (by omega)
              have KO := specOK_is ((k : Int), (a : Int), (b : Int))
              unfold I3.val at KO
              obtain ⟨ok, hok⟩ : ∃ ok, ok = okI ((k : Int), (a : Int), (b : Int)) := ⟨_, rfl⟩
              rw [← hok] at KO HYN
              clear hok
              go_wp2_with fail
              clear x0s x1s x2s xs fs
              generalize w4.setCell ⟨X, 2, none⟩ (.int .i64 (b : Int)) = W at hXr hRr hbw
              refine (KO _).mono ?_
              rintro e w7 ⟨rfl, hbq⟩
              replace hRr := owns_below hRr hbq
              replace hXr := owns_below hXr hbq
              replace hbw := bel_trans hbw hbq
              clear hbq KO
              cases ok
              · have HN : Hid (NoRead [t0, t1, t2]) := HYN.out.2 rfl
                have kR0 : w7.cell? ⟨w.heap.size, 0, none⟩ = some (.int .i64 0) := by simpa using hRr.cellAt 0 (by omega)
                have kR1 : w7.cell? ⟨w.heap.size, 1, none⟩ = some (.int .i64 0) := by simpa using hRr.cellAt 1 (by omega)
                have kR2 : w7.cell? ⟨w.heap.size, 2, none⟩ = some (.int .i64 0) := by simpa using hRr.cellAt 2 (by omega)
                have fR0 := hRr.frozenAt 0
                have fR1 := hRr.frozenAt 1
                have fR2 := hRr.frozenAt 2
                have hRn := (((hRr.stored 0 (.int .i64 0)).1.stored 1 (.int .i64 0)).1.stored 2 (.int .i64 0)).1
                have hb9 := ((hbw.setCell (p := ⟨w.heap.size, 0, none⟩) (Nat.le_refl _) (.int .i64 0)).setCell (p := ⟨w.heap.size, 1, none⟩) (Nat.le_refl _) (.int .i64 0)).setCell (p := ⟨w.heap.size, 2, none⟩) (Nat.le_refl _) (.int .i64 0)
                clear hRr hbw hXr HYN
                go_wp2
                clear kR0 kR1 kR2 fR0 fR1 fR2
                generalize ((w7.setCell ⟨w.heap.size, 0, none⟩ (.int .i64 0)).setCell ⟨w.heap.size, 1, none⟩ (.int .i64 0)).setCell ⟨w.heap.size, 2, none⟩ (.int .i64 0) = w9 at hRn hb9
                have k0 : w9.cell? ⟨w.heap.size, 0, none⟩ = some (.int .i64 0) := by simpa using hRn.cellAt 0 (by omega)
                have k1 : w9.cell? ⟨w.heap.size, 1, none⟩ = some (.int .i64 0) := by simpa using hRn.cellAt 1 (by omega)
                have k2 : w9.cell? ⟨w.heap.size, 2, none⟩ = some (.int .i64 0) := by simpa using hRn.cellAt 2 (by omega)
                refine bodyPost_ret (by simp [results, Tryd.results34, go_sem, k0, k1, k2]; try rfl) rfl ?_
                exact ⟨.inr ⟨HN.out, (0, 0, 0), rfl⟩, hb9⟩
              · have HYes : Hid (IsRead [t0, t1, t2] ((k : Int), (a : Int), (b : Int))) := HYN.out.1 rfl
                clear HYN
                have x0 : w7.cell? ⟨X, 0, none⟩ = some (.int .i64 (k : Int)) := by simpa using hXr.cellAt 0 (by omega)
                have x1 : w7.cell? ⟨X, 1, none⟩ = some (.int .i64 (a : Int)) := by simpa using hXr.cellAt 1 (by omega)
                have x2 : w7.cell? ⟨X, 2, none⟩ = some (.int .i64 (b : Int)) := by simpa using hXr.cellAt 2 (by omega)
                have kR0 : w7.cell? ⟨w.heap.size, 0, none⟩ = some (.int .i64 0) := by simpa using hRr.cellAt 0 (by omega)
                have kR1 : w7.cell? ⟨w.heap.size, 1, none⟩ = some (.int .i64 0) := by simpa using hRr.cellAt 1 (by omega)
                have kR2 : w7.cell? ⟨w.heap.size, 2, none⟩ = some (.int .i64 0) := by simpa using hRr.cellAt 2 (by omega)
                have fR0 := hRr.frozenAt 0
                have fR1 := hRr.frozenAt 1
                have fR2 := hRr.frozenAt 2
                have hRn := (((hRr.stored 0 (.int .i64 (k : Int))).1.stored 1 (.int .i64 (a : Int))).1.stored 2 (.int .i64 (b : Int))).1
                have hb9 := ((hbw.setCell (p := ⟨w.heap.size, 0, none⟩) (Nat.le_refl _) (.int .i64 (k : Int))).setCell (p := ⟨w.heap.size, 1, none⟩) (Nat.le_refl _) (.int .i64 (a : Int))).setCell (p := ⟨w.heap.size, 2, none⟩) (Nat.le_refl _) (.int .i64 (b : Int))
                clear hRr hbw hXr
                go_wp2
                clear kR0 kR1 kR2 fR0 fR1 fR2 x0 x1 x2
                generalize ((w7.setCell ⟨w.heap.size, 0, none⟩ (.int .i64 (k : Int))).setCell ⟨w.heap.size, 1, none⟩ (.int .i64 (a : Int))).setCell ⟨w.heap.size, 2, none⟩ (.int .i64 (b : Int)) = w9 at hRn hb9
                have k0 : w9.cell? ⟨w.heap.size, 0, none⟩ = some (.int .i64 (k : Int)) := by simpa using hRn.cellAt 0 (by omega)
                have k1 : w9.cell? ⟨w.heap.size, 1, none⟩ = some (.int .i64 (a : Int)) := by simpa using hRn.cellAt 1 (by omega)
                have k2 : w9.cell? ⟨w.heap.size, 2, none⟩ = some (.int .i64 (b : Int)) := by simpa using hRn.cellAt 2 (by omega)
                refine bodyPost_ret (by simp [results, Tryd.results34, go_sem, k0, k1, k2]; try rfl) rfl ?_
                exact ⟨.inl ⟨((k : Int), (a : Int), (b : Int)), HYes.out, rfl⟩, hb9⟩
            · have HN : Hid (NoRead [t0, t1, t2]) := noRead_three_bad (.inr hN2)
              clear hN2 hD
              have xs : w4.cell? ⟨X, 2, none⟩ = some (.int .i64 0) := by simpa using hXr.cellAt 2 (by omega)
              have fs := hXr.frozenAt 2
              have hXn := (hXr.stored 2 (.int .i64 z2)).1
              have hRn : (w4.setCell ⟨X, 2, none⟩ (.int .i64 z2)).ownsRow w.heap.size 26 3 (.slice (some ⟨w.heap.size, 0, none⟩) 1 1) 1 [.int .i64 0, .int .i64 0, .int .i64 0] := ownsRow_setCell_other hRr (by simp [Value.ownBlock]; omega) _
              have hbn : Below w.heap.size w (w4.setCell ⟨X, 2, none⟩ (.int .i64 z2)) := hbw.setCell (show w.heap.size ≤ X by omega) _
              simp only [List.set_cons_succ, List.set_cons_zero] at hXn
              clear hXr hRr hbw
              have hXr := hXn
              have hRr := hRn
              have hbw := hbn
              clear hXn hRn hbn
              have kR0 : (w4.setCell ⟨X, 2, none⟩ (.int .i64 z2)).cell? ⟨w.heap.size, 0, none⟩ = some (.int .i64 0) := by simpa using hRr.cellAt 0 (by omega)
              have kR1 : (w4.setCell ⟨X, 2, none⟩ (.int .i64 z2)).cell? ⟨w.heap.size, 1, none⟩ = some (.int .i64 0) := by simpa using hRr.cellAt 1 (by omega)
              have kR2 : (w4.setCell ⟨X, 2, none⟩ (.int .i64 z2)).cell? ⟨w.heap.size, 2, none⟩ = some (.int .i64 0) := by simpa using hRr.cellAt 2 (by omega)
              have fR0 := hRr.frozenAt 0
              have fR1 := hRr.frozenAt 1
              have fR2 := hRr.frozenAt 2
              have hRn := (((hRr.stored 0 (.int .i64 0)).1.stored 1 (.int .i64 0)).1.stored 2 (.int .i64 0)).1
              have hb9 := ((hbw.setCell (p := ⟨w.heap.size, 0, none⟩) (Nat.le_refl _) (.int .i64 0)).setCell (p := ⟨w.heap.size, 1, none⟩) (Nat.le_refl _) (.int .i64 0)).setCell (p := ⟨w.heap.size, 2, none⟩) (Nat.le_refl _) (.int .i64 0)
              clear hRr hbw hXr
              go_wp2
              clear kR0 kR1 kR2 fR0 fR1 fR2
              generalize (((w4.setCell ⟨X, 2, none⟩ (.int .i64 z2)).setCell ⟨w.heap.size, 0, none⟩ (.int .i64 0)).setCell ⟨w.heap.size, 1, none⟩ (.int .i64 0)).setCell ⟨w.heap.size, 2, none⟩ (.int .i64 0) = w9 at hRn hb9
              have k0 : w9.cell? ⟨w.heap.size, 0, none⟩ = some (.int .i64 0) := by simpa using hRn.cellAt 0 (by omega)
              have k1 : w9.cell? ⟨w.heap.size, 1, none⟩ = some (.int .i64 0) := by simpa using hRn.cellAt 1 (by omega)
              have k2 : w9.cell? ⟨w.heap.size, 2, none⟩ = some (.int .i64 0) := by simpa using hRn.cellAt 2 (by omega)
              refine bodyPost_ret (by simp [results, Tryd.results34, go_sem, k0, k1, k2]; try rfl) rfl ?_
              exact ⟨.inr ⟨HN.out, (0, 0, 0), rfl⟩, hb9⟩
          · have xs : w2.cell? ⟨X, 1, none⟩ = some (.int .i64 0) := by simpa using hXr.cellAt 1 (by omega)
            have fs := hXr.frozenAt 1
            have hXn := (hXr.stored 1 (.int .i64 z)).1
            have hRn : (w2.setCell ⟨X, 1, none⟩ (.int .i64 z)).ownsRow w.heap.size 26 3 (.slice (some ⟨w.heap.size, 0, none⟩) 1 1) 1 [.int .i64 0, .int .i64 0, .int .i64 0] := ownsRow_setCell_other hRr (by simp [Value.ownBlock]; omega) _
            have hbn : Below w.heap.size w (w2.setCell ⟨X, 1, none⟩ (.int .i64 z)) := hbw.setCell (show w.heap.size ≤ X by omega) _
            simp only [List.set_cons_succ, List.set_cons_zero] at hXn
            clear hXr hRr hbw
            have hXr := hXn
            have hRr := hRn
            have hbw := hbn
            clear hXn hRn hbn
            have ct : (w2.setCell ⟨X, 1, none⟩ (.int .i64 z)).cell? ⟨b0, off + 2, none⟩ = some (.string t2) := by rw [hbw.cell (p := ⟨b0, _, none⟩) hblt]; exact c2
            go_wp2_with fail
            clear ct xs fs
            generalize w2.setCell ⟨X, 1, none⟩ (.int .i64 z) = w3 at hXr hRr hbw
            refine (l02Number_any t2 _ hz2).mono ?_
            rintro e w4 ⟨hkq, hbq⟩
            replace hRr := owns_below hRr hbq
            replace hXr := owns_below hXr hbq
            replace hbw := bel_trans hbw hbq
            clear hbq
            rcases hkq with ⟨b, hD2, rfl⟩ | ⟨hN2, z2, rfl⟩
            · have HN : Hid (NoRead [t0, t1, t2]) := noRead_three_bad (.inl hN)
              have hb18 := hD2.lt
              clear hN hD2
              have xs : w4.cell? ⟨X, 2, none⟩ = some (.int .i64 0) := by simpa using hXr.cellAt 2 (by omega)
              have fs := hXr.frozenAt 2
              have hXn := (hXr.stored 2 (.int .i64 (b : Int))).1
              have hRn : (w4.setCell ⟨X, 2, none⟩ (.int .i64 (b : Int))).ownsRow w.heap.size 26 3 (.slice (some ⟨w.heap.size, 0, none⟩) 1 1) 1 [.int .i64 0, .int .i64 0, .int .i64 0] := ownsRow_setCell_other hRr (by simp [Value.ownBlock]; omega) _
              have hbn : Below w.heap.size w (w4.setCell ⟨X, 2, none⟩ (.int .i64 (b : Int))) := hbw.setCell (show w.heap.size ≤ X by omega) _
              simp only [List.set_cons_succ, List.set_cons_zero] at hXn
              clear hXr hRr hbw
              have hXr := hXn
              have hRr := hRn
              have hbw := hbn
              clear hXn hRn hbn
              have kR0 : (w4.setCell ⟨X, 2, none⟩ (.int .i64 (b : Int))).cell? ⟨w.heap.size, 0, none⟩ = some (.int .i64 0) := by simpa using hRr.cellAt 0 (by omega)
              have kR1 : (w4.setCell ⟨X, 2, none⟩ (.int .i64 (b : Int))).cell? ⟨w.heap.size, 1, none⟩ = some (.int .i64 0) := by simpa using hRr.cellAt 1 (by omega)
              have kR2 : (w4.setCell ⟨X, 2, none⟩ (.int .i64 (b : Int))).cell? ⟨w.heap.size, 2, none⟩ = some (.int .i64 0) := by simpa using hRr.cellAt 2 (by omega)
              have fR0 := hRr.frozenAt 0
              have fR1 := hRr.frozenAt 1
              have fR2 := hRr.frozenAt 2
              have hRn := (((hRr.stored 0 (.int .i64 0)).1.stored 1 (.int .i64 0)).1.stored 2 (.int .i64 0)).1
              have hb9 := ((hbw.setCell (p := ⟨w.heap.size, 0, none⟩) (Nat.le_refl _) (.int .i64 0)).setCell (p := ⟨w.heap.size, 1, none⟩) (Nat.le_refl _) (.int .i64 0)).setCell (p := ⟨w.heap.size, 2, none⟩) (Nat.le_refl _) (.int .i64 0)
              clear hRr hbw hXr
              go_wp2
              clear kR0 kR1 kR2 fR0 fR1 fR2
              generalize (((w4.setCell ⟨X, 2, none⟩ (.int .i64 (b : Int))).setCell ⟨w.heap.size, 0, none⟩ (.int .i64 0)).setCell ⟨w.heap.size, 1, none⟩ (.int .i64 0)).setCell ⟨w.heap.size, 2, none⟩ (.int .i64 0) = w9 at hRn hb9
              have k0 : w9.cell? ⟨w.heap.size, 0, none⟩ = some (.int .i64 0) := by simpa using hRn.cellAt 0 (by omega)
              have k1 : w9.cell? ⟨w.heap.size, 1, none⟩ = some (.int .i64 0) := by simpa using hRn.cellAt 1 (by omega)
              have k2 : w9.cell? ⟨w.heap.size, 2, none⟩ = some (.int .i64 0) := by simpa using hRn.cellAt 2 (by omega)
              refine bodyPost_ret (by simp [results, Tryd.results34, go_sem, k0, k1, k2]; try rfl) rfl ?_
              exact ⟨.inr ⟨HN.out, (0, 0, 0), rfl⟩, hb9⟩
            · have HN : Hid (NoRead [t0, t1, t2]) := noRead_three_bad (.inl hN)
              clear hN hN2
              have xs : w4.cell? ⟨X, 2, none⟩ = some (.int .i64 0) := by simpa using hXr.cellAt 2 (by omega)
              have fs := hXr.frozenAt 2
              have hXn := (hXr.stored 2 (.int .i64 z2)).1
              have hRn : (w4.setCell ⟨X, 2, none⟩ (.int .i64 z2)).ownsRow w.heap.size 26 3 (.slice (some ⟨w.heap.size, 0, none⟩) 1 1) 1 [.int .i64 0, .int .i64 0, .int .i64 0] := ownsRow_setCell_other hRr (by simp [Value.ownBlock]; omega) _
              have hbn : Below w.heap.size w (w4.setCell ⟨X, 2, none⟩ (.int .i64 z2)) := hbw.setCell (show w.heap.size ≤ X by omega) _
              simp only [List.set_cons_succ, List.set_cons_zero] at hXn
              clear hXr hRr hbw
              have hXr := hXn
              have hRr := hRn
              have hbw := hbn
              clear hXn hRn hbn
              have kR0 : (w4.setCell ⟨X, 2, none⟩ (.int .i64 z2)).cell? ⟨w.heap.size, 0, none⟩ = some (.int .i64 0) := by simpa using hRr.cellAt 0 (by omega)
              have kR1 : (w4.setCell ⟨X, 2, none⟩ (.int .i64 z2)).cell? ⟨w.heap.size, 1, none⟩ = some (.int .i64 0) := by simpa using hRr.cellAt 1 (by omega)
              have kR2 : (w4.setCell ⟨X, 2, none⟩ (.int .i64 z2)).cell? ⟨w.heap.size, 2, none⟩ = some (.int .i64 0) := by simpa using hRr.cellAt 2 (by omega)
              have fR0 := hRr.frozenAt 0
              have fR1 := hRr.frozenAt 1
              have fR2 := hRr.frozenAt 2
              have hRn := (((hRr.stored 0 (.int .i64 0)).1.stored 1 (.int .i64 0)).1.stored 2 (.int .i64 0)).1
              have hb9 := ((hbw.setCell (p := ⟨w.heap.size, 0, none⟩) (Nat.le_refl _) (.int .i64 0)).setCell (p := ⟨w.heap.size, 1, none⟩) (Nat.le_refl _) (.int .i64 0)).setCell (p := ⟨w.heap.size, 2, none⟩) (Nat.le_refl _) (.int .i64 0)
              clear hRr hbw hXr
              go_wp2
              clear kR0 kR1 kR2 fR0 fR1 fR2
              generalize (((w4.setCell ⟨X, 2, none⟩ (.int .i64 z2)).setCell ⟨w.heap.size, 0, none⟩ (.int .i64 0)).setCell ⟨w.heap.size, 1, none⟩ (.int .i64 0)).setCell ⟨w.heap.size, 2, none⟩ (.int .i64 0) = w9 at hRn hb9
              have k0 : w9.cell? ⟨w.heap.size, 0, none⟩ = some (.int .i64 0) := by simpa using hRn.cellAt 0 (by omega)
              have k1 : w9.cell? ⟨w.heap.size, 1, none⟩ = some (.int .i64 0) := by simpa using hRn.cellAt 1 (by omega)
              have k2 : w9.cell? ⟨w.heap.size, 2, none⟩ = some (.int .i64 0) := by simpa using hRn.cellAt 2 (by omega)
              refine bodyPost_ret (by simp [results, Tryd.results34, go_sem, k0, k1, k2]; try rfl) rfl ?_
              exact ⟨.inr ⟨HN.out, (0, 0, 0), rfl⟩, hb9⟩
        · have HN : Hid (NoRead (t0 :: rest)) := h3op.out h56 hn3
          have hn3' : ((n : Int) != 3) = true := by simp; omega
          clear h3op hcell hl hrl
          go_wp2_with fail
          refine (l01Bit_is false _).mono ?_
          rintro e wb ⟨rfl, rfl⟩
          have kR0 : w1.cell? ⟨w.heap.size, 0, none⟩ = some (.int .i64 0) := by simpa using hRr.cellAt 0 (by omega)
          have kR1 : w1.cell? ⟨w.heap.size, 1, none⟩ = some (.int .i64 0) := by simpa using hRr.cellAt 1 (by omega)
          have kR2 : w1.cell? ⟨w.heap.size, 2, none⟩ = some (.int .i64 0) := by simpa using hRr.cellAt 2 (by omega)
          have fR0 := hRr.frozenAt 0
          have fR1 := hRr.frozenAt 1
          have fR2 := hRr.frozenAt 2
          have hRn := (((hRr.stored 0 (.int .i64 0)).1.stored 1 (.int .i64 0)).1.stored 2 (.int .i64 0)).1
          have hb9 := ((hbw.setCell (p := ⟨w.heap.size, 0, none⟩) (Nat.le_refl _) (.int .i64 0)).setCell (p := ⟨w.heap.size, 1, none⟩) (Nat.le_refl _) (.int .i64 0)).setCell (p := ⟨w.heap.size, 2, none⟩) (Nat.le_refl _) (.int .i64 0)
          clear hRr hbw hXr
          go_wp2
          clear kR0 kR1 kR2 fR0 fR1 fR2
          generalize ((w1.setCell ⟨w.heap.size, 0, none⟩ (.int .i64 0)).setCell ⟨w.heap.size, 1, none⟩ (.int .i64 0)).setCell ⟨w.heap.size, 2, none⟩ (.int .i64 0) = w9 at hRn hb9
          have k0 : w9.cell? ⟨w.heap.size, 0, none⟩ = some (.int .i64 0) := by simpa using hRn.cellAt 0 (by omega)
          have k1 : w9.cell? ⟨w.heap.size, 1, none⟩ = some (.int .i64 0) := by simpa using hRn.cellAt 1 (by omega)
          have k2 : w9.cell? ⟨w.heap.size, 2, none⟩ = some (.int .i64 0) := by simpa using hRn.cellAt 2 (by omega)
          refine bodyPost_ret (by simp [results, Tryd.results34, go_sem, k0, k1, k2]; try rfl) rfl ?_
          exact ⟨.inr ⟨HN.out, (0, 0, 0), rfl⟩, hb9⟩
end Go.Proofs.YtiokkoaalakakaaDoor
