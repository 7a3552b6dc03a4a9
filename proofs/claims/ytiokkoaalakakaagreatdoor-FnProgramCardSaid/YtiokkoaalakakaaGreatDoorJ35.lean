/-
  FnProgram, part 35 of 50 (InsW).
-/
import Derived.Test.YtiokkoaalakakaaGreatDoorJ34
import Derived.Test.YtiokkoaalakakaaGreatDoorJ15
import Derived.Test.YtiokkoaalakakaaGreatDoorJ06
import Derived.Deep.RegionHeld3

/-
  impl.instrOfWords: an instruction read from its words.
-/
namespace Go.Proofs.YtiokkoaalakakaaGreatDoor
open Go.RowKit

theorem tells_is (k : Nat) (hk : k < 9) (a b : Nat) (w : World) : Calls Tryz.prog 47 #[.agg #[.int .i64 k, .int .i64 a, .int .i64 b]] w fun e w' => e = .returned (.bool (decide (¬ (k = 5 ∨ k = 6)))) ∧ Below w.heap.size w w' := by
  by_cases h : k = 5 ∨ k = 6
  · simpa [h] using tellsB_lock k a b w h
  · by_cases h0 : k = 0
    · subst h0
      simpa using tellsB_0 0 (a : Int) (b : Int) w (by omega)
    · simpa [h] using tellsB_two k a b w h0 hk (by omega) (by omega)

/-- s[1:] of a slice of strings. -/
theorem slice_strs {w : World} {b off len cap lo : Nat} {xs : List ByteArray} (h : Strs w (some ⟨b, off, none⟩) len cap xs) (h1 : lo ≤ len) :
    ∃ a, (∀ W, (Instr.slice 27 (.slice (some ⟨b, off, none⟩) len cap) (some (.int .i64 (lo : Int))) none none).run Tryz.prog W = .ok (.slice a (len - lo) (cap - lo)) W) ∧ Strs w a (len - lo) (cap - lo) (xs.drop lo) := by
  obtain ⟨hl, hlc, hcm, hcase⟩ := h
  have hlh : (lo : Int) ≤ (len : Int) := by omega
  by_cases hz : cap - lo = 0
  · refine ⟨some ⟨b, off, none⟩, fun W => ?_, by rw [List.length_drop]; omega, by omega, by omega, .inl (by omega)⟩
    go_simp
    omega
  · refine ⟨some ⟨b, off + lo, none⟩, fun W => ?_, by rw [List.length_drop]; omega, by omega, by omega, ?_⟩
    · go_simp
      omega
    · rcases hcase with h0 | ⟨b', off', he, hb, hc⟩
      · exact .inl (by omega)
      · cases he
        refine .inr ⟨b, off + lo, rfl, hb, fun t ht => ?_⟩
        have := hc (lo + t) (by omega)
        rw [show off + lo + t = off + (lo + t) by omega, this]
        simp [List.getD]

theorem box3_new (w : World) (x y z : Value) (t B : Nat) (hB : B ≤ w.heap.size) : (w.alloc (.cells #[x, y, z] t)).ownsRow B t 3 (.slice (some ⟨w.heap.size, 0, none⟩) 1 1) 1 [x, y, z] := World.ownsRow_lit w #[x, y, z] 1 hB (by unfold maxLen; omega) rfl

set_option maxHeartbeats 8000000 in
set_option maxRecDepth 100000 in
theorem instrOfWords_any (a0 : Option Addr) (n cap : Nat) (ts : List ByteArray) (w : World) (h : Strs w a0 n cap ts) (hn : n ≤ 2000000) (hsz : ∀ t ∈ ts, t.size ≤ maxLen) (hT : OpTable w) :
    Calls Tryz.prog 26 #[.slice a0 n cap] w fun e w' => ReadOut ts e ∧ Below w.heap.size w w' := by
  by_cases h0 : n = 0
  · subst h0
    obtain rfl : ts = [] := List.eq_nil_of_length_eq_zero h.1
    clear h hsz hT
    go_enter Tryz.func26, Tryz.ntmps26
    go_wp2
    go_returns
    exact ⟨.inr ⟨noRead_nil, (0, 0, 0), rfl⟩, by go_grown⟩
  have hl := h.1
  have hcm := h.2.2.1
  have hlc := h.2.1
  unfold maxLen at hcm
  obtain ⟨b0, off, rfl, hblt, hcell⟩ : ∃ b off, a0 = some ⟨b, off, none⟩ ∧ b < w.heap.size ∧ ∀ t, t < n → w.cell? ⟨b, off + t, none⟩ = some (.string (ts.getD t ByteArray.empty)) := by
    rcases h.2.2.2 with h' | h'
    · exact absurd h' h0
    · exact h'
  obtain ⟨t0, rest, rfl⟩ : ∃ t0 rest, ts = t0 :: rest := by
    cases ts with
    | nil => simp at hl; omega
    | cons t0 rest => exact ⟨t0, rest, rfl⟩
  have hc0 : w.cell? ⟨b0, off, none⟩ = some (.string t0) := by simpa using hcell 0 (by omega)
  obtain ⟨aR, hslR, hSr⟩ := slice_strs (lo := 1) h (by omega)
  rw [show ((1 : Nat) : Int) = 1 from rfl] at hslR
  rw [List.drop_one, List.tail_cons] at hSr
  have hszr : ∀ t ∈ rest, t.size ≤ maxLen := fun t ht => hsz t (by simp [ht])
  have hne : ((n : Int) == 0) = false := beq_eq_false_iff_ne.2 (by omega)
  have hnp : (0 : Int) < (n : Int) := by omega
  have hk9 := opK_lt t0
  clear h hcell hsz
  have hcA : ∀ o, (w.alloc o).cell? ⟨b0, off, none⟩ = some (.string t0) := fun o => cells_kept (by go_grown) _ _ hc0
  have KOp := fun o => opOf_is t0 (w.alloc o) (hT.below (by go_grown))
  have h0op : Hid (opK t0 = 0 → NoRead (t0 :: rest)) := fun h => noRead_op rfl h
  have h2op : Hid ((opK t0 = 5 ∨ opK t0 = 6) → n ≠ 2 → NoRead (t0 :: rest)) := fun h h' => noRead_len2 rfl h (by rw [hl]; exact h')
  have h3op : Hid (¬ (opK t0 = 5 ∨ opK t0 = 6) → n ≠ 3 → NoRead (t0 :: rest)) := fun h h' => noRead_len3 rfl h (by rw [hl]; exact h')
  obtain ⟨k, hk⟩ : ∃ k, k = opK t0 := ⟨_, rfl⟩
  rw [← hk] at h0op h2op h3op hk9
  simp only [← hk] at KOp
  have HK : Hid (k = opK t0) := hk
  clear hk
  go_enter Tryz.func26, Tryz.ntmps26
  go_wp2_with fail
  refine (KOp _).mono ?_
  rintro e wq ⟨rfl, rfl⟩
  clear KOp hcA
  have hR1 := (box3_new w (.int .i64 0) (.int .i64 0) (.int .i64 0) 36 w.heap.size (Nat.le_refl _)).alloc (.cells #[.int .i64 (k : Int), .int .i64 0, .int .i64 0] 36)
  have hX1 := box3_new (w.alloc (.cells #[.int .i64 0, .int .i64 0, .int .i64 0] 36)) (.int .i64 (k : Int)) (.int .i64 0) (.int .i64 0) 36 w.heap.size (by simp)
  have bA : Below w.heap.size w ((w.alloc (.cells #[.int .i64 0, .int .i64 0, .int .i64 0] 36)).alloc (.cells #[.int .i64 (k : Int), .int .i64 0, .int .i64 0] 36)) := by go_grown
  try simp only [World.size_alloc] at hX1
  have KN := numbersOfWords_any aR (n - 1) (cap - 1) rest _ (hSr.below bA) (by omega) hszr
  go_wp2_with fail
  refine KN.mono ?_
  rintro e w1 ⟨hk1, hb1⟩
  have hRr := owns_below hR1 hb1
  have hXr := owns_below hX1 hb1
  have hbw := bel_trans bA hb1
  have hXw : w.heap.size < w.heap.size + 1 := by omega
  clear KN hR1 hX1 bA hb1 hT hSr hslR hszr hc0
  generalize w.heap.size + 1 = X at hXr hXw
  rcases hk1 with ⟨ns, v, hA, rfl, ho⟩ | ⟨hbad, rfl⟩
  · have hnl := hA.length
    have hrl : rest.length + 1 = n := by simpa using hl
    obtain ⟨aN, capN, hv⟩ : ∃ aN capN, v = .slice aN ns.length capN := by
      rcases ho.2 with ⟨hv, h0'⟩ | ⟨g, cp, cur, hv, _⟩
      · exact ⟨none, 0, by rw [h0']; exact hv⟩
      · exact ⟨_, cp, hv⟩
    subst hv
    obtain ⟨m, hm⟩ : ∃ m, m = ns.length := ⟨_, rfl⟩
    rw [← hm] at ho hnl
    rw [← hm]
    have HA : Hid (AllDec rest ns) := hA
    have HM : Hid (m = ns.length) := hm
    have hm2 : m ≤ 2000000 := by omega
    clear hA hm
    by_cases h56 : k = 5 ∨ k = 6
    · have KT : ∀ W, Calls Tryz.prog 47 #[.agg #[.int .i64 (k : Int), .int .i64 0, .int .i64 0]] W fun e w' => e = .returned (.bool false) ∧ Below W.heap.size W w' := fun W => by simpa [h56] using tells_is k hk9 0 0 W
      by_cases hm1 : m = 1
      · subst hm1
        obtain ⟨a, rfl⟩ : ∃ a, ns = [a] := by
          match ns, HM.out with
          | [a], _ => exact ⟨a, rfl⟩
        obtain ⟨t1, rfl⟩ : ∃ t1, rest = [t1] := by
          match rest, hnl with
          | [t1], _ => exact ⟨t1, rfl⟩
        have hD : IsDec t1 a := HA.out.1
        have HYN : Hid ((okI ((k : Int), (a : Int), 0) = true → IsRead [t0, t1] ((k : Int), (a : Int), 0)) ∧ (okI ((k : Int), (a : Int), 0) = false → NoRead [t0, t1])) := by
          refine ⟨fun h => .inl ⟨t0, t1, a, rfl, by rw [← HK.out]; exact h56, hD, by rw [← HK.out], h⟩, fun h => noRead_two_no hD (by rw [← HK.out]; exact h)⟩
        have ha18 := hD.lt
        clear hD HA HM h0op h2op h3op hnl hl hrl
        have x0 : w1.cell? ⟨X, 0, none⟩ = some (.int .i64 (k : Int)) := by simpa using hXr.cellAt 0 (by omega)
        have x1 : w1.cell? ⟨X, 1, none⟩ = some (.int .i64 0) := by simpa using hXr.cellAt 1 (by omega)
        have x2 : w1.cell? ⟨X, 2, none⟩ = some (.int .i64 0) := by simpa using hXr.cellAt 2 (by omega)
        go_wp2_with fail
        refine (KT _).mono ?_
        rintro e w2 ⟨rfl, hbq⟩
        replace hRr := owns_below hRr hbq
        replace hXr := owns_below hXr hbq
        replace ho := owns_below ho hbq
        replace hbw := bel_trans hbw hbq
        clear hbq x0 x1 x2
        have x0 : w2.cell? ⟨X, 0, none⟩ = some (.int .i64 (k : Int)) := by simpa using hXr.cellAt 0 (by omega)
        have x1 : w2.cell? ⟨X, 1, none⟩ = some (.int .i64 0) := by simpa using hXr.cellAt 1 (by omega)
        have x2 : w2.cell? ⟨X, 2, none⟩ = some (.int .i64 0) := by simpa using hXr.cellAt 2 (by omega)
        go_wp2_with fail
        refine (KT _).mono ?_
        rintro e w3 ⟨rfl, hbq⟩
        replace hRr := owns_below hRr hbq
        replace hXr := owns_below hXr hbq
        replace ho := owns_below ho hbq
        replace hbw := bel_trans hbw hbq
        clear hbq x0 x1 x2
        obtain ⟨g, hg⟩ : ∃ g, aN = some ⟨g, 0, none⟩ := by
          rcases ho.2 with ⟨hv, h0'⟩ | ⟨g, cp, cur, hv, _⟩
          · omega
          · cases hv; exact ⟨g, rfl⟩
        subst hg
        have n0 : w3.cell? ⟨g, 0, none⟩ = some (.int .i64 (a : Int)) := by simpa using ho.cellAt 0 (by omega)
        have x1 : w3.cell? ⟨X, 1, none⟩ = some (.int .i64 0) := by simpa using hXr.cellAt 1 (by omega)
        have f1 := hXr.frozenAt 1
        have hXn := (hXr.stored 1 (.int .i64 (a : Int))).1
        have hRn : (w3.setCell ⟨X, 1, none⟩ (.int .i64 (a : Int))).ownsRow w.heap.size 36 3 (.slice (some ⟨w.heap.size, 0, none⟩) 1 1) 1 [.int .i64 0, .int .i64 0, .int .i64 0] := ownsRow_setCell_other hRr (by simp [Value.ownBlock]; omega) _
        have hbn : Below w.heap.size w (w3.setCell ⟨X, 1, none⟩ (.int .i64 (a : Int))) := hbw.setCell (show w.heap.size ≤ X by omega) _
        simp only [List.set_cons_succ, List.set_cons_zero] at hXn
        clear hRr hXr hbw
        go_wp2_with fail
        clear ho n0 x1 f1
        generalize w3.setCell ⟨X, 1, none⟩ (.int .i64 (a : Int)) = W at hXn hRn hbn
        have hXr := hXn
        have hRr := hRn
        have hbw := hbn
        clear hXn hRn hbn
        have x0 : W.cell? ⟨X, 0, none⟩ = some (.int .i64 (k : Int)) := by simpa using hXr.cellAt 0 (by omega)
        have x1 : W.cell? ⟨X, 1, none⟩ = some (.int .i64 (a : Int)) := by simpa using hXr.cellAt 1 (by omega)
        have x2 : W.cell? ⟨X, 2, none⟩ = some (.int .i64 0) := by simpa using hXr.cellAt 2 (by omega)
        have KO := instrOK_is ((k : Int), (a : Int), 0)
        unfold I3.val at KO
        obtain ⟨ok, hok⟩ : ∃ ok, ok = okI ((k : Int), (a : Int), 0) := ⟨_, rfl⟩
        rw [← hok] at KO HYN
        clear hok
        go_wp2_with fail
        refine wp_region_held_drew (S := (fun w' => w'.cell? ⟨X, 0, none⟩ = some (.int .i64 (k : Int)) ∧ w'.cell? ⟨X, 1, none⟩ = some (.int .i64 (a : Int)) ∧ w'.cell? ⟨X, 2, none⟩ = some (.int .i64 0))) (by kernel_rfl) ⟨x0, x1, x2⟩ (fun hS0 => ?_)
        refine wpAnyH_take (i := 0) (oi := { dst := some 55, op := _, type := _, pos := _, after := _, guard := _ }) (v := .agg #[.int .i64 (k : Int), .int .i64 (a : Int), .int .i64 0]) rfl (by kernel_rfl) (by kernel_rfl) (by kernel_rfl) (fun _ _ _ h => h) (Or.inl ⟨by rfl, ?_⟩) (by assumption) ?_
        · (intro w' hSw; (try dsimp only at hSw); go_simp; try rfl)
        simp only [Act.put, List.setIfInBounds_toArray, List.set_cons_zero, List.set_cons_succ]
        refine wpAnyH_take (i := 1) (oi := { dst := some 56, op := _, type := _, pos := _, after := _, guard := _ }) (v := .agg #[.int .i64 (k : Int), .int .i64 (a : Int), .int .i64 0]) rfl (by kernel_rfl) (by kernel_rfl) (by kernel_rfl) (fun _ _ _ h => h) (Or.inl ⟨by rfl, ?_⟩) (by assumption) ?_
        · (intro w' hSw; (try dsimp only at hSw); go_simp; try rfl)
        simp only [Act.put, List.setIfInBounds_toArray, List.set_cons_zero, List.set_cons_succ]
        refine wpAnyH_ready (rs := [2]) (by kernel_rfl) (by simp) ?_
        refine AllReadyH.cons (o := { dst := some 57, op := _, type := _, pos := _, after := _, guard := _ }) rfl (fun K hK => ?_) AllReadyH.nil
        go_simp
        refine (KO _).mono ?_
        rintro e w5 ⟨rfl, hb5⟩
        go_wp2_with fail
        refine hK.out _ _ ?_ (fun hS1 => ?_)
        · exact ⟨cells_kept hb5 _ _ hS0.1, cells_kept hb5 _ _ hS0.2.1, cells_kept hb5 _ _ hS0.2.2⟩
        clear hK
        replace hRr := owns_below hRr.drew hb5
        replace hbw := bel_trans hbw (bel_trans (by go_grown) hb5)
        have kR0 : w5.cell? ⟨w.heap.size, 0, none⟩ = some (.int .i64 0) := by simpa using hRr.cellAt 0 (by omega)
        have kR1 : w5.cell? ⟨w.heap.size, 1, none⟩ = some (.int .i64 0) := by simpa using hRr.cellAt 1 (by omega)
        have kR2 : w5.cell? ⟨w.heap.size, 2, none⟩ = some (.int .i64 0) := by simpa using hRr.cellAt 2 (by omega)
        have fR0 := hRr.frozenAt 0
        have fR1 := hRr.frozenAt 1
        have fR2 := hRr.frozenAt 2
        have hRn := (((hRr.stored 0 (.int .i64 (k : Int))).1.stored 1 (.int .i64 (a : Int))).1.stored 2 (.int .i64 0)).1
        have hb9 := ((hbw.setCell (p := ⟨w.heap.size, 0, none⟩) (Nat.le_refl _) (.int .i64 (k : Int))).setCell (p := ⟨w.heap.size, 1, none⟩) (Nat.le_refl _) (.int .i64 (a : Int))).setCell (p := ⟨w.heap.size, 2, none⟩) (Nat.le_refl _) (.int .i64 0)
        have q2 : (((w5.setCell ⟨w.heap.size, 0, none⟩ (.int .i64 (k : Int))).setCell ⟨w.heap.size, 1, none⟩ (.int .i64 (a : Int))).setCell ⟨w.heap.size, 2, none⟩ (.int .i64 0)).cell? ⟨X, 0, none⟩ = some (.int .i64 (k : Int)) ∧ (((w5.setCell ⟨w.heap.size, 0, none⟩ (.int .i64 (k : Int))).setCell ⟨w.heap.size, 1, none⟩ (.int .i64 (a : Int))).setCell ⟨w.heap.size, 2, none⟩ (.int .i64 0)).cell? ⟨X, 1, none⟩ = some (.int .i64 (a : Int)) ∧ (((w5.setCell ⟨w.heap.size, 0, none⟩ (.int .i64 (k : Int))).setCell ⟨w.heap.size, 1, none⟩ (.int .i64 (a : Int))).setCell ⟨w.heap.size, 2, none⟩ (.int .i64 0)).cell? ⟨X, 2, none⟩ = some (.int .i64 0) := by
          refine ⟨?_, ?_, ?_⟩ <;> rw [cell_setCell_off _ _ _ (show X ≠ w.heap.size by omega), cell_setCell_off _ _ _ (show X ≠ w.heap.size by omega), cell_setCell_off _ _ _ (show X ≠ w.heap.size by omega)]
          · exact hS1.1
          · exact hS1.2.1
          · exact hS1.2.2
        refine wpAnyH_ready (rs := [3]) (by kernel_rfl) (by simp) ?_
        refine AllReadyH.cons (o := { dst := none, op := _, type := _, pos := _, after := _, guard := _ }) rfl (fun K hK => ?_) AllReadyH.nil
        go_simp
        refine hK.out _ _ q2 (fun hS2 => ?_)
        clear hK
        refine wpAnyH_take (i := 4) (oi := { dst := some 3, op := _, type := _, pos := _, after := _, guard := _ }) (v := .bool ok) rfl (by kernel_rfl) (by kernel_rfl) (by kernel_rfl) (fun _ _ _ h => h) (Or.inl ⟨by rfl, ?_⟩) (by assumption) ?_
        · (intro w' hSw; (try dsimp only at hSw); go_simp; try rfl)
        simp only [Act.put, List.setIfInBounds_toArray, List.set_cons_zero, List.set_cons_succ]
        refine wpAnyH_done (by kernel_rfl) ?_ _
        clear kR0 kR1 kR2 fR0 fR1 fR2 hRr hbw hS0 hS1 hS2 q2 x0 x1 x2 hXr hb5 KO
        generalize ((w5.setCell ⟨w.heap.size, 0, none⟩ (.int .i64 (k : Int))).setCell ⟨w.heap.size, 1, none⟩ (.int .i64 (a : Int))).setCell ⟨w.heap.size, 2, none⟩ (.int .i64 0) = w9 at hRn hb9
        have k0 : w9.cell? ⟨w.heap.size, 0, none⟩ = some (.int .i64 (k : Int)) := by simpa using hRn.cellAt 0 (by omega)
        have k1 : w9.cell? ⟨w.heap.size, 1, none⟩ = some (.int .i64 (a : Int)) := by simpa using hRn.cellAt 1 (by omega)
        have k2 : w9.cell? ⟨w.heap.size, 2, none⟩ = some (.int .i64 0) := by simpa using hRn.cellAt 2 (by omega)
        go_wp2_with fail
        refine bodyPost_ret (by simp [results, Tryz.results26, go_sem, k0, k1, k2]; try rfl) rfl ?_
        cases ok
        · exact ⟨.inr ⟨HYN.out.2 rfl, ((k : Int), (a : Int), 0), rfl⟩, hb9⟩
        · exact ⟨.inl ⟨((k : Int), (a : Int), 0), HYN.out.1 rfl, rfl⟩, hb9⟩
      · have HN : Hid (NoRead (t0 :: rest)) := h2op.out h56 (by omega)
        have hm1' : ((m : Int) == 1) = false := beq_eq_false_iff_ne.2 (by omega)
        clear HA HM h0op h2op h3op hnl hl hrl
        have x0 : w1.cell? ⟨X, 0, none⟩ = some (.int .i64 (k : Int)) := by simpa using hXr.cellAt 0 (by omega)
        have x1 : w1.cell? ⟨X, 1, none⟩ = some (.int .i64 0) := by simpa using hXr.cellAt 1 (by omega)
        have x2 : w1.cell? ⟨X, 2, none⟩ = some (.int .i64 0) := by simpa using hXr.cellAt 2 (by omega)
        go_wp2_with fail
        refine (KT _).mono ?_
        rintro e w2 ⟨rfl, hbq⟩
        replace hRr := owns_below hRr hbq
        replace hXr := owns_below hXr hbq
        replace ho := owns_below ho hbq
        replace hbw := bel_trans hbw hbq
        clear hbq x0 x1 x2
        have x0 : w2.cell? ⟨X, 0, none⟩ = some (.int .i64 (k : Int)) := by simpa using hXr.cellAt 0 (by omega)
        have x1 : w2.cell? ⟨X, 1, none⟩ = some (.int .i64 0) := by simpa using hXr.cellAt 1 (by omega)
        have x2 : w2.cell? ⟨X, 2, none⟩ = some (.int .i64 0) := by simpa using hXr.cellAt 2 (by omega)
        go_wp2_with fail
        refine (KT _).mono ?_
        rintro e w3 ⟨rfl, hbq⟩
        replace hRr := owns_below hRr hbq
        replace hXr := owns_below hXr hbq
        replace ho := owns_below ho hbq
        replace hbw := bel_trans hbw hbq
        clear hbq x0 x1 x2
        have kR0 : w3.cell? ⟨w.heap.size, 0, none⟩ = some (.int .i64 0) := by simpa using hRr.cellAt 0 (by omega)
        have kR1 : w3.cell? ⟨w.heap.size, 1, none⟩ = some (.int .i64 0) := by simpa using hRr.cellAt 1 (by omega)
        have kR2 : w3.cell? ⟨w.heap.size, 2, none⟩ = some (.int .i64 0) := by simpa using hRr.cellAt 2 (by omega)
        have fR0 := hRr.frozenAt 0
        have fR1 := hRr.frozenAt 1
        have fR2 := hRr.frozenAt 2
        have hRn := (((hRr.stored 0 (.int .i64 0)).1.stored 1 (.int .i64 0)).1.stored 2 (.int .i64 0)).1
        have hb9 := ((hbw.setCell (p := ⟨w.heap.size, 0, none⟩) (Nat.le_refl _) (.int .i64 0)).setCell (p := ⟨w.heap.size, 1, none⟩) (Nat.le_refl _) (.int .i64 0)).setCell (p := ⟨w.heap.size, 2, none⟩) (Nat.le_refl _) (.int .i64 0)
        clear hRr hbw hXr ho
        go_wp2
        clear kR0 kR1 kR2 fR0 fR1 fR2
        generalize ((w3.setCell ⟨w.heap.size, 0, none⟩ (.int .i64 0)).setCell ⟨w.heap.size, 1, none⟩ (.int .i64 0)).setCell ⟨w.heap.size, 2, none⟩ (.int .i64 0) = w9 at hRn hb9
        have k0 : w9.cell? ⟨w.heap.size, 0, none⟩ = some (.int .i64 0) := by simpa using hRn.cellAt 0 (by omega)
        have k1 : w9.cell? ⟨w.heap.size, 1, none⟩ = some (.int .i64 0) := by simpa using hRn.cellAt 1 (by omega)
        have k2 : w9.cell? ⟨w.heap.size, 2, none⟩ = some (.int .i64 0) := by simpa using hRn.cellAt 2 (by omega)
        refine bodyPost_ret (by simp [results, Tryz.results26, go_sem, k0, k1, k2]; try rfl) rfl ?_
        exact ⟨.inr ⟨HN.out, (0, 0, 0), rfl⟩, hb9⟩
    · have KT : ∀ W, Calls Tryz.prog 47 #[.agg #[.int .i64 (k : Int), .int .i64 0, .int .i64 0]] W fun e w' => e = .returned (.bool true) ∧ Below W.heap.size W w' := fun W => by simpa [h56] using tells_is k hk9 0 0 W
      by_cases hm1 : m = 2
      · subst hm1
        obtain ⟨a, b, rfl⟩ : ∃ a b, ns = [a, b] := by
          match ns, HM.out with
          | [a, b], _ => exact ⟨a, b, rfl⟩
        obtain ⟨t1, t2, rfl⟩ : ∃ t1 t2, rest = [t1, t2] := by
          match rest, hnl with
          | [t1, t2], _ => exact ⟨t1, t2, rfl⟩
        have hD : IsDec t1 a := HA.out.1
        have hD2 : IsDec t2 b := HA.out.2.1
        have HYN : Hid ((okI ((k : Int), (a : Int), (b : Int)) = true → IsRead [t0, t1, t2] ((k : Int), (a : Int), (b : Int))) ∧ (okI ((k : Int), (a : Int), (b : Int)) = false → NoRead [t0, t1, t2])) := by
          refine ⟨fun h => .inr ⟨t0, t1, t2, a, b, rfl, by rw [← HK.out]; exact h56, ?_, hD, hD2, by rw [← HK.out], h⟩, fun h => noRead_three_no hD hD2 (by rw [← HK.out]; exact h)⟩
          rw [← HK.out]
          obtain ⟨k', a', b', e, hk0, _⟩ := okI_nats h
          simp at e
          omega
        have ha18 := hD.lt
        have hb18 := hD2.lt
        clear hD hD2 HA HM h0op h2op h3op hnl hl hrl
        have x0 : w1.cell? ⟨X, 0, none⟩ = some (.int .i64 (k : Int)) := by simpa using hXr.cellAt 0 (by omega)
        have x1 : w1.cell? ⟨X, 1, none⟩ = some (.int .i64 0) := by simpa using hXr.cellAt 1 (by omega)
        have x2 : w1.cell? ⟨X, 2, none⟩ = some (.int .i64 0) := by simpa using hXr.cellAt 2 (by omega)
        go_wp2_with fail
        refine (KT _).mono ?_
        rintro e w2 ⟨rfl, hbq⟩
        replace hRr := owns_below hRr hbq
        replace hXr := owns_below hXr hbq
        replace ho := owns_below ho hbq
        replace hbw := bel_trans hbw hbq
        clear hbq x0 x1 x2
        obtain ⟨g, hg⟩ : ∃ g, aN = some ⟨g, 0, none⟩ := by
          rcases ho.2 with ⟨hv, h0'⟩ | ⟨g, cp, cur, hv, _⟩
          · omega
          · cases hv; exact ⟨g, rfl⟩
        subst hg
        have n0 : w2.cell? ⟨g, 0, none⟩ = some (.int .i64 (a : Int)) := by simpa using ho.cellAt 0 (by omega)
        have n1 : w2.cell? ⟨g, 1, none⟩ = some (.int .i64 (b : Int)) := by simpa using ho.cellAt 1 (by omega)
        have x1 : w2.cell? ⟨X, 1, none⟩ = some (.int .i64 0) := by simpa using hXr.cellAt 1 (by omega)
        have x2 : w2.cell? ⟨X, 2, none⟩ = some (.int .i64 0) := by simpa using hXr.cellAt 2 (by omega)
        have f1 := hXr.frozenAt 1
        have f2 := hXr.frozenAt 2
        have hXn := ((hXr.stored 1 (.int .i64 (a : Int))).1.stored 2 (.int .i64 (b : Int))).1.drew
        have hRn : ((w2.setCell ⟨X, 1, none⟩ (.int .i64 (a : Int))).setCell ⟨X, 2, none⟩ (.int .i64 (b : Int))).drew.ownsRow w.heap.size 36 3 (.slice (some ⟨w.heap.size, 0, none⟩) 1 1) 1 [.int .i64 0, .int .i64 0, .int .i64 0] := (ownsRow_setCell_other (ownsRow_setCell_other hRr (by simp [Value.ownBlock]; omega) _) (by simp [Value.ownBlock]; omega) _).drew
        have hbn : Below w.heap.size w ((w2.setCell ⟨X, 1, none⟩ (.int .i64 (a : Int))).setCell ⟨X, 2, none⟩ (.int .i64 (b : Int))).drew := ((hbw.setCell (p := ⟨X, 1, none⟩) (show w.heap.size ≤ X by omega) (.int .i64 (a : Int))).setCell (p := ⟨X, 2, none⟩) (show w.heap.size ≤ X by omega) (.int .i64 (b : Int))).drew
        simp only [List.set_cons_succ, List.set_cons_zero] at hXn
        have hcg : g ≠ X := by
          intro e
          subst e
          rcases owns_ne ho hXr (by decide) with h' | h'
          · simp [Value.ownBlock] at h'
          · exact h' rfl
        clear hRr hXr hbw
        go_wp2_with fail
        go_region
        clear ho n0 n1 x1 x2 f1 f2 hcg
        generalize ((w2.setCell ⟨X, 1, none⟩ (.int .i64 (a : Int))).setCell ⟨X, 2, none⟩ (.int .i64 (b : Int))).drew = W at hXn hRn hbn
        have hXr := hXn
        have hRr := hRn
        have hbw := hbn
        clear hXn hRn hbn
        have x0 : W.cell? ⟨X, 0, none⟩ = some (.int .i64 (k : Int)) := by simpa using hXr.cellAt 0 (by omega)
        have x1 : W.cell? ⟨X, 1, none⟩ = some (.int .i64 (a : Int)) := by simpa using hXr.cellAt 1 (by omega)
        have x2 : W.cell? ⟨X, 2, none⟩ = some (.int .i64 (b : Int)) := by simpa using hXr.cellAt 2 (by omega)
        have KO := instrOK_is ((k : Int), (a : Int), (b : Int))
        unfold I3.val at KO
        obtain ⟨ok, hok⟩ : ∃ ok, ok = okI ((k : Int), (a : Int), (b : Int)) := ⟨_, rfl⟩
        rw [← hok] at KO HYN
        clear hok
        go_wp2_with fail
        refine wp_region_held_drew (S := (fun w' => w'.cell? ⟨X, 0, none⟩ = some (.int .i64 (k : Int)) ∧ w'.cell? ⟨X, 1, none⟩ = some (.int .i64 (a : Int)) ∧ w'.cell? ⟨X, 2, none⟩ = some (.int .i64 (b : Int)))) (by kernel_rfl) ⟨x0, x1, x2⟩ (fun hS0 => ?_)
        refine wpAnyH_take (i := 0) (oi := { dst := some 55, op := _, type := _, pos := _, after := _, guard := _ }) (v := .agg #[.int .i64 (k : Int), .int .i64 (a : Int), .int .i64 (b : Int)]) rfl (by kernel_rfl) (by kernel_rfl) (by kernel_rfl) (fun _ _ _ h => h) (Or.inl ⟨by rfl, ?_⟩) (by assumption) ?_
        · (intro w' hSw; (try dsimp only at hSw); go_simp; try rfl)
        simp only [Act.put, List.setIfInBounds_toArray, List.set_cons_zero, List.set_cons_succ]
        refine wpAnyH_take (i := 1) (oi := { dst := some 56, op := _, type := _, pos := _, after := _, guard := _ }) (v := .agg #[.int .i64 (k : Int), .int .i64 (a : Int), .int .i64 (b : Int)]) rfl (by kernel_rfl) (by kernel_rfl) (by kernel_rfl) (fun _ _ _ h => h) (Or.inl ⟨by rfl, ?_⟩) (by assumption) ?_
        · (intro w' hSw; (try dsimp only at hSw); go_simp; try rfl)
        simp only [Act.put, List.setIfInBounds_toArray, List.set_cons_zero, List.set_cons_succ]
        refine wpAnyH_ready (rs := [2]) (by kernel_rfl) (by simp) ?_
        refine AllReadyH.cons (o := { dst := some 57, op := _, type := _, pos := _, after := _, guard := _ }) rfl (fun K hK => ?_) AllReadyH.nil
        go_simp
        refine (KO _).mono ?_
        rintro e w5 ⟨rfl, hb5⟩
        go_wp2_with fail
        refine hK.out _ _ ?_ (fun hS1 => ?_)
        · exact ⟨cells_kept hb5 _ _ hS0.1, cells_kept hb5 _ _ hS0.2.1, cells_kept hb5 _ _ hS0.2.2⟩
        clear hK
        replace hRr := owns_below hRr.drew hb5
        replace hbw := bel_trans hbw (bel_trans (by go_grown) hb5)
        have kR0 : w5.cell? ⟨w.heap.size, 0, none⟩ = some (.int .i64 0) := by simpa using hRr.cellAt 0 (by omega)
        have kR1 : w5.cell? ⟨w.heap.size, 1, none⟩ = some (.int .i64 0) := by simpa using hRr.cellAt 1 (by omega)
        have kR2 : w5.cell? ⟨w.heap.size, 2, none⟩ = some (.int .i64 0) := by simpa using hRr.cellAt 2 (by omega)
        have fR0 := hRr.frozenAt 0
        have fR1 := hRr.frozenAt 1
        have fR2 := hRr.frozenAt 2
        have hRn := (((hRr.stored 0 (.int .i64 (k : Int))).1.stored 1 (.int .i64 (a : Int))).1.stored 2 (.int .i64 (b : Int))).1
        have hb9 := ((hbw.setCell (p := ⟨w.heap.size, 0, none⟩) (Nat.le_refl _) (.int .i64 (k : Int))).setCell (p := ⟨w.heap.size, 1, none⟩) (Nat.le_refl _) (.int .i64 (a : Int))).setCell (p := ⟨w.heap.size, 2, none⟩) (Nat.le_refl _) (.int .i64 (b : Int))
        have q2 : (((w5.setCell ⟨w.heap.size, 0, none⟩ (.int .i64 (k : Int))).setCell ⟨w.heap.size, 1, none⟩ (.int .i64 (a : Int))).setCell ⟨w.heap.size, 2, none⟩ (.int .i64 (b : Int))).cell? ⟨X, 0, none⟩ = some (.int .i64 (k : Int)) ∧ (((w5.setCell ⟨w.heap.size, 0, none⟩ (.int .i64 (k : Int))).setCell ⟨w.heap.size, 1, none⟩ (.int .i64 (a : Int))).setCell ⟨w.heap.size, 2, none⟩ (.int .i64 (b : Int))).cell? ⟨X, 1, none⟩ = some (.int .i64 (a : Int)) ∧ (((w5.setCell ⟨w.heap.size, 0, none⟩ (.int .i64 (k : Int))).setCell ⟨w.heap.size, 1, none⟩ (.int .i64 (a : Int))).setCell ⟨w.heap.size, 2, none⟩ (.int .i64 (b : Int))).cell? ⟨X, 2, none⟩ = some (.int .i64 (b : Int)) := by
          refine ⟨?_, ?_, ?_⟩ <;> rw [cell_setCell_off _ _ _ (show X ≠ w.heap.size by omega), cell_setCell_off _ _ _ (show X ≠ w.heap.size by omega), cell_setCell_off _ _ _ (show X ≠ w.heap.size by omega)]
          · exact hS1.1
          · exact hS1.2.1
          · exact hS1.2.2
        refine wpAnyH_ready (rs := [3]) (by kernel_rfl) (by simp) ?_
        refine AllReadyH.cons (o := { dst := none, op := _, type := _, pos := _, after := _, guard := _ }) rfl (fun K hK => ?_) AllReadyH.nil
        go_simp
        refine hK.out _ _ q2 (fun hS2 => ?_)
        clear hK
        refine wpAnyH_take (i := 4) (oi := { dst := some 3, op := _, type := _, pos := _, after := _, guard := _ }) (v := .bool ok) rfl (by kernel_rfl) (by kernel_rfl) (by kernel_rfl) (fun _ _ _ h => h) (Or.inl ⟨by rfl, ?_⟩) (by assumption) ?_
        · (intro w' hSw; (try dsimp only at hSw); go_simp; try rfl)
        simp only [Act.put, List.setIfInBounds_toArray, List.set_cons_zero, List.set_cons_succ]
        refine wpAnyH_done (by kernel_rfl) ?_ _
        clear kR0 kR1 kR2 fR0 fR1 fR2 hRr hbw hS0 hS1 hS2 q2 x0 x1 x2 hXr hb5 KO
        generalize ((w5.setCell ⟨w.heap.size, 0, none⟩ (.int .i64 (k : Int))).setCell ⟨w.heap.size, 1, none⟩ (.int .i64 (a : Int))).setCell ⟨w.heap.size, 2, none⟩ (.int .i64 (b : Int)) = w9 at hRn hb9
        have k0 : w9.cell? ⟨w.heap.size, 0, none⟩ = some (.int .i64 (k : Int)) := by simpa using hRn.cellAt 0 (by omega)
        have k1 : w9.cell? ⟨w.heap.size, 1, none⟩ = some (.int .i64 (a : Int)) := by simpa using hRn.cellAt 1 (by omega)
        have k2 : w9.cell? ⟨w.heap.size, 2, none⟩ = some (.int .i64 (b : Int)) := by simpa using hRn.cellAt 2 (by omega)
        go_wp2_with fail
        refine bodyPost_ret (by simp [results, Tryz.results26, go_sem, k0, k1, k2]; try rfl) rfl ?_
        cases ok
        · exact ⟨.inr ⟨HYN.out.2 rfl, ((k : Int), (a : Int), (b : Int)), rfl⟩, hb9⟩
        · exact ⟨.inl ⟨((k : Int), (a : Int), (b : Int)), HYN.out.1 rfl, rfl⟩, hb9⟩
      · have HN : Hid (NoRead (t0 :: rest)) := h3op.out h56 (by omega)
        have hm1' : ((m : Int) == 2) = false := beq_eq_false_iff_ne.2 (by omega)
        clear HA HM h0op h2op h3op hnl hl hrl
        have x0 : w1.cell? ⟨X, 0, none⟩ = some (.int .i64 (k : Int)) := by simpa using hXr.cellAt 0 (by omega)
        have x1 : w1.cell? ⟨X, 1, none⟩ = some (.int .i64 0) := by simpa using hXr.cellAt 1 (by omega)
        have x2 : w1.cell? ⟨X, 2, none⟩ = some (.int .i64 0) := by simpa using hXr.cellAt 2 (by omega)
        go_wp2_with fail
        refine (KT _).mono ?_
        rintro e w2 ⟨rfl, hbq⟩
        replace hRr := owns_below hRr hbq
        replace hXr := owns_below hXr hbq
        replace ho := owns_below ho hbq
        replace hbw := bel_trans hbw hbq
        clear hbq x0 x1 x2
        have x0 : w2.cell? ⟨X, 0, none⟩ = some (.int .i64 (k : Int)) := by simpa using hXr.cellAt 0 (by omega)
        have x1 : w2.cell? ⟨X, 1, none⟩ = some (.int .i64 0) := by simpa using hXr.cellAt 1 (by omega)
        have x2 : w2.cell? ⟨X, 2, none⟩ = some (.int .i64 0) := by simpa using hXr.cellAt 2 (by omega)
        go_wp2_with fail
        refine (KT _).mono ?_
        rintro e w3 ⟨rfl, hbq⟩
        replace hRr := owns_below hRr hbq
        replace hXr := owns_below hXr hbq
        replace ho := owns_below ho hbq
        replace hbw := bel_trans hbw hbq
        clear hbq x0 x1 x2
        have kR0 : w3.cell? ⟨w.heap.size, 0, none⟩ = some (.int .i64 0) := by simpa using hRr.cellAt 0 (by omega)
        have kR1 : w3.cell? ⟨w.heap.size, 1, none⟩ = some (.int .i64 0) := by simpa using hRr.cellAt 1 (by omega)
        have kR2 : w3.cell? ⟨w.heap.size, 2, none⟩ = some (.int .i64 0) := by simpa using hRr.cellAt 2 (by omega)
        have fR0 := hRr.frozenAt 0
        have fR1 := hRr.frozenAt 1
        have fR2 := hRr.frozenAt 2
        have hRn := (((hRr.stored 0 (.int .i64 0)).1.stored 1 (.int .i64 0)).1.stored 2 (.int .i64 0)).1
        have hb9 := ((hbw.setCell (p := ⟨w.heap.size, 0, none⟩) (Nat.le_refl _) (.int .i64 0)).setCell (p := ⟨w.heap.size, 1, none⟩) (Nat.le_refl _) (.int .i64 0)).setCell (p := ⟨w.heap.size, 2, none⟩) (Nat.le_refl _) (.int .i64 0)
        clear hRr hbw hXr ho
        go_wp2
        clear kR0 kR1 kR2 fR0 fR1 fR2
        generalize ((w3.setCell ⟨w.heap.size, 0, none⟩ (.int .i64 0)).setCell ⟨w.heap.size, 1, none⟩ (.int .i64 0)).setCell ⟨w.heap.size, 2, none⟩ (.int .i64 0) = w9 at hRn hb9
        have k0 : w9.cell? ⟨w.heap.size, 0, none⟩ = some (.int .i64 0) := by simpa using hRn.cellAt 0 (by omega)
        have k1 : w9.cell? ⟨w.heap.size, 1, none⟩ = some (.int .i64 0) := by simpa using hRn.cellAt 1 (by omega)
        have k2 : w9.cell? ⟨w.heap.size, 2, none⟩ = some (.int .i64 0) := by simpa using hRn.cellAt 2 (by omega)
        refine bodyPost_ret (by simp [results, Tryz.results26, go_sem, k0, k1, k2]; try rfl) rfl ?_
        exact ⟨.inr ⟨HN.out, (0, 0, 0), rfl⟩, hb9⟩
  · have HN : Hid (NoRead (t0 :: rest)) := by
      obtain ⟨t, ht, hN⟩ := hbad
      rintro x (⟨s0, s1, c, e, h5, hc, _⟩ | ⟨s0, s1, s2, c, d, e, hn', h0', hc, hd, _⟩)
      · cases e
        simp at ht
        subst ht
        exact hN _ hc
      · cases e
        simp at ht
        rcases ht with rfl | rfl
        · exact hN _ hc
        · exact hN _ hd
    clear hbad
    have kR0 : w1.cell? ⟨w.heap.size, 0, none⟩ = some (.int .i64 0) := by simpa using hRr.cellAt 0 (by omega)
    have kR1 : w1.cell? ⟨w.heap.size, 1, none⟩ = some (.int .i64 0) := by simpa using hRr.cellAt 1 (by omega)
    have kR2 : w1.cell? ⟨w.heap.size, 2, none⟩ = some (.int .i64 0) := by simpa using hRr.cellAt 2 (by omega)
    have fR0 := hRr.frozenAt 0
    have fR1 := hRr.frozenAt 1
    have fR2 := hRr.frozenAt 2
    have hRn := (((hRr.stored 0 (.int .i64 0)).1.stored 1 (.int .i64 0)).1.stored 2 (.int .i64 0)).1
    have hb9 := ((hbw.setCell (p := ⟨w.heap.size, 0, none⟩) (Nat.le_refl _) (.int .i64 0)).setCell (p := ⟨w.heap.size, 1, none⟩) (Nat.le_refl _) (.int .i64 0)).setCell (p := ⟨w.heap.size, 2, none⟩) (Nat.le_refl _) (.int .i64 0)
    clear hRr hbw hXr h0op h2op h3op
    go_wp2
    clear kR0 kR1 kR2 fR0 fR1 fR2
    generalize ((w1.setCell ⟨w.heap.size, 0, none⟩ (.int .i64 0)).setCell ⟨w.heap.size, 1, none⟩ (.int .i64 0)).setCell ⟨w.heap.size, 2, none⟩ (.int .i64 0) = w9 at hRn hb9
    have k0 : w9.cell? ⟨w.heap.size, 0, none⟩ = some (.int .i64 0) := by simpa using hRn.cellAt 0 (by omega)
    have k1 : w9.cell? ⟨w.heap.size, 1, none⟩ = some (.int .i64 0) := by simpa using hRn.cellAt 1 (by omega)
    have k2 : w9.cell? ⟨w.heap.size, 2, none⟩ = some (.int .i64 0) := by simpa using hRn.cellAt 2 (by omega)
    refine bodyPost_ret (by simp [results, Tryz.results26, go_sem, k0, k1, k2]; try rfl) rfl ?_
    exact ⟨.inr ⟨HN.out, (0, 0, 0), rfl⟩, hb9⟩
end Go.Proofs.YtiokkoaalakakaaGreatDoor
