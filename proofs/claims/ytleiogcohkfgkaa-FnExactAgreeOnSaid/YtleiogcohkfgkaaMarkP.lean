
/-
  Programs in memory of their own; the laws' helpers that mark one and look whether the marks are held (markInstrS, markInstrSS, markProgram, heldInstrS, heldInstrSS, heldProgram).
-/
import Derived.Test.YtleiogcohkfgkaaProg3
namespace Go.Proofs.Ytleiogcohkfgkaa
open Go.RowKit

theorem owns_ne {w : World} {B B' e e' s s' n n' : Nat} {v v' : Value} {xs xs' : List Value} (h : w.ownsRow B e s v n xs) (h' : w.ownsRow B' e' s' v' n' xs') (he : e ≠ e') : v.ownBlock = none ∨ v.ownBlock ≠ v'.ownBlock := by
  rcases h.2 with ⟨rfl, _⟩ | ⟨g, cap, cur, rfl, _, hg, _⟩
  · exact .inl rfl
  · rcases h'.2 with ⟨rfl, _⟩ | ⟨g', cap', cur', rfl, _, hg', _⟩
    · exact .inr (by simp [Value.ownBlock])
    · refine .inr ?_
      simp only [Value.ownBlock, ne_eq, Option.some.injEq]
      rintro rfl
      rw [hg] at hg'
      simp at hg'
      exact he hg'.2

/-- A row with its first j instructions marked, from k on. -/
def mkI : Int → List I3 → Nat → List I3
  | _, xs, 0 => xs
  | _, [], _ + 1 => []
  | k, _ :: xs, j + 1 => (k, k + 1, k + 2) :: mkI (k + 3) xs j
theorem mkI_len : ∀ (k : Int) (xs : List I3) (j : Nat), (mkI k xs j).length = xs.length
  | _, xs, 0 => by simp [mkI]
  | _, [], _ + 1 => by simp [mkI]
  | k, _ :: xs, j + 1 => by simp [mkI, mkI_len]
theorem mkI_set : ∀ (k : Int) (xs : List I3) (j : Nat), j < xs.length →
    (((flat (mkI k xs j)).set (j * 3) (.int .i64 (k + j * 3))).set (j * 3 + 1) (.int .i64 (k + j * 3 + 1))).set (j * 3 + 2) (.int .i64 (k + j * 3 + 2)) = flat (mkI k xs (j + 1))
  | _, [], j, h => by simp at h
  | k, x :: xs, 0, _ => by simp [mkI, flat, I3.cells]
  | k, x :: xs, j + 1, h => by
    have ih := mkI_set (k + 3) xs j (by simpa using h)
    have e1 : k + ((j + 1 : Nat) : Int) * 3 = k + 3 + (j : Int) * 3 := by omega
    rw [e1]
    have e2 : (j + 1) * 3 = j * 3 + 1 + 1 + 1 := by omega
    simp only [mkI, flat, List.flatMap_cons, I3.cells, List.cons_append, List.nil_append] at ih ⊢
    rw [e2]
    simp only [List.set_cons_succ]
    rw [ih]
theorem mkI_get : ∀ (k : Int) (xs : List I3) (j i : Nat), i < j → j ≤ xs.length → (mkI k xs j).getD i (0, 0, 0) = (k + i * 3, k + i * 3 + 1, k + i * 3 + 2)
  | _, xs, 0, i, h, _ => by omega
  | _, [], j + 1, i, _, h => by simp at h
  | k, x :: xs, j + 1, 0, _, _ => by simp [mkI]
  | k, x :: xs, j + 1, i + 1, h, hl => by
    have ih := mkI_get (k + 3) xs j i (by omega) (by simpa using hl)
    have e : k + ((i + 1 : Nat) : Int) * 3 = k + 3 + (i : Int) * 3 := by omega
    rw [e, ← ih]
    simp [mkI]

theorem grownBy_set (w : World) (g j : Nat) (u : Value) : w.grownBy (w.setCell ⟨g, j, none⟩ u) (some g) :=
  ⟨rfl, rfl, rfl, by simp [World.setCell], fun k _ hk => Below.heap_setCell _ _ _ _ (fun e => hk (by rw [e]))⟩
theorem grownBy_tr {a b c : World} {row : Option Nat} (h : a.grownBy b row) (k : b.grownBy c row) : a.grownBy c row :=
  ⟨k.os.trans h.os, k.tape.trans h.tape, k.output.trans h.output, Nat.le_trans h.size k.size, fun i hi hne => (k.block i (by have := h.size; omega) hne).trans (h.block i hi hne)⟩

set_option maxHeartbeats 1000000 in
set_option maxRecDepth 100000 in
theorem markInstrS_own (base g n cap : Nat) (k : Int) (xs : List I3) (w : World) (hk0 : 0 ≤ k) (hk : k ≤ 1000000000) (hn : n ≤ 1048576) (hl : xs.length = n) (ho : w.ownsRow base 39 3 (.slice (some ⟨g, 0, none⟩) n cap) n (flat xs)) :
    Calls Try.prog 47 #[.slice (some ⟨g, 0, none⟩) n cap, .int .i64 k] w fun e w' => e = .returned (.int .i64 (k + n * 3)) ∧
      w'.ownsRow base 39 3 (.slice (some ⟨g, 0, none⟩) n cap) n (flat (mkI k xs n)) ∧ w.grownBy w' (some g) := by
  go_enter Try.func47, Try.ntmps47
  go_wp2
  go_loopw [1, 5] (fun sk si wr => ∃ j : Nat, j ≤ n ∧ si = .int .i64 j ∧ sk = .int .i64 (k + j * 3) ∧ wr.ownsRow base 39 3 (.slice (some ⟨g, 0, none⟩) n cap) n (flat (mkI k xs j)) ∧ w.grownBy wr (some g)) (fun _ si _ => n - (intOf si).toNat)
  case atStart => exact ⟨0, by omega, rfl, by go_num, by simpa [mkI] using ho, World.grownBy.refl _ _⟩
  case round =>
    obtain ⟨j, hj, rfl, rfl, hr, hg⟩ := hrel
    by_cases hlt : j < n
    · have hlt2 : (j : Int) < (n : Int) := by omega
      have hj0 : (0 : Int) ≤ (j : Int) := by omega
      have f0 := hr.frozenAt (j * 3)
      have f1 := hr.frozenAt (j * 3 + 1)
      have f2 := hr.frozenAt (j * 3 + 2)
      have hlen : (flat (mkI k xs j)).length = n * 3 := by rw [flat_length, mkI_len, hl]
      obtain ⟨u0, hu0⟩ : ∃ u, wr.cell? ⟨g, j * 3, none⟩ = some u := ⟨_, by rw [hr.cellAt _ (by omega)]; exact List.getElem?_eq_getElem (by omega)⟩
      obtain ⟨u1, hu1⟩ : ∃ u, wr.cell? ⟨g, j * 3 + 1, none⟩ = some u := ⟨_, by rw [hr.cellAt _ (by omega)]; exact List.getElem?_eq_getElem (by omega)⟩
      obtain ⟨u2, hu2⟩ : ∃ u, wr.cell? ⟨g, j * 3 + 2, none⟩ = some u := ⟨_, by rw [hr.cellAt _ (by omega)]; exact List.getElem?_eq_getElem (by omega)⟩
      have R := (((hr.stored (j * 3) (.int .i64 (k + j * 3))).1.stored (j * 3 + 1) (.int .i64 (k + j * 3 + 1))).1.stored (j * 3 + 2) (.int .i64 (k + j * 3 + 1 + 1))).1
      rw [show (k + (j : Int) * 3 + 1 + 1) = k + j * 3 + 2 by omega, mkI_set k xs j (by omega), show (k + (j : Int) * 3 + 2) = k + j * 3 + 1 + 1 by omega] at R
      have G := grownBy_tr hg (grownBy_tr (grownBy_set wr g (j * 3) (.int .i64 (k + j * 3))) (grownBy_tr (grownBy_set _ g (j * 3 + 1) (.int .i64 (k + j * 3 + 1))) (grownBy_set _ g (j * 3 + 2) (.int .i64 (k + j * 3 + 1 + 1)))))
      clear hr hg ho hlen
      go_wp2
      go_roundw
      case rel => exact ⟨j + 1, by omega, by go_num, by go_num, R, G⟩
      case measure => simp [intOf]; omega
    · obtain rfl : j = n := by omega
      go_wp2
      go_ret
      exact ⟨rfl, hr, hg⟩

theorem markInstrS_none (k : Int) (w : World) : Calls Try.prog 47 #[.slice none 0 0, .int .i64 k] w fun e w' => e = .returned (.int .i64 k) ∧ w = w' := by
  go_enter Try.func47, Try.ntmps47
  go_wp2
  refine wp_loop_rounds 1 ?_
  rw [rounds_succ]
  go_wp2
  go_ret
  exact ⟨rfl, rfl⟩

theorem markInstrS_any (base : Nat) (v : Value) (k : Int) (xs : List I3) (w : World) (hk0 : 0 ≤ k) (hk : k ≤ 1000000000) (hn : xs.length ≤ 1048576) (ho : w.ownsRow base 39 3 v xs.length (flat xs)) :
    Calls Try.prog 47 #[v, .int .i64 k] w fun e w' => e = .returned (.int .i64 (k + xs.length * 3)) ∧
      w'.ownsRow base 39 3 v xs.length (flat (mkI k xs xs.length)) ∧ w.grownBy w' v.ownBlock := by
  rcases ho.2 with ⟨rfl, h0⟩ | ⟨g, cap, cur, rfl, _⟩
  · obtain rfl : xs = [] := List.eq_nil_of_length_eq_zero h0
    refine (markInstrS_none k w).mono ?_
    rintro e w' ⟨rfl, rfl⟩
    exact ⟨by simp, ho, World.grownBy.refl _ _⟩
  · exact markInstrS_own base g _ cap k xs w hk0 hk hn rfl ho

/-- What is no row of this type is as it was. -/
def KeptBut (t : TypeId) (w w' : World) : Prop := ∀ (j : Nat) (cur : Array Value) (e : TypeId) (fz : Nat × Nat), w.heap[j]? = some (Obj.cells cur e fz) → e ≠ t → w'.heap[j]? = some (Obj.cells cur e fz)
theorem KeptBut.refl (t : TypeId) (w : World) : KeptBut t w w := fun _ _ _ _ h _ => h
theorem KeptBut.trans {t : TypeId} {a b c : World} (h : KeptBut t a b) (k : KeptBut t b c) : KeptBut t a c := fun j cur e fz h0 he => k j cur e fz (h j cur e fz h0 he) he
theorem KeptBut.of_below {t : TypeId} {w w' : World} (h : Below w.heap.size w w') : KeptBut t w w' := fun j cur e fz h0 _ => by rw [h.block j (Array.getElem?_eq_some_iff.1 h0).1]; exact h0
theorem KeptBut.of_grown {t B s n : Nat} {w w' : World} {v : Value} {xs : List Value} (hg : w.grownBy w' v.ownBlock) (ho : w.ownsRow B t s v n xs) : KeptBut t w w' := fun j cur e fz h0 he => by
  rw [hg.block j (Array.getElem?_eq_some_iff.1 h0).1 ?_]
  · exact h0
  · rcases ho.2 with ⟨rfl, _⟩ | ⟨g, cap, cur', rfl, _, hh, _⟩
    · simp [Value.ownBlock]
    · simp only [Value.ownBlock, ne_eq, Option.some.injEq]
      rintro rfl
      rw [hh] at h0
      simp at h0
      exact he h0.2.1.symm
theorem KeptBut.owns {t B e s n : Nat} {w w' : World} {v : Value} {xs : List Value} (h : KeptBut t w w') (ho : w.ownsRow B e s v n xs) (he : e ≠ t) : w'.ownsRow B e s v n xs := by
  refine ⟨ho.1, ?_⟩
  rcases ho.2 with h0 | ⟨g, cap, cur, hv, hB, hg, rest⟩
  · exact .inl h0
  · exact .inr ⟨g, cap, cur, hv, hB, h g cur e _ hg he, rest⟩

/-- Rows of instructions in memory of their own, each in another block. -/
def OwnRows (w : World) (B : Nat) (vs : List Value) (rows : List (List I3)) : Prop :=
  vs.length = rows.length ∧ (∀ t, t < rows.length → w.ownsRow B 39 3 (vs.getD t undef) (rows.getD t []).length (flat (rows.getD t []))) ∧
  ∀ t t', t < rows.length → t' < rows.length → t ≠ t' → (vs.getD t undef).ownBlock = none ∨ (vs.getD t undef).ownBlock ≠ (vs.getD t' undef).ownBlock

/-- A program in memory of its own: the slice of its rows is v. -/
def OwnProg (w : World) (B : Nat) (v : Value) (rows : List (List I3)) : Prop := ∃ vs, w.ownsRow B 71 1 v rows.length vs ∧ OwnRows w B vs rows

theorem OwnProg.nil (w : World) (B : Nat) : OwnProg w B (.slice none 0 0) [] := ⟨[], World.ownsRow_nil _ _ _ _, rfl, fun t ht => by simp at ht, fun t _ ht => by simp at ht⟩

theorem OwnRows.below {w w' : World} {B : Nat} {vs : List Value} {rows : List (List I3)} (h : OwnRows w B vs rows) (hb : Below w.heap.size w w') : OwnRows w' B vs rows := ⟨h.1, fun t ht => owns_below (h.2.1 t ht) hb, h.2.2⟩
theorem OwnProg.below {w w' : World} {B : Nat} {v : Value} {rows : List (List I3)} (h : OwnProg w B v rows) (hb : Below w.heap.size w w') : OwnProg w' B v rows := by
  obtain ⟨vs, h1, h2⟩ := h
  exact ⟨vs, owns_below h1 hb, h2.below hb⟩

theorem OwnProg.slice {w : World} {B : Nat} {v : Value} {rows : List (List I3)} (h : OwnProg w B v rows) : ∃ a cap, v = .slice a rows.length cap := by
  obtain ⟨vs, h1, _⟩ := h
  rcases h1.2 with ⟨hv, h0⟩ | ⟨g, cap, cur, hv, _⟩
  · rw [h0]; exact ⟨none, 0, hv⟩
  · exact ⟨some ⟨g, 0, none⟩, cap, hv⟩

/-- A row of our own is one of instructions. -/
theorem Instrs.of_own {w : World} {B : Nat} {v : Value} {xs : List I3} (h : w.ownsRow B 39 3 v xs.length (flat xs)) (hf : ∀ x ∈ xs, I3.fits x) : ∃ a cap, v = .slice a xs.length cap ∧ Instrs w a xs.length cap xs := by
  rcases h.2 with ⟨hv, h0⟩ | ⟨g, cap, cur, hv, _⟩
  · obtain rfl : xs = [] := List.eq_nil_of_length_eq_zero h0
    exact ⟨none, 0, hv, rfl, Nat.le_refl _, by unfold maxLen; omega, by simp, .inl rfl⟩
  · subst hv
    exact ⟨_, _, rfl, Instrs.of_owns h rfl hf rfl⟩

theorem OwnProg.codes {w : World} {B : Nat} {a : Option Addr} {len cap : Nat} {rows : List (List I3)} (h : OwnProg w B (.slice a len cap) rows) (hf : ∀ r ∈ rows, ∀ x ∈ r, I3.fits x) : Codes w a len cap rows := by
  obtain ⟨vs, h1, h2⟩ := h
  have hcellAt := h1.2
  rcases h1.2 with ⟨hv, h0⟩ | ⟨g, cap', cur, hv, _, hh, hn, hcm, _⟩
  · cases hv
    obtain rfl : rows = [] := List.eq_nil_of_length_eq_zero h0
    exact ⟨rfl, Nat.le_refl _, by unfold maxLen; omega, .inl rfl⟩
  · cases hv
    have hl := h1.1
    refine ⟨rfl, hn, hcm, .inr ⟨g, 0, rfl, (h1.lt g rfl).2, fun t ht => ?_⟩⟩
    have hc := h1.cellAt t (by omega)
    have hvt : vs[t]? = some (vs.getD t undef) := by simp [List.getD, show t < vs.length by omega]
    rw [hvt] at hc
    obtain ⟨a', cap', hva, hI⟩ := Instrs.of_own (h2.2.1 t ht) (hf _ (by simp [List.getD, ht]))
    rw [hva] at hc
    exact ⟨a', _, cap', by rw [Nat.zero_add]; exact hc, hI⟩

/-- All rows marked, one behind the other. -/
def mkP : Int → List (List I3) → Nat → List (List I3)
  | _, rows, 0 => rows
  | _, [], _ + 1 => []
  | k, r :: rows, j + 1 => mkI k r r.length :: mkP (k + r.length * 3) rows j
theorem mkP_len : ∀ (k : Int) (rows : List (List I3)) (j : Nat), (mkP k rows j).length = rows.length
  | _, rows, 0 => by simp [mkP]
  | _, [], _ + 1 => by simp [mkP]
  | k, _ :: rows, j + 1 => by simp [mkP, mkP_len]
/-- How many numbers the first j rows have. -/
def cntP : List (List I3) → Nat → Nat
  | _, 0 => 0
  | [], _ + 1 => 0
  | r :: rows, j + 1 => r.length * 3 + cntP rows j
theorem cntP_step : ∀ (rows : List (List I3)) (j : Nat), j < rows.length → cntP rows (j + 1) = cntP rows j + (rows.getD j []).length * 3
  | [], j, h => by simp at h
  | r :: rows, 0, _ => by simp [cntP]
  | r :: rows, j + 1, h => by
    have := cntP_step rows j (by simpa using h)
    simp only [cntP] at this ⊢
    rw [List.getD_cons_succ]
    omega
theorem cntP_mono : ∀ (rows : List (List I3)) (j : Nat), cntP rows j ≤ cntP rows rows.length
  | [], 0 => by simp [cntP]
  | [], _ + 1 => by simp [cntP]
  | r :: rows, 0 => by simp [cntP]
  | r :: rows, j + 1 => by
    have := cntP_mono rows j
    simp only [cntP, List.length_cons]
    omega
theorem lessAll_cnt : ∀ (rows : List (List I3)) (left : Int), 0 ≤ lessAll left rows → (cntP rows rows.length : Int) ≤ 3 * left
  | [], left, h => by simp only [lessAll] at h; simp only [cntP, List.length_nil]; omega
  | r :: rows, left, h => by
    unfold lessAll at h
    split at h
    · omega
    · have := lessAll_cnt rows (left - r.length) h
      simp only [cntP, List.length_cons]
      omega
theorem sizeLeft_cnt {rows : List (List I3)} {left : Int} (h : 0 ≤ sizeLeft left rows) : (cntP rows rows.length : Int) ≤ 3 * left := by
  unfold sizeLeft at h
  split at h
  · omega
  · have := lessAll_cnt rows _ h
    omega
theorem mkP_set : ∀ (k : Int) (rows : List (List I3)) (j : Nat), j < rows.length → (mkP k rows j).set j (mkI (k + cntP rows j) (rows.getD j []) (rows.getD j []).length) = mkP k rows (j + 1)
  | _, [], j, h => by simp at h
  | k, r :: rows, 0, _ => by simp [mkP, cntP]
  | k, r :: rows, j + 1, h => by
    have ih := mkP_set (k + r.length * 3) rows j (by simpa using h)
    have e : k + ((cntP (r :: rows) (j + 1) : Nat) : Int) = k + r.length * 3 + (cntP rows j : Int) := by simp only [cntP]; omega
    rw [e, List.getD_cons_succ]
    simp only [mkP, List.set_cons_succ, ih]
theorem mkP_old : ∀ (k : Int) (rows : List (List I3)) (j i : Nat), j ≤ i → i < rows.length → (mkP k rows j).getD i [] = rows.getD i []
  | _, rows, 0, i, _, _ => by simp [mkP]
  | _, [], j + 1, i, _, h => by simp at h
  | k, r :: rows, j + 1, i, h, hl => by
    cases i with
    | zero => omega
    | succ i =>
      have ih := mkP_old (k + r.length * 3) rows j i (by omega) (by simpa using hl)
      simpa [mkP] using ih
theorem mkP_get : ∀ (k : Int) (rows : List (List I3)) (j i : Nat), i < j → i < rows.length → (mkP k rows j).getD i [] = mkI (k + cntP rows i) (rows.getD i []) (rows.getD i []).length
  | _, rows, 0, i, h, _ => by omega
  | _, [], j + 1, i, _, h => by simp at h
  | k, r :: rows, j + 1, 0, _, _ => by simp [mkP, cntP]
  | k, r :: rows, j + 1, i + 1, h, hl => by
    have ih := mkP_get (k + r.length * 3) rows j i (by omega) (by simpa using hl)
    have e : k + ((cntP (r :: rows) (i + 1) : Nat) : Int) = k + r.length * 3 + (cntP rows i : Int) := by simp only [cntP]; omega
    rw [e]
    simpa [mkP] using ih

/-- One row of them was turned, the others are as they were. -/
theorem OwnRows.turn {w w' : World} {B : Nat} {vs : List Value} {rows : List (List I3)} {t : Nat} {r : List I3} (h : OwnRows w B vs rows) (ht : t < rows.length) (hl : r.length = (rows.getD t []).length)
    (hr : w'.ownsRow B 39 3 (vs.getD t undef) (rows.getD t []).length (flat r)) (hg : w.grownBy w' (vs.getD t undef).ownBlock) : OwnRows w' B vs (rows.set t r) := by
  obtain ⟨h1, h2, h3⟩ := h
  refine ⟨by simpa using h1, fun i hi => ?_, fun i j hi hj => h3 i j (by simpa using hi) (by simpa using hj)⟩
  have hi' : i < rows.length := by simpa using hi
  by_cases hit : i = t
  · subst hit
    have e : (rows.set i r).getD i [] = r := by simp [List.getD, ht]
    rw [e, hl]
    exact hr
  · have e : (rows.set t r).getD i [] = rows.getD i [] := by simp [List.getD, List.getElem?_set_ne (Ne.symm hit)]
    rw [e]
    exact (h2 i hi').kept hg (h3 i t hi' ht hit)

set_option maxHeartbeats 1000000 in
set_option maxRecDepth 100000 in
theorem markInstrSS_own (B : Nat) (v : Value) (k : Int) (rows : List (List I3)) (w : World) (hk0 : 0 ≤ k) (hk : k ≤ 1000) (hc : cntP rows rows.length ≤ 10000000) (hcj : ∀ j, j ≤ rows.length → cntP rows j ≤ 10000000) (hn : ∀ j, j < rows.length → (rows.getD j []).length ≤ 1048576) (h : OwnProg w B v rows) :
    Calls Try.prog 28 #[v, .int .i64 k] w fun e w' => e = .returned (.int .i64 (k + cntP rows rows.length)) ∧ OwnProg w' B v (mkP k rows rows.length) ∧ KeptBut 39 w w' ∧ Below B w w' := by
  obtain ⟨vs, h1, h2⟩ := h
  rcases h1.2 with ⟨rfl, h0⟩ | ⟨P, cap, cur, rfl, hPB, hh, hlc, hcm, _⟩
  · obtain rfl : rows = [] := List.eq_nil_of_length_eq_zero h0
    go_enter Try.func28, Try.ntmps28
    go_wp2
    refine wp_loop_rounds 1 ?_
    rw [rounds_succ]
    go_wp2
    go_ret
    exact ⟨by simp [cntP], OwnProg.nil _ _, KeptBut.refl _ _, Below.refl _ _⟩
  · clear hh
    unfold maxLen at hcm
    have HL : Hid (vs.length = rows.length) := h2.1
    go_enter Try.func28, Try.ntmps28
    go_wp2
    go_loopw [1, 5] (fun sk si wr => ∃ j : Nat, j ≤ rows.length ∧ si = .int .i64 j ∧ sk = .int .i64 (k + cntP rows j) ∧ wr.ownsRow B 71 1 (.slice (some ⟨P, 0, none⟩) rows.length cap) rows.length vs ∧ OwnRows wr B vs (mkP k rows j) ∧ KeptBut 39 w wr ∧ Below B w wr) (fun _ si _ => rows.length - (intOf si).toNat)
    case atStart => exact ⟨0, by omega, rfl, by simp [cntP], h1, by simpa [mkP] using h2, KeptBut.refl _ _, Below.refl _ _⟩
    case round =>
      obtain ⟨j, hj, rfl, rfl, hr, hR, hK, hb⟩ := hrel
      by_cases hlt : j < rows.length
      · have hlt2 : (j : Int) < (rows.length : Int) := by omega
        have hj0 : (0 : Int) ≤ (j : Int) := by omega
        have hc0 := hr.cellAt j (by omega)
        have hvt : vs[j]? = some (vs.getD j undef) := by simp [List.getD, show j < vs.length by have := HL.out; omega]
        rw [hvt] at hc0
        have hrow := hR.2.1 j (by rw [mkP_len]; exact hlt)
        have hcs := hcj j hj
        have hnj := hn j hlt
        have hstep := cntP_step rows j hlt
        have hset := mkP_set k rows j hlt
        have hold := mkP_old k rows j j (Nat.le_refl _) hlt
        rw [hold] at hrow
        obtain ⟨c, hcd⟩ : ∃ c, c = cntP rows j := ⟨_, rfl⟩
        obtain ⟨r, hrd⟩ : ∃ r, r = rows.getD j [] := ⟨_, rfl⟩
        rw [← hcd] at hcs hstep hset ⊢
        rw [← hrd] at hnj hstep hset hold hrow
        have hturn := fun w' (hr' : w'.ownsRow B 39 3 (vs.getD j undef) r.length (flat (mkI (k + c) r r.length))) (hg : wr.grownBy w' (vs.getD j undef).ownBlock) => OwnRows.turn (w' := w') (t := j) (r := mkI (k + c) r r.length) hR (by rw [mkP_len]; exact hlt) (by rw [mkI_len, hold]) (by rw [hold]; exact hr') hg
        rw [hset] at hturn
        have HS : Hid (cntP rows (j + 1) = c + r.length * 3) := hstep
        have hlow : ∀ x, (vs.getD j undef).ownBlock = some x → B ≤ x := fun x hx => (hrow.lt x hx).1
        have hsz : B ≤ wr.heap.size := by have := (hr.lt P rfl).2; omega
        have hne := owns_ne hr hrow (by decide)
        have K := markInstrS_any B (vs.getD j undef) (k + c) r
        clear hcd hrd hstep hset hold hvt hR
        generalize vs.getD j undef = u at hc0 hrow hturn hlow hne K
        go_wp2_with fail
        refine (K _ (by omega) (by omega) hnj hrow).mono ?_
        rintro e w1 ⟨rfl, hr1, hg1⟩
        have hR1 := hturn w1 hr1 hg1
        have hr2 := hr.kept hg1 hne
        have hb1 := hb.grown hg1 hsz hlow
        have hK1 := hK.trans (KeptBut.of_grown hg1 hrow)
        clear hturn hr1 hr hb hg1 hlow hne hrow hc0 K hK
        go_wp2
        go_roundw
        case rel => exact ⟨j + 1, by omega, by go_num, by rw [HS.out]; go_num, hr2, hR1, hK1, hb1⟩
        case measure => simp [intOf]; omega
      · obtain rfl : j = rows.length := by omega
        go_wp2
        go_ret
        exact ⟨rfl, ⟨vs, by rw [mkP_len]; exact hr, hR⟩, hK, hb⟩

set_option maxHeartbeats 1000000 in
set_option maxRecDepth 100000 in
theorem markProgram_own (B : Nat) (v : Value) (k : Int) (rows : List (List I3)) (w : World) (hk0 : 0 ≤ k) (hk : k ≤ 1000) (hc : cntP rows rows.length ≤ 10000000) (hcj : ∀ j, j ≤ rows.length → cntP rows j ≤ 10000000) (hn : ∀ j, j < rows.length → (rows.getD j []).length ≤ 1048576) (hB : B ≤ w.heap.size) (h : OwnProg w B v rows) :
    Calls Try.prog 12 #[.agg #[v], .int .i64 k] w fun e w' => e = .returned (.int .i64 (k + cntP rows rows.length)) ∧ OwnProg w' B v (mkP k rows rows.length) ∧ KeptBut 39 w w' ∧ Below B w w' := by
  obtain ⟨a, cap, rfl⟩ := h.slice
  go_enter Try.func12, Try.ntmps12
  go_wp2_with fail
  refine (markInstrSS_own B _ k rows _ hk0 hk hc hcj hn (h.below (by go_grown))).mono ?_
  rintro e w1 ⟨rfl, h1, hK1, hb1⟩
  have b1 : Below B w w1 := ((by go_grown : Below w.heap.size w _).mono hB).trans hb1
  have K1 : KeptBut 39 w w1 := (KeptBut.of_below (by go_grown)).trans hK1
  clear hb1 hK1 h
  go_wp2
  go_ret
  exact ⟨rfl, h1, K1, b1⟩
end Go.Proofs.Ytleiogcohkfgkaa
