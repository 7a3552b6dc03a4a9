/-
  FnProgram, part 15 of 50 (Src2, MarkP).
-/
import Derived.Test.YtiokkoaalakakaaGreatDoorJ14
import Derived.Test.YtiokkoaalakakaaGreatDoorJ10
/-
  The specification's source of choices, more of it: next hands a number below n; a source over a code; how what it hands is kept apart from all else.
-/
namespace Go.Proofs.YtiokkoaalakakaaGreatDoor
open Go.RowKit

/-- All that was there but the source's own struct is as it was. -/
abbrev Went (p : Nat) (w w' : World) : Prop := w.grownBy w' (some p)
theorem Stepped.went {p : Nat} {w w' : World} (h : Stepped p w w') : Went p w w' :=
  ⟨h.1.os, h.1.tape, h.1.output, Nat.le_of_eq h.2.1.symm, fun k _ hk => h.2.2 k (fun e => hk (by rw [e]))⟩
theorem Went.trans {p : Nat} {a b c : World} (h : Went p a b) (k : Went p b c) : Went p a c :=
  ⟨k.os.trans h.os, k.tape.trans h.tape, k.output.trans h.output, Nat.le_trans h.size k.size, fun i hi hne => (k.block i (Nat.lt_of_lt_of_le hi h.size) hne).trans (h.block i hi hne)⟩
theorem Went.below {p : Nat} {w w' : World} (h : Went p w w') (hp : p ≤ w.heap.size) : Below p w w' :=
  (Below.refl _ _).grown h hp (fun k e => by cases e; exact Nat.le_refl _)
theorem Went.alloc {p : Nat} {w w' : World} (h : Went p w w') (o : Obj) : Went p w (w'.alloc o) := h.trans (World.grownBy_alloc w' o _)
theorem Went.refl (p : Nat) (w : World) : Went p w w := World.grownBy.refl _ _
/-- A law's step on a row that did not lie there. -/
theorem Went.grown {p : Nat} {w w' w'' : World} {row : Option Nat} (h : Went p w w') (g : w'.grownBy w'' row) (hr : ∀ k, row = some k → w.heap.size ≤ k) : Went p w w'' :=
  ⟨g.os.trans h.os, g.tape.trans h.tape, g.output.trans h.output, Nat.le_trans h.size g.size, fun i hi hne => (g.block i (Nat.lt_of_lt_of_le hi h.size) (fun e => by have := hr i e.symm; omega)).trans (h.block i hi hne)⟩
theorem Src.grown {p T : Nat} {c : Value} {w w' : World} {row : Option Nat} (h : Src w p c T) (g : w.grownBy w' row) (hr : ∀ k, row = some k → k ≠ p) : Src w' p c T := by
  obtain ⟨m, sd, hh, h1, h2⟩ := h
  have hl : p < w.heap.size := (Array.getElem?_eq_some_iff.1 hh).1
  exact ⟨m, sd, by rw [g.block p hl (fun e => hr p e.symm rfl)]; exact hh, h1, h2⟩
theorem Src.alloc {p T : Nat} {c : Value} {w : World} (h : Src w p c T) (o : Obj) : Src (w.alloc o) p c T := h.grown (World.grownBy_alloc w o none) (fun k e => by cases e)
theorem Src.lt {p T : Nat} {c : Value} {w : World} (h : Src w p c T) : p < w.heap.size := by
  obtain ⟨m, sd, hh, _⟩ := h
  exact (Array.getElem?_eq_some_iff.1 hh).1
theorem Src.mono {p T T' : Nat} {c : Value} {w : World} (h : Src w p c T) (ht : T ≤ T') : Src w p c T' := by
  obtain ⟨m, sd, hh, h1, h2⟩ := h
  exact ⟨m, sd, hh, Nat.le_trans h1 ht, h2⟩
theorem Code.below {p n cap : Nat} {a : Option Addr} {w w' : World} (h : Code w p a n cap) (hb : Below p w w') : Code w' p a n cap := by
  obtain ⟨zs, ⟨h1, h2, h3, h4⟩, h5, h6, h7⟩ := h
  refine ⟨zs, ⟨h1, h2, h3, ?_⟩, h5, h6, h7⟩
  rcases h4 with h4 | ⟨b, off, ha, hlt, hc⟩
  · exact .inl h4
  · rcases Nat.eq_zero_or_pos n with h0 | h0
    · exact .inl h0
    · have hbB := h7 _ ha (by omega)
      exact .inr ⟨b, off, ha, by have := hb.size; omega, fun t ht => by rw [hb.cell (p := ⟨b, off + t, none⟩) hbB]; exact hc t ht⟩
theorem Code.went {p n cap : Nat} {a : Option Addr} {w w' : World} (h : Code w p a n cap) (hw : Went p w w') (hp : p ≤ w.heap.size) : Code w' p a n cap := h.below (hw.below hp)

set_option maxHeartbeats 1000000 in
set_option maxRecDepth 100000 in
theorem next_any (p T : Nat) (a : Option Addr) (n cap : Nat) (k : Int) (w : World) (hS : Src w p (.slice a n cap) T) (hC : Code w p a n cap) (hT : T ≤ 900000) (hk : k ≤ 1000000) :
    Calls Tryz.prog 36 #[.pointer (some ⟨p, 0, none⟩), .int .i64 k] w fun e w' => (∃ v : Nat, ((v : Int) < k ∨ v = 0) ∧ e = .returned (.int .i64 v)) ∧ Src w' p (.slice a n cap) (T + 3) ∧ Went p w w' := by
  have hp := Nat.le_of_lt hS.lt
  by_cases h1 : k ≤ 1
  · go_enter Tryz.func36, Tryz.ntmps36
    go_wp2
    go_ret
    exact ⟨⟨0, .inr rfl, rfl⟩, hS.mono (by omega), Went.refl _ _⟩
  by_cases h2 : k ≤ 256
  · go_enter Tryz.func36, Tryz.ntmps36
    go_wp2_with fail
    refine (byte_any p T a n cap _ hS hC (by omega)).mono ?_
    rintro e w1 ⟨⟨v, hv, rfl⟩, hS1, hst⟩
    have hW := hst.went
    have hS3 : Src w1 p (.slice a n cap) (T + 3) := hS1.mono (by omega)
    clear hst hS1 hS hC
    go_wp2
    go_ret
    exact ⟨⟨((v : Int) % k).toNat, .inl (by have := Int.emod_lt_of_pos (v : Int) (show 0 < k by omega); have := Int.emod_nonneg (v : Int) (show k ≠ 0 by omega); omega), by rw [Int.toNat_of_nonneg (Int.emod_nonneg _ (by omega))]; rfl⟩, hS3, hW⟩
  · go_enter Tryz.func36, Tryz.ntmps36
    go_wp2_with fail
    refine (byte_any p T a n cap _ hS hC (by omega)).mono ?_
    rintro e w1 ⟨⟨v1, hv1, rfl⟩, hS1, hst1⟩
    have hC1 := hC.went hst1.went hp
    have hp1 := Nat.le_of_lt hS1.lt
    go_wp2_with fail
    refine (byte_any p (T + 1) a n cap _ hS1 hC1 (by omega)).mono ?_
    rintro e w2 ⟨⟨v2, hv2, rfl⟩, hS2, hst2⟩
    have hC2 := hC1.went hst2.went hp1
    go_wp2_with fail
    refine (byte_any p (T + 1 + 1) a n cap _ hS2 hC2 (by omega)).mono ?_
    rintro e w3 ⟨⟨v3, hv3, rfl⟩, hS3, hst3⟩
    have hW := (hst1.went.trans hst2.went).trans hst3.went
    have hS3' : Src w3 p (.slice a n cap) (T + 3) := hS3.mono (by omega)
    clear hst1 hst2 hst3 hS1 hS2 hS3 hS hC hC1 hC2
    go_wp2
    go_ret
    exact ⟨⟨(((v1 : Int) * 65536 + (v2 : Int) * 256 + (v3 : Int)) % k).toNat, .inl (by have := Int.emod_lt_of_pos ((v1 : Int) * 65536 + (v2 : Int) * 256 + (v3 : Int)) (show 0 < k by omega); have := Int.emod_nonneg ((v1 : Int) * 65536 + (v2 : Int) * 256 + (v3 : Int)) (show k ≠ 0 by omega); omega), by rw [Int.toNat_of_nonneg (Int.emod_nonneg _ (by omega))]; rfl⟩, hS3', hW⟩

/-- A source over a code that came in. -/
theorem l00Source_any (a : Option Addr) (n cap : Nat) (w : World) (hn : n ≤ 1048576) :
    Calls Tryz.prog 18 #[.slice a n cap] w fun e w' => e = .returned (.pointer (some ⟨w.heap.size, 0, none⟩)) ∧ Src w' w.heap.size (.slice a n cap) 0 ∧ Below w.heap.size w w' := by
  go_enter Tryz.func18, Tryz.ntmps18
  go_wp2
  go_ret
  refine ⟨rfl, ⟨0, ((n : Int) % 1000).toNat, ?_, by omega, by omega⟩, (Below.refl _ _).alloc (Nat.le_refl _) _⟩
  rw [Int.toNat_of_nonneg (by omega)]
  exact heap_alloc_new w _
/-- The code that came in lies below the source. -/
theorem code_of {a : Option Addr} {n cap : Nat} {zs : List Int} {w : World} (h : IsRow .u8 w a n cap zs) (hn : n ≤ 1048576) : Code w w.heap.size a n cap := by
  refine ⟨zs.take n, Ints.of_isRow h, ?_, hn, ?_⟩
  · intro z hz
    have hz' := List.mem_of_mem_take hz
    rcases h with ⟨_, _, _, rfl⟩ | ⟨x, _, _, _, _, _, hw⟩
    · simp at hz'
    · have := hw z hz'
      simp [Lit.wf, IntKind.min, IntKind.max, IntKind.signed, IntKind.bits] at this
      omega
  · intro x hx hn0
    obtain ⟨_, _, _, h4⟩ := Ints.of_isRow h
    rcases h4 with h4 | ⟨b, off, ha, hlt, _⟩
    · exact absurd h4 hn0
    · rw [ha] at hx
      cases hx
      exact hlt
end Go.Proofs.YtiokkoaalakakaaGreatDoor


/-
  Programs in memory of their own; the laws' helpers that mark one and look whether the marks are held (markInstrS, markInstrSS, markProgram, heldInstrS, heldInstrSS, heldProgram).
-/
namespace Go.Proofs.YtiokkoaalakakaaGreatDoor
open Go.RowKit

theorem owns_ne {w : World} {B B' e e' s s' n n' : Nat} {v v' : Value} {xs xs' : List Value} (h : w.ownsRow B e s v n xs) (h' : w.ownsRow B' e' s' v' n' xs') (he : e ≠ e') : v.ownBlock = none ∨ v.ownBlock ≠ v'.ownBlock := by
  rcases h.2 with ⟨rfl, _⟩ | ⟨g, cap, cur, rfl, _, hg, _⟩
  · exact .inl rfl
  · rcases h'.2 with ⟨rfl, _⟩ | ⟨g', cap', cur', rfl, _, hg', _⟩
    · exact .inr (by simp [Value.ownBlock])
    · refine .inr ?_
      simp only [Value.ownBlock, ne_eq, Option.some.injEq]
      rintro rfl
      rw [hg] at hg'
      simp at hg'
      exact he hg'.2

/-- A row with its first j instructions marked, from k on. -/
def mkI : Int → List I3 → Nat → List I3
  | _, xs, 0 => xs
  | _, [], _ + 1 => []
  | k, _ :: xs, j + 1 => (k, k + 1, k + 2) :: mkI (k + 3) xs j
theorem mkI_len : ∀ (k : Int) (xs : List I3) (j : Nat), (mkI k xs j).length = xs.length
  | _, xs, 0 => by simp [mkI]
  | _, [], _ + 1 => by simp [mkI]
  | k, _ :: xs, j + 1 => by simp [mkI, mkI_len]
theorem mkI_set : ∀ (k : Int) (xs : List I3) (j : Nat), j < xs.length →
    (((flat (mkI k xs j)).set (j * 3) (.int .i64 (k + j * 3))).set (j * 3 + 1) (.int .i64 (k + j * 3 + 1))).set (j * 3 + 2) (.int .i64 (k + j * 3 + 2)) = flat (mkI k xs (j + 1))
  | _, [], j, h => by simp at h
  | k, x :: xs, 0, _ => by simp [mkI, flat, I3.cells]
  | k, x :: xs, j + 1, h => by
    have ih := mkI_set (k + 3) xs j (by simpa using h)
    have e1 : k + ((j + 1 : Nat) : Int) * 3 = k + 3 + (j : Int) * 3 := by omega
    rw [e1]
    have e2 : (j + 1) * 3 = j * 3 + 1 + 1 + 1 := by omega
    simp only [mkI, flat, List.flatMap_cons, I3.cells, List.cons_append, List.nil_append] at ih ⊢
    rw [e2]
    simp only [List.set_cons_succ]
    rw [ih]
theorem mkI_get : ∀ (k : Int) (xs : List I3) (j i : Nat), i < j → j ≤ xs.length → (mkI k xs j).getD i (0, 0, 0) = (k + i * 3, k + i * 3 + 1, k + i * 3 + 2)
  | _, xs, 0, i, h, _ => by omega
  | _, [], j + 1, i, _, h => by simp at h
  | k, x :: xs, j + 1, 0, _, _ => by simp [mkI]
  | k, x :: xs, j + 1, i + 1, h, hl => by
    have ih := mkI_get (k + 3) xs j i (by omega) (by simpa using hl)
    have e : k + ((i + 1 : Nat) : Int) * 3 = k + 3 + (i : Int) * 3 := by omega
    rw [e, ← ih]
    simp [mkI]

theorem grownBy_set (w : World) (g j : Nat) (u : Value) : w.grownBy (w.setCell ⟨g, j, none⟩ u) (some g) :=
  ⟨rfl, rfl, rfl, by simp [World.setCell], fun k _ hk => Below.heap_setCell _ _ _ _ (fun e => hk (by rw [e]))⟩
theorem grownBy_tr {a b c : World} {row : Option Nat} (h : a.grownBy b row) (k : b.grownBy c row) : a.grownBy c row :=
  ⟨k.os.trans h.os, k.tape.trans h.tape, k.output.trans h.output, Nat.le_trans h.size k.size, fun i hi hne => (k.block i (by have := h.size; omega) hne).trans (h.block i hi hne)⟩

/-- What is no row of this type is as it was. -/
def KeptBut (t : TypeId) (w w' : World) : Prop := ∀ (j : Nat) (cur : Array Value) (e : TypeId) (fz : Nat × Nat), w.heap[j]? = some (Obj.cells cur e fz) → e ≠ t → w'.heap[j]? = some (Obj.cells cur e fz)
theorem KeptBut.refl (t : TypeId) (w : World) : KeptBut t w w := fun _ _ _ _ h _ => h
theorem KeptBut.trans {t : TypeId} {a b c : World} (h : KeptBut t a b) (k : KeptBut t b c) : KeptBut t a c := fun j cur e fz h0 he => k j cur e fz (h j cur e fz h0 he) he
theorem KeptBut.of_below {t : TypeId} {w w' : World} (h : Below w.heap.size w w') : KeptBut t w w' := fun j cur e fz h0 _ => by rw [h.block j (Array.getElem?_eq_some_iff.1 h0).1]; exact h0
theorem KeptBut.of_grown {t B s n : Nat} {w w' : World} {v : Value} {xs : List Value} (hg : w.grownBy w' v.ownBlock) (ho : w.ownsRow B t s v n xs) : KeptBut t w w' := fun j cur e fz h0 he => by
  rw [hg.block j (Array.getElem?_eq_some_iff.1 h0).1 ?_]
  · exact h0
  · rcases ho.2 with ⟨rfl, _⟩ | ⟨g, cap, cur', rfl, _, hh, _⟩
    · simp [Value.ownBlock]
    · simp only [Value.ownBlock, ne_eq, Option.some.injEq]
      rintro rfl
      rw [hh] at h0
      simp at h0
      exact he h0.2.1.symm
theorem KeptBut.owns {t B e s n : Nat} {w w' : World} {v : Value} {xs : List Value} (h : KeptBut t w w') (ho : w.ownsRow B e s v n xs) (he : e ≠ t) : w'.ownsRow B e s v n xs := by
  refine ⟨ho.1, ?_⟩
  rcases ho.2 with h0 | ⟨g, cap, cur, hv, hB, hg, rest⟩
  · exact .inl h0
  · exact .inr ⟨g, cap, cur, hv, hB, h g cur e _ hg he, rest⟩

/-- Rows of instructions in memory of their own, each in another block. -/
def OwnRows (w : World) (B : Nat) (vs : List Value) (rows : List (List I3)) : Prop :=
  vs.length = rows.length ∧ (∀ t, t < rows.length → w.ownsRow B 36 3 (vs.getD t undef) (rows.getD t []).length (flat (rows.getD t []))) ∧
  ∀ t t', t < rows.length → t' < rows.length → t ≠ t' → (vs.getD t undef).ownBlock = none ∨ (vs.getD t undef).ownBlock ≠ (vs.getD t' undef).ownBlock

/-- A program in memory of its own: the slice of its rows is v. -/
def OwnProg (w : World) (B : Nat) (v : Value) (rows : List (List I3)) : Prop := ∃ vs, w.ownsRow B 55 1 v rows.length vs ∧ OwnRows w B vs rows

theorem OwnProg.nil (w : World) (B : Nat) : OwnProg w B (.slice none 0 0) [] := ⟨[], World.ownsRow_nil _ _ _ _, rfl, fun t ht => by simp at ht, fun t _ ht => by simp at ht⟩

theorem OwnRows.below {w w' : World} {B : Nat} {vs : List Value} {rows : List (List I3)} (h : OwnRows w B vs rows) (hb : Below w.heap.size w w') : OwnRows w' B vs rows := ⟨h.1, fun t ht => owns_below (h.2.1 t ht) hb, h.2.2⟩
theorem OwnProg.below {w w' : World} {B : Nat} {v : Value} {rows : List (List I3)} (h : OwnProg w B v rows) (hb : Below w.heap.size w w') : OwnProg w' B v rows := by
  obtain ⟨vs, h1, h2⟩ := h
  exact ⟨vs, owns_below h1 hb, h2.below hb⟩

theorem OwnProg.slice {w : World} {B : Nat} {v : Value} {rows : List (List I3)} (h : OwnProg w B v rows) : ∃ a cap, v = .slice a rows.length cap := by
  obtain ⟨vs, h1, _⟩ := h
  rcases h1.2 with ⟨hv, h0⟩ | ⟨g, cap, cur, hv, _⟩
  · rw [h0]; exact ⟨none, 0, hv⟩
  · exact ⟨some ⟨g, 0, none⟩, cap, hv⟩

/-- A row of our own is one of instructions. -/
theorem Instrs.of_own {w : World} {B : Nat} {v : Value} {xs : List I3} (h : w.ownsRow B 36 3 v xs.length (flat xs)) (hf : ∀ x ∈ xs, I3.fits x) : ∃ a cap, v = .slice a xs.length cap ∧ Instrs w a xs.length cap xs := by
  rcases h.2 with ⟨hv, h0⟩ | ⟨g, cap, cur, hv, _⟩
  · obtain rfl : xs = [] := List.eq_nil_of_length_eq_zero h0
    exact ⟨none, 0, hv, rfl, Nat.le_refl _, by unfold maxLen; omega, by simp, .inl rfl⟩
  · subst hv
    exact ⟨_, _, rfl, Instrs.of_owns h rfl hf rfl⟩

theorem OwnProg.codes {w : World} {B : Nat} {a : Option Addr} {len cap : Nat} {rows : List (List I3)} (h : OwnProg w B (.slice a len cap) rows) (hf : ∀ r ∈ rows, ∀ x ∈ r, I3.fits x) : Codes w a len cap rows := by
  obtain ⟨vs, h1, h2⟩ := h
  have hcellAt := h1.2
  rcases h1.2 with ⟨hv, h0⟩ | ⟨g, cap', cur, hv, _, hh, hn, hcm, _⟩
  · cases hv
    obtain rfl : rows = [] := List.eq_nil_of_length_eq_zero h0
    exact ⟨rfl, Nat.le_refl _, by unfold maxLen; omega, .inl rfl⟩
  · cases hv
    have hl := h1.1
    refine ⟨rfl, hn, hcm, .inr ⟨g, 0, rfl, (h1.lt g rfl).2, fun t ht => ?_⟩⟩
    have hc := h1.cellAt t (by omega)
    have hvt : vs[t]? = some (vs.getD t undef) := by simp [List.getD, show t < vs.length by omega]
    rw [hvt] at hc
    obtain ⟨a', cap', hva, hI⟩ := Instrs.of_own (h2.2.1 t ht) (hf _ (by simp [List.getD, ht]))
    rw [hva] at hc
    exact ⟨a', _, cap', by rw [Nat.zero_add]; exact hc, hI⟩

/-- All rows marked, one behind the other. -/
def mkP : Int → List (List I3) → Nat → List (List I3)
  | _, rows, 0 => rows
  | _, [], _ + 1 => []
  | k, r :: rows, j + 1 => mkI k r r.length :: mkP (k + r.length * 3) rows j
theorem mkP_len : ∀ (k : Int) (rows : List (List I3)) (j : Nat), (mkP k rows j).length = rows.length
  | _, rows, 0 => by simp [mkP]
  | _, [], _ + 1 => by simp [mkP]
  | k, _ :: rows, j + 1 => by simp [mkP, mkP_len]
/-- How many numbers the first j rows have. -/
def cntP : List (List I3) → Nat → Nat
  | _, 0 => 0
  | [], _ + 1 => 0
  | r :: rows, j + 1 => r.length * 3 + cntP rows j
theorem cntP_step : ∀ (rows : List (List I3)) (j : Nat), j < rows.length → cntP rows (j + 1) = cntP rows j + (rows.getD j []).length * 3
  | [], j, h => by simp at h
  | r :: rows, 0, _ => by simp [cntP]
  | r :: rows, j + 1, h => by
    have := cntP_step rows j (by simpa using h)
    simp only [cntP] at this ⊢
    rw [List.getD_cons_succ]
    omega
theorem cntP_mono : ∀ (rows : List (List I3)) (j : Nat), cntP rows j ≤ cntP rows rows.length
  | [], 0 => by simp [cntP]
  | [], _ + 1 => by simp [cntP]
  | r :: rows, 0 => by simp [cntP]
  | r :: rows, j + 1 => by
    have := cntP_mono rows j
    simp only [cntP, List.length_cons]
    omega
theorem lessAll_cnt : ∀ (rows : List (List I3)) (left : Int), 0 ≤ lessAll left rows → (cntP rows rows.length : Int) ≤ 3 * left
  | [], left, h => by simp only [lessAll] at h; simp only [cntP, List.length_nil]; omega
  | r :: rows, left, h => by
    unfold lessAll at h
    split at h
    · omega
    · have := lessAll_cnt rows (left - r.length) h
      simp only [cntP, List.length_cons]
      omega
theorem sizeLeft_cnt {rows : List (List I3)} {left : Int} (h : 0 ≤ sizeLeft left rows) : (cntP rows rows.length : Int) ≤ 3 * left := by
  unfold sizeLeft at h
  split at h
  · omega
  · have := lessAll_cnt rows _ h
    omega
theorem mkP_set : ∀ (k : Int) (rows : List (List I3)) (j : Nat), j < rows.length → (mkP k rows j).set j (mkI (k + cntP rows j) (rows.getD j []) (rows.getD j []).length) = mkP k rows (j + 1)
  | _, [], j, h => by simp at h
  | k, r :: rows, 0, _ => by simp [mkP, cntP]
  | k, r :: rows, j + 1, h => by
    have ih := mkP_set (k + r.length * 3) rows j (by simpa using h)
    have e : k + ((cntP (r :: rows) (j + 1) : Nat) : Int) = k + r.length * 3 + (cntP rows j : Int) := by simp only [cntP]; omega
    rw [e, List.getD_cons_succ]
    simp only [mkP, List.set_cons_succ, ih]
theorem mkP_old : ∀ (k : Int) (rows : List (List I3)) (j i : Nat), j ≤ i → i < rows.length → (mkP k rows j).getD i [] = rows.getD i []
  | _, rows, 0, i, _, _ => by simp [mkP]
  | _, [], j + 1, i, _, h => by simp at h
  | k, r :: rows, j + 1, i, h, hl => by
    cases i with
    | zero => omega
    | succ i =>
      have ih := mkP_old (k + r.length * 3) rows j i (by omega) (by simpa using hl)
      simpa [mkP] using ih
theorem mkP_get : ∀ (k : Int) (rows : List (List I3)) (j i : Nat), i < j → i < rows.length → (mkP k rows j).getD i [] = mkI (k + cntP rows i) (rows.getD i []) (rows.getD i []).length
  | _, rows, 0, i, h, _ => by omega
  | _, [], j + 1, i, _, h => by simp at h
  | k, r :: rows, j + 1, 0, _, _ => by simp [mkP, cntP]
  | k, r :: rows, j + 1, i + 1, h, hl => by
    have ih := mkP_get (k + r.length * 3) rows j i (by omega) (by simpa using hl)
    have e : k + ((cntP (r :: rows) (i + 1) : Nat) : Int) = k + r.length * 3 + (cntP rows i : Int) := by simp only [cntP]; omega
    rw [e]
    simpa [mkP] using ih

/-- One row of them was turned, the others are as they were. -/
theorem OwnRows.turn {w w' : World} {B : Nat} {vs : List Value} {rows : List (List I3)} {t : Nat} {r : List I3} (h : OwnRows w B vs rows) (ht : t < rows.length) (hl : r.length = (rows.getD t []).length)
    (hr : w'.ownsRow B 36 3 (vs.getD t undef) (rows.getD t []).length (flat r)) (hg : w.grownBy w' (vs.getD t undef).ownBlock) : OwnRows w' B vs (rows.set t r) := by
  obtain ⟨h1, h2, h3⟩ := h
  refine ⟨by simpa using h1, fun i hi => ?_, fun i j hi hj => h3 i j (by simpa using hi) (by simpa using hj)⟩
  have hi' : i < rows.length := by simpa using hi
  by_cases hit : i = t
  · subst hit
    have e : (rows.set i r).getD i [] = r := by simp [List.getD, ht]
    rw [e, hl]
    exact hr
  · have e : (rows.set t r).getD i [] = rows.getD i [] := by simp [List.getD, List.getElem?_set_ne (Ne.symm hit)]
    rw [e]
    exact (h2 i hi').kept hg (h3 i t hi' ht hit)

end Go.Proofs.YtiokkoaalakakaaGreatDoor
