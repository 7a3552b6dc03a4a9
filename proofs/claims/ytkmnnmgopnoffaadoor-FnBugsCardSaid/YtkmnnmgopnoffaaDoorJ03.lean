/-
  FnBugs, part 3 of 50 (Src2, Prog0).
-/
import Derived.Test.YtkmnnmgopnoffaaDoorJ02
import Derived.Test.YtkmnnmgopnoffaaDoorJ01
import Derived.Deep.Slices
import Derived.Deep.Strs
import Derived.Deep.Fields
import Derived.ChangeSame

/-
  The specification's source of choices, more of it: next hands a number below n; a source over a code; how what it hands is kept apart from all else.
-/
namespace Go.Proofs.YtkmnnmgopnoffaaDoor
open Go.RowKit

/-- All that was there but the source's own struct is as it was. -/
abbrev Went (p : Nat) (w w' : World) : Prop := w.grownBy w' (some p)
theorem Stepped.went {p : Nat} {w w' : World} (h : Stepped p w w') : Went p w w' :=
  ⟨h.1.os, h.1.tape, h.1.output, Nat.le_of_eq h.2.1.symm, fun k _ hk => h.2.2 k (fun e => hk (by rw [e]))⟩
theorem Went.trans {p : Nat} {a b c : World} (h : Went p a b) (k : Went p b c) : Went p a c :=
  ⟨k.os.trans h.os, k.tape.trans h.tape, k.output.trans h.output, Nat.le_trans h.size k.size, fun i hi hne => (k.block i (Nat.lt_of_lt_of_le hi h.size) hne).trans (h.block i hi hne)⟩
theorem Went.below {p : Nat} {w w' : World} (h : Went p w w') (hp : p ≤ w.heap.size) : Below p w w' :=
  (Below.refl _ _).grown h hp (fun k e => by cases e; exact Nat.le_refl _)
theorem Went.alloc {p : Nat} {w w' : World} (h : Went p w w') (o : Obj) : Went p w (w'.alloc o) := h.trans (World.grownBy_alloc w' o _)
theorem Went.refl (p : Nat) (w : World) : Went p w w := World.grownBy.refl _ _
/-- A law's step on a row that did not lie there. -/
theorem Went.grown {p : Nat} {w w' w'' : World} {row : Option Nat} (h : Went p w w') (g : w'.grownBy w'' row) (hr : ∀ k, row = some k → w.heap.size ≤ k) : Went p w w'' :=
  ⟨g.os.trans h.os, g.tape.trans h.tape, g.output.trans h.output, Nat.le_trans h.size g.size, fun i hi hne => (g.block i (Nat.lt_of_lt_of_le hi h.size) (fun e => by have := hr i e.symm; omega)).trans (h.block i hi hne)⟩
theorem Src.grown {p T : Nat} {c : Value} {w w' : World} {row : Option Nat} (h : Src w p c T) (g : w.grownBy w' row) (hr : ∀ k, row = some k → k ≠ p) : Src w' p c T := by
  obtain ⟨m, sd, hh, h1, h2⟩ := h
  have hl : p < w.heap.size := (Array.getElem?_eq_some_iff.1 hh).1
  exact ⟨m, sd, by rw [g.block p hl (fun e => hr p e.symm rfl)]; exact hh, h1, h2⟩
theorem Src.alloc {p T : Nat} {c : Value} {w : World} (h : Src w p c T) (o : Obj) : Src (w.alloc o) p c T := h.grown (World.grownBy_alloc w o none) (fun k e => by cases e)
theorem Src.lt {p T : Nat} {c : Value} {w : World} (h : Src w p c T) : p < w.heap.size := by
  obtain ⟨m, sd, hh, _⟩ := h
  exact (Array.getElem?_eq_some_iff.1 hh).1
theorem Src.mono {p T T' : Nat} {c : Value} {w : World} (h : Src w p c T) (ht : T ≤ T') : Src w p c T' := by
  obtain ⟨m, sd, hh, h1, h2⟩ := h
  exact ⟨m, sd, hh, Nat.le_trans h1 ht, h2⟩
theorem Code.below {p n cap : Nat} {a : Option Addr} {w w' : World} (h : Code w p a n cap) (hb : Below p w w') : Code w' p a n cap := by
  obtain ⟨zs, ⟨h1, h2, h3, h4⟩, h5, h6, h7⟩ := h
  refine ⟨zs, ⟨h1, h2, h3, ?_⟩, h5, h6, h7⟩
  rcases h4 with h4 | ⟨b, off, ha, hlt, hc⟩
  · exact .inl h4
  · rcases Nat.eq_zero_or_pos n with h0 | h0
    · exact .inl h0
    · have hbB := h7 _ ha (by omega)
      exact .inr ⟨b, off, ha, by have := hb.size; omega, fun t ht => by rw [hb.cell (p := ⟨b, off + t, none⟩) hbB]; exact hc t ht⟩
theorem Code.went {p n cap : Nat} {a : Option Addr} {w w' : World} (h : Code w p a n cap) (hw : Went p w w') (hp : p ≤ w.heap.size) : Code w' p a n cap := h.below (hw.below hp)

set_option maxHeartbeats 1000000 in
set_option maxRecDepth 100000 in
theorem next_any (p T : Nat) (a : Option Addr) (n cap : Nat) (k : Int) (w : World) (hS : Src w p (.slice a n cap) T) (hC : Code w p a n cap) (hT : T ≤ 900000) (hk : k ≤ 1000000) :
    Calls Tryd.prog 106 #[.pointer (some ⟨p, 0, none⟩), .int .i64 k] w fun e w' => (∃ v : Nat, ((v : Int) < k ∨ v = 0) ∧ e = .returned (.int .i64 v)) ∧ Src w' p (.slice a n cap) (T + 3) ∧ Went p w w' := by
  have hp := Nat.le_of_lt hS.lt
  by_cases h1 : k ≤ 1
  · go_enter Tryd.func106, Tryd.ntmps106
    go_wp2
    go_ret
    exact ⟨⟨0, .inr rfl, rfl⟩, hS.mono (by omega), Went.refl _ _⟩
  by_cases h2 : k ≤ 256
  · go_enter Tryd.func106, Tryd.ntmps106
    go_wp2_with fail
    refine (byte_any p T a n cap _ hS hC (by omega)).mono ?_
    rintro e w1 ⟨⟨v, hv, rfl⟩, hS1, hst⟩
    have hW := hst.went
    have hS3 : Src w1 p (.slice a n cap) (T + 3) := hS1.mono (by omega)
    clear hst hS1 hS hC
    go_wp2
    go_ret
    exact ⟨⟨((v : Int) % k).toNat, .inl (by have := Int.emod_lt_of_pos (v : Int) (show 0 < k by omega); have := Int.emod_nonneg (v : Int) (show k ≠ 0 by omega); omega), by rw [Int.toNat_of_nonneg (Int.emod_nonneg _ (by omega))]; rfl⟩, hS3, hW⟩
  · go_enter Tryd.func106, Tryd.ntmps106
    go_wp2_with fail
    refine (byte_any p T a n cap _ hS hC (by omega)).mono ?_
    rintro e w1 ⟨⟨v1, hv1, rfl⟩, hS1, hst1⟩
    have hC1 := hC.went hst1.went hp
    have hp1 := Nat.le_of_lt hS1.lt
    go_wp2_with fail
    refine (byte_any p (T + 1) a n cap _ hS1 hC1 (by omega)).mono ?_
    rintro e w2 ⟨⟨v2, hv2, rfl⟩, hS2, hst2⟩
    have hC2 := hC1.went hst2.went hp1
    go_wp2_with fail
    refine (byte_any p (T + 1 + 1) a n cap _ hS2 hC2 (by omega)).mono ?_
    rintro e w3 ⟨⟨v3, hv3, rfl⟩, hS3, hst3⟩
    have hW := (hst1.went.trans hst2.went).trans hst3.went
    have hS3' : Src w3 p (.slice a n cap) (T + 3) := hS3.mono (by omega)
    clear hst1 hst2 hst3 hS1 hS2 hS3 hS hC hC1 hC2
    go_wp2
    go_ret
    exact ⟨⟨(((v1 : Int) * 65536 + (v2 : Int) * 256 + (v3 : Int)) % k).toNat, .inl (by have := Int.emod_lt_of_pos ((v1 : Int) * 65536 + (v2 : Int) * 256 + (v3 : Int)) (show 0 < k by omega); have := Int.emod_nonneg ((v1 : Int) * 65536 + (v2 : Int) * 256 + (v3 : Int)) (show k ≠ 0 by omega); omega), by rw [Int.toNat_of_nonneg (Int.emod_nonneg _ (by omega))]; rfl⟩, hS3', hW⟩

/-- A source over a code that came in. -/
theorem l00Source_any (a : Option Addr) (n cap : Nat) (w : World) (hn : n ≤ 1048576) :
    Calls Tryd.prog 56 #[.slice a n cap] w fun e w' => e = .returned (.pointer (some ⟨w.heap.size, 0, none⟩)) ∧ Src w' w.heap.size (.slice a n cap) 0 ∧ Below w.heap.size w w' := by
  go_enter Tryd.func56, Tryd.ntmps56
  go_wp2
  go_ret
  refine ⟨rfl, ⟨0, ((n : Int) % 1000).toNat, ?_, by omega, by omega⟩, (Below.refl _ _).alloc (Nat.le_refl _) _⟩
  rw [Int.toNat_of_nonneg (by omega)]
  exact heap_alloc_new w _
/-- The code that came in lies below the source. -/
theorem code_of {a : Option Addr} {n cap : Nat} {zs : List Int} {w : World} (h : IsRow .u8 w a n cap zs) (hn : n ≤ 1048576) : Code w w.heap.size a n cap := by
  refine ⟨zs.take n, Ints.of_isRow h, ?_, hn, ?_⟩
  · intro z hz
    have hz' := List.mem_of_mem_take hz
    rcases h with ⟨_, _, _, rfl⟩ | ⟨x, _, _, _, _, _, hw⟩
    · simp at hz'
    · have := hw z hz'
      simp [Lit.wf, IntKind.min, IntKind.max, IntKind.signed, IntKind.bits] at this
      omega
  · intro x hx hn0
    obtain ⟨_, _, _, h4⟩ := Ints.of_isRow h
    rcases h4 with h4 | ⟨b, off, ha, hlt, _⟩
    · exact absurd h4 hn0
    · rw [ha] at hx
      cases hx
      exact hlt
end Go.Proofs.YtkmnnmgopnoffaaDoor


/-
  Instructions and programs in memory: what the walks ask of a slice of instructions, of a slice of such slices, of a program that came in. No function of the program in it.
-/
namespace Go.Proofs.YtkmnnmgopnoffaaDoor
open Go.RowKit Go.ChangeShapes Go.WideShapes

theorem bel_trans {a b c : World} (h : Below a.heap.size a b) (k : Below b.heap.size b c) : Below a.heap.size a c := h.trans (k.mono h.size)

/-- An instruction: its three numbers. -/
abbrev I3 := Int × Int × Int

def I3.fits (x : I3) : Prop := (Lit.int .i64 x.1).wf = true ∧ (Lit.int .i64 x.2.1).wf = true ∧ (Lit.int .i64 x.2.2).wf = true

def I3.val (x : I3) : Value := .agg #[.int .i64 x.1, .int .i64 x.2.1, .int .i64 x.2.2]

/-- The elements of a slice of instructions in memory are xs: three cells an element. -/
def Instrs (w : World) (a : Option Addr) (len cap : Nat) (xs : List I3) : Prop :=
  xs.length = len ∧ len ≤ cap ∧ cap ≤ maxLen ∧ (∀ x ∈ xs, I3.fits x) ∧
  (len = 0 ∨ ∃ b off, a = some ⟨b, off, none⟩ ∧ b < w.heap.size ∧ ∀ t, t < len →
    w.cell? ⟨b, off + t * 3, none⟩ = some (.int .i64 (xs.getD t (0, 0, 0)).1) ∧
    w.cell? ⟨b, off + t * 3 + 1, none⟩ = some (.int .i64 (xs.getD t (0, 0, 0)).2.1) ∧
    w.cell? ⟨b, off + t * 3 + 2, none⟩ = some (.int .i64 (xs.getD t (0, 0, 0)).2.2))

/-- A slice of slices of instructions: its rows' own headers (H), and what each holds. -/
def Codes (w : World) (a : Option Addr) (len cap : Nat) (P : List (List I3)) : Prop :=
  P.length = len ∧ len ≤ cap ∧ cap ≤ maxLen ∧
  (len = 0 ∨ ∃ b off, a = some ⟨b, off, none⟩ ∧ b < w.heap.size ∧ ∀ t, t < len →
    ∃ a' len' cap', w.cell? ⟨b, off + t, none⟩ = some (.slice a' len' cap') ∧ Instrs w a' len' cap' (P.getD t []))

theorem Instrs.below {w w' : World} {a : Option Addr} {len cap : Nat} {xs : List I3} (h : Instrs w a len cap xs) (hb : Below w.heap.size w w') : Instrs w' a len cap xs := by
  obtain ⟨h1, h2, h3, hf, h4⟩ := h
  refine ⟨h1, h2, h3, hf, ?_⟩
  rcases h4 with h4 | ⟨b, off, ha, hlt, hc⟩
  · exact .inl h4
  · refine .inr ⟨b, off, ha, by have := hb.size; omega, fun t ht => ?_⟩
    obtain ⟨c0, c1, c2⟩ := hc t ht
    exact ⟨by rw [hb.cell (p := ⟨b, _, none⟩) hlt]; exact c0, by rw [hb.cell (p := ⟨b, _, none⟩) hlt]; exact c1, by rw [hb.cell (p := ⟨b, _, none⟩) hlt]; exact c2⟩

theorem Codes.below {w w' : World} {a : Option Addr} {len cap : Nat} {P : List (List I3)} (h : Codes w a len cap P) (hb : Below w.heap.size w w') : Codes w' a len cap P := by
  obtain ⟨h1, h2, h3, h4⟩ := h
  refine ⟨h1, h2, h3, ?_⟩
  rcases h4 with h4 | ⟨b, off, ha, hlt, hc⟩
  · exact .inl h4
  · refine .inr ⟨b, off, ha, by have := hb.size; omega, fun t ht => ?_⟩
    obtain ⟨a', l', c', hcell, hi⟩ := hc t ht
    exact ⟨a', l', c', by rw [hb.cell (p := ⟨b, _, none⟩) hlt]; exact hcell, hi.below hb⟩

section
variable {H : Type} {enc : TypeId × Value → H} {P : Program} {w : World} {base : Nat} {spare : Nat → Bool} {held : Bool}

/-- Three cells that are read as a struct of three integers. -/
theorem open_instr_cells {t : TypeId} {fuel : Nat} {F0 F1 F2 : Field} {cs : List Value} {x : DataW H × List MemPlace}
    (ht : P.underlying t = some (.struct #[F0, F1, F2])) (hone : Go.Deep.oneCellFields P #[F0, F1, F2] = true) (hC : P.cellsOf t = 3)
    (i0 : P.underlying F0.type = some (.int .i64)) (i1 : P.underlying F1.type = some (.int .i64)) (i2 : P.underlying F2.type = some (.int .i64))
    (h : DataW.trod enc P w base spare held fuel t cs = some x) : ∃ y : I3, cs = [.int .i64 y.1, .int .i64 y.2.1, .int .i64 y.2.2] ∧ I3.fits y := by
  obtain ⟨y0, y1, y2, n, hx, hl, h0, h1, h2⟩ := Go.Deep.trod_struct3 ht h
  rw [hC] at hl
  obtain ⟨o0, k0⟩ := Go.Deep.hone_of hone 0 F0 rfl
  obtain ⟨o1, k1⟩ := Go.Deep.hone_of hone 1 F1 rfl
  obtain ⟨o2, k2⟩ := Go.Deep.hone_of hone 2 F2 rfl
  match cs, hl with
  | [c0, c1, c2], _ =>
    simp only [o0, k0] at h0
    simp only [o1, k1] at h1
    simp only [o2, k2] at h2
    obtain ⟨m0, e0, _, f0⟩ := DataW.trod_int i0 h0
    obtain ⟨m1, e1, _, f1⟩ := DataW.trod_int i1 h1
    obtain ⟨m2, e2, _, f2⟩ := DataW.trod_int i2 h2
    simp at e0 e1 e2
    exact ⟨(m0, m1, m2), by simp [e0, e1, e2], f0, f1, f2⟩

/-- A slice of such structs, opened. -/
theorem open_instrs {t e : TypeId} {fuel : Nat} {F0 F1 F2 : Field} {v : Value} {x : DataW H × List MemPlace}
    (hs : P.underlying t = some (.slice e)) (ht : P.underlying e = some (.struct #[F0, F1, F2])) (hone : Go.Deep.oneCellFields P #[F0, F1, F2] = true) (hC : P.cellsOf e = 3)
    (i0 : P.underlying F0.type = some (.int .i64)) (i1 : P.underlying F1.type = some (.int .i64)) (i2 : P.underlying F2.type = some (.int .i64))
    (h : DataW.trod enc P w base spare held fuel t [v] = some x) : ∃ a len cap xs, v = .slice a len cap ∧ Instrs w a len cap xs := by
  rcases Go.Deep.open_slice hs h with ⟨hcs, _⟩ | ⟨a, len, cap, m, n, D, Pl, hcs, _, hl, hm, hmm, _, hx⟩
  · simp at hcs
    exact ⟨none, 0, 0, [], hcs, rfl, Nat.le_refl _, by unfold maxLen; omega, by simp, .inl rfl⟩
  · simp at hcs
    have hlm : len ≤ m := by rw [hmm]; split <;> omega
    obtain ⟨Y, hY⟩ := Go.Deep.choose_lt (α := I3) (n := len) (p := fun i y => w.cells? base (a.add (i * 3)) 3 = some [.int .i64 y.1, .int .i64 y.2.1, .int .i64 y.2.2] ∧ I3.fits y) (fun i hi => by
      obtain ⟨cs', h1, h2⟩ := hx i (by omega)
      rw [hC] at h1
      obtain ⟨y, hy, hf⟩ := open_instr_cells ht hone hC i0 i1 i2 h2
      exact ⟨y, by rw [h1, hy], hf⟩)
    refine ⟨some a, len, cap, (List.range len).map Y, hcs, by simp, hl, hm, ?_, ?_⟩
    · intro z hz
      obtain ⟨i, hi, rfl⟩ := List.mem_map.1 hz
      exact (hY i (List.mem_range.1 hi)).2
    · rcases Nat.eq_zero_or_pos len with h0 | h0
      · exact .inl h0
      right
      obtain ⟨b, off, spot⟩ := a
      have hc := (World.cells?_some (hY 0 h0).1).2.2 0 (by omega)
      have hspot : spot = none := by simpa [Addr.add] using World.cell?_spot hc
      subst hspot
      have e : ∀ i, (⟨b, off, none⟩ : Addr).add i = ⟨b, off + i, none⟩ := fun i => by unfold Addr.add; split <;> simp_all
      have e' : ∀ i j, (⟨b, off + i, none⟩ : Addr).add j = ⟨b, off + i + j, none⟩ := fun i j => by unfold Addr.add; split <;> simp_all
      have hall : ∀ i, i < len → w.cell? ⟨b, off + i * 3, none⟩ = some (.int .i64 (((List.range len).map Y).getD i (0, 0, 0)).1) ∧
          w.cell? ⟨b, off + i * 3 + 1, none⟩ = some (.int .i64 (((List.range len).map Y).getD i (0, 0, 0)).2.1) ∧
          w.cell? ⟨b, off + i * 3 + 2, none⟩ = some (.int .i64 (((List.range len).map Y).getD i (0, 0, 0)).2.2) := by
        intro i hi
        have hcs := (World.cells?_some (hY i hi).1).2.2
        have g : ((List.range len).map Y).getD i (0, 0, 0) = Y i := by simp [List.getD, hi]
        rw [g]
        have c0 := hcs 0 (by omega)
        have c1 := hcs 1 (by omega)
        have c2 := hcs 2 (by omega)
        rw [e, e'] at c0 c1 c2
        exact ⟨by simpa using c0, by simpa using c1, by simpa using c2⟩
      exact ⟨b, off, rfl, lt_of_cell (hall 0 h0).1, hall⟩

/-- A slice of slices of such structs, opened. -/
theorem open_codes {s t e : TypeId} {fuel : Nat} {F0 F1 F2 : Field} {v : Value} {x : DataW H × List MemPlace}
    (hss : P.underlying s = some (.slice t)) (h1 : P.cellsOf t = 1)
    (hs : P.underlying t = some (.slice e)) (ht : P.underlying e = some (.struct #[F0, F1, F2])) (hone : Go.Deep.oneCellFields P #[F0, F1, F2] = true) (hC : P.cellsOf e = 3)
    (i0 : P.underlying F0.type = some (.int .i64)) (i1 : P.underlying F1.type = some (.int .i64)) (i2 : P.underlying F2.type = some (.int .i64))
    (h : DataW.trod enc P w base spare held fuel s [v] = some x) : ∃ a len cap xss, v = .slice a len cap ∧ Codes w a len cap xss := by
  rcases Go.Deep.open_slice1 hss h1 h with ⟨hcs, _⟩ | ⟨a, len, cap, m, n, V, D, Pl, hcs, _, hl, hm, hmm, _, hx⟩
  · simp at hcs
    exact ⟨none, 0, 0, [], hcs, rfl, Nat.le_refl _, by unfold maxLen; omega, .inl rfl⟩
  · simp at hcs
    have hlm : len ≤ m := by rw [hmm]; split <;> omega
    obtain ⟨Y, hY⟩ := Go.Deep.choose_lt (α := List I3) (n := len) (p := fun i y => ∃ a' len' cap', w.cell? (a.add i) = some (.slice a' len' cap') ∧ Instrs w a' len' cap' y) (fun i hi => by
      obtain ⟨hc, ho⟩ := hx i (by omega)
      obtain ⟨a', l', c', xs, hv, hi'⟩ := open_instrs hs ht hone hC i0 i1 i2 ho
      exact ⟨xs, a', l', c', by rw [hc, hv], hi'⟩)
    refine ⟨some a, len, cap, (List.range len).map Y, hcs, by simp, hl, hm, ?_⟩
    rcases Nat.eq_zero_or_pos len with h0 | h0
    · exact .inl h0
    right
    obtain ⟨b, off, spot⟩ := a
    obtain ⟨_, _, _, hc, _⟩ := hY 0 h0
    have hspot : spot = none := by simpa [Addr.add] using World.cell?_spot hc
    subst hspot
    have e : ∀ i, (⟨b, off, none⟩ : Addr).add i = ⟨b, off + i, none⟩ := fun i => by unfold Addr.add; split <;> simp_all
    have hall : ∀ i, i < len → ∃ a' len' cap', w.cell? ⟨b, off + i, none⟩ = some (.slice a' len' cap') ∧ Instrs w a' len' cap' (((List.range len).map Y).getD i []) := by
      intro i hi
      have g : ((List.range len).map Y).getD i [] = Y i := by simp [List.getD, hi]
      rw [g, ← e]
      exact hY i hi
    obtain ⟨_, _, _, hc0, _⟩ := hall 0 h0
    exact ⟨b, off, rfl, lt_of_cell hc0, hall⟩
end

set_option maxRecDepth 100000 in
/-- What the frame tells of an instruction that came in. -/
theorem open_laws_Instr {H : Type} {enc : TypeId × Value → H} {w : World} {base : Nat} {spare : Nat → Bool} {held : Bool} {r : Reach} {b0 : Nat} {v : Value} {d : DataW H} {p : List MemPlace}
    (hv : Value.okWide Tryd.prog w r b0 188 v) (h : DataW.Trod enc Tryd.prog w base spare held 188 v d p) : ∃ y : I3, v = y.val ∧ I3.fits y := by
  obtain ⟨cs, rfl, hsz⟩ := okWide_struct Tryd.underlying188 hv
  obtain ⟨fuel, hf⟩ := h
  obtain ⟨y, hy, hfit⟩ := open_instr_cells Tryd.underlying188 (by kernel_rfl) (by kernel_rfl) Tryd.underlying3 Tryd.underlying3 Tryd.underlying3 hf
  refine ⟨y, ?_, hfit⟩
  unfold I3.val
  simp only [Value.cells] at hy
  cases cs
  simp_all

set_option maxRecDepth 100000 in
/-- .. of a program. -/
theorem open_laws_Program {H : Type} {enc : TypeId × Value → H} {w : World} {base : Nat} {spare : Nat → Bool} {held : Bool} {r : Reach} {b0 : Nat} {v : Value} {d : DataW H} {p : List MemPlace}
    (hv : Value.okWide Tryd.prog w r b0 65 v) (h : DataW.Trod enc Tryd.prog w base spare held 65 v d p) : ∃ a len cap xss, v = .agg #[.slice a len cap] ∧ Codes w a len cap xss := by
  obtain ⟨cs, rfl, hsz⟩ := okWide_struct Tryd.underlying65 hv
  have hsz' : cs.size = 1 := hsz.trans (by kernel_rfl)
  obtain ⟨fuel, hf⟩ := h
  obtain ⟨y0, n, _, _, h0⟩ := trod_struct1 Tryd.underlying65 hf
  obtain ⟨c, rfl⟩ : ∃ c, cs = #[c] := by
    obtain ⟨l⟩ := cs
    match l, hsz' with
    | [c], _ => exact ⟨c, rfl⟩
  have hk : Tryd.prog.cellsOf 63 = 1 := by kernel_rfl
  simp only [Value.cells, hk] at h0
  obtain ⟨a, len, cap, xss, hc, hC⟩ := open_codes Tryd.underlying63 (by kernel_rfl) Tryd.underlying170 Tryd.underlying188 (by kernel_rfl) (by kernel_rfl) Tryd.underlying3 Tryd.underlying3 Tryd.underlying3 h0
  exact ⟨a, len, cap, xss, by rw [hc], hC⟩
end Go.Proofs.YtkmnnmgopnoffaaDoor
