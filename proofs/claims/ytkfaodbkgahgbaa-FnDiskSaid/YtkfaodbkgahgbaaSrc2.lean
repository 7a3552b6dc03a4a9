
/-
  The specification's source of choices, more of it: next hands a number below n; a source over a code; how what it hands is kept apart from all else.
-/
import Derived.Test.YtkfaodbkgahgbaaSrc
namespace Go.Proofs.Ytkfaodbkgahgbaa
open Go.RowKit

/-- All that was there but the source's own struct is as it was. -/
abbrev Went (p : Nat) (w w' : World) : Prop := w.grownBy w' (some p)
theorem Stepped.went {p : Nat} {w w' : World} (h : Stepped p w w') : Went p w w' :=
  ⟨h.1.os, h.1.tape, h.1.output, Nat.le_of_eq h.2.1.symm, fun k _ hk => h.2.2 k (fun e => hk (by rw [e]))⟩
theorem Went.trans {p : Nat} {a b c : World} (h : Went p a b) (k : Went p b c) : Went p a c :=
  ⟨k.os.trans h.os, k.tape.trans h.tape, k.output.trans h.output, Nat.le_trans h.size k.size, fun i hi hne => (k.block i (Nat.lt_of_lt_of_le hi h.size) hne).trans (h.block i hi hne)⟩
theorem Went.below {p : Nat} {w w' : World} (h : Went p w w') (hp : p ≤ w.heap.size) : Below p w w' :=
  (Below.refl _ _).grown h hp (fun k e => by cases e; exact Nat.le_refl _)
theorem Went.alloc {p : Nat} {w w' : World} (h : Went p w w') (o : Obj) : Went p w (w'.alloc o) := h.trans (World.grownBy_alloc w' o _)
theorem Went.refl (p : Nat) (w : World) : Went p w w := World.grownBy.refl _ _
/-- A law's step on a row that did not lie there. -/
theorem Went.grown {p : Nat} {w w' w'' : World} {row : Option Nat} (h : Went p w w') (g : w'.grownBy w'' row) (hr : ∀ k, row = some k → w.heap.size ≤ k) : Went p w w'' :=
  ⟨g.os.trans h.os, g.tape.trans h.tape, g.output.trans h.output, Nat.le_trans h.size g.size, fun i hi hne => (g.block i (Nat.lt_of_lt_of_le hi h.size) (fun e => by have := hr i e.symm; omega)).trans (h.block i hi hne)⟩
theorem Src.grown {p T : Nat} {c : Value} {w w' : World} {row : Option Nat} (h : Src w p c T) (g : w.grownBy w' row) (hr : ∀ k, row = some k → k ≠ p) : Src w' p c T := by
  obtain ⟨m, sd, hh, h1, h2⟩ := h
  have hl : p < w.heap.size := (Array.getElem?_eq_some_iff.1 hh).1
  exact ⟨m, sd, by rw [g.block p hl (fun e => hr p e.symm rfl)]; exact hh, h1, h2⟩
theorem Src.alloc {p T : Nat} {c : Value} {w : World} (h : Src w p c T) (o : Obj) : Src (w.alloc o) p c T := h.grown (World.grownBy_alloc w o none) (fun k e => by cases e)
theorem Src.lt {p T : Nat} {c : Value} {w : World} (h : Src w p c T) : p < w.heap.size := by
  obtain ⟨m, sd, hh, _⟩ := h
  exact (Array.getElem?_eq_some_iff.1 hh).1
theorem Src.mono {p T T' : Nat} {c : Value} {w : World} (h : Src w p c T) (ht : T ≤ T') : Src w p c T' := by
  obtain ⟨m, sd, hh, h1, h2⟩ := h
  exact ⟨m, sd, hh, Nat.le_trans h1 ht, h2⟩
theorem Code.below {p n cap : Nat} {a : Option Addr} {w w' : World} (h : Code w p a n cap) (hb : Below p w w') : Code w' p a n cap := by
  obtain ⟨zs, ⟨h1, h2, h3, h4⟩, h5, h6, h7⟩ := h
  refine ⟨zs, ⟨h1, h2, h3, ?_⟩, h5, h6, h7⟩
  rcases h4 with h4 | ⟨b, off, ha, hlt, hc⟩
  · exact .inl h4
  · rcases Nat.eq_zero_or_pos n with h0 | h0
    · exact .inl h0
    · have hbB := h7 _ ha (by omega)
      exact .inr ⟨b, off, ha, by have := hb.size; omega, fun t ht => by rw [hb.cell (p := ⟨b, off + t, none⟩) hbB]; exact hc t ht⟩
theorem Code.went {p n cap : Nat} {a : Option Addr} {w w' : World} (h : Code w p a n cap) (hw : Went p w w') (hp : p ≤ w.heap.size) : Code w' p a n cap := h.below (hw.below hp)

set_option maxHeartbeats 1000000 in
set_option maxRecDepth 100000 in
theorem next_any (p T : Nat) (a : Option Addr) (n cap : Nat) (k : Int) (w : World) (hS : Src w p (.slice a n cap) T) (hC : Code w p a n cap) (hT : T ≤ 900000) (hk : k ≤ 1000000) :
    Calls Try.prog 38 #[.pointer (some ⟨p, 0, none⟩), .int .i64 k] w fun e w' => (∃ v : Nat, ((v : Int) < k ∨ v = 0) ∧ e = .returned (.int .i64 v)) ∧ Src w' p (.slice a n cap) (T + 3) ∧ Went p w w' := by
  have hp := Nat.le_of_lt hS.lt
  by_cases h1 : k ≤ 1
  · go_enter Try.func38, Try.ntmps38
    go_wp2
    go_ret
    exact ⟨⟨0, .inr rfl, rfl⟩, hS.mono (by omega), Went.refl _ _⟩
  by_cases h2 : k ≤ 256
  · go_enter Try.func38, Try.ntmps38
    go_wp2_with fail
    refine (byte_any p T a n cap _ hS hC (by omega)).mono ?_
    rintro e w1 ⟨⟨v, hv, rfl⟩, hS1, hst⟩
    have hW := hst.went
    have hS3 : Src w1 p (.slice a n cap) (T + 3) := hS1.mono (by omega)
    clear hst hS1 hS hC
    go_wp2
    go_ret
    exact ⟨⟨((v : Int) % k).toNat, .inl (by have := Int.emod_lt_of_pos (v : Int) (show 0 < k by omega); have := Int.emod_nonneg (v : Int) (show k ≠ 0 by omega); omega), by rw [Int.toNat_of_nonneg (Int.emod_nonneg _ (by omega))]; rfl⟩, hS3, hW⟩
  · go_enter Try.func38, Try.ntmps38
    go_wp2_with fail
    refine (byte_any p T a n cap _ hS hC (by omega)).mono ?_
    rintro e w1 ⟨⟨v1, hv1, rfl⟩, hS1, hst1⟩
    have hC1 := hC.went hst1.went hp
    have hp1 := Nat.le_of_lt hS1.lt
    go_wp2_with fail
    refine (byte_any p (T + 1) a n cap _ hS1 hC1 (by omega)).mono ?_
    rintro e w2 ⟨⟨v2, hv2, rfl⟩, hS2, hst2⟩
    have hC2 := hC1.went hst2.went hp1
    go_wp2_with fail
    refine (byte_any p (T + 1 + 1) a n cap _ hS2 hC2 (by omega)).mono ?_
    rintro e w3 ⟨⟨v3, hv3, rfl⟩, hS3, hst3⟩
    have hW := (hst1.went.trans hst2.went).trans hst3.went
    have hS3' : Src w3 p (.slice a n cap) (T + 3) := hS3.mono (by omega)
    clear hst1 hst2 hst3 hS1 hS2 hS3 hS hC hC1 hC2
    go_wp2
    go_ret
    exact ⟨⟨(((v1 : Int) * 65536 + (v2 : Int) * 256 + (v3 : Int)) % k).toNat, .inl (by have := Int.emod_lt_of_pos ((v1 : Int) * 65536 + (v2 : Int) * 256 + (v3 : Int)) (show 0 < k by omega); have := Int.emod_nonneg ((v1 : Int) * 65536 + (v2 : Int) * 256 + (v3 : Int)) (show k ≠ 0 by omega); omega), by rw [Int.toNat_of_nonneg (Int.emod_nonneg _ (by omega))]; rfl⟩, hS3', hW⟩

/-- A source over a code that came in. -/
theorem l00Source_any (a : Option Addr) (n cap : Nat) (w : World) (hn : n ≤ 1048576) :
    Calls Try.prog 27 #[.slice a n cap] w fun e w' => e = .returned (.pointer (some ⟨w.heap.size, 0, none⟩)) ∧ Src w' w.heap.size (.slice a n cap) 0 ∧ Below w.heap.size w w' := by
  go_enter Try.func27, Try.ntmps27
  go_wp2
  go_ret
  refine ⟨rfl, ⟨0, ((n : Int) % 1000).toNat, ?_, by omega, by omega⟩, (Below.refl _ _).alloc (Nat.le_refl _) _⟩
  rw [Int.toNat_of_nonneg (by omega)]
  exact heap_alloc_new w _
/-- The code that came in lies below the source. -/
theorem code_of {a : Option Addr} {n cap : Nat} {zs : List Int} {w : World} (h : IsRow .u8 w a n cap zs) (hn : n ≤ 1048576) : Code w w.heap.size a n cap := by
  refine ⟨zs.take n, Ints.of_isRow h, ?_, hn, ?_⟩
  · intro z hz
    have hz' := List.mem_of_mem_take hz
    rcases h with ⟨_, _, _, rfl⟩ | ⟨x, _, _, _, _, _, hw⟩
    · simp at hz'
    · have := hw z hz'
      simp [Lit.wf, IntKind.min, IntKind.max, IntKind.signed, IntKind.bits] at this
      omega
  · intro x hx hn0
    obtain ⟨_, _, _, h4⟩ := Ints.of_isRow h
    rcases h4 with h4 | ⟨b, off, ha, hlt, _⟩
    · exact absurd h4 hn0
    · rw [ha] at hx
      cases hx
      exact hlt
end Go.Proofs.Ytkfaodbkgahgbaa
