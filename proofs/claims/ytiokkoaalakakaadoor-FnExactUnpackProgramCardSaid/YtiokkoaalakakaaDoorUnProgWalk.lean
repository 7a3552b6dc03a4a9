/-
  FnExactUnpackProgram: both read the same program from the bytes, or answer the same code; the answer owns its memory, behind another call too: the law's walk.
-/
import Derived.Test.YtiokkoaalakakaaDoorUnProgS
import Derived.Test.YtiokkoaalakakaaDoorMarkH
import Derived.Test.YtiokkoaalakakaaDoorErrLaid
namespace Go.Proofs.YtiokkoaalakakaaDoor
open Go.RowKit

theorem isProg_exists (s : ByteArray) : ∃ rows c, IsProg s rows c := by
  by_cases h : ∃ zs rows, Listed s zs ∧ parse 3 (ofNats zs) = some rows ∧ progOk rows = true
  · obtain ⟨zs, rows, h1, h2, h3⟩ := h
    exact ⟨rows, 0, .inl ⟨rfl, zs, h1, h2, h3⟩⟩
  · refine ⟨[], 3, .inr ⟨rfl, rfl, fun zs rows h1 h2 => ?_⟩⟩
    cases hp : progOk rows with
    | false => rfl
    | true => exact absurd ⟨zs, rows, h1, h2, hp⟩ h
theorem cntP_le : ∀ (rows : List (List I3)) (n j : Nat), (∀ r ∈ rows, r.length ≤ n) → cntP rows j ≤ rows.length * (n * 3)
  | _, _, 0, _ => by simp [cntP]
  | [], _, _ + 1, _ => by simp [cntP]
  | r :: rows, n, j + 1, h => by
    have ih := cntP_le rows n j (fun x hx => h x (by simp [hx]))
    have := h r (by simp)
    simp only [cntP, List.length_cons, Nat.add_mul, Nat.one_mul]
    omega
/-- A program that UnpackProgram answers is not large. -/
def smallProg (rows : List (List I3)) : Prop := (∀ j, cntP rows j ≤ 1000) ∧ (∀ j, (rows.getD j []).length ≤ 6) ∧ rows.length ≤ 3
theorem smallProg_nil : smallProg [] := ⟨fun j => by cases j <;> simp [cntP], fun j => by simp, by simp⟩
theorem smallProg_ok {rows : List (List I3)} (h : progOk rows = true) : smallProg rows := by
  obtain ⟨h3, hr⟩ := progOk_parts h
  refine ⟨fun j => ?_, fun j => ?_, by omega⟩
  · have := cntP_le rows 6 j (fun r hm => (hr r hm).1)
    rw [h3] at this
    omega
  · by_cases hj : j < rows.length
    · exact (hr _ (by simp [List.getD, hj])).1
    · simp [List.getD, List.getElem?_eq_none (Nat.le_of_not_lt hj)]
theorem IsProg.small {s : ByteArray} {rows : List (List I3)} {c : Int} (h : IsProg s rows c) : smallProg rows := by
  rcases h with ⟨_, _, _, _, h⟩ | ⟨_, rfl, _⟩
  · exact smallProg_ok h
  · exact smallProg_nil

/-- What a call that answers a program in memory of its own leaves. -/
def Gives (rows : List (List I3)) (c : Int) (base : Nat) (e : Ending) (w' : World) : Prop := ∃ a cap, e = .returned (.tuple #[.agg #[.slice a rows.length cap], .int .i64 c]) ∧ OwnProg w' base (.slice a rows.length cap) rows

theorem UnProg.gives {s : ByteArray} {base : Nat} {e : Ending} {w' : World} {rows : List (List I3)} {c : Int} (h : UnProg s base e w') (hp : IsProg s rows c) : Gives rows c base e w' ∧ allFit rows := by
  obtain ⟨v, r, d, h1, h2, h3, h4⟩ := h
  obtain ⟨rfl, rfl⟩ := h1.same hp
  obtain ⟨a, cap, rfl⟩ := h4.slice
  exact ⟨⟨a, cap, h2, h4⟩, h3⟩

theorem unProg_pair (s : ByteArray) (hs : s.size ≤ 1048576) : ∃ (rows : List (List I3)) (c : Int), smallProg rows ∧
    (∀ w, Calls Tryd.prog 28 #[.string s] w fun e w' => (Gives rows c w.heap.size e w' ∧ allFit rows) ∧ Below w.heap.size w w') ∧
    (∀ w, ErrType w → Calls Tryd.prog 29 #[.string s] w fun e w' => (Gives rows c w.heap.size e w' ∧ allFit rows) ∧ Below w.heap.size w w') := by
  by_cases hl : 65536 < s.size
  · refine ⟨[], 2, smallProg_nil, fun w => (specUnProg_long s w hs hl).mono ?_, fun w _ => (implUnProg_long s w hs hl).mono ?_⟩
    · rintro e w' ⟨rfl, hb⟩
      exact ⟨⟨⟨none, 0, rfl, OwnProg.nil _ _⟩, allFit_nil⟩, hb⟩
    · rintro e w' ⟨rfl, hb⟩
      exact ⟨⟨⟨none, 0, rfl, OwnProg.nil _ _⟩, allFit_nil⟩, hb⟩
  · obtain ⟨rows, c, hp⟩ := isProg_exists s
    refine ⟨rows, c, hp.small, fun w => (specUnProg_any s w (by omega)).mono ?_, fun w hE => (implUnProg_any s w (by omega) hE).mono ?_⟩
    · rintro e w' ⟨hu, hb⟩
      exact ⟨hu.gives hp, hb⟩
    · rintro e w' ⟨hu, hb⟩
      exact ⟨hu.gives hp, hb⟩

set_option maxHeartbeats 4000000 in
set_option maxRecDepth 100000 in
theorem fnExactUnpackProgram_walk (a0 : ByteArray) (w0 : a0.size ≤ maxLen) (w : World) (hE : ErrType w) :
    Calls Tryd.prog 7 #[.string a0] w fun e w' => e = .returned (.bool true) ∧ Below w.heap.size w w' := by
  unfold maxLen at w0
  by_cases hb : 1048576 < a0.size
  · go_enter Tryd.func7, Tryd.ntmps7
    go_wp2
    go_ret
    exact ⟨rfl, Below.refl _ _⟩
  have hb' : a0.size ≤ 1048576 := by omega
  clear hb w0
  obtain ⟨rows, c, ⟨hcj, hr6, hl3⟩, kS, kI⟩ := unProg_pair a0 hb'
  have hne : (c != c) = false := by simp
  have hcj' : ∀ j, j ≤ rows.length → cntP rows j ≤ 10000000 := fun j _ => Nat.le_trans (hcj j) (by omega)
  have hrj : ∀ j, j < rows.length → (rows.getD j []).length ≤ 1048576 := fun j _ => Nat.le_trans (hr6 j) (by omega)
  have hcl := hcj rows.length
  have KM := fun B v W hB h => markProgram_own B v 1 rows W (by omega) (by omega) (Nat.le_trans hcl (by omega)) hcj' hrj hB h
  have KH := fun B v W h => heldProgram_own B v 1 rows W (by omega) (by omega) hcj' hrj h
  clear hcj hr6 hcj' hrj
  obtain ⟨marked, hmk⟩ : ∃ M, M = mkP 1 rows rows.length := ⟨_, rfl⟩
  rw [← hmk] at KM KH
  clear hmk
  generalize cntP rows rows.length = cn at KM KH hcl
  have hq : ¬ ((1 : Int) + (cn : Int) < 0) := by omega
  have hq' : (((1 : Int) + (cn : Int)) != ((1 : Int) + (cn : Int))) = false := by simp
  go_enter Tryd.func7, Tryd.ntmps7
  go_wp2_with fail
  refine (kS _).mono ?_
  rintro e w1 ⟨⟨⟨aS, capS, rfl, hS1⟩, hfit⟩, hb1⟩
  have hCS := hS1.codes hfit
  have hE1 := hE.below (hb1.alloc hb1.size (.cells #[.slice aS rows.length capS] 42))
  clear kS hS1
  obtain ⟨n, hn⟩ : ∃ n, n = rows.length := ⟨_, rfl⟩
  have HN : Hid (n = rows.length) := hn
  rw [← hn] at hCS hE1 hl3
  rw [← hn]
  clear hn
  have hSb := box_new w1 (.slice aS n capS) 42 w1.heap.size (Nat.le_refl _)
  have b1 : Below w1.heap.size w1 (w1.alloc (.cells #[.slice aS n capS] 42)) := by go_grown
  have hs1 : w1.heap.size < (w1.alloc (.cells #[.slice aS n capS] 42)).heap.size := by simp
  go_wp2_with fail
  refine (kI _ hE1).mono ?_
  rintro e w2 ⟨⟨⟨aG, capG, rfl, hG2⟩, _⟩, hb2⟩
  rw [← HN.out] at hG2
  rw [← HN.out]
  generalize w1.alloc (.cells #[.slice aS n capS] 42) = wa at hb2 hSb b1 hG2 hs1
  replace b1 := b1.trans (hb2.mono (by omega))
  replace hSb := owns_below hSb hb2
  have hb2s := hb2.size
  clear hE1 hb2
  generalize wa.heap.size = B at hG2 hs1 hb2s
  have hGb := box_new w2 (.slice aG n capG) 42 B hb2s
  replace hSb := hSb.alloc (.cells #[.slice aG n capG] 42)
  replace hG2 := hG2.below (w' := w2.alloc (.cells #[.slice aG n capG] 42)) (by go_grown)
  replace b1 := b1.alloc (by have := b1.size; omega) (.cells #[.slice aG n capG] 42)
  have hs2 : B ≤ (w2.alloc (.cells #[.slice aG n capG] 42)).heap.size := by simp; omega
  have cS : (w2.alloc (.cells #[.slice aG n capG] 42)).cell? ⟨w1.heap.size, 0, none⟩ = some (.slice aS n capS) := by simpa using hSb.cellAt 0 (by omega)
  have cG : (w2.alloc (.cells #[.slice aG n capG] 42)).cell? ⟨w2.heap.size, 0, none⟩ = some (.slice aG n capG) := by simp [go_sem]
  go_wp2_with fail
  generalize w2.alloc (.cells #[.slice aG n capG] 42) = w3 at hGb hSb hG2 b1 hs2 cS cG
  generalize w2.heap.size = G at hGb cG
  refine (eqProgram_same _ _ _ _ _ rows _ (hG2.codes hfit) (hCS.below b1)).mono ?_
  rintro e w4 ⟨rfl, hb4⟩
  replace hGb := owns_below hGb hb4
  replace hSb := owns_below hSb hb4
  replace hG2 := hG2.below hb4
  replace b1 := b1.trans (hb4.mono b1.size)
  replace hs2 := Nat.le_trans hs2 hb4.size
  clear hb4 cS cG
  have cG : w4.cell? ⟨G, 0, none⟩ = some (.slice aG n capG) := by simpa using hGb.cellAt 0 (by omega)
  have cS : w4.cell? ⟨w1.heap.size, 0, none⟩ = some (.slice aS n capS) := by simpa using hSb.cellAt 0 (by omega)
  go_wp2_with fail
  refine (KM B _ _ hs2 hG2).mono ?_
  rintro e w5 ⟨rfl, hM5, hK5, hb5⟩
  replace hGb := hK5.owns hGb (by decide)
  replace hSb := hK5.owns hSb (by decide)
  replace b1 := b1.trans (hb5.mono (by omega))
  clear hb5 hK5 cS cG hG2 hs2 KM
  have cG : w5.cell? ⟨G, 0, none⟩ = some (.slice aG n capG) := by simpa using hGb.cellAt 0 (by omega)
  go_wp2_with fail
  refine (KH B _ _ hM5).mono ?_
  rintro e w6 ⟨rfl, hb6⟩
  replace hGb := owns_below hGb hb6
  replace hSb := owns_below hSb hb6
  replace hM5 := hM5.below hb6
  replace b1 := b1.trans (hb6.mono b1.size)
  clear hb6 cG
  have hE6 := hE.below (hb1.trans (b1.mono hb1.size))
  go_wp2_with fail
  refine (kI _ hE6).mono ?_
  rintro e w7 ⟨⟨⟨aH, capH, rfl, hH7⟩, _⟩, hb7⟩
  rw [← HN.out] at hH7
  rw [← HN.out]
  replace hGb := (owns_below hGb hb7).alloc (.cells #[.slice aH n capH] 42)
  replace hSb := (owns_below hSb hb7).alloc (.cells #[.slice aH n capH] 42)
  replace hM5 := (hM5.below hb7).below (w' := w7.alloc (.cells #[.slice aH n capH] 42)) (by go_grown)
  have hH8 := hH7.below (w' := w7.alloc (.cells #[.slice aH n capH] 42)) (by go_grown)
  replace b1 := (b1.trans (hb7.mono b1.size)).alloc (by have := b1.size; have := hb7.size; omega) (.cells #[.slice aH n capH] 42)
  clear hb7 hE6 hE kI hH7
  have cS : (w7.alloc (.cells #[.slice aH n capH] 42)).cell? ⟨w1.heap.size, 0, none⟩ = some (.slice aS n capS) := by simpa using hSb.cellAt 0 (by omega)
  have cH : (w7.alloc (.cells #[.slice aH n capH] 42)).cell? ⟨w7.heap.size, 0, none⟩ = some (.slice aH n capH) := by simp [go_sem]
  go_wp2_with fail
  generalize w7.alloc (.cells #[.slice aH n capH] 42) = w8 at hGb hSb hM5 hH8 b1 cS cH
  refine (eqProgram_same _ _ _ _ _ rows _ (hH8.codes hfit) (hCS.below b1)).mono ?_
  rintro e w9 ⟨rfl, hb9⟩
  replace hGb := owns_below hGb hb9
  replace hM5 := hM5.below hb9
  replace b1 := b1.trans (hb9.mono b1.size)
  clear hb9 cS cH hSb hH8 hCS
  have cG : w9.cell? ⟨G, 0, none⟩ = some (.slice aG n capG) := by simpa using hGb.cellAt 0 (by omega)
  go_wp2_with fail
  refine (KH B _ _ hM5).mono ?_
  rintro e w10 ⟨rfl, hb10⟩
  replace b1 := b1.trans (hb10.mono b1.size)
  have b10 := hb1.trans (b1.mono hb1.size)
  clear hb10 b1 hM5 KH hGb cG hb1
  go_wp2
  go_ret
  exact ⟨rfl, b10⟩

theorem fnExactUnpackProgram_laid {W : World} (h : laidMetH Tryd.prog Rows.fnExactUnpackProgramRow.laid W) : ErrType W := errType_of_laid rfl h
theorem fnExactUnpackProgram_door_met (os : Os) (args : Array Value) : laidMetH Tryd.prog Rows.fnExactUnpackProgramRow.laid ((World.doorLaid Tryd.prog 400 os).forCall (fun _ _ => 0) ⟨#[], args, []⟩).memory :=
  laidMetH_of_parts3 (fuel := 8) (laidMet_of_run' 8 (by kernel_rfl) (by kernel_rfl)) (by kernel_rfl) (by kernel_rfl)
end Go.Proofs.YtiokkoaalakakaaDoor
