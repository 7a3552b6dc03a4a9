/-
  FnExactReadProgram: both read the same program from the lines, or answer the same code, the program's table being as its text lays it; the lines are left as they were; the answer owns its memory, behind another call too: the law's walk.
-/
import Derived.Test.YtiokkoaalakakaaDoorRpI
import Derived.Test.YtiokkoaalakakaaDoorRpS
import Derived.Test.YtiokkoaalakakaaDoorStrOpen
import Derived.Test.YtiokkoaalakakaaDoorMarkS2
import Derived.Test.YtiokkoaalakakaaDoorMarkH
import Derived.Test.YtiokkoaalakakaaDoorOpLaid
namespace Go.Proofs.YtiokkoaalakakaaDoor
open Go.RowKit

theorem cntR_le : ∀ (rows : List (List I3)) (n j : Nat), (∀ r ∈ rows, r.length ≤ n) → cntP rows j ≤ rows.length * (n * 3)
  | _, _, 0, _ => by simp [cntP]
  | [], _, _ + 1, _ => by simp [cntP]
  | r :: rows, n, j + 1, h => by
    have ih := cntR_le rows n j (fun x hx => h x (by simp [hx]))
    have := h r (by simp)
    simp only [cntP, List.length_cons, Nat.add_mul, Nat.one_mul]
    omega
def smallR (rows : List (List I3)) : Prop := (∀ j, cntP rows j ≤ 1000) ∧ (∀ j, (rows.getD j []).length ≤ 6) ∧ rows.length ≤ 3
theorem smallR_nil : smallR [] := ⟨fun j => by cases j <;> simp [cntP], fun j => by simp, by simp⟩
theorem smallR_ok {rows : List (List I3)} (h : progOk rows = true) : smallR rows := by
  obtain ⟨h3, hr⟩ := progOk_parts h
  refine ⟨fun j => ?_, fun j => ?_, by omega⟩
  · have := cntR_le rows 6 j (fun r hm => (hr r hm).1)
    rw [h3] at this
    omega
  · by_cases hj : j < rows.length
    · exact (hr _ (by simp [List.getD, hj])).1
    · simp [List.getD, List.getElem?_eq_none (Nat.le_of_not_lt hj)]

def GivesR (rows : List (List I3)) (c : Int) (base : Nat) (e : Ending) (w' : World) : Prop := ∃ a cap, e = .returned (.tuple #[.agg #[.slice a rows.length cap], .int .i64 c]) ∧ OwnProg w' base (.slice a rows.length cap) rows
theorem RPOut.gives {ts : List ByteArray} {base : Nat} {e : Ending} {w' : World} {rows : List (List I3)} {c : Int} (h : RPOut ts base e w') (hp : IsRP ts rows c) : GivesR rows c base e w' ∧ allFit rows := by
  obtain ⟨v, r, d, h1, h2, h3, h4⟩ := h
  obtain ⟨rfl, rfl⟩ := h1.same hp
  obtain ⟨a, cap, rfl⟩ := h4.slice
  exact ⟨⟨a, cap, h2, h4⟩, h3⟩
theorem rp_pair (ts : List ByteArray) (n : Nat) (hl : ts.length = n) (hn : n ≤ 1048576) (hsz : ∀ t ∈ ts, t.size ≤ 1048576) : ∃ (rows : List (List I3)) (c : Int), smallR rows ∧
    (∀ (a : Option Addr) (cap : Nat) (w : World), Strs w a n cap ts → Calls Tryd.prog 24 #[.slice a n cap] w fun e w' => (GivesR rows c w.heap.size e w' ∧ allFit rows) ∧ Below w.heap.size w w') ∧
    (∀ (a : Option Addr) (cap : Nat) (w : World), Strs w a n cap ts → OpTable w → Calls Tryd.prog 26 #[.slice a n cap] w fun e w' => (GivesR rows c w.heap.size e w' ∧ allFit rows) ∧ Below w.heap.size w w') := by
  by_cases hlo : 4096 < n
  · refine ⟨[], 2, smallR_nil, fun a cap w _ => (specRP_long a n cap w hlo hn).mono ?_, fun a cap w _ _ => (implRP_long a n cap w hlo hn).mono ?_⟩
    · rintro e w' ⟨rfl, hb⟩
      exact ⟨⟨⟨none, 0, rfl, OwnProg.nil _ _⟩, (fun r hr => by cases hr)⟩, hb⟩
    · rintro e w' ⟨rfl, hb⟩
      exact ⟨⟨⟨none, 0, rfl, OwnProg.nil _ _⟩, (fun r hr => by cases hr)⟩, hb⟩
  · obtain ⟨rows, c, hp⟩ := isRP_exists ts
    refine ⟨rows, c, ?_, fun a cap w h => (specRP_any a n cap ts w h (by omega) hsz).mono ?_, fun a cap w h hT => (implRP_any a n cap ts w h (by omega) hsz hT).mono ?_⟩
    · rcases hp.ok with rfl | h
      · exact smallR_nil
      · exact smallR_ok h
    · rintro e w' ⟨hu, hb⟩
      exact ⟨hu.gives hp, hb⟩
    · rintro e w' ⟨hu, hb⟩
      exact ⟨hu.gives hp, hb⟩

theorem OwnT.drewN' {base : Nat} {w : World} {a : Option Addr} {n cap : Nat} {ts : List ByteArray} (h : OwnT base w a n cap ts) (d : Nat) : OwnT base (w.drewN d) a n cap ts := h

set_option maxHeartbeats 8000000 in
set_option maxRecDepth 100000 in
theorem fnExactReadProgram_walk (a : Option Addr) (len cap : Nat) (ts : List ByteArray) (w : World) (h : StrsIn w a len cap ts) (hT : OpTable w) :
    Calls Tryd.prog 6 #[.slice a len cap] w fun e w' => e = .returned (.bool true) ∧ Below w.heap.size w w' := by
  have hS0 := h.1
  go_enter Tryd.func6, Tryd.ntmps6
  go_wp2_with fail
  refine (szStringS_any a len cap ts _ h).mono ?_
  rintro e wz ⟨⟨r, rfl, hr⟩, rfl⟩
  clear h
  rcases hr with rfl | ⟨hr0, hlen, hsz⟩
  · go_wp2
    go_ret
    exact ⟨rfl, Below.refl _ _⟩
  have hrn : decide (r < 0) = false := by simp; omega
  obtain ⟨rows, c, ⟨hcj, hr6, hl3⟩, kS, kI⟩ := rp_pair ts len hS0.1 hlen hsz
  have hne : (c != c) = false := by simp
  have hcj' : ∀ j, j ≤ rows.length → cntP rows j ≤ 10000000 := fun j _ => Nat.le_trans (hcj j) (by omega)
  have hrj : ∀ j, j < rows.length → (rows.getD j []).length ≤ 1048576 := fun j _ => Nat.le_trans (hr6 j) (by omega)
  have hcl := hcj rows.length
  have KM := fun B v W hB h => markProgram_own B v 1 rows W (by omega) (by omega) (Nat.le_trans hcl (by omega)) hcj' hrj hB h
  have KH := fun B v W h => heldProgram_own B v 1 rows W (by omega) (by omega) hcj' hrj h
  clear hcj hr6 hcj' hrj hsz
  obtain ⟨marked, hmk⟩ : ∃ M, M = mkP 1 rows rows.length := ⟨_, rfl⟩
  rw [← hmk] at KM KH
  clear hmk
  generalize cntP rows rows.length = cn at KM KH hcl
  have hq : ¬ ((1 : Int) + (cn : Int) < 0) := by omega
  have hq' : (((1 : Int) + (cn : Int)) != ((1 : Int) + (cn : Int))) = false := by simp
  go_wp2_with fail
  refine (toStringS_copy a len cap ts _ hS0 hlen).mono ?_
  rintro e w1 ⟨rfl, ho1, hb1⟩
  obtain ⟨a1, cap1, e1, hO1⟩ := OwnT.of_owns ho1
  cases e1
  go_wp2_with fail
  refine (kS _ _ _ hO1.strs).mono ?_
  rintro e w2 ⟨⟨⟨aS, capS, rfl, hS2⟩, hfit⟩, hb2⟩
  have hCS := hS2.codes hfit
  have bw2 := bel_trans hb1 hb2
  clear kS hS2 hO1 ho1 hb1 hb2
  obtain ⟨n, hn⟩ : ∃ n, n = rows.length := ⟨_, rfl⟩
  have HN : Hid (n = rows.length) := hn
  rw [← hn] at hCS hl3
  rw [← hn]
  clear hn
  have hSb := box_n w2 (.slice aS n capS) 42 w2.heap.size (Nat.le_refl _)
  have b2 : Below w2.heap.size w2 (w2.alloc (.cells #[.slice aS n capS] 42)) := by go_grown
  have hs2 : w2.heap.size < (w2.alloc (.cells #[.slice aS n capS] 42)).heap.size := by simp
  go_wp2_with fail
  refine (toStringS_copy a len cap ts _ ((hS0.below bw2).below b2) hlen).mono ?_
  rintro e w3 ⟨rfl, ho3, hb3⟩
  obtain ⟨a3, cap3, e3, hX3⟩ := OwnT.of_owns ho3
  cases e3
  generalize w2.alloc (.cells #[.slice aS n capS] 42) = wa at hb3 hSb b2 hX3 hs2 ho3
  replace b2 := b2.trans (hb3.mono (by omega))
  replace hSb := owns_below hSb hb3
  have hwa3 := hb3.size
  have hXlt := (ho3.lt wa.heap.size rfl).2
  clear hb3 ho3
  generalize wa.heap.size = XB at hX3 hs2 hwa3 hXlt
  have hT3 : OpTable w3 := hT.below (bw2.trans (b2.mono bw2.size))
  go_wp2_with fail
  refine (kI _ _ _ hX3.strs hT3).mono ?_
  rintro e w4 ⟨⟨⟨aG, capG, rfl, hG4⟩, _⟩, hb4⟩
  rw [← HN.out] at hG4
  rw [← HN.out]
  replace b2 := b2.trans (hb4.mono b2.size)
  replace hSb := owns_below hSb hb4
  replace hX3 := hX3.kept hb4
  have hb4s := hb4.size
  clear hb4 hT3
  have hBX : XB < w3.heap.size := hXlt
  generalize w3.heap.size = B at hG4 hb4s hBX hwa3
  clear hXlt
  have hGb := box_n w4 (.slice aG n capG) 42 B hb4s
  replace hSb := hSb.alloc (.cells #[.slice aG n capG] 42)
  replace hG4 := hG4.below (w' := w4.alloc (.cells #[.slice aG n capG] 42)) (by go_grown)
  replace hX3 := hX3.kept (w' := w4.alloc (.cells #[.slice aG n capG] 42)) (by go_grown)
  replace b2 := b2.alloc (by have := b2.size; omega) (.cells #[.slice aG n capG] 42)
  have hs4 : B ≤ (w4.alloc (.cells #[.slice aG n capG] 42)).heap.size := by simp; omega
  have cS : (w4.alloc (.cells #[.slice aG n capG] 42)).cell? ⟨w2.heap.size, 0, none⟩ = some (.slice aS n capS) := by simpa using hSb.cellAt 0 (by omega)
  have cG : (w4.alloc (.cells #[.slice aG n capG] 42)).cell? ⟨w4.heap.size, 0, none⟩ = some (.slice aG n capG) := by simp [go_sem]
  go_wp2_with fail
  generalize w4.alloc (.cells #[.slice aG n capG] 42) = w5 at hGb hSb hG4 b2 hs4 cS cG hX3
  generalize w4.heap.size = G at hGb cG
  refine (eqProgram_same _ _ _ _ _ rows _ (hG4.codes hfit) (hCS.below b2)).mono ?_
  rintro e w6 ⟨rfl, hb6⟩
  replace hGb := owns_below hGb hb6
  replace hSb := owns_below hSb hb6
  replace hG4 := hG4.below hb6
  replace hX3 := hX3.kept hb6
  replace b2 := b2.trans (hb6.mono b2.size)
  replace hs4 := Nat.le_trans hs4 hb6.size
  clear hb6 cS cG
  go_wp2_with fail
  have bw6 : Below w.heap.size w w6 := bw2.trans (b2.mono bw2.size)
  refine (toStringS_copy a len cap ts _ (hS0.below bw6) hlen).mono ?_
  rintro e w7 ⟨rfl, ho7, hb7⟩
  obtain ⟨a7, cap7, e7, hY7⟩ := OwnT.of_owns ho7
  cases e7
  replace hGb := owns_below hGb hb7
  replace hSb := owns_below hSb hb7
  replace hG4 := hG4.below hb7
  replace hX3 := hX3.kept hb7
  replace b2 := b2.trans (hb7.mono b2.size)
  replace hs4 := Nat.le_trans hs4 hb7.size
  clear hb7 ho7 bw6
  go_wp2_with fail
  refine (eqStringS_same _ _ _ _ _ ts _ hX3.strs hY7.strs).mono ?_
  rintro e w8 ⟨rfl, d, rfl⟩
  have hX8 := hX3.drewN' d
  have hG8 : OwnProg (w7.drewN d) B (.slice aG n capG) rows := hG4
  have hGb8 : (w7.drewN d).ownsRow B 42 1 (.slice (some ⟨G, 0, none⟩) 1 1) 1 [.slice aG n capG] := hGb
  have hSb8 : (w7.drewN d).ownsRow w2.heap.size 42 1 (.slice (some ⟨w2.heap.size, 0, none⟩) 1 1) 1 [.slice aS n capS] := hSb
  have b8 : Below w2.heap.size w2 (w7.drewN d) := ⟨b2.os, b2.tape, b2.output, b2.size, b2.block⟩
  have hs8 : B ≤ (w7.drewN d).heap.size := hs4
  clear hX3 hY7 hG4 hGb hSb b2 hs4
  generalize w7.drewN d = w8 at hX8 hG8 hGb8 hSb8 b8 hs8
  go_wp2_with fail
  refine (markStringS_any2 XB _ _ _ 1 ts _ (by omega) (by omega) hlen hX8).mono ?_
  rintro e w9 ⟨rfl, hK9, hb9⟩
  have hG9 := hG8.but hK9 (by decide) (by decide)
  have hGb9 := hK9.owns hGb8 (by decide)
  have hSb9 := hK9.owns hSb8 (by decide)
  have b9 := b8.trans (hb9.mono (by omega))
  have hs9 := Nat.le_trans hs8 hb9.size
  clear hX8 hG8 hGb8 hSb8 b8 hs8 hK9 hb9
  have hkl : ¬ ((1 : Int) + (len : Int) < 0) := by omega
  have hkl' : decide ((1 : Int) + (len : Int) < 0) = false := by simp; omega
  have cG : w9.cell? ⟨G, 0, none⟩ = some (.slice aG n capG) := by simpa using hGb9.cellAt 0 (by omega)
  have cS : w9.cell? ⟨w2.heap.size, 0, none⟩ = some (.slice aS n capS) := by simpa using hSb9.cellAt 0 (by omega)
  go_wp2_with fail
  refine (eqProgram_same _ _ _ _ _ rows _ (hG9.codes hfit) (hCS.below b9)).mono ?_
  rintro e w10 ⟨rfl, hb10⟩
  replace hGb9 := owns_below hGb9 hb10
  replace hSb9 := owns_below hSb9 hb10
  replace hG9 := hG9.below hb10
  replace b9 := b9.trans (hb10.mono b9.size)
  replace hs9 := Nat.le_trans hs9 hb10.size
  clear hb10 cG cS
  have cG : w10.cell? ⟨G, 0, none⟩ = some (.slice aG n capG) := by simpa using hGb9.cellAt 0 (by omega)
  go_wp2_with fail
  refine (KM B _ _ hs9 hG9).mono ?_
  rintro e w11 ⟨rfl, hM, hK11, hb11⟩
  replace hGb9 := hK11.owns hGb9 (by decide)
  replace hSb9 := hK11.owns hSb9 (by decide)
  replace b9 := b9.trans (hb11.mono (by omega))
  clear hb11 hK11 cG hG9 hs9 KM
  have cG : w11.cell? ⟨G, 0, none⟩ = some (.slice aG n capG) := by simpa using hGb9.cellAt 0 (by omega)
  go_wp2_with fail
  refine (KH B _ _ hM).mono ?_
  rintro e w12 ⟨rfl, hb12⟩
  replace hGb9 := owns_below hGb9 hb12
  replace hSb9 := owns_below hSb9 hb12
  replace hM := hM.below hb12
  replace b9 := b9.trans (hb12.mono b9.size)
  clear hb12 cG
  have bw12 : Below w.heap.size w w12 := bw2.trans (b9.mono bw2.size)
  go_wp2_with fail
  refine (toStringS_copy a len cap ts _ (hS0.below bw12) hlen).mono ?_
  rintro e w13 ⟨rfl, ho13, hb13⟩
  obtain ⟨a13, cap13, e13, hY13⟩ := OwnT.of_owns ho13
  cases e13
  replace hGb9 := owns_below hGb9 hb13
  replace hSb9 := owns_below hSb9 hb13
  replace hM := hM.below hb13
  replace b9 := b9.trans (hb13.mono b9.size)
  have hT13 : OpTable w13 := hT.below (bel_trans bw12 hb13)
  clear hb13 ho13 bw12
  go_wp2_with fail
  refine (kI _ _ _ hY13.strs hT13).mono ?_
  rintro e w14 ⟨⟨⟨aH, capH, rfl, hH14⟩, _⟩, hb14⟩
  rw [← HN.out] at hH14
  rw [← HN.out]
  replace hGb9 := (owns_below hGb9 hb14).alloc (.cells #[.slice aH n capH] 42)
  replace hSb9 := (owns_below hSb9 hb14).alloc (.cells #[.slice aH n capH] 42)
  replace hM := (hM.below hb14).below (w' := w14.alloc (.cells #[.slice aH n capH] 42)) (by go_grown)
  have hH15 := hH14.below (w' := w14.alloc (.cells #[.slice aH n capH] 42)) (by go_grown)
  replace b9 := (b9.trans (hb14.mono b9.size)).alloc (by have := b9.size; have := hb14.size; omega) (.cells #[.slice aH n capH] 42)
  clear hb14 hT13 hT kI hH14 hY13
  have cS : (w14.alloc (.cells #[.slice aH n capH] 42)).cell? ⟨w2.heap.size, 0, none⟩ = some (.slice aS n capS) := by simpa using hSb9.cellAt 0 (by omega)
  have cH : (w14.alloc (.cells #[.slice aH n capH] 42)).cell? ⟨w14.heap.size, 0, none⟩ = some (.slice aH n capH) := by simp [go_sem]
  go_wp2_with fail
  generalize w14.alloc (.cells #[.slice aH n capH] 42) = w15 at hGb9 hSb9 hM hH15 b9 cS cH
  refine (eqProgram_same _ _ _ _ _ rows _ (hH15.codes hfit) (hCS.below b9)).mono ?_
  rintro e w16 ⟨rfl, hb16⟩
  replace hGb9 := owns_below hGb9 hb16
  replace hM := hM.below hb16
  replace b9 := b9.trans (hb16.mono b9.size)
  clear hb16 cS cH hSb9 hH15 hCS
  have cG : w16.cell? ⟨G, 0, none⟩ = some (.slice aG n capG) := by simpa using hGb9.cellAt 0 (by omega)
  go_wp2_with fail
  refine (KH B _ _ hM).mono ?_
  rintro e w17 ⟨rfl, hb17⟩
  replace b9 := b9.trans (hb17.mono b9.size)
  have b17 := bw2.trans (b9.mono bw2.size)
  clear hb17 b9 hM KH hGb9 cG
  go_wp2
  go_ret
  exact ⟨rfl, b17⟩

theorem fnExactReadProgram_laid {W : World} (h : laidMetH Tryd.prog Rows.fnExactReadProgramRow.laid W) : OpTable W := by
  rw [MakeChecks.laidMetH_plain _ _ _ (by kernel_rfl)] at h
  exact opTable_of_met h
theorem fnExactReadProgram_door_met (os : Os) (args : Array Value) : laidMetH Tryd.prog Rows.fnExactReadProgramRow.laid ((World.doorLaid Tryd.prog 400 os).forCall (fun _ _ => 0) ⟨#[], args, []⟩).memory :=
  laidMetH_of_parts3 (fuel := 8) (laidMet_of_run' 8 (by kernel_rfl) (by kernel_rfl)) (by kernel_rfl) (by kernel_rfl)
end Go.Proofs.YtiokkoaalakakaaDoor
