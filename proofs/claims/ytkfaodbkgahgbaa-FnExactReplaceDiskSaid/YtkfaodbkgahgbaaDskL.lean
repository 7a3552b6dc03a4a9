
/-
  A disk that came in, opened; disks copied, counted and compared (laws' toDisk, szDisk, eqDisk).
-/
import Derived.Test.YtkfaodbkgahgbaaDskI
import Derived.Deep.Slices
import Derived.Deep.Strs
import Derived.Deep.Fields
import Derived.ChangeSame
namespace Go.Proofs.Ytkfaodbkgahgbaa
open Go.RowKit Go.ChangeShapes Go.WideShapes
set_option linter.unusedVariables false
set_option linter.unusedSimpArgs false

/-- A disk whose texts can be. -/
def D2.fits (d : D2) : Prop := d.1.size ≤ maxLen ∧ d.2.size ≤ maxLen

section
variable {H : Type} {enc : TypeId × Value → H} {w : World} {base : Nat} {spare : Nat → Bool} {held : Bool}
set_option maxRecDepth 100000 in
/-- A disk that came in. -/
theorem open_laws_Disk {r : Reach} {b0 : Nat} {v : Value} {d : DataW H} {p : List MemPlace}
    (hv : Value.okWide Try.prog w r b0 33 v) (h : DataW.Trod enc Try.prog w base spare held 33 v d p) : ∃ y : D2, v = y.val ∧ D2.fits y := by
  obtain ⟨cs, rfl, hsz⟩ := okWide_struct Try.underlying33 hv
  have hsz' : cs.size = 2 := hsz.trans (by kernel_rfl)
  obtain ⟨fuel, hf⟩ := h
  obtain ⟨y0, y1, n, _, _, h0, h1⟩ := trod_struct2 Try.underlying33 hf
  have k0 : Try.prog.cellsOf 9 = 1 := by kernel_rfl
  obtain ⟨c0, c1, rfl⟩ : ∃ c0 c1, cs = #[c0, c1] := by
    obtain ⟨l⟩ := cs
    match l, hsz' with
    | [c0, c1], _ => exact ⟨c0, c1, rfl⟩
  simp only [k0] at h0 h1
  obtain ⟨s, e0, _, hs⟩ := DataW.trod_string Try.underlying9 h0
  obtain ⟨q, e1, _, hq⟩ := DataW.trod_string Try.underlying9 h1
  simp [Value.cells] at e0 e1
  refine ⟨(s, q), ?_, hs, hq⟩
  rw [e0, e1]
  rfl
end

set_option maxHeartbeats 1000000 in
set_option maxRecDepth 100000 in
theorem toDisk_same (d : D2) (w : World) : Calls Try.prog 20 #[d.val] w fun e w' => e = .returned d.val ∧ Below w.heap.size w w' := by
  obtain ⟨s, q⟩ := d
  unfold D2.val
  go_enter Try.func20, Try.ntmps20
  go_wp2
  go_returns
  exact ⟨rfl, by go_grown⟩

set_option maxHeartbeats 4000000 in
set_option maxRecDepth 100000 in
theorem eqDisk_same (d : D2) (w : World) : Calls Try.prog 22 #[d.val, d.val] w fun e w' => e = .returned (.bool true) ∧ Below w.heap.size w w' := by
  obtain ⟨s, q⟩ := d
  unfold D2.val
  go_enter Try.func22, Try.ntmps22
  go_wp2
  go_returns
  exact ⟨rfl, by go_grown⟩

/-- What a disk's count tells: it is too great, or its texts are of no great length. -/
def SzD (d : D2) (e : Ending) : Prop := ∃ r : Int, e = .returned (.int .i64 r) ∧ (r = -1 ∨ (0 ≤ r ∧ d.few))
set_option maxHeartbeats 4000000 in
set_option maxRecDepth 100000 in
theorem szDisk_any (d : D2) (w : World) (hd : d.fits) : Calls Try.prog 18 #[d.val, .int .i64 1048576] w fun e w' => SzD d e ∧ Below w.heap.size w w' := by
  obtain ⟨s, q⟩ := d
  unfold D2.fits maxLen at hd
  unfold D2.val SzD D2.few
  simp only at hd ⊢
  generalize hs : s.size = n at *
  generalize hq : q.size = m at *
  have q1 : IntKind.i64.wrap (1048576 - (n : Int)) = 1048576 - (n : Int) := IntWalk.i64_in _ ⟨by omega, by omega⟩
  go_enter Try.func18, Try.ntmps18
  by_cases h1 : 1048576 - (n : Int) < 0
  · go_wp2
    go_ret
    exact ⟨⟨-1, rfl, .inl rfl⟩, by go_grown⟩
  · have q2 : IntKind.i64.wrap (1048576 - (n : Int) - (m : Int)) = 1048576 - (n : Int) - (m : Int) := IntWalk.i64_in _ ⟨by omega, by omega⟩
    by_cases h2 : 1048576 - (n : Int) - (m : Int) < 0
    · go_wp2
      go_ret
      exact ⟨⟨-1, rfl, .inl rfl⟩, by go_grown⟩
    · go_wp2
      go_ret
      exact ⟨⟨_, rfl, .inr ⟨by omega, by omega⟩⟩, by go_grown⟩
end Go.Proofs.Ytkfaodbkgahgbaa
