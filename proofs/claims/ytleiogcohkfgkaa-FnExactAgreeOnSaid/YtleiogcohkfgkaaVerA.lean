
/-
  Both sides' InstrAt.
-/
import Derived.Test.YtleiogcohkfgkaaVerS
namespace Go.Proofs.Ytleiogcohkfgkaa
open Go.RowKit
set_option linter.unusedVariables false
set_option linter.unusedSimpArgs false

/-- What InstrAt answers: an instruction, whether one is there, a code. -/
def iatO9 (rows : List (List I3)) (n : Int) : Option I3 := if progOk rows = true ∧ itOk n = true then atM9 rows (n / 8).toNat (n % 8).toNat else none
def iatC9 (rows : List (List I3)) (n : Int) : Int := if progOk rows = true then (if itOk n = true then 0 else 4) else 1
def iatV9 (rows : List (List I3)) (n : Int) : Value := .tuple #[(insO9 (iatO9 rows n)).val, .bool (iatO9 rows n).isSome, .int .i64 (iatC9 rows n)]
theorem iatV9_bad {rows : List (List I3)} {n : Int} (h : progOk rows = false) : iatV9 rows n = .tuple #[.agg #[.int .i64 0, .int .i64 0, .int .i64 0], .bool false, .int .i64 1] := by
  simp [iatV9, iatO9, iatC9, h, insO9, I3.val]
theorem iatV9_far {rows : List (List I3)} {n : Int} (h : progOk rows = true) (h2 : itOk n = false) : iatV9 rows n = .tuple #[.agg #[.int .i64 0, .int .i64 0, .int .i64 0], .bool false, .int .i64 4] := by
  simp [iatV9, iatO9, iatC9, h, h2, insO9, I3.val]
theorem iatV9_ok {rows : List (List I3)} {n : Int} {k pc : Nat} (h : progOk rows = true) (h2 : itOk n = true) (hk : k = (n / 8).toNat) (hp : pc = (n % 8).toNat) : iatV9 rows n = .tuple #[(insO9 (atM9 rows k pc)).val, .bool (atM9 rows k pc).isSome, .int .i64 0] := by
  subst hk hp
  simp [iatV9, iatO9, iatC9, h, h2]
theorem prog_len9 {rows : List (List I3)} (h : progOk rows = true) : rows.length = 3 := by
  unfold progOk at h
  simp at h
  exact h.1
theorem item_parts9 {n : Int} (h : itOk n = true) : ∃ k pc : Nat, k < 3 ∧ pc < 7 ∧ n = 8 * (k : Int) + (pc : Int) ∧ k = (n / 8).toNat ∧ pc = (n % 8).toNat ∧ n / 8 = (k : Int) ∧ n % 8 = (pc : Int) := by
  simp only [itOk, decide_eq_true_eq] at h
  exact ⟨(n / 8).toNat, (n % 8).toNat, by omega, by omega, by omega, rfl, rfl, by omega, by omega⟩

set_option maxHeartbeats 2000000 in
set_option maxRecDepth 100000 in
theorem specInstrAt_is (a : Option Addr) (len cap : Nat) (rows : List (List I3)) (n : Int) (w : World) (h : Codes w a len cap rows) (hn : -9223372036854775808 ≤ n ∧ n ≤ 9223372036854775807) :
    Calls Try.prog 15 #[.agg #[.slice a len cap], .int .i64 n] w fun e w' => e = .returned (iatV9 rows n) ∧ Below w.heap.size w w' := by
  have kP := fun W (hb : Below w.heap.size w W) => specProgramOK_is a len cap rows W (h.below hb)
  have kO := l08OK_is n hn
  have bw : Below w.heap.size w ((w.alloc (.cells #[.slice a len cap] 31)).alloc (.cells #[.int .i64 0, .int .i64 0, .int .i64 0] 39)) := by go_grown
  have g0 : ((w.alloc (.cells #[.slice a len cap] 31)).alloc (.cells #[.int .i64 0, .int .i64 0, .int .i64 0] 39)).cell? ⟨w.heap.size, 0, none⟩ = some (.slice a len cap) := by first | (simp [go_sem]; done) | (simp [World.cell?]; done)
  have pX : Blk ((w.alloc (.cells #[.slice a len cap] 31)).alloc (.cells #[.int .i64 0, .int .i64 0, .int .i64 0] 39)) (w.heap.size + 1) 39 [.int .i64 0, .int .i64 0, .int .i64 0] := by
    have := Blk.new (w.alloc (.cells #[.slice a len cap] 31)) 39 [.int .i64 0, .int .i64 0, .int .i64 0]
    simpa using this
  cases hP : progOk rows
  · rw [iatV9_bad hP]
    rw [hP] at kP
    clear hP kO
    go_enter Try.func15, Try.ntmps15
    go_wp2_with fail
    refine (kP _ bw).mono ?_
    rintro e w1 ⟨rfl, hb⟩
    replace bw := bel8 bw hb
    replace g0 := cells_kept hb _ _ g0
    replace pX := pX.below hb
    clear hb kP
    have u0 := pX.cell 0
    have u1 := pX.cell 1
    have u2 := pX.cell 2
    have f0 := pX.frozen 0
    have f1 := pX.frozen 1
    have f2 := pX.frozen 2
    simp only [List.getElem?_cons_zero, List.getElem?_cons_succ] at u0 u1 u2
    have pZ := ((pX.set 0 (.int .i64 0)).set 1 (.int .i64 0)).set 2 (.int .i64 0)
    simp only [List.set_cons_zero, List.set_cons_succ] at pZ
    have z0 := pZ.cell 0
    have z1 := pZ.cell 1
    have z2 := pZ.cell 2
    simp only [List.getElem?_cons_zero, List.getElem?_cons_succ] at z0 z1 z2
    have bz : Below w.heap.size w (((w1.setCell ⟨w.heap.size + 1, 0, none⟩ (.int .i64 0)).setCell ⟨w.heap.size + 1, 1, none⟩ (.int .i64 0)).setCell ⟨w.heap.size + 1, 2, none⟩ (.int .i64 0)) := ((bw.setCell (show w.heap.size ≤ w.heap.size + 1 by omega) _).setCell (show w.heap.size ≤ w.heap.size + 1 by omega) _).setCell (show w.heap.size ≤ w.heap.size + 1 by omega) _
    clear pZ pX
    go_wp2
    refine bodyPost_ret (by simp [results, Try.results15, go_sem, z0, z1, z2]; try rfl) rfl ?_
    exact ⟨rfl, bz⟩
  have h3 := prog_len9 hP
  rw [h.1] at h3
  subst h3
  cases hO : itOk n
  · rw [iatV9_far hP hO]
    rw [hP] at kP
    rw [hO] at kO
    clear hP hO
    go_enter Try.func15, Try.ntmps15
    go_wp2_with fail
    refine (kP _ bw).mono ?_
    rintro e w1 ⟨rfl, hb⟩
    replace bw := bel8 bw hb
    replace g0 := cells_kept hb _ _ g0
    replace pX := pX.below hb
    clear hb kP
    go_wp2_with fail
    refine (kO _).mono ?_
    rintro e w2 ⟨rfl, rfl⟩
    clear kO
    have u0 := pX.cell 0
    have u1 := pX.cell 1
    have u2 := pX.cell 2
    have f0 := pX.frozen 0
    have f1 := pX.frozen 1
    have f2 := pX.frozen 2
    simp only [List.getElem?_cons_zero, List.getElem?_cons_succ] at u0 u1 u2
    have pZ := ((pX.set 0 (.int .i64 0)).set 1 (.int .i64 0)).set 2 (.int .i64 0)
    simp only [List.set_cons_zero, List.set_cons_succ] at pZ
    have z0 := pZ.cell 0
    have z1 := pZ.cell 1
    have z2 := pZ.cell 2
    simp only [List.getElem?_cons_zero, List.getElem?_cons_succ] at z0 z1 z2
    have bz : Below w.heap.size w (((w1.setCell ⟨w.heap.size + 1, 0, none⟩ (.int .i64 0)).setCell ⟨w.heap.size + 1, 1, none⟩ (.int .i64 0)).setCell ⟨w.heap.size + 1, 2, none⟩ (.int .i64 0)) := ((bw.setCell (show w.heap.size ≤ w.heap.size + 1 by omega) _).setCell (show w.heap.size ≤ w.heap.size + 1 by omega) _).setCell (show w.heap.size ≤ w.heap.size + 1 by omega) _
    clear pZ pX
    go_wp2
    refine bodyPost_ret (by simp [results, Try.results15, go_sem, z0, z1, z2]; try rfl) rfl ?_
    exact ⟨rfl, bz⟩
  · obtain ⟨k, pc, hk, hp, hnn, ek, ep, ek2, ep2⟩ := item_parts9 hO
    rw [iatV9_ok hP hO ek ep]
    rw [hP] at kP
    rw [hO] at kO
    have kA := fun W (hb : Below w.heap.size w W) => l09At_is (h.below hb) hk hp hnn
    skip
    skip
    clear hP hO hnn ek ep ek2 ep2 h
    generalize atM9 rows k pc = o at *
    generalize o.isSome = so at *
    generalize insO9 o = x at *
    obtain ⟨x0, x1, x2⟩ := x
    simp only [I3.val] at kA ⊢
    go_enter Try.func15, Try.ntmps15
    go_wp2_with fail
    refine (kP _ bw).mono ?_
    rintro e w1 ⟨rfl, hb⟩
    replace bw := bel8 bw hb
    replace g0 := cells_kept hb _ _ g0
    replace pX := pX.below hb
    clear hb kP
    go_wp2_with fail
    refine (kO _).mono ?_
    rintro e w2 ⟨rfl, rfl⟩
    clear kO
    go_wp2_with fail
    refine (kA _ bw).mono ?_
    rintro e w3 ⟨rfl, hb⟩
    replace bw := bel8 bw hb
    replace pX := pX.below hb
    clear hb g0 kA
    have bx : Below w3.heap.size w3 (w3.alloc (.cells #[.int .i64 x0, .int .i64 x1, .int .i64 x2] 39)) := by go_grown
    have pY : Blk (w3.alloc (.cells #[.int .i64 x0, .int .i64 x1, .int .i64 x2] 39)) w3.heap.size 39 [.int .i64 x0, .int .i64 x1, .int .i64 x2] := Blk.new w3 39 [.int .i64 x0, .int .i64 x1, .int .i64 x2]
    replace bw := bel8 bw bx
    have hne : w.heap.size + 1 ≠ w3.heap.size := by have := pX.lt; omega
    replace pX := pX.below bx
    have y0 := pY.cell 0
    have y1 := pY.cell 1
    have y2 := pY.cell 2
    simp only [List.getElem?_cons_zero, List.getElem?_cons_succ] at y0 y1 y2
    clear bx pY
    have u0 := pX.cell 0
    have u1 := pX.cell 1
    have u2 := pX.cell 2
    have f0 := pX.frozen 0
    have f1 := pX.frozen 1
    have f2 := pX.frozen 2
    simp only [List.getElem?_cons_zero, List.getElem?_cons_succ] at u0 u1 u2
    have pZ := ((pX.set 0 (.int .i64 x0)).set 1 (.int .i64 x1)).set 2 (.int .i64 x2)
    simp only [List.set_cons_zero, List.set_cons_succ] at pZ
    have z0 := pZ.cell 0
    have z1 := pZ.cell 1
    have z2 := pZ.cell 2
    simp only [List.getElem?_cons_zero, List.getElem?_cons_succ] at z0 z1 z2
    have bz : Below w.heap.size w ((((w3.alloc (.cells #[.int .i64 x0, .int .i64 x1, .int .i64 x2] 39)).setCell ⟨w.heap.size + 1, 0, none⟩ (.int .i64 x0)).setCell ⟨w.heap.size + 1, 1, none⟩ (.int .i64 x1)).setCell ⟨w.heap.size + 1, 2, none⟩ (.int .i64 x2)) := ((bw.setCell (show w.heap.size ≤ w.heap.size + 1 by omega) _).setCell (show w.heap.size ≤ w.heap.size + 1 by omega) _).setCell (show w.heap.size ≤ w.heap.size + 1 by omega) _
    clear pZ pX
    go_wp2
    refine bodyPost_ret (by simp [results, Try.results15, go_sem, z0, z1, z2]; try rfl) rfl ?_
    exact ⟨rfl, bz⟩

set_option maxHeartbeats 2000000 in
set_option maxRecDepth 100000 in
theorem implInstrAt_is (a : Option Addr) (len cap : Nat) (rows : List (List I3)) (n : Int) (w : World) (h : Codes w a len cap rows) (hn : -9223372036854775808 ≤ n ∧ n ≤ 9223372036854775807) :
    Calls Try.prog 16 #[.agg #[.slice a len cap], .int .i64 n] w fun e w' => e = .returned (iatV9 rows n) ∧ Below w.heap.size w w' := by
  have kP := fun W (hb : Below w.heap.size w W) => implProgramOK_is a len cap rows W (h.below hb)
  have kO := implItemAt_is n hn
  have bw : Below w.heap.size w ((w.alloc (.cells #[.slice a len cap] 31)).alloc (.cells #[.int .i64 0, .int .i64 0, .int .i64 0] 39)) := by go_grown
  have g0 : ((w.alloc (.cells #[.slice a len cap] 31)).alloc (.cells #[.int .i64 0, .int .i64 0, .int .i64 0] 39)).cell? ⟨w.heap.size, 0, none⟩ = some (.slice a len cap) := by first | (simp [go_sem]; done) | (simp [World.cell?]; done)
  have pX : Blk ((w.alloc (.cells #[.slice a len cap] 31)).alloc (.cells #[.int .i64 0, .int .i64 0, .int .i64 0] 39)) (w.heap.size + 1) 39 [.int .i64 0, .int .i64 0, .int .i64 0] := by
    have := Blk.new (w.alloc (.cells #[.slice a len cap] 31)) 39 [.int .i64 0, .int .i64 0, .int .i64 0]
    simpa using this
  cases hP : progOk rows
  · rw [iatV9_bad hP]
    rw [hP] at kP
    clear hP kO
    go_enter Try.func16, Try.ntmps16
    go_wp2_with fail
    refine (kP _ bw).mono ?_
    rintro e w1 ⟨rfl, hb⟩
    replace bw := bel8 bw hb
    replace g0 := cells_kept hb _ _ g0
    replace pX := pX.below hb
    clear hb kP
    have u0 := pX.cell 0
    have u1 := pX.cell 1
    have u2 := pX.cell 2
    have f0 := pX.frozen 0
    have f1 := pX.frozen 1
    have f2 := pX.frozen 2
    simp only [List.getElem?_cons_zero, List.getElem?_cons_succ] at u0 u1 u2
    have pZ := ((pX.set 0 (.int .i64 0)).set 1 (.int .i64 0)).set 2 (.int .i64 0)
    simp only [List.set_cons_zero, List.set_cons_succ] at pZ
    have z0 := pZ.cell 0
    have z1 := pZ.cell 1
    have z2 := pZ.cell 2
    simp only [List.getElem?_cons_zero, List.getElem?_cons_succ] at z0 z1 z2
    have bz : Below w.heap.size w (((w1.setCell ⟨w.heap.size + 1, 0, none⟩ (.int .i64 0)).setCell ⟨w.heap.size + 1, 1, none⟩ (.int .i64 0)).setCell ⟨w.heap.size + 1, 2, none⟩ (.int .i64 0)) := ((bw.setCell (show w.heap.size ≤ w.heap.size + 1 by omega) _).setCell (show w.heap.size ≤ w.heap.size + 1 by omega) _).setCell (show w.heap.size ≤ w.heap.size + 1 by omega) _
    clear pZ pX
    go_wp2
    refine bodyPost_ret (by simp [results, Try.results16, go_sem, z0, z1, z2]; try rfl) rfl ?_
    exact ⟨rfl, bz⟩
  have h3 := prog_len9 hP
  rw [h.1] at h3
  subst h3
  cases hO : itOk n
  · rw [iatV9_far hP hO]
    rw [hP] at kP
    rw [atV_no hO] at kO
    clear hP hO
    go_enter Try.func16, Try.ntmps16
    go_wp2_with fail
    refine (kP _ bw).mono ?_
    rintro e w1 ⟨rfl, hb⟩
    replace bw := bel8 bw hb
    replace g0 := cells_kept hb _ _ g0
    replace pX := pX.below hb
    clear hb kP
    go_wp2_with fail
    refine (kO _).mono ?_
    rintro e w2 ⟨rfl, rfl⟩
    clear kO
    have u0 := pX.cell 0
    have u1 := pX.cell 1
    have u2 := pX.cell 2
    have f0 := pX.frozen 0
    have f1 := pX.frozen 1
    have f2 := pX.frozen 2
    simp only [List.getElem?_cons_zero, List.getElem?_cons_succ] at u0 u1 u2
    have pZ := ((pX.set 0 (.int .i64 0)).set 1 (.int .i64 0)).set 2 (.int .i64 0)
    simp only [List.set_cons_zero, List.set_cons_succ] at pZ
    have z0 := pZ.cell 0
    have z1 := pZ.cell 1
    have z2 := pZ.cell 2
    simp only [List.getElem?_cons_zero, List.getElem?_cons_succ] at z0 z1 z2
    have bz : Below w.heap.size w (((w1.setCell ⟨w.heap.size + 1, 0, none⟩ (.int .i64 0)).setCell ⟨w.heap.size + 1, 1, none⟩ (.int .i64 0)).setCell ⟨w.heap.size + 1, 2, none⟩ (.int .i64 0)) := ((bw.setCell (show w.heap.size ≤ w.heap.size + 1 by omega) _).setCell (show w.heap.size ≤ w.heap.size + 1 by omega) _).setCell (show w.heap.size ≤ w.heap.size + 1 by omega) _
    clear pZ pX
    go_wp2
    refine bodyPost_ret (by simp [results, Try.results16, go_sem, z0, z1, z2]; try rfl) rfl ?_
    exact ⟨rfl, bz⟩
  · obtain ⟨k, pc, hk, hp, hnn, ek, ep, ek2, ep2⟩ := item_parts9 hO
    rw [iatV9_ok hP hO ek ep]
    rw [hP] at kP
    rw [atV_yes hO, ek2, ep2] at kO
    have kA := fun W (hb : Below w.heap.size w W) => siteOf_is (h.below hb) hk hp
    have ti := ta_ins9
    have tn := ta_non9
    clear hP hO hnn ek ep ek2 ep2 h
    generalize atM9 rows k pc = o at *
    cases o with
    | none =>
      simp only [siteV9, insO9, Option.getD_none, Option.isSome_none, I3.val] at kA ⊢
      go_enter Try.func16, Try.ntmps16
      go_wp2_with fail
      refine (kP _ bw).mono ?_
      rintro e w1 ⟨rfl, hb⟩
      replace bw := bel8 bw hb
      replace g0 := cells_kept hb _ _ g0
      replace pX := pX.below hb
      clear hb kP
      go_wp2_with fail
      refine (kO _).mono ?_
      rintro e w2 ⟨rfl, rfl⟩
      clear kO
      go_wp2_with fail
      refine (kA _ bw).mono ?_
      rintro e w3 ⟨rfl, hb⟩
      replace bw := bel8 bw hb
      replace pX := pX.below hb
      clear hb g0 kA
      have bx : Below w3.heap.size w3 (w3.alloc (.cells #[.int .i64 0, .int .i64 0, .int .i64 0] 39)) := by go_grown
      have pY : Blk (w3.alloc (.cells #[.int .i64 0, .int .i64 0, .int .i64 0] 39)) w3.heap.size 39 [.int .i64 0, .int .i64 0, .int .i64 0] := Blk.new w3 39 [.int .i64 0, .int .i64 0, .int .i64 0]
      replace bw := bel8 bw bx
      have hne : w.heap.size + 1 ≠ w3.heap.size := by have := pX.lt; omega
      replace pX := pX.below bx
      have y0 := pY.cell 0
      have y1 := pY.cell 1
      have y2 := pY.cell 2
      simp only [List.getElem?_cons_zero, List.getElem?_cons_succ] at y0 y1 y2
      clear bx pY
      have u0 := pX.cell 0
      have u1 := pX.cell 1
      have u2 := pX.cell 2
      have f0 := pX.frozen 0
      have f1 := pX.frozen 1
      have f2 := pX.frozen 2
      simp only [List.getElem?_cons_zero, List.getElem?_cons_succ] at u0 u1 u2
      have pZ := ((pX.set 0 (.int .i64 0)).set 1 (.int .i64 0)).set 2 (.int .i64 0)
      simp only [List.set_cons_zero, List.set_cons_succ] at pZ
      have z0 := pZ.cell 0
      have z1 := pZ.cell 1
      have z2 := pZ.cell 2
      simp only [List.getElem?_cons_zero, List.getElem?_cons_succ] at z0 z1 z2
      have bz : Below w.heap.size w ((((w3.alloc (.cells #[.int .i64 0, .int .i64 0, .int .i64 0] 39)).setCell ⟨w.heap.size + 1, 0, none⟩ (.int .i64 0)).setCell ⟨w.heap.size + 1, 1, none⟩ (.int .i64 0)).setCell ⟨w.heap.size + 1, 2, none⟩ (.int .i64 0)) := ((bw.setCell (show w.heap.size ≤ w.heap.size + 1 by omega) _).setCell (show w.heap.size ≤ w.heap.size + 1 by omega) _).setCell (show w.heap.size ≤ w.heap.size + 1 by omega) _
      clear pZ pX
      go_wp2
      refine bodyPost_ret (by simp [results, Try.results16, go_sem, z0, z1, z2]; try rfl) rfl ?_
      exact ⟨rfl, bz⟩
    | some x =>
      obtain ⟨x0, x1, x2⟩ := x
      simp only [siteV9, insO9, Option.getD_some, Option.isSome_some, I3.val] at kA ⊢
      go_enter Try.func16, Try.ntmps16
      go_wp2_with fail
      refine (kP _ bw).mono ?_
      rintro e w1 ⟨rfl, hb⟩
      replace bw := bel8 bw hb
      replace g0 := cells_kept hb _ _ g0
      replace pX := pX.below hb
      clear hb kP
      go_wp2_with fail
      refine (kO _).mono ?_
      rintro e w2 ⟨rfl, rfl⟩
      clear kO
      go_wp2_with fail
      refine (kA _ bw).mono ?_
      rintro e w3 ⟨rfl, hb⟩
      replace bw := bel8 bw hb
      replace pX := pX.below hb
      clear hb g0 kA
      have bx : Below w3.heap.size w3 (w3.alloc (.cells #[.int .i64 x0, .int .i64 x1, .int .i64 x2] 39)) := by go_grown
      have pY : Blk (w3.alloc (.cells #[.int .i64 x0, .int .i64 x1, .int .i64 x2] 39)) w3.heap.size 39 [.int .i64 x0, .int .i64 x1, .int .i64 x2] := Blk.new w3 39 [.int .i64 x0, .int .i64 x1, .int .i64 x2]
      replace bw := bel8 bw bx
      have hne : w.heap.size + 1 ≠ w3.heap.size := by have := pX.lt; omega
      replace pX := pX.below bx
      have y0 := pY.cell 0
      have y1 := pY.cell 1
      have y2 := pY.cell 2
      simp only [List.getElem?_cons_zero, List.getElem?_cons_succ] at y0 y1 y2
      clear bx pY
      have u0 := pX.cell 0
      have u1 := pX.cell 1
      have u2 := pX.cell 2
      have f0 := pX.frozen 0
      have f1 := pX.frozen 1
      have f2 := pX.frozen 2
      simp only [List.getElem?_cons_zero, List.getElem?_cons_succ] at u0 u1 u2
      have pZ := ((pX.set 0 (.int .i64 x0)).set 1 (.int .i64 x1)).set 2 (.int .i64 x2)
      simp only [List.set_cons_zero, List.set_cons_succ] at pZ
      have z0 := pZ.cell 0
      have z1 := pZ.cell 1
      have z2 := pZ.cell 2
      simp only [List.getElem?_cons_zero, List.getElem?_cons_succ] at z0 z1 z2
      have bz : Below w.heap.size w ((((w3.alloc (.cells #[.int .i64 x0, .int .i64 x1, .int .i64 x2] 39)).setCell ⟨w.heap.size + 1, 0, none⟩ (.int .i64 x0)).setCell ⟨w.heap.size + 1, 1, none⟩ (.int .i64 x1)).setCell ⟨w.heap.size + 1, 2, none⟩ (.int .i64 x2)) := ((bw.setCell (show w.heap.size ≤ w.heap.size + 1 by omega) _).setCell (show w.heap.size ≤ w.heap.size + 1 by omega) _).setCell (show w.heap.size ≤ w.heap.size + 1 by omega) _
      clear pZ pX
      go_wp2
      refine bodyPost_ret (by simp [results, Try.results16, go_sem, z0, z1, z2]; try rfl) rfl ?_
      exact ⟨rfl, bz⟩

end Go.Proofs.Ytleiogcohkfgkaa
