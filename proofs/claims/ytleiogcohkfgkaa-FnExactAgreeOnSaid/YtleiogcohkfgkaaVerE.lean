
/-
  Both sides' AgreeOn.
-/
import Derived.Test.YtleiogcohkfgkaaVerD
import Derived.Test.YtleiogcohkfgkaaTchI
import Derived.Test.YtleiogcohkfgkaaRwL9
namespace Go.Proofs.Ytleiogcohkfgkaa
open Go.RowKit
set_option linter.unusedVariables false
set_option linter.unusedSimpArgs false

/-- What AgreeOn answers. -/
def agrB (P Q : List (List I3)) (F : List Int) : Bool := decide (F.length ≤ 4096) && (decide (progOk P = true ∧ progOk Q = true) && (allIt F && !tchV F (chgI P Q)))
def agrC (P Q : List (List I3)) (F : List Int) : Int := if F.length ≤ 4096 then (if progOk P = true ∧ progOk Q = true then (if allIt F = true then 0 else 4) else 1) else 2
def agrV (P Q : List (List I3)) (F : List Int) : Value := .tuple #[.bool (agrB P Q F), .int .i64 (agrC P Q F)]
theorem agrV_long {P Q : List (List I3)} {F : List Int} (h : ¬ F.length ≤ 4096) : agrV P Q F = .tuple #[.bool false, .int .i64 2] := by
  unfold agrV agrB agrC
  rw [decide_eq_false h, if_neg h]
  rfl
theorem agrV_bad {P Q : List (List I3)} {F : List Int} (h : F.length ≤ 4096) (hb : ¬ (progOk P = true ∧ progOk Q = true)) : agrV P Q F = .tuple #[.bool false, .int .i64 1] := by
  unfold agrV agrB agrC
  rw [decide_eq_true h, if_pos h, decide_eq_false hb, if_neg hb]
  rfl
theorem agrV_far {P Q : List (List I3)} {F : List Int} (h : F.length ≤ 4096) (hb : progOk P = true ∧ progOk Q = true) (hi : allIt F = false) : agrV P Q F = .tuple #[.bool false, .int .i64 4] := by
  unfold agrV agrB agrC
  rw [decide_eq_true h, if_pos h, decide_eq_true hb, if_pos hb, hi]
  rfl
theorem agrV_ok {P Q : List (List I3)} {F : List Int} (h : F.length ≤ 4096) (hb : progOk P = true ∧ progOk Q = true) (hi : allIt F = true) : agrV P Q F = .tuple #[.bool (!tchV F (chgI P Q)), .int .i64 0] := by
  unfold agrV agrB agrC
  rw [decide_eq_true h, if_pos h, decide_eq_true hb, if_pos hb, hi]
  rfl
theorem it_wf9 {y : Int} (h : itOk y = true) : (Lit.int .i64 y).wf = true := by
  have h1 : IntKind.i64.min = -9223372036854775808 := by decide
  have h2 : IntKind.i64.max = 9223372036854775807 := by decide
  simp only [itOk, decide_eq_true_eq] at h
  simp [Lit.wf, h1, h2]
  omega
theorem chgI_wfs (P Q : List (List I3)) : wfs (chgI P Q) := fun y hy => it_wf9 (chgI_ok y hy)
set_option maxHeartbeats 4000000 in
set_option maxRecDepth 100000 in
theorem implAgreeOn_is (a : Option Addr) (len cap : Nat) (P : List (List I3)) (a' : Option Addr) (len' cap' : Nat) (Q : List (List I3)) (fa : Option Addr) (fn fc : Nat) (F : List Int) (w : World) (h : Codes w a len cap P) (h' : Codes w a' len' cap' Q) (hF : Ints .i64 w fa fn fc F) (hw : wfs F) (hfn : fn ≤ 1048576) :
    Calls Try.prog 20 #[.agg #[.slice a len cap], .agg #[.slice a' len' cap'], .slice fa fn fc] w fun e w' => e = .returned (agrV P Q F) ∧ Below w.heap.size w w' := by
  have hl := hF.1
  have bw : Below w.heap.size w ((w.alloc (.cells #[.slice a len cap] 31)).alloc (.cells #[.slice a' len' cap'] 31)) := by go_grown
  have g0 : ((w.alloc (.cells #[.slice a len cap] 31)).alloc (.cells #[.slice a' len' cap'] 31)).cell? ⟨w.heap.size, 0, none⟩ = some (.slice a len cap) := by first | (simp [go_sem]; done) | (simp [World.cell?]; done)
  have g1 : ((w.alloc (.cells #[.slice a len cap] 31)).alloc (.cells #[.slice a' len' cap'] 31)).cell? ⟨w.heap.size + 1, 0, none⟩ = some (.slice a' len' cap') := by first | (simp [go_sem]; done) | (simp [World.cell?]; done)
  by_cases h1 : F.length ≤ 4096
  case neg =>
    rw [agrV_long h1]
    have h2 : (4096 : Int) < (fn : Int) := by omega
    clear h1
    go_enter Try.func20, Try.ntmps20
    go_wp2
    go_ret2
    exact ⟨rfl, bw⟩
  have h2 : ¬ (4096 : Int) < (fn : Int) := by omega
  have kC := fun W (hb : Below w.heap.size w W) => implChangedItems_is a len cap P a' len' cap' Q W (h.below hb) (h'.below hb)
  have kA := fun W (hb : Below w.heap.size w W) => itemsOK_is fa fn fc F W (hF.below hb) hfn hw
  by_cases hb : progOk P = true ∧ progOk Q = true
  case neg =>
    rw [agrV_bad h1 hb]
    obtain ⟨eL, eK⟩ := ci_bad9 hb
    unfold CiGot at kC
    rw [eL, eK] at kC
    clear eL eK hb h1
    go_enter Try.func20, Try.ntmps20
    go_wp2_with fail
    refine (kC _ bw).mono ?_
    rintro e w1 ⟨⟨v, rfl, q⟩, hb⟩
    replace bw := bel8 bw hb
    go_wp2
    go_ret2
    exact ⟨rfl, bw⟩
  obtain ⟨eL, eK⟩ := ci_ok9 hb.1 hb.2
  unfold CiGot at kC
  rw [eL, eK] at kC
  clear eL eK
  cases hI : allIt F
  case false =>
    rw [agrV_far h1 hb hI]
    rw [hI] at kA
    clear hI hb h1
    go_enter Try.func20, Try.ntmps20
    go_wp2_with fail
    refine (kC _ bw).mono ?_
    rintro e w1 ⟨⟨v, rfl, q⟩, hb⟩
    replace bw := bel8 bw hb
    go_wp2_with fail
    refine (kA _ bw).mono ?_
    rintro e w2 ⟨rfl, rfl⟩
    go_wp2
    go_ret2
    exact ⟨rfl, bw⟩
  case true =>
    rw [agrV_ok h1 hb hI]
    rw [hI] at kA
    clear hI hb h1
    have hl21 := chgI_len P Q
    have kT := fun W (hb : Below w.heap.size w W) ya yn yc (hy : Ints .i64 W ya yn yc (chgI P Q)) => implTouches_is fa fn fc F ya yn yc (chgI P Q) W (hF.below hb) hy hfn (by rw [← hy.1]; omega) hw (chgI_wfs P Q)
    generalize tchV F (chgI P Q) = tt at *
    go_enter Try.func20, Try.ntmps20
    go_wp2_with fail
    refine (kC _ bw).mono ?_
    rintro e w1 ⟨⟨v, rfl, q⟩, hb⟩
    replace bw := bel8 bw hb
    go_wp2_with fail
    refine (kA _ bw).mono ?_
    rintro e w2 ⟨rfl, rfl⟩
    obtain ⟨va, vc, rfl⟩ := slice8 q
    unfold OwnP9 at q
    have hy : Ints .i64 w1 va (chg9 P Q).length vc (chgI P Q) := ints8 q
    clear q hb
    go_wp2_with fail
    refine (kT _ bw _ _ _ hy).mono ?_
    rintro e w3 ⟨rfl, hb⟩
    replace bw := bel8 bw hb
    go_wp2
    go_ret2
    exact ⟨rfl, bw⟩
set_option maxHeartbeats 4000000 in
set_option maxRecDepth 100000 in
theorem specAgreeOn_is (a : Option Addr) (len cap : Nat) (P : List (List I3)) (a' : Option Addr) (len' cap' : Nat) (Q : List (List I3)) (fa : Option Addr) (fn fc : Nat) (F : List Int) (w : World) (h : Codes w a len cap P) (h' : Codes w a' len' cap' Q) (hF : Ints .i64 w fa fn fc F) (hw : wfs F) (hfn : fn ≤ 1048576) :
    Calls Try.prog 18 #[.agg #[.slice a len cap], .agg #[.slice a' len' cap'], .slice fa fn fc] w fun e w' => e = .returned (agrV P Q F) ∧ Below w.heap.size w w' := by
  have hl := hF.1
  have bw : Below w.heap.size w ((w.alloc (.cells #[.slice a len cap] 31)).alloc (.cells #[.slice a' len' cap'] 31)) := by go_grown
  have g0 : ((w.alloc (.cells #[.slice a len cap] 31)).alloc (.cells #[.slice a' len' cap'] 31)).cell? ⟨w.heap.size, 0, none⟩ = some (.slice a len cap) := by first | (simp [go_sem]; done) | (simp [World.cell?]; done)
  have g1 : ((w.alloc (.cells #[.slice a len cap] 31)).alloc (.cells #[.slice a' len' cap'] 31)).cell? ⟨w.heap.size + 1, 0, none⟩ = some (.slice a' len' cap') := by first | (simp [go_sem]; done) | (simp [World.cell?]; done)
  by_cases h1 : F.length ≤ 4096
  case neg =>
    rw [agrV_long h1]
    have h2 : (4096 : Int) < (fn : Int) := by omega
    clear h1
    go_enter Try.func18, Try.ntmps18
    go_wp2
    go_ret2
    exact ⟨rfl, bw⟩
  have h2 : ¬ (4096 : Int) < (fn : Int) := by omega
  have kP := fun W (hb : Below w.heap.size w W) => specProgramOK_is a len cap P W (h.below hb)
  have kQ := fun W (hb : Below w.heap.size w W) => specProgramOK_is a' len' cap' Q W (h'.below hb)
  have kA := fun W (hb : Below w.heap.size w W) => l08All_is fa fn fc F W (hF.below hb) hfn hw
  cases hP : progOk P
  case false =>
    rw [agrV_bad h1 (by rw [hP]; simp)]
    rw [hP] at kP
    clear hP h1
    go_enter Try.func18, Try.ntmps18
    go_wp2_with fail
    refine (kP _ bw).mono ?_
    rintro e w1 ⟨rfl, hb⟩
    replace bw := bel8 bw hb
    go_wp2
    go_ret2
    exact ⟨rfl, bw⟩
  cases hQ : progOk Q
  case false =>
    rw [agrV_bad h1 (by rw [hQ]; simp)]
    rw [hP] at kP
    rw [hQ] at kQ
    clear hP hQ h1
    go_enter Try.func18, Try.ntmps18
    go_wp2_with fail
    refine (kP _ bw).mono ?_
    rintro e w1 ⟨rfl, hb⟩
    replace bw := bel8 bw hb
    replace g0 := cells_kept hb _ _ g0
    replace g1 := cells_kept hb _ _ g1
    clear hb
    go_wp2_with fail
    refine (kQ _ bw).mono ?_
    rintro e w2 ⟨rfl, hb⟩
    replace bw := bel8 bw hb
    replace g0 := cells_kept hb _ _ g0
    replace g1 := cells_kept hb _ _ g1
    clear hb
    go_wp2
    go_ret2
    exact ⟨rfl, bw⟩
  cases hI : allIt F
  case false =>
    rw [agrV_far h1 ⟨hP, hQ⟩ hI]
    rw [hI] at kA
    rw [hP] at kP
    rw [hQ] at kQ
    clear hI hP hQ h1
    go_enter Try.func18, Try.ntmps18
    go_wp2_with fail
    refine (kP _ bw).mono ?_
    rintro e w1 ⟨rfl, hb⟩
    replace bw := bel8 bw hb
    replace g0 := cells_kept hb _ _ g0
    replace g1 := cells_kept hb _ _ g1
    clear hb
    go_wp2_with fail
    refine (kQ _ bw).mono ?_
    rintro e w2 ⟨rfl, hb⟩
    replace bw := bel8 bw hb
    replace g0 := cells_kept hb _ _ g0
    replace g1 := cells_kept hb _ _ g1
    clear hb
    go_wp2_with fail
    refine (kA _ bw).mono ?_
    rintro e w3 ⟨rfl, rfl⟩
    go_wp2
    go_ret2
    exact ⟨rfl, bw⟩
  case true =>
    rw [agrV_ok h1 ⟨hP, hQ⟩ hI]
    have h3 := prog_len9 hP
    rw [h.1] at h3
    have h4 := prog_len9 hQ
    rw [h'.1] at h4
    subst h3 h4
    rw [hI] at kA
    rw [hP] at kP
    rw [hQ] at kQ
    clear hI hP hQ h1
    have hl21 := chgI_len P Q
    have kC := fun W (hb : Below w.heap.size w W) => l09Changed_is (h.below hb) (h'.below hb)
    have kT := fun W (hb : Below w.heap.size w W) ya yn yc (hy : Ints .i64 W ya yn yc (chgI P Q)) => specTouches_is fa fn fc F ya yn yc (chgI P Q) W (hF.below hb) hy hfn (by rw [← hy.1]; omega)
    generalize tchV F (chgI P Q) = tt at *
    go_enter Try.func18, Try.ntmps18
    go_wp2_with fail
    refine (kP _ bw).mono ?_
    rintro e w1 ⟨rfl, hb⟩
    replace bw := bel8 bw hb
    replace g0 := cells_kept hb _ _ g0
    replace g1 := cells_kept hb _ _ g1
    clear hb
    go_wp2_with fail
    refine (kQ _ bw).mono ?_
    rintro e w2 ⟨rfl, hb⟩
    replace bw := bel8 bw hb
    replace g0 := cells_kept hb _ _ g0
    replace g1 := cells_kept hb _ _ g1
    clear hb
    go_wp2_with fail
    refine (kA _ bw).mono ?_
    rintro e w3 ⟨rfl, rfl⟩
    go_wp2_with fail
    refine (kC _ bw).mono ?_
    rintro e w4 ⟨⟨v, rfl, q⟩, hb⟩
    replace bw := bel8 bw hb
    obtain ⟨va, vc, rfl⟩ := slice8 q
    have hy := ints8 q
    clear q hb
    go_wp2_with fail
    refine (kT _ bw _ _ _ hy).mono ?_
    rintro e w5 ⟨rfl, rfl⟩
    go_wp2
    go_ret2
    exact ⟨rfl, bw⟩
end Go.Proofs.Ytleiogcohkfgkaa
