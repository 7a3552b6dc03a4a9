
/-
  FnExactMergeBugs: both merge alike; no argument is changed, and the answer owns its memory.
-/
import Derived.Test.YtkmnnmgopnoffaaSrtB
import Derived.Test.YtkmnnmgopnoffaaSizeB
namespace Go.Proofs.Ytkmnnmgopnoffaa
open Go.RowKit
set_option linter.unusedVariables false
set_option linter.unusedSimpArgs false

theorem bugs_of_own {w : World} {B : Nat} {v : Value} {xs : List I3} (h : w.ownsRow B 25 3 v xs.length (flat xs)) (hf : ∀ x ∈ xs, I3.fits x) : ∃ a cap, v = .slice a xs.length cap ∧ Instrs w a xs.length cap xs := by
  rcases h.2 with ⟨rfl, h0⟩ | ⟨g, cap, cur, hv, _⟩
  · exact ⟨none, 0, by rw [h0], rfl, by omega, by unfold maxLen; omega, hf, .inl h0⟩
  · subst hv
    exact ⟨_, _, rfl, Instrs.of_owns h rfl hf rfl⟩
theorem mergeZ_fits {xs ys : List I3} (h : ∀ z ∈ xs, I3.fits z) (k : ∀ z ∈ ys, I3.fits z) : ∀ z ∈ mergeZ xs ys, I3.fits z := by
  unfold mergeZ
  split
  · simp
  · split
    · exact fits_merge h k
    · simp
theorem mergeZ_len (xs ys : List I3) : (mergeZ xs ys).length ≤ 8192 := by
  unfold mergeZ
  split
  · simp
  · rename_i h
    split
    · have := mergeB_len xs ys
      omega
    · simp
theorem less_no {left : Int} {n : Nat} (h : left < n) : less left n = -1 := by unfold less; split <;> omega
theorem less_yes {left : Int} {n : Nat} (h : ¬ left < n) : less left n = left - n := by unfold less; split <;> omega
theorem mkI_nil (k : Int) (xs : List I3) : (mkI k xs xs.length).length = xs.length := mkI_len _ _ _
theorem goodS (g c : Nat) : GoodS (some ⟨g, 0, none⟩) c := ⟨fun h => (by cases h), fun x hx => by cases hx; rfl⟩
theorem own_apart {w w' : World} {B e s n : Nat} {v : Value} {cs : List Value} {k : Option Nat} (h : w.ownsRow B e s v n cs) (g : w.grownBy w' k) (hne : ∀ x, v.ownBlock = some x → k ≠ some x) : w'.ownsRow B e s v n cs := by
  refine h.kept g ?_
  cases hv : v.ownBlock with
  | none => exact .inl rfl
  | some x => exact .inr fun e => hne x hv e.symm

set_option maxHeartbeats 8000000 in
set_option maxRecDepth 100000 in
theorem fnExactMergeBugs_walk (a0 : Option Addr) (n0 c0 : Nat) (xs : List I3) (a1 : Option Addr) (n1 c1 : Nat) (ys : List I3) (w : World) (h0 : Instrs w a0 n0 c0 xs) (h1 : Instrs w a1 n1 c1 ys) :
    Calls Try.prog 4 #[.slice a0 n0 c0, .slice a1 n1 c1] w fun e w' => e = .returned (.bool true) ∧ Below w.heap.size w w' := by
  have hm0 : n0 ≤ maxLen := Nat.le_trans h0.2.1 h0.2.2.1
  have hm1 : n1 ≤ maxLen := Nat.le_trans h1.2.1 h1.2.2.1
  have kz0 := fun W => szBugS_less a0 n0 c0 1048576 W hm0 (by omega) (by omega)
  by_cases b0 : 1048576 < n0
  · rw [less_no (by omega)] at kz0
    go_enter Try.func4, Try.ntmps4
    go_wp2_with fail
    refine (kz0 _).mono ?_
    rintro e w1 ⟨rfl, rfl⟩
    go_wp2
    go_ret
    exact ⟨rfl, Below.refl _ _⟩
  rw [less_yes (by omega)] at kz0
  have kz1 := fun W => szBugS_less a1 n1 c1 (1048576 - (n0 : Int)) W hm1 (by omega) (by omega)
  by_cases b1 : 1048576 - (n0 : Int) < n1
  · rw [less_no b1] at kz1
    go_enter Try.func4, Try.ntmps4
    go_wp2_with fail
    refine (kz0 _).mono ?_
    rintro e w1 ⟨rfl, rfl⟩
    go_wp2_with fail
    refine (kz1 _).mono ?_
    rintro e w1 ⟨rfl, rfl⟩
    go_wp2
    go_ret
    exact ⟨rfl, Below.refl _ _⟩
  rw [less_yes b1] at kz1
  have hn0 : n0 ≤ 1048576 := by omega
  have hn1 : n1 ≤ 1048576 := by omega
  have hzz : ¬ (1048576 - (n0 : Int) - (n1 : Int) < 0) := by omega
  have hz0 : ¬ (1048576 - (n0 : Int) < 0) := by omega
  have t0 := fun W (hb : Below w.heap.size w W) => toBugS_copy a0 n0 c0 xs W (h0.below hb) hn0
  have t1 := fun W (hb : Below w.heap.size w W) => toBugS_copy a1 n1 c1 ys W (h1.below hb) hn1
  have f0 := h0.2.2.2.1
  have f1 := h1.2.2.2.1
  have l0 := h0.1
  have l1 := h1.1
  have fZ := mergeZ_fits f0 f1
  have lZ := mergeZ_len xs ys
  have kS := fun (g g' : Nat) (W : World) (i0 : Instrs W (some ⟨g, 0, none⟩) n0 n0 xs) (i1 : Instrs W (some ⟨g', 0, none⟩) n1 n1 ys) => specMergeBugs_is (some ⟨g, 0, none⟩) n0 n0 xs (some ⟨g', 0, none⟩) n1 n1 ys W i0 i1 hn0 hn1
  have kI := fun (g g' : Nat) (W : World) (i0 : Instrs W (some ⟨g, 0, none⟩) n0 n0 xs) (i1 : Instrs W (some ⟨g', 0, none⟩) n1 n1 ys) => implMergeBugs_is (some ⟨g, 0, none⟩) n0 n0 xs (some ⟨g', 0, none⟩) n1 n1 ys W i0 i1 hn0 hn1 (goodS _ _) (goodS _ _)
  have e0 := fun (a a' : Option Addr) (c c' : Nat) (W : World) => eqBugS_same a a' n0 c c' xs W
  have e1 := fun (a a' : Option Addr) (c c' : Nat) (W : World) => eqBugS_same a a' n1 c c' ys W
  have eZ := fun (a a' : Option Addr) (c c' : Nat) (W : World) => eqBugS_same a a' (mergeZ xs ys).length c c' (mergeZ xs ys) W
  have mZ := fun (B : Nat) (v : Value) (W : World) => markBugS_any B v 1 (mergeZ xs ys) W (by omega) (by omega) (by omega)
  have hZ := fun (B : Nat) (v : Value) (W : World) => heldBugS_any B v 1 (mergeZ xs ys) W (by omega) (by omega) (by omega)
  have m0 := fun (B : Nat) (v : Value) (W : World) => markBugS_any B v 1 xs W (by omega) (by omega) (by omega)
  have m1 := fun (B : Nat) (v : Value) (W : World) => markBugS_any B v (1 + (xs.length : Int) * 3) ys W (by omega) (by omega) (by omega)
  rw [l0] at m0 m1
  simp only [l1] at m1
  generalize mergeC xs ys = cd at *
  generalize mergeZ xs ys = Z at *
  clear h0 h1 hm0 hm1
  have hcc : (cd != cd) = false := by simp
  go_enter Try.func4, Try.ntmps4
  go_wp2_with fail
  refine (kz0 _).mono ?_
  rintro e w1 ⟨rfl, rfl⟩
  go_wp2_with fail
  refine (kz1 _).mono ?_
  rintro e w1 ⟨rfl, rfl⟩
  clear kz0 kz1
  have bw : Below w.heap.size w w := Below.refl _ _

  go_wp2_with fail
  refine (t0 _ bw).mono ?_
  rintro e w1 ⟨rfl, ⟨_, rfl, qA⟩, hb⟩
  replace bw := bel_trans bw hb
  have iA := Instrs.of_owns qA l0 f0 rfl
  clear hb
  clear qA
  go_wp2_with fail
  refine (t1 _ bw).mono ?_
  rintro e w2 ⟨rfl, ⟨_, rfl, qB⟩, hb⟩
  replace bw := bel_trans bw hb
  replace iA := iA.below hb
  have iB := Instrs.of_owns qB l1 f1 rfl
  clear hb
  clear qB
  go_wp2_with fail
  refine (kS _ _ _ iA iB).mono ?_
  rintro e w3 ⟨⟨vS, rfl, qS⟩, hb⟩
  replace bw := bel_trans bw hb
  replace iA := iA.below hb
  replace iB := iB.below hb
  obtain ⟨aS, cS, rfl, _⟩ := bugs_of_own qS fZ
  have sS := (fun x hx => (qS.lt x hx).2 : ∀ x, (Value.slice aS Z.length cS).ownBlock = some x → x < w3.heap.size)
  have sw2 : w.heap.size ≤ w3.heap.size := bw.size
  clear hb iA iB kS
  go_wp2_with fail
  refine (t0 _ bw).mono ?_
  rintro e w4 ⟨rfl, ⟨_, rfl, qX⟩, hb⟩
  replace bw := bel_trans bw hb
  replace qS := owns_below qS hb
  have s34 := hb.size
  have sw3 : w.heap.size ≤ w3.heap.size := Nat.le_trans sw2 (Nat.le_refl _)
  have sX : w3.heap.size < w4.heap.size := (qX.lt _ rfl).2
  clear hb
  generalize hX : w3.heap.size = gX at *
  go_wp2_with fail
  refine (t1 _ bw).mono ?_
  rintro e w5 ⟨rfl, ⟨_, rfl, qY⟩, hb⟩
  replace bw := bel_trans bw hb
  replace qS := owns_below qS hb
  replace qX := owns_below qX hb
  have sY : w4.heap.size < w5.heap.size := (qY.lt _ rfl).2
  clear hb
  generalize hY : w4.heap.size = gY at *
  have iX := Instrs.of_owns qX l0 f0 rfl
  have iY := Instrs.of_owns qY l1 f1 rfl
  go_wp2_with fail
  refine (kI gX gY _ iX iY).mono ?_
  rintro e w6 ⟨⟨vG, rfl, qG⟩, hb⟩
  replace bw := bel_trans bw hb
  replace qS := owns_below qS hb
  replace qX := owns_below qX hb
  replace qY := owns_below qY hb
  replace iX := iX.below hb
  replace iY := iY.below hb
  clear hb
  have iS : ∀ W, W.ownsRow w2.heap.size 25 3 (.slice aS Z.length cS) Z.length (flat Z) → Instrs W aS Z.length cS Z := fun W q => by obtain ⟨_, _, e, i⟩ := bugs_of_own q fZ; cases e; exact i
  have sG := (fun x hx => (qG.lt x hx).1 : ∀ x, vG.ownBlock = some x → w5.heap.size ≤ x)
  obtain ⟨aG, cG, rfl, _⟩ := bugs_of_own qG fZ
  have iG : ∀ W, W.ownsRow w5.heap.size 25 3 (.slice aG Z.length cG) Z.length (flat Z) → Instrs W aG Z.length cG Z := fun W q => by obtain ⟨_, _, e, i⟩ := bugs_of_own q fZ; cases e; exact i
  generalize w5.heap.size = B5 at *
  generalize w2.heap.size = B2 at *
  generalize hlz : Z.length = zl at *
  go_wp2_with fail
  refine (eZ aG aS cG cS _ (iG _ qG) (iS _ qS)).mono ?_
  rintro e w7 ⟨rfl, hb⟩
  replace bw := bel_trans bw hb
  replace qS := owns_below qS hb
  replace qX := owns_below qX hb
  replace qY := owns_below qY hb
  replace qG := owns_below qG hb
  clear hb
  go_wp2_with fail
  refine (t0 _ bw).mono ?_
  rintro e w8 ⟨rfl, ⟨_, rfl, qT⟩, hb⟩
  replace bw := bel_trans bw hb
  replace qS := owns_below qS hb
  replace qX := owns_below qX hb
  replace qY := owns_below qY hb
  replace qG := owns_below qG hb
  have iT := Instrs.of_owns qT l0 f0 rfl
  have iQ := Instrs.of_owns qX l0 f0 rfl
  clear hb qT
  go_wp2_with fail
  refine (e0 _ _ _ _ _ iQ iT).mono ?_
  rintro e w9 ⟨rfl, hb⟩
  replace bw := bel_trans bw hb
  replace qS := owns_below qS hb
  replace qX := owns_below qX hb
  replace qY := owns_below qY hb
  replace qG := owns_below qG hb
  clear hb
  clear iT iQ
  go_wp2_with fail
  refine (t1 _ bw).mono ?_
  rintro e w10 ⟨rfl, ⟨_, rfl, qT⟩, hb⟩
  replace bw := bel_trans bw hb
  replace qS := owns_below qS hb
  replace qX := owns_below qX hb
  replace qY := owns_below qY hb
  replace qG := owns_below qG hb
  have iT := Instrs.of_owns qT l1 f1 rfl
  have iQ := Instrs.of_owns qY l1 f1 rfl
  clear hb qT
  go_wp2_with fail
  refine (e1 _ _ _ _ _ iQ iT).mono ?_
  rintro e w11 ⟨rfl, hb⟩
  replace bw := bel_trans bw hb
  replace qS := owns_below qS hb
  replace qX := owns_below qX hb
  replace qY := owns_below qY hb
  replace qG := owns_below qG hb
  clear hb
  clear iT iQ
  clear iX iY
  go_wp2_with fail
  refine (m0 _ _ _ qX).mono ?_
  rintro e w12 ⟨rfl, _, gr⟩
  replace bw := bw.grown gr bw.size (fun k hk => by cases hk; (try dsimp only); omega)
  replace qS := own_apart qS gr (fun x hx e => by cases e; have h9 := sS _ hx; (try dsimp only at h9); omega)
  replace qY := own_apart qY gr (fun x hx e => by cases e; simp [Value.ownBlock] at hx; omega)
  replace qG := own_apart qG gr (fun x hx e => by cases e; have h9 := sG _ hx; (try dsimp only at h9); omega)
  clear gr qX
  go_wp2_with fail
  refine (m1 _ _ _ qY).mono ?_
  rintro e w13 ⟨rfl, _, gr⟩
  replace bw := bw.grown gr bw.size (fun k hk => by cases hk; (try dsimp only); omega)
  replace qS := own_apart qS gr (fun x hx e => by cases e; have h9 := sS _ hx; (try dsimp only at h9); omega)
  replace qG := own_apart qG gr (fun x hx e => by cases e; have h9 := sG _ hx; (try dsimp only at h9); omega)
  clear gr qY m0 m1
  have hk : ¬ (1 + (n0 : Int) * 3 + (n1 : Int) * 3 < 0) := by omega
  go_wp2_with fail
  refine (eZ aG aS cG cS _ (iG _ qG) (iS _ qS)).mono ?_
  rintro e w14 ⟨rfl, hb⟩
  replace bw := bel_trans bw hb
  replace qS := owns_below qS hb
  replace qG := owns_below qG hb
  clear hb
  go_wp2_with fail
  refine (mZ _ _ _ qG).mono ?_
  rintro e w15 ⟨rfl, qH, gr⟩
  replace bw := bw.grown gr bw.size (fun k hk => by have := sG k hk; omega)
  replace qS := own_apart qS gr (fun x hx e => by have h9 := sS _ hx; have h8 := sG _ e; (try dsimp only at h9 h8); omega)
  clear gr qG
  have hkz : ¬ (1 + (zl : Int) * 3 < 0) := by omega
  have hkk : (1 + (zl : Int) * 3 != 1 + (zl : Int) * 3) = false := by simp
  go_wp2_with fail
  refine (hZ _ _ _ qH).mono ?_
  rintro e w77 ⟨rfl, rfl⟩
  go_wp2_with fail
  refine (t0 _ bw).mono ?_
  rintro e w16 ⟨rfl, ⟨_, rfl, qU⟩, hb⟩
  replace bw := bel_trans bw hb
  replace qS := owns_below qS hb
  replace qH := owns_below qH hb
  have iU := Instrs.of_owns qU l0 f0 rfl
  clear hb qU
  go_wp2_with fail
  refine (t1 _ bw).mono ?_
  rintro e w17 ⟨rfl, ⟨_, rfl, qU⟩, hb⟩
  replace bw := bel_trans bw hb
  replace qS := owns_below qS hb
  replace qH := owns_below qH hb
  replace iU := iU.below hb
  have iV := Instrs.of_owns qU l1 f1 rfl
  clear hb qU
  go_wp2_with fail
  refine (kI _ _ _ iU iV).mono ?_
  rintro e w18 ⟨⟨vH, rfl, qK⟩, hb⟩
  replace bw := bel_trans bw hb
  replace qS := owns_below qS hb
  replace qH := owns_below qH hb
  obtain ⟨aH, cH, rfl, iH⟩ := bugs_of_own qK fZ
  clear hb qK iU iV
  rw [hlz] at iH
  try rw [hlz]
  go_wp2_with fail
  refine (eZ aH aS cH cS _ iH (iS _ qS)).mono ?_
  rintro e w19 ⟨rfl, hb⟩
  replace bw := bel_trans bw hb
  replace qS := owns_below qS hb
  replace qH := owns_below qH hb
  clear hb
  go_wp2_with fail
  refine (hZ _ _ _ qH).mono ?_
  rintro e w78 ⟨rfl, rfl⟩
  go_wp2
  go_ret
  exact ⟨rfl, bw⟩
end Go.Proofs.Ytkmnnmgopnoffaa
