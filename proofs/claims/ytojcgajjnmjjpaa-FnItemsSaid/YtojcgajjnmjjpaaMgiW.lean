
/-
  FnExactMergeItems: both merge alike; no argument is changed, and the answer owns its memory.
-/
import Derived.Test.YtojcgajjnmjjpaaMgiJ
import Derived.Test.YtojcgajjnmjjpaaMk8
namespace Go.Proofs.Ytojcgajjnmjjpaa
open Go.RowKit
set_option linter.unusedVariables false
set_option linter.unusedSimpArgs false

theorem isRow_wfs {w : World} {a : Option Addr} {n c : Nat} {zs : List Int} (h : IsRow .i64 w a n c zs) : wfs (zs.take n) := by
  rcases h with ⟨rfl, rfl, rfl, rfl⟩ | ⟨x, _, _, _, _, _, h⟩
  · intro x hx
    simp at hx
  · exact fun x hx => h x (List.mem_of_mem_take hx)
set_option maxHeartbeats 8000000 in
set_option maxRecDepth 100000 in
theorem fnExactMergeItems_walk (a0 : Option Addr) (n0 c0 : Nat) (z0 : List Int) (a1 : Option Addr) (n1 c1 : Nat) (z1 : List Int) (w : World) (r0 : IsRow .i64 w a0 n0 c0 z0) (r1 : IsRow .i64 w a1 n1 c1 z1) :
    Calls Try.prog 7 #[.slice a0 n0 c0, .slice a1 n1 c1] w fun e w' => e = .returned (.bool true) ∧ Below w.heap.size w w' := by
  have h0 := Ints.of_isRow r0
  have h1 := Ints.of_isRow r1
  have f0 := isRow_wfs r0
  have f1 := isRow_wfs r1
  clear r0 r1
  generalize z0.take n0 = xs at *
  generalize z1.take n1 = ys at *
  have hm0 : n0 ≤ maxLen := Nat.le_trans h0.2.1 h0.2.2.1
  have hm1 : n1 ≤ maxLen := Nat.le_trans h1.2.1 h1.2.2.1
  unfold maxLen at hm0 hm1
  by_cases b0 : 1048576 < n0
  · clear h0 h1
    go_enter Try.func7, Try.ntmps7
    go_wp2
    go_ret
    exact ⟨rfl, Below.refl _ _⟩
  by_cases b1 : 1048576 < n1
  · clear h0 h1
    go_enter Try.func7, Try.ntmps7
    go_wp2
    go_ret
    exact ⟨rfl, Below.refl _ _⟩
  have hn0 : n0 ≤ 1048576 := by omega
  have hn1 : n1 ≤ 1048576 := by omega
  clear b0 b1 hm0 hm1
  have t0 := fun W (hb : Below w.heap.size w W) => to8 a0 n0 c0 xs W (h0.below hb) hn0
  have t1 := fun W (hb : Below w.heap.size w W) => to8 a1 n1 c1 ys W (h1.below hb) hn1
  have l0 := h0.1
  have l1 := h1.1
  have lZ := mgZ_len xs ys
  have kS := fun (g g' : Nat) (W : World) (i0 : Ints .i64 W (some ⟨g, 0, none⟩) n0 n0 xs) (i1 : Ints .i64 W (some ⟨g', 0, none⟩) n1 n1 ys) => specMergeItems_is (some ⟨g, 0, none⟩) n0 n0 xs (some ⟨g', 0, none⟩) n1 n1 ys W i0 i1 hn0 hn1 f0 f1
  have kI := fun (g g' : Nat) (W : World) (i0 : Ints .i64 W (some ⟨g, 0, none⟩) n0 n0 xs) (i1 : Ints .i64 W (some ⟨g', 0, none⟩) n1 n1 ys) => implMergeItems_is (some ⟨g, 0, none⟩) n0 n0 xs (some ⟨g', 0, none⟩) n1 n1 ys W i0 i1 hn0 hn1 f0 f1
  have e0 := fun (a a' : Option Addr) (c c' : Nat) (W : World) => eq8 a a' n0 c c' xs W
  have e1 := fun (a a' : Option Addr) (c c' : Nat) (W : World) => eq8 a a' n1 c c' ys W
  have eZ := fun (a a' : Option Addr) (c c' : Nat) (W : World) => eq8 a a' (mgZ xs ys).length c c' (mgZ xs ys) W
  have mZ := fun (B : Nat) (v : Value) (W : World) => markAny8 B v 1 (mgZ xs ys) W (by omega) (by omega) (by omega)
  have hZ := fun (B : Nat) (v : Value) (W : World) => heldAny8 B v 1 (mgZ xs ys) W (by omega) (by omega) (by omega)
  have m0 := fun (B : Nat) (v : Value) (W : World) => markAny8 B v 1 xs W (by omega) (by omega) (by omega)
  have m1 := fun (B : Nat) (v : Value) (W : World) => markAny8 B v (1 + (xs.length : Int)) ys W (by omega) (by omega) (by omega)
  rw [l0] at m0 m1
  simp only [l1] at m1
  generalize mgC xs ys = cd at *
  generalize mgZ xs ys = Z at *
  clear h0 h1
  have hcc : (cd != cd) = false := by simp
  go_enter Try.func7, Try.ntmps7
  have bw : Below w.heap.size w w := Below.refl _ _

  go_wp2_with fail
  refine (t0 _ bw).mono ?_
  rintro e w1 ⟨rfl, ⟨_, rfl, qA⟩, hb⟩
  replace bw := bel8 bw hb
  have iA := ints8 qA
  clear hb
  clear qA
  go_wp2_with fail
  refine (t1 _ bw).mono ?_
  rintro e w2 ⟨rfl, ⟨_, rfl, qB⟩, hb⟩
  replace bw := bel8 bw hb
  replace iA := iA.below hb
  have iB := ints8 qB
  clear hb
  clear qB
  go_wp2_with fail
  refine (kS _ _ _ iA iB).mono ?_
  rintro e w3 ⟨⟨vS, rfl, qS⟩, hb⟩
  replace bw := bel8 bw hb
  replace iA := iA.below hb
  replace iB := iB.below hb
  obtain ⟨aS, cS, rfl⟩ := slice8 qS
  have sS := (fun x hx => (qS.lt x hx).2 : ∀ x, (Value.slice aS Z.length cS).ownBlock = some x → x < w3.heap.size)
  have sw2 : w.heap.size ≤ w3.heap.size := bw.size
  clear hb iA iB kS
  go_wp2_with fail
  refine (t0 _ bw).mono ?_
  rintro e w4 ⟨rfl, ⟨_, rfl, qX⟩, hb⟩
  replace bw := bel8 bw hb
  replace qS := owns8 qS hb
  have s34 := hb.size
  have sw3 : w.heap.size ≤ w3.heap.size := Nat.le_trans sw2 (Nat.le_refl _)
  have sX : w3.heap.size < w4.heap.size := (qX.lt _ rfl).2
  clear hb
  generalize hX : w3.heap.size = gX at *
  go_wp2_with fail
  refine (t1 _ bw).mono ?_
  rintro e w5 ⟨rfl, ⟨_, rfl, qY⟩, hb⟩
  replace bw := bel8 bw hb
  replace qS := owns8 qS hb
  replace qX := owns8 qX hb
  have sY : w4.heap.size < w5.heap.size := (qY.lt _ rfl).2
  clear hb
  generalize hY : w4.heap.size = gY at *
  have iX := ints8 qX
  have iY := ints8 qY
  go_wp2_with fail
  refine (kI gX gY _ iX iY).mono ?_
  rintro e w6 ⟨⟨vG, rfl, qG⟩, hb⟩
  replace bw := bel8 bw hb
  replace qS := owns8 qS hb
  replace qX := owns8 qX hb
  replace qY := owns8 qY hb
  replace iX := iX.below hb
  replace iY := iY.below hb
  clear hb
  have iS : ∀ W, W.ownsRow w2.heap.size 3 1 (.slice aS Z.length cS) Z.length (Z.map (Value.int .i64)) → Ints .i64 W aS Z.length cS Z := fun W q => ints8 q
  have sG := (fun x hx => (qG.lt x hx).1 : ∀ x, vG.ownBlock = some x → w5.heap.size ≤ x)
  obtain ⟨aG, cG, rfl⟩ := slice8 qG
  have iG : ∀ W, W.ownsRow w5.heap.size 3 1 (.slice aG Z.length cG) Z.length (Z.map (Value.int .i64)) → Ints .i64 W aG Z.length cG Z := fun W q => ints8 q
  generalize w5.heap.size = B5 at *
  generalize w2.heap.size = B2 at *
  generalize hlz : Z.length = zl at *
  go_wp2_with fail
  refine (eZ aG aS cG cS _ (iG _ qG) (iS _ qS)).mono ?_
  rintro e w7 ⟨rfl, hb⟩
  replace bw := bel8 bw hb
  replace qS := owns8 qS hb
  replace qX := owns8 qX hb
  replace qY := owns8 qY hb
  replace qG := owns8 qG hb
  clear hb
  go_wp2_with fail
  refine (t0 _ bw).mono ?_
  rintro e w8 ⟨rfl, ⟨_, rfl, qT⟩, hb⟩
  replace bw := bel8 bw hb
  replace qS := owns8 qS hb
  replace qX := owns8 qX hb
  replace qY := owns8 qY hb
  replace qG := owns8 qG hb
  have iT := ints8 qT
  have iQ := ints8 qX
  clear hb qT
  go_wp2_with fail
  refine (e0 _ _ _ _ _ iQ iT).mono ?_
  rintro e w9 ⟨rfl, hb⟩
  replace bw := bel8 bw hb
  replace qS := owns8 qS hb
  replace qX := owns8 qX hb
  replace qY := owns8 qY hb
  replace qG := owns8 qG hb
  clear hb
  clear iT iQ
  go_wp2_with fail
  refine (t1 _ bw).mono ?_
  rintro e w10 ⟨rfl, ⟨_, rfl, qT⟩, hb⟩
  replace bw := bel8 bw hb
  replace qS := owns8 qS hb
  replace qX := owns8 qX hb
  replace qY := owns8 qY hb
  replace qG := owns8 qG hb
  have iT := ints8 qT
  have iQ := ints8 qY
  clear hb qT
  go_wp2_with fail
  refine (e1 _ _ _ _ _ iQ iT).mono ?_
  rintro e w11 ⟨rfl, hb⟩
  replace bw := bel8 bw hb
  replace qS := owns8 qS hb
  replace qX := owns8 qX hb
  replace qY := owns8 qY hb
  replace qG := owns8 qG hb
  clear hb
  clear iT iQ
  clear iX iY
  go_wp2_with fail
  refine (m0 _ _ _ qX).mono ?_
  rintro e w12 ⟨rfl, _, gr⟩
  replace bw := bw.grown gr bw.size (fun k hk => by cases hk; (try dsimp only); omega)
  replace qS := apart8 qS gr (fun x hx e => by cases e; have h9 := sS _ hx; (try dsimp only at h9); omega)
  replace qY := apart8 qY gr (fun x hx e => by cases e; simp [Value.ownBlock] at hx; omega)
  replace qG := apart8 qG gr (fun x hx e => by cases e; have h9 := sG _ hx; (try dsimp only at h9); omega)
  clear gr qX
  go_wp2_with fail
  refine (m1 _ _ _ qY).mono ?_
  rintro e w13 ⟨rfl, _, gr⟩
  replace bw := bw.grown gr bw.size (fun k hk => by cases hk; (try dsimp only); omega)
  replace qS := apart8 qS gr (fun x hx e => by cases e; have h9 := sS _ hx; (try dsimp only at h9); omega)
  replace qG := apart8 qG gr (fun x hx e => by cases e; have h9 := sG _ hx; (try dsimp only at h9); omega)
  clear gr qY m0 m1
  have hk : ¬ (1 + (n0 : Int) + (n1 : Int) < 0) := by omega
  go_wp2_with fail
  refine (eZ aG aS cG cS _ (iG _ qG) (iS _ qS)).mono ?_
  rintro e w14 ⟨rfl, hb⟩
  replace bw := bel8 bw hb
  replace qS := owns8 qS hb
  replace qG := owns8 qG hb
  clear hb
  go_wp2_with fail
  refine (mZ _ _ _ qG).mono ?_
  rintro e w15 ⟨rfl, qH, gr⟩
  replace bw := bw.grown gr bw.size (fun k hk => by have := sG k hk; omega)
  replace qS := apart8 qS gr (fun x hx e => by have h9 := sS _ hx; have h8 := sG _ e; (try dsimp only at h9 h8); omega)
  clear gr qG
  have hkz : ¬ (1 + (zl : Int) < 0) := by omega
  have hkk : (1 + (zl : Int) != 1 + (zl : Int)) = false := by simp
  go_wp2_with fail
  refine (hZ _ _ _ qH).mono ?_
  rintro e w77 ⟨rfl, rfl⟩
  go_wp2_with fail
  refine (t0 _ bw).mono ?_
  rintro e w16 ⟨rfl, ⟨_, rfl, qU⟩, hb⟩
  replace bw := bel8 bw hb
  replace qS := owns8 qS hb
  replace qH := owns8 qH hb
  have iU := ints8 qU
  clear hb qU
  go_wp2_with fail
  refine (t1 _ bw).mono ?_
  rintro e w17 ⟨rfl, ⟨_, rfl, qU⟩, hb⟩
  replace bw := bel8 bw hb
  replace qS := owns8 qS hb
  replace qH := owns8 qH hb
  replace iU := iU.below hb
  have iV := ints8 qU
  clear hb qU
  go_wp2_with fail
  refine (kI _ _ _ iU iV).mono ?_
  rintro e w18 ⟨⟨vH, rfl, qK⟩, hb⟩
  replace bw := bel8 bw hb
  replace qS := owns8 qS hb
  replace qH := owns8 qH hb
  obtain ⟨aH, cH, rfl⟩ := slice8 qK
  have iH := ints8 qK
  clear hb qK iU iV
  rw [hlz] at iH
  try rw [hlz]
  go_wp2_with fail
  refine (eZ aH aS cH cS _ iH (iS _ qS)).mono ?_
  rintro e w19 ⟨rfl, hb⟩
  replace bw := bel8 bw hb
  replace qS := owns8 qS hb
  replace qH := owns8 qH hb
  clear hb
  go_wp2_with fail
  refine (hZ _ _ _ qH).mono ?_
  rintro e w78 ⟨rfl, rfl⟩
  go_wp2
  go_ret
  exact ⟨rfl, bw⟩
end Go.Proofs.Ytojcgajjnmjjpaa
