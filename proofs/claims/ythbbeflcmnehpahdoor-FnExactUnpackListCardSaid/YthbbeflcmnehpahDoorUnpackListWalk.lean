/-
  FnExactUnpackList: at every text the program's UnpackList answers as the specification's, and its answer owns its memory, behind another call too: the law's walk over the contracts.
-/
import Derived.Test.YthbbeflcmnehpahDoorUnpackList2
import Derived.Test.YthbbeflcmnehpahDoorErrLaid
namespace Go.Proofs.YthbbeflcmnehpahDoor
open Go.RowKit

theorem own_block {base : Nat} {w : World} {a : Option Addr} {n cap : Nat} {zs : List Int} (h : Own base w a n cap zs) : ∀ x, a = some x → n ≠ 0 → x.block < w.heap.size := by
  intro x hx hn
  rcases h.2.2.2 with h0 | ⟨g, e, ho⟩
  · exact absurd h0 hn
  · rw [e] at hx
    cases hx
    exact (ho.lt g rfl).2
theorem ints_drew {k : IntKind} {w : World} {a : Option Addr} {n cap : Nat} {zs : List Int} (h : Ints k w a n cap zs) (d : Nat) : Ints k (w.drewN d) a n cap zs := h
theorem own_drew {base : Nat} {w : World} {a : Option Addr} {n cap : Nat} {zs : List Int} (h : Own base w a n cap zs) (d : Nat) : Own base (w.drewN d) a n cap zs := h

theorem ints_zero (w : World) (a : Option Addr) : Ints .i64 w a 0 0 [] := ⟨rfl, Nat.le_refl _, by unfold maxLen; omega, .inl rfl⟩

set_option maxHeartbeats 4000000 in
set_option maxRecDepth 100000 in
theorem fnExactUnpackList_walk (a0 : ByteArray) (w0 : a0.size ≤ maxLen) (w : World) (hE : ErrType w) :
    Calls Tryd.prog 3 #[.string a0] w fun e w' => e = .returned (.bool true) ∧ Below w.heap.size w w' := by
  unfold maxLen at w0
  by_cases hb : 1048576 < a0.size
  · go_enter Tryd.func3, Tryd.ntmps3
    go_wp2
    go_ret
    exact ⟨rfl, Below.refl _ _⟩
  have hb' : a0.size ≤ 1048576 := by omega
  clear hb w0
  by_cases hl : 65536 < a0.size
  · go_enter Tryd.func3, Tryd.ntmps3
    go_wp2_with fail
    refine (specUnpackList_long a0 _ hb' hl).mono ?_
    rintro e w1 ⟨rfl, hb1⟩
    go_wp2_with fail
    refine (implUnpackList_long a0 _ hb' hl).mono ?_
    rintro e w2 ⟨rfl, rfl⟩
    go_wp2_with fail
    refine (eqIntS_same _ _ _ _ _ [] _ (ints_zero _ _) (ints_zero _ _)).mono ?_
    rintro e w3 ⟨rfl, d, rfl⟩
    go_wp2_with fail
    refine (markIntS_none _ _ _ _).mono ?_
    rintro e w4 ⟨rfl, rfl⟩
    go_wp2_with fail
    refine (heldIntS_yes _ 0 _ 1 [] _ (by omega) (by omega) (by omega) (ints_zero _ _) (fun i hi => by omega)).mono ?_
    rintro e w5 ⟨rfl, rfl⟩
    go_wp2_with fail
    refine (implUnpackList_long a0 _ hb' hl).mono ?_
    rintro e w6 ⟨rfl, rfl⟩
    go_wp2_with fail
    refine (eqIntS_same _ _ _ _ _ [] _ (ints_zero _ _) (ints_zero _ _)).mono ?_
    rintro e w7 ⟨rfl, d2, rfl⟩
    go_wp2_with fail
    refine (heldIntS_yes _ 0 _ 1 [] _ (by omega) (by omega) (by omega) (ints_zero _ _) (fun i hi => by omega)).mono ?_
    rintro e w8 ⟨rfl, rfl⟩
    go_wp2
    go_ret
    exact ⟨rfl, below_drewN hb1 _⟩
  · have hl' : a0.size ≤ 65536 := by omega
    clear hl hb'
    go_enter Tryd.func3, Tryd.ntmps3
    go_wp2_with fail
    refine (specUnpackList_any a0 _ hl').mono ?_
    rintro e w1 ⟨⟨a, cap, zs, c, hU, rfl, hO⟩, hb1⟩
    have hE1 := hE.below hb1
    have hz4 := hU.len
    have HU : Hid (IsUnpacked a0 zs c) := hU
    clear hU
    go_wp2_with fail
    refine (implUnpackList_any a0 _ hl' hE1).mono ?_
    rintro e w2 ⟨⟨a2, cap2, zs2, c2, hU2, rfl, hO2⟩, hb2⟩
    obtain ⟨e1, e2⟩ := HU.out.same hU2
    subst e1 e2
    clear hU2
    have hE2 := hE1.below hb2
    have hO1 := hO.kept hb2
    obtain ⟨n, hn⟩ : ∃ n, n = zs.length := ⟨_, rfl⟩
    rw [← hn] at hO1 hO2 hz4 hO
    rw [← hn]
    have HN : Hid (n = zs.length) := hn
    clear hn
    go_wp2_with fail
    refine (eqIntS_same _ _ _ _ _ (ofNats zs) _ hO2.ints hO1.ints).mono ?_
    rintro e w3 ⟨rfl, d, rfl⟩
    have hO3 := own_drew hO1 d
    have hM3 := own_drew hO2 d
    have hE3 : ErrType (w2.drewN d) := hE2
    go_wp2_with fail
    refine (markIntS_any w1.heap.size _ _ _ 1 (ofNats zs) _ (by omega) (by omega) (by omega) hM3).mono ?_
    rintro e w4 ⟨rfl, hM4, hb4⟩
    have hE4 : ErrType w4 := by
      have hlt := hE1.lt
      unfold ErrType at hE3 ⊢
      rw [hb4.cell (p := ⟨0, 0, none⟩) hlt]
      exact hE3
    have hI4 : Ints .i64 w4 a n cap (ofNats zs) := hO3.ints.below_base (fun x hx hx0 => own_block hO x hx hx0) hb4 hb4.size
    go_wp2_with fail
    refine (heldIntS_yes _ n _ 1 (mkTo 1 (ofNats zs) n) _ (by omega) (by omega) (by omega) hM4.ints (fun i hi => mkTo_get 1 (ofNats zs) n i hi (by rw [HN.out]; simp))).mono ?_
    rintro e w5 ⟨rfl, rfl⟩
    have hq1 : ¬ (1 + (n : Int)) < 0 := by omega
    go_wp2_with fail
    refine (implUnpackList_any a0 _ hl' hE4).mono ?_
    rintro e w6 ⟨⟨a6, cap6, zs6, c6, hU6, rfl, hO6⟩, hb6⟩
    obtain ⟨e1, e2⟩ := HU.out.same hU6
    subst e1 e2
    clear hU6
    have hM6 := hM4.kept hb6
    have hI6 := hI4.below hb6
    rw [← HN.out] at hO6
    rw [← HN.out]
    go_wp2_with fail
    refine (eqIntS_same _ _ _ _ _ (ofNats zs) _ hO6.ints hI6).mono ?_
    rintro e w7 ⟨rfl, d2, rfl⟩
    go_wp2_with fail
    refine (heldIntS_yes _ n _ 1 (mkTo 1 (ofNats zs) n) _ (by omega) (by omega) (by omega) (own_drew hM6 d2).ints (fun i hi => mkTo_get 1 (ofNats zs) n i hi (by rw [HN.out]; simp))).mono ?_
    rintro e w8 ⟨rfl, rfl⟩
    go_wp2
    go_ret
    refine ⟨rfl, ?_⟩
    have h12 := sub_trans hb1 hb2
    have h4' : Below w.heap.size w w4 := (below_drewN h12 d).trans (hb4.mono hb1.size)
    exact below_drewN (sub_trans h4' hb6) d2

theorem fnExactUnpackList_laid {W : World} (h : laidMetH Tryd.prog Rows.fnExactUnpackListRow.laid W) : ErrType W := errType_of_laid rfl h
theorem fnExactUnpackList_door_met (os : Os) (args : Array Value) : laidMetH Tryd.prog Rows.fnExactUnpackListRow.laid ((World.doorLaid Tryd.prog 400 os).forCall (fun _ _ => 0) ⟨#[], args, []⟩).memory :=
  laidMetH_of_parts3 (fuel := 8) (laidMet_of_run' 8 (by kernel_rfl) (by kernel_rfl)) (by kernel_rfl) (by kernel_rfl)
end Go.Proofs.YthbbeflcmnehpahDoor
