/-
  Joined: FnxW.
-/
import Derived.Test.YtdojjmkpelgcaaaDoorX39
import Derived.Test.YtdojjmkpelgcaaaDoorX46
import Derived.Test.YtdojjmkpelgcaaaDoorX47

namespace Go.Proofs.YtdojjmkpelgcaaaDoor
set_option maxRecDepth 100000
open Go.RowKit
set_option linter.unusedVariables false
set_option linter.unusedSimpArgs false

theorem nxtC_ok {rows : List (List I3)} {m : V4} {k : Nat} (hp : progOk rows = true) (hs : shapeOk m = true) (hk : k < 3) : nxtC rows m (k : Int) = if doneM rows m k then 10 else 0 := by
 unfold nxtC
 rw [hp, hs, Int.toNat_natCast]
 simp only [Bool.and_self, if_true]
 rw [if_pos (by omega)]
theorem nxtE_ok {rows : List (List I3)} {m : V4} {k : Nat} (hp : progOk rows = true) (hs : shapeOk m = true) (hk : k < 3) (hd : doneM rows m k = false) : nxtE rows m (k : Int) = eventM rows m k := by
 unfold nxtE
 rw [nxtC_ok hp hs hk, hd, Int.toNat_natCast]
 rfl
theorem still_one {rows : List (List I3)} {m : V4} {j k : Nat} : stillM rows m [(j : Int)] (k : Int) = if depM (eventM rows m k) (eventM rows m j) then [] else [(j : Int)] := by
 unfold stillM
 rw [Int.toNat_natCast]
 cases h : depM (eventM rows m k) (eventM rows m j) <;> simp [h]

set_option maxHeartbeats 4000000 in
theorem fnNext_walk (a0 : Option Addr) (len0 cap0 : Nat) (z0 : List Int) (a1 : Option Addr) (len1 cap1 : Nat) (z1 : List Int) (w : World) (h0 : IsRow .u8 w a0 len0 cap0 z0) (h1 : IsRow .u8 w a1 len1 cap1 z1) (hV : VmShape w) :
  Calls Tryd.prog 3 #[.slice a0 len0 cap0, .slice a1 len1 cap1] w fun e w' => e = .returned (.bool true) ∧ Below w.heap.size w w' := by
 have m0 := h0.len_le
 have m1 := h1.len_le
 unfold maxLen at m0 m1
 by_cases hb0 : 1048576 < len0
 ·go_enter Tryd.func3, Tryd.ntmps3
  go_wp2
  go_ret
  exact ⟨rfl, Below.refl _ _⟩
 by_cases hb1 : 1048576 < len1
 ·go_enter Tryd.func3, Tryd.ntmps3
  go_wp2
  go_ret
  exact ⟨rfl, Below.refl _ _⟩
 have l0 : len0 ≤ 1048576 := by omega
 have l1 : len1 ≤ 1048576 := by omega
 clear hb0 hb1 m0 m1
 have bw : Below w.heap.size w w := Below.refl _ _
 go_enter Tryd.func3, Tryd.ntmps3
 go_wp2_with fail
 refine (programDrawn_any _ _ _ z0 _ h0 l0).mono ?_
 rintro e w1 ⟨⟨v, rows, hok, rfl, ho⟩, hb⟩
 have h3 := (progOk_parts hok).1
 obtain ⟨a, cap, hv⟩ := ho.slice
 rw [h3] at hv
 subst hv
 have hC := ho.codes (fun r hr x hx => okI_fits ((progOk_parts hok).2 r hr |>.2 x hx))
 clear ho h0
 replace h1 := h1.below hb
 replace hV := hV.below hb
 replace bw := bel_trans bw hb
 clear hb h3
 have HOK : Hid (progOk rows = true) := hok
 clear hok
 have ha : Below w1.heap.size w1 (w1.alloc (.cells #[.slice a 3 cap] 25)) := by go_grown
 have pP : Blk (w1.alloc (.cells #[.slice a 3 cap] 25)) w1.heap.size 25 [.slice a 3 cap] := blkAt _ _ _ rfl
 replace h1 := h1.below ha
 replace hV := hV.below ha
 replace hC := hC.below ha
 replace bw := bel_trans bw ha
 clear ha
 go_wp2_with (first | refine wpList_load_blk rfl 25 _ rfl w1.heap.size rfl pP _ Tryd.underlying25 rfl (by kernel_rfl) ?_)
 generalize (w1.alloc (.cells #[.slice a 3 cap] 25)) = wp at *
 generalize w1.heap.size = P at *
 refine (vmDrawn_any _ _ _ z1 a cap rows _ h1 l1 hC HOK.out).mono ?_
 rintro e w2 ⟨⟨⟨⟨s0a, s0n, s0c⟩, ⟨s1a, s1n, s1c⟩, ⟨s2a, s2n, s2c⟩, ⟨s3a, s3n, s3c⟩⟩, m, rfl, hO, hs⟩, hb⟩
 have us : S4.val ((s0a, s0n, s0c), (s1a, s1n, s1c), (s2a, s2n, s2c), (s3a, s3n, s3c)) = .agg #[.slice s0a s0n s0c, .slice s1a s1n s1c, .slice s2a s2n s2c, .slice s3a s3n s3c] := rfl
 rw [us]
 have hM := hO.mem (shape_fits9 hs).1
 have HS : Hid (shapeOk m = true) := hs
 replace h1 := h1.below hb
 replace hV := hV.below hb
 replace hC := hC.below hb
 replace pP := pP.below hb
 replace bw := bel_trans bw hb
 clear hb hO hs
 have pN := Blk.new w2 29 [.slice none 0 0, .slice none 0 0, .slice none 0 0, .slice none 0 0]
 have ha : Below w2.heap.size w2 (w2.alloc (.cells #[.slice none 0 0, .slice none 0 0, .slice none 0 0, .slice none 0 0] 29)) := by go_grown
 go_wp2_with (refine wpList_store_blk rfl 29 _ _ rfl w2.heap.size [.slice s0a s0n s0c, .slice s1a s1n s1c, .slice s2a s2n s2c, .slice s3a s3n s3c] rfl rfl pN (by kernel_rfl) rfl rfl ?_)
 intro w3 p3 g3
 have pX := p3.out
 have hb : Below w2.heap.size w2 w3 := ha.grown g3 ha.size (fun q e => by cases e; exact Nat.le_refl _)
 replace h1 := h1.below hb
 replace hV := hV.below hb
 replace hC := hC.below hb
 replace hM := hM.below hb
 replace pP := pP.below hb
 replace bw := bel_trans bw hb
 clear p3 g3 ha pN hb
 generalize w2.heap.size = X at *
 go_wp2_with fail
 refine (at_any a1 len1 cap1 z1 0 3 _ h1 l1 (by omega) (by omega) (by omega)).mono ?_
 rintro e w4 ⟨⟨k, hk, rfl⟩, d, rfl⟩
 have hk3 : k < 3 := by omega
 have hb : Below w3.heap.size w3 (w3.drewN d) := below_drewN (Below.refl _ _) d
 replace h1 := h1.below hb
 replace hV := hV.below hb
 replace hC := hC.below hb
 replace hM := hM.below hb
 replace pP := pP.below hb
 replace pX := pX.below hb
 replace bw := bel_trans bw hb
 clear hb hk
 generalize w3.drewN d = w5 at *
 go_wp2_with fail
 refine (at_any a1 len1 cap1 z1 1 3 _ h1 l1 (by omega) (by omega) (by omega)).mono ?_
 rintro e w6 ⟨⟨j, hj, rfl⟩, d9, rfl⟩
 have hj3 : j < 3 := by omega
 have hb : Below w5.heap.size w5 (w5.drewN d9) := below_drewN (Below.refl _ _) d9
 replace hV := hV.below hb
 replace hC := hC.below hb
 replace hM := hM.below hb
 replace pP := pP.below hb
 replace pX := pX.below hb
 replace bw := bel_trans bw hb
 clear hb hj h1
 generalize w5.drewN d9 = u0 at *
 have kI := fun (q : Nat) (W : World) (b : Below u0.heap.size u0 W) => implNextEvent_is a 3 cap rows ((s0a, s0n, s0c), (s1a, s1n, s1c), (s2a, s2n, s2c), (s3a, s3n, s3c)) m (q : Int) W (hC.below b) (hM.below b) (hV.below b)
 have kS := fun (W : World) (b : Below u0.heap.size u0 W) => specNextEvent_is a 3 cap rows ((s0a, s0n, s0c), (s1a, s1n, s1c), (s2a, s2n, s2c), (s3a, s3n, s3c)) m (k : Int) W (hC.below b) (hM.below b)
 have kO := fun (W : World) (b : Below u0.heap.size u0 W) (g c B9 : Nat) hq => implStillSleeps_one a 3 cap rows ((s0a, s0n, s0c), (s1a, s1n, s1c), (s2a, s2n, s2c), (s3a, s3n, s3c)) m k j g c B9 W (hC.below b) (hM.below b) (hV.below b) HOK.out HS.out hk3 hj3 hq
 rw [us] at kI kS kO
 have kIk := kI k
 have kIj := kI j
 have eCk := nxtC_ok HOK.out HS.out hk3
 have eCj := nxtC_ok HOK.out HS.out hj3
 have eEk := nxtE_ok HOK.out HS.out hk3
 have eEj := nxtE_ok HOK.out HS.out hj3
 have eSt := still_one (rows := rows) (m := m) (j := j) (k := k)
 unfold I4.val at kIk kIj kS
 rw [eCk] at kIk kS
 rw [eCj] at kIj
 clear eCk eCj kI hC hM hV us
 have b0 : Below u0.heap.size u0 u0 := Below.refl _ _
 have HKJ : Hid (∀ q : Nat, q < 3 → True) := fun _ _ => trivial
 clear HKJ
 cases hdk : doneM rows m k with
 | true =>
  rw [hdk] at kIk kS
  have HD : Hid (doneM rows m k = true) := hdk
  clear hdk eEk eEj eSt
  generalize nxtE rows m (k : Int) = ek at *
  generalize nxtE rows m (j : Int) = ej at *
  cases hdj : doneM rows m j with
  | true =>
   rw [hdj] at kIj
   simp only [if_true, Bool.false_eq_true, if_false] at kIk kIj kS
   obtain ⟨x0, x1, x2, x3⟩ := ek
   obtain ⟨y0, y1, y2, y3⟩ := ej
   simp only at kIk kIj kS
   have kx := kIk u0 b0
   go_wp2_with (first | refine wpList_load_blk rfl 25 _ rfl P rfl pP _ Tryd.underlying25 rfl (by kernel_rfl) ?_ | refine wpList_load_blk rfl 29 _ rfl X rfl pX _ Tryd.underlying29 rfl (by kernel_rfl) ?_)
   refine kx.mono ?_
   rintro e u1 ⟨rfl, hb⟩
   replace b0 := bel_trans b0 hb
   replace bw := bel_trans bw hb
   replace pP := pP.below hb
   replace pX := pX.below hb
   clear hb kx
   have pN := Blk.new u1 33 [.int .i64 0, .int .i64 0, .int .i64 0, .int .i64 0]
   have ha : Below u1.heap.size u1 (u1.alloc (.cells #[.int .i64 0, .int .i64 0, .int .i64 0, .int .i64 0] 33)) := by go_grown
   go_wp2_with (refine wpList_store_blk rfl 33 _ _ rfl u1.heap.size [.int .i64 x0, .int .i64 x1, .int .i64 x2, .int .i64 x3] rfl rfl pN (by kernel_rfl) rfl rfl ?_)
   intro u2 p9 g9
   have pk := p9.out
   have hb : Below u1.heap.size u1 u2 := ha.grown g9 ha.size (fun q e => by cases e; exact Nat.le_refl _)
   replace b0 := bel_trans b0 hb
   replace bw := bel_trans bw hb
   replace pP := pP.below hb
   replace pX := pX.below hb
   clear p9 g9 ha pN hb
   generalize u1.heap.size = Gpk at *
   have kx := kIj u2 b0
   go_wp2_with (first | refine wpList_load_blk rfl 25 _ rfl P rfl pP _ Tryd.underlying25 rfl (by kernel_rfl) ?_ | refine wpList_load_blk rfl 29 _ rfl X rfl pX _ Tryd.underlying29 rfl (by kernel_rfl) ?_)
   refine kx.mono ?_
   rintro e u3 ⟨rfl, hb⟩
   replace b0 := bel_trans b0 hb
   replace bw := bel_trans bw hb
   replace pP := pP.below hb
   replace pX := pX.below hb
   replace pk := pk.below hb
   clear hb kx
   have pN := Blk.new u3 33 [.int .i64 0, .int .i64 0, .int .i64 0, .int .i64 0]
   have ha : Below u3.heap.size u3 (u3.alloc (.cells #[.int .i64 0, .int .i64 0, .int .i64 0, .int .i64 0] 33)) := by go_grown
   go_wp2_with (refine wpList_store_blk rfl 33 _ _ rfl u3.heap.size [.int .i64 y0, .int .i64 y1, .int .i64 y2, .int .i64 y3] rfl rfl pN (by kernel_rfl) rfl rfl ?_)
   intro u4 p9 g9
   have pj := p9.out
   have hb : Below u3.heap.size u3 u4 := ha.grown g9 ha.size (fun q e => by cases e; exact Nat.le_refl _)
   replace b0 := bel_trans b0 hb
   replace bw := bel_trans bw hb
   replace pP := pP.below hb
   replace pX := pX.below hb
   replace pk := pk.below hb
   clear p9 g9 ha pN hb
   generalize u3.heap.size = Gpj at *
   have kx := kS u4 b0
   go_wp2_with (first | refine wpList_load_blk rfl 25 _ rfl P rfl pP _ Tryd.underlying25 rfl (by kernel_rfl) ?_ | refine wpList_load_blk rfl 29 _ rfl X rfl pX _ Tryd.underlying29 rfl (by kernel_rfl) ?_)
   refine kx.mono ?_
   rintro e u5 ⟨rfl, hb⟩
   replace b0 := bel_trans b0 hb
   replace bw := bel_trans bw hb
   replace pP := pP.below hb
   replace pX := pX.below hb
   replace pk := pk.below hb
   replace pj := pj.below hb
   clear hb kx
   have pN := Blk.new u5 33 [.int .i64 0, .int .i64 0, .int .i64 0, .int .i64 0]
   have ha : Below u5.heap.size u5 (u5.alloc (.cells #[.int .i64 0, .int .i64 0, .int .i64 0, .int .i64 0] 33)) := by go_grown
   go_wp2_with (refine wpList_store_blk rfl 33 _ _ rfl u5.heap.size [.int .i64 x0, .int .i64 x1, .int .i64 x2, .int .i64 x3] rfl rfl pN (by kernel_rfl) rfl rfl ?_)
   intro u6 p9 g9
   have pw := p9.out
   have hb : Below u5.heap.size u5 u6 := ha.grown g9 ha.size (fun q e => by cases e; exact Nat.le_refl _)
   replace b0 := bel_trans b0 hb
   replace bw := bel_trans bw hb
   replace pP := pP.below hb
   replace pX := pX.below hb
   replace pk := pk.below hb
   replace pj := pj.below hb
   clear p9 g9 ha pN hb
   generalize u5.heap.size = Gpw at *
   have pP6 := pP
   have pX6 := pX
   have ha : Below u6.heap.size u6 (u6.alloc (.cells #[.int .i64 (j : Int)] 3)) := by go_grown
   have ql : (u6.alloc (.cells #[.int .i64 (j : Int)] 3)).ownsRow u6.heap.size 3 1 (.slice (some ⟨u6.heap.size, 0, none⟩) 1 1) 1 [.int .i64 (j : Int)] := World.ownsRow_lit u6 #[.int .i64 (j : Int)] 1 (Nat.le_refl _) (by unfold maxLen; omega) rfl
   replace b0 := bel_trans b0 ha
   replace bw := bel_trans bw ha
   replace pP := pP.below ha
   replace pX := pX.below ha
   replace pk := pk.below ha
   replace pj := pj.below ha
   replace pw := pw.below ha
   have kOx := kO (u6.alloc (.cells #[.int .i64 (j : Int)] 3)) b0 _ _ _ ql
   clear kO kIk kIj kS ql ha
   go_wp2_with (first | refine wpList_load_blk rfl 25 _ rfl P rfl pP6 _ Tryd.underlying25 rfl (by kernel_rfl) ?_ | refine wpList_load_blk rfl 29 _ rfl X rfl pX6 _ Tryd.underlying29 rfl (by kernel_rfl) ?_)
   generalize (u6.alloc (.cells #[.int .i64 (j : Int)] 3)) = u7 at *
   clear pP6 pX6
   refine kOx.mono ?_
   rintro e u8 ⟨⟨v, rfl, hv⟩, hb⟩
   replace b0 := bel_trans b0 hb
   replace bw := bel_trans bw hb
   replace pP := pP.below hb
   replace pX := pX.below hb
   replace pk := pk.below hb
   replace pj := pj.below hb
   replace pw := pw.below hb
   clear hb kOx
   have ck0 := pk.cell 0
   have ck1 := pk.cell 1
   have ck2 := pk.cell 2
   have ck3 := pk.cell 3
   have cw0 := pw.cell 0
   have cw1 := pw.cell 1
   have cw2 := pw.cell 2
   have cw3 := pw.cell 3
   have cj0 := pj.cell 0
   have cj1 := pj.cell 1
   have cj2 := pj.cell 2
   have cj3 := pj.cell 3
   simp only [List.getElem?_cons_zero, List.getElem?_cons_succ] at ck0 ck1 ck2 ck3 cw0 cw1 cw2 cw3 cj0 cj1 cj2 cj3
   have x00 : (x0 == x0) = true := by simp
   have x11 : (x1 == x1) = true := by simp
   have x22 : (x2 == x2) = true := by simp
   have x33 : (x3 == x3) = true := by simp
   rw [HD.out, Bool.or_true]
   simp only [if_true]
   clear hv HD hdj
   go_wp2
   go_ret
   exact ⟨rfl, bw⟩
  | false =>
   rw [hdj] at kIj
   simp only [if_true, Bool.false_eq_true, if_false] at kIk kIj kS
   obtain ⟨x0, x1, x2, x3⟩ := ek
   obtain ⟨y0, y1, y2, y3⟩ := ej
   simp only at kIk kIj kS
   have kx := kIk u0 b0
   go_wp2_with (first | refine wpList_load_blk rfl 25 _ rfl P rfl pP _ Tryd.underlying25 rfl (by kernel_rfl) ?_ | refine wpList_load_blk rfl 29 _ rfl X rfl pX _ Tryd.underlying29 rfl (by kernel_rfl) ?_)
   refine kx.mono ?_
   rintro e u1 ⟨rfl, hb⟩
   replace b0 := bel_trans b0 hb
   replace bw := bel_trans bw hb
   replace pP := pP.below hb
   replace pX := pX.below hb
   clear hb kx
   have pN := Blk.new u1 33 [.int .i64 0, .int .i64 0, .int .i64 0, .int .i64 0]
   have ha : Below u1.heap.size u1 (u1.alloc (.cells #[.int .i64 0, .int .i64 0, .int .i64 0, .int .i64 0] 33)) := by go_grown
   go_wp2_with (refine wpList_store_blk rfl 33 _ _ rfl u1.heap.size [.int .i64 x0, .int .i64 x1, .int .i64 x2, .int .i64 x3] rfl rfl pN (by kernel_rfl) rfl rfl ?_)
   intro u2 p9 g9
   have pk := p9.out
   have hb : Below u1.heap.size u1 u2 := ha.grown g9 ha.size (fun q e => by cases e; exact Nat.le_refl _)
   replace b0 := bel_trans b0 hb
   replace bw := bel_trans bw hb
   replace pP := pP.below hb
   replace pX := pX.below hb
   clear p9 g9 ha pN hb
   generalize u1.heap.size = Gpk at *
   have kx := kIj u2 b0
   go_wp2_with (first | refine wpList_load_blk rfl 25 _ rfl P rfl pP _ Tryd.underlying25 rfl (by kernel_rfl) ?_ | refine wpList_load_blk rfl 29 _ rfl X rfl pX _ Tryd.underlying29 rfl (by kernel_rfl) ?_)
   refine kx.mono ?_
   rintro e u3 ⟨rfl, hb⟩
   replace b0 := bel_trans b0 hb
   replace bw := bel_trans bw hb
   replace pP := pP.below hb
   replace pX := pX.below hb
   replace pk := pk.below hb
   clear hb kx
   have pN := Blk.new u3 33 [.int .i64 0, .int .i64 0, .int .i64 0, .int .i64 0]
   have ha : Below u3.heap.size u3 (u3.alloc (.cells #[.int .i64 0, .int .i64 0, .int .i64 0, .int .i64 0] 33)) := by go_grown
   go_wp2_with (refine wpList_store_blk rfl 33 _ _ rfl u3.heap.size [.int .i64 y0, .int .i64 y1, .int .i64 y2, .int .i64 y3] rfl rfl pN (by kernel_rfl) rfl rfl ?_)
   intro u4 p9 g9
   have pj := p9.out
   have hb : Below u3.heap.size u3 u4 := ha.grown g9 ha.size (fun q e => by cases e; exact Nat.le_refl _)
   replace b0 := bel_trans b0 hb
   replace bw := bel_trans bw hb
   replace pP := pP.below hb
   replace pX := pX.below hb
   replace pk := pk.below hb
   clear p9 g9 ha pN hb
   generalize u3.heap.size = Gpj at *
   have kx := kS u4 b0
   go_wp2_with (first | refine wpList_load_blk rfl 25 _ rfl P rfl pP _ Tryd.underlying25 rfl (by kernel_rfl) ?_ | refine wpList_load_blk rfl 29 _ rfl X rfl pX _ Tryd.underlying29 rfl (by kernel_rfl) ?_)
   refine kx.mono ?_
   rintro e u5 ⟨rfl, hb⟩
   replace b0 := bel_trans b0 hb
   replace bw := bel_trans bw hb
   replace pP := pP.below hb
   replace pX := pX.below hb
   replace pk := pk.below hb
   replace pj := pj.below hb
   clear hb kx
   have pN := Blk.new u5 33 [.int .i64 0, .int .i64 0, .int .i64 0, .int .i64 0]
   have ha : Below u5.heap.size u5 (u5.alloc (.cells #[.int .i64 0, .int .i64 0, .int .i64 0, .int .i64 0] 33)) := by go_grown
   go_wp2_with (refine wpList_store_blk rfl 33 _ _ rfl u5.heap.size [.int .i64 x0, .int .i64 x1, .int .i64 x2, .int .i64 x3] rfl rfl pN (by kernel_rfl) rfl rfl ?_)
   intro u6 p9 g9
   have pw := p9.out
   have hb : Below u5.heap.size u5 u6 := ha.grown g9 ha.size (fun q e => by cases e; exact Nat.le_refl _)
   replace b0 := bel_trans b0 hb
   replace bw := bel_trans bw hb
   replace pP := pP.below hb
   replace pX := pX.below hb
   replace pk := pk.below hb
   replace pj := pj.below hb
   clear p9 g9 ha pN hb
   generalize u5.heap.size = Gpw at *
   have pP6 := pP
   have pX6 := pX
   have ha : Below u6.heap.size u6 (u6.alloc (.cells #[.int .i64 (j : Int)] 3)) := by go_grown
   have ql : (u6.alloc (.cells #[.int .i64 (j : Int)] 3)).ownsRow u6.heap.size 3 1 (.slice (some ⟨u6.heap.size, 0, none⟩) 1 1) 1 [.int .i64 (j : Int)] := World.ownsRow_lit u6 #[.int .i64 (j : Int)] 1 (Nat.le_refl _) (by unfold maxLen; omega) rfl
   replace b0 := bel_trans b0 ha
   replace bw := bel_trans bw ha
   replace pP := pP.below ha
   replace pX := pX.below ha
   replace pk := pk.below ha
   replace pj := pj.below ha
   replace pw := pw.below ha
   have kOx := kO (u6.alloc (.cells #[.int .i64 (j : Int)] 3)) b0 _ _ _ ql
   clear kO kIk kIj kS ql ha
   go_wp2_with (first | refine wpList_load_blk rfl 25 _ rfl P rfl pP6 _ Tryd.underlying25 rfl (by kernel_rfl) ?_ | refine wpList_load_blk rfl 29 _ rfl X rfl pX6 _ Tryd.underlying29 rfl (by kernel_rfl) ?_)
   generalize (u6.alloc (.cells #[.int .i64 (j : Int)] 3)) = u7 at *
   clear pP6 pX6
   refine kOx.mono ?_
   rintro e u8 ⟨⟨v, rfl, hv⟩, hb⟩
   replace b0 := bel_trans b0 hb
   replace bw := bel_trans bw hb
   replace pP := pP.below hb
   replace pX := pX.below hb
   replace pk := pk.below hb
   replace pj := pj.below hb
   replace pw := pw.below hb
   clear hb kOx
   have ck0 := pk.cell 0
   have ck1 := pk.cell 1
   have ck2 := pk.cell 2
   have ck3 := pk.cell 3
   have cw0 := pw.cell 0
   have cw1 := pw.cell 1
   have cw2 := pw.cell 2
   have cw3 := pw.cell 3
   have cj0 := pj.cell 0
   have cj1 := pj.cell 1
   have cj2 := pj.cell 2
   have cj3 := pj.cell 3
   simp only [List.getElem?_cons_zero, List.getElem?_cons_succ] at ck0 ck1 ck2 ck3 cw0 cw1 cw2 cw3 cj0 cj1 cj2 cj3
   have x00 : (x0 == x0) = true := by simp
   have x11 : (x1 == x1) = true := by simp
   have x22 : (x2 == x2) = true := by simp
   have x33 : (x3 == x3) = true := by simp
   rw [HD.out, Bool.or_true]
   simp only [if_true]
   clear hv HD hdj
   go_wp2
   go_ret
   exact ⟨rfl, bw⟩
 | false =>
  rw [hdk] at kIk kS
  rw [eEk hdk] at kIk kS
  cases hdj : doneM rows m j with
  | true =>
   rw [hdj] at kIj
   have HD : Hid (doneM rows m j = true) := hdj
   clear eEk eEj eSt
   simp only [if_true, Bool.false_eq_true, if_false] at kIk kIj kS
   generalize eventM rows m k = ek at *
   generalize nxtE rows m (j : Int) = ej at *
   obtain ⟨x0, x1, x2, x3⟩ := ek
   obtain ⟨y0, y1, y2, y3⟩ := ej
   simp only at kIk kIj kS
   have kx := kIk u0 b0
   go_wp2_with (first | refine wpList_load_blk rfl 25 _ rfl P rfl pP _ Tryd.underlying25 rfl (by kernel_rfl) ?_ | refine wpList_load_blk rfl 29 _ rfl X rfl pX _ Tryd.underlying29 rfl (by kernel_rfl) ?_)
   refine kx.mono ?_
   rintro e u1 ⟨rfl, hb⟩
   replace b0 := bel_trans b0 hb
   replace bw := bel_trans bw hb
   replace pP := pP.below hb
   replace pX := pX.below hb
   clear hb kx
   have pN := Blk.new u1 33 [.int .i64 0, .int .i64 0, .int .i64 0, .int .i64 0]
   have ha : Below u1.heap.size u1 (u1.alloc (.cells #[.int .i64 0, .int .i64 0, .int .i64 0, .int .i64 0] 33)) := by go_grown
   go_wp2_with (refine wpList_store_blk rfl 33 _ _ rfl u1.heap.size [.int .i64 x0, .int .i64 x1, .int .i64 x2, .int .i64 x3] rfl rfl pN (by kernel_rfl) rfl rfl ?_)
   intro u2 p9 g9
   have pk := p9.out
   have hb : Below u1.heap.size u1 u2 := ha.grown g9 ha.size (fun q e => by cases e; exact Nat.le_refl _)
   replace b0 := bel_trans b0 hb
   replace bw := bel_trans bw hb
   replace pP := pP.below hb
   replace pX := pX.below hb
   clear p9 g9 ha pN hb
   generalize u1.heap.size = Gpk at *
   have kx := kIj u2 b0
   go_wp2_with (first | refine wpList_load_blk rfl 25 _ rfl P rfl pP _ Tryd.underlying25 rfl (by kernel_rfl) ?_ | refine wpList_load_blk rfl 29 _ rfl X rfl pX _ Tryd.underlying29 rfl (by kernel_rfl) ?_)
   refine kx.mono ?_
   rintro e u3 ⟨rfl, hb⟩
   replace b0 := bel_trans b0 hb
   replace bw := bel_trans bw hb
   replace pP := pP.below hb
   replace pX := pX.below hb
   replace pk := pk.below hb
   clear hb kx
   have pN := Blk.new u3 33 [.int .i64 0, .int .i64 0, .int .i64 0, .int .i64 0]
   have ha : Below u3.heap.size u3 (u3.alloc (.cells #[.int .i64 0, .int .i64 0, .int .i64 0, .int .i64 0] 33)) := by go_grown
   go_wp2_with (refine wpList_store_blk rfl 33 _ _ rfl u3.heap.size [.int .i64 y0, .int .i64 y1, .int .i64 y2, .int .i64 y3] rfl rfl pN (by kernel_rfl) rfl rfl ?_)
   intro u4 p9 g9
   have pj := p9.out
   have hb : Below u3.heap.size u3 u4 := ha.grown g9 ha.size (fun q e => by cases e; exact Nat.le_refl _)
   replace b0 := bel_trans b0 hb
   replace bw := bel_trans bw hb
   replace pP := pP.below hb
   replace pX := pX.below hb
   replace pk := pk.below hb
   clear p9 g9 ha pN hb
   generalize u3.heap.size = Gpj at *
   have kx := kS u4 b0
   go_wp2_with (first | refine wpList_load_blk rfl 25 _ rfl P rfl pP _ Tryd.underlying25 rfl (by kernel_rfl) ?_ | refine wpList_load_blk rfl 29 _ rfl X rfl pX _ Tryd.underlying29 rfl (by kernel_rfl) ?_)
   refine kx.mono ?_
   rintro e u5 ⟨rfl, hb⟩
   replace b0 := bel_trans b0 hb
   replace bw := bel_trans bw hb
   replace pP := pP.below hb
   replace pX := pX.below hb
   replace pk := pk.below hb
   replace pj := pj.below hb
   clear hb kx
   have pN := Blk.new u5 33 [.int .i64 0, .int .i64 0, .int .i64 0, .int .i64 0]
   have ha : Below u5.heap.size u5 (u5.alloc (.cells #[.int .i64 0, .int .i64 0, .int .i64 0, .int .i64 0] 33)) := by go_grown
   go_wp2_with (refine wpList_store_blk rfl 33 _ _ rfl u5.heap.size [.int .i64 x0, .int .i64 x1, .int .i64 x2, .int .i64 x3] rfl rfl pN (by kernel_rfl) rfl rfl ?_)
   intro u6 p9 g9
   have pw := p9.out
   have hb : Below u5.heap.size u5 u6 := ha.grown g9 ha.size (fun q e => by cases e; exact Nat.le_refl _)
   replace b0 := bel_trans b0 hb
   replace bw := bel_trans bw hb
   replace pP := pP.below hb
   replace pX := pX.below hb
   replace pk := pk.below hb
   replace pj := pj.below hb
   clear p9 g9 ha pN hb
   generalize u5.heap.size = Gpw at *
   have pP6 := pP
   have pX6 := pX
   have ha : Below u6.heap.size u6 (u6.alloc (.cells #[.int .i64 (j : Int)] 3)) := by go_grown
   have ql : (u6.alloc (.cells #[.int .i64 (j : Int)] 3)).ownsRow u6.heap.size 3 1 (.slice (some ⟨u6.heap.size, 0, none⟩) 1 1) 1 [.int .i64 (j : Int)] := World.ownsRow_lit u6 #[.int .i64 (j : Int)] 1 (Nat.le_refl _) (by unfold maxLen; omega) rfl
   replace b0 := bel_trans b0 ha
   replace bw := bel_trans bw ha
   replace pP := pP.below ha
   replace pX := pX.below ha
   replace pk := pk.below ha
   replace pj := pj.below ha
   replace pw := pw.below ha
   have kOx := kO (u6.alloc (.cells #[.int .i64 (j : Int)] 3)) b0 _ _ _ ql
   clear kO kIk kIj kS ql ha
   go_wp2_with (first | refine wpList_load_blk rfl 25 _ rfl P rfl pP6 _ Tryd.underlying25 rfl (by kernel_rfl) ?_ | refine wpList_load_blk rfl 29 _ rfl X rfl pX6 _ Tryd.underlying29 rfl (by kernel_rfl) ?_)
   generalize (u6.alloc (.cells #[.int .i64 (j : Int)] 3)) = u7 at *
   clear pP6 pX6
   refine kOx.mono ?_
   rintro e u8 ⟨⟨v, rfl, hv⟩, hb⟩
   replace b0 := bel_trans b0 hb
   replace bw := bel_trans bw hb
   replace pP := pP.below hb
   replace pX := pX.below hb
   replace pk := pk.below hb
   replace pj := pj.below hb
   replace pw := pw.below hb
   clear hb kOx
   have ck0 := pk.cell 0
   have ck1 := pk.cell 1
   have ck2 := pk.cell 2
   have ck3 := pk.cell 3
   have cw0 := pw.cell 0
   have cw1 := pw.cell 1
   have cw2 := pw.cell 2
   have cw3 := pw.cell 3
   have cj0 := pj.cell 0
   have cj1 := pj.cell 1
   have cj2 := pj.cell 2
   have cj3 := pj.cell 3
   simp only [List.getElem?_cons_zero, List.getElem?_cons_succ] at ck0 ck1 ck2 ck3 cw0 cw1 cw2 cw3 cj0 cj1 cj2 cj3
   have x00 : (x0 == x0) = true := by simp
   have x11 : (x1 == x1) = true := by simp
   have x22 : (x2 == x2) = true := by simp
   have x33 : (x3 == x3) = true := by simp
   rw [HD.out, Bool.true_or]
   simp only [if_true]
   clear hv HD hdj hdk
   go_wp2
   go_ret
   exact ⟨rfl, bw⟩
  | false =>
   rw [hdj] at kIj
   rw [eEj hdj] at kIj
   have HDk : Hid (doneM rows m k = false) := hdk
   have HDj : Hid (doneM rows m j = false) := hdj
   have HST : Hid (stillM rows m [(j : Int)] (k : Int) = if depM (eventM rows m k) (eventM rows m j) then [] else [(j : Int)]) := eSt
   clear eEk eEj eSt hdk hdj
   simp only [Bool.false_eq_true, if_false] at kIk kIj kS
   generalize eventM rows m k = ek at *
   generalize eventM rows m j = ej at *
   have kD := fun W => implDepends_is ek ej W
   obtain ⟨x0, x1, x2, x3⟩ := ek
   obtain ⟨y0, y1, y2, y3⟩ := ej
   simp only at kIk kIj kS
   unfold I4.val at kD
   simp only at kD
   have kx := kIk u0 b0
   go_wp2_with (first | refine wpList_load_blk rfl 25 _ rfl P rfl pP _ Tryd.underlying25 rfl (by kernel_rfl) ?_ | refine wpList_load_blk rfl 29 _ rfl X rfl pX _ Tryd.underlying29 rfl (by kernel_rfl) ?_)
   refine kx.mono ?_
   rintro e u1 ⟨rfl, hb⟩
   replace b0 := bel_trans b0 hb
   replace bw := bel_trans bw hb
   replace pP := pP.below hb
   replace pX := pX.below hb
   clear hb kx
   have pN := Blk.new u1 33 [.int .i64 0, .int .i64 0, .int .i64 0, .int .i64 0]
   have ha : Below u1.heap.size u1 (u1.alloc (.cells #[.int .i64 0, .int .i64 0, .int .i64 0, .int .i64 0] 33)) := by go_grown
   go_wp2_with (refine wpList_store_blk rfl 33 _ _ rfl u1.heap.size [.int .i64 x0, .int .i64 x1, .int .i64 x2, .int .i64 x3] rfl rfl pN (by kernel_rfl) rfl rfl ?_)
   intro u2 p9 g9
   have pk := p9.out
   have hb : Below u1.heap.size u1 u2 := ha.grown g9 ha.size (fun q e => by cases e; exact Nat.le_refl _)
   replace b0 := bel_trans b0 hb
   replace bw := bel_trans bw hb
   replace pP := pP.below hb
   replace pX := pX.below hb
   clear p9 g9 ha pN hb
   generalize u1.heap.size = Gpk at *
   have kx := kIj u2 b0
   go_wp2_with (first | refine wpList_load_blk rfl 25 _ rfl P rfl pP _ Tryd.underlying25 rfl (by kernel_rfl) ?_ | refine wpList_load_blk rfl 29 _ rfl X rfl pX _ Tryd.underlying29 rfl (by kernel_rfl) ?_)
   refine kx.mono ?_
   rintro e u3 ⟨rfl, hb⟩
   replace b0 := bel_trans b0 hb
   replace bw := bel_trans bw hb
   replace pP := pP.below hb
   replace pX := pX.below hb
   replace pk := pk.below hb
   clear hb kx
   have pN := Blk.new u3 33 [.int .i64 0, .int .i64 0, .int .i64 0, .int .i64 0]
   have ha : Below u3.heap.size u3 (u3.alloc (.cells #[.int .i64 0, .int .i64 0, .int .i64 0, .int .i64 0] 33)) := by go_grown
   go_wp2_with (refine wpList_store_blk rfl 33 _ _ rfl u3.heap.size [.int .i64 y0, .int .i64 y1, .int .i64 y2, .int .i64 y3] rfl rfl pN (by kernel_rfl) rfl rfl ?_)
   intro u4 p9 g9
   have pj := p9.out
   have hb : Below u3.heap.size u3 u4 := ha.grown g9 ha.size (fun q e => by cases e; exact Nat.le_refl _)
   replace b0 := bel_trans b0 hb
   replace bw := bel_trans bw hb
   replace pP := pP.below hb
   replace pX := pX.below hb
   replace pk := pk.below hb
   clear p9 g9 ha pN hb
   generalize u3.heap.size = Gpj at *
   have kx := kS u4 b0
   go_wp2_with (first | refine wpList_load_blk rfl 25 _ rfl P rfl pP _ Tryd.underlying25 rfl (by kernel_rfl) ?_ | refine wpList_load_blk rfl 29 _ rfl X rfl pX _ Tryd.underlying29 rfl (by kernel_rfl) ?_)
   refine kx.mono ?_
   rintro e u5 ⟨rfl, hb⟩
   replace b0 := bel_trans b0 hb
   replace bw := bel_trans bw hb
   replace pP := pP.below hb
   replace pX := pX.below hb
   replace pk := pk.below hb
   replace pj := pj.below hb
   clear hb kx
   have pN := Blk.new u5 33 [.int .i64 0, .int .i64 0, .int .i64 0, .int .i64 0]
   have ha : Below u5.heap.size u5 (u5.alloc (.cells #[.int .i64 0, .int .i64 0, .int .i64 0, .int .i64 0] 33)) := by go_grown
   go_wp2_with (refine wpList_store_blk rfl 33 _ _ rfl u5.heap.size [.int .i64 x0, .int .i64 x1, .int .i64 x2, .int .i64 x3] rfl rfl pN (by kernel_rfl) rfl rfl ?_)
   intro u6 p9 g9
   have pw := p9.out
   have hb : Below u5.heap.size u5 u6 := ha.grown g9 ha.size (fun q e => by cases e; exact Nat.le_refl _)
   replace b0 := bel_trans b0 hb
   replace bw := bel_trans bw hb
   replace pP := pP.below hb
   replace pX := pX.below hb
   replace pk := pk.below hb
   replace pj := pj.below hb
   clear p9 g9 ha pN hb
   generalize u5.heap.size = Gpw at *
   have pP6 := pP
   have pX6 := pX
   have ha : Below u6.heap.size u6 (u6.alloc (.cells #[.int .i64 (j : Int)] 3)) := by go_grown
   have ql : (u6.alloc (.cells #[.int .i64 (j : Int)] 3)).ownsRow u6.heap.size 3 1 (.slice (some ⟨u6.heap.size, 0, none⟩) 1 1) 1 [.int .i64 (j : Int)] := World.ownsRow_lit u6 #[.int .i64 (j : Int)] 1 (Nat.le_refl _) (by unfold maxLen; omega) rfl
   replace b0 := bel_trans b0 ha
   replace bw := bel_trans bw ha
   replace pP := pP.below ha
   replace pX := pX.below ha
   replace pk := pk.below ha
   replace pj := pj.below ha
   replace pw := pw.below ha
   have kOx := kO (u6.alloc (.cells #[.int .i64 (j : Int)] 3)) b0 _ _ _ ql
   clear kO kIk kIj kS ql ha
   go_wp2_with (first | refine wpList_load_blk rfl 25 _ rfl P rfl pP6 _ Tryd.underlying25 rfl (by kernel_rfl) ?_ | refine wpList_load_blk rfl 29 _ rfl X rfl pX6 _ Tryd.underlying29 rfl (by kernel_rfl) ?_)
   generalize (u6.alloc (.cells #[.int .i64 (j : Int)] 3)) = u7 at *
   clear pP6 pX6
   refine kOx.mono ?_
   rintro e u8 ⟨⟨v, rfl, hv⟩, hb⟩
   replace b0 := bel_trans b0 hb
   replace bw := bel_trans bw hb
   replace pP := pP.below hb
   replace pX := pX.below hb
   replace pk := pk.below hb
   replace pj := pj.below hb
   replace pw := pw.below hb
   clear hb kOx
   have ck0 := pk.cell 0
   have ck1 := pk.cell 1
   have ck2 := pk.cell 2
   have ck3 := pk.cell 3
   have cw0 := pw.cell 0
   have cw1 := pw.cell 1
   have cw2 := pw.cell 2
   have cw3 := pw.cell 3
   have cj0 := pj.cell 0
   have cj1 := pj.cell 1
   have cj2 := pj.cell 2
   have cj3 := pj.cell 3
   simp only [List.getElem?_cons_zero, List.getElem?_cons_succ] at ck0 ck1 ck2 ck3 cw0 cw1 cw2 cw3 cj0 cj1 cj2 cj3
   have x00 : (x0 == x0) = true := by simp
   have x11 : (x1 == x1) = true := by simp
   have x22 : (x2 == x2) = true := by simp
   have x33 : (x3 == x3) = true := by simp
   replace hv := hv HDj.out HDk.out
   rw [HST.out] at hv
   rw [HDj.out, HDk.out]
   simp only [Bool.or_self, Bool.false_eq_true, if_false]
   cases hdp : depM (x0, x1, x2, x3) (y0, y1, y2, y3) with
   | true =>
    rw [hdp] at hv kD
    simp only [if_true] at hv
    obtain ⟨va, vn, vc, rfl⟩ : ∃ va vn vc, v = .slice va vn vc := by
     rcases hv.2 with ⟨h1, _⟩ | ⟨g, c9, cur, h1, _⟩
     ·exact ⟨_, _, _, h1⟩
     ·exact ⟨_, _, _, h1⟩
    obtain rfl : vn = 0 := by
     rcases hv.2 with ⟨h1, _⟩ | ⟨g, c9, cur, h1, _⟩
     ·cases h1; rfl
     ·cases h1; rfl
    clear hv HST HDk HDj hdp
    go_wp2_with fail
    refine (kD _).mono ?_
    rintro e u9 ⟨rfl, hb⟩
    replace bw := bel_trans bw hb
    clear hb kD
    go_wp2
    go_ret
    exact ⟨rfl, bw⟩
   | false =>
    rw [hdp] at hv kD
    simp only [Bool.false_eq_true, if_false] at hv
    obtain ⟨vg, vc, rfl⟩ : ∃ vg vc, v = .slice (some ⟨vg, 0, none⟩) 1 vc := by
     rcases hv.2 with ⟨h1, h2⟩ | ⟨g, c9, cur, h1, _⟩
     ·simp at h2
     ·exact ⟨_, _, h1⟩
    clear HST HDk HDj hdp
    go_wp2_with fail
    refine (kD _).mono ?_
    rintro e u9 ⟨rfl, hb⟩
    have hv9 := owns_below hv hb
    have cv : u9.cell? ⟨vg, 0, none⟩ = some (.int .i64 (j : Int)) := by simpa using hv9.cellAt 0 (by simp)
    have jj : ((j : Int) == (j : Int)) = true := by simp
    replace bw := bel_trans bw hb
    clear hb kD hv hv9
    go_wp2
    go_ret
    exact ⟨rfl, bw⟩

theorem fnNext_laid {W : World} (h : laidMetH Tryd.prog Rows.fnNextRow.laid W) : VmShape W := vmShape_of_laid rfl h
theorem fnNext_door_met (os : Os) (args : Array Value) : laidMetH Tryd.prog Rows.fnNextRow.laid ((World.doorLaid Tryd.prog 400 os).forCall (fun _ _ => 0) ⟨#[], args, []⟩).memory :=
 laidMetH_of_parts3 (fuel := 8) (laidMet_of_run' 8 (by kernel_rfl) (by kernel_rfl)) (by kernel_rfl) (by kernel_rfl)
end Go.Proofs.YtdojjmkpelgcaaaDoor
