/-
  Joined: EvF, CmtP, CmtQ, NorI, SmL.
-/
import Derived.Test.YtmhngodbnoonhaaDoorK45
import Derived.Test.YtmhngodbnoonhaaDoorK26
import Derived.Test.YtmhngodbnoonhaaDoorK37
import Derived.Test.YtmhngodbnoonhaaDoorK41
import Derived.Test.YtmhngodbnoonhaaDoorK31
import Derived.Test.YtmhngodbnoonhaaDoorK01

/-
  Both sides' EventsOf.
-/
namespace Go.Proofs.YtmhngodbnoonhaaDoor
open Go.RowKit
set_option linter.unusedVariables false
set_option linter.unusedSimpArgs false

set_option maxHeartbeats 800000 in
set_option maxRecDepth 100000 in
theorem implEventsOf_is (a : Option Addr) (len cap : Nat) (rows : List (List I3)) (la : Option Addr) (n c : Nat) (ks : List Int) (w : World) (hC : Codes w a len cap rows) (hV : VmShape w) (hL : Ints .i64 w la n c ks) :
    Calls Tryd.prog 33 #[.agg #[.slice a len cap], .slice la n c] w fun e w' => EvGot e w' w.heap.size (evE rows ks) (evK rows ks) ∧ Below w.heap.size w w' := by
  unfold evE evK
  rw [hL.1]
  have bw : Below w.heap.size w (w.alloc (.cells #[.slice a len cap] 25)) := by go_grown
  have pP : Blk (w.alloc (.cells #[.slice a len cap] 25)) w.heap.size 25 [.slice a len cap] := blkAt _ _ _ rfl
  by_cases hn : 4096 < n
  · have hn' : (4096 : Int) < (n : Int) := by omega
    simp only [if_pos hn]
    clear hC hL hn pP hV
    go_enter Tryd.func33, Tryd.ntmps33
    go_wp2
    go_ret2
    exact ⟨⟨_, rfl, World.ownsRow_nil _ _ _ _⟩, bw⟩
  simp only [if_neg hn]
  have hn' : ¬ (4096 : Int) < (n : Int) := by omega
  cases hp : progOk rows
  · have kN := fun W (b : Below w.heap.size w W) => newReplay_bad (hC.below b) (hV.below b) hp
    simp only [Bool.false_eq_true, if_false]
    clear hp hC hL hn hV
    go_enter Tryd.func33, Tryd.ntmps33
    go_wp2_with fail
    generalize (w.alloc (.cells #[.slice a len cap] 25)) = U at *
    go_wp2_with (first | refine wpList_load_blk rfl 25 _ rfl w.heap.size rfl pP _ Tryd.underlying25 rfl (by kernel_rfl) ?_)
    refine (kN _ bw).mono ?_
    rintro e w1 ⟨rfl, hb⟩
    replace bw := bel_trans bw hb
    have pN := Blk.new w1 88 [.slice none 0 0, .int .i64 0, .int .i64 0, .int .i64 0, .slice none 0 0, .int .i64 0, .int .i64 0, .int .i64 0, .slice none 0 0, .int .i64 0, .int .i64 0, .int .i64 0, .int .i64 0, .int .i64 0, .int .i64 0, .int .i64 0, .int .i64 0, .int .i64 0, .slice none 0 0]
    have ha : Below w1.heap.size w1 (w1.alloc (.cells #[.slice none 0 0, .int .i64 0, .int .i64 0, .int .i64 0, .slice none 0 0, .int .i64 0, .int .i64 0, .int .i64 0, .slice none 0 0, .int .i64 0, .int .i64 0, .int .i64 0, .int .i64 0, .int .i64 0, .int .i64 0, .int .i64 0, .int .i64 0, .int .i64 0, .slice none 0 0] 88)) := by go_grown
    have hgw : w.heap.size ≤ w1.heap.size := bw.size
    clear kN hb pP
    go_wp2_with (refine wpList_store_blk rfl 88 _ _ rfl w1.heap.size [.slice none 0 0, .int .i64 0, .int .i64 0, .int .i64 0, .slice none 0 0, .int .i64 0, .int .i64 0, .int .i64 0, .slice none 0 0, .int .i64 0, .int .i64 0, .int .i64 0, .int .i64 0, .int .i64 0, .int .i64 0, .int .i64 0, .int .i64 0, .int .i64 0, .slice none 0 0] rfl rfl pN (by kernel_rfl) rfl rfl ?_)
    intro W9 pM g1
    replace bw := (bel_trans bw ha).grown g1 (by simp; omega) (fun x hx => by cases hx; omega)
    clear g1 ha pN pM
    generalize w1.heap.size = g at *
    go_wp2
    go_ret2
    exact ⟨⟨_, rfl, World.ownsRow_nil _ _ _ _⟩, bw⟩
  · simp only [if_true]
    obtain ⟨rfl, cs, hR⟩ := hC.rowsAt hp
    exact implEventsOf_ok a cap rows la n c ks w hC hV hp hL hn

set_option maxHeartbeats 800000 in
set_option maxRecDepth 100000 in
theorem l05Ask_is (a : Option Addr) (len cap : Nat) (rows : List (List I3)) (la : Option Addr) (n c : Nat) (w : World) (hC : Codes w a len cap rows) (hn : ¬ 4096 < n) :
    Calls Tryd.prog 66 #[.agg #[.slice a len cap], .slice la n c] w fun e w' => e = .returned (.int .i64 (if progOk rows then 0 else 1)) ∧ Below w.heap.size w w' := by
  have bw : Below w.heap.size w (w.alloc (.cells #[.slice a len cap] 25)) := by go_grown
  have pP : Blk (w.alloc (.cells #[.slice a len cap] 25)) w.heap.size 25 [.slice a len cap] := blkAt _ _ _ rfl
  have hn' : ¬ (4096 : Int) < (n : Int) := by omega
  have kP := fun W (b : Below w.heap.size w W) => specProgramOK_is a len cap rows W (hC.below b)
  cases hp : progOk rows
  · rw [hp] at kP
    clear hC hn hp
    go_enter Tryd.func66, Tryd.ntmps66
    go_wp2_with fail
    generalize (w.alloc (.cells #[.slice a len cap] 25)) = U at *
    go_wp2_with (first | refine wpList_load_blk rfl 25 _ rfl w.heap.size rfl pP _ Tryd.underlying25 rfl (by kernel_rfl) ?_)
    refine (kP _ bw).mono ?_
    rintro e w1 ⟨rfl, hb⟩
    replace bw := bel_trans bw hb
    clear hb kP pP
    go_wp2
    go_ret
    exact ⟨rfl, bw⟩
  · rw [hp] at kP
    clear hC hn hp
    go_enter Tryd.func66, Tryd.ntmps66
    go_wp2_with fail
    generalize (w.alloc (.cells #[.slice a len cap] 25)) = U at *
    go_wp2_with (first | refine wpList_load_blk rfl 25 _ rfl w.heap.size rfl pP _ Tryd.underlying25 rfl (by kernel_rfl) ?_)
    refine (kP _ bw).mono ?_
    rintro e w1 ⟨rfl, hb⟩
    replace bw := bel_trans bw hb
    clear hb kP pP
    go_wp2
    go_ret
    exact ⟨rfl, bw⟩

set_option maxHeartbeats 800000 in
set_option maxRecDepth 100000 in
theorem specEventsOf_is (a : Option Addr) (len cap : Nat) (rows : List (List I3)) (la : Option Addr) (n c : Nat) (ks : List Int) (w : World) (hC : Codes w a len cap rows) (hL : Ints .i64 w la n c ks) :
    Calls Tryd.prog 32 #[.agg #[.slice a len cap], .slice la n c] w fun e w' => EvGot e w' w.heap.size (evE rows ks) (evK rows ks) ∧ Below w.heap.size w w' := by
  unfold evE evK
  rw [hL.1]
  have bw : Below w.heap.size w (w.alloc (.cells #[.slice a len cap] 25)) := by go_grown
  have pP : Blk (w.alloc (.cells #[.slice a len cap] 25)) w.heap.size 25 [.slice a len cap] := blkAt _ _ _ rfl
  by_cases hn : 4096 < n
  · have hn' : (4096 : Int) < (n : Int) := by omega
    simp only [if_pos hn]
    clear hC hL hn pP
    go_enter Tryd.func32, Tryd.ntmps32
    go_wp2
    go_ret2
    exact ⟨⟨_, rfl, by simpa [flat4] using own_emptyB (w.alloc (.cells #[.slice a len cap] 25)) 107 4 w.heap.size (by simp)⟩, bel_trans bw (by go_grown)⟩
  simp only [if_neg hn]
  have hn' : ¬ (4096 : Int) < (n : Int) := by omega
  have kA := fun W (b : Below w.heap.size w W) => l05Ask_is a len cap rows la n c W (hC.below b) hn
  cases hp : progOk rows
  · rw [hp] at kA
    simp only [Bool.false_eq_true, if_false] at kA ⊢
    clear hp hC hL hn
    go_enter Tryd.func32, Tryd.ntmps32
    go_wp2_with fail
    generalize (w.alloc (.cells #[.slice a len cap] 25)) = U at *
    go_wp2_with (first | refine wpList_load_blk rfl 25 _ rfl w.heap.size rfl pP _ Tryd.underlying25 rfl (by kernel_rfl) ?_)
    refine (kA _ bw).mono ?_
    rintro e w1 ⟨rfl, hb⟩
    replace bw := bel_trans bw hb
    have q := own_emptyB w1 107 4 w.heap.size bw.size
    have bz := bel_trans bw (by go_grown : Below w1.heap.size w1 (w1.alloc (.cells #[] 107)))
    clear hb kA pP bw
    go_wp2
    go_ret2
    exact ⟨⟨_, rfl, q⟩, bz⟩
  · rw [hp] at kA
    simp only [if_true] at kA ⊢
    obtain ⟨rfl, cs, hR⟩ := hC.rowsAt hp
    have kE := fun W (b : Below w.heap.size w W) => l05Events_is (cap := cap) (hR.below b) hp (hL.below b) (by omega)
    generalize (if (runI rows zeroV [] ks).2.2 = 0 then evsM rows zeroV ks else []) = es at *
    generalize (runI rows zeroV [] ks).2.2 = cd at *
    clear hp hC hL hn hR
    go_enter Tryd.func32, Tryd.ntmps32
    go_wp2_with fail
    generalize (w.alloc (.cells #[.slice a 3 cap] 25)) = U at *
    go_wp2_with (first | refine wpList_load_blk rfl 25 _ rfl w.heap.size rfl pP _ Tryd.underlying25 rfl (by kernel_rfl) ?_)
    refine (kA _ bw).mono ?_
    rintro e w1 ⟨rfl, hb⟩
    replace bw := bel_trans bw hb
    replace pP := pP.below hb
    clear hb kA
    go_wp2_with (first | refine wpList_load_blk rfl 25 _ rfl w.heap.size rfl pP _ Tryd.underlying25 rfl (by kernel_rfl) ?_)
    refine (kE _ bw).mono ?_
    rintro e w2 ⟨⟨v, rfl, q⟩, hb⟩
    replace q := own_lowerB (B' := w.heap.size) q bw.size
    replace bw := bel_trans bw hb
    clear hb kE pP
    go_wp2
    go_ret2
    exact ⟨⟨_, rfl, q⟩, bw⟩
theorem evE_len (rows : List (List I3)) (ks : List Int) : (evE rows ks).length ≤ 5000 := by
  have key : ∀ (ks : List Int) (m : V4), (evsM rows m ks).length = ks.length := fun ks => by
    induction ks with
    | nil => intro m; rfl
    | cons k ks ih => intro m; simp only [evsM, List.length_cons, ih]
  unfold evE
  split
  · simp
  · split
    · split
      · rw [key]; omega
      · simp
    · simp
end Go.Proofs.YtmhngodbnoonhaaDoor


/-
  Two steps of two threads that do not depend on one another come to the same in either order.
-/
namespace Go.Proofs.YtmhngodbnoonhaaDoor
open Go.RowKit
set_option linter.unusedVariables false
set_option linter.unusedSimpArgs false

/-- What a step does, part by part. -/
def pcC (m : V4) (x : I3) (k : Nat) : Int := if x.1 = 7 ∧ m.2.2.2.getD (k * 2 + x.2.1.toNat) 0 ≠ 0 then x.2.2 else m.1.getD k 0 + 1
def shC (m : V4) (x : I3) (k : Nat) : List Int := if x.1 = 2 then m.2.1.set x.2.1.toNat (m.2.2.2.getD (k * 2 + x.2.2.toNat) 0) else m.2.1
def lkC (m : V4) (x : I3) (k : Nat) : List Int := if x.1 = 5 then m.2.2.1.set x.2.1.toNat (k + 1) else if x.1 = 6 ∧ m.2.2.1.getD x.2.1.toNat 0 = k + 1 then m.2.2.1.set x.2.1.toNat 0 else m.2.2.1
def rgC (m : V4) (x : I3) (k : Nat) : List Int := if x.1 = 1 then m.2.2.2.set (k * 2 + x.2.1.toNat) (m.2.1.getD x.2.2.toNat 0) else if x.1 = 3 then m.2.2.2.set (k * 2 + x.2.1.toNat) x.2.2 else if x.1 = 4 then m.2.2.2.set (k * 2 + x.2.1.toNat) ((m.2.2.2.getD (k * 2 + x.2.1.toNat) 0 + x.2.2) % 10) else m.2.2.2
theorem step_parts (m : V4) (x : I3) (k : Nat) : (stepM m x k).1 = (m.1.set k (pcC m x k), shC m x k, lkC m x k, rgC m x k) := by
  unfold stepM pcC shC lkC rgC
  rcases op_cases x with h | h | h | h | h | h | h | h | ⟨h1, h2, h3, h4, h5, h6, h7, h8⟩
  · simp [h]
  · simp [h]
  · simp [h]
  · simp [h]
  · simp [h]
  · simp [h]; split <;> simp
  · simp [h]; split <;> simp_all
  · simp [h]; split <;> simp
  · simp [h1, h2, h3, h4, h5, h6, h7]; split <;> simp
/-- A register of a thread is the thread's own. -/
theorem reg_own {k l : Nat} (h : k ≠ l) {a b : Int} (ha : 0 ≤ a ∧ a ≤ 1) (hb : 0 ≤ b ∧ b ≤ 1) : k * 2 + a.toNat ≠ l * 2 + b.toNat := by omega
/-- Its numbers' bounds, by what it is. -/
theorem ok_bounds {x : I3} (h : okI x = true) : (x.1 ≠ 2 → 0 ≤ x.2.1 ∧ x.2.1 ≤ 1) ∧ (x.1 = 1 → 0 ≤ x.2.2 ∧ x.2.2 ≤ 3) ∧ (x.1 = 2 → (0 ≤ x.2.1 ∧ x.2.1 ≤ 3) ∧ 0 ≤ x.2.2 ∧ x.2.2 ≤ 1) := by
  unfold okI at h
  simp only [inB, Bool.and_eq_true, decide_eq_true_eq] at h
  repeat' split at h
  all_goals simp_all
/-- They touch one place or lock, and do not both but load. -/
def clashI (x y : I3) : Prop := 0 ≤ objM x ∧ objM x = objM y ∧ ¬ (x.1 = 1 ∧ y.1 = 1)
theorem reg_kept {m : V4} {y : I3} {k l : Nat} (h : k ≠ l) (hy : okI y = true) {a : Int} (ha : 0 ≤ a ∧ a ≤ 1) : (rgC m y l).getD (k * 2 + a.toNat) 0 = m.2.2.2.getD (k * 2 + a.toNat) 0 := by
  have hb := ok_bounds hy
  unfold rgC
  repeat' split
  all_goals first
    | rfl
    | (refine getD_set_ne (reg_own h ha (hb.1 ?_)); omega)
theorem sh_kept {m : V4} {x y : I3} {l : Nat} (hx : okI x = true) (hy : okI y = true) (hc : ¬ clashI x y) (h1 : x.1 = 1) : (shC m y l).getD x.2.2.toNat 0 = m.2.1.getD x.2.2.toNat 0 := by
  have ha := ok_bounds hx
  have hb := ok_bounds hy
  unfold shC
  split
  · rename_i h2
    refine getD_set_ne (fun e => hc ?_)
    have := ha.2.1 h1
    have := (hb.2.2 h2).1
    unfold clashI objM
    simp [h1, h2]
    omega
  · rfl
theorem lk_kept {m : V4} {x y : I3} {l : Nat} (hx : okI x = true) (hy : okI y = true) (hc : ¬ clashI x y) (h1 : x.1 = 5 ∨ x.1 = 6) : (lkC m y l).getD x.2.1.toNat 0 = m.2.2.1.getD x.2.1.toNat 0 := by
  have ha := (ok_bounds hx).1
  have hb := (ok_bounds hy).1
  have key : y.1 = 5 ∨ y.1 = 6 → x.2.1.toNat ≠ y.2.1.toNat := fun h2 e => hc (by
    have h3 := ha (by omega)
    have h4 := hb (by omega)
    have hxo : objM x = 4 + x.2.1 := by unfold objM; rw [if_neg (by omega), if_neg (by omega), if_pos h1]
    have hyo : objM y = 4 + y.2.1 := by unfold objM; rw [if_neg (by omega), if_neg (by omega), if_pos h2]
    refine ⟨by omega, by rw [hxo, hyo]; omega, by omega⟩)
  unfold lkC
  repeat' split
  · exact getD_set_ne (key (by omega))
  · exact getD_set_ne (key (by omega))
  · rfl
theorem clash_symm {x y : I3} (h : ¬ clashI x y) : ¬ clashI y x := fun ⟨a, b, c⟩ => h ⟨by omega, b.symm, fun e => c ⟨e.2, e.1⟩⟩
theorem pcC_kept {m : V4} {x y : I3} {k l : Nat} (h : k ≠ l) (hx : okI x = true) (hy : okI y = true) : pcC (stepM m y l).1 x k = pcC m x k := by
  rw [step_parts]
  have ha := ok_bounds hx
  unfold pcC
  simp only
  rw [getD_set_ne h]
  by_cases h7 : x.1 = 7
  · rw [reg_kept h hy (ha.1 (by omega))]
  · simp [h7]
def putO (u : Option Int) (R : List Int) (i : Nat) : List Int := match u with | none => R | some z => R.set i z
/-- Steps of two threads that do not clash change places. -/
theorem step_commute {m : V4} {x y : I3} {k l : Nat} (h : k ≠ l) (hx : okI x = true) (hy : okI y = true) (hc : ¬ clashI x y) : (stepM (stepM m x k).1 y l).1 = (stepM (stepM m y l).1 x k).1 := by
  have hc' := clash_symm hc
  have bx := ok_bounds hx
  have by' := ok_bounds hy
  have p1 := pcC_kept (m := m) h hx hy
  have p2 := pcC_kept (m := m) (Ne.symm h) hy hx
  rw [step_parts (stepM m x k).1, step_parts (stepM m y l).1, p1, p2]
  have e1 : (stepM m x k).1.1 = m.1.set k (pcC m x k) := by rw [step_parts]
  have e2 : (stepM m y l).1.1 = m.1.set l (pcC m y l) := by rw [step_parts]
  have hsx : (stepM m x k).1.2.1 = shC m x k := by rw [step_parts]
  have hsy : (stepM m y l).1.2.1 = shC m y l := by rw [step_parts]
  have hlx : (stepM m x k).1.2.2.1 = lkC m x k := by rw [step_parts]
  have hly : (stepM m y l).1.2.2.1 = lkC m y l := by rw [step_parts]
  have hrx : (stepM m x k).1.2.2.2 = rgC m x k := by rw [step_parts]
  have hry : (stepM m y l).1.2.2.2 = rgC m y l := by rw [step_parts]
  refine Prod.ext ?_ (Prod.ext ?_ (Prod.ext ?_ ?_))
  · simp only
    rw [e1, e2, List.set_comm _ _ h]
  · simp only
    unfold shC
    rw [hsx, hsy, hrx, hry]
    by_cases x2 : x.1 = 2
    · have rx := reg_kept (m := m) (y := y) h hy (bx.2.2 x2).2
      by_cases y2 : y.1 = 2
      · have ry := reg_kept (m := m) (y := x) (Ne.symm h) hx (by'.2.2 y2).2
        have hne : x.2.1.toNat ≠ y.2.1.toNat := fun e => hc (by
          have := (bx.2.2 x2).1
          have := (by'.2.2 y2).1
          unfold clashI objM
          simp [x2, y2]
          omega)
        rw [if_pos y2, if_pos x2, rx, ry]
        unfold shC
        rw [if_pos x2, if_pos y2, List.set_comm _ _ hne]
      · rw [if_neg y2, if_pos x2, rx]
        unfold shC
        rw [if_pos x2, if_neg y2]
    · by_cases y2 : y.1 = 2
      · have ry := reg_kept (m := m) (y := x) (Ne.symm h) hx (by'.2.2 y2).2
        rw [if_pos y2, if_neg x2, ry]
        unfold shC
        rw [if_neg x2, if_pos y2]
      · rw [if_neg y2, if_neg x2]
        unfold shC
        rw [if_neg x2, if_neg y2]
  · simp only
    have kx : (x.1 = 5 ∨ x.1 = 6) → (lkC m y l).getD x.2.1.toNat 0 = m.2.2.1.getD x.2.1.toNat 0 := fun g => lk_kept hx hy hc g
    have ky : (y.1 = 5 ∨ y.1 = 6) → (lkC m x k).getD y.2.1.toNat 0 = m.2.2.1.getD y.2.1.toNat 0 := fun g => lk_kept hy hx hc' g
    have hne : (x.1 = 5 ∨ x.1 = 6) → (y.1 = 5 ∨ y.1 = 6) → x.2.1.toNat ≠ y.2.1.toNat := fun h1 h2 e => hc (by
      have h3 := bx.1 (by omega)
      have h4 := by'.1 (by omega)
      have hxo : objM x = 4 + x.2.1 := by unfold objM; rw [if_neg (by omega), if_neg (by omega), if_pos h1]
      have hyo : objM y = 4 + y.2.1 := by unfold objM; rw [if_neg (by omega), if_neg (by omega), if_pos h2]
      exact ⟨by omega, by rw [hxo, hyo]; omega, by omega⟩)
    have ex : ∀ L : List Int, (x.1 = 5 ∨ x.1 = 6 → L.getD x.2.1.toNat 0 = m.2.2.1.getD x.2.1.toNat 0) → (if x.1 = 5 then L.set x.2.1.toNat ((k : Int) + 1) else if x.1 = 6 ∧ L.getD x.2.1.toNat 0 = (k : Int) + 1 then L.set x.2.1.toNat 0 else L) = (if x.1 = 5 then L.set x.2.1.toNat ((k : Int) + 1) else if x.1 = 6 ∧ m.2.2.1.getD x.2.1.toNat 0 = (k : Int) + 1 then L.set x.2.1.toNat 0 else L) := fun L g => by
      by_cases a6 : x.1 = 6
      · rw [g (.inr a6)]
      · simp [a6]
    have ey : ∀ L : List Int, (y.1 = 5 ∨ y.1 = 6 → L.getD y.2.1.toNat 0 = m.2.2.1.getD y.2.1.toNat 0) → (if y.1 = 5 then L.set y.2.1.toNat ((l : Int) + 1) else if y.1 = 6 ∧ L.getD y.2.1.toNat 0 = (l : Int) + 1 then L.set y.2.1.toNat 0 else L) = (if y.1 = 5 then L.set y.2.1.toNat ((l : Int) + 1) else if y.1 = 6 ∧ m.2.2.1.getD y.2.1.toNat 0 = (l : Int) + 1 then L.set y.2.1.toNat 0 else L) := fun L g => by
      by_cases a6 : y.1 = 6
      · rw [g (.inr a6)]
      · simp [a6]
    unfold lkC
    rw [hlx, hly, ey _ ky, ex _ kx]
    unfold lkC
    by_cases x5 : x.1 = 5
    · by_cases y5 : y.1 = 5
      · simp only [x5, y5, if_true]
        exact List.set_comm _ _ (hne (.inl x5) (.inl y5))
      · by_cases y6 : y.1 = 6 ∧ m.2.2.1.getD y.2.1.toNat 0 = (l : Int) + 1
        · simp only [if_pos x5, if_neg y5, if_pos y6]
          exact List.set_comm _ _ (hne (.inl x5) (.inr y6.1))
        · simp only [if_pos x5, if_neg y5, if_neg y6]
    · by_cases x6 : x.1 = 6 ∧ m.2.2.1.getD x.2.1.toNat 0 = (k : Int) + 1
      · by_cases y5 : y.1 = 5
        · simp only [if_neg x5, if_pos x6, if_pos y5]
          exact List.set_comm _ _ (hne (.inr x6.1) (.inl y5))
        · by_cases y6 : y.1 = 6 ∧ m.2.2.1.getD y.2.1.toNat 0 = (l : Int) + 1
          · simp only [if_neg x5, if_pos x6, if_neg y5, if_pos y6]
            exact List.set_comm _ _ (hne (.inr x6.1) (.inr y6.1))
          · simp only [if_neg x5, if_pos x6, if_neg y5, if_neg y6]
      · simp only [if_neg x5, if_neg x6]
  · simp only
    have sx : x.1 = 1 → (shC m y l).getD x.2.2.toNat 0 = m.2.1.getD x.2.2.toNat 0 := fun g => sh_kept hx hy hc g
    have sy : y.1 = 1 → (shC m x k).getD y.2.2.toNat 0 = m.2.1.getD y.2.2.toNat 0 := fun g => sh_kept hy hx hc' g
    have rx : x.1 = 4 → (rgC m y l).getD (k * 2 + x.2.1.toNat) 0 = m.2.2.2.getD (k * 2 + x.2.1.toNat) 0 := fun g => reg_kept h hy (bx.1 (by omega))
    have ry : y.1 = 4 → (rgC m x k).getD (l * 2 + y.2.1.toNat) 0 = m.2.2.2.getD (l * 2 + y.2.1.toNat) 0 := fun g => reg_kept (Ne.symm h) hx (by'.1 (by omega))
    have hne : x.1 ≠ 2 → y.1 ≠ 2 → k * 2 + x.2.1.toNat ≠ l * 2 + y.2.1.toNat := fun a b => reg_own h (bx.1 a) (by'.1 b)
    obtain ⟨u, hu⟩ : ∃ u : Option Int, ∀ (S R : List Int), (x.1 = 1 → S.getD x.2.2.toNat 0 = m.2.1.getD x.2.2.toNat 0) → (x.1 = 4 → R.getD (k * 2 + x.2.1.toNat) 0 = m.2.2.2.getD (k * 2 + x.2.1.toNat) 0) → (if x.1 = 1 then R.set (k * 2 + x.2.1.toNat) (S.getD x.2.2.toNat 0) else if x.1 = 3 then R.set (k * 2 + x.2.1.toNat) x.2.2 else if x.1 = 4 then R.set (k * 2 + x.2.1.toNat) ((R.getD (k * 2 + x.2.1.toNat) 0 + x.2.2) % 10) else R) = putO u (R) (k * 2 + x.2.1.toNat) ∧ (u ≠ none → x.1 ≠ 2) := by
      by_cases a1 : x.1 = 1
      · exact ⟨some (m.2.1.getD x.2.2.toNat 0), fun S R g1 g4 => ⟨by rw [if_pos a1, g1 a1]; rfl, fun _ => by omega⟩⟩
      · by_cases a3 : x.1 = 3
        · exact ⟨some x.2.2, fun S R g1 g4 => ⟨by rw [if_neg a1, if_pos a3]; rfl, fun _ => by omega⟩⟩
        · by_cases a4 : x.1 = 4
          · exact ⟨some ((m.2.2.2.getD (k * 2 + x.2.1.toNat) 0 + x.2.2) % 10), fun S R g1 g4 => ⟨by rw [if_neg a1, if_neg a3, if_pos a4, g4 a4]; rfl, fun _ => by omega⟩⟩
          · exact ⟨none, fun S R g1 g4 => ⟨by rw [if_neg a1, if_neg a3, if_neg a4]; rfl, fun g => absurd rfl g⟩⟩
    obtain ⟨v, hv⟩ : ∃ v : Option Int, ∀ (S R : List Int), (y.1 = 1 → S.getD y.2.2.toNat 0 = m.2.1.getD y.2.2.toNat 0) → (y.1 = 4 → R.getD (l * 2 + y.2.1.toNat) 0 = m.2.2.2.getD (l * 2 + y.2.1.toNat) 0) → (if y.1 = 1 then R.set (l * 2 + y.2.1.toNat) (S.getD y.2.2.toNat 0) else if y.1 = 3 then R.set (l * 2 + y.2.1.toNat) y.2.2 else if y.1 = 4 then R.set (l * 2 + y.2.1.toNat) ((R.getD (l * 2 + y.2.1.toNat) 0 + y.2.2) % 10) else R) = putO v (R) (l * 2 + y.2.1.toNat) ∧ (v ≠ none → y.1 ≠ 2) := by
      by_cases a1 : y.1 = 1
      · exact ⟨some (m.2.1.getD y.2.2.toNat 0), fun S R g1 g4 => ⟨by rw [if_pos a1, g1 a1]; rfl, fun _ => by omega⟩⟩
      · by_cases a3 : y.1 = 3
        · exact ⟨some y.2.2, fun S R g1 g4 => ⟨by rw [if_neg a1, if_pos a3]; rfl, fun _ => by omega⟩⟩
        · by_cases a4 : y.1 = 4
          · exact ⟨some ((m.2.2.2.getD (l * 2 + y.2.1.toNat) 0 + y.2.2) % 10), fun S R g1 g4 => ⟨by rw [if_neg a1, if_neg a3, if_pos a4, g4 a4]; rfl, fun _ => by omega⟩⟩
          · exact ⟨none, fun S R g1 g4 => ⟨by rw [if_neg a1, if_neg a3, if_neg a4]; rfl, fun g => absurd rfl g⟩⟩
    have f1 := hv (shC m x k) (rgC m x k) sy ry
    have f2 := hu (shC m y l) (rgC m y l) sx rx
    have f3 := hu m.2.1 m.2.2.2 (fun _ => rfl) (fun _ => rfl)
    have f4 := hv m.2.1 m.2.2.2 (fun _ => rfl) (fun _ => rfl)
    have g3 : rgC m x k = putO u (m.2.2.2) (k * 2 + x.2.1.toNat) := f3.1
    have g4 : rgC m y l = putO v (m.2.2.2) (l * 2 + y.2.1.toNat) := f4.1
    have g1 : rgC (stepM m x k).1 y l = putO v (rgC m x k) (l * 2 + y.2.1.toNat) := by
      rw [← f1.1]
      show rgC (stepM m x k).1 y l = _
      unfold rgC
      rw [hsx, hrx]
      rfl
    have g2 : rgC (stepM m y l).1 x k = putO u (rgC m y l) (k * 2 + x.2.1.toNat) := by
      rw [← f2.1]
      show rgC (stepM m y l).1 x k = _
      unfold rgC
      rw [hsy, hry]
      rfl
    rw [g1, g2, g3, g4]
    cases u with
    | none => cases v <;> rfl
    | some a =>
      cases v with
      | none => rfl
      | some b => exact List.set_comm _ _ (hne (f3.2 (by simp)) (f4.2 (by simp)))
end Go.Proofs.YtmhngodbnoonhaaDoor


/-
  Neighbours of a schedule that do not depend on one another change places: the same state, the same events.
-/
namespace Go.Proofs.YtmhngodbnoonhaaDoor
open Go.RowKit
set_option linter.unusedVariables false
set_option linter.unusedSimpArgs false

theorem goM_natC (rows : List (List I3)) (m : V4) (k : Nat) : goM rows m (k : Int) = stepM m (insM rows m k) k := by unfold goM; rw [Int.toNat_natCast]
theorem done_other {rows : List (List I3)} {m : V4} {x : I3} {k l : Nat} (h : k ≠ l) : doneM rows (stepM m x k).1 l = doneM rows m l := by unfold doneM; rw [stepM_other m x (Ne.symm h)]
theorem ins_other {rows : List (List I3)} {m : V4} {x : I3} {k l : Nat} (h : k ≠ l) : insM rows (stepM m x k).1 l = insM rows m l := by unfold insM; rw [stepM_other m x (Ne.symm h)]
theorem event_other {rows : List (List I3)} {m : V4} {x : I3} {k l : Nat} (h : k ≠ l) : eventM rows (stepM m x k).1 l = eventM rows m l := by unfold eventM; rw [ins_other h, stepM_other m x (Ne.symm h)]
theorem lock_other {m : V4} {x y : I3} {k : Nat} (hx : okI x = true) (hy : okI y = true) (hc : ¬ clashI x y) : atLock (stepM m x k).1 y = atLock m y := by
  unfold atLock
  by_cases h5 : y.1 = 5
  · rw [step_parts]
    simp only
    rw [lk_kept hy hx (clash_symm hc) (.inl h5)]
  · simp [h5]
theorem dep_clash {rows : List (List I3)} {m : V4} {k l : Nat} (hd : depM (eventM rows m k) (eventM rows m l) = false) : k ≠ l ∧ ¬ clashI (insM rows m k) (insM rows m l) := by
  unfold depM eventM at hd
  simp only [Bool.or_eq_false_iff, decide_eq_false_iff_not] at hd
  obtain ⟨h1, h2⟩ := hd
  refine ⟨fun e => h1 (by rw [e]), ?_⟩
  rintro ⟨a, b, c⟩
  have e1 : decide (0 ≤ objM (insM rows m k)) = true := by simp [a]
  have e2 : decide (objM (insM rows m k) = objM (insM rows m l)) = true := by simp [b]
  have e3 : (decide ((insM rows m k).1 = 1) && decide ((insM rows m l).1 = 1)) = false := by
    cases e : (decide ((insM rows m k).1 = 1) && decide ((insM rows m l).1 = 1))
    · rfl
    · simp only [Bool.and_eq_true, decide_eq_true_eq] at e
      exact absurd e c
  rw [e1, e2, e3] at h2
  cases h2
theorem halt_go {rows : List (List I3)} {m : V4} {k : Nat} (hk : k < 3) (hc : canM rows m k = true) : haltM rows m (k : Int) = 0 := by
  have hd := (can_parts hc).1
  unfold haltM
  rw [if_pos (by omega), Int.toNat_natCast]
  simp [hd, hc]
theorem go_commute {rows : List (List I3)} {m : V4} {k l : Nat} (hp : progOk rows = true) (hs : shapeOk m = true) (h1 : haltM rows m (k : Int) = 0) (h2 : haltM rows (goM rows m (k : Int)).1 (l : Int) = 0) (hd : depM (eventM rows m k) (eventM rows (goM rows m (k : Int)).1 l) = false) :
    haltM rows m (l : Int) = 0 ∧ haltM rows (goM rows m (l : Int)).1 (k : Int) = 0 ∧ (goM rows (goM rows m (l : Int)).1 (k : Int)).1 = (goM rows (goM rows m (k : Int)).1 (l : Int)).1 ∧ eventM rows m l = eventM rows (goM rows m (k : Int)).1 l ∧ eventM rows (goM rows m (l : Int)).1 k = eventM rows m k := by
  obtain ⟨a0, a1, a2, a3⟩ := halt_can h1
  obtain ⟨b0, b1, b2, b3⟩ := halt_can h2
  rw [Int.toNat_natCast] at a2 a3 b2 b3
  have hk : k < 3 := by omega
  have hl : l < 3 := by omega
  simp only [goM_natC] at *
  have hkl : k ≠ l := fun e => by
    subst e
    unfold depM eventM at hd
    simp at hd
  rw [event_other hkl] at hd
  obtain ⟨_, hc⟩ := dep_clash hd
  rw [done_other hkl] at b2
  obtain ⟨_, _, _, _, ox⟩ := at_ins hp hs hk a2
  obtain ⟨_, _, _, _, oy⟩ := at_ins hp hs hl b2
  have c1 : canM rows m l = true := by
    unfold canM at b3 ⊢
    rw [done_other hkl, ins_other hkl, lock_other ox oy hc] at b3
    exact b3
  have c2 : canM rows (stepM m (insM rows m l) l).1 k = true := by
    unfold canM at a3 ⊢
    rw [done_other (Ne.symm hkl), ins_other (Ne.symm hkl), lock_other oy ox (clash_symm hc)]
    exact a3
  refine ⟨halt_go hl c1, halt_go hk c2, ?_, (event_other hkl).symm, event_other (Ne.symm hkl)⟩
  rw [ins_other hkl, ins_other (Ne.symm hkl)]
  exact (step_commute hkl ox oy hc).symm
theorem runI_fs (rows : List (List I3)) : ∀ (ks : List Int) (m : V4) (fs fs' : List I3), (runI rows m fs ks).1 = (runI rows m fs' ks).1 ∧ (runI rows m fs ks).2.2 = (runI rows m fs' ks).2.2
  | [], m, fs, fs' => ⟨rfl, rfl⟩
  | k :: ks, m, fs, fs' => by
    have e : ∀ f, runI rows m f (k :: ks) = if haltM rows m k = 0 then runI rows (goM rows m k).1 (f ++ ownM rows m k) ks else (m, f, haltM rows m k) := fun f => rfl
    rw [e, e]
    split
    · exact runI_fs rows ks _ _ _
    · exact ⟨rfl, rfl⟩
theorem runI_cons {rows : List (List I3)} {m : V4} {fs : List I3} {k : Int} {ks : List Int} (h : (runI rows m fs (k :: ks)).2.2 = 0) : haltM rows m k = 0 ∧ runI rows m fs (k :: ks) = runI rows (goM rows m k).1 (fs ++ ownM rows m k) ks := by
  have e : runI rows m fs (k :: ks) = if haltM rows m k = 0 then runI rows (goM rows m k).1 (fs ++ ownM rows m k) ks else (m, fs, haltM rows m k) := rfl
  by_cases hz : haltM rows m k = 0
  · rw [if_pos hz] at e
    exact ⟨hz, e⟩
  · rw [e, if_neg hz] at h
    exact absurd h hz
theorem runI_yes {rows : List (List I3)} {m : V4} {fs : List I3} {k : Int} {ks : List Int} (hz : haltM rows m k = 0) : runI rows m fs (k :: ks) = runI rows (goM rows m k).1 (fs ++ ownM rows m k) ks := by
  show (if haltM rows m k = 0 then _ else _) = _
  rw [if_pos hz]
theorem run_swap {rows : List (List I3)} {m : V4} {fs : List I3} {k l : Int} {ks : List Int} (hp : progOk rows = true) (hs : shapeOk m = true) (h : (runI rows m fs (k :: l :: ks)).2.2 = 0) (hd : depM (eventM rows m k.toNat) (eventM rows (goM rows m k).1 l.toNat) = false) :
    (runI rows m fs (l :: k :: ks)).1 = (runI rows m fs (k :: l :: ks)).1 ∧ (runI rows m fs (l :: k :: ks)).2.2 = 0 ∧ evsM rows m (l :: k :: ks) = eventM rows (goM rows m k).1 l.toNat :: eventM rows m k.toNat :: evsM rows (goM rows (goM rows m k).1 l).1 ks := by
  obtain ⟨h1, e1⟩ := runI_cons h
  rw [e1] at h ⊢
  obtain ⟨h2, e2⟩ := runI_cons h
  rw [e2] at h ⊢
  obtain ⟨a0, a1, _, _⟩ := halt_can h1
  obtain ⟨b0, b1, _, _⟩ := halt_can h2
  obtain ⟨k', rfl⟩ : ∃ k' : Nat, k = k' := ⟨k.toNat, by omega⟩
  obtain ⟨l', rfl⟩ : ∃ l' : Nat, l = l' := ⟨l.toNat, by omega⟩
  simp only [Int.toNat_natCast] at hd ⊢
  obtain ⟨g1, g2, g3, g4, g5⟩ := go_commute hp hs h1 h2 hd
  rw [runI_yes g1, runI_yes g2, g3]
  obtain ⟨f1, f2⟩ := runI_fs rows ks (goM rows (goM rows m (k' : Int)).1 (l' : Int)).1 (fs ++ ownM rows m (l' : Int) ++ ownM rows (goM rows m (l' : Int)).1 (k' : Int)) (fs ++ ownM rows m (k' : Int) ++ ownM rows (goM rows m (k' : Int)).1 (l' : Int))
  refine ⟨f1, f2.trans h, ?_⟩
  show eventM rows m (l' : Int).toNat :: eventM rows (goM rows m (l' : Int)).1 (k' : Int).toNat :: evsM rows (goM rows (goM rows m (l' : Int)).1 (k' : Int)).1 ks = _
  rw [Int.toNat_natCast, Int.toNat_natCast, g3, g4, g5]
theorem run_app {rows : List (List I3)} : ∀ (pre ks : List Int) (m : V4) (fs : List I3), (runI rows m fs pre).2.2 = 0 → runI rows m fs (pre ++ ks) = runI rows (runI rows m fs pre).1 (runI rows m fs pre).2.1 ks ∧ evsM rows m (pre ++ ks) = evsM rows m pre ++ evsM rows (runI rows m fs pre).1 ks
  | [], ks, m, fs, _ => ⟨rfl, rfl⟩
  | k :: pre, ks, m, fs, h => by
    obtain ⟨h1, e1⟩ := runI_cons h
    rw [e1] at h ⊢
    obtain ⟨i1, i2⟩ := run_app pre ks _ _ h
    rw [List.cons_append, runI_yes h1, i1]
    refine ⟨rfl, ?_⟩
    show eventM rows m k.toNat :: evsM rows (goM rows m k).1 (pre ++ ks) = eventM rows m k.toNat :: (evsM rows (goM rows m k).1 pre ++ _)
    rw [i2]
theorem run_pre {rows : List (List I3)} : ∀ (pre ks : List Int) (m : V4) (fs : List I3), (runI rows m fs (pre ++ ks)).2.2 = 0 → (runI rows m fs pre).2.2 = 0
  | [], ks, m, fs, _ => rfl
  | k :: pre, ks, m, fs, h => by
    rw [List.cons_append] at h
    obtain ⟨h1, e1⟩ := runI_cons h
    rw [runI_yes h1]
    rw [e1] at h
    exact run_pre pre ks _ _ h
theorem evsM_len (rows : List (List I3)) : ∀ (ks : List Int) (m : V4), (evsM rows m ks).length = ks.length
  | [], m => rfl
  | k :: ks, m => by show (evsM rows (goM rows m k).1 ks).length + 1 = ks.length + 1; rw [evsM_len rows ks]
/-- Neighbours change places, wherever they stand. -/
theorem swap_at {rows : List (List I3)} (hp : progOk rows = true) (pre ks : List Int) (k l : Int) (h : (runI rows zeroV [] (pre ++ k :: l :: ks)).2.2 = 0) :
    ∃ e1 e2 rest, evsM rows zeroV (pre ++ k :: l :: ks) = evsM rows zeroV pre ++ e1 :: e2 :: rest ∧ (depM e1 e2 = false → (runI rows zeroV [] (pre ++ l :: k :: ks)).1 = (runI rows zeroV [] (pre ++ k :: l :: ks)).1 ∧ (runI rows zeroV [] (pre ++ l :: k :: ks)).2.2 = 0 ∧ evsM rows zeroV (pre ++ l :: k :: ks) = evsM rows zeroV pre ++ e2 :: e1 :: rest) := by
  have h0 := run_pre pre (k :: l :: ks) zeroV [] h
  have a1 := run_app pre (k :: l :: ks) zeroV [] h0
  have a2 := run_app pre (l :: k :: ks) zeroV [] h0
  have hs := (runI_ok hp pre zeroV [] zero_shape (by simp)).1
  rw [a1.1] at h
  refine ⟨_, _, _, a1.2, fun hd => ?_⟩
  obtain ⟨s1, s2, s3⟩ := run_swap hp hs h hd
  rw [a1.1, a2.1, a2.2, s3]
  exact ⟨s1, s2, rfl⟩
end Go.Proofs.YtmhngodbnoonhaaDoor


/-
  The program's NormalOf.
-/
namespace Go.Proofs.YtmhngodbnoonhaaDoor
open Go.RowKit
set_option linter.unusedVariables false
set_option linter.unusedSimpArgs false

def LGot (e : Ending) (w : World) (B : Nat) (ks : List Int) (c : Int) : Prop := ∃ v, e = .returned (.tuple #[v, .int .i64 c]) ∧ w.ownsRow B 3 1 v ks.length (ks.map (Value.int .i64))
noncomputable def stJ (es : List I4) (s : Nat) : (Nat → Nat) × List Nat := stI (depE es) (thE es) es.length s
theorem stJ_next (es : List I4) (s : Nat) : stJ es (s + 1) = (fun t => (stJ es s).1 t + (if t = leastT (okN (depE es) (thE es) (stJ es s).1) (thE es) es.length then 1 else 0), (stJ es s).2 ++ [leastT (okN (depE es) (thE es) (stJ es s).1) (thE es) es.length]) := rfl
theorem stJ_bound (es : List I4) (t : Nat) : ∀ s, (stJ es s).1 t ≤ s
  | 0 => Nat.le_refl _
  | s + 1 => by
    rw [stJ_next]
    have := stJ_bound es t s
    show (stJ es s).1 t + _ ≤ _
    split <;> omega
theorem stJ_least {es : List I4} (h : inThree es) {s : Nat} (hs : s < es.length) : leastT (okN (depE es) (thE es) (stJ es s).1) (thE es) es.length < 3 := by
  obtain ⟨_, _, _, h4⟩ := norm_same (D := depE es) (B := befB (depE es)) (depE_thread h) (thE_three h) (n := es.length) (fun i k _ _ => befB_iff) s (by omega)
  obtain ⟨b, _, _, hl⟩ := h4 hs
  unfold stJ
  rw [hl]
  exact thE_three h b
theorem stJ_end {es : List I4} (h : inThree es) : (stJ es es.length).2.map (fun t : Nat => (t : Int)) = nrmE es := by
  unfold nrmE stJ
  rw [(norm_is h).2]
theorem stJ_len (es : List I4) : ∀ s, (stJ es s).2.length = s
  | 0 => rfl
  | s + 1 => by rw [stJ_next, List.length_append, stJ_len es s]; rfl
theorem nrmE_len {es : List I4} (h : inThree es) : (nrmE es).length = es.length := by
  rw [← stJ_end h, List.length_map, stJ_len]
/-- The threads of a schedule's events are the three. -/
theorem evsM_three {rows : List (List I3)} : ∀ (ks : List Int) (m : V4) (fs : List I3), (runI rows m fs ks).2.2 = 0 → inThree (evsM rows m ks)
  | [], _, _, _ => fun x hx => by simp [evsM] at hx
  | k :: ks, m, fs, h => by
    obtain ⟨hz, he⟩ := runI_cons h
    rw [he] at h
    have ih := evsM_three ks _ _ h
    obtain ⟨h0, h2, _⟩ := halt_can hz
    intro x hx
    simp only [evsM, List.mem_cons] at hx
    rcases hx with rfl | hx
    · show 0 ≤ (eventM rows m k.toNat).1 ∧ (eventM rows m k.toNat).1 < 3
      unfold eventM
      simp only
      omega
    · exact ih x hx
theorem evE_three (rows : List (List I3)) (ks : List Int) : inThree (evE rows ks) := by
  unfold evE
  split
  · intro x hx; simp at hx
  · split
    · split
      · rename_i h; exact evsM_three ks _ _ h
      · intro x hx; simp at hx
    · intro x hx; simp at hx
theorem evE_len9 (rows : List (List I3)) (ks : List Int) : (evE rows ks).length ≤ 4096 := by
  unfold evE
  split
  · simp
  · split
    · split
      · rw [evsM_len]; omega
      · simp
    · simp
theorem evE_nil {rows : List (List I3)} {ks : List Int} (h : evK rows ks ≠ 0) : evE rows ks = [] := by
  unfold evK at h
  unfold evE
  split at h
  · rename_i h1; rw [if_pos h1]
  · rename_i h1
    rw [if_neg h1]
    split at h
    · rename_i h2; rw [if_pos h2, if_neg h]
    · rename_i h2; rw [if_neg h2]
theorem nrmE_nil : nrmE [] = [] := rfl
/-- On the way. -/
def OnNrm (w wr : World) (gT : Nat) (es : List I4) (s : Nat) (v : Value) : Prop :=
  Blk wr gT 120 (tab 3 fun u => .int .i64 ((stJ es s).1 u : Nat)) ∧ wr.ownsRow w.heap.size 3 1 v s (((stJ es s).2.map (fun t : Nat => (t : Int))).map (Value.int .i64)) ∧ Below w.heap.size w wr

set_option maxHeartbeats 2000000 in
set_option maxRecDepth 100000 in
theorem implNormalOf_is (a : Option Addr) (len cap : Nat) (rows : List (List I3)) (la : Option Addr) (n c : Nat) (ks : List Int) (w : World) (hC : Codes w a len cap rows) (hV : VmShape w) (hL : Ints .i64 w la n c ks) :
    Calls Tryd.prog 43 #[.agg #[.slice a len cap], .slice la n c] w fun e w' => LGot e w' w.heap.size (nrmE (evE rows ks)) (evK rows ks) ∧ Below w.heap.size w w' := by
  obtain ⟨i1, hi, hz3, hz4, hz5⟩ := info_parts info_int
  have hI := evE_three rows ks
  have hE := evE_len9 rows ks
  have kE := fun W (b : Below w.heap.size w W) => implEventsOf_is a len cap rows la n c ks W (hC.below b) (hV.below b) (hL.below b)
  have HN : Hid (evK rows ks ≠ 0 → nrmE (evE rows ks) = []) := fun h => by rw [evE_nil h]; rfl
  generalize evE rows ks = es at *
  generalize evK rows ks = cd at *
  have bw : Below w.heap.size w (w.alloc (.cells #[.slice a len cap] 25)) := by go_grown
  have pP : Blk (w.alloc (.cells #[.slice a len cap] 25)) w.heap.size 25 [.slice a len cap] := blkAt _ _ _ rfl
  clear hC hV hL
  go_enter Tryd.func43, Tryd.ntmps43
  go_wp2_with fail
  generalize (w.alloc (.cells #[.slice a len cap] 25)) = U at *
  go_wp2_with (first | refine wpList_load_blk rfl 25 _ rfl w.heap.size rfl pP _ Tryd.underlying25 rfl (by kernel_rfl) ?_)
  refine (kE _ bw).mono ?_
  rintro e w1 ⟨⟨v, rfl, q⟩, hb⟩
  replace bw := bel_trans bw hb
  clear kE pP hb
  by_cases hcd : cd = 0
  case neg =>
    have hne : (cd != 0) = true := by simp [hcd]
    have HE : Hid (nrmE es = []) := HN.out hcd
    clear q HN hcd
    go_wp2
    go_ret2
    rw [HE.out]
    exact ⟨⟨_, rfl, World.ownsRow_nil _ _ _ _⟩, bw⟩
  subst hcd
  clear HN
  obtain ⟨ea, ec, rfl, hEv⟩ := evs_slice q
  have hec : es.length ≤ ec := by
    rcases q.2 with ⟨h1, _⟩ | ⟨g9, cap9, cur9, h1, _, _, h2, _⟩
    · simp at h1; omega
    · simp at h1; omega
  clear q
  obtain ⟨n9, hn9⟩ : ∃ n9, n9 = es.length := ⟨_, rfl⟩
  rw [← hn9] at hEv hE hec ⊢
  have HL : Hid (n9 = es.length) := hn9
  clear hn9
  have kC := clocksOf_is ea n9 ec es w1 hEv hE hec hI
  go_wp2_with fail
  refine kC.mono ?_
  rintro e w2 ⟨gC, rfl, pC, hgC, hb⟩
  have hEv2 := hEv.below hb
  have bw2 := bel_trans bw hb
  have hw1 : w.heap.size ≤ gC := Nat.le_trans bw.size hgC
  clear kC hb bw hEv hgC
  have ha : Below w2.heap.size w2 (w2.alloc (.cells #[.int .i64 0, .int .i64 0, .int .i64 0] 120)) := by go_grown
  have pT := Blk.new w2 120 [.int .i64 0, .int .i64 0, .int .i64 0]
  have st : OnNrm w2 (w2.alloc (.cells #[.int .i64 0, .int .i64 0, .int .i64 0] 120)) w2.heap.size es 0 (.slice none 0 0) := ⟨pT, World.ownsRow_nil _ _ _ _, ha⟩
  have HLs : Hid (∀ s, s < n9 → leastT (okN (depE es) (thE es) (stJ es s).1) (thE es) n9 < 3) := fun s hs => by
    have := stJ_least hI (s := s) (by rw [← HL.out]; exact hs)
    rw [← HL.out] at this
    exact this
  have HNx : Hid (∀ s, stJ es (s + 1) = (fun t => (stJ es s).1 t + (if t = leastT (okN (depE es) (thE es) (stJ es s).1) (thE es) n9 then 1 else 0), (stJ es s).2 ++ [leastT (okN (depE es) (thE es) (stJ es s).1) (thE es) n9])) := fun s => by rw [HL.out]; exact stJ_next es s
  have kL := fun W (b : Below w2.heap.size w2 W) (f : Nat → Nat) (hf : ∀ t, f t ≤ 5000) => leastThread_is ea n9 ec gC es W (hEv2.below b) hE hI (pC.below b) f hf
  unfold ck at kL
  obtain ⟨gT, hgT⟩ : ∃ gT, gT = w2.heap.size := ⟨_, rfl⟩
  have hgTw : w2.heap.size ≤ gT := by omega
  rw [← hgT] at st
  have HG : Hid (gT = w2.heap.size) := hgT
  clear pC hEv2 pT ha hgT
  go_wp2_with fail
  rw [← HG.out]
  go_loopw [9, 25] (fun sv si wr => ∃ (s : Nat) (vv : Value), s ≤ n9 ∧ vv = sv ∧ si = .int .i64 s ∧ OnNrm w2 wr gT es s vv) (fun _ si _ => n9 - (intOf si).toNat)
  case atStart => exact ⟨0, _, by omega, rfl, rfl, st⟩
  case round =>
    clear st
    obtain ⟨s, vv, hs, rfl, rfl, pT, q, b2⟩ := hrel
    by_cases hsn : s < n9
    · have hsn' : (s : Int) < (n9 : Int) := by omega
      have kLx := kL wr b2 (stJ es s).1 (fun t => by have := stJ_bound es t s; omega)
      have hl3 := HLs.out s hsn
      have HX : Hid (stJ es (s + 1) = _) := HNx.out s
      have hll := stJ_len es s
      have hbd := fun t => stJ_bound es t s
      generalize leastT (okN (depE es) (thE es) (stJ es s).1) (thE es) n9 = l at *
      have pT9 := pT
      rw [tab_three] at pT9
      go_wp2_with (first | refine wpList_load_blk rfl 120 _ rfl gT rfl pT9 _ Tryd.underlying120 rfl (by kernel_rfl) ?_)
      refine kLx.mono ?_
      rintro e w3 ⟨rfl, hb⟩
      have pT3 := pT.below hb
      have q3 := owns_below q hb
      have b3 := bel_trans b2 hb
      clear kLx hb pT pT9 q b2
      have ht9 : (l : Int) < 3 := by omega
      have ht8 : (0 : Int) ≤ (l : Int) := by omega
      have c0 := (pT3.cell l).trans (tab_get _ hl3)
      have f0 := pT3.frozen l
      have hft := hbd l
      have pT4 : Hid (Blk (w3.setCell ⟨gT, l, none⟩ (.int .i64 (((stJ es s).1 l : Nat) + 1 : Int))) gT 120 (tab 3 fun u => .int .i64 ((stJ es (s + 1)).1 u : Nat))) := by
        have := pT3.set l (.int .i64 (((stJ es s).1 l : Nat) + 1 : Int))
        rw [tab_set] at this
        unfold Hid
        rw [HX.out]
        refine this.trans ?_
        congr 3
        refine tab_congr (fun u _ => ?_)
        by_cases e : u = l
        · subst e; simp
        · simp [e]
      have gs : w3.grownBy (w3.setCell ⟨gT, l, none⟩ (.int .i64 (((stJ es s).1 l : Nat) + 1 : Int))) (some gT) := ⟨rfl, rfl, rfl, by simp, fun i _ hr => Below.heap_setCell w3 ⟨gT, l, none⟩ _ i (fun e => hr (by rw [e]))⟩
      have q4 := q3.kept gs (.inr (own_ne_blk q3 pT3 (by decide)))
      have b4 := b3.grown gs b3.size (fun x hx => by cases hx; exact hgTw)
      have hsz := b4.size
      clear pT3 q3 b3 gs
      obtain ⟨wx, hwx⟩ : ∃ wx, wx = w3.setCell ⟨gT, l, none⟩ (.int .i64 (((stJ es s).1 l : Nat) + 1 : Int)) := ⟨_, rfl⟩
      rw [← hwx] at pT4 q4 b4 hsz
      have HW : Hid (wx = w3.setCell ⟨gT, l, none⟩ (.int .i64 (((stJ es s).1 l : Nat) + 1 : Int))) := hwx
      have HZ : Hid (w3.heap.size = wx.heap.size) := by rw [Hid, hwx]; simp
      clear hwx
      go_wp2_with (at_builtin; rw [← HW.out]; (try rw [HZ.out]); refine wpList_append_own _ rfl _ _ 27 rfl w2.heap.size 3 i1 (.int .i64 0) 1 8 Tryd.underlying27 hi hz3 hz4 hz5 rfl (by decide) _ _ _ rfl (q4.alloc _) ⟨wx.heap.size, 0, none⟩ 1 1 [.int .i64 (l : Int)] rfl rfl (cell_one_new _ _ _) (by simp [Value.oneCell']) ?c3 ?c4 ?c5 ?_)
      case c3 => unfold maxLen; omega
      case c4 => omega
      case c5 => simp; omega
      intro v' wn hown' hgrow hx9
      clear hx9
      have ha : Below wx.heap.size wx (wx.alloc (.cells #[.int .i64 (l : Int)] 3)) := by go_grown
      have R : wn.ownsRow w2.heap.size 3 1 v' (s + 1) (((stJ es (s + 1)).2.map (fun t : Nat => (t : Int))).map (Value.int .i64)) := by
        rw [HX.out]
        simp only [List.map_append, List.map_map, List.map_cons, List.map_nil, Function.comp_apply]
        exact hown'
      have qa := owns_below q4 ha
      have st2 : OnNrm w2 wn gT es (s + 1) v' := by
        have pTa := pT4.out.below ha
        exact ⟨pTa.kept hgrow (own_ne_blk qa pTa (by decide)), R, (bel_trans b4 ha).grown hgrow (Nat.le_trans hsz ha.size) (fun x hx => (q4.lt x hx).1)⟩
      clear hown' hgrow R qa ha q4 pT4 b4
      go_wp2
      go_roundw
      case rel => exact ⟨s + 1, _, by omega, rfl, by go_num, st2⟩
      case measure => simp [intOf]; omega
    · obtain rfl : s = n9 := by omega
      have HE : Hid ((stJ es s).2.map (fun t : Nat => (t : Int)) = nrmE es) := by
        have := stJ_end hI
        rw [← HL.out] at this
        exact this
      have hl9 : (nrmE es).length = s := by rw [← HE.out, List.length_map, stJ_len]
      rw [HE.out] at q
      have q9 := own_lowerB (B' := w.heap.size) q bw2.size
      have b9 := bel_trans bw2 b2
      clear pT q
      go_wp2
      go_ret2
      exact ⟨⟨_, rfl, by rw [hl9]; exact q9⟩, b9⟩
end Go.Proofs.YtmhngodbnoonhaaDoor


/-
  The specification's l05Same: whether two rows of numbers are the same.
-/
namespace Go.Proofs.YtmhngodbnoonhaaDoor
open Go.RowKit

theorem ext_getDL {xs ys : List Int} (hl : xs.length = ys.length) (h : ∀ i, i < xs.length → xs.getD i 0 = ys.getD i 0) : xs = ys := by
  refine List.ext_getElem hl (fun i h1 h2 => ?_)
  have := h i h1
  simpa [List.getD, h1, h2] using this

set_option maxHeartbeats 1000000 in
set_option maxRecDepth 100000 in
theorem l05Same_is (a : Option Addr) (n c : Nat) (xs : List Int) (a' : Option Addr) (n' c' : Nat) (ys : List Int) (w : World) (h : Ints .i64 w a n c xs) (h' : Ints .i64 w a' n' c' ys) :
    Calls Tryd.prog 83 #[.slice a n c, .slice a' n' c'] w fun e w' => e = .returned (.bool (decide (xs = ys))) ∧ ∃ d, w' = w.drewN d := by
  obtain ⟨dd, hdd⟩ : ∃ dd, dd = decide (xs = ys) := ⟨_, rfl⟩
  rw [← hdd]
  have HD : Hid (dd = decide (xs = ys)) := hdd
  clear hdd
  obtain ⟨hl, hlc, hcm, hcase⟩ := h
  obtain ⟨hl', hlc', hcm', hcase'⟩ := h'
  unfold maxLen at hcm hcm'
  by_cases hnn : n = n'
  case neg =>
    have hne : ((n : Int) != (n' : Int)) = true := by simp; omega
    have HF : Hid (dd = false) := by
      rw [Hid, HD.out, decide_eq_false_iff_not]
      intro e
      rw [e, hl'] at hl
      exact hnn hl.symm
    clear hcase hcase'
    go_enter Tryd.func83, Tryd.ntmps83
    go_wp2
    go_ret
    exact ⟨by rw [HF.out]; rfl, 0, rfl⟩
  subst hnn
  have hne : ((n : Int) != (n : Int)) = false := by simp
  by_cases h0 : n = 0
  · subst h0
    have HT : Hid (dd = true) := by
      rw [Hid, HD.out, decide_eq_true_iff, List.length_eq_zero_iff.1 hl, List.length_eq_zero_iff.1 hl']
    clear hcase hcase' hl hl'
    go_enter Tryd.func83, Tryd.ntmps83
    go_wp2
    refine wp_loop_rounds 1 ?_
    rw [rounds_succ]
    go_wp2
    go_ret
    exact ⟨by rw [HT.out]; rfl, 0, rfl⟩
  · rcases hcase with h0' | ⟨b, off, rfl, hblt, hcell⟩
    · exact absurd h0' h0
    rcases hcase' with h0' | ⟨b', off', rfl, hblt', hcell'⟩
    · exact absurd h0' h0
    have HL : Hid (xs.length = n ∧ ys.length = n) := ⟨hl, hl'⟩
    clear hl hl'
    go_enter Tryd.func83, Tryd.ntmps83
    go_wp2
    go_loopw [5] (fun si wr => ∃ k d : Nat, k ≤ n ∧ si = .int .i64 k ∧ Hid (∀ i, i < k → xs.getD i 0 = ys.getD i 0) ∧ wr = w.drewN d) (fun si _ => n - (intOf si).toNat)
    case atStart => exact ⟨0, 0, by omega, rfl, fun i hi => by omega, rfl⟩
    case round =>
      obtain ⟨k, d, hk, rfl, hH, rfl⟩ := hrel
      by_cases hlt : k < n
      · have hc := hcell k hlt
        have hc' := hcell' k hlt
        have hlt' : (k : Int) < (n : Int) := by omega
        clear hcell hcell'
        by_cases hx : xs.getD k 0 = ys.getD k 0
        · have hH2 : Hid (∀ i, i < k + 1 → xs.getD i 0 = ys.getD i 0) := fun i hi => by
            by_cases e : i = k
            · subst e; exact hx
            · exact hH.out i (by omega)
          rw [← hx] at hc'
          clear hx hH
          generalize xs.getD k 0 = x at hc hc'
          have hxx : (x != x) = false := by simp
          go_wp2
          go_quiet (fail)
          go_wp2
          go_roundw
          case rel => exact ⟨k + 1, _, by omega, by go_num, hH2, rfl⟩
          case measure => simp [intOf]; omega
        · have HF : Hid (dd = false) := by
            rw [Hid, HD.out, decide_eq_false_iff_not]
            intro e
            rw [e] at hx
            exact hx rfl
          have hxx : (xs.getD k 0 != ys.getD k 0) = true := by simpa using hx
          clear hx hH
          generalize xs.getD k 0 = x at hc hxx
          generalize ys.getD k 0 = y at hc' hxx
          go_wp2
          go_quiet (fail)
          go_wp2
          go_ret
          exact ⟨by rw [HF.out]; rfl, d + nq, by simp [World.drewN]; omega⟩
      · have HT : Hid (dd = true) := by
          rw [Hid, HD.out, decide_eq_true_iff]
          have hL := HL.out
          exact ext_getDL (by omega) (fun i hi => hH.out i (by omega))
        clear hcell hcell' hH
        go_wp2
        go_ret
        exact ⟨by rw [HT.out]; rfl, d, rfl⟩
end Go.Proofs.YtmhngodbnoonhaaDoor
