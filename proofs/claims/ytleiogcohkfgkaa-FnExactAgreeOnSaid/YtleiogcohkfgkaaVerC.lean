
/-
  The program's changesOf.
-/
import Derived.Test.YtleiogcohkfgkaaVerP
import Derived.Test.YtleiogcohkfgkaaVerA
import Derived.Test.YtleiogcohkfgkaaCopyG
import Derived.Test.YtleiogcohkfgkaaDrawn
import Derived.Deep.RegionHeld3
namespace Go.Proofs.Ytleiogcohkfgkaa
open Go.RowKit
set_option linter.unusedVariables false
set_option linter.unusedSimpArgs false

/-- A change's cells. -/
def chC9 (P Q : List (List I3)) (x : Pl9) : List Value := [.int .i64 (x.1 : Int), .int .i64 (x.2 : Int), siteV9 (atM9 P x.1 x.2), siteV9 (atM9 Q x.1 x.2)]
def flatC9 (P Q : List (List I3)) (L : List Pl9) : List Value := L.flatMap (chC9 P Q)
theorem flatC9_snoc (P Q : List (List I3)) (L : List Pl9) (x : Pl9) : flatC9 P Q (L ++ [x]) = flatC9 P Q L ++ chC9 P Q x := by simp [flatC9]
theorem flatC9_at (P Q : List (List I3)) : ∀ (L : List Pl9) (t : Nat), t < L.length → (flatC9 P Q L)[t * 4]? = some (.int .i64 ((L.getD t (0, 0)).1 : Int)) ∧ (flatC9 P Q L)[t * 4 + 1]? = some (.int .i64 ((L.getD t (0, 0)).2 : Int)) ∧ (flatC9 P Q L)[t * 4 + 2]? = some (siteV9 (atM9 P (L.getD t (0, 0)).1 (L.getD t (0, 0)).2)) ∧ (flatC9 P Q L)[t * 4 + 3]? = some (siteV9 (atM9 Q (L.getD t (0, 0)).1 (L.getD t (0, 0)).2))
  | [], t, h => by simp at h
  | x :: xs, 0, _ => ⟨rfl, rfl, rfl, rfl⟩
  | x :: xs, t + 1, h => by
    have ih := flatC9_at P Q xs t (by simpa using h)
    have e : (t + 1) * 4 = t * 4 + 1 + 1 + 1 + 1 := by omega
    have e2 : flatC9 P Q (x :: xs) = chC9 P Q x ++ flatC9 P Q xs := by simp [flatC9]
    rw [e2]
    simp only [chC9, List.cons_append, List.nil_append, e, List.getElem?_cons_succ, List.getD_cons_succ]
    exact ih
theorem flatC9_len (P Q : List (List I3)) : ∀ L : List Pl9, (flatC9 P Q L).length = L.length * 4
  | [] => rfl
  | x :: xs => by
    have e2 : flatC9 P Q (x :: xs) = chC9 P Q x ++ flatC9 P Q xs := by simp [flatC9]
    rw [e2, List.length_append, flatC9_len P Q xs, List.length_cons]
    simp only [chC9, List.length_cons, List.length_nil]
    omega
theorem site_one9 (o : Option I3) : (siteV9 o).oneCell' = true := by cases o <;> rfl
theorem info_change9 : (Try.prog.info? 58).map (fun i => (i.zero, i.size, i.bytes)) = some (some (.agg #[.int .i64 0, .int .i64 0, .nilIface, .nilIface]), 4, 48) := by kernel_rfl

theorem four_at9 {w : World} {G t : Nat} {a b c d : Value} (h : Blk w G t [a, b, c, d]) : ∀ j u, [a, b, c, d][j]? = some u → w.cell? ((⟨G, 0, none⟩ : Addr).add j) = some u := by
  intro j u hj
  rw [Addr.add_mid, Nat.zero_add, h.cell]
  exact hj
theorem site_if9 (o : Option I3) : ∃ t v, siteV9 o = .iface t v := by
  cases o
  · exact ⟨_, _, rfl⟩
  · exact ⟨_, _, rfl⟩
/-- What changesOf finds: changes, a code. -/
def chL9 (P Q : List (List I3)) : List Pl9 := if progOk P = true ∧ progOk Q = true then chg9 P Q else []
def chK9 (P Q : List (List I3)) : Int := if progOk P = true ∧ progOk Q = true then 0 else 1
theorem chL9_len (P Q : List (List I3)) : (chL9 P Q).length ≤ 21 := by
  unfold chL9
  split
  · exact chg9_len P Q
  · simp
def OwnC9 (w : World) (B : Nat) (v : Value) (P Q : List (List I3)) (L : List Pl9) : Prop := w.ownsRow B 58 4 v L.length (flatC9 P Q L)
def ChgGot (e : Ending) (w' : World) (B : Nat) (P Q : List (List I3)) : Prop := ∃ v, e = .returned (.tuple #[v, .int .i64 (chK9 P Q)]) ∧ OwnC9 w' B v P Q (chL9 P Q)

set_option maxHeartbeats 2000000 in
set_option maxRecDepth 100000 in
theorem changesOf_bad (a : Option Addr) (len cap : Nat) (P : List (List I3)) (a' : Option Addr) (len' cap' : Nat) (Q : List (List I3)) (w : World) (h : Codes w a len cap P) (h' : Codes w a' len' cap' Q) (hbad : ¬ (progOk P = true ∧ progOk Q = true)) :
    Calls Try.prog 25 #[.agg #[.slice a len cap], .agg #[.slice a' len' cap']] w fun e w' => ChgGot e w' w.heap.size P Q ∧ Below w.heap.size w w' := by
  have kP := fun W (hb : Below w.heap.size w W) => implProgramOK_is a len cap P W (h.below hb)
  have kQ := fun W (hb : Below w.heap.size w W) => implProgramOK_is a' len' cap' Q W (h'.below hb)
  have bw : Below w.heap.size w ((w.alloc (.cells #[.slice a len cap] 31)).alloc (.cells #[.slice a' len' cap'] 31)) := by go_grown
  have g0 : ((w.alloc (.cells #[.slice a len cap] 31)).alloc (.cells #[.slice a' len' cap'] 31)).cell? ⟨w.heap.size, 0, none⟩ = some (.slice a len cap) := by first | (simp [go_sem]; done) | (simp [World.cell?]; done)
  have g1 : ((w.alloc (.cells #[.slice a len cap] 31)).alloc (.cells #[.slice a' len' cap'] 31)).cell? ⟨w.heap.size + 1, 0, none⟩ = some (.slice a' len' cap') := by first | (simp [go_sem]; done) | (simp [World.cell?]; done)
  have eK : chK9 P Q = 1 := if_neg hbad
  have eL : chL9 P Q = [] := if_neg hbad
  have HG : ∀ W, ChgGot (.returned (.tuple #[.slice none 0 0, .int .i64 1])) W w.heap.size P Q := fun W => ⟨_, by rw [eK], by rw [eL]; exact World.ownsRow_nil _ _ _ _⟩
  clear eK eL
  cases hP : progOk P
  · rw [hP] at kP
    clear hP hbad kQ
    go_enter Try.func25, Try.ntmps25
    go_wp2_with fail
    refine (kP _ bw).mono ?_
    rintro e w1 ⟨rfl, hb⟩
    replace bw := bel8 bw hb
    clear hb g0 g1 kP
    go_wp2
    go_ret2
    exact ⟨HG _, bw⟩
  · have hQ : progOk Q = false := by cases e : progOk Q <;> simp_all
    rw [hP] at kP
    rw [hQ] at kQ
    clear hP hbad hQ
    go_enter Try.func25, Try.ntmps25
    go_wp2_with fail
    refine (kP _ bw).mono ?_
    rintro e w1 ⟨rfl, hb⟩
    replace bw := bel8 bw hb
    replace g1 := cells_kept hb _ _ g1
    clear hb g0 kP
    go_wp2_with fail
    refine (kQ _ bw).mono ?_
    rintro e w2 ⟨rfl, hb⟩
    replace bw := bel8 bw hb
    clear hb g1 kQ
    go_wp2
    go_ret2
    exact ⟨HG _, bw⟩

set_option maxHeartbeats 4000000 in
set_option maxRecDepth 100000 in
theorem changesOf_ok (a : Option Addr) (cap : Nat) (P : List (List I3)) (a' : Option Addr) (cap' : Nat) (Q : List (List I3)) (w : World) (h : Codes w a 3 cap P) (h' : Codes w a' 3 cap' Q) (hP : progOk P = true) (hQ : progOk Q = true) :
    Calls Try.prog 25 #[.agg #[.slice a 3 cap], .agg #[.slice a' 3 cap']] w fun e w' => ChgGot e w' w.heap.size P Q ∧ Below w.heap.size w w' := by
  obtain ⟨i0, hi, hz0, hz1, hz2⟩ := info_parts info_change9
  have kP := fun W (hb : Below w.heap.size w W) => implProgramOK_is a 3 cap P W (h.below hb)
  have kQ := fun W (hb : Below w.heap.size w W) => implProgramOK_is a' 3 cap' Q W (h'.below hb)
  have bw : Below w.heap.size w ((w.alloc (.cells #[.slice a 3 cap] 31)).alloc (.cells #[.slice a' 3 cap'] 31)) := by go_grown
  have g0 : ((w.alloc (.cells #[.slice a 3 cap] 31)).alloc (.cells #[.slice a' 3 cap'] 31)).cell? ⟨w.heap.size, 0, none⟩ = some (.slice a 3 cap) := by first | (simp [go_sem]; done) | (simp [World.cell?]; done)
  have g1 : ((w.alloc (.cells #[.slice a 3 cap] 31)).alloc (.cells #[.slice a' 3 cap'] 31)).cell? ⟨w.heap.size + 1, 0, none⟩ = some (.slice a' 3 cap') := by first | (simp [go_sem]; done) | (simp [World.cell?]; done)
  have HG : ∀ v W B, w.heap.size ≤ B → OwnC9 W B v P Q (upto9 P Q 3) → ChgGot (.returned (.tuple #[v, .int .i64 0])) W w.heap.size P Q := fun v W B hB q => ⟨v, by rw [show chK9 P Q = 0 from if_pos ⟨hP, hQ⟩], by rw [show chL9 P Q = upto9 P Q 3 from if_pos ⟨hP, hQ⟩]; exact lower8 q hB⟩
  rw [hP] at kP
  rw [hQ] at kQ
  clear hP hQ
  go_enter Try.func25, Try.ntmps25
  go_wp2_with fail
  refine (kP _ bw).mono ?_
  rintro e w1 ⟨rfl, hb⟩
  replace bw := bel8 bw hb
  replace g0 := cells_kept hb _ _ g0
  replace g1 := cells_kept hb _ _ g1
  clear hb kP
  go_wp2_with fail
  refine (kQ _ bw).mono ?_
  rintro e U ⟨rfl, hb⟩
  replace bw := bel8 bw hb
  replace g0 := cells_kept hb _ _ g0
  replace g1 := cells_kept hb _ _ g1
  clear hb kQ
  replace h := h.below bw
  replace h' := h'.below bw
  go_wp2_with fail
  go_loopw [6, 19] (fun so si wr => ∃ (k : Nat) (v : Value), v = so ∧ k ≤ 3 ∧ si = .int .i64 k ∧ OwnC9 wr U.heap.size v P Q (upto9 P Q k) ∧ Below U.heap.size U wr) (fun _ si _ => 3 - (Go.RowKit.intOf si).toNat)
  case atStart => exact ⟨0, _, rfl, by omega, rfl, World.ownsRow_nil _ _ _ _, Below.refl _ _⟩
  case round =>
    obtain ⟨k, so, rfl, hk, rfl, q, bu⟩ := hrel
    by_cases hlt : k < 3
    · have hlt2 : (k : Int) < 3 := by omega
      have hL := upto9_len P Q k
      go_wp2_with fail
      go_loopw [6, 22] (fun so si wr => ∃ (p : Nat) (v : Value), v = so ∧ p ≤ 7 ∧ si = .int .i64 p ∧ OwnC9 wr U.heap.size v P Q (upto9 P Q k ++ row9 P Q k p) ∧ Below U.heap.size U wr) (fun _ si _ => 7 - (Go.RowKit.intOf si).toNat)
      case atStart => exact ⟨0, _, rfl, by omega, rfl, by rw [row9_zero, List.append_nil]; exact q, bu⟩
      case round =>
        clear q bu
        obtain ⟨p, so, rfl, hp, rfl, q, bu⟩ := hrel
        by_cases hpl : p < 7
        · have hpl2 : (p : Int) < 7 := by omega
          have c0 := cells_kept bu _ _ g0
          have c1 := cells_kept bu _ _ g1
          have kA := fun W (hb : Below U.heap.size U W) => siteOf_is (h.below hb) hlt hpl
          have kB := fun W (hb : Below U.heap.size U W) => siteOf_is (h'.below hb) hlt hpl
          have kC := sameSite_is (atM9 P k p) (atM9 Q k p)
          have bd : Below U.heap.size U wr.drew := bel8 bu (by go_grown)
          have hR := row9_len P Q k p
          have hn9 : (upto9 P Q k ++ row9 P Q k p).length ≤ 21 := by rw [List.length_append]; omega
          have HC : Hid (chC9 P Q (k, p) = [.int .i64 (k : Int), .int .i64 (p : Int), siteV9 (atM9 P k p), siteV9 (atM9 Q k p)]) := rfl
          by_cases hE : atM9 P k p = atM9 Q k p
          · rw [← row9_same hE] at q
            rw [decide_eq_true hE] at kC
            clear hE HC
            generalize hsP : siteV9 (atM9 P k p) = sP at *
            obtain ⟨tP, vP, rfl⟩ : ∃ t v, sP = .iface t v := by rw [← hsP]; exact site_if9 _
            clear hsP
            generalize hsQ : siteV9 (atM9 Q k p) = sQ at *
            obtain ⟨tQ, vQ, rfl⟩ : ∃ t v, sQ = .iface t v := by rw [← hsQ]; exact site_if9 _
            clear hsQ
            go_wp2_with fail
            refine wp_region_held_drew (S := (fun w' => w'.cell? ⟨w.heap.size, 0, none⟩ = some (.slice a 3 cap) ∧ w'.cell? ⟨w.heap.size + 1, 0, none⟩ = some (.slice a' 3 cap'))) (by kernel_rfl) ⟨c0, c1⟩ (fun hS0 => ?_)
            refine wpAnyH_take (i := 0) (oi := { dst := some 25, op := _, type := _, pos := _, after := _, guard := _ }) (v := .agg #[.slice a 3 cap]) rfl (by kernel_rfl) (by kernel_rfl) (by kernel_rfl) (fun _ _ _ h => h) (Or.inl ⟨by rfl, ?_⟩) (by assumption) ?_
            · (intro w' hSw; (try dsimp only at hSw); go_simp; try rfl)
            simp only [Act.put, List.setIfInBounds_toArray, List.set_cons_zero, List.set_cons_succ]
            refine wpAnyH_take (i := 1) (oi := { dst := some 26, op := _, type := _, pos := _, after := _, guard := _ }) (v := .int .i64 k) rfl (by kernel_rfl) (by kernel_rfl) (by kernel_rfl) (fun _ _ _ h => h) (Or.inl ⟨by rfl, ?_⟩) (by assumption) ?_
            · (intro w' hSw; (try dsimp only at hSw); go_simp; try rfl)
            simp only [Act.put, List.setIfInBounds_toArray, List.set_cons_zero, List.set_cons_succ]
            refine wpAnyH_take (i := 2) (oi := { dst := some 27, op := _, type := _, pos := _, after := _, guard := _ }) (v := .int .i64 p) rfl (by kernel_rfl) (by kernel_rfl) (by kernel_rfl) (fun _ _ _ h => h) (Or.inl ⟨by rfl, ?_⟩) (by assumption) ?_
            · (intro w' hSw; (try dsimp only at hSw); go_simp; try rfl)
            simp only [Act.put, List.setIfInBounds_toArray, List.set_cons_zero, List.set_cons_succ]
            refine wpAnyH_take (i := 4) (oi := { dst := some 29, op := _, type := _, pos := _, after := _, guard := _ }) (v := .agg #[.slice a' 3 cap']) rfl (by kernel_rfl) (by kernel_rfl) (by kernel_rfl) (fun _ _ _ h => h) (Or.inl ⟨by rfl, ?_⟩) (by assumption) ?_
            · (intro w' hSw; (try dsimp only at hSw); go_simp; try rfl)
            simp only [Act.put, List.setIfInBounds_toArray, List.set_cons_zero, List.set_cons_succ]
            refine wpAnyH_take (i := 5) (oi := { dst := some 30, op := _, type := _, pos := _, after := _, guard := _ }) (v := .int .i64 k) rfl (by kernel_rfl) (by kernel_rfl) (by kernel_rfl) (fun _ _ _ h => h) (Or.inl ⟨by rfl, ?_⟩) (by assumption) ?_
            · (intro w' hSw; (try dsimp only at hSw); go_simp; try rfl)
            simp only [Act.put, List.setIfInBounds_toArray, List.set_cons_zero, List.set_cons_succ]
            refine wpAnyH_take (i := 6) (oi := { dst := some 31, op := _, type := _, pos := _, after := _, guard := _ }) (v := .int .i64 p) rfl (by kernel_rfl) (by kernel_rfl) (by kernel_rfl) (fun _ _ _ h => h) (Or.inl ⟨by rfl, ?_⟩) (by assumption) ?_
            · (intro w' hSw; (try dsimp only at hSw); go_simp; try rfl)
            simp only [Act.put, List.setIfInBounds_toArray, List.set_cons_zero, List.set_cons_succ]
            refine wpAnyH_ready (rs := [3]) (by kernel_rfl) (by simp) ?_
            refine AllReadyH.cons (o := { dst := some 28, op := _, type := _, pos := _, after := _, guard := _ }) rfl (fun K hK => ?_) AllReadyH.nil
            go_simp
            refine (kA _ bd).mono ?_
            rintro e w4 ⟨rfl, hb⟩
            go_wp2_with fail
            refine hK.out _ _ ?_ (fun hS1 => ?_)
            · exact ⟨cells_kept hb _ _ hS0.1, cells_kept hb _ _ hS0.2⟩
            clear hK
            refine wpAnyH_ready (rs := [7]) (by kernel_rfl) (by simp) ?_
            refine AllReadyH.cons (o := { dst := some 32, op := _, type := _, pos := _, after := _, guard := _ }) rfl (fun K hK => ?_) AllReadyH.nil
            go_simp
            refine (kB _ (bel8 bd hb)).mono ?_
            rintro e w5 ⟨rfl, hb5⟩
            go_wp2_with fail
            refine hK.out _ _ ?_ (fun hS2 => ?_)
            · exact ⟨cells_kept hb5 _ _ hS1.1, cells_kept hb5 _ _ hS1.2⟩
            clear hK
            refine wpAnyH_take (i := 8) (oi := { dst := some 9, op := _, type := _, pos := _, after := _, guard := _ }) (v := .iface tP vP) rfl (by kernel_rfl) (by kernel_rfl) (by kernel_rfl) (fun _ _ _ h => h) (Or.inl ⟨by rfl, ?_⟩) (by assumption) ?_
            · (intro w' hSw; (try dsimp only at hSw); go_simp; try rfl)
            simp only [Act.put, List.setIfInBounds_toArray, List.set_cons_zero, List.set_cons_succ]
            refine wpAnyH_take (i := 9) (oi := { dst := some 10, op := _, type := _, pos := _, after := _, guard := _ }) (v := .iface tQ vQ) rfl (by kernel_rfl) (by kernel_rfl) (by kernel_rfl) (fun _ _ _ h => h) (Or.inl ⟨by rfl, ?_⟩) (by assumption) ?_
            · (intro w' hSw; (try dsimp only at hSw); go_simp; try rfl)
            simp only [Act.put, List.setIfInBounds_toArray, List.set_cons_zero, List.set_cons_succ]
            refine wpAnyH_done (by kernel_rfl) ?_ _
            have bx : Below wr.heap.size wr w5 := bel8 (by go_grown) (bel8 hb hb5)
            replace bu := bel8 bu bx
            replace q : OwnC9 w5 U.heap.size so P Q (upto9 P Q k ++ row9 P Q k (p + 1)) := owns8 q bx
            clear hS0 hS1 hS2 hb bd c0 c1 hb5 bx kA kB
            go_wp2_with fail
            refine (kC _).mono ?_
            rintro e w6 ⟨rfl, hb⟩
            replace bu := bel8 bu hb
            replace q : OwnC9 w6 U.heap.size so P Q (upto9 P Q k ++ row9 P Q k (p + 1)) := owns8 q hb
            clear hb kC
            go_wp2
            go_roundw
            case rel => exact ⟨p + 1, _, rfl, by omega, by go_num, q, bu⟩
            case measure => simp [Go.RowKit.intOf]; omega
          · have hq := row9_new hE
            rw [decide_eq_false hE] at kC
            have HQ : Hid (flatC9 P Q (upto9 P Q k ++ row9 P Q k (p + 1)) = flatC9 P Q (upto9 P Q k ++ row9 P Q k p) ++ [.int .i64 (k : Int), .int .i64 (p : Int), siteV9 (atM9 P k p), siteV9 (atM9 Q k p)]) := by rw [Hid, hq, ← List.append_assoc, flatC9_snoc, HC.out]
            have HN : Hid ((upto9 P Q k ++ row9 P Q k (p + 1)).length = (upto9 P Q k ++ row9 P Q k p).length + 1) := by rw [Hid, hq, ← List.append_assoc, List.length_append]; rfl
            clear hE hq HC
            generalize hsP : siteV9 (atM9 P k p) = sP at *
            obtain ⟨tP, vP, rfl⟩ : ∃ t v, sP = .iface t v := by rw [← hsP]; exact site_if9 _
            clear hsP
            generalize hsQ : siteV9 (atM9 Q k p) = sQ at *
            obtain ⟨tQ, vQ, rfl⟩ : ∃ t v, sQ = .iface t v := by rw [← hsQ]; exact site_if9 _
            clear hsQ
            go_wp2_with fail
            refine wp_region_held_drew (S := (fun w' => w'.cell? ⟨w.heap.size, 0, none⟩ = some (.slice a 3 cap) ∧ w'.cell? ⟨w.heap.size + 1, 0, none⟩ = some (.slice a' 3 cap'))) (by kernel_rfl) ⟨c0, c1⟩ (fun hS0 => ?_)
            refine wpAnyH_take (i := 0) (oi := { dst := some 25, op := _, type := _, pos := _, after := _, guard := _ }) (v := .agg #[.slice a 3 cap]) rfl (by kernel_rfl) (by kernel_rfl) (by kernel_rfl) (fun _ _ _ h => h) (Or.inl ⟨by rfl, ?_⟩) (by assumption) ?_
            · (intro w' hSw; (try dsimp only at hSw); go_simp; try rfl)
            simp only [Act.put, List.setIfInBounds_toArray, List.set_cons_zero, List.set_cons_succ]
            refine wpAnyH_take (i := 1) (oi := { dst := some 26, op := _, type := _, pos := _, after := _, guard := _ }) (v := .int .i64 k) rfl (by kernel_rfl) (by kernel_rfl) (by kernel_rfl) (fun _ _ _ h => h) (Or.inl ⟨by rfl, ?_⟩) (by assumption) ?_
            · (intro w' hSw; (try dsimp only at hSw); go_simp; try rfl)
            simp only [Act.put, List.setIfInBounds_toArray, List.set_cons_zero, List.set_cons_succ]
            refine wpAnyH_take (i := 2) (oi := { dst := some 27, op := _, type := _, pos := _, after := _, guard := _ }) (v := .int .i64 p) rfl (by kernel_rfl) (by kernel_rfl) (by kernel_rfl) (fun _ _ _ h => h) (Or.inl ⟨by rfl, ?_⟩) (by assumption) ?_
            · (intro w' hSw; (try dsimp only at hSw); go_simp; try rfl)
            simp only [Act.put, List.setIfInBounds_toArray, List.set_cons_zero, List.set_cons_succ]
            refine wpAnyH_take (i := 4) (oi := { dst := some 29, op := _, type := _, pos := _, after := _, guard := _ }) (v := .agg #[.slice a' 3 cap']) rfl (by kernel_rfl) (by kernel_rfl) (by kernel_rfl) (fun _ _ _ h => h) (Or.inl ⟨by rfl, ?_⟩) (by assumption) ?_
            · (intro w' hSw; (try dsimp only at hSw); go_simp; try rfl)
            simp only [Act.put, List.setIfInBounds_toArray, List.set_cons_zero, List.set_cons_succ]
            refine wpAnyH_take (i := 5) (oi := { dst := some 30, op := _, type := _, pos := _, after := _, guard := _ }) (v := .int .i64 k) rfl (by kernel_rfl) (by kernel_rfl) (by kernel_rfl) (fun _ _ _ h => h) (Or.inl ⟨by rfl, ?_⟩) (by assumption) ?_
            · (intro w' hSw; (try dsimp only at hSw); go_simp; try rfl)
            simp only [Act.put, List.setIfInBounds_toArray, List.set_cons_zero, List.set_cons_succ]
            refine wpAnyH_take (i := 6) (oi := { dst := some 31, op := _, type := _, pos := _, after := _, guard := _ }) (v := .int .i64 p) rfl (by kernel_rfl) (by kernel_rfl) (by kernel_rfl) (fun _ _ _ h => h) (Or.inl ⟨by rfl, ?_⟩) (by assumption) ?_
            · (intro w' hSw; (try dsimp only at hSw); go_simp; try rfl)
            simp only [Act.put, List.setIfInBounds_toArray, List.set_cons_zero, List.set_cons_succ]
            refine wpAnyH_ready (rs := [3]) (by kernel_rfl) (by simp) ?_
            refine AllReadyH.cons (o := { dst := some 28, op := _, type := _, pos := _, after := _, guard := _ }) rfl (fun K hK => ?_) AllReadyH.nil
            go_simp
            refine (kA _ bd).mono ?_
            rintro e w4 ⟨rfl, hb⟩
            go_wp2_with fail
            refine hK.out _ _ ?_ (fun hS1 => ?_)
            · exact ⟨cells_kept hb _ _ hS0.1, cells_kept hb _ _ hS0.2⟩
            clear hK
            refine wpAnyH_ready (rs := [7]) (by kernel_rfl) (by simp) ?_
            refine AllReadyH.cons (o := { dst := some 32, op := _, type := _, pos := _, after := _, guard := _ }) rfl (fun K hK => ?_) AllReadyH.nil
            go_simp
            refine (kB _ (bel8 bd hb)).mono ?_
            rintro e w5 ⟨rfl, hb5⟩
            go_wp2_with fail
            refine hK.out _ _ ?_ (fun hS2 => ?_)
            · exact ⟨cells_kept hb5 _ _ hS1.1, cells_kept hb5 _ _ hS1.2⟩
            clear hK
            refine wpAnyH_take (i := 8) (oi := { dst := some 9, op := _, type := _, pos := _, after := _, guard := _ }) (v := .iface tP vP) rfl (by kernel_rfl) (by kernel_rfl) (by kernel_rfl) (fun _ _ _ h => h) (Or.inl ⟨by rfl, ?_⟩) (by assumption) ?_
            · (intro w' hSw; (try dsimp only at hSw); go_simp; try rfl)
            simp only [Act.put, List.setIfInBounds_toArray, List.set_cons_zero, List.set_cons_succ]
            refine wpAnyH_take (i := 9) (oi := { dst := some 10, op := _, type := _, pos := _, after := _, guard := _ }) (v := .iface tQ vQ) rfl (by kernel_rfl) (by kernel_rfl) (by kernel_rfl) (fun _ _ _ h => h) (Or.inl ⟨by rfl, ?_⟩) (by assumption) ?_
            · (intro w' hSw; (try dsimp only at hSw); go_simp; try rfl)
            simp only [Act.put, List.setIfInBounds_toArray, List.set_cons_zero, List.set_cons_succ]
            refine wpAnyH_done (by kernel_rfl) ?_ _
            have bx : Below wr.heap.size wr w5 := bel8 (by go_grown) (bel8 hb hb5)
            replace bu := bel8 bu bx
            replace q : OwnC9 w5 U.heap.size so P Q (upto9 P Q k ++ row9 P Q k p) := owns8 q bx
            clear hS0 hS1 hS2 hb bd c0 c1 hb5 bx kA kB
            go_wp2_with fail
            refine (kC _).mono ?_
            rintro e w6 ⟨rfl, hb⟩
            replace bu := bel8 bu hb
            replace q : OwnC9 w6 U.heap.size so P Q (upto9 P Q k ++ row9 P Q k p) := owns8 q hb
            clear hb kC
            unfold OwnC9 at q
            generalize (upto9 P Q k ++ row9 P Q k p) = L at *
            have hsz := bu.size
            have pV : Blk (w6.alloc (.cells #[.int .i64 (k : Int), .int .i64 (p : Int), .iface tP vP, .iface tQ vQ] 58)) w6.heap.size 58 [.int .i64 (k : Int), .int .i64 (p : Int), .iface tP vP, .iface tQ vQ] := blkAt _ _ _ rfl
            have hone : ∀ u ∈ [Value.int .i64 (k : Int), Value.int .i64 (p : Int), Value.iface tP vP, Value.iface tQ vQ], u.oneCell' = true := by
              intro u hu
              simp only [List.mem_cons, List.mem_nil_iff, or_false] at hu
              rcases hu with rfl | rfl | rfl | rfl
              · rfl
              · rfl
              · rfl
              · rfl
            go_wp2_with (at_builtin; refine wpList_append_own _ rfl _ _ 52 rfl U.heap.size 58 i0 (.agg #[.int .i64 0, .int .i64 0, .nilIface, .nilIface]) 4 48 Try.underlying52 hi hz0 hz1 hz2 rfl (by decide) _ _ _ rfl (q.alloc _) ⟨w6.heap.size, 0, none⟩ 1 1 [.int .i64 (k : Int), .int .i64 (p : Int), .iface tP vP, .iface tQ vQ] rfl rfl (four_at9 pV) hone ?c3 ?c4 ?c5 ?_)
            case c3 => unfold maxLen; omega
            case c4 => omega
            case c5 => simp; omega
            intro v' wn hown' hgrow _
            have bn : Below U.heap.size U wn := (bu.alloc hsz _).grown hgrow (by simp; omega) (fun k hk => (q.lt k hk).1)
            have qn : OwnC9 wn U.heap.size v' P Q (upto9 P Q k ++ row9 P Q k (p + 1)) := by
              unfold OwnC9
              rw [HQ.out, HN.out]
              exact hown'
            clear hgrow q bu hown' HQ HN pV hone
            go_wp2
            go_roundw
            case rel => exact ⟨p + 1, _, rfl, by omega, by go_num, qn, bn⟩
            case measure => simp [Go.RowKit.intOf]; omega
        · obtain rfl : p = 7 := by omega
          rw [← upto9_succ] at q
          go_wp2
          go_roundw
          case rel => exact ⟨k + 1, _, rfl, by omega, by go_num, q, bu⟩
          case measure => simp [Go.RowKit.intOf]; omega
    · obtain rfl : k = 3 := by omega
      have hB := bw.size
      go_wp2
      go_ret2
      exact ⟨HG _ _ _ hB q, bel8 bw bu⟩

theorem changesOf_is (a : Option Addr) (len cap : Nat) (P : List (List I3)) (a' : Option Addr) (len' cap' : Nat) (Q : List (List I3)) (w : World) (h : Codes w a len cap P) (h' : Codes w a' len' cap' Q) :
    Calls Try.prog 25 #[.agg #[.slice a len cap], .agg #[.slice a' len' cap']] w fun e w' => ChgGot e w' w.heap.size P Q ∧ Below w.heap.size w w' := by
  by_cases hb : progOk P = true ∧ progOk Q = true
  · obtain ⟨hP, hQ⟩ := hb
    have h3 := prog_len9 hP
    rw [h.1] at h3
    have h4 := prog_len9 hQ
    rw [h'.1] at h4
    subst h3 h4
    exact changesOf_ok a cap P a' cap' Q w h h' hP hQ
  · exact changesOf_bad a len cap P a' len' cap' Q w h h' hb
end Go.Proofs.Ytleiogcohkfgkaa
