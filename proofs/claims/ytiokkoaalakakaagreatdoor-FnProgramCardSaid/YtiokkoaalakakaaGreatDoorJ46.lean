/-
  FnProgram, part 46 of 50 (RpI).
-/
import Derived.Test.YtiokkoaalakakaaGreatDoorJ20
import Derived.Test.YtiokkoaalakakaaGreatDoorJ35
import Derived.Test.YtiokkoaalakakaaGreatDoorJ36
import Derived.Test.YtiokkoaalakakaaGreatDoorJ10
import Derived.Deep.RegionHeld3

/-
  impl.ReadProgram: the program that lines are, in memory of its own, or a code.
-/
namespace Go.Proofs.YtiokkoaalakakaaGreatDoor
open Go.RowKit

set_option maxHeartbeats 1000000 in
set_option maxRecDepth 100000 in
theorem emptyProgram_nils (w : World) : Calls Tryz.prog 23 #[] w fun e w' => e = .returned (.agg #[.slice (some ⟨w.heap.size + 1, 0, none⟩) 3 3]) ∧
    w'.ownsRow w.heap.size 55 1 (.slice (some ⟨w.heap.size + 1, 0, none⟩) 3 3) 3 [.slice none 0 0, .slice none 0 0, .slice none 0 0] ∧ Below w.heap.size w w' := by
  obtain ⟨i0, hi, hz0, hz1, hz2⟩ := info_parts info_instrs
  go_enter Tryz.func23, Tryz.ntmps23
  go_wp2_with (at_make; refine wpList_make_full _ rfl _ _ 23 rfl w.heap.size 55 i0 (.slice none 0 0) 1 Tryz.underlying23 hi hz0 hz1 _ _ _ _ 3 rfl rfl (by omega) (by omega) ?b2 ?b3 ?b4 ?_)
  case b2 => rw [hz2]; omega
  case b3 => unfold maxLen; omega
  case b4 => simp
  intro w0 hown0 hgrow0
  have hk : w0.cell? ⟨w.heap.size, 0, none⟩ = some (.slice none 0 0) := hgrow0.cell (by simp [go_sem]) (by simp)
  have hf : w0.frozen? ⟨w.heap.size, 0, none⟩ = false := by
    rw [World.frozen?_of_block (hgrow0.block w.heap.size (by simp) (by simp))]
    first | (simp [go_sem]; done) | (simp [World.frozen?]; done)
  have hb0 : Below w.heap.size w w0 := ((Below.refl w.heap.size w).alloc (Nat.le_refl _) _).grown hgrow0 (by simp) (fun k h => by cases h)
  try simp only [World.size_alloc] at hown0
  have e3 : (madeCells #[Value.slice none 0 0] 3).toList = [.slice none 0 0, .slice none 0 0, .slice none 0 0] := by first | kernel_rfl | simp [madeCells]
  rw [e3] at hown0
  clear hgrow0 e3
  have R : (w0.setCell ⟨w.heap.size, 0, none⟩ (.slice (some ⟨w.heap.size + 1, 0, none⟩) 3 3)).ownsRow w.heap.size 55 1 (.slice (some ⟨w.heap.size + 1, 0, none⟩) 3 3) 3 [.slice none 0 0, .slice none 0 0, .slice none 0 0] := ownsRow_setCell_other hown0 (by simp [Value.ownBlock]) _
  have hb1 : Below w.heap.size w (w0.setCell ⟨w.heap.size, 0, none⟩ (.slice (some ⟨w.heap.size + 1, 0, none⟩) 3 3)) := hb0.setCell (Nat.le_refl _) _
  have k3 : (w0.setCell ⟨w.heap.size, 0, none⟩ (.slice (some ⟨w.heap.size + 1, 0, none⟩) 3 3)).cell? ⟨w.heap.size, 0, none⟩ = some (.slice (some ⟨w.heap.size + 1, 0, none⟩) 3 3) := World.cell?_setCell_same' _ _ _ (by rw [hk]; rfl)
  try simp only [World.size_alloc]
  go_wp2
  clear hown0 hb0 hk hf
  generalize w0.setCell ⟨w.heap.size, 0, none⟩ (.slice (some ⟨w.heap.size + 1, 0, none⟩) 3 3) = w2 at R hb1 k3
  refine bodyPost_ret (by simp [results, Tryz.results23, go_sem, k3]; try rfl) rfl ?_
  exact ⟨rfl, R, hb1⟩

set_option maxHeartbeats 8000000 in
set_option maxRecDepth 100000 in
theorem implRP_any (a : Option Addr) (n cap : Nat) (ts : List ByteArray) (w : World) (h : Strs w a n cap ts) (hn : n ≤ 4096) (hsz : ∀ t ∈ ts, t.size ≤ 1048576) (hT : OpTable w) :
    Calls Tryz.prog 7 #[.slice a n cap] w fun e w' => RPOut ts w.heap.size e w' ∧ Below w.heap.size w w' := by
  obtain ⟨i0, hi, hz0, hz1, hz2⟩ := info_parts info_instr
  obtain ⟨hl, hlc, hcm, hcase⟩ := h
  unfold maxLen at hcm
  go_enter Tryz.func7, Tryz.ntmps7
  go_wp2_with fail
  refine (emptyProgram_nils _).mono ?_
  rintro e w1 ⟨rfl, hV1, hb1⟩
  try simp only [World.size_alloc] at hV1 hb1
  have hRr := owns_below (box_n w (.slice none 0 0) 25 w.heap.size (Nat.le_refl _)) (hb1.mono (by simp))
  have hbw : Below w.heap.size w w1 := (by go_grown : Below w.heap.size w (w.alloc (.cells #[.slice none 0 0] 25))).trans (hb1.mono (by omega))
  replace hV1 := owns_lower (B' := w.heap.size) hV1 (by omega)
  try simp only [World.size_alloc]
  generalize hP : w.heap.size + 1 + 1 = P at hV1
  clear hb1 hP
  go_wp2_with fail
  have hX := box_n w1 (.slice (some ⟨P, 0, none⟩) 3 3) 25 w.heap.size hbw.size
  have hV := hV1.alloc (.cells #[.slice (some ⟨P, 0, none⟩) 3 3] 25)
  replace hRr := hRr.alloc (.cells #[.slice (some ⟨P, 0, none⟩) 3 3] 25)
  replace hbw := hbw.alloc hbw.size (.cells #[.slice (some ⟨P, 0, none⟩) 3 3] 25)
  have hR : RowsOwn (w1.alloc (.cells #[.slice (some ⟨P, 0, none⟩) 3 3] 25)) w.heap.size 3 [.slice none 0 0, .slice none 0 0, .slice none 0 0] [[], [], []] := RowsOwn.nils _ _
  clear hV1
  generalize w1.alloc (.cells #[.slice (some ⟨P, 0, none⟩) 3 3] 25) = w2 at hX hV hRr hbw hR
  generalize w1.heap.size = X at hX
  obtain ⟨vs0, hvs0⟩ : ∃ vs0 : List Value, vs0 = [.slice none 0 0, .slice none 0 0, .slice none 0 0] := ⟨_, rfl⟩
  rw [← hvs0] at hV hR
  clear hvs0
  go_loopw [19] (fun si wr => ∃ (i : Nat) (os : List (Option (Nat × I3))) (rows : List (List I3)) (vs : List Value), i ≤ n ∧ si = .int .i64 i ∧ Hid (AllSteps (ts.take i) os) ∧ Hid (rows = rowsOf os) ∧ rows.length = 3 ∧ Hid (allFit rows) ∧ Hid (∀ j, (rows.getD j []).length ≤ i) ∧
      RowsOwn wr w.heap.size 3 vs rows ∧ wr.ownsRow w.heap.size 55 1 (.slice (some ⟨P, 0, none⟩) 3 3) 3 vs ∧ wr.ownsRow w.heap.size 25 1 (.slice (some ⟨X, 0, none⟩) 1 1) 1 [.slice (some ⟨P, 0, none⟩) 3 3] ∧ wr.ownsRow w.heap.size 25 1 (.slice (some ⟨w.heap.size, 0, none⟩) 1 1) 1 [.slice none 0 0] ∧ Below w.heap.size w wr) (fun si _ => n - (intOf si).toNat)
  case atStart => exact ⟨0, [], [[], [], []], vs0, by omega, rfl, trivial, rfl, rfl, allFit_three, (fun j => by match j with | 0 => simp | 1 => simp | 2 => simp | (j + 3) => simp), hR, hV, hX, hRr, hbw⟩
  case round =>
    clear hR hV hX hRr hbw
    obtain ⟨i, os, rows, vs, hin, rfl, hAS, hRO, h3, hfit, hle, hR, hV, hX, hRr, hbw⟩ := hrel
    by_cases hlt : i < n
    · have hlt2 : (i : Int) < (n : Int) := by omega
      have hi0' : (0 : Int) ≤ (i : Int) := by omega
      rcases hcase with h0 | ⟨b, off, rfl, hblt, hcell⟩
      · omega
      have hc := hcell i hlt
      rw [← hbw.cell (p := ⟨b, _, none⟩) hblt] at hc
      have hmem : ts.getD i ByteArray.empty ∈ ts := by simp [List.getD, show i < ts.length by omega]
      have hts := hsz _ hmem
      have hstep : ts.take (i + 1) = ts.take i ++ [ts.getD i ByteArray.empty] := by
        rw [List.take_succ_eq_append_getElem (show i < ts.length by omega)]
        simp [List.getD, show i < ts.length by omega]
      generalize ts.getD i ByteArray.empty = t at hc hmem hts hstep
      go_wp2_with fail
      refine (wordsOf_is t _ (by omega)).mono ?_
      rintro e w1 ⟨v, rfl, ho, hb1⟩
      replace hR := hR.below hb1
      replace hV := owns_below hV hb1
      replace hX := owns_below hX hb1
      replace hRr := owns_below hRr hb1
      replace hbw := bel_trans hbw hb1
      clear hb1 hc hcell
      obtain ⟨aW, capW, rfl, hO⟩ := OwnT.of_owns ho
      have hSt := hO.strs
      have hcnt := wordsT_count t
      have hwsz : ∀ x ∈ wordsT t, x.size ≤ maxLen := fun x hx => by have := wordsT_sz x hx; unfold maxLen; omega
      clear ho hO
      cases hwd : wordsT t with
      | nil =>
        rw [hwd] at hSt
        have HST : Hid (AllSteps (ts.take (i + 1)) (os ++ [none])) := by rw [Hid, hstep]; exact allSteps_snoc hAS.out hwd
        have HRO : Hid (rows = rowsOf (os ++ [none])) := by rw [Hid, rowsOf_snoc, ← hRO.out]; rfl
        have hle2 : Hid (∀ j, (rows.getD j []).length ≤ i + 1) := fun j => by have := hle.out j; omega
        clear hSt hwsz hAS hRO hle hstep hmem hcnt hwd
        simp only [List.length_nil]
        go_wp2
        go_roundw
        case rel => exact ⟨i + 1, _, rows, vs, by omega, by go_num, HST, HRO, h3, hfit, hle2, hR, hV, hX, hRr, hbw⟩
        case measure => simp [intOf]; omega
      | cons t0 rest =>
        rw [hwd] at hSt hwsz hcnt
        obtain ⟨m, hm⟩ : ∃ m, m = (t0 :: rest).length := ⟨_, rfl⟩
        rw [← hm] at hSt hcnt
        rw [← hm]
        have hm1 : 1 ≤ m := by rw [hm]; simp
        have hne : ((m : Int) == 0) = false := beq_eq_false_iff_ne.2 (by omega)
        have hmp : (0 : Int) < (m : Int) := by omega
        obtain ⟨bW, offW, hbW, hlW, hcW⟩ : ∃ b off, aW = some ⟨b, off, none⟩ ∧ b < w1.heap.size ∧ w1.cell? ⟨b, off, none⟩ = some (.string t0) := by
          rcases hSt.2.2.2 with h' | ⟨b', off', he, hlt', hc'⟩
          · omega
          · exact ⟨b', off', he, hlt', hc' 0 (by omega)⟩
        subst hbW
        obtain ⟨aR, hslR, hSr⟩ := slice_strs (lo := 1) hSt (by omega)
        rw [show ((1 : Nat) : Int) = 1 from rfl] at hslR
        rw [List.drop_one, List.tail_cons] at hSr
        have hz0' : t0.size ≤ maxLen := hwsz t0 (by simp)
        have hszr : ∀ x ∈ rest, x.size ≤ maxLen := fun x hx => hwsz x (by simp [hx])
        clear hSt hwsz hm
        go_wp2_with fail
        refine (readDigits_any t0 _ hz0').mono ?_
        rintro e w3 ⟨hkn, hb3⟩
        replace hR := hR.below hb3
        replace hV := owns_below hV hb3
        replace hX := owns_below hX hb3
        replace hRr := owns_below hRr hb3
        replace hbw := bel_trans hbw hb3
        replace hSr := hSr.below hb3
        clear hb3 hcW hlW
        have KI := instrOfWords_any aR (m - 1) (capW - 1) rest w3 hSr (by omega) hszr (hT.below hbw)
        clear hSr hszr
        rcases hkn with ⟨k, hD, rfl⟩ | ⟨hND, z, rfl⟩
        · have hk18 := hD.lt
          go_wp2_with fail
          refine KI.mono ?_
          rintro e w4 ⟨hkr, hb4⟩
          replace hR := hR.below hb4
          replace hV := owns_below hV hb4
          replace hX := owns_below hX hb4
          replace hRr := owns_below hRr hb4
          replace hbw := bel_trans hbw hb4
          clear hb4 KI hslR
          rcases hkr with ⟨x, hIs, rfl⟩ | ⟨hNR, y, rfl⟩
          · obtain ⟨y0, y1, y2⟩ := x
            unfold I3.val
            by_cases hk3 : k < 3
            · have hk3' : ¬ (3 : Int) ≤ (k : Int) := by omega
              have hx := hIs.ok
              have HST : Hid (AllSteps (ts.take (i + 1)) (os ++ [some (k, (y0, y1, y2))])) := by
                rw [Hid, hstep]
                exact allSteps_snoc hAS.out ⟨t0, rest, hwd, hD, hk3, hIs⟩
              have HRO : Hid (rows.set k (rows.getD k [] ++ [(y0, y1, y2)]) = rowsOf (os ++ [some (k, (y0, y1, y2))])) := by rw [Hid, rowsOf_snoc, ← hRO.out]; rfl
              have hfit2 : Hid (allFit (rows.set k (rows.getD k [] ++ [(y0, y1, y2)]))) := allFit_set hfit.out (okI_fits hx)
              have h32 : (rows.set k (rows.getD k [] ++ [(y0, y1, y2)])).length = 3 := by simpa using h3
              have hle2 : Hid (∀ j, ((rows.set k (rows.getD k [] ++ [(y0, y1, y2)])).getD j []).length ≤ i + 1) := fun j => by
                by_cases hj : j = k
                · subst hj
                  rw [getD_set_same _ (by omega)]
                  have := hle.out j
                  rw [List.length_append, List.length_singleton]
                  omega
                · rw [getD_set_other _ hj]
                  have := hle.out j
                  omega
              have hlk := hle.out k
              have hvl : vs.length = 3 := by have := hV.1; omega
              have hub : ∀ j, (vs.getD k undef).ownBlock = some j → j < w4.heap.size := fun j hj => ((hR.1 k hk3).lt j hj).2
              have hPl := (hV.lt P rfl).2
              have hXl := (hX.lt X rfl).2
              have hXP : X ≠ P := fun e => by
                subst e
                rcases owns_ne hV hX (by decide) with h' | h'
                · simp [Value.ownBlock] at h'
                · exact h' rfl
              have hbx : Below w4.heap.size w4 (w4.alloc (.cells #[.int .i64 y0, .int .i64 y1, .int .i64 y2] 36)) := by go_grown
              have c0 : (w4.alloc (.cells #[.int .i64 y0, .int .i64 y1, .int .i64 y2] 36)).cell? ⟨w4.heap.size, 0, none⟩ = some (.int .i64 y0) := by simp [go_sem]
              have c1 : (w4.alloc (.cells #[.int .i64 y0, .int .i64 y1, .int .i64 y2] 36)).cell? ⟨w4.heap.size, 1, none⟩ = some (.int .i64 y1) := by simp [go_sem]
              have c2 : (w4.alloc (.cells #[.int .i64 y0, .int .i64 y1, .int .i64 y2] 36)).cell? ⟨w4.heap.size, 2, none⟩ = some (.int .i64 y2) := by simp [go_sem]
              clear hAS hRO hfit hle hIs hD hwd hstep hx hmem
              go_wp2_with fail
              replace hR := hR.below hbx
              replace hV := owns_below hV hbx
              replace hX := owns_below hX hbx
              replace hRr := owns_below hRr hbx
              replace hbw := bel_trans hbw hbx
              clear hbx
              generalize w4.alloc (.cells #[.int .i64 y0, .int .i64 y1, .int .i64 y2] 36) = w5 at hR hV hX hRr hbw c0 c1 c2
              generalize w4.heap.size = Y at c0 c1 c2 hub hPl hXl
              have hbs5 := hbw.size
              have hrow5 := hR.1 k hk3
              have hPk : w5.cell? ⟨P, k, none⟩ = some (vs.getD k undef) := by
                rw [hV.cellAt k (by omega)]
                simp [List.getD, show k < vs.length by omega]
              have cX : w5.cell? ⟨X, 0, none⟩ = some (.slice (some ⟨P, 0, none⟩) 3 3) := by simpa using hX.cellAt 0 (by omega)
              have hPk6 : (w5.alloc (.cells #[.int .i64 y0, .int .i64 y1, .int .i64 y2] 36)).drew.cell? ⟨P, k, none⟩ = some (vs.getD k undef) := cells_kept (by go_grown) _ _ hPk
              obtain ⟨v6, w6, hrun, hown6, hgrow6, _, hat6⟩ := run_append_own_at (P := Tryz.prog) (w5.alloc (.cells #[.int .i64 y0, .int .i64 y1, .int .i64 y2] 36)).drew w.heap.size 55 55 36 i0 (.agg #[.int .i64 0, .int .i64 0, .int .i64 0]) 3 24 Tryz.underlying55 hi hz0 hz1 hz2 rfl (by decide) (vs.getD k undef) (rows.getD k []).length (flat (rows.getD k [])) (hrow5.alloc (.cells #[.int .i64 y0, .int .i64 y1, .int .i64 y2] 36)).drew ⟨w5.heap.size, 0, none⟩ 1 1 [.int .i64 y0, .int .i64 y1, .int .i64 y2] rfl (three_dr w5 _ _ _ _) (three_i64 _ _ _) (by unfold maxLen; omega) (by omega) (by simp; omega)
              obtain ⟨g6, l6, cap6, hv6⟩ : ∃ g l c, v6 = .slice (some ⟨g, 0, none⟩) l c := by
                rcases hown6.2 with ⟨_, h0'⟩ | ⟨g, cp, cur, hv, _⟩
                · omega
                · exact ⟨g, _, cp, hv⟩
              subst hv6
              have R6 := RowsOwn.grow (x := (y0, y1, y2)) hR h3 hvl hk3 hgrow6 (by rw [flat_snoc]; exact hown6) hat6
              have V6 := (hV.alloc (.cells #[.int .i64 y0, .int .i64 y1, .int .i64 y2] 36)).drew.kept hgrow6 (owns_ne (hV.alloc (.cells #[.int .i64 y0, .int .i64 y1, .int .i64 y2] 36)).drew (hrow5.alloc (.cells #[.int .i64 y0, .int .i64 y1, .int .i64 y2] 36)).drew (by decide))
              have X6 := (hX.alloc (.cells #[.int .i64 y0, .int .i64 y1, .int .i64 y2] 36)).drew.kept hgrow6 (owns_ne (hX.alloc (.cells #[.int .i64 y0, .int .i64 y1, .int .i64 y2] 36)).drew (hrow5.alloc (.cells #[.int .i64 y0, .int .i64 y1, .int .i64 y2] 36)).drew (by decide))
              have Rr6 := (hRr.alloc (.cells #[.int .i64 y0, .int .i64 y1, .int .i64 y2] 36)).drew.kept hgrow6 (owns_ne (hRr.alloc (.cells #[.int .i64 y0, .int .i64 y1, .int .i64 y2] 36)).drew (hrow5.alloc (.cells #[.int .i64 y0, .int .i64 y1, .int .i64 y2] 36)).drew (by decide))
              have b6 : Below w.heap.size w w6 := (hbw.trans ((by go_grown : Below w5.heap.size w5 (w5.alloc (.cells #[.int .i64 y0, .int .i64 y1, .int .i64 y2] 36)).drew).mono hbs5)).grown hgrow6 (by simp; omega) (fun j hj => (hrow5.lt j hj).1)
              have S1 : (w5.alloc (.cells #[.int .i64 y0, .int .i64 y1, .int .i64 y2] 36)).drew.cell? ⟨X, 0, none⟩ = some (.slice (some ⟨P, 0, none⟩) 3 3) ∧ (w5.alloc (.cells #[.int .i64 y0, .int .i64 y1, .int .i64 y2] 36)).drew.cell? ⟨Y, 0, none⟩ = some (.int .i64 y0) ∧ (w5.alloc (.cells #[.int .i64 y0, .int .i64 y1, .int .i64 y2] 36)).drew.cell? ⟨Y, 1, none⟩ = some (.int .i64 y1) ∧ (w5.alloc (.cells #[.int .i64 y0, .int .i64 y1, .int .i64 y2] 36)).drew.cell? ⟨Y, 2, none⟩ = some (.int .i64 y2) := ⟨cells_kept (by go_grown) _ _ cX, cells_kept (by go_grown) _ _ c0, cells_kept (by go_grown) _ _ c1, cells_kept (by go_grown) _ _ c2⟩
              have hne6 : some Y ≠ (vs.getD k undef).ownBlock := fun e => by have := hub Y e.symm; omega
              have SA : w6.cell? ⟨X, 0, none⟩ = some (.slice (some ⟨P, 0, none⟩) 3 3) ∧ w6.cell? ⟨Y, 0, none⟩ = some (.int .i64 y0) ∧ w6.cell? ⟨Y, 1, none⟩ = some (.int .i64 y1) ∧ w6.cell? ⟨Y, 2, none⟩ = some (.int .i64 y2) := ⟨by simpa using X6.cellAt 0 (by omega), hgrow6.cell S1.2.1 hne6, hgrow6.cell S1.2.2.1 hne6, hgrow6.cell S1.2.2.2 hne6⟩
              have SB : (w6.setCell ⟨P, k, none⟩ (.slice (some ⟨g6, 0, none⟩) l6 cap6)).cell? ⟨X, 0, none⟩ = some (.slice (some ⟨P, 0, none⟩) 3 3) ∧ (w6.setCell ⟨P, k, none⟩ (.slice (some ⟨g6, 0, none⟩) l6 cap6)).cell? ⟨Y, 0, none⟩ = some (.int .i64 y0) ∧ (w6.setCell ⟨P, k, none⟩ (.slice (some ⟨g6, 0, none⟩) l6 cap6)).cell? ⟨Y, 1, none⟩ = some (.int .i64 y1) ∧ (w6.setCell ⟨P, k, none⟩ (.slice (some ⟨g6, 0, none⟩) l6 cap6)).cell? ⟨Y, 2, none⟩ = some (.int .i64 y2) := by
                refine ⟨?_, ?_, ?_, ?_⟩
                · rw [cell_setCell_off _ _ _ hXP]; exact SA.1
                · rw [cell_setCell_off _ _ _ (show Y ≠ P by omega)]; exact SA.2.1
                · rw [cell_setCell_off _ _ _ (show Y ≠ P by omega)]; exact SA.2.2.1
                · rw [cell_setCell_off _ _ _ (show Y ≠ P by omega)]; exact SA.2.2.2
              have f6 := V6.frozenAt k
              have p6 : ∃ z, w6.cell? ⟨P, k, none⟩ = some z := ⟨_, by rw [V6.cellAt k (by omega)]; exact List.getElem?_eq_getElem (by omega)⟩
              obtain ⟨z6, p6⟩ := p6
              have V7 := (V6.stored k (.slice (some ⟨g6, 0, none⟩) l6 cap6)).1
              have X7 : (w6.setCell ⟨P, k, none⟩ (.slice (some ⟨g6, 0, none⟩) l6 cap6)).ownsRow w.heap.size 25 1 (.slice (some ⟨X, 0, none⟩) 1 1) 1 [.slice (some ⟨P, 0, none⟩) 3 3] := ownsRow_setCell_other X6 (ne_block X6 V6 (by decide)) _
              have Rr7 : (w6.setCell ⟨P, k, none⟩ (.slice (some ⟨g6, 0, none⟩) l6 cap6)).ownsRow w.heap.size 25 1 (.slice (some ⟨w.heap.size, 0, none⟩) 1 1) 1 [.slice none 0 0] := ownsRow_setCell_other Rr6 (ne_block Rr6 V6 (by decide)) _
              have R7 : RowsOwn (w6.setCell ⟨P, k, none⟩ (.slice (some ⟨g6, 0, none⟩) l6 cap6)) w.heap.size 3 (vs.set k (.slice (some ⟨g6, 0, none⟩) l6 cap6)) (rows.set k (rows.getD k [] ++ [(y0, y1, y2)])) := ⟨fun t ht => ownsRow_setCell_other (R6.1 t ht) (ne_block (R6.1 t ht) V6 (by decide)) _, R6.2⟩
              have b7 : Below w.heap.size w (w6.setCell ⟨P, k, none⟩ (.slice (some ⟨g6, 0, none⟩) l6 cap6)) := b6.setCell (show w.heap.size ≤ P from (V6.lt P rfl).1) _
              clear R6 V6 X6 Rr6 b6 hne6 hown6 hgrow6 hat6 hrow5 hR hV hX hRr hbw hub
              generalize rows.set k (rows.getD k [] ++ [(y0, y1, y2)]) = rows2 at HRO hfit2 h32 hle2 R7
              generalize vs.getD k undef = u at hPk hPk6 hrun
              have hk3i : (k : Int) < 3 := by omega
              have hk0i : (0 : Int) ≤ (k : Int) := by omega
              refine wp_region_held_drew (S := (fun w' => w'.cell? ⟨X, 0, none⟩ = some (.slice (some ⟨P, 0, none⟩) 3 3) ∧ w'.cell? ⟨Y, 0, none⟩ = some (.int .i64 y0) ∧ w'.cell? ⟨Y, 1, none⟩ = some (.int .i64 y1) ∧ w'.cell? ⟨Y, 2, none⟩ = some (.int .i64 y2))) (by kernel_rfl) ⟨cX, c0, c1, c2⟩ (fun hS0 => ?_)
              refine wpAnyH_take (i := 0) (oi := { dst := some 52, op := _, type := _, pos := _, after := _, guard := _ }) (v := .pointer (some ⟨X, 0, none⟩)) rfl (by kernel_rfl) (by kernel_rfl) (by kernel_rfl) (fun _ _ _ h => h) (Or.inl ⟨by rfl, ?_⟩) (by assumption) ?_
              · (intro w' hSw; (try dsimp only at hSw); go_simp; try rfl)
              simp only [Act.put, List.setIfInBounds_toArray, List.set_cons_zero, List.set_cons_succ]
              refine wpAnyH_take (i := 1) (oi := { dst := some 53, op := _, type := _, pos := _, after := _, guard := _ }) (v := .slice (some ⟨P, 0, none⟩) 3 3) rfl (by kernel_rfl) (by kernel_rfl) (by kernel_rfl) (fun _ _ _ h => h) (Or.inl ⟨by rfl, ?_⟩) (by assumption) ?_
              · (intro w' hSw; (try dsimp only at hSw); go_simp; try rfl)
              simp only [Act.put, List.setIfInBounds_toArray, List.set_cons_zero, List.set_cons_succ]
              refine wpAnyH_take (i := 2) (oi := { dst := some 54, op := _, type := _, pos := _, after := _, guard := _ }) (v := .int .i64 (k : Int)) rfl (by kernel_rfl) (by kernel_rfl) (by kernel_rfl) (fun _ _ _ h => h) (Or.inl ⟨by rfl, ?_⟩) (by assumption) ?_
              · (intro w' hSw; (try dsimp only at hSw); go_simp; try rfl)
              simp only [Act.put, List.setIfInBounds_toArray, List.set_cons_zero, List.set_cons_succ]
              refine wpAnyH_take (i := 3) (oi := { dst := some 55, op := _, type := _, pos := _, after := _, guard := _ }) (v := .pointer (some ⟨X, 0, none⟩)) rfl (by kernel_rfl) (by kernel_rfl) (by kernel_rfl) (fun _ _ _ h => h) (Or.inl ⟨by rfl, ?_⟩) (by assumption) ?_
              · (intro w' hSw; (try dsimp only at hSw); go_simp; try rfl)
              simp only [Act.put, List.setIfInBounds_toArray, List.set_cons_zero, List.set_cons_succ]
              refine wpAnyH_take (i := 4) (oi := { dst := some 56, op := _, type := _, pos := _, after := _, guard := _ }) (v := .slice (some ⟨P, 0, none⟩) 3 3) rfl (by kernel_rfl) (by kernel_rfl) (by kernel_rfl) (fun _ _ _ h => h) (Or.inl ⟨by rfl, ?_⟩) (by assumption) ?_
              · (intro w' hSw; (try dsimp only at hSw); go_simp; try rfl)
              simp only [Act.put, List.setIfInBounds_toArray, List.set_cons_zero, List.set_cons_succ]
              refine wpAnyH_take (i := 5) (oi := { dst := some 57, op := _, type := _, pos := _, after := _, guard := _ }) (v := .int .i64 (k : Int)) rfl (by kernel_rfl) (by kernel_rfl) (by kernel_rfl) (fun _ _ _ h => h) (Or.inl ⟨by rfl, ?_⟩) (by assumption) ?_
              · (intro w' hSw; (try dsimp only at hSw); go_simp; try rfl)
              simp only [Act.put, List.setIfInBounds_toArray, List.set_cons_zero, List.set_cons_succ]
              refine wpAnyH_take (i := 6) (oi := { dst := some 58, op := _, type := _, pos := _, after := _, guard := _ }) (v := .pointer (some ⟨P, k, none⟩)) rfl (by kernel_rfl) (by kernel_rfl) (by kernel_rfl) (fun _ _ _ h => h) (Or.inl ⟨by rfl, ?_⟩) (by assumption) ?_
              · (intro w' hSw; (try dsimp only at hSw); go_simp; try rfl)
              simp only [Act.put, List.setIfInBounds_toArray, List.set_cons_zero, List.set_cons_succ]
              refine wpAnyH_take (i := 8) (oi := { dst := some 60, op := _, type := _, pos := _, after := _, guard := _ }) (v := .agg #[.int .i64 y0, .int .i64 y1, .int .i64 y2]) rfl (by kernel_rfl) (by kernel_rfl) (by kernel_rfl) (fun _ _ _ h => h) (Or.inl ⟨by rfl, ?_⟩) (by assumption) ?_
              · (intro w' hSw; (try dsimp only at hSw); go_simp; try rfl)
              simp only [Act.put, List.setIfInBounds_toArray, List.set_cons_zero, List.set_cons_succ]
              refine wpAnyH_ready (rs := [7, 9]) (by kernel_rfl) (by simp) ?_
              refine AllReadyH.cons (o := { dst := some 59, op := _, type := _, pos := _, after := _, guard := _ }) rfl (fun K hK => ?_) (AllReadyH.cons (o := { dst := some 61, op := _, type := _, pos := _, after := _, guard := _ }) rfl (fun K hK => ?_) AllReadyH.nil)
              · go_simp
                refine hK.out _ _ hS0 (fun hS1 => ?_)
                clear hK
                refine wpAnyH_ready (rs := [9]) (by kernel_rfl) (by simp) ?_
                refine AllReadyH.cons (o := { dst := some 61, op := _, type := _, pos := _, after := _, guard := _ }) rfl (fun K hK => ?_) AllReadyH.nil
                go_simp
                refine hK.out _ _ S1 (fun hS2 => ?_)
                clear hK hS1 hS2 S1
                refine wpAnyH_ready (rs := [10]) (by kernel_rfl) (by simp) ?_
                refine AllReadyH.cons (o := { dst := some 62, op := _, type := _, pos := _, after := _, guard := _ }) rfl (fun K hK => ?_) AllReadyH.nil
                refine step_append_run rfl _ _ 55 rfl _ _ rfl rfl hrun ?_
                refine hK.out _ _ SA (fun hS3 => ?_)
                clear hK
                simp only [Act.put, List.setIfInBounds_toArray, List.set_cons_zero, List.set_cons_succ]
                refine wpAnyH_take (i := 11) (oi := { dst := some 63, op := _, type := _, pos := _, after := _, guard := _ }) (v := .pointer (some ⟨P, k, none⟩)) rfl (by kernel_rfl) (by kernel_rfl) (by kernel_rfl) (fun _ _ _ h => h) (Or.inl ⟨by rfl, ?_⟩) (by assumption) ?_
                · (intro w' hSw; (try dsimp only at hSw); go_simp; try rfl)
                simp only [Act.put, List.setIfInBounds_toArray, List.set_cons_zero, List.set_cons_succ]
                refine wpAnyH_ready (rs := [12]) (by kernel_rfl) (by simp) ?_
                refine AllReadyH.cons (o := { dst := none, op := _, type := _, pos := _, after := _, guard := _ }) rfl (fun K hK => ?_) AllReadyH.nil
                go_simp
                refine hK.out _ _ SB (fun hS4 => ?_)
                clear hK
                refine wpAnyH_done (by kernel_rfl) ?_ _
                clear hS0 hS3 hS4 SA SB hrun f6 p6 cX c0 c1 c2 hPk hPk6
                generalize w6.setCell ⟨P, k, none⟩ (.slice (some ⟨g6, 0, none⟩) l6 cap6) = w7 at R7 V7 X7 Rr7 b7
                go_wp2
                go_roundw
                case rel => exact ⟨i + 1, _, rows2, _, by omega, by go_num, HST, HRO, h32, hfit2, hle2, R7, V7, X7, Rr7, b7⟩
                case measure => simp [intOf]; omega
              · go_simp
                refine hK.out _ _ S1 (fun hS2 => ?_)
                clear hK
                refine wpAnyH_ready (rs := [7]) (by kernel_rfl) (by simp) ?_
                refine AllReadyH.cons (o := { dst := some 59, op := _, type := _, pos := _, after := _, guard := _ }) rfl (fun K hK => ?_) AllReadyH.nil
                go_simp
                refine hK.out _ _ hS2 (fun hS1 => ?_)
                clear hK hS1 hS2 S1
                refine wpAnyH_ready (rs := [10]) (by kernel_rfl) (by simp) ?_
                refine AllReadyH.cons (o := { dst := some 62, op := _, type := _, pos := _, after := _, guard := _ }) rfl (fun K hK => ?_) AllReadyH.nil
                refine step_append_run rfl _ _ 55 rfl _ _ rfl rfl hrun ?_
                refine hK.out _ _ SA (fun hS3 => ?_)
                clear hK
                simp only [Act.put, List.setIfInBounds_toArray, List.set_cons_zero, List.set_cons_succ]
                refine wpAnyH_take (i := 11) (oi := { dst := some 63, op := _, type := _, pos := _, after := _, guard := _ }) (v := .pointer (some ⟨P, k, none⟩)) rfl (by kernel_rfl) (by kernel_rfl) (by kernel_rfl) (fun _ _ _ h => h) (Or.inl ⟨by rfl, ?_⟩) (by assumption) ?_
                · (intro w' hSw; (try dsimp only at hSw); go_simp; try rfl)
                simp only [Act.put, List.setIfInBounds_toArray, List.set_cons_zero, List.set_cons_succ]
                refine wpAnyH_ready (rs := [12]) (by kernel_rfl) (by simp) ?_
                refine AllReadyH.cons (o := { dst := none, op := _, type := _, pos := _, after := _, guard := _ }) rfl (fun K hK => ?_) AllReadyH.nil
                go_simp
                refine hK.out _ _ SB (fun hS4 => ?_)
                clear hK
                refine wpAnyH_done (by kernel_rfl) ?_ _
                clear hS0 hS3 hS4 SA SB hrun f6 p6 cX c0 c1 c2 hPk hPk6
                generalize w6.setCell ⟨P, k, none⟩ (.slice (some ⟨g6, 0, none⟩) l6 cap6) = w7 at R7 V7 X7 Rr7 b7
                go_wp2
                go_roundw
                case rel => exact ⟨i + 1, _, rows2, _, by omega, by go_num, HST, HRO, h32, hfit2, hle2, R7, V7, X7, Rr7, b7⟩
                case measure => simp [intOf]; omega
            · have hk3' : (3 : Int) ≤ (k : Int) := by omega
              have HP : Hid (IsRP ts [] 3) := .inr (.inr ⟨rfl, rfl, t, hmem, bad_of_head hwd (fun k' hk' hk3'' => absurd (hD.only hk') (by omega))⟩)
              clear hIs hD hwd
              have kR : w4.cell? ⟨w.heap.size, 0, none⟩ = some (.slice none 0 0) := by simpa using hRr.cellAt 0 (by omega)
              have fR := hRr.frozenAt 0
              have hlt9 := (hRr.lt w.heap.size rfl).2
              have hb3 : Below w.heap.size w ((w4.setCell ⟨w.heap.size, 0, none⟩ (.slice none 0 0)).alloc (.cells #[.int .i64 y0, .int .i64 y1, .int .i64 y2] 36)) := (hbw.setCell (Nat.le_refl _) _).alloc (by simp; omega) _
              have k3 : ((w4.setCell ⟨w.heap.size, 0, none⟩ (.slice none 0 0)).alloc (.cells #[.int .i64 y0, .int .i64 y1, .int .i64 y2] 36)).cell? ⟨w.heap.size, 0, none⟩ = some (.slice none 0 0) := cells_kept (by go_grown) _ _ (World.cell?_setCell_same' w4 _ _ (by rw [kR]; rfl))
              clear hRr hbw hR hV hX hAS hRO hfit hle hstep hmem
              go_wp2
              clear kR fR
              generalize (w4.setCell ⟨w.heap.size, 0, none⟩ (.slice none 0 0)).alloc (.cells #[.int .i64 y0, .int .i64 y1, .int .i64 y2] 36) = w9 at hb3 k3
              refine bodyPost_ret (by simp [results, Tryz.results7, go_sem, k3]; try rfl) rfl ?_
              exact ⟨⟨_, [], 3, HP.out, rfl, (fun r hr => by cases hr), OwnProg.nil _ _⟩, hb3⟩
          · have HP : Hid (IsRP ts [] 3) := .inr (.inr ⟨rfl, rfl, t, hmem, bad_of_head hwd (fun _ _ _ => hNR)⟩)
            obtain ⟨y0, y1, y2⟩ := y
            unfold I3.val
            clear hNR hD hwd
            by_cases hk3 : (3 : Int) ≤ (k : Int)
            · have kR : w4.cell? ⟨w.heap.size, 0, none⟩ = some (.slice none 0 0) := by simpa using hRr.cellAt 0 (by omega)
              have fR := hRr.frozenAt 0
              have hlt9 := (hRr.lt w.heap.size rfl).2
              have hb3 : Below w.heap.size w ((w4.setCell ⟨w.heap.size, 0, none⟩ (.slice none 0 0)).alloc (.cells #[.int .i64 y0, .int .i64 y1, .int .i64 y2] 36)) := (hbw.setCell (Nat.le_refl _) _).alloc (by simp; omega) _
              have k3 : ((w4.setCell ⟨w.heap.size, 0, none⟩ (.slice none 0 0)).alloc (.cells #[.int .i64 y0, .int .i64 y1, .int .i64 y2] 36)).cell? ⟨w.heap.size, 0, none⟩ = some (.slice none 0 0) := cells_kept (by go_grown) _ _ (World.cell?_setCell_same' w4 _ _ (by rw [kR]; rfl))
              clear hRr hbw hR hV hX hAS hRO hfit hle hstep hmem
              go_wp2
              clear kR fR
              generalize (w4.setCell ⟨w.heap.size, 0, none⟩ (.slice none 0 0)).alloc (.cells #[.int .i64 y0, .int .i64 y1, .int .i64 y2] 36) = w9 at hb3 k3
              refine bodyPost_ret (by simp [results, Tryz.results7, go_sem, k3]; try rfl) rfl ?_
              exact ⟨⟨_, [], 3, HP.out, rfl, (fun r hr => by cases hr), OwnProg.nil _ _⟩, hb3⟩
            · have kR : w4.cell? ⟨w.heap.size, 0, none⟩ = some (.slice none 0 0) := by simpa using hRr.cellAt 0 (by omega)
              have fR := hRr.frozenAt 0
              have hlt9 := (hRr.lt w.heap.size rfl).2
              have hb3 : Below w.heap.size w ((w4.setCell ⟨w.heap.size, 0, none⟩ (.slice none 0 0)).alloc (.cells #[.int .i64 y0, .int .i64 y1, .int .i64 y2] 36)) := (hbw.setCell (Nat.le_refl _) _).alloc (by simp; omega) _
              have k3 : ((w4.setCell ⟨w.heap.size, 0, none⟩ (.slice none 0 0)).alloc (.cells #[.int .i64 y0, .int .i64 y1, .int .i64 y2] 36)).cell? ⟨w.heap.size, 0, none⟩ = some (.slice none 0 0) := cells_kept (by go_grown) _ _ (World.cell?_setCell_same' w4 _ _ (by rw [kR]; rfl))
              clear hRr hbw hR hV hX hAS hRO hfit hle hstep hmem
              go_wp2
              clear kR fR
              generalize (w4.setCell ⟨w.heap.size, 0, none⟩ (.slice none 0 0)).alloc (.cells #[.int .i64 y0, .int .i64 y1, .int .i64 y2] 36) = w9 at hb3 k3
              refine bodyPost_ret (by simp [results, Tryz.results7, go_sem, k3]; try rfl) rfl ?_
              exact ⟨⟨_, [], 3, HP.out, rfl, (fun r hr => by cases hr), OwnProg.nil _ _⟩, hb3⟩
        · go_wp2_with fail
          refine KI.mono ?_
          rintro e w4 ⟨hkr, hb4⟩
          replace hR := hR.below hb4
          replace hV := owns_below hV hb4
          replace hX := owns_below hX hb4
          replace hRr := owns_below hRr hb4
          replace hbw := bel_trans hbw hb4
          clear hb4 KI hslR
          have HP : Hid (IsRP ts [] 3) := .inr (.inr ⟨rfl, rfl, t, hmem, bad_of_head hwd (fun k' hk' _ => absurd hk' (hND k'))⟩)
          clear hND hwd
          rcases hkr with ⟨x, _, rfl⟩ | ⟨_, x, rfl⟩
          · obtain ⟨y0, y1, y2⟩ := x
            unfold I3.val
            have kR : w4.cell? ⟨w.heap.size, 0, none⟩ = some (.slice none 0 0) := by simpa using hRr.cellAt 0 (by omega)
            have fR := hRr.frozenAt 0
            have hlt9 := (hRr.lt w.heap.size rfl).2
            have hb3 : Below w.heap.size w ((w4.setCell ⟨w.heap.size, 0, none⟩ (.slice none 0 0)).alloc (.cells #[.int .i64 y0, .int .i64 y1, .int .i64 y2] 36)) := (hbw.setCell (Nat.le_refl _) _).alloc (by simp; omega) _
            have k3 : ((w4.setCell ⟨w.heap.size, 0, none⟩ (.slice none 0 0)).alloc (.cells #[.int .i64 y0, .int .i64 y1, .int .i64 y2] 36)).cell? ⟨w.heap.size, 0, none⟩ = some (.slice none 0 0) := cells_kept (by go_grown) _ _ (World.cell?_setCell_same' w4 _ _ (by rw [kR]; rfl))
            clear hRr hbw hR hV hX hAS hRO hfit hle hstep hmem
            go_wp2
            clear kR fR
            generalize (w4.setCell ⟨w.heap.size, 0, none⟩ (.slice none 0 0)).alloc (.cells #[.int .i64 y0, .int .i64 y1, .int .i64 y2] 36) = w9 at hb3 k3
            refine bodyPost_ret (by simp [results, Tryz.results7, go_sem, k3]; try rfl) rfl ?_
            exact ⟨⟨_, [], 3, HP.out, rfl, (fun r hr => by cases hr), OwnProg.nil _ _⟩, hb3⟩
          · obtain ⟨y0, y1, y2⟩ := x
            unfold I3.val
            have kR : w4.cell? ⟨w.heap.size, 0, none⟩ = some (.slice none 0 0) := by simpa using hRr.cellAt 0 (by omega)
            have fR := hRr.frozenAt 0
            have hlt9 := (hRr.lt w.heap.size rfl).2
            have hb3 : Below w.heap.size w ((w4.setCell ⟨w.heap.size, 0, none⟩ (.slice none 0 0)).alloc (.cells #[.int .i64 y0, .int .i64 y1, .int .i64 y2] 36)) := (hbw.setCell (Nat.le_refl _) _).alloc (by simp; omega) _
            have k3 : ((w4.setCell ⟨w.heap.size, 0, none⟩ (.slice none 0 0)).alloc (.cells #[.int .i64 y0, .int .i64 y1, .int .i64 y2] 36)).cell? ⟨w.heap.size, 0, none⟩ = some (.slice none 0 0) := cells_kept (by go_grown) _ _ (World.cell?_setCell_same' w4 _ _ (by rw [kR]; rfl))
            clear hRr hbw hR hV hX hAS hRO hfit hle hstep hmem
            go_wp2
            clear kR fR
            generalize (w4.setCell ⟨w.heap.size, 0, none⟩ (.slice none 0 0)).alloc (.cells #[.int .i64 y0, .int .i64 y1, .int .i64 y2] 36) = w9 at hb3 k3
            refine bodyPost_ret (by simp [results, Tryz.results7, go_sem, k3]; try rfl) rfl ?_
            exact ⟨⟨_, [], 3, HP.out, rfl, (fun r hr => by cases hr), OwnProg.nil _ _⟩, hb3⟩
    · obtain rfl : i = n := by omega
      have hAll : AllSteps ts os := by have := hAS.out; rwa [List.take_of_length_le (by omega)] at this
      have hOP : OwnProg wr w.heap.size (.slice (some ⟨P, 0, none⟩) 3 3) rows := ⟨vs, by rw [h3]; exact hV, by have := hV.1; omega, fun t ht => hR.1 t (by omega), fun t t' ht ht' => hR.2 t t' (by omega) (by omega)⟩
      have hcX : wr.cell? ⟨X, 0, none⟩ = some (.slice (some ⟨P, 0, none⟩) 3 3) := by simpa using hX.cellAt 0 (by omega)
      have hXP : w.heap.size ≠ X ∨ True := .inr trivial
      have KO := implProgramOK_is (some ⟨P, 0, none⟩) 3 3 rows wr (hOP.codes hfit.out)
      have hRX : wr.ownsRow w.heap.size 25 1 (.slice (some ⟨w.heap.size, 0, none⟩) 1 1) 1 [.slice none 0 0] := hRr
      have hVne : w.heap.size ≠ P := fun e => by
        rcases owns_ne hV hRr (by decide) with h' | h'
        · simp [Value.ownBlock] at h'
        · exact h' (by rw [← e]; rfl)
      have hRne : ∀ t, t < 3 → (vs.getD t undef).ownBlock ≠ some w.heap.size := fun t ht => ne_block (hR.1 t ht) hRr (by decide)
      clear hcase hAS hRX hXP
      cases hpk : progOk rows
      · have HP : Hid (IsRP ts [] 1) := .inr (.inl ⟨rfl, rfl, os, hAll, by rw [← hRO.out]; exact hpk⟩)
        rw [hpk] at KO
        go_wp2_with fail
        refine KO.mono ?_
        rintro e w5 ⟨rfl, hb5⟩
        replace hRr := owns_below hRr hb5
        replace hbw := bel_trans hbw hb5
        clear hX hOP hcX hb5 KO hR hV hAll hRO
        have kR : w5.cell? ⟨w.heap.size, 0, none⟩ = some (.slice none 0 0) := by simpa using hRr.cellAt 0 (by omega)
        have fR := hRr.frozenAt 0
        have hb3 : Below w.heap.size w (w5.setCell ⟨w.heap.size, 0, none⟩ (.slice none 0 0)) := hbw.setCell (Nat.le_refl _) _
        have k3 : (w5.setCell ⟨w.heap.size, 0, none⟩ (.slice none 0 0)).cell? ⟨w.heap.size, 0, none⟩ = some (.slice none 0 0) := World.cell?_setCell_same' _ _ _ (by rw [kR]; rfl)
        clear hRr hbw 
        go_wp2
        clear kR fR
        generalize w5.setCell ⟨w.heap.size, 0, none⟩ (.slice none 0 0) = w9 at hb3 k3
        refine bodyPost_ret (by simp [results, Tryz.results7, go_sem, k3]; try rfl) rfl ?_
        exact ⟨⟨_, [], 1, HP.out, rfl, (fun r hr => by cases hr), OwnProg.nil _ _⟩, hb3⟩
      · have HP : Hid (IsRP ts rows 0) := .inl ⟨rfl, os, hAll, hRO.out, hpk⟩
        rw [hpk] at KO
        go_wp2_with fail
        refine KO.mono ?_
        rintro e w5 ⟨rfl, hb5⟩
        replace hRr := owns_below hRr hb5
        replace hbw := bel_trans hbw hb5
        replace hR := hR.below hb5
        replace hV := owns_below hV hb5
        replace hcX := cells_kept hb5 _ _ hcX
        clear hX hb5 KO hAll hRO hOP
        have kR : w5.cell? ⟨w.heap.size, 0, none⟩ = some (.slice none 0 0) := by simpa using hRr.cellAt 0 (by omega)
        have fR := hRr.frozenAt 0
        have hb3 : Below w.heap.size w (w5.setCell ⟨w.heap.size, 0, none⟩ (.slice (some ⟨P, 0, none⟩) 3 3)) := hbw.setCell (Nat.le_refl _) _
        have k3 : (w5.setCell ⟨w.heap.size, 0, none⟩ (.slice (some ⟨P, 0, none⟩) 3 3)).cell? ⟨w.heap.size, 0, none⟩ = some (.slice (some ⟨P, 0, none⟩) 3 3) := World.cell?_setCell_same' _ _ _ (by rw [kR]; rfl)
        have hOP3 : OwnProg (w5.setCell ⟨w.heap.size, 0, none⟩ (.slice (some ⟨P, 0, none⟩) 3 3)) w.heap.size (.slice (some ⟨P, 0, none⟩) 3 3) rows := ⟨vs, by rw [h3]; exact ownsRow_setCell_other hV (by simp only [Value.ownBlock, ne_eq, Option.some.injEq]; exact fun e => hVne e.symm) _, by have := hV.1; omega, fun t ht => ownsRow_setCell_other (hR.1 t (by omega)) (hRne t (by omega)) _, fun t t' ht ht' => hR.2 t t' (by omega) (by omega)⟩
        clear hRr hbw hR hV hRne
        go_wp2
        clear kR fR hcX
        generalize w5.setCell ⟨w.heap.size, 0, none⟩ (.slice (some ⟨P, 0, none⟩) 3 3) = w9 at hb3 k3 hOP3
        refine bodyPost_ret (by simp [results, Tryz.results7, go_sem, k3]; try rfl) rfl ?_
        exact ⟨⟨_, rows, 0, HP.out, rfl, hfit.out, hOP3⟩, hb3⟩

set_option maxHeartbeats 1000000 in
set_option maxRecDepth 100000 in
theorem implRP_long (a : Option Addr) (n cap : Nat) (w : World) (hn : 4096 < n) (hm : n ≤ 1048576) :
    Calls Tryz.prog 7 #[.slice a n cap] w fun e w' => e = .returned (.tuple #[.agg #[.slice none 0 0], .int .i64 2]) ∧ Below w.heap.size w w' := by
  go_enter Tryz.func7, Tryz.ntmps7
  go_wp2
  go_returns
  exact ⟨rfl, by go_grown⟩
end Go.Proofs.YtiokkoaalakakaaGreatDoor
