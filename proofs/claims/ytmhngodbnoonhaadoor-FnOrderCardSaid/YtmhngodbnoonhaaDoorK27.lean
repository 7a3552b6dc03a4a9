/-
  Joined: RpC, RpD, RpE, Tab, JoinC.
-/
import Derived.Test.YtmhngodbnoonhaaDoorK24
import Derived.Recover
import Derived.Test.YtmhngodbnoonhaaDoorK26
import Derived.Test.YtmhngodbnoonhaaDoorK07
import Derived.IntWalk
import Derived.Test.YtmhngodbnoonhaaDoorK20
import Derived.BigRegion

/-
  A replay's run: step by step, up to what halts it; a halt is a panic, which is recovered.
-/
namespace Go.Proofs.YtmhngodbnoonhaaDoor
open Go.RowKit
set_option linter.unusedVariables false
set_option linter.unusedSimpArgs false

set_option maxRecDepth 100000 in
theorem catch_halt (p : Addr) (x : Value) (c : Int) (older : List PanicEntry) (w : World) (hc : w.cell? p = some x) (hz : w.frozen? p = false) :
    CallsD Tryd.prog 90 #[.pointer (some p)] (.panicking ({ v := .iface 132 (.int .i64 c), recovered := false } :: older)) w fun e u' w' =>
      e = .returned (.tuple #[]) ∧ u' = .panicking ({ v := .iface 132 (.int .i64 c), recovered := true } :: older) ∧ w' = w.setCell p (.int .i64 c) := by
  have hA := halt_of_halt
  refine callsD_of_wpS Tryd.func90 rfl fun c₀ cs hu => ?_
  apply wpS_seq
  apply wpS_region
  simp [wpOpsS, go_sem, recoverD, hu, Tryd.ntmps90, Exit.thenS]
  refine wpS_of_wp ?_
  show Code.wp Tryd.prog _ _ { tmps := #[.pointer (some p), .iface 132 (.int .i64 c), .iface 132 (.int .i64 c), undef, undef, undef, undef, undef], defers := [] } w
  go_wp2
  exact ⟨rfl, _, rfl, _, results_none rfl _ _ _, rfl, rfl, rfl⟩

set_option maxRecDepth 100000 in
theorem catch_idle (p : Addr) (w : World) :
    CallsD Tryd.prog 90 #[.pointer (some p)] .returning w fun e u' w' => e = .returned (.tuple #[]) ∧ u' = .returning ∧ w' = w := by
  refine callsD_of_wpS Tryd.func90 rfl fun c₀ cs hu => ?_
  apply wpS_seq
  apply wpS_region
  simp [wpOpsS, go_sem, recoverD, hu, Tryd.ntmps90, Exit.thenS]
  refine wpS_of_wp ?_
  show Code.wp Tryd.prog _ _ { tmps := #[.pointer (some p), .nilIface, .nilIface, undef, undef, undef, undef, undef], defers := [] } w
  go_wp2
  exact ⟨rfl, .returning, by cases c₀; simp_all, _, results_none rfl _ _ _, rfl, rfl, rfl⟩
end Go.Proofs.YtmhngodbnoonhaaDoor


/-
  A replay's run.
-/
namespace Go.Proofs.YtmhngodbnoonhaaDoor
open Go.RowKit
set_option linter.unusedVariables false
set_option linter.unusedSimpArgs false

/-- A list of threads in memory that a run does not touch: older than B, or a row of integers. -/
def ListAt (w : World) (B : Nat) (a : Option Addr) (n c : Nat) (ks : List Int) : Prop :=
  Ints .i64 w a n c ks ∧ ∀ b o, a = some ⟨b, o, none⟩ → 0 < n → b < B ∨ ∃ cur fz, w.heap[b]? = some (Obj.cells cur 3 fz)
theorem ListAt.kept {w w' : World} {B : Nat} {a : Option Addr} {n c : Nat} {ks : List Int} (h : ListAt w B a n c ks) (hb : Below B w w') (hk : RunKept w w') : ListAt w' B a n c ks := by
  obtain ⟨⟨h1, h2, h3, h4⟩, h5⟩ := h
  rcases Nat.eq_zero_or_pos n with hn | hn
  · exact ⟨⟨h1, h2, h3, .inl hn⟩, fun _ _ _ h0 => absurd hn (by omega)⟩
  rcases h4 with h4 | ⟨b, off, ha, hl, hc⟩
  · omega
  have e : w'.heap[b]? = w.heap[b]? := by
    rcases h5 b off ha hn with h6 | ⟨cur, fz, h6⟩
    · exact hb.block b h6
    · rw [hk b cur _ fz h6 (by decide) (by decide), h6]
  refine ⟨⟨h1, h2, h3, .inr ⟨b, off, ha, Nat.lt_of_lt_of_le hl hb.size, fun t ht => ?_⟩⟩, fun b' o' ha' h0 => ?_⟩
  · rw [← hc t ht]
    unfold World.cell?
    simp only
    rw [e]
  · rw [ha] at ha'
    cases ha'
    rcases h5 b off ha hn with h6 | ⟨cur, fz, h6⟩
    · exact .inl h6
    · exact .inr ⟨cur, fz, e.trans h6⟩
theorem ListAt.at {w : World} {B : Nat} {a : Option Addr} {n c : Nat} {ks : List Int} (h : ListAt w B a n c ks) {i : Nat} (hi : i < n) : ∃ b off, a = some ⟨b, off, none⟩ ∧ w.cell? ⟨b, off + i, none⟩ = some (.int .i64 (ks.getD i 0)) := by
  obtain ⟨⟨h1, h2, h3, h4⟩, h5⟩ := h
  rcases h4 with h4 | ⟨b, off, ha, hl, hc⟩
  · omega
  · exact ⟨b, off, ha, hc i hi⟩
theorem RunKept.set_new {w w' : World} {R : Nat} {v : Value} (h : RunKept w w') (hR : w.heap.size ≤ R) : RunKept w (w'.setCell ⟨R, 0, none⟩ v) := fun j cur e fz h0 h1 h2 => by
  have hj := (Array.getElem?_eq_some_iff.1 h0).1
  rw [Below.heap_setCell w' ⟨R, 0, none⟩ v j (by show j ≠ R; omega)]
  exact h j cur e fz h0 h1 h2

/-- Where a replay in block g has come to: its state, what it kept. -/
def RanTo (w : World) (g B : Nat) (cs : Sl × Sl × Sl) (m : V4) (fs : List I3) : Prop :=
  ∃ fv, Blk w g 88 (Rp.machR fv cs.1.val cs.2.1.val cs.2.2.val m) ∧ w.ownsRow B 40 3 fv fs.length (flat fs)
/-- On the way: fin is what the whole comes to; R the block of the result. -/
def OnRun (w0 w wr : World) (g B R : Nat) (cs : Sl × Sl × Sl) (rows : List (List I3)) (ks : List Int) (N n i : Nat) (fin : V4 × List I3 × Int) (m : V4) (fs : List I3) : Prop :=
  i ≤ n ∧ runI rows m fs (ks.drop i) = fin ∧ shapeOk m = true ∧ RanTo wr g B cs m fs ∧ Below B w0 wr ∧ Below B w wr ∧ RunKept w wr ∧ Blk wr R 3 [.int .i64 0] ∧ fs.length ≤ N + i
theorem runI_halt {rows : List (List I3)} {m : V4} {fs : List I3} {ks : List Int} {i : Nat} (hi : i < ks.length) (h : haltM rows m (ks.getD i 0) ≠ 0) : runI rows m fs (ks.drop i) = (m, fs, haltM rows m (ks.getD i 0)) := by
  have e : ks.drop i = ks.getD i 0 :: ks.drop (i + 1) := by rw [List.drop_eq_getElem_cons hi]; simp [List.getD, hi]
  rw [e]
  show (if haltM rows m (ks.getD i 0) = 0 then _ else _) = _
  rw [if_neg h]
theorem runI_go {rows : List (List I3)} {m : V4} {fs : List I3} {ks : List Int} {i : Nat} (hi : i < ks.length) (h : haltM rows m (ks.getD i 0) = 0) : runI rows m fs (ks.drop i) = runI rows (goM rows m (ks.getD i 0)).1 (fs ++ ownM rows m (ks.getD i 0)) (ks.drop (i + 1)) := by
  have e : ks.drop i = ks.getD i 0 :: ks.drop (i + 1) := by rw [List.drop_eq_getElem_cons hi]; simp [List.getD, hi]
  rw [e]
  show (if haltM rows m (ks.getD i 0) = 0 then _ else _) = _
  rw [if_pos h]

theorem rowsMach {w : World} {a : Option Addr} {cs : Sl × Sl × Sl} {rows : List (List I3)} {m : V4} {g : Nat} {fv : Value} (h : RowsAt w a cs rows) (hB : Blk w g 88 (Rp.machR fv cs.1.val cs.2.1.val cs.2.2.val m)) : Rp.MachAt fv w g cs rows m := by
  obtain ⟨b, off, _, _, hk⟩ := h
  exact ⟨hB, fun k h3 => (hk k h3).2⟩
/-- One step of a replay, whatever thread. -/
def StepsTo (e : Ending) (w w' : World) (g B : Nat) (cs : Sl × Sl × Sl) (rows : List (List I3)) (m : V4) (fv : Value) (k : Int) : Prop :=
  (haltM rows m k ≠ 0 ∧ e = .returned (.iface 132 (.int .i64 (haltM rows m k))) ∧ Below w.heap.size w w') ∨
  (haltM rows m k = 0 ∧ e = .returned (.iface 40 (.agg #[.int .i64 (goM rows m k).2, .int .i64 k, .int .i64 (m.1.getD k.toNat 0)])) ∧ Blk w' g 88 (Rp.machR fv cs.1.val cs.2.1.val cs.2.2.val (goM rows m k).1) ∧ w.grownBy w' (some g) ∧ shapeOk (goM rows m k).1 = true)
theorem rstep_is {fv : Value} {w : World} {g B : Nat} {cs : Sl × Sl × Sl} {rows : List (List I3)} {m : V4} (h : Rp.MachAt fv w g cs rows m) (hp : progOk rows = true) (hs : shapeOk m = true) (k : Int) :
    Calls Tryd.prog 93 #[.pointer (some ⟨g, 0, none⟩), .int .i64 k] w fun e w' => StepsTo e w w' g B cs rows m fv k := by
  by_cases hk : 0 ≤ k ∧ k ≤ 2
  · obtain ⟨q, rfl⟩ : ∃ q : Nat, k = q := ⟨k.toNat, by omega⟩
    have hq : q < 3 := by omega
    cases hd : doneM rows m q
    · cases hw : waitM rows m q
      · have hz : haltM rows m (q : Int) = 0 := by
          unfold haltM
          rw [if_pos hk]
          unfold waitM at hw
          rw [Int.toNat_natCast]
          simp only [hd]
          unfold canM
          rw [hd] at hw ⊢
          simp at hw ⊢
          exact hw
        refine (rstep_go h hp hs hq hd hw).mono ?_
        rintro e w' ⟨he, hM, hg⟩
        refine .inr ⟨hz, by rw [he, Int.toNat_natCast], hM, hg, ?_⟩
        rw [goM_natR]
        exact shape_step hp hs hq hd
      · have hz : haltM rows m (q : Int) = 11 := by
          unfold haltM
          rw [if_pos hk]
          unfold waitM at hw
          rw [Int.toNat_natCast]
          simp only [hd]
          unfold canM
          rw [hd] at hw ⊢
          simp at hw ⊢
          simp [hw]
        refine (rstep_waits h hp hs hq hd hw).mono ?_
        rintro e w' ⟨he, hb⟩
        exact .inl ⟨by rw [hz]; decide, by rw [hz]; exact he, hb⟩
    · have hz : haltM rows m (q : Int) = 10 := by
        unfold haltM
        rw [if_pos hk, Int.toNat_natCast]
        simp [hd]
      refine (rstep_done h hq hd).mono ?_
      rintro e w' ⟨he, hb⟩
      exact .inl ⟨by rw [hz]; decide, by rw [hz]; exact he, hb⟩
  · have hz : haltM rows m k = 4 := by unfold haltM; rw [if_neg hk]
    have hi : inB k 0 2 = false := inB_false.2 (by omega)
    refine (rstep_range g k w hi).mono ?_
    rintro e w' ⟨he, rfl⟩
    exact .inl ⟨by rw [hz]; decide, by rw [hz]; exact he, Below.refl _ _⟩

/-- What keep does with the outcome of a step that goes on. -/
theorem keep_is {fv : Value} {w : World} {g B : Nat} {cs : Sl × Sl × Sl} {m : V4} {fs : List I3} (hM : Blk w g 88 (Rp.machR fv cs.1.val cs.2.1.val cs.2.2.val m)) (hF : w.ownsRow B 40 3 fv fs.length (flat fs)) (hgB : B ≤ g) (hn : fs.length ≤ 1000000) (f k pc : Int) :
    Calls Tryd.prog 92 #[.pointer (some ⟨g, 0, none⟩), .iface 40 (.agg #[.int .i64 f, .int .i64 k, .int .i64 pc])] w fun e w' => e = .returned (.tuple #[]) ∧ RanTo w' g B cs m (fs ++ if f = 0 then [] else [(f, k, pc)]) ∧ Below B w w' ∧ RunKept w w' := by
  by_cases hf : f = 0
  · subst hf
    refine (keep_ok g k pc w).mono ?_
    rintro e w' ⟨he, hb⟩
    rw [if_pos rfl, List.append_nil]
    exact ⟨he, ⟨fv, hM.below hb, owns_below hF hb⟩, below_lowR hb (by have := hM.lt; omega), RunKept.of_below hb⟩
  · refine (keep_bug hM hF hgB hn hf).mono ?_
    rintro e w' ⟨he, fv', h1, h2, h3, h4⟩
    rw [if_neg hf]
    exact ⟨he, ⟨fv', h1, by simpa using h2⟩, h3, h4⟩
end Go.Proofs.YtmhngodbnoonhaaDoor


/-
  A replay's run: what it comes to.
-/
namespace Go.Proofs.YtmhngodbnoonhaaDoor
open Go.RowKit
set_option linter.unusedVariables false
set_option linter.unusedSimpArgs false

theorem bel_transR {B : Nat} {a b c : World} (h : Below B a b) (k : Below B b c) : Below B a c := ⟨k.os.trans h.os, k.tape.trans h.tape, k.output.trans h.output, Nat.le_trans h.size k.size, fun j hj => (k.block j hj).trans (h.block j hj)⟩
theorem ownM_len (rows : List (List I3)) (m : V4) (k : Int) : (ownM rows m k).length ≤ 1 := by unfold ownM; split <;> simp
set_option maxHeartbeats 2000000 in
set_option maxRecDepth 100000 in
theorem run_is {w0 w : World} {g : Nat} {a9 : Option Addr} {cs : Sl × Sl × Sl} {rows : List (List I3)} {m : V4} {fs : List I3} {la : Option Addr} {n c : Nat} {ks : List Int} (hR : RowsAt w0 a9 cs rows) (bw : Below w0.heap.size w0 w) (hg : w0.heap.size ≤ g) (hp : progOk rows = true) (hs : shapeOk m = true)
    (hM : RanTo w g w0.heap.size cs m fs) (hL : ListAt w w0.heap.size la n c ks) (hn : fs.length + n ≤ 500000) :
    Calls Tryd.prog 51 #[.pointer (some ⟨g, 0, none⟩), .slice la n c] w fun e w' => e = .returned (.int .i64 (runI rows m fs ks).2.2) ∧ RanTo w' g w0.heap.size cs (runI rows m fs ks).1 (runI rows m fs ks).2.1 ∧ Below w0.heap.size w0 w' ∧ RunKept w w' := by
  have hmf : ∀ (fn : Fn) (first cap : Array Value) (w : World), (Instr.makeFunc fn first cap).run Tryd.prog w = .ok (.func fn first cap) w := fun _ _ _ _ => rfl
  obtain ⟨fin, hfin⟩ : ∃ fin, fin = runI rows m fs ks := ⟨_, rfl⟩
  rw [← hfin]
  have hll := hL.1.1
  have hsz0 := bw.size
  have hgl : g < w.heap.size := by obtain ⟨fv, h1, _⟩ := hM; exact h1.lt
  have ha : Below w.heap.size w (w.alloc (.cells #[.int .i64 0] 3)) := by go_grown
  have st : OnRun w0 w (w.alloc (.cells #[.int .i64 0] 3)) g w0.heap.size w.heap.size cs rows ks fs.length n 0 fin m fs := by
    obtain ⟨fv, h1, h2⟩ := hM
    exact ⟨by omega, by rw [hfin]; rfl, hs, ⟨fv, h1.below ha, owns_below h2 ha⟩, below_thenR bw ha hsz0, below_lowR ha hsz0, RunKept.of_below ha, blkAt _ _ _ rfl, by omega⟩
  clear hfin hs hM ha
  go_enter_defers Tryd.func51, Tryd.ntmps51
  go_wp2_with fail
  generalize w.alloc (.cells #[.int .i64 0] 3) = W1 at *
  go_loopw [10] (fun si wr => ∃ (i : Nat) (m' : V4) (fs' : List I3), si = .int .i64 i ∧ OnRun w0 w wr g w0.heap.size w.heap.size cs rows ks fs.length n i fin m' fs') (fun si _ => n - (intOf si).toNat)
  case atStart => exact ⟨0, m, fs, rfl, st⟩
  case round =>
    clear st
    obtain ⟨i, m', fs', rfl, hi, hr, hs, ⟨fv, hM, hF⟩, bw0, bw1, kp, pR, hf9⟩ := hrel
    by_cases hlt : i < n
    · have hLr := hL.kept bw1 kp
      obtain ⟨b, off, rfl, hc⟩ := hLr.at hlt
      have kS := rstep_is (B := w0.heap.size) (rowsMach (hR.below bw0) hM) hp hs (ks.getD i 0)
      have HH : Hid (haltM rows m' (ks.getD i 0) ≠ 0 → fin = (m', fs', haltM rows m' (ks.getD i 0))) := fun h0 => hr.symm.trans (runI_halt (by omega) h0)
      have HG : Hid (haltM rows m' (ks.getD i 0) = 0 → runI rows (goM rows m' (ks.getD i 0)).1 (fs' ++ ownM rows m' (ks.getD i 0)) (ks.drop (i + 1)) = fin) := fun h0 => (runI_go (by omega) h0).symm.trans hr
      have hlt' : (i : Int) < (n : Int) := by omega
      have hi0 : (0 : Int) ≤ (i : Int) := by omega
      have hRg : g ≠ w.heap.size := by omega
      generalize ks.getD i 0 = kk at *
      clear hr hLr hs
      go_wp2_with fail
      refine kS.mono ?_
      rintro e w1 (⟨hz, rfl, hb⟩ | ⟨hz, rfl, hM1, g1, hs1⟩)
      · have hfe := HH.out hz
        clear HH HG kS
        go_wp2_with fail
        refine (keep_halt g _ w1).mono ?_
        rintro e w2 ⟨rfl, hb2⟩
        replace hb := bel_trans hb hb2
        clear hb2
        replace pR := pR.below hb
        go_wp2_with fail
        have cR := pR.cell 0
        have fR := pR.frozen 0
        simp only [List.getElem?_cons_zero] at cR
        refine leaves_cons (f := 90) (args := #[.pointer (some ⟨w.heap.size, 0, none⟩)]) (by simp) (by simp [go_sem]) ?_
        refine (catch_halt ⟨w.heap.size, 0, none⟩ _ (haltM rows m' kk) [] _ cR fR).mono ?_
        rintro e u' w3 ⟨rfl, rfl, rfl⟩
        have cS : (w2.setCell ⟨w.heap.size, 0, none⟩ (.int .i64 (haltM rows m' kk))).cell? ⟨w.heap.size, 0, none⟩ = some (.int .i64 (haltM rows m' kk)) := by simpa using (pR.set 0 (.int .i64 (haltM rows m' kk))).cell 0
        have gS := grown_cell w2 w.heap.size 0 (.int .i64 (haltM rows m' kk))
        have hM3 := (hM.below hb).off ⟨w.heap.size, 0, none⟩ (.int .i64 (haltM rows m' kk)) hRg
        have hF2 := owns_below hF hb
        have hF3 := hF2.kept gS (.inr (own_ne_blkR hF2 pR (by decide)).symm)
        have bz := (below_thenR bw0 hb bw0.size).grown gS (Nat.le_trans bw0.size hb.size) (fun j hj => by cases hj; exact hsz0)
        have kz := (kp.trans (RunKept.of_below hb)).set_new (v := .int .i64 (haltM rows m' kk)) (Nat.le_refl w.heap.size)
        show Leaves _ _ _ _ [] .returning _
        refine ⟨.int .i64 (haltM rows m' kk), ?_, ?_⟩
        · simp [results, Tryd.results51, go_sem, cS]
        · rw [hfe]
          exact ⟨rfl, ⟨fv, hM3, hF3⟩, bz, kz⟩
      · have hfe := HG.out hz
        clear HH HG kS hc hlt' hi0
        have hF1 := hF.kept g1 (.inr (own_ne_blkR hF hM (by decide)).symm)
        have hn1 : fs'.length ≤ 1000000 := by omega
        have bA := bw0.grown g1 bw0.size (fun j hj => by cases hj; exact hg)
        have bB := bw1.grown g1 (Nat.le_trans hsz0 bw1.size) (fun j hj => by cases hj; exact hg)
        have kA := kp.trans (RunKept.of_blk hM g1)
        have pR1 := pR.kept g1 (fun e => hRg (by cases e; rfl))
        go_wp2_with fail
        refine (keep_is hM1 hF1 hg hn1 _ _ _).mono ?_
        rintro e w2 ⟨rfl, hM2, hb2, kp2⟩
        have pR2 := kp2.blk pR1 (by decide) (by decide)
        have st2 : OnRun w0 w w2 g w0.heap.size w.heap.size cs rows ks fs.length n (i + 1) fin (goM rows m' kk).1 (fs' ++ ownM rows m' kk) := ⟨by omega, hfe, hs1, hM2, bel_transR bA hb2, bel_transR bB hb2, kA.trans kp2, pR2, by have := ownM_len rows m' kk; rw [List.length_append]; omega⟩
        clear hM2 hb2 kp2 pR1 pR2 kA bA bB hF1 hM1 g1 hs1 hz hfe hM hF bw0 bw1 kp pR
        go_wp2
        go_roundw
        case rel => exact ⟨i + 1, _, _, by go_num, st2⟩
        case measure => simp [intOf]; omega
    · obtain rfl : i = n := by omega
      have hfe : fin = (m', fs', 0) := by rw [← hr, List.drop_of_length_le (by omega)]; rfl
      clear hr
      have cR := pR.cell 0
      have fR := pR.frozen 0
      simp only [List.getElem?_cons_zero] at cR
      go_wp2
      have cS : (wr.setCell ⟨w.heap.size, 0, none⟩ (.int .i64 0)).cell? ⟨w.heap.size, 0, none⟩ = some (.int .i64 0) := by simpa using (pR.set 0 (.int .i64 0)).cell 0
      have gS := grown_cell wr w.heap.size 0 (.int .i64 0)
      have hRg : g ≠ w.heap.size := by omega
      have hM3 := hM.off ⟨w.heap.size, 0, none⟩ (.int .i64 0) hRg
      have hF3 := hF.kept gS (.inr (own_ne_blkR hF pR (by decide)).symm)
      have bz := bw0.grown gS bw0.size (fun j hj => by cases hj; exact hsz0)
      have kz := kp.set_new (v := .int .i64 0) (Nat.le_refl w.heap.size)
      refine leaves_cons (f := 90) (args := #[.pointer (some ⟨w.heap.size, 0, none⟩)]) (by simp) (by simp [go_sem]) ?_
      refine (catch_idle ⟨w.heap.size, 0, none⟩ _).mono ?_
      rintro e u' w3 ⟨rfl, rfl, rfl⟩
      show Leaves _ _ _ _ [] .returning _
      refine ⟨.int .i64 0, ?_, ?_⟩
      · simp [results, Tryd.results51, go_sem, cS]
      · rw [hfe]
        exact ⟨rfl, ⟨fv, hM3, hF3⟩, bz, kz⟩
end Go.Proofs.YtmhngodbnoonhaaDoor


/-
  Rows told by a rule: the cell at each place; a row that was made; a square table of yes and no.
-/
namespace Go.Proofs.YtmhngodbnoonhaaDoor
open Go.RowKit
set_option linter.unusedVariables false

/-- The first n cells, by a rule. -/
def tab (n : Nat) (f : Nat → Value) : List Value := (List.range n).map f
theorem tab_len (n : Nat) (f : Nat → Value) : (tab n f).length = n := by simp [tab]
theorem tab_get {n i : Nat} (f : Nat → Value) (h : i < n) : (tab n f)[i]? = some (f i) := by simp [tab, h]
theorem tab_congr {n : Nat} {f g : Nat → Value} (h : ∀ i, i < n → f i = g i) : tab n f = tab n g := by
  unfold tab
  refine List.map_congr_left (fun i hi => h i (by simpa using hi))
theorem tab_set (n i : Nat) (f : Nat → Value) (v : Value) : (tab n f).set i v = tab n (fun j => if j = i then v else f j) := by
  refine List.ext_getElem (by simp [tab]) (fun j h1 h2 => ?_)
  simp only [tab, List.length_set, List.length_map, List.length_range] at h1
  rw [List.getElem_set]
  simp only [tab, List.getElem_map, List.getElem_range]
  by_cases e : j = i
  · subst e; simp
  · simp [e, Ne.symm e]
theorem made_tab (z : Value) (n : Nat) : (madeCells #[z] n).toList = tab n fun _ => z := by
  unfold madeCells tab
  refine List.ext_getElem (by simp) (fun j h1 h2 => ?_)
  simp [Nat.mod_one]
theorem made_tab3 (z : Value) (n : Nat) : (madeCells #[z, z, z] n).toList = tab n fun _ => z := by
  unfold madeCells tab
  refine List.ext_getElem (by simp) (fun j h1 h2 => ?_)
  have h3 : j % 3 < 3 := Nat.mod_lt _ (by omega)
  simp
  match j % 3, h3 with
  | 0, _ => rfl
  | 1, _ => rfl
  | 2, _ => rfl
/-- A row that is as long as it has room is known whole. -/
theorem blk_of_full {w : World} {B e s g n : Nat} {xs : List Value} (h : w.ownsRow B e s (.slice (some ⟨g, 0, none⟩) n n) n xs) : Blk w g e xs ∧ B ≤ g := by
  obtain ⟨hl, h | ⟨g', cap, cur, hv, hB, hg, h1, h2, h3, h4⟩⟩ := h
  · cases h.1
  · cases hv
    refine ⟨?_, hB⟩
    unfold Blk
    rw [hg, ← h4, List.take_of_length_le (by simp [h3])]
theorem full_of_blk {w : World} {B e s g n : Nat} {xs : List Value} (h : Blk w g e xs) (hB : B ≤ g) (hl : xs.length = n * s) (hn : n ≤ maxLen) : w.ownsRow B e s (.slice (some ⟨g, 0, none⟩) n n) n xs :=
  ⟨hl, .inr ⟨g, n, xs.toArray, rfl, hB, h, Nat.le_refl _, hn, by simpa using hl, by simp; rw [← hl]; simp⟩⟩
/-- A square table, row by row. -/
def tab2 (n : Nat) (F : Nat → Nat → Bool) : List Value := tab (n * n) fun j => .bool (F (j / n) (j % n))
theorem at_two {n i k : Nat} (hi : i < n) (hk : k < n) : i * n + k < n * n ∧ (i * n + k) / n = i ∧ (i * n + k) % n = k := by
  refine ⟨?_, ?_, ?_⟩
  · have : (i + 1) * n ≤ n * n := Nat.mul_le_mul_right n (by omega)
    rw [Nat.add_mul] at this
    omega
  · rw [Nat.mul_comm, Nat.mul_add_div (by omega), Nat.div_eq_of_lt hk, Nat.add_zero]
  · rw [Nat.mul_comm, Nat.mul_add_mod, Nat.mod_eq_of_lt hk]
theorem tab2_len (n : Nat) (F : Nat → Nat → Bool) : (tab2 n F).length = n * n := tab_len _ _
theorem tab2_get {n i k : Nat} (F : Nat → Nat → Bool) (hi : i < n) (hk : k < n) : (tab2 n F)[i * n + k]? = some (.bool (F i k)) := by
  obtain ⟨h1, h2, h3⟩ := at_two hi hk
  unfold tab2
  rw [tab_get _ h1, h2, h3]
theorem tab2_congr {n : Nat} {F G : Nat → Nat → Bool} (h : ∀ i k, i < n → k < n → F i k = G i k) : tab2 n F = tab2 n G := by
  refine tab_congr (fun j hj => ?_)
  have hn : 0 < n := by
    rcases Nat.eq_zero_or_pos n with e | e
    · subst e; simp at hj
    · exact e
  rw [h _ _ ((Nat.div_lt_iff_lt_mul hn).2 hj) (Nat.mod_lt _ hn)]
theorem tab2_set {n i k : Nat} (F : Nat → Nat → Bool) (b : Bool) (hi : i < n) (hk : k < n) : (tab2 n F).set (i * n + k) (.bool b) = tab2 n (fun h c => if h = i ∧ c = k then b else F h c) := by
  obtain ⟨h1, h2, h3⟩ := at_two hi hk
  unfold tab2
  rw [tab_set]
  refine tab_congr (fun j hj => ?_)
  by_cases e : j = i * n + k
  · subst e
    rw [if_pos rfl, h2, h3]
    simp only [and_self, if_true]
  · rw [if_neg e]
    have e9 : ¬ (j / n = i ∧ j % n = k) := by
     rintro ⟨e1, e2⟩
     apply e
     have := Nat.div_add_mod j n
     rw [e1, e2, Nat.mul_comm] at this
     exact this.symm
    simp only [if_neg e9]
/-- A place of a square table, as the machine reckons it. -/
theorem ix_two {n i k N : Nat} (hN : N = n * n) (hb : N ≤ 16777216) (hi : i < n) (hk : k < n) : ∃ M P : Nat, wrap64 ((i : Int) * (n : Int)) = (M : Int) ∧ wrap64 ((M : Int) + (k : Int)) = (P : Int) ∧ (P : Int) < (N : Int) ∧ (0 : Int) ≤ (P : Int) ∧ P = i * n + k := by
  have h1 := (at_two hi hk).1
  rw [← hN] at h1
  refine ⟨i * n, i * n + k, ?_, ?_, Int.ofNat_lt.2 h1, Int.natCast_nonneg _, rfl⟩
  · rw [← Int.natCast_mul]
    generalize i * n = M at h1
    exact IntWalk.wrap64_in _ ⟨by omega, by omega⟩
  · rw [← Int.natCast_add]
    generalize i * n + k = P at h1
    exact IntWalk.wrap64_in _ ⟨by omega, by omega⟩
theorem wrap_sq {n N : Nat} (hN : N = n * n) (hb : N ≤ 16777216) : wrap64 ((n : Int) * (n : Int)) = (N : Int) := by
  rw [← Int.natCast_mul, ← hN]
  exact IntWalk.wrap64_in _ ⟨by omega, by omega⟩
end Go.Proofs.YtmhngodbnoonhaaDoor


/-
  The program's clocks: join, within.
-/
namespace Go.Proofs.YtmhngodbnoonhaaDoor
open Go.RowKit
set_option linter.unusedVariables false
set_option linter.unusedSimpArgs false

theorem idxC_0 (x y z : Value) (W : World) : (Instr.index 120 (.agg #[x, y, z]) (.int .i64 0)).run Tryd.prog W = .ok x W := by kernel_rfl
theorem idxC_1 (x y z : Value) (W : World) : (Instr.index 120 (.agg #[x, y, z]) (.int .i64 1)).run Tryd.prog W = .ok y W := by kernel_rfl
theorem idxC_2 (x y z : Value) (W : World) : (Instr.index 120 (.agg #[x, y, z]) (.int .i64 2)).run Tryd.prog W = .ok z W := by kernel_rfl
/-- Whether a clock is within another one. -/
def inC (a b : Nat → Nat) : Bool := decide (a 0 ≤ b 0) && (decide (a 1 ≤ b 1) && decide (a 2 ≤ b 2))
def ck (f : Nat → Nat) : Value := .agg #[.int .i64 (f 0), .int .i64 (f 1), .int .i64 (f 2)]
set_option maxHeartbeats 1000000 in
set_option maxRecDepth 100000 in
theorem within_is (a b : Nat → Nat) (w : World) :
    Calls Tryd.prog 120 #[ck a, ck b] w fun e w' => e = .returned (.bool (inC a b)) ∧ Below w.heap.size w w' := by
  unfold ck inC
  generalize a 0 = a0
  generalize a 1 = a1
  generalize a 2 = a2
  generalize b 0 = b0
  generalize b 1 = b1
  generalize b 2 = b2
  have q0 := idxC_0 (.int .i64 a0) (.int .i64 a1) (.int .i64 a2)
  have q1 := idxC_1 (.int .i64 a0) (.int .i64 a1) (.int .i64 a2)
  have q2 := idxC_2 (.int .i64 a0) (.int .i64 a1) (.int .i64 a2)
  by_cases h0 : a0 ≤ b0
  · by_cases h1 : a1 ≤ b1
    · by_cases h2 : a2 ≤ b2
      · have g0 : ¬ (a0 : Int) > (b0 : Int) := by omega
        have g1 : ¬ (a1 : Int) > (b1 : Int) := by omega
        have g2 : ¬ (a2 : Int) > (b2 : Int) := by omega
        simp only [h0, h1, h2, decide_true, decide_false, Bool.and_self, Bool.and_true, Bool.true_and, Bool.false_and, Bool.and_false]
        clear h0 h1 h2
        go_enter Tryd.func120, Tryd.ntmps120
        go_wp2
        refine wp_loop_rounds 4 ?_
        rw [rounds_succ]
        go_wp2
        rw [rounds_succ]
        go_wp2
        rw [rounds_succ]
        go_wp2
        rw [rounds_succ]
        go_wp2
        go_ret
        exact ⟨rfl, by go_grown⟩
      · have g0 : ¬ (a0 : Int) > (b0 : Int) := by omega
        have g1 : ¬ (a1 : Int) > (b1 : Int) := by omega
        have g2 : (a2 : Int) > (b2 : Int) := by omega
        simp only [h0, h1, h2, decide_true, decide_false, Bool.and_self, Bool.and_true, Bool.true_and, Bool.false_and, Bool.and_false]
        clear h0 h1 h2
        go_enter Tryd.func120, Tryd.ntmps120
        go_wp2
        refine wp_loop_rounds 4 ?_
        rw [rounds_succ]
        go_wp2
        rw [rounds_succ]
        go_wp2
        rw [rounds_succ]
        go_wp2
        go_ret
        exact ⟨rfl, by go_grown⟩
    · have g0 : ¬ (a0 : Int) > (b0 : Int) := by omega
      have g1 : (a1 : Int) > (b1 : Int) := by omega
      simp only [h0, h1, decide_true, decide_false, Bool.and_self, Bool.and_true, Bool.true_and, Bool.false_and, Bool.and_false]
      clear h0 h1
      go_enter Tryd.func120, Tryd.ntmps120
      go_wp2
      refine wp_loop_rounds 4 ?_
      rw [rounds_succ]
      go_wp2
      rw [rounds_succ]
      go_wp2
      go_ret
      exact ⟨rfl, by go_grown⟩
  · have g0 : (a0 : Int) > (b0 : Int) := by omega
    simp only [h0, decide_true, decide_false, Bool.and_self, Bool.and_true, Bool.true_and, Bool.false_and, Bool.and_false]
    clear h0
    go_enter Tryd.func120, Tryd.ntmps120
    go_wp2
    refine wp_loop_rounds 4 ?_
    rw [rounds_succ]
    go_wp2
    go_ret
    exact ⟨rfl, by go_grown⟩

/-- Three cells side by side. -/
def set3 (cs : List Value) (off : Nat) (x y z : Value) : List Value := ((cs.set off x).set (off + 1) y).set (off + 2) z
theorem max_int (a b : Nat) : max (a : Int) (b : Int) = ((max a b : Nat) : Int) := by omega
set_option maxHeartbeats 2000000 in
set_option maxRecDepth 100000 in
theorem join_is {w : World} {g t off : Nat} {cs : List Value} (hB : Blk w g t cs) (x y : Nat → Nat) (h0 : cs[off]? = some (.int .i64 (x 0))) (h1 : cs[off + 1]? = some (.int .i64 (x 1))) (h2 : cs[off + 2]? = some (.int .i64 (x 2))) :
    Calls Tryd.prog 119 #[.pointer (some ⟨g, off, none⟩), ck y] w fun e w' => e = .returned (.tuple #[]) ∧ Blk w' g t (set3 cs off (.int .i64 (max (x 0) (y 0) : Nat)) (.int .i64 (max (x 1) (y 1) : Nat)) (.int .i64 (max (x 2) (y 2) : Nat))) ∧ w.grownBy w' (some g) := by
  unfold ck set3
  generalize x 0 = x0 at *
  generalize x 1 = x1 at *
  generalize x 2 = x2 at *
  generalize y 0 = y0
  generalize y 1 = y1
  generalize y 2 = y2
  have q0 := idxC_0 (.int .i64 y0) (.int .i64 y1) (.int .i64 y2)
  have q1 := idxC_1 (.int .i64 y0) (.int .i64 y1) (.int .i64 y2)
  have q2 := idxC_2 (.int .i64 y0) (.int .i64 y1) (.int .i64 y2)
  have hal : Below w.heap.size w (w.alloc (.cells #[.int .i64 y0, .int .i64 y1, .int .i64 y2] 120)) := by go_grown
  have pA := hB.below hal
  have ga : w.grownBy (w.alloc (.cells #[.int .i64 y0, .int .i64 y1, .int .i64 y2] 120)) (some g) := grown_new hal
  clear hal hB
  go_enter Tryd.func119, Tryd.ntmps119
  go_wp2
  generalize w.alloc (.cells #[.int .i64 y0, .int .i64 y1, .int .i64 y2] 120) = U0 at *
  refine wp_loop_rounds 4 ?_
  have c0 := pA.cell (off)
  rw [h0] at c0
  have f0 := pA.frozen (off)
  rw [rounds_succ]
  go_wp2_with fail
  go_region
  rw [show (if x0 < y0 then (y0 : Int) else (x0 : Int)) = ((max x0 y0 : Nat) : Int) by split <;> omega]
  have p0 : Blk ((U0.setCell ⟨g, off, none⟩ (.int .i64 (max x0 y0 : Nat))).drew) g t (cs.set (off) (.int .i64 (max x0 y0 : Nat))) := pA.set (off) _
  have g0 : w.grownBy ((U0.setCell ⟨g, off, none⟩ (.int .i64 (max x0 y0 : Nat))).drew) (some g) := grown_tr ga ⟨rfl, rfl, rfl, by simp, fun i _ hr => Below.heap_setCell U0 ⟨g, off, none⟩ _ i (fun e => hr (by rw [e]))⟩
  clear c0 f0 pA ga
  generalize (U0.setCell ⟨g, off, none⟩ (.int .i64 (max x0 y0 : Nat))).drew = U1 at *
  go_wp2_with fail
  have c1 := p0.cell (off + 1)
  rw [List.getElem?_set_ne (by omega), h1] at c1
  have f1 := p0.frozen (off + 1)
  rw [rounds_succ]
  go_wp2_with fail
  go_region
  rw [show (if x1 < y1 then (y1 : Int) else (x1 : Int)) = ((max x1 y1 : Nat) : Int) by split <;> omega]
  have p1 : Blk ((U1.setCell ⟨g, off + 1, none⟩ (.int .i64 (max x1 y1 : Nat))).drew) g t ((cs.set (off) (.int .i64 (max x0 y0 : Nat))).set (off + 1) (.int .i64 (max x1 y1 : Nat))) := p0.set (off + 1) _
  have g1 : w.grownBy ((U1.setCell ⟨g, off + 1, none⟩ (.int .i64 (max x1 y1 : Nat))).drew) (some g) := grown_tr g0 ⟨rfl, rfl, rfl, by simp, fun i _ hr => Below.heap_setCell U1 ⟨g, off + 1, none⟩ _ i (fun e => hr (by rw [e]))⟩
  clear c1 f1 p0 g0
  generalize (U1.setCell ⟨g, off + 1, none⟩ (.int .i64 (max x1 y1 : Nat))).drew = U2 at *
  go_wp2_with fail
  have c2 := p1.cell (off + 2)
  rw [List.getElem?_set_ne (by omega), List.getElem?_set_ne (by omega), h2] at c2
  have f2 := p1.frozen (off + 2)
  rw [rounds_succ]
  go_wp2_with fail
  go_region
  rw [show (if x2 < y2 then (y2 : Int) else (x2 : Int)) = ((max x2 y2 : Nat) : Int) by split <;> omega]
  have p2 : Blk ((U2.setCell ⟨g, off + 2, none⟩ (.int .i64 (max x2 y2 : Nat))).drew) g t (((cs.set (off) (.int .i64 (max x0 y0 : Nat))).set (off + 1) (.int .i64 (max x1 y1 : Nat))).set (off + 2) (.int .i64 (max x2 y2 : Nat))) := p1.set (off + 2) _
  have g2 : w.grownBy ((U2.setCell ⟨g, off + 2, none⟩ (.int .i64 (max x2 y2 : Nat))).drew) (some g) := grown_tr g1 ⟨rfl, rfl, rfl, by simp, fun i _ hr => Below.heap_setCell U2 ⟨g, off + 2, none⟩ _ i (fun e => hr (by rw [e]))⟩
  clear c2 f2 p1 g1
  generalize (U2.setCell ⟨g, off + 2, none⟩ (.int .i64 (max x2 y2 : Nat))).drew = U3 at *
  go_wp2_with fail
  rw [rounds_succ]
  go_wp2
  go_end0
  exact ⟨rfl, p2, g2⟩
end Go.Proofs.YtmhngodbnoonhaaDoor
