/-
  Joined: RpD, RpE, ClkI.
-/
import Derived.Test.YtdojjmkpelgcaaaDoorProg
import Derived.Deep.RegionHeld3
import Derived.KernelRfl
import Derived.Tactics
import Derived.WalkKit
import Derived.WalkSpells
import Derived.WalkLawsBesides
import Derived.RegionTactic
import Derived.BigQuiet
import Derived.Deep.QuietTactic
import Derived.Deep.Slices
import Derived.Deep.Strs
import Derived.Deep.Fields
import Derived.ChangeSame
import Derived.Handy
import Derived.OwnWalk
import Derived.ChangeSlices
import Derived.Lib.SmallJoins
import Derived.Shelf.Abstract
import Derived.Laws.BytesArg
import Derived.Deep.RegionLaw
import Derived.Laws.OwnMore
import Derived.Laws.CopyOwn
import Derived.Laws.Tables
import Derived.BigRegion
import Derived.Maps.AppendAt
import Derived.Stop.Asserts
import Derived.Recover
import Derived.IntWalk
import Derived.Deep.MidRow
import Derived.Test.YtdojjmkpelgcaaaDoorK01
import Derived.Test.YtdojjmkpelgcaaaDoorK02
import Derived.Test.YtdojjmkpelgcaaaDoorK04
import Derived.Test.YtdojjmkpelgcaaaDoorK07
import Derived.Test.YtdojjmkpelgcaaaDoorK08
import Derived.Test.YtdojjmkpelgcaaaDoorK09
import Derived.Test.YtdojjmkpelgcaaaDoorK10
import Derived.Test.YtdojjmkpelgcaaaDoorK11
import Derived.Test.YtdojjmkpelgcaaaDoorK12
import Derived.Test.YtdojjmkpelgcaaaDoorK16
import Derived.Test.YtdojjmkpelgcaaaDoorK20
import Derived.Test.YtdojjmkpelgcaaaDoorK21
import Derived.Test.YtdojjmkpelgcaaaDoorK22
import Derived.Test.YtdojjmkpelgcaaaDoorK23
import Derived.Test.YtdojjmkpelgcaaaDoorK25
import Derived.Test.YtdojjmkpelgcaaaDoorK31
import Derived.Test.YtdojjmkpelgcaaaDoorK32
import Derived.Test.YtdojjmkpelgcaaaDoorK37
import Derived.Test.YtdojjmkpelgcaaaDoorK39

/-
  A replay's run.
-/
namespace Go.Proofs.YtdojjmkpelgcaaaDoor
open Go.RowKit
set_option linter.unusedVariables false
set_option linter.unusedSimpArgs false

def ListAt (w : World) (B : Nat) (a : Option Addr) (n c : Nat) (ks : List Int) : Prop :=
  Ints .i64 w a n c ks ∧ ∀ b o, a = some ⟨b, o, none⟩ → 0 < n → b < B ∨ ∃ cur fz, w.heap[b]? = some (Obj.cells cur 3 fz)
theorem ListAt.kept {w w' : World} {B : Nat} {a : Option Addr} {n c : Nat} {ks : List Int} (h : ListAt w B a n c ks) (hb : Below B w w') (hk : RunKept w w') : ListAt w' B a n c ks := by
  obtain ⟨⟨h1, h2, h3, h4⟩, h5⟩ := h
  rcases Nat.eq_zero_or_pos n with hn | hn
  · exact ⟨⟨h1, h2, h3, .inl hn⟩, fun _ _ _ h0 => absurd hn (by omega)⟩
  rcases h4 with h4 | ⟨b, off, ha, hl, hc⟩
  · omega
  have e : w'.heap[b]? = w.heap[b]? := by
    rcases h5 b off ha hn with h6 | ⟨cur, fz, h6⟩
    · exact hb.block b h6
    · rw [hk b cur _ fz h6 (by decide) (by decide), h6]
  refine ⟨⟨h1, h2, h3, .inr ⟨b, off, ha, Nat.lt_of_lt_of_le hl hb.size, fun t ht => ?_⟩⟩, fun b' o' ha' h0 => ?_⟩
  · rw [← hc t ht]
    unfold World.cell?
    simp only
    rw [e]
  · rw [ha] at ha'
    cases ha'
    rcases h5 b off ha hn with h6 | ⟨cur, fz, h6⟩
    · exact .inl h6
    · exact .inr ⟨cur, fz, e.trans h6⟩
theorem ListAt.at {w : World} {B : Nat} {a : Option Addr} {n c : Nat} {ks : List Int} (h : ListAt w B a n c ks) {i : Nat} (hi : i < n) : ∃ b off, a = some ⟨b, off, none⟩ ∧ w.cell? ⟨b, off + i, none⟩ = some (.int .i64 (ks.getD i 0)) := by
  obtain ⟨⟨h1, h2, h3, h4⟩, h5⟩ := h
  rcases h4 with h4 | ⟨b, off, ha, hl, hc⟩
  · omega
  · exact ⟨b, off, ha, hc i hi⟩
theorem RunKept.set_new {w w' : World} {R : Nat} {v : Value} (h : RunKept w w') (hR : w.heap.size ≤ R) : RunKept w (w'.setCell ⟨R, 0, none⟩ v) := fun j cur e fz h0 h1 h2 => by
  have hj := (Array.getElem?_eq_some_iff.1 h0).1
  rw [Below.heap_setCell w' ⟨R, 0, none⟩ v j (by show j ≠ R; omega)]
  exact h j cur e fz h0 h1 h2

def RanTo (w : World) (g B : Nat) (cs : Sl × Sl × Sl) (m : V4) (fs : List I3) : Prop :=
  ∃ fv, Blk w g 133 (Rp.machR fv cs.1.val cs.2.1.val cs.2.2.val m) ∧ w.ownsRow B 167 3 fv fs.length (flat fs)
def OnRun (w0 w wr : World) (g B R : Nat) (cs : Sl × Sl × Sl) (rows : List (List I3)) (ks : List Int) (N n i : Nat) (fin : V4 × List I3 × Int) (m : V4) (fs : List I3) : Prop :=
  i ≤ n ∧ runI rows m fs (ks.drop i) = fin ∧ shapeOk m = true ∧ RanTo wr g B cs m fs ∧ Below B w0 wr ∧ Below B w wr ∧ RunKept w wr ∧ Blk wr R 3 [.int .i64 0] ∧ fs.length ≤ N + i
theorem runI_halt {rows : List (List I3)} {m : V4} {fs : List I3} {ks : List Int} {i : Nat} (hi : i < ks.length) (h : haltM rows m (ks.getD i 0) ≠ 0) : runI rows m fs (ks.drop i) = (m, fs, haltM rows m (ks.getD i 0)) := by
  have e : ks.drop i = ks.getD i 0 :: ks.drop (i + 1) := by rw [List.drop_eq_getElem_cons hi]; simp [List.getD, hi]
  rw [e]
  show (if haltM rows m (ks.getD i 0) = 0 then _ else _) = _
  rw [if_neg h]
theorem runI_go {rows : List (List I3)} {m : V4} {fs : List I3} {ks : List Int} {i : Nat} (hi : i < ks.length) (h : haltM rows m (ks.getD i 0) = 0) : runI rows m fs (ks.drop i) = runI rows (goM rows m (ks.getD i 0)).1 (fs ++ ownM rows m (ks.getD i 0)) (ks.drop (i + 1)) := by
  have e : ks.drop i = ks.getD i 0 :: ks.drop (i + 1) := by rw [List.drop_eq_getElem_cons hi]; simp [List.getD, hi]
  rw [e]
  show (if haltM rows m (ks.getD i 0) = 0 then _ else _) = _
  rw [if_pos h]

theorem rowsMach {w : World} {a : Option Addr} {cs : Sl × Sl × Sl} {rows : List (List I3)} {m : V4} {g : Nat} {fv : Value} (h : RowsAt w a cs rows) (hB : Blk w g 133 (Rp.machR fv cs.1.val cs.2.1.val cs.2.2.val m)) : Rp.MachAt fv w g cs rows m := by
  obtain ⟨b, off, _, _, hk⟩ := h
  exact ⟨hB, fun k h3 => (hk k h3).2⟩
def StepsTo (e : Ending) (w w' : World) (g B : Nat) (cs : Sl × Sl × Sl) (rows : List (List I3)) (m : V4) (fv : Value) (k : Int) : Prop :=
  (haltM rows m k ≠ 0 ∧ e = .returned (.iface 174 (.int .i64 (haltM rows m k))) ∧ Below w.heap.size w w') ∨
  (haltM rows m k = 0 ∧ e = .returned (.iface 167 (.agg #[.int .i64 (goM rows m k).2, .int .i64 k, .int .i64 (m.1.getD k.toNat 0)])) ∧ Blk w' g 133 (Rp.machR fv cs.1.val cs.2.1.val cs.2.2.val (goM rows m k).1) ∧ w.grownBy w' (some g) ∧ shapeOk (goM rows m k).1 = true)
theorem rstep_is {fv : Value} {w : World} {g B : Nat} {cs : Sl × Sl × Sl} {rows : List (List I3)} {m : V4} (h : Rp.MachAt fv w g cs rows m) (hp : progOk rows = true) (hs : shapeOk m = true) (k : Int) :
    Calls Tryd.prog 121 #[.pointer (some ⟨g, 0, none⟩), .int .i64 k] w fun e w' => StepsTo e w w' g B cs rows m fv k := by
  by_cases hk : 0 ≤ k ∧ k ≤ 2
  · obtain ⟨q, rfl⟩ : ∃ q : Nat, k = q := ⟨k.toNat, by omega⟩
    have hq : q < 3 := by omega
    cases hd : doneM rows m q
    · cases hw : waitM rows m q
      · have hz : haltM rows m (q : Int) = 0 := by
          unfold haltM
          rw [if_pos hk]
          unfold waitM at hw
          rw [Int.toNat_natCast]
          simp only [hd]
          unfold canM
          rw [hd] at hw ⊢
          simp at hw ⊢
          exact hw
        refine (rstep_go h hp hs hq hd hw).mono ?_
        rintro e w' ⟨he, hM, hg⟩
        refine .inr ⟨hz, by rw [he, Int.toNat_natCast], hM, hg, ?_⟩
        rw [goM_natR]
        exact shape_step hp hs hq hd
      · have hz : haltM rows m (q : Int) = 11 := by
          unfold haltM
          rw [if_pos hk]
          unfold waitM at hw
          rw [Int.toNat_natCast]
          simp only [hd]
          unfold canM
          rw [hd] at hw ⊢
          simp at hw ⊢
          simp [hw]
        refine (rstep_waits h hp hs hq hd hw).mono ?_
        rintro e w' ⟨he, hb⟩
        exact .inl ⟨by rw [hz]; decide, by rw [hz]; exact he, hb⟩
    · have hz : haltM rows m (q : Int) = 10 := by
        unfold haltM
        rw [if_pos hk, Int.toNat_natCast]
        simp [hd]
      refine (rstep_done h hq hd).mono ?_
      rintro e w' ⟨he, hb⟩
      exact .inl ⟨by rw [hz]; decide, by rw [hz]; exact he, hb⟩
  · have hz : haltM rows m k = 4 := by unfold haltM; rw [if_neg hk]
    have hi : inB k 0 2 = false := inB_false.2 (by omega)
    refine (rstep_range g k w hi).mono ?_
    rintro e w' ⟨he, rfl⟩
    exact .inl ⟨by rw [hz]; decide, by rw [hz]; exact he, Below.refl _ _⟩

theorem keep_is {fv : Value} {w : World} {g B : Nat} {cs : Sl × Sl × Sl} {m : V4} {fs : List I3} (hM : Blk w g 133 (Rp.machR fv cs.1.val cs.2.1.val cs.2.2.val m)) (hF : w.ownsRow B 167 3 fv fs.length (flat fs)) (hgB : B ≤ g) (hn : fs.length ≤ 1000000) (f k pc : Int) :
    Calls Tryd.prog 120 #[.pointer (some ⟨g, 0, none⟩), .iface 167 (.agg #[.int .i64 f, .int .i64 k, .int .i64 pc])] w fun e w' => e = .returned (.tuple #[]) ∧ RanTo w' g B cs m (fs ++ if f = 0 then [] else [(f, k, pc)]) ∧ Below B w w' ∧ RunKept w w' := by
  by_cases hf : f = 0
  · subst hf
    refine (keep_ok g k pc w).mono ?_
    rintro e w' ⟨he, hb⟩
    rw [if_pos rfl, List.append_nil]
    exact ⟨he, ⟨fv, hM.below hb, owns_below hF hb⟩, below_lowR hb (by have := hM.lt; omega), RunKept.of_below hb⟩
  · refine (keep_bug hM hF hgB hn hf).mono ?_
    rintro e w' ⟨he, fv', h1, h2, h3, h4⟩
    rw [if_neg hf]
    exact ⟨he, ⟨fv', h1, by simpa using h2⟩, h3, h4⟩
end Go.Proofs.YtdojjmkpelgcaaaDoor


/-
  A replay's run: what it comes to.
-/
namespace Go.Proofs.YtdojjmkpelgcaaaDoor
open Go.RowKit
set_option linter.unusedVariables false
set_option linter.unusedSimpArgs false

theorem bel_transR {B : Nat} {a b c : World} (h : Below B a b) (k : Below B b c) : Below B a c := ⟨k.os.trans h.os, k.tape.trans h.tape, k.output.trans h.output, Nat.le_trans h.size k.size, fun j hj => (k.block j hj).trans (h.block j hj)⟩
theorem ownM_len (rows : List (List I3)) (m : V4) (k : Int) : (ownM rows m k).length ≤ 1 := by unfold ownM; split <;> simp
set_option maxHeartbeats 2000000 in
set_option maxRecDepth 100000 in
theorem run_is {w0 w : World} {g : Nat} {a9 : Option Addr} {cs : Sl × Sl × Sl} {rows : List (List I3)} {m : V4} {fs : List I3} {la : Option Addr} {n c : Nat} {ks : List Int} (hR : RowsAt w0 a9 cs rows) (bw : Below w0.heap.size w0 w) (hg : w0.heap.size ≤ g) (hp : progOk rows = true) (hs : shapeOk m = true)
    (hM : RanTo w g w0.heap.size cs m fs) (hL : ListAt w w0.heap.size la n c ks) (hn : fs.length + n ≤ 500000) :
    Calls Tryd.prog 89 #[.pointer (some ⟨g, 0, none⟩), .slice la n c] w fun e w' => e = .returned (.int .i64 (runI rows m fs ks).2.2) ∧ RanTo w' g w0.heap.size cs (runI rows m fs ks).1 (runI rows m fs ks).2.1 ∧ Below w0.heap.size w0 w' ∧ RunKept w w' := by
  have hmf : ∀ (fn : Fn) (first cap : Array Value) (w : World), (Instr.makeFunc fn first cap).run Tryd.prog w = .ok (.func fn first cap) w := fun _ _ _ _ => rfl
  obtain ⟨fin, hfin⟩ : ∃ fin, fin = runI rows m fs ks := ⟨_, rfl⟩
  rw [← hfin]
  have hll := hL.1.1
  have hsz0 := bw.size
  have hgl : g < w.heap.size := by obtain ⟨fv, h1, _⟩ := hM; exact h1.lt
  have ha : Below w.heap.size w (w.alloc (.cells #[.int .i64 0] 3)) := by go_grown
  have st : OnRun w0 w (w.alloc (.cells #[.int .i64 0] 3)) g w0.heap.size w.heap.size cs rows ks fs.length n 0 fin m fs := by
    obtain ⟨fv, h1, h2⟩ := hM
    exact ⟨by omega, by rw [hfin]; rfl, hs, ⟨fv, h1.below ha, owns_below h2 ha⟩, below_thenR bw ha hsz0, below_lowR ha hsz0, RunKept.of_below ha, blkAt _ _ _ rfl, by omega⟩
  clear hfin hs hM ha
  go_enter_defers Tryd.func89, Tryd.ntmps89
  go_wp2_with fail
  generalize w.alloc (.cells #[.int .i64 0] 3) = W1 at *
  go_loopw [10] (fun si wr => ∃ (i : Nat) (m' : V4) (fs' : List I3), si = .int .i64 i ∧ OnRun w0 w wr g w0.heap.size w.heap.size cs rows ks fs.length n i fin m' fs') (fun si _ => n - (intOf si).toNat)
  case atStart => exact ⟨0, m, fs, rfl, st⟩
  case round =>
    clear st
    obtain ⟨i, m', fs', rfl, hi, hr, hs, ⟨fv, hM, hF⟩, bw0, bw1, kp, pR, hf9⟩ := hrel
    by_cases hlt : i < n
    · have hLr := hL.kept bw1 kp
      obtain ⟨b, off, rfl, hc⟩ := hLr.at hlt
      have kS := rstep_is (B := w0.heap.size) (rowsMach (hR.below bw0) hM) hp hs (ks.getD i 0)
      have HH : Hid (haltM rows m' (ks.getD i 0) ≠ 0 → fin = (m', fs', haltM rows m' (ks.getD i 0))) := fun h0 => hr.symm.trans (runI_halt (by omega) h0)
      have HG : Hid (haltM rows m' (ks.getD i 0) = 0 → runI rows (goM rows m' (ks.getD i 0)).1 (fs' ++ ownM rows m' (ks.getD i 0)) (ks.drop (i + 1)) = fin) := fun h0 => (runI_go (by omega) h0).symm.trans hr
      have hlt' : (i : Int) < (n : Int) := by omega
      have hi0 : (0 : Int) ≤ (i : Int) := by omega
      have hRg : g ≠ w.heap.size := by omega
      generalize ks.getD i 0 = kk at *
      clear hr hLr hs
      go_wp2_with fail
      refine kS.mono ?_
      rintro e w1 (⟨hz, rfl, hb⟩ | ⟨hz, rfl, hM1, g1, hs1⟩)
      · have hfe := HH.out hz
        clear HH HG kS
        go_wp2_with fail
        refine (keep_halt g _ w1).mono ?_
        rintro e w2 ⟨rfl, hb2⟩
        replace hb := bel_trans hb hb2
        clear hb2
        replace pR := pR.below hb
        go_wp2_with fail
        have cR := pR.cell 0
        have fR := pR.frozen 0
        simp only [List.getElem?_cons_zero] at cR
        refine leaves_cons (f := 118) (args := #[.pointer (some ⟨w.heap.size, 0, none⟩)]) (by simp) (by simp [go_sem]) ?_
        refine (catch_halt ⟨w.heap.size, 0, none⟩ _ (haltM rows m' kk) [] _ cR fR).mono ?_
        rintro e u' w3 ⟨rfl, rfl, rfl⟩
        have cS : (w2.setCell ⟨w.heap.size, 0, none⟩ (.int .i64 (haltM rows m' kk))).cell? ⟨w.heap.size, 0, none⟩ = some (.int .i64 (haltM rows m' kk)) := by simpa using (pR.set 0 (.int .i64 (haltM rows m' kk))).cell 0
        have gS := grown_cell w2 w.heap.size 0 (.int .i64 (haltM rows m' kk))
        have hM3 := (hM.below hb).off ⟨w.heap.size, 0, none⟩ (.int .i64 (haltM rows m' kk)) hRg
        have hF2 := owns_below hF hb
        have hF3 := hF2.kept gS (.inr (own_ne_blkR hF2 pR (by decide)).symm)
        have bz := (below_thenR bw0 hb bw0.size).grown gS (Nat.le_trans bw0.size hb.size) (fun j hj => by cases hj; exact hsz0)
        have kz := (kp.trans (RunKept.of_below hb)).set_new (v := .int .i64 (haltM rows m' kk)) (Nat.le_refl w.heap.size)
        show Leaves _ _ _ _ [] .returning _
        refine ⟨.int .i64 (haltM rows m' kk), ?_, ?_⟩
        · simp [results, Tryd.results89, go_sem, cS]
        · rw [hfe]
          exact ⟨rfl, ⟨fv, hM3, hF3⟩, bz, kz⟩
      · have hfe := HG.out hz
        clear HH HG kS hc hlt' hi0
        have hF1 := hF.kept g1 (.inr (own_ne_blkR hF hM (by decide)).symm)
        have hn1 : fs'.length ≤ 1000000 := by omega
        have bA := bw0.grown g1 bw0.size (fun j hj => by cases hj; exact hg)
        have bB := bw1.grown g1 (Nat.le_trans hsz0 bw1.size) (fun j hj => by cases hj; exact hg)
        have kA := kp.trans (RunKept.of_blk hM g1)
        have pR1 := pR.kept g1 (fun e => hRg (by cases e; rfl))
        go_wp2_with fail
        refine (keep_is hM1 hF1 hg hn1 _ _ _).mono ?_
        rintro e w2 ⟨rfl, hM2, hb2, kp2⟩
        have pR2 := kp2.blk pR1 (by decide) (by decide)
        have st2 : OnRun w0 w w2 g w0.heap.size w.heap.size cs rows ks fs.length n (i + 1) fin (goM rows m' kk).1 (fs' ++ ownM rows m' kk) := ⟨by omega, hfe, hs1, hM2, bel_transR bA hb2, bel_transR bB hb2, kA.trans kp2, pR2, by have := ownM_len rows m' kk; rw [List.length_append]; omega⟩
        clear hM2 hb2 kp2 pR1 pR2 kA bA bB hF1 hM1 g1 hs1 hz hfe hM hF bw0 bw1 kp pR
        go_wp2
        go_roundw
        case rel => exact ⟨i + 1, _, _, by go_num, st2⟩
        case measure => simp [intOf]; omega
    · obtain rfl : i = n := by omega
      have hfe : fin = (m', fs', 0) := by rw [← hr, List.drop_of_length_le (by omega)]; rfl
      clear hr
      have cR := pR.cell 0
      have fR := pR.frozen 0
      simp only [List.getElem?_cons_zero] at cR
      go_wp2
      have cS : (wr.setCell ⟨w.heap.size, 0, none⟩ (.int .i64 0)).cell? ⟨w.heap.size, 0, none⟩ = some (.int .i64 0) := by simpa using (pR.set 0 (.int .i64 0)).cell 0
      have gS := grown_cell wr w.heap.size 0 (.int .i64 0)
      have hRg : g ≠ w.heap.size := by omega
      have hM3 := hM.off ⟨w.heap.size, 0, none⟩ (.int .i64 0) hRg
      have hF3 := hF.kept gS (.inr (own_ne_blkR hF pR (by decide)).symm)
      have bz := bw0.grown gS bw0.size (fun j hj => by cases hj; exact hsz0)
      have kz := kp.set_new (v := .int .i64 0) (Nat.le_refl w.heap.size)
      refine leaves_cons (f := 118) (args := #[.pointer (some ⟨w.heap.size, 0, none⟩)]) (by simp) (by simp [go_sem]) ?_
      refine (catch_idle ⟨w.heap.size, 0, none⟩ _).mono ?_
      rintro e u' w3 ⟨rfl, rfl, rfl⟩
      show Leaves _ _ _ _ [] .returning _
      refine ⟨.int .i64 0, ?_, ?_⟩
      · simp [results, Tryd.results89, go_sem, cS]
      · rw [hfe]
        exact ⟨rfl, ⟨fv, hM3, hF3⟩, bz, kz⟩
end Go.Proofs.YtdojjmkpelgcaaaDoor


/-
  The program's clocksOf.
-/
namespace Go.Proofs.YtdojjmkpelgcaaaDoor
open Go.RowKit
set_option linter.unusedVariables false
set_option linter.unusedSimpArgs false

theorem info_clock : (Tryd.prog.info? 140).map (fun i => (i.zero, i.size, i.bytes)) = some (some (.agg #[.int .i64 0, .int .i64 0, .int .i64 0]), 3, 24) := by kernel_rfl
def tabC (n : Nat) (c : Nat → Nat → Nat) : List Value := tab (n * 3) fun j => .int .i64 (c (j / 3) (j % 3) : Nat)
theorem at_three {n i t : Nat} (hi : i < n) (ht : t < 3) : i * 3 + t < n * 3 ∧ (i * 3 + t) / 3 = i ∧ (i * 3 + t) % 3 = t := by omega
theorem tabC_get {n i t : Nat} (c : Nat → Nat → Nat) (hi : i < n) (ht : t < 3) : (tabC n c)[i * 3 + t]? = some (.int .i64 (c i t : Nat)) := by
  obtain ⟨h1, h2, h3⟩ := at_three hi ht
  unfold tabC
  rw [tab_get _ h1, h2, h3]
theorem tabC_congr {n : Nat} {c d : Nat → Nat → Nat} (h : ∀ i t, i < n → t < 3 → c i t = d i t) : tabC n c = tabC n d := by
  refine tab_congr (fun j hj => ?_)
  rw [h (j / 3) (j % 3) (by omega) (by omega)]
theorem tabC_set {n i t : Nat} (c : Nat → Nat → Nat) (v : Nat) (hi : i < n) (ht : t < 3) : (tabC n c).set (i * 3 + t) (.int .i64 (v : Nat)) = tabC n (fun k u => if k = i ∧ u = t then v else c k u) := by
  unfold tabC
  rw [tab_set]
  refine tab_congr (fun j hj => ?_)
  by_cases e : j = i * 3 + t
  · subst e
    obtain ⟨_, h2, h3⟩ := at_three hi ht
    rw [if_pos rfl, h2, h3]
    simp only [and_self, if_true]
  · rw [if_neg e]
    have e9 : ¬ (j / 3 = i ∧ j % 3 = t) := by omega
    simp only [if_neg e9]
theorem tabC_set3 {n i : Nat} (c : Nat → Nat → Nat) (f : Nat → Nat) (hi : i < n) : set3 (tabC n c) (i * 3) (.int .i64 (f 0 : Nat)) (.int .i64 (f 1 : Nat)) (.int .i64 (f 2 : Nat)) = tabC n (fun k u => if k = i then f u else c k u) := by
  unfold set3
  have e0 := tabC_set c (f 0) hi (show 0 < 3 by omega)
  rw [Nat.add_zero] at e0
  rw [e0, tabC_set _ (f 1) hi (by omega), tabC_set _ (f 2) hi (by omega)]
  refine tabC_congr (fun k u hk hu => ?_)
  by_cases e : k = i
  · subst e
    match u, hu with
    | 0, _ => simp
    | 1, _ => simp
    | 2, _ => simp
  · simp [e]
theorem clkF_far (D : Nat → Nat → Bool) (th : Nat → Nat) (t : Nat) : ∀ n j, n ≤ j → clkF D th n j t = 0
  | 0, _, _ => rfl
  | n + 1, j, h => by
    show (if j = n then _ else _) = _
    rw [if_neg (by omega)]
    exact clkF_far D th t n j (by omega)
theorem joinN_bound {D : Nat → Nat → Bool} {k t B : Nat} {prev : Nat → Nat → Nat} (h : ∀ j, prev j t ≤ B) : ∀ n, joinN D k prev t n ≤ B
  | 0 => Nat.zero_le _
  | n + 1 => by
    have ih := joinN_bound (D := D) (k := k) h n
    show (if D n k then Nat.max _ _ else _) ≤ B
    split
    · exact Nat.max_le.2 ⟨ih, h n⟩
    · exact ih
theorem clkF_bound (D : Nat → Nat → Bool) (th : Nat → Nat) (t : Nat) : ∀ n j, clkF D th n j t ≤ n
  | 0, _ => Nat.le_refl _
  | n + 1, j => by
    show (if j = n then _ else _) ≤ _
    have ih := clkF_bound D th t n
    split
    · have := joinN_bound (D := D) (k := n) (prev := clkF D th n) ih n
      split <;> omega
    · have := ih j; omega
def ClkGot (e : Ending) (w w' : World) (n : Nat) (c : Nat → Nat → Nat) : Prop := ∃ g, e = .returned (.slice (some ⟨g, 0, none⟩) n n) ∧ Blk w' g 140 (tabC n c) ∧ w.heap.size ≤ g ∧ Below w.heap.size w w'
theorem joinN_next (D : Nat → Nat → Bool) (k : Nat) (prev : Nat → Nat → Nat) (t n : Nat) : joinN D k prev t (n + 1) = if D n k then Nat.max (joinN D k prev t n) (prev n t) else joinN D k prev t n := rfl
theorem clkF_next (D : Nat → Nat → Bool) (th : Nat → Nat) (n j t : Nat) : clkF D th (n + 1) j t = if j = n then joinN D n (clkF D th n) t n + (if t = th n then 1 else 0) else clkF D th n j t := rfl
def onC (D : Nat → Nat → Bool) (th : Nat → Nat) (i j k t : Nat) : Nat := if k = i then joinN D i (clkF D th i) t j else clkF D th i k t
theorem ev_range {w0 w : World} {a : Option Addr} {n : Nat} {es : List I4} (h : Evs w0 a n es) (hb : Below w0.heap.size w0 w) {k : Nat} (hk : k < n) : ∃ ge, a = some ⟨ge, 0, none⟩ ∧ ge < w0.heap.size ∧ w.rangeAt ge (k * 4) [.int .i64 (evAt es k).1, .int .i64 (evAt es k).2.1, .int .i64 (evAt es k).2.2.1, .int .i64 (evAt es k).2.2.2] := by
  obtain ⟨ge, e, hg, c0, c1, c2, c3⟩ := ev_cells h hb hk
  refine ⟨ge, e, hg, fun j v hj => ?_⟩
  match j, hj with
  | 0, hj => simp at hj; rw [← hj]; exact c0
  | 1, hj => simp at hj; rw [← hj]; exact c1
  | 2, hj => simp at hj; rw [← hj]; exact c2
  | 3, hj => simp at hj; rw [← hj]; exact c3
  | j + 4, hj => simp at hj

set_option maxHeartbeats 2000000 in
set_option maxRecDepth 100000 in
theorem clocksOf_is (a : Option Addr) (n c : Nat) (es : List I4) (w : World) (h : Evs w a n es) (hn : n ≤ 4096) (hnc : n ≤ c) (hI : inThree es) :
    Calls Tryd.prog 90 #[.slice a n c] w fun e w' => ClkGot e w w' n (clk (depE es) (thE es)) := by
  obtain ⟨i0, hi9, hz0, hz1, hz2⟩ := info_parts info_clock
  unfold ClkGot
  obtain ⟨D, hD⟩ : ∃ D, D = depE es := ⟨_, rfl⟩
  obtain ⟨th, hT⟩ : ∃ th, th = thE es := ⟨_, rfl⟩
  rw [← hD, ← hT]
  have HD : Hid (D = depE es ∧ th = thE es) := ⟨hD, hT⟩
  clear hD hT
  go_enter Tryd.func90, Tryd.ntmps90
  go_wp2_with (at_make; refine wpList_make_full _ rfl _ _ 137 rfl w.heap.size 140 i0 (.agg #[.int .i64 0, .int .i64 0, .int .i64 0]) 3 Tryd.underlying137 hi9 hz0 hz1 _ _ _ _ n rfl rfl rfl rfl ?b2 ?b3 ?b4 ?_)
  case b2 => rw [hz2]; omega
  case b3 => unfold maxLen; omega
  case b4 => exact Nat.le_refl _
  intro w1 hown hgrow
  rw [made_tab3] at hown
  have bw : Below w.heap.size w w1 := ⟨hgrow.os, hgrow.tape, hgrow.output, hgrow.size, fun k hk => hgrow.block k hk (by simp)⟩
  have pT : Hid (Blk w1 w.heap.size 140 (tabC n (clkF D th 0))) := (blk_of_full hown).1
  clear hown hgrow
  obtain ⟨g, hg⟩ : ∃ g, g = w.heap.size := ⟨_, rfl⟩
  have hgw : w.heap.size ≤ g := by omega
  rw [← hg] at pT ⊢
  clear hg
  go_wp2_with fail
  go_loopw [13] (fun sk wr => ∃ i : Nat, i ≤ n ∧ sk = .int .i64 i ∧ Hid (Blk wr g 140 (tabC n (clkF D th i))) ∧ Below w.heap.size w wr) (fun sk _ => n - (intOf sk).toNat)
  case atStart => exact ⟨0, by omega, rfl, pT, bw⟩
  case round =>
    clear pT bw
    obtain ⟨i, hi, rfl, pT, bw⟩ := hrel
    by_cases hin : i < n
    · have hin' : (i : Int) < (n : Int) := by omega
      have hi0 : (0 : Int) ≤ (i : Int) := by omega
      obtain ⟨ge, rfl, hgl, hrg⟩ := ev_range h bw hin
      have hDi : ∀ j, D j i = depM (evAt es j) (evAt es i) := fun j => by rw [HD.out.1]; rfl
      have hti : (th i : Int) = (evAt es i).1 := by rw [HD.out.2]; exact thE_int hI i
      have ht3 : th i < 3 := by rw [HD.out.2]; exact thE_three hI i
      generalize evAt es i = x at hrg hDi hti
      obtain ⟨x0, x1, x2, x3⟩ := x
      simp only at hrg hti
      have pN := Blk.new wr 33 [.int .i64 0, .int .i64 0, .int .i64 0, .int .i64 0]
      have ha : Below wr.heap.size wr (wr.alloc (.cells #[.int .i64 0, .int .i64 0, .int .i64 0, .int .i64 0] 33)) := by go_grown
      go_wp2_with (first | refine wpList_load_mid rfl 33 _ rfl ge (i * 4) rfl [.int .i64 x0, .int .i64 x1, .int .i64 x2, .int .i64 x3] _ hrg Tryd.underlying33 rfl (by kernel_rfl) ?_ | refine wpList_store_blk rfl 33 _ _ rfl wr.heap.size [.int .i64 x0, .int .i64 x1, .int .i64 x2, .int .i64 x3] rfl rfl pN (by kernel_rfl) rfl rfl ?_)
      intro W pX g1
      have hgr := pT.out.lt
      have pT1 : Hid (Blk W g 140 (tabC n (onC D th i 0))) := by
        have e : tabC n (onC D th i 0) = tabC n (clkF D th i) := tabC_congr (fun k t _ _ => by
          unfold onC
          split
          · rename_i e; subst e; rw [clkF_far D th t k k (Nat.le_refl _)]; rfl
          · rfl)
        unfold Hid
        rw [e]
        exact (pT.out.below ha).kept g1 (by simp; omega)
      have bw1 := (bel_trans bw ha).grown g1 (Nat.le_trans bw.size ha.size) (fun k e => by cases e; exact bw.size)
      have hgX : wr.heap.size < W.heap.size := pX.out.lt
      have hgg : g < wr.heap.size := hgr
      have hwg := bw.size
      clear pN ha g1 hrg pT bw hgr
      generalize wr.heap.size = gX at *
      have hic : i ≤ c := by omega
      have hc0 : ¬ c = 0 := by omega
      go_wp2_with fail
      go_loopw [22] (fun sj wr => ∃ j : Nat, j ≤ i ∧ sj = .int .i64 j ∧ Hid (Blk wr g 140 (tabC n (onC D th i j))) ∧ Hid (Blk wr gX 33 [.int .i64 x0, .int .i64 x1, .int .i64 x2, .int .i64 x3]) ∧ Below w.heap.size w wr) (fun sj _ => i - (intOf sj).toNat)
      case atStart => exact ⟨0, by omega, rfl, pT1, pX, bw1⟩
      case round =>
        clear pT1 bw1 pX hgX
        obtain ⟨j, hj, rfl, pT, pX, bw⟩ := hrel
        by_cases hji : j < i
        · have hji' : (j : Int) < (i : Int) := by omega
          have hj0 : (0 : Int) ≤ (j : Int) := by omega
          have hjn' : (j : Int) < (n : Int) := by omega
          obtain ⟨ge', hge', _, hrg⟩ := ev_range h bw (show j < n by omega)
          cases hge'
          have hDj := hDi j
          generalize evAt es j = y at hrg hDj
          obtain ⟨y0, y1, y2, y3⟩ := y
          simp only at hrg
          have pN := Blk.new wr 33 [.int .i64 0, .int .i64 0, .int .i64 0, .int .i64 0]
          have ha : Below wr.heap.size wr (wr.alloc (.cells #[.int .i64 0, .int .i64 0, .int .i64 0, .int .i64 0] 33)) := by go_grown
          go_wp2_with (first | refine wpList_load_mid rfl 33 _ rfl ge (j * 4) rfl [.int .i64 y0, .int .i64 y1, .int .i64 y2, .int .i64 y3] _ hrg Tryd.underlying33 rfl (by kernel_rfl) ?_ | refine wpList_store_blk rfl 33 _ _ rfl wr.heap.size [.int .i64 y0, .int .i64 y1, .int .i64 y2, .int .i64 y3] rfl rfl pN (by kernel_rfl) rfl rfl ?_)
          intro W pY g1
          have hgr := pT.out.lt
          have hxr := pX.out.lt
          have pT1 : Hid (Blk W g 140 (tabC n (onC D th i j))) := (pT.out.below ha).kept g1 (by simp; omega)
          have pX1 := (pX.out.below ha).kept g1 (by simp; omega)
          have bw1 := (bel_trans bw ha).grown g1 (Nat.le_trans bw.size ha.size) (fun k e => by cases e; exact bw.size)
          have pY1 := pY.out
          clear pN ha g1 hrg pT bw pX pY hgr hxr
          generalize wr.heap.size = gY at *
          go_wp2_with (first | refine wpList_load_blk rfl 33 _ rfl gY rfl pY1 _ Tryd.underlying33 rfl (by kernel_rfl) ?_ | refine wpList_load_blk rfl 33 _ rfl gX rfl pX1 _ Tryd.underlying33 rfl (by kernel_rfl) ?_)
          refine (implDepends_is (y0, y1, y2, y3) (x0, x1, x2, x3) _).mono ?_
          rintro e w2 ⟨rfl, hb⟩
          rw [← hDj]
          have pT2 : Hid (Blk w2 g 140 (tabC n (onC D th i j))) := pT1.out.below hb
          have pX2 : Hid (Blk w2 gX 33 [.int .i64 x0, .int .i64 x1, .int .i64 x2, .int .i64 x3]) := pX1.below hb
          have bw2 := bel_trans bw1 hb
          clear pT1 pX1 pY1 hb bw1 hDj
          cases hd : D j i
          · have pT3 : Hid (Blk w2 g 140 (tabC n (onC D th i (j + 1)))) := by
              have e : tabC n (onC D th i (j + 1)) = tabC n (onC D th i j) := tabC_congr (fun k t _ _ => by
                unfold onC
                rw [joinN_next, hd]
                rfl)
              unfold Hid
              rw [e]
              exact pT2.out
            clear pT2 hd
            go_wp2
            go_roundw
            case rel => exact ⟨j + 1, by omega, by go_num, pT3, pX2, bw2⟩
            case measure => simp [intOf]; omega
          · have c0 := (pT2.out.cell (j * 3)).trans (tabC_get (t := 0) (onC D th i j) (show j < n by omega) (by omega))
            have c1 := (pT2.out.cell (j * 3 + 1)).trans (tabC_get (t := 1) (onC D th i j) (show j < n by omega) (by omega))
            have c2 := (pT2.out.cell (j * 3 + 2)).trans (tabC_get (t := 2) (onC D th i j) (show j < n by omega) (by omega))
            have kJ := join_is (w := w2.drew) (off := i * 3) pT2.out (onC D th i j i) (onC D th i j j) (tabC_get (t := 0) _ hin (by omega)) (tabC_get (t := 1) _ hin (by omega)) (tabC_get (t := 2) _ hin (by omega))
            rw [tabC_set3 (onC D th i j) (fun t => max (onC D th i j i t) (onC D th i j j t)) hin] at kJ
            have eJ : tabC n (fun k u => if k = i then max (onC D th i j i u) (onC D th i j j u) else onC D th i j k u) = tabC n (onC D th i (j + 1)) := tabC_congr (fun k t _ _ => by
              unfold onC
              rw [joinN_next, hd]
              have ne : ¬ j = i := by omega
              by_cases e : k = i
              · simp only [e, if_true, if_neg ne]
              · simp only [if_neg e])
            rw [eJ] at kJ
            unfold ck at kJ
            clear eJ
            have kJ2 := kJ.mono (R' := fun e w' => e = .returned (.tuple #[]) ∧ Blk w' g 140 (tabC n (onC D th i (j + 1))) ∧ w2.drew.grownBy w' (some g) ∧ w'.cell? ⟨g, j * 3, none⟩ = some (.int .i64 (onC D th i j j 0 : Nat)) ∧ w'.cell? ⟨g, j * 3 + 1, none⟩ = some (.int .i64 (onC D th i j j 1 : Nat)) ∧ w'.cell? ⟨g, j * 3 + 2, none⟩ = some (.int .i64 (onC D th i j j 2 : Nat))) (by
              rintro e w' ⟨h1, h2, h3⟩
              have eZ : ∀ t, onC D th i (j + 1) j t = onC D th i j j t := fun t => by
                unfold onC
                rw [if_neg (show ¬ j = i by omega), if_neg (show ¬ j = i by omega)]
              have d0 := (h2.cell (j * 3)).trans (tabC_get (t := 0) _ (show j < n by omega) (by omega))
              have d1 := (h2.cell (j * 3 + 1)).trans (tabC_get (t := 1) _ (show j < n by omega) (by omega))
              have d2 := (h2.cell (j * 3 + 2)).trans (tabC_get (t := 2) _ (show j < n by omega) (by omega))
              rw [eZ] at d0 d1 d2
              exact ⟨h1, h2, h3, d0, d1, d2⟩)
            clear kJ
            generalize onC D th i j j 0 = z0 at *
            generalize onC D th i j j 1 = z1 at *
            generalize onC D th i j j 2 = z2 at *
            clear hd
            go_wp2_with fail
            go_region_held3 (fun w' => w'.cell? ⟨g, j * 3, none⟩ = some (.int .i64 z0) ∧ w'.cell? ⟨g, j * 3 + 1, none⟩ = some (.int .i64 z1) ∧ w'.cell? ⟨g, j * 3 + 2, none⟩ = some (.int .i64 z2)) (first | (exact ⟨c0, c1, c2⟩) | (exact ⟨d0, d1, d2⟩) | go_keep)
              (first | (go_at_call 122; refine kJ2.mono ?_; rintro e w3 ⟨rfl, pJ, gJ, d0, d1, d2⟩))
            clear kJ2 c0 c1 c2 d0 d1 d2
            have pX3 : Hid (Blk w3 gX 33 [.int .i64 x0, .int .i64 x1, .int .i64 x2, .int .i64 x3]) := pX2.out.drew.kept gJ (by simp; omega)
            have bw3 : Below w.heap.size w w3 := (bel_trans bw2 (by go_grown)).grown gJ bw2.size (fun k e => by cases e; exact hgw)
            have pT3 : Hid (Blk w3 g 140 (tabC n (onC D th i (j + 1)))) := pJ
            clear pX2 bw2 pT2 gJ pJ
            go_wp2
            go_roundw
            case rel => exact ⟨j + 1, by omega, by go_num, pT3, pX3, bw3⟩
            case measure => simp [intOf]; omega
        · obtain rfl : j = i := by omega
          subst hti
          clear hDi hic hc0
          obtain ⟨t, ht⟩ : ∃ t, t = th j := ⟨_, rfl⟩
          have HTt : Hid (t = th j) := ht
          rw [← ht] at ht3 pX
          clear ht
          have cX := pX.out.cell 0
          simp only [List.getElem?_cons_zero] at cX
          have c0 := (pT.out.cell (j * 3 + t)).trans (tabC_get _ hin ht3)
          have f0 := pT.out.frozen (j * 3 + t)
          have eV : onC D th j j j t = joinN D j (clkF D th j) t j := by unfold onC; rw [if_pos rfl]
          rw [eV] at c0
          have hvb := joinN_bound (D := D) (k := j) (prev := clkF D th j) (t := t) (fun q => clkF_bound D th t j q) j
          have pT2 := pT.out.set (j * 3 + t) (.int .i64 (joinN D j (clkF D th j) t j + 1 : Nat))
          rw [tabC_set _ _ hin ht3] at pT2
          have e2 : tabC n (fun k u => if k = j ∧ u = t then joinN D j (clkF D th j) t j + 1 else onC D th j j k u) = tabC n (clkF D th (j + 1)) := tabC_congr (fun k u _ _ => by
            rw [clkF_next]
            unfold onC
            by_cases e : k = j
            · simp only [e, true_and, if_true]
              by_cases e' : u = t
              · subst e'
                rw [if_pos rfl, if_pos HTt.out]
              · rw [if_neg e', if_neg (fun q => e' (q.trans HTt.out.symm)), Nat.add_zero]
            · simp only [e, false_and, if_false])
          rw [e2] at pT2
          clear e2 eV pT
          generalize joinN D j (clkF D th j) t j = v at *
          have hw9 : IntKind.i64.wrap ((v : Int) + 1) = ((v + 1 : Nat) : Int) := by
            rw [IntWalk.i64_in _ ⟨by omega, by omega⟩]
            omega
          have ht9 : (t : Int) < 3 := by omega
          have ht8 : (0 : Int) ≤ (t : Int) := by omega
          clear pX
          go_wp2_with fail
          go_region
          have pT3 : Hid (Blk ((wr.setCell ⟨g, j * 3 + t, none⟩ (.int .i64 (v + 1 : Nat))).drew) g 140 (tabC n (clkF D th (j + 1)))) := pT2
          have bw3 : Below w.heap.size w ((wr.setCell ⟨g, j * 3 + t, none⟩ (.int .i64 (v + 1 : Nat))).drew) := bel_trans (bw.setCell hgw _) (by go_grown)
          clear pT2 bw hw9 c0 f0 cX
          go_wp2
          go_roundw
          case rel => exact ⟨j + 1, by omega, by go_num, pT3, bw3⟩
          case measure => simp [intOf]; omega
    · obtain rfl : i = n := by omega
      have pT2 : Blk wr g 140 (tabC i (clk D th)) := by
        have e : tabC i (clk D th) = tabC i (clkF D th i) := tabC_congr (fun k t hk _ => (clkF_clk D th k t i hk).symm)
        rw [e]
        exact pT.out
      clear pT
      go_wp2
      go_ret
      exact ⟨g, rfl, pT2, hgw, bw⟩
end Go.Proofs.YtdojjmkpelgcaaaDoor

