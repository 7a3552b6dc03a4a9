/-
  FnExactEventsOf, part 43 of 50 (EvC, EvM).
-/
import Derived.Test.YtgjmangbigibbaaDoorJ30
import Derived.Test.YtgjmangbigibbaaDoorJ37
import Derived.Test.YtgjmangbigibbaaDoorJ42
import Derived.Deep.MidRow
import Derived.Test.YtgjmangbigibbaaDoorJ02
import Derived.Deep.RegionHeld3

/-
  The program's EventsOf.
-/
namespace Go.Proofs.YtgjmangbigibbaaDoor
open Go.RowKit
set_option linter.unusedVariables false
set_option linter.unusedSimpArgs false

/-- Events' cells in a row. -/
def flat4 : List I4 → List Value
  | [] => []
  | x :: xs => [.int .i64 x.1, .int .i64 x.2.1, .int .i64 x.2.2.1, .int .i64 x.2.2.2] ++ flat4 xs
theorem flat4_snoc (es : List I4) (x : I4) : flat4 (es ++ [x]) = flat4 es ++ [.int .i64 x.1, .int .i64 x.2.1, .int .i64 x.2.2.1, .int .i64 x.2.2.2] := by
  induction es with
  | nil => rfl
  | cons y ys ih => simp only [List.cons_append, flat4, ih, List.append_assoc]
/-- The events of a schedule. -/
def evsM (rows : List (List I3)) : V4 → List Int → List I4
  | _, [] => []
  | m, k :: ks => eventM rows m k.toNat :: evsM rows (goM rows m k).1 ks
/-- What EventsOf tells, and its code. -/
def evE (rows : List (List I3)) (ks : List Int) : List I4 := if 4096 < ks.length then [] else if progOk rows then (if (runI rows zeroV [] ks).2.2 = 0 then evsM rows zeroV ks else []) else []
def evK (rows : List (List I3)) (ks : List Int) : Int := if 4096 < ks.length then 2 else if progOk rows then (runI rows zeroV [] ks).2.2 else 1
def EvGot (e : Ending) (w : World) (B : Nat) (es : List I4) (c : Int) : Prop := ∃ v, e = .returned (.tuple #[v, .int .i64 c]) ∧ w.ownsRow B 107 4 v es.length (flat4 es)
theorem info_event : (Tryd.prog.info? 107).map (fun i => (i.zero, i.size, i.bytes)) = some (some (.agg #[.int .i64 0, .int .i64 0, .int .i64 0, .int .i64 0]), 4, 32) := by kernel_rfl
theorem runI_one (rows : List (List I3)) (m : V4) (fs : List I3) (k : Int) : runI rows m fs [k] = if haltM rows m k = 0 then ((goM rows m k).1, fs ++ ownM rows m k, 0) else (m, fs, haltM rows m k) := by
  show (if haltM rows m k = 0 then _ else _) = _
  rfl
theorem machR_app (fv c0 c1 c2 : Value) (m : V4) : Rp.machR fv c0 c1 c2 m = machCells c0 c1 c2 m ++ [fv] := rfl
theorem Blk.rangeE {w : World} {g t : Nat} {cs xs : List Value} (h : Blk w g t (cs ++ xs)) : w.rangeAt g 0 cs := fun j v hj => by
  rw [Nat.zero_add, h.cell, List.getElem?_append_left (List.getElem?_eq_some_iff.1 hj).1]
  exact hj
theorem four_at {w : World} {G : Nat} {a b c d : Value} (h : Blk w G 107 [a, b, c, d]) : ∀ j u, [a, b, c, d][j]? = some u → w.cell? ((⟨G, 0, none⟩ : Addr).add j) = some u := by
  intro j u hj
  rw [Addr.add_mid, Nat.zero_add, h.cell]
  exact hj
theorem four_one (a b c d : Int) : ∀ u ∈ [Value.int .i64 a, Value.int .i64 b, Value.int .i64 c, Value.int .i64 d], u.oneCell' = true := by
  intro u hu
  simp at hu
  rcases hu with rfl | rfl | rfl | rfl <;> rfl
theorem ints_cellE {w : World} {a : Option Addr} {n c : Nat} {ks : List Int} (h : Ints .i64 w a n c ks) {i : Nat} (hi : i < n) : ∃ b off, a = some ⟨b, off, none⟩ ∧ w.cell? ⟨b, off + i, none⟩ = some (.int .i64 (ks.getD i 0)) ∧ b < w.heap.size := by
  obtain ⟨h1, h2, h3, h4⟩ := h
  rcases h4 with h4 | ⟨b, off, ha, hl, hc⟩
  · omega
  · exact ⟨b, off, ha, hc i hi, hl⟩
theorem ownM_lenE (rows : List (List I3)) (m : V4) (k : Int) : (ownM rows m k).length ≤ 1 := by unfold ownM; split <;> simp
/-- On the way. -/
def OnEv (w wr : World) (g : Nat) (cs : Sl × Sl × Sl) (rows : List (List I3)) (ks : List Int) (n i : Nat) (fin : V4 × List I3 × Int) (tot : List I4) (m : V4) (fs : List I3) (es : List I4) (v : Value) : Prop :=
  i ≤ n ∧ runI rows m fs (ks.drop i) = fin ∧ shapeOk m = true ∧ RanTo wr g w.heap.size cs m fs ∧ Below w.heap.size w wr ∧ wr.ownsRow w.heap.size 107 4 v es.length (flat4 es) ∧ es ++ evsM rows m (ks.drop i) = tot ∧ fs.length ≤ i ∧ es.length = i

set_option maxHeartbeats 800000 in
set_option maxRecDepth 100000 in
theorem implEventsOf_ok (a : Option Addr) (cap : Nat) (rows : List (List I3)) (la : Option Addr) (n c : Nat) (ks : List Int) (w : World) (hC : Codes w a 3 cap rows) (hV : VmShape w) (hp : progOk rows = true) (hL : Ints .i64 w la n c ks) (hn : ¬ 4096 < n) :
    Calls Tryd.prog 33 #[.agg #[.slice a 3 cap], .slice la n c] w fun e w' => EvGot e w' w.heap.size (if (runI rows zeroV [] ks).2.2 = 0 then evsM rows zeroV ks else []) (runI rows zeroV [] ks).2.2 ∧ Below w.heap.size w w' := by
  obtain ⟨i0, hi9, hz0, hz1, hz2⟩ := info_parts info_event
  have hn' : ¬ (4096 : Int) < (n : Int) := by omega
  have hll := hL.1
  obtain ⟨_, cs, hR⟩ := hC.rowsAt hp
  have kN := fun W (b : Below w.heap.size w W) => newReplay_ok (hC.below b) (hV.below b) hp (hR.below b)
  have HF0 : Hid (runI rows zeroV [] (ks.drop 0) = runI rows zeroV [] ks) := rfl
  have HT0 : Hid ([] ++ evsM rows zeroV (ks.drop 0) = evsM rows zeroV ks) := rfl
  obtain ⟨fin, hfin⟩ : ∃ fin, fin = runI rows zeroV [] ks := ⟨_, rfl⟩
  obtain ⟨tot, htot⟩ : ∃ tot, tot = evsM rows zeroV ks := ⟨_, rfl⟩
  rw [← hfin] at HF0 ⊢
  rw [← htot] at HT0 ⊢
  obtain ⟨es9, hes⟩ : ∃ es9, es9 = (if fin.2.2 = 0 then tot else []) := ⟨_, rfl⟩
  obtain ⟨cd9, hcd⟩ : ∃ cd9, cd9 = fin.2.2 := ⟨_, rfl⟩
  rw [← hes, ← hcd]
  have HE : Hid (es9 = (if fin.2.2 = 0 then tot else []) ∧ cd9 = fin.2.2) := ⟨hes, hcd⟩
  clear hfin htot hes hcd
  have bw : Below w.heap.size w (w.alloc (.cells #[.slice a 3 cap] 25)) := by go_grown
  have pP : Blk (w.alloc (.cells #[.slice a 3 cap] 25)) w.heap.size 25 [.slice a 3 cap] := blkAt _ _ _ rfl
  clear hC hV
  go_enter Tryd.func33, Tryd.ntmps33
  go_wp2_with fail
  generalize (w.alloc (.cells #[.slice a 3 cap] 25)) = U at *
  go_wp2_with (first | refine wpList_load_blk rfl 25 _ rfl w.heap.size rfl pP _ Tryd.underlying25 rfl (by kernel_rfl) ?_)
  refine (kN _ bw).mono ?_
  rintro e w1 ⟨rfl, hb⟩
  replace bw := bel_trans bw hb
  have pN := Blk.new w1 88 [.slice none 0 0, .int .i64 0, .int .i64 0, .int .i64 0, .slice none 0 0, .int .i64 0, .int .i64 0, .int .i64 0, .slice none 0 0, .int .i64 0, .int .i64 0, .int .i64 0, .int .i64 0, .int .i64 0, .int .i64 0, .int .i64 0, .int .i64 0, .int .i64 0, .slice none 0 0]
  have ha : Below w1.heap.size w1 (w1.alloc (.cells #[.slice none 0 0, .int .i64 0, .int .i64 0, .int .i64 0, .slice none 0 0, .int .i64 0, .int .i64 0, .int .i64 0, .slice none 0 0, .int .i64 0, .int .i64 0, .int .i64 0, .int .i64 0, .int .i64 0, .int .i64 0, .int .i64 0, .int .i64 0, .int .i64 0, .slice none 0 0] 88)) := by go_grown
  have hgw : w.heap.size ≤ w1.heap.size := bw.size
  clear kN hb pP
  go_wp2_with (refine wpList_store_blk rfl 88 _ _ rfl w1.heap.size (Rp.machR (.slice none 0 0) cs.1.val cs.2.1.val cs.2.2.val zeroV) rfl rfl pN (by kernel_rfl) rfl rfl ?_)
  intro W9 pM g1
  replace bw := (bel_trans bw ha).grown g1 (by simp; omega) (fun x hx => by cases hx; omega)
  have st : OnEv w W9 w1.heap.size cs rows ks n 0 fin tot zeroV [] [] (.slice none 0 0) := ⟨by omega, HF0.out, zero_shape, ⟨_, pM.out, World.ownsRow_nil _ _ _ _⟩, bw, World.ownsRow_nil _ _ _ _, HT0.out, by simp, rfl⟩
  clear g1 ha pN pM HF0 HT0 bw
  generalize w1.heap.size = g at *
  go_wp2_with fail
  go_loopw [8, 26] (fun so si wr => ∃ (i : Nat) (m : V4) (fs : List I3) (es : List I4) (vo : Value), vo = so ∧ si = .int .i64 i ∧ OnEv w wr g cs rows ks n i fin tot m fs es vo) (fun _ si _ => n - (intOf si).toNat)
  case atStart => exact ⟨0, _, _, _, _, rfl, rfl, st⟩
  case round =>
    clear st
    obtain ⟨i, m, fs, es, so, rfl, rfl, hi, hr, hs, ⟨fv, hM, hF⟩, bw, q, ht, hfl, hel⟩ := hrel
    by_cases hlt : i < n
    · obtain ⟨lb, lo, rfl, hc, hlb⟩ := ints_cellE hL hlt
      replace hc := cells_kept bw _ _ hc
      have e9 : ks.drop i = ks.getD i 0 :: ks.drop (i + 1) := by rw [List.drop_eq_getElem_cons (by omega)]; simp [List.getD, show i < ks.length by omega]
      have HR : Hid (runI rows m fs (ks.getD i 0 :: ks.drop (i + 1)) = fin) := by rw [Hid, ← e9]; exact hr
      have HT : Hid (es ++ (eventM rows m (ks.getD i 0).toNat :: evsM rows (goM rows m (ks.getD i 0)).1 (ks.drop (i + 1))) = tot) := by rw [e9] at ht; exact ht
      have hlt' : (i : Int) < (n : Int) := by omega
      have hi0 : (0 : Int) ≤ (i : Int) := by omega
      generalize ks.getD i 0 = kk at *
      clear hr ht e9
      have hgl := hM.lt
      have hrg := Blk.rangeE (machR_app fv cs.1.val cs.2.1.val cs.2.2.val m ▸ hM)
      have pN := Blk.new wr 86 [.slice none 0 0, .int .i64 0, .int .i64 0, .int .i64 0, .slice none 0 0, .int .i64 0, .int .i64 0, .int .i64 0, .slice none 0 0, .int .i64 0, .int .i64 0, .int .i64 0, .int .i64 0, .int .i64 0, .int .i64 0, .int .i64 0, .int .i64 0, .int .i64 0]
      have ha : Below wr.heap.size wr (wr.alloc (.cells #[.slice none 0 0, .int .i64 0, .int .i64 0, .int .i64 0, .slice none 0 0, .int .i64 0, .int .i64 0, .int .i64 0, .slice none 0 0, .int .i64 0, .int .i64 0, .int .i64 0, .int .i64 0, .int .i64 0, .int .i64 0, .int .i64 0, .int .i64 0, .int .i64 0] 86)) := by go_grown
      go_wp2_with (first | refine wpList_load_mid rfl 86 _ rfl g 0 rfl (machCells cs.1.val cs.2.1.val cs.2.2.val m) _ hrg Tryd.underlying86 rfl (by kernel_rfl) ?_ | refine wpList_store_blk rfl 86 _ _ rfl wr.heap.size (machCells cs.1.val cs.2.1.val cs.2.2.val m) rfl rfl pN (by kernel_rfl) rfl rfl ?_)
      intro W pW g1
      have ng : (some wr.heap.size : Option Nat) ≠ some g := by simp; omega
      have hF1 := (owns_below hF ha).kept g1 (.inr (own_ne_blkR (owns_below hF ha) pN (by decide)).symm)
      have q1 := (owns_below q ha).kept g1 (.inr (own_ne_blkR (owns_below q ha) pN (by decide)).symm)
      have hM1 := (hM.below ha).kept g1 ng
      have bw1 := (bel_trans bw ha).grown g1 (Nat.le_trans bw.size ha.size) (fun x hx => by cases hx; exact bw.size)
      have hWg : w.heap.size ≤ wr.heap.size := bw.size
      clear hrg pN ha g1 ng hM hF q bw hc
      have pW2 := pW.out
      clear pW
      generalize wr.heap.size = gw at *
      have ha : Below W.heap.size W (W.alloc (.cells #[.int .i64 kk] 3)) := by go_grown
      have pK : Blk (W.alloc (.cells #[.int .i64 kk] 3)) W.heap.size 3 [.int .i64 kk] := blkAt _ _ _ rfl
      have hLk : ListAt (W.alloc (.cells #[.int .i64 kk] 3)) w.heap.size (some ⟨W.heap.size, 0, none⟩) 1 1 [kk] := ⟨⟨rfl, by omega, by unfold maxLen; omega, .inr ⟨_, _, rfl, pK.lt, fun t ht9 => by
        obtain rfl : t = 0 := by omega
        simp⟩⟩, fun b o hb _ => by cases hb; exact .inr ⟨_, _, pK⟩⟩
      have kR := run_is (w0 := w) hR (bel_trans bw1 ha) hgw hp hs ⟨fv, hM1.below ha, owns_below hF1 ha⟩ hLk (by omega)
      rw [runI_one] at kR
      replace q1 := owns_below q1 ha
      replace pW2 := pW2.below ha
      clear ha pK hLk hM1 hF1 bw1
      by_cases hz : haltM rows m kk = 0
      · rw [if_pos hz] at kR
        simp only at kR
        obtain ⟨h0, h2, hd, hcn⟩ := halt_can hz
        have hs2 := goM_shape hp hs hz
        have hr2 : runI rows (goM rows m kk).1 (fs ++ ownM rows m kk) (ks.drop (i + 1)) = fin := by
          have := HR.out
          rw [show runI rows m fs (kk :: ks.drop (i + 1)) = runI rows (goM rows m kk).1 (fs ++ ownM rows m kk) (ks.drop (i + 1)) by show (if haltM rows m kk = 0 then _ else _) = _; rw [if_pos hz]] at this
          exact this
        obtain ⟨k, rfl⟩ : ∃ k : Nat, kk = k := ⟨kk.toNat, by omega⟩
        rw [Int.toNat_natCast] at hd
        have hk : k < 3 := by omega
        have ht2 := HT.out
        rw [Int.toNat_natCast] at ht2
        have hol := ownM_lenE rows m (k : Int)
        clear HR HT hz h0 h2 hcn
        go_wp2_with fail
        refine kR.mono ?_
        rintro e w3 ⟨rfl, hRan, bw3, kp⟩
        replace q1 := kp.owns q1 (by decide) (by decide)
        replace pW2 := kp.blk pW2 (by decide) (by decide)
        have kV := event_is ((hR.below bw3).mach pW2) hp hs hk hd
        obtain ⟨ev, hev⟩ : ∃ ev, ev = eventM rows m k := ⟨_, rfl⟩
        rw [← hev] at kV ht2
        obtain ⟨v0, v1, v2, v3⟩ := ev
        simp only at kV
        clear kR kp hd hev
        go_wp2_with fail
        refine kV.mono ?_
        rintro e w4 ⟨rfl, hb⟩
        have bw4 := bel_trans bw3 hb
        have hRan4 : RanTo w4 g w.heap.size cs (goM rows m k).1 (fs ++ ownM rows m k) := by obtain ⟨f9, h9, h8⟩ := hRan; exact ⟨f9, h9.below hb, owns_below h8 hb⟩
        replace q1 := owns_below q1 hb
        clear kV hb pW2 hRan bw3
        have ha : Below w4.heap.size w4 (w4.alloc (.cells #[.int .i64 v0, .int .i64 v1, .int .i64 v2, .int .i64 v3] 107)) := by go_grown
        have pV : Blk (w4.alloc (.cells #[.int .i64 v0, .int .i64 v1, .int .i64 v2, .int .i64 v3] 107)) w4.heap.size 107 [.int .i64 v0, .int .i64 v1, .int .i64 v2, .int .i64 v3] := blkAt _ _ _ rfl
        have hsz4 := bw4.size
        go_wp2_with (at_builtin; refine wpList_append_own _ rfl _ _ 61 rfl w.heap.size 107 i0 (.agg #[.int .i64 0, .int .i64 0, .int .i64 0, .int .i64 0]) 4 32 Tryd.underlying61 hi9 hz0 hz1 hz2 rfl (by decide) _ _ _ rfl (q1.alloc _) ⟨w4.heap.size, 0, none⟩ 1 1 [.int .i64 v0, .int .i64 v1, .int .i64 v2, .int .i64 v3] rfl rfl (four_at pV) (four_one _ _ _ _) ?c3 ?c4 ?c5 ?_)
        case c3 => unfold maxLen; omega
        case c4 => omega
        case c5 => simp; omega
        intro v9 wn q9 g9 _
        have R : wn.ownsRow w.heap.size 107 4 v9 (es ++ [(v0, v1, v2, v3)]).length (flat4 (es ++ [(v0, v1, v2, v3)])) := by
          rw [List.length_append, flat4_snoc, hel]
          exact q9
        have bn := (bel_trans bw4 ha).grown g9 (Nat.le_trans hsz4 ha.size) (fun k hk => (q1.lt k hk).1)
        have hRn : RanTo wn g w.heap.size cs (goM rows m k).1 (fs ++ ownM rows m k) := by
          obtain ⟨f9, h9, h8⟩ := hRan4
          have q1a := owns_below q1 ha
          exact ⟨f9, (h9.below ha).kept g9 (own_ne_blkR q1a (h9.below ha) (by decide)).symm, (owns_below h8 ha).kept g9 (owns_ne (owns_below h8 ha) q1a (by decide))⟩
        have st2 : OnEv w wn g cs rows ks n (i + 1) fin tot (goM rows m k).1 (fs ++ ownM rows m k) (es ++ [(v0, v1, v2, v3)]) v9 := ⟨by omega, hr2, hs2, hRn, bn, R, by rw [List.append_assoc]; exact ht2, by rw [List.length_append]; omega, by rw [List.length_append]; simp; omega⟩
        clear R bn hRn q9 g9 q1 ha pV hRan4 bw4 hr2 hs2 ht2 hs
        go_wp2
        go_roundw
        case rel => exact ⟨i + 1, _, _, _, _, rfl, by go_num, st2⟩
        case measure => simp [intOf]; omega
      · rw [if_neg hz] at kR
        simp only at kR
        have hfe : fin = (m, fs, haltM rows m kk) := by
          rw [← HR.out]
          show (if haltM rows m kk = 0 then _ else _) = _
          rw [if_neg hz]
        have hne : (haltM rows m kk != 0) = true := by simp [hz]
        have HZ : Hid (es9 = [] ∧ cd9 = haltM rows m kk) := by
          obtain ⟨h8, h9⟩ := HE.out
          rw [hfe] at h8 h9
          exact ⟨h8.trans (if_neg hz), h9⟩
        clear HR HT hz hfe HE
        go_wp2_with fail
        refine kR.mono ?_
        rintro e w3 ⟨rfl, hRan, bw3, kp⟩
        clear kR kp hRan q1 pW2
        go_wp2
        go_ret2
        rw [HZ.out.1, HZ.out.2]
        exact ⟨⟨_, rfl, World.ownsRow_nil _ _ _ _⟩, bw3⟩
    · obtain rfl : i = n := by omega
      have hfe : fin = (m, fs, 0) := by rw [← hr, List.drop_of_length_le (by omega)]; rfl
      have hte : es = tot := by rw [← ht, List.drop_of_length_le (by omega)]; simp [evsM]
      have HZ : Hid (es9 = es ∧ cd9 = 0) := by
        obtain ⟨h8, h9⟩ := HE.out
        rw [hfe] at h8 h9
        exact ⟨h8.trans ((if_pos rfl).trans hte.symm), h9⟩
      clear hr ht hfe hte HE
      go_wp2
      go_ret2
      rw [HZ.out.1, HZ.out.2]
      exact ⟨⟨_, rfl, q⟩, bw⟩
end Go.Proofs.YtgjmangbigibbaaDoor


/-
  Rows of events: the laws' eqEvent, eqEventS, markEventS, heldEventS.
-/
namespace Go.Proofs.YtgjmangbigibbaaDoor
open Go.RowKit
set_option linter.unusedVariables false
set_option linter.unusedSimpArgs false

theorem flat4_len : ∀ xs : List I4, (flat4 xs).length = xs.length * 4
  | [] => rfl
  | x :: xs => by simp only [flat4, List.length_append, flat4_len xs, List.length_cons, List.length_nil]; omega
theorem flat4_at : ∀ (xs : List I4) (t : Nat), t < xs.length → (flat4 xs)[t * 4]? = some (.int .i64 (xs.getD t (0, 0, 0, 0)).1) ∧ (flat4 xs)[t * 4 + 1]? = some (.int .i64 (xs.getD t (0, 0, 0, 0)).2.1) ∧ (flat4 xs)[t * 4 + 2]? = some (.int .i64 (xs.getD t (0, 0, 0, 0)).2.2.1) ∧ (flat4 xs)[t * 4 + 3]? = some (.int .i64 (xs.getD t (0, 0, 0, 0)).2.2.2)
  | [], t, h => by simp at h
  | x :: xs, 0, _ => ⟨rfl, rfl, rfl, rfl⟩
  | x :: xs, t + 1, h => by
    have ih := flat4_at xs t (by simpa using h)
    have e : (t + 1) * 4 = t * 4 + 1 + 1 + 1 + 1 := by omega
    simp only [flat4, List.cons_append, List.nil_append, e, List.getElem?_cons_succ, List.getD_cons_succ]
    exact ih
/-- Events in memory. -/
def Evs (w : World) (a : Option Addr) (n : Nat) (xs : List I4) : Prop := xs.length = n ∧ n ≤ maxLen ∧ (n = 0 ∨ ∃ g, a = some ⟨g, 0, none⟩ ∧ g < w.heap.size ∧ ∀ t, t < n → w.cell? ⟨g, t * 4, none⟩ = some (.int .i64 (xs.getD t (0, 0, 0, 0)).1) ∧ w.cell? ⟨g, t * 4 + 1, none⟩ = some (.int .i64 (xs.getD t (0, 0, 0, 0)).2.1) ∧ w.cell? ⟨g, t * 4 + 2, none⟩ = some (.int .i64 (xs.getD t (0, 0, 0, 0)).2.2.1) ∧ w.cell? ⟨g, t * 4 + 3, none⟩ = some (.int .i64 (xs.getD t (0, 0, 0, 0)).2.2.2))
theorem evs_slice {w : World} {B : Nat} {v : Value} {xs : List I4} (h : w.ownsRow B 107 4 v xs.length (flat4 xs)) : ∃ a cap, v = .slice a xs.length cap ∧ Evs w a xs.length xs := by
  rcases h.2 with ⟨rfl, h0⟩ | ⟨g, cap, cur, hv, _, _, hnc, hcm, _⟩
  · exact ⟨none, 0, by rw [h0], rfl, by rw [h0]; omega, .inl h0⟩
  · subst hv
    refine ⟨_, cap, rfl, rfl, by omega, .inr ⟨g, rfl, (h.lt g rfl).2, fun t ht => ?_⟩⟩
    obtain ⟨a0, a1, a2, a3⟩ := flat4_at xs t ht
    exact ⟨(h.cellAt _ (by omega)).trans a0, (h.cellAt _ (by omega)).trans a1, (h.cellAt _ (by omega)).trans a2, (h.cellAt _ (by omega)).trans a3⟩
theorem evs_of {w : World} {B cap : Nat} {a : Option Addr} {xs : List I4} (h : w.ownsRow B 107 4 (.slice a xs.length cap) xs.length (flat4 xs)) : Evs w a xs.length xs := by
  obtain ⟨a', c', e, hI⟩ := evs_slice h
  cases e
  exact hI

set_option maxHeartbeats 1000000 in
theorem eqEvent_same (x : I4) (w : World) : Calls Tryd.prog 78 #[x.val, x.val] w fun e w' => e = .returned (.bool true) ∧ Below w.heap.size w w' := by
  obtain ⟨p, q, r, s⟩ := x
  unfold I4.val
  go_enter Tryd.func78, Tryd.ntmps78
  go_wp2
  go_returns
  exact ⟨rfl, by go_grown⟩

set_option maxHeartbeats 1000000 in
set_option maxRecDepth 100000 in
theorem eqEventS_same (a a' : Option Addr) (len cap cap' : Nat) (xs : List I4) (w : World) (h : Evs w a len xs) (h' : Evs w a' len xs) :
    Calls Tryd.prog 34 #[.slice a len cap, .slice a' len cap'] w fun e w' => e = .returned (.bool true) ∧ Below w.heap.size w w' := by
  obtain ⟨hl, hcm, hcase⟩ := h
  obtain ⟨_, _, hcase'⟩ := h'
  unfold maxLen at hcm
  have hne : ((len : Int) != (len : Int)) = false := by simp
  by_cases h0 : len = 0
  · subst h0
    go_enter Tryd.func34, Tryd.ntmps34
    go_wp2
    refine wp_loop_rounds 1 ?_
    rw [rounds_succ]
    go_wp2
    go_ret
    exact ⟨rfl, Below.refl _ _⟩
  · rcases hcase with h0' | ⟨b, rfl, hblt, hcell⟩
    · exact absurd h0' h0
    rcases hcase' with h0' | ⟨b', rfl, hblt', hcell'⟩
    · exact absurd h0' h0
    go_enter Tryd.func34, Tryd.ntmps34
    go_wp2
    go_loopw [5] (fun si wr => ∃ k : Nat, k ≤ len ∧ si = .int .i64 k ∧ Below w.heap.size w wr) (fun si _ => len - (intOf si).toNat)
    case atStart => exact ⟨0, by omega, rfl, Below.refl _ _⟩
    case round =>
      obtain ⟨k, hk, rfl, hbel⟩ := hrel
      by_cases hlt : k < len
      · obtain ⟨c0, c1, c2, c3⟩ := hcell k hlt
        obtain ⟨e0, e1, e2, e3⟩ := hcell' k hlt
        rw [← hbel.cell (p := ⟨b, _, none⟩) hblt] at c0 c1 c2 c3
        rw [← hbel.cell (p := ⟨b', _, none⟩) hblt'] at e0 e1 e2 e3
        have hlt' : (k : Int) < (len : Int) := by omega
        generalize xs.getD k (0, 0, 0, 0) = x at c0 c1 c2 c3 e0 e1 e2 e3
        clear hcell hcell'
        go_wp2_with fail
        have hk0 : (0 : Int) ≤ (k : Int) := by omega
        go_region_held3 (fun w' => w'.cell? ⟨b, k * 4, none⟩ = some (.int .i64 x.1) ∧ w'.cell? ⟨b, k * 4 + 1, none⟩ = some (.int .i64 x.2.1) ∧ w'.cell? ⟨b, k * 4 + 2, none⟩ = some (.int .i64 x.2.2.1) ∧ w'.cell? ⟨b, k * 4 + 3, none⟩ = some (.int .i64 x.2.2.2) ∧ w'.cell? ⟨b', k * 4, none⟩ = some (.int .i64 x.1) ∧ w'.cell? ⟨b', k * 4 + 1, none⟩ = some (.int .i64 x.2.1) ∧ w'.cell? ⟨b', k * 4 + 2, none⟩ = some (.int .i64 x.2.2.1) ∧ w'.cell? ⟨b', k * 4 + 3, none⟩ = some (.int .i64 x.2.2.2)) (first | (exact ⟨c0, c1, c2, c3, e0, e1, e2, e3⟩) | (refine ⟨?_, ?_, ?_, ?_, ?_, ?_, ?_, ?_⟩ <;> (apply cells_kept (by assumption); assumption)) | go_keep)
          (first | (go_at_call 78; refine (eqEvent_same x _).mono ?_; rintro e w1 ⟨rfl, hb1⟩))
        have hbel1 : Below w.heap.size w w1 := bel_trans hbel (bel_trans (by go_grown) hb1)
        go_wp2
        go_roundw
        case rel => exact ⟨k + 1, by omega, by go_num, hbel1⟩
        case measure => simp [intOf]; omega
      · go_wp2
        go_ret
        exact ⟨rfl, hbel⟩

/-- A row with its first j events marked, from k on. -/
def mk4 : Int → List I4 → Nat → List I4
  | _, xs, 0 => xs
  | _, [], _ + 1 => []
  | k, _ :: xs, j + 1 => (k, k + 1, k + 2, k + 3) :: mk4 (k + 4) xs j
theorem mk4_len : ∀ (k : Int) (xs : List I4) (j : Nat), (mk4 k xs j).length = xs.length
  | _, xs, 0 => by simp [mk4]
  | _, [], _ + 1 => by simp [mk4]
  | k, _ :: xs, j + 1 => by simp [mk4, mk4_len]
theorem mk4_set : ∀ (k : Int) (xs : List I4) (j : Nat), j < xs.length →
    ((((flat4 (mk4 k xs j)).set (j * 4) (.int .i64 (k + j * 4))).set (j * 4 + 1) (.int .i64 (k + j * 4 + 1))).set (j * 4 + 2) (.int .i64 (k + j * 4 + 2))).set (j * 4 + 3) (.int .i64 (k + j * 4 + 3)) = flat4 (mk4 k xs (j + 1))
  | _, [], j, h => by simp at h
  | k, x :: xs, 0, _ => by simp [mk4, flat4]
  | k, x :: xs, j + 1, h => by
    have ih := mk4_set (k + 4) xs j (by simpa using h)
    have e1 : k + ((j + 1 : Nat) : Int) * 4 = k + 4 + (j : Int) * 4 := by omega
    rw [e1]
    have e2 : (j + 1) * 4 = j * 4 + 1 + 1 + 1 + 1 := by omega
    simp only [mk4, flat4, List.cons_append, List.nil_append] at ih ⊢
    rw [e2]
    simp only [List.set_cons_succ]
    rw [ih]
theorem mk4_get : ∀ (k : Int) (xs : List I4) (j i : Nat), i < j → j ≤ xs.length → (mk4 k xs j).getD i (0, 0, 0, 0) = (k + i * 4, k + i * 4 + 1, k + i * 4 + 2, k + i * 4 + 3)
  | _, xs, 0, i, h, _ => by omega
  | _, [], j + 1, i, _, h => by simp at h
  | k, x :: xs, j + 1, 0, _, _ => by simp [mk4]
  | k, x :: xs, j + 1, i + 1, h, hl => by
    have ih := mk4_get (k + 4) xs j i (by omega) (by simpa using hl)
    have e : k + ((i + 1 : Nat) : Int) * 4 = k + 4 + (i : Int) * 4 := by omega
    rw [e, ← ih]
    simp [mk4]

set_option maxHeartbeats 1000000 in
set_option maxRecDepth 100000 in
theorem markEventS_own (base g n cap : Nat) (k : Int) (xs : List I4) (w : World) (hk0 : 0 ≤ k) (hk : k ≤ 1000000000) (hn : n ≤ 1048576) (hl : xs.length = n) (ho : w.ownsRow base 107 4 (.slice (some ⟨g, 0, none⟩) n cap) n (flat4 xs)) :
    Calls Tryd.prog 37 #[.slice (some ⟨g, 0, none⟩) n cap, .int .i64 k] w fun e w' => e = .returned (.int .i64 (k + n * 4)) ∧
      w'.ownsRow base 107 4 (.slice (some ⟨g, 0, none⟩) n cap) n (flat4 (mk4 k xs n)) ∧ w.grownBy w' (some g) := by
  go_enter Tryd.func37, Tryd.ntmps37
  go_wp2
  go_loopw [1, 5] (fun sk si wr => ∃ j : Nat, j ≤ n ∧ si = .int .i64 j ∧ sk = .int .i64 (k + j * 4) ∧ wr.ownsRow base 107 4 (.slice (some ⟨g, 0, none⟩) n cap) n (flat4 (mk4 k xs j)) ∧ w.grownBy wr (some g)) (fun _ si _ => n - (intOf si).toNat)
  case atStart => exact ⟨0, by omega, rfl, by go_num, by simpa [mk4] using ho, World.grownBy.refl _ _⟩
  case round =>
    obtain ⟨j, hj, rfl, rfl, hr, hg⟩ := hrel
    by_cases hlt : j < n
    · have hlt2 : (j : Int) < (n : Int) := by omega
      have hj0 : (0 : Int) ≤ (j : Int) := by omega
      have f0 := hr.frozenAt (j * 4)
      have f1 := hr.frozenAt (j * 4 + 1)
      have f2 := hr.frozenAt (j * 4 + 2)
      have f3 := hr.frozenAt (j * 4 + 3)
      have hlen : (flat4 (mk4 k xs j)).length = n * 4 := by rw [flat4_len, mk4_len, hl]
      obtain ⟨u0, hu0⟩ : ∃ u, wr.cell? ⟨g, j * 4, none⟩ = some u := ⟨_, by rw [hr.cellAt _ (by omega)]; exact List.getElem?_eq_getElem (by omega)⟩
      obtain ⟨u1, hu1⟩ : ∃ u, wr.cell? ⟨g, j * 4 + 1, none⟩ = some u := ⟨_, by rw [hr.cellAt _ (by omega)]; exact List.getElem?_eq_getElem (by omega)⟩
      obtain ⟨u2, hu2⟩ : ∃ u, wr.cell? ⟨g, j * 4 + 2, none⟩ = some u := ⟨_, by rw [hr.cellAt _ (by omega)]; exact List.getElem?_eq_getElem (by omega)⟩
      obtain ⟨u3, hu3⟩ : ∃ u, wr.cell? ⟨g, j * 4 + 3, none⟩ = some u := ⟨_, by rw [hr.cellAt _ (by omega)]; exact List.getElem?_eq_getElem (by omega)⟩
      have R := ((((hr.stored (j * 4) (.int .i64 (k + j * 4))).1.stored (j * 4 + 1) (.int .i64 (k + j * 4 + 1))).1.stored (j * 4 + 2) (.int .i64 (k + j * 4 + 1 + 1))).1.stored (j * 4 + 3) (.int .i64 (k + j * 4 + 1 + 1 + 1))).1
      rw [show (k + (j : Int) * 4 + 1 + 1) = k + j * 4 + 2 by omega, show (k + (j : Int) * 4 + 2 + 1) = k + j * 4 + 3 by omega, mk4_set k xs j (by omega), show (k + (j : Int) * 4 + 3) = k + j * 4 + 2 + 1 by omega, show (k + (j : Int) * 4 + 2) = k + j * 4 + 1 + 1 by omega] at R
      have G := grownBy_tr hg (grownBy_tr (grownBy_set wr g (j * 4) (.int .i64 (k + j * 4))) (grownBy_tr (grownBy_set _ g (j * 4 + 1) (.int .i64 (k + j * 4 + 1))) (grownBy_tr (grownBy_set _ g (j * 4 + 2) (.int .i64 (k + j * 4 + 1 + 1))) (grownBy_set _ g (j * 4 + 3) (.int .i64 (k + j * 4 + 1 + 1 + 1))))))
      clear hr hg ho hlen
      go_wp2
      go_roundw
      case rel => exact ⟨j + 1, by omega, by go_num, by go_num, R, G⟩
      case measure => simp [intOf]; omega
    · obtain rfl : j = n := by omega
      go_wp2
      go_ret
      exact ⟨rfl, hr, hg⟩
theorem markEventS_none (k : Int) (w : World) : Calls Tryd.prog 37 #[.slice none 0 0, .int .i64 k] w fun e w' => e = .returned (.int .i64 k) ∧ w = w' := by
  go_enter Tryd.func37, Tryd.ntmps37
  go_wp2
  refine wp_loop_rounds 1 ?_
  rw [rounds_succ]
  go_wp2
  go_ret
  exact ⟨rfl, rfl⟩
theorem markEventS_any (base : Nat) (v : Value) (k : Int) (xs : List I4) (w : World) (hk0 : 0 ≤ k) (hk : k ≤ 1000000000) (hn : xs.length ≤ 1048576) (ho : w.ownsRow base 107 4 v xs.length (flat4 xs)) :
    Calls Tryd.prog 37 #[v, .int .i64 k] w fun e w' => e = .returned (.int .i64 (k + xs.length * 4)) ∧
      w'.ownsRow base 107 4 v xs.length (flat4 (mk4 k xs xs.length)) ∧ w.grownBy w' v.ownBlock := by
  rcases ho.2 with ⟨rfl, h0⟩ | ⟨g, cap, cur, rfl, _⟩
  · obtain rfl : xs = [] := List.eq_nil_of_length_eq_zero h0
    refine (markEventS_none k w).mono ?_
    rintro e w' ⟨rfl, rfl⟩
    exact ⟨by simp, ho, World.grownBy.refl _ _⟩
  · exact markEventS_own base g _ cap k xs w hk0 hk hn rfl ho

set_option maxHeartbeats 1000000 in
set_option maxRecDepth 100000 in
theorem heldEventS_own (base g n cap : Nat) (k : Int) (xs : List I4) (w : World) (hk0 : 0 ≤ k) (hk : k ≤ 1000000000) (hn : n ≤ 1048576) (hl : xs.length = n) (ho : w.ownsRow base 107 4 (.slice (some ⟨g, 0, none⟩) n cap) n (flat4 (mk4 k xs n))) :
    Calls Tryd.prog 38 #[.slice (some ⟨g, 0, none⟩) n cap, .int .i64 k] w fun e w' => e = .returned (.int .i64 (k + n * 4)) ∧ w = w' := by
  go_enter Tryd.func38, Tryd.ntmps38
  go_wp2
  go_loop [1, 5] (fun sk si => ∃ j : Nat, j ≤ n ∧ si = .int .i64 j ∧ sk = .int .i64 (k + j * 4)) (fun _ si => n - (intOf si).toNat)
  case atStart => exact ⟨0, by omega, rfl, by go_num⟩
  case round =>
    obtain ⟨j, hj, rfl, rfl⟩ := hrel
    by_cases hlt : j < n
    · have hlt2 : (j : Int) < (n : Int) := by omega
      have hj0 : (0 : Int) ≤ (j : Int) := by omega
      obtain ⟨a0, a1, a2, a3⟩ := flat4_at (mk4 k xs n) j (by rw [mk4_len]; omega)
      rw [mk4_get k xs n j hlt (by omega)] at a0 a1 a2 a3
      have c0 : w.cell? ⟨g, j * 4, none⟩ = some (.int .i64 (k + j * 4)) := by rw [ho.cellAt _ (by omega)]; exact a0
      have c1 : w.cell? ⟨g, j * 4 + 1, none⟩ = some (.int .i64 (k + j * 4 + 1)) := by rw [ho.cellAt _ (by omega)]; exact a1
      have c2 : w.cell? ⟨g, j * 4 + 2, none⟩ = some (.int .i64 (k + j * 4 + 1 + 1)) := by rw [ho.cellAt _ (by omega), a2]; simp; omega
      have c3 : w.cell? ⟨g, j * 4 + 3, none⟩ = some (.int .i64 (k + j * 4 + 1 + 1 + 1)) := by rw [ho.cellAt _ (by omega), a3]; simp; omega
      have n0 : ((k + (j : Int) * 4) != (k + (j : Int) * 4)) = false := by simp
      have n1 : ((k + (j : Int) * 4 + 1) != (k + (j : Int) * 4 + 1)) = false := by simp
      have n2 : ((k + (j : Int) * 4 + 1 + 1) != (k + (j : Int) * 4 + 1 + 1)) = false := by simp
      have n3 : ((k + (j : Int) * 4 + 1 + 1 + 1) != (k + (j : Int) * 4 + 1 + 1 + 1)) = false := by simp
      clear ho a0 a1 a2 a3
      go_wp2
      go_round
      case rel => exact ⟨j + 1, by omega, by go_num, by go_num⟩
      case measure => simp [intOf]; omega
    · obtain rfl : j = n := by omega
      clear ho
      go_wp2
      go_ret
      exact ⟨rfl, rfl⟩
theorem heldEventS_none (k : Int) (w : World) : Calls Tryd.prog 38 #[.slice none 0 0, .int .i64 k] w fun e w' => e = .returned (.int .i64 k) ∧ w = w' := by
  go_enter Tryd.func38, Tryd.ntmps38
  go_wp2
  refine wp_loop_rounds 1 ?_
  rw [rounds_succ]
  go_wp2
  go_ret
  exact ⟨rfl, rfl⟩
theorem heldEventS_any (base : Nat) (v : Value) (k : Int) (xs : List I4) (w : World) (hk0 : 0 ≤ k) (hk : k ≤ 1000000000) (hn : xs.length ≤ 1048576) (ho : w.ownsRow base 107 4 v xs.length (flat4 (mk4 k xs xs.length))) :
    Calls Tryd.prog 38 #[v, .int .i64 k] w fun e w' => e = .returned (.int .i64 (k + xs.length * 4)) ∧ w = w' := by
  rcases ho.2 with ⟨rfl, h0⟩ | ⟨g, cap, cur, rfl, _⟩
  · obtain rfl : xs = [] := List.eq_nil_of_length_eq_zero h0
    refine (heldEventS_none k w).mono ?_
    rintro e w' ⟨rfl, rfl⟩
    exact ⟨by simp, rfl⟩
  · exact heldEventS_own base g _ cap k xs w hk0 hk hn rfl ho
end Go.Proofs.YtgjmangbigibbaaDoor
