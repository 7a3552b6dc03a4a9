/-
  FnRun, part 48 of 50 (EvC, VmLaid, RowBelow).
-/
import Derived.Test.YtmhngodbnoonhaaDoorJ47
import Derived.Test.YtmhngodbnoonhaaDoorJ40
import Derived.Deep.MidRow
import Derived.Test.YtmhngodbnoonhaaDoorJ11
import Derived.Test.YtmhngodbnoonhaaDoorRows
import Derived.ProofKit
import Derived.OpenShut
import Derived.LaidMore
import Derived.MakeChecks
import Derived.Stop.LaidErr
import Derived.Test.YtmhngodbnoonhaaDoorJ01

/-
  The program's EventsOf.
-/
namespace Go.Proofs.YtmhngodbnoonhaaDoor
open Go.RowKit
set_option linter.unusedVariables false
set_option linter.unusedSimpArgs false

/-- The events of a schedule. -/
def evsM (rows : List (List I3)) : V4 → List Int → List I4
  | _, [] => []
  | m, k :: ks => eventM rows m k.toNat :: evsM rows (goM rows m k).1 ks
/-- What EventsOf tells, and its code. -/
def evE (rows : List (List I3)) (ks : List Int) : List I4 := if 4096 < ks.length then [] else if progOk rows then (if (runI rows zeroV [] ks).2.2 = 0 then evsM rows zeroV ks else []) else []
def evK (rows : List (List I3)) (ks : List Int) : Int := if 4096 < ks.length then 2 else if progOk rows then (runI rows zeroV [] ks).2.2 else 1
def EvGot (e : Ending) (w : World) (B : Nat) (es : List I4) (c : Int) : Prop := ∃ v, e = .returned (.tuple #[v, .int .i64 c]) ∧ w.ownsRow B 107 4 v es.length (flat4 es)
theorem info_event : (Tryd.prog.info? 107).map (fun i => (i.zero, i.size, i.bytes)) = some (some (.agg #[.int .i64 0, .int .i64 0, .int .i64 0, .int .i64 0]), 4, 32) := by kernel_rfl
theorem runI_one (rows : List (List I3)) (m : V4) (fs : List I3) (k : Int) : runI rows m fs [k] = if haltM rows m k = 0 then ((goM rows m k).1, fs ++ ownM rows m k, 0) else (m, fs, haltM rows m k) := by
  show (if haltM rows m k = 0 then _ else _) = _
  rfl
theorem machR_app (fv c0 c1 c2 : Value) (m : V4) : Rp.machR fv c0 c1 c2 m = machCells c0 c1 c2 m ++ [fv] := rfl
theorem Blk.rangeE {w : World} {g t : Nat} {cs xs : List Value} (h : Blk w g t (cs ++ xs)) : w.rangeAt g 0 cs := fun j v hj => by
  rw [Nat.zero_add, h.cell, List.getElem?_append_left (List.getElem?_eq_some_iff.1 hj).1]
  exact hj
theorem four_at {w : World} {G : Nat} {a b c d : Value} (h : Blk w G 107 [a, b, c, d]) : ∀ j u, [a, b, c, d][j]? = some u → w.cell? ((⟨G, 0, none⟩ : Addr).add j) = some u := by
  intro j u hj
  rw [Addr.add_mid, Nat.zero_add, h.cell]
  exact hj
theorem four_one (a b c d : Int) : ∀ u ∈ [Value.int .i64 a, Value.int .i64 b, Value.int .i64 c, Value.int .i64 d], u.oneCell' = true := by
  intro u hu
  simp at hu
  rcases hu with rfl | rfl | rfl | rfl <;> rfl
theorem ints_cellE {w : World} {a : Option Addr} {n c : Nat} {ks : List Int} (h : Ints .i64 w a n c ks) {i : Nat} (hi : i < n) : ∃ b off, a = some ⟨b, off, none⟩ ∧ w.cell? ⟨b, off + i, none⟩ = some (.int .i64 (ks.getD i 0)) ∧ b < w.heap.size := by
  obtain ⟨h1, h2, h3, h4⟩ := h
  rcases h4 with h4 | ⟨b, off, ha, hl, hc⟩
  · omega
  · exact ⟨b, off, ha, hc i hi, hl⟩
theorem ownM_lenE (rows : List (List I3)) (m : V4) (k : Int) : (ownM rows m k).length ≤ 1 := by unfold ownM; split <;> simp
/-- On the way. -/
def OnEv (w wr : World) (g : Nat) (cs : Sl × Sl × Sl) (rows : List (List I3)) (ks : List Int) (n i : Nat) (fin : V4 × List I3 × Int) (tot : List I4) (m : V4) (fs : List I3) (es : List I4) (v : Value) : Prop :=
  i ≤ n ∧ runI rows m fs (ks.drop i) = fin ∧ shapeOk m = true ∧ RanTo wr g w.heap.size cs m fs ∧ Below w.heap.size w wr ∧ wr.ownsRow w.heap.size 107 4 v es.length (flat4 es) ∧ es ++ evsM rows m (ks.drop i) = tot ∧ fs.length ≤ i ∧ es.length = i

set_option maxHeartbeats 800000 in
set_option maxRecDepth 100000 in
theorem implEventsOf_ok (a : Option Addr) (cap : Nat) (rows : List (List I3)) (la : Option Addr) (n c : Nat) (ks : List Int) (w : World) (hC : Codes w a 3 cap rows) (hV : VmShape w) (hp : progOk rows = true) (hL : Ints .i64 w la n c ks) (hn : ¬ 4096 < n) :
    Calls Tryd.prog 33 #[.agg #[.slice a 3 cap], .slice la n c] w fun e w' => EvGot e w' w.heap.size (if (runI rows zeroV [] ks).2.2 = 0 then evsM rows zeroV ks else []) (runI rows zeroV [] ks).2.2 ∧ Below w.heap.size w w' := by
  obtain ⟨i0, hi9, hz0, hz1, hz2⟩ := info_parts info_event
  have hn' : ¬ (4096 : Int) < (n : Int) := by omega
  have hll := hL.1
  obtain ⟨_, cs, hR⟩ := hC.rowsAt hp
  have kN := fun W (b : Below w.heap.size w W) => newReplay_ok (hC.below b) (hV.below b) hp (hR.below b)
  have HF0 : Hid (runI rows zeroV [] (ks.drop 0) = runI rows zeroV [] ks) := rfl
  have HT0 : Hid ([] ++ evsM rows zeroV (ks.drop 0) = evsM rows zeroV ks) := rfl
  obtain ⟨fin, hfin⟩ : ∃ fin, fin = runI rows zeroV [] ks := ⟨_, rfl⟩
  obtain ⟨tot, htot⟩ : ∃ tot, tot = evsM rows zeroV ks := ⟨_, rfl⟩
  rw [← hfin] at HF0 ⊢
  rw [← htot] at HT0 ⊢
  obtain ⟨es9, hes⟩ : ∃ es9, es9 = (if fin.2.2 = 0 then tot else []) := ⟨_, rfl⟩
  obtain ⟨cd9, hcd⟩ : ∃ cd9, cd9 = fin.2.2 := ⟨_, rfl⟩
  rw [← hes, ← hcd]
  have HE : Hid (es9 = (if fin.2.2 = 0 then tot else []) ∧ cd9 = fin.2.2) := ⟨hes, hcd⟩
  clear hfin htot hes hcd
  have bw : Below w.heap.size w (w.alloc (.cells #[.slice a 3 cap] 25)) := by go_grown
  have pP : Blk (w.alloc (.cells #[.slice a 3 cap] 25)) w.heap.size 25 [.slice a 3 cap] := blkAt _ _ _ rfl
  clear hC hV
  go_enter Tryd.func33, Tryd.ntmps33
  go_wp2_with fail
  generalize (w.alloc (.cells #[.slice a 3 cap] 25)) = U at *
  go_wp2_with (first | refine wpList_load_blk rfl 25 _ rfl w.heap.size rfl pP _ Tryd.underlying25 rfl (by kernel_rfl) ?_)
  refine (kN _ bw).mono ?_
  rintro e w1 ⟨rfl, hb⟩
  replace bw := bel_trans bw hb
  have pN := Blk.new w1 88 [.slice none 0 0, .int .i64 0, .int .i64 0, .int .i64 0, .slice none 0 0, .int .i64 0, .int .i64 0, .int .i64 0, .slice none 0 0, .int .i64 0, .int .i64 0, .int .i64 0, .int .i64 0, .int .i64 0, .int .i64 0, .int .i64 0, .int .i64 0, .int .i64 0, .slice none 0 0]
  have ha : Below w1.heap.size w1 (w1.alloc (.cells #[.slice none 0 0, .int .i64 0, .int .i64 0, .int .i64 0, .slice none 0 0, .int .i64 0, .int .i64 0, .int .i64 0, .slice none 0 0, .int .i64 0, .int .i64 0, .int .i64 0, .int .i64 0, .int .i64 0, .int .i64 0, .int .i64 0, .int .i64 0, .int .i64 0, .slice none 0 0] 88)) := by go_grown
  have hgw : w.heap.size ≤ w1.heap.size := bw.size
  clear kN hb pP
  go_wp2_with (refine wpList_store_blk rfl 88 _ _ rfl w1.heap.size (Rp.machR (.slice none 0 0) cs.1.val cs.2.1.val cs.2.2.val zeroV) rfl rfl pN (by kernel_rfl) rfl rfl ?_)
  intro W9 pM g1
  replace bw := (bel_trans bw ha).grown g1 (by simp; omega) (fun x hx => by cases hx; omega)
  have st : OnEv w W9 w1.heap.size cs rows ks n 0 fin tot zeroV [] [] (.slice none 0 0) := ⟨by omega, HF0.out, zero_shape, ⟨_, pM.out, World.ownsRow_nil _ _ _ _⟩, bw, World.ownsRow_nil _ _ _ _, HT0.out, by simp, rfl⟩
  clear g1 ha pN pM HF0 HT0 bw
  generalize w1.heap.size = g at *
  go_wp2_with fail
  go_loopw [8, 26] (fun so si wr => ∃ (i : Nat) (m : V4) (fs : List I3) (es : List I4) (vo : Value), vo = so ∧ si = .int .i64 i ∧ OnEv w wr g cs rows ks n i fin tot m fs es vo) (fun _ si _ => n - (intOf si).toNat)
  case atStart => exact ⟨0, _, _, _, _, rfl, rfl, st⟩
  case round =>
    clear st
    obtain ⟨i, m, fs, es, so, rfl, rfl, hi, hr, hs, ⟨fv, hM, hF⟩, bw, q, ht, hfl, hel⟩ := hrel
    by_cases hlt : i < n
    · obtain ⟨lb, lo, rfl, hc, hlb⟩ := ints_cellE hL hlt
      replace hc := cells_kept bw _ _ hc
      have e9 : ks.drop i = ks.getD i 0 :: ks.drop (i + 1) := by rw [List.drop_eq_getElem_cons (by omega)]; simp [List.getD, show i < ks.length by omega]
      have HR : Hid (runI rows m fs (ks.getD i 0 :: ks.drop (i + 1)) = fin) := by rw [Hid, ← e9]; exact hr
      have HT : Hid (es ++ (eventM rows m (ks.getD i 0).toNat :: evsM rows (goM rows m (ks.getD i 0)).1 (ks.drop (i + 1))) = tot) := by rw [e9] at ht; exact ht
      have hlt' : (i : Int) < (n : Int) := by omega
      have hi0 : (0 : Int) ≤ (i : Int) := by omega
      generalize ks.getD i 0 = kk at *
      clear hr ht e9
      have hgl := hM.lt
      have hrg := Blk.rangeE (machR_app fv cs.1.val cs.2.1.val cs.2.2.val m ▸ hM)
      have pN := Blk.new wr 86 [.slice none 0 0, .int .i64 0, .int .i64 0, .int .i64 0, .slice none 0 0, .int .i64 0, .int .i64 0, .int .i64 0, .slice none 0 0, .int .i64 0, .int .i64 0, .int .i64 0, .int .i64 0, .int .i64 0, .int .i64 0, .int .i64 0, .int .i64 0, .int .i64 0]
      have ha : Below wr.heap.size wr (wr.alloc (.cells #[.slice none 0 0, .int .i64 0, .int .i64 0, .int .i64 0, .slice none 0 0, .int .i64 0, .int .i64 0, .int .i64 0, .slice none 0 0, .int .i64 0, .int .i64 0, .int .i64 0, .int .i64 0, .int .i64 0, .int .i64 0, .int .i64 0, .int .i64 0, .int .i64 0] 86)) := by go_grown
      go_wp2_with (first | refine wpList_load_mid rfl 86 _ rfl g 0 rfl (machCells cs.1.val cs.2.1.val cs.2.2.val m) _ hrg Tryd.underlying86 rfl (by kernel_rfl) ?_ | refine wpList_store_blk rfl 86 _ _ rfl wr.heap.size (machCells cs.1.val cs.2.1.val cs.2.2.val m) rfl rfl pN (by kernel_rfl) rfl rfl ?_)
      intro W pW g1
      have ng : (some wr.heap.size : Option Nat) ≠ some g := by simp; omega
      have hF1 := (owns_below hF ha).kept g1 (.inr (own_ne_blkR (owns_below hF ha) pN (by decide)).symm)
      have q1 := (owns_below q ha).kept g1 (.inr (own_ne_blkR (owns_below q ha) pN (by decide)).symm)
      have hM1 := (hM.below ha).kept g1 ng
      have bw1 := (bel_trans bw ha).grown g1 (Nat.le_trans bw.size ha.size) (fun x hx => by cases hx; exact bw.size)
      have hWg : w.heap.size ≤ wr.heap.size := bw.size
      clear hrg pN ha g1 ng hM hF q bw hc
      have pW2 := pW.out
      clear pW
      generalize wr.heap.size = gw at *
      have ha : Below W.heap.size W (W.alloc (.cells #[.int .i64 kk] 3)) := by go_grown
      have pK : Blk (W.alloc (.cells #[.int .i64 kk] 3)) W.heap.size 3 [.int .i64 kk] := blkAt _ _ _ rfl
      have hLk : ListAt (W.alloc (.cells #[.int .i64 kk] 3)) w.heap.size (some ⟨W.heap.size, 0, none⟩) 1 1 [kk] := ⟨⟨rfl, by omega, by unfold maxLen; omega, .inr ⟨_, _, rfl, pK.lt, fun t ht9 => by
        obtain rfl : t = 0 := by omega
        simp⟩⟩, fun b o hb _ => by cases hb; exact .inr ⟨_, _, pK⟩⟩
      have kR := run_is (w0 := w) hR (bel_trans bw1 ha) hgw hp hs ⟨fv, hM1.below ha, owns_below hF1 ha⟩ hLk (by omega)
      rw [runI_one] at kR
      replace q1 := owns_below q1 ha
      replace pW2 := pW2.below ha
      clear ha pK hLk hM1 hF1 bw1
      by_cases hz : haltM rows m kk = 0
      · rw [if_pos hz] at kR
        simp only at kR
        obtain ⟨h0, h2, hd, hcn⟩ := halt_can hz
        have hs2 := goM_shape hp hs hz
        have hr2 : runI rows (goM rows m kk).1 (fs ++ ownM rows m kk) (ks.drop (i + 1)) = fin := by
          have := HR.out
          rw [show runI rows m fs (kk :: ks.drop (i + 1)) = runI rows (goM rows m kk).1 (fs ++ ownM rows m kk) (ks.drop (i + 1)) by show (if haltM rows m kk = 0 then _ else _) = _; rw [if_pos hz]] at this
          exact this
        obtain ⟨k, rfl⟩ : ∃ k : Nat, kk = k := ⟨kk.toNat, by omega⟩
        rw [Int.toNat_natCast] at hd
        have hk : k < 3 := by omega
        have ht2 := HT.out
        rw [Int.toNat_natCast] at ht2
        have hol := ownM_lenE rows m (k : Int)
        clear HR HT hz h0 h2 hcn
        go_wp2_with fail
        refine kR.mono ?_
        rintro e w3 ⟨rfl, hRan, bw3, kp⟩
        replace q1 := kp.owns q1 (by decide) (by decide)
        replace pW2 := kp.blk pW2 (by decide) (by decide)
        have kV := event_is ((hR.below bw3).mach pW2) hp hs hk hd
        obtain ⟨ev, hev⟩ : ∃ ev, ev = eventM rows m k := ⟨_, rfl⟩
        rw [← hev] at kV ht2
        obtain ⟨v0, v1, v2, v3⟩ := ev
        simp only at kV
        clear kR kp hd hev
        go_wp2_with fail
        refine kV.mono ?_
        rintro e w4 ⟨rfl, hb⟩
        have bw4 := bel_trans bw3 hb
        have hRan4 : RanTo w4 g w.heap.size cs (goM rows m k).1 (fs ++ ownM rows m k) := by obtain ⟨f9, h9, h8⟩ := hRan; exact ⟨f9, h9.below hb, owns_below h8 hb⟩
        replace q1 := owns_below q1 hb
        clear kV hb pW2 hRan bw3
        have ha : Below w4.heap.size w4 (w4.alloc (.cells #[.int .i64 v0, .int .i64 v1, .int .i64 v2, .int .i64 v3] 107)) := by go_grown
        have pV : Blk (w4.alloc (.cells #[.int .i64 v0, .int .i64 v1, .int .i64 v2, .int .i64 v3] 107)) w4.heap.size 107 [.int .i64 v0, .int .i64 v1, .int .i64 v2, .int .i64 v3] := blkAt _ _ _ rfl
        have hsz4 := bw4.size
        go_wp2_with (at_builtin; refine wpList_append_own _ rfl _ _ 61 rfl w.heap.size 107 i0 (.agg #[.int .i64 0, .int .i64 0, .int .i64 0, .int .i64 0]) 4 32 Tryd.underlying61 hi9 hz0 hz1 hz2 rfl (by decide) _ _ _ rfl (q1.alloc _) ⟨w4.heap.size, 0, none⟩ 1 1 [.int .i64 v0, .int .i64 v1, .int .i64 v2, .int .i64 v3] rfl rfl (four_at pV) (four_one _ _ _ _) ?c3 ?c4 ?c5 ?_)
        case c3 => unfold maxLen; omega
        case c4 => omega
        case c5 => simp; omega
        intro v9 wn q9 g9 _
        have R : wn.ownsRow w.heap.size 107 4 v9 (es ++ [(v0, v1, v2, v3)]).length (flat4 (es ++ [(v0, v1, v2, v3)])) := by
          rw [List.length_append, flat4_snoc, hel]
          exact q9
        have bn := (bel_trans bw4 ha).grown g9 (Nat.le_trans hsz4 ha.size) (fun k hk => (q1.lt k hk).1)
        have hRn : RanTo wn g w.heap.size cs (goM rows m k).1 (fs ++ ownM rows m k) := by
          obtain ⟨f9, h9, h8⟩ := hRan4
          have q1a := owns_below q1 ha
          exact ⟨f9, (h9.below ha).kept g9 (own_ne_blkR q1a (h9.below ha) (by decide)).symm, (owns_below h8 ha).kept g9 (owns_ne (owns_below h8 ha) q1a (by decide))⟩
        have st2 : OnEv w wn g cs rows ks n (i + 1) fin tot (goM rows m k).1 (fs ++ ownM rows m k) (es ++ [(v0, v1, v2, v3)]) v9 := ⟨by omega, hr2, hs2, hRn, bn, R, by rw [List.append_assoc]; exact ht2, by rw [List.length_append]; omega, by rw [List.length_append]; simp; omega⟩
        clear R bn hRn q9 g9 q1 ha pV hRan4 bw4 hr2 hs2 ht2 hs
        go_wp2
        go_roundw
        case rel => exact ⟨i + 1, _, _, _, _, rfl, by go_num, st2⟩
        case measure => simp [intOf]; omega
      · rw [if_neg hz] at kR
        simp only at kR
        have hfe : fin = (m, fs, haltM rows m kk) := by
          rw [← HR.out]
          show (if haltM rows m kk = 0 then _ else _) = _
          rw [if_neg hz]
        have hne : (haltM rows m kk != 0) = true := by simp [hz]
        have HZ : Hid (es9 = [] ∧ cd9 = haltM rows m kk) := by
          obtain ⟨h8, h9⟩ := HE.out
          rw [hfe] at h8 h9
          exact ⟨h8.trans (if_neg hz), h9⟩
        clear HR HT hz hfe HE
        go_wp2_with fail
        refine kR.mono ?_
        rintro e w3 ⟨rfl, hRan, bw3, kp⟩
        clear kR kp hRan q1 pW2
        go_wp2
        go_ret2
        rw [HZ.out.1, HZ.out.2]
        exact ⟨⟨_, rfl, World.ownsRow_nil _ _ _ _⟩, bw3⟩
    · obtain rfl : i = n := by omega
      have hfe : fin = (m, fs, 0) := by rw [← hr, List.drop_of_length_le (by omega)]; rfl
      have hte : es = tot := by rw [← ht, List.drop_of_length_le (by omega)]; simp [evsM]
      have HZ : Hid (es9 = es ∧ cd9 = 0) := by
        obtain ⟨h8, h9⟩ := HE.out
        rw [hfe] at h8 h9
        exact ⟨h8.trans ((if_pos rfl).trans hte.symm), h9⟩
      clear hr ht hfe hte HE
      go_wp2
      go_ret2
      rw [HZ.out.1, HZ.out.2]
      exact ⟨⟨_, rfl, q⟩, bw⟩
end Go.Proofs.YtmhngodbnoonhaaDoor


/-
  What the condition on the table vmShape gives the walks.
-/
namespace Go.Proofs.YtmhngodbnoonhaaDoor
open Go.RowKit Go.ChangeShapes

theorem gVmShape : Tryd.prog.globalNamed "loop.example/g00632/impl.vmShape" = some 0 := by kernel_rfl
theorem tVmShape : (Tryd.prog.globals[0]?).map (·.type) = some 152 := by kernel_rfl

section
variable {H : Type} {enc : TypeId × Value → H} {w : World} {base : Nat} {spare : Nat → Bool} {held : Bool}
set_option maxRecDepth 100000 in
/-- Two cells that are read as a row of the table. -/
theorem part_cells {fuel : Nat} {cs : List Value} {a b : Int} {p : List MemPlace} (h : DataW.trod enc Tryd.prog w base spare held fuel 151 cs = some (.agg [.lit (.int .i64 a), .lit (.int .i64 b)], p)) : cs = [.int .i64 a, .int .i64 b] := by
  obtain ⟨y0, y1, n, hx, hl, h0, h1⟩ := trod_struct2 Tryd.underlying151 h
  have hl2 : cs.length = 2 := hl.trans (by kernel_rfl)
  have hk : Tryd.prog.cellsOf 3 = 1 := by kernel_rfl
  match cs, hl2 with
  | [c0, c1], _ =>
    simp only [hk] at h0 h1
    obtain ⟨z0, e0, hy0, _⟩ := DataW.trod_int Tryd.underlying3 h0
    obtain ⟨z1, e1, hy1, _⟩ := DataW.trod_int Tryd.underlying3 h1
    simp at e0 e1
    subst hy0 hy1 e0 e1
    simp at hx
    simp [hx]
set_option maxRecDepth 100000 in
theorem shape_cells {fuel : Nat} {cs : List Value} {p : List MemPlace} (h : DataW.trod enc Tryd.prog w base spare held fuel 152 cs = some (Rows.laid_loop_example_g00632_impl_vmShape, p)) : cs = [3, 6, 4, 9, 2, 3, 6, 9].map (Value.int .i64) := by
  obtain ⟨xs, m, _, hx, hl, hn, hi⟩ := DataW.trod_array Tryd.underlying152 h
  have hk : Tryd.prog.cellsOf 151 = 2 := by kernel_rfl
  have hl8 : cs.length = 8 := hl.trans (by kernel_rfl)
  rw [hk] at hi
  match xs, hn with
  | [⟨x0, p0⟩, ⟨x1, p1⟩, ⟨x2, p2⟩, ⟨x3, p3⟩], _ =>
    unfold Rows.laid_loop_example_g00632_impl_vmShape at hx
    simp at hx
    obtain ⟨⟨rfl, rfl, rfl, rfl⟩, _⟩ := hx
    match cs, hl8 with
    | [c0, c1, c2, c3, c4, c5, c6, c7], _ =>
      have g0 := part_cells (hi 0 (by decide))
      have g1 := part_cells (hi 1 (by decide))
      have g2 := part_cells (hi 2 (by decide))
      have g3 := part_cells (hi 3 (by decide))
      simp at g0 g1 g2 g3
      simp [g0, g1, g2, g3]
end

set_option maxRecDepth 100000 in
/-- What the condition on the table gives the walks. -/
theorem vmShape_of_laid {W : World} {p : List (String × DataW Unit)} (hp : p = [("loop.example/g00632/impl.vmShape", Rows.laid_loop_example_g00632_impl_vmShape)]) (h : laidMetH Tryd.prog p W) : VmShape W := by
  subst hp
  rw [MakeChecks.laidMetH_plain _ _ _ (by kernel_rfl)] at h
  obtain ⟨ps, ⟨g0, t0, cs0, f0, p0, q0, hg0, ht0, hv0, hd0, _, _⟩, _, _⟩ := h
  obtain rfl := Option.some.inj (gVmShape.symm.trans hg0)
  obtain rfl := Option.some.inj (tVmShape.symm.trans ht0)
  have hcs := shape_cells hd0
  unfold World.var? at hv0
  simp only [gVmShape, Option.bind_some] at hv0
  cases hh : W.heap[0]? with
  | none => rw [hh] at hv0; cases hv0
  | some o =>
    rw [hh] at hv0
    cases o with
    | cells cs t fr =>
      simp only [Option.some.injEq] at hv0
      subst hv0
      intro i v hi
      rw [← hcs] at hi
      simp only [World.cell?, hh]
      simpa using hi
    | _ => cases hv0
end Go.Proofs.YtmhngodbnoonhaaDoor


/-
  What the frame tells of a slice that came in holds in every later world that keeps what was there.
-/
namespace Go.Proofs.YtmhngodbnoonhaaDoor
open Go.RowKit

theorem IsRow.below {k : IntKind} {w w' : World} {a : Option Addr} {len cap : Nat} {zs : List Int} (h : IsRow k w a len cap zs) (hb : Below w.heap.size w w') : IsRow k w' a len cap zs := by
  rcases h with h | ⟨x, h1, h2, h3, h4, h5, h6⟩
  · exact .inl h
  · refine .inr ⟨x, h1, h2, h3, h4, fun i hi => ?_, h6⟩
    have hc := h5 i hi
    have hlt : (x.add i).block < w.heap.size := by
      rcases Nat.lt_or_ge (x.add i).block w.heap.size with h' | h'
      · exact h'
      · simp [World.cell?, Array.getElem?_eq_none h'] at hc
    rw [hb.cell hlt]
    exact hc
theorem IsRow.len_le {k : IntKind} {w : World} {a : Option Addr} {len cap : Nat} {zs : List Int} (h : IsRow k w a len cap zs) : len ≤ maxLen := by
  rcases h with ⟨_, rfl, _, _⟩ | ⟨x, h1, h2, h3, _⟩
  · omega
  · omega
theorem IsRow.drew {k : IntKind} {w : World} {a : Option Addr} {len cap : Nat} {zs : List Int} (h : IsRow k w a len cap zs) (d : Nat) : IsRow k (w.drewN d) a len cap zs := h
end Go.Proofs.YtmhngodbnoonhaaDoor
