/-
  Joined: CntI, FulC, RbgI.
-/
import Derived.Test.YtcdpcfnlflpjnaaGreatDoorProg
import Derived.Deep.RegionHeld3
import Derived.KernelRfl
import Derived.Tactics
import Derived.WalkKit
import Derived.WalkSpells
import Derived.WalkLawsBesides
import Derived.RegionTactic
import Derived.BigQuiet
import Derived.Deep.QuietTactic
import Derived.Deep.Slices
import Derived.Deep.Strs
import Derived.Deep.Fields
import Derived.ChangeSame
import Derived.Handy
import Derived.OwnWalk
import Derived.ChangeSlices
import Derived.Lib.SmallJoins
import Derived.Shelf.Abstract
import Derived.Laws.BytesArg
import Derived.Deep.RegionLaw
import Derived.Laws.OwnMore
import Derived.Laws.CopyOwn
import Derived.Laws.Tables
import Derived.BigRegion
import Derived.Maps.AppendAt
import Derived.Stop.Asserts
import Derived.Recover
import Derived.Laws.RangeString
import Derived.Laws.RangeAny
import Derived.Laws.Bits
import Derived.Lib.FieldsP
import Derived.Shelf.SlSortCmp.NoneTotal
import Derived.Shelf.Spec.SlicesGrow
import Derived.Laws.AppendOwnNone
import Derived.Lib.SliceRun
import Derived.Deep.MidRow
import Derived.Maps.OwnSet
import Derived.Carry
import Derived.Deep.CutRange
import Derived.Test.YtcdpcfnlflpjnaaGreatDoorK01
import Derived.Test.YtcdpcfnlflpjnaaGreatDoorK02
import Derived.Test.YtcdpcfnlflpjnaaGreatDoorK04
import Derived.Test.YtcdpcfnlflpjnaaGreatDoorK05
import Derived.Test.YtcdpcfnlflpjnaaGreatDoorK07
import Derived.Test.YtcdpcfnlflpjnaaGreatDoorK08
import Derived.Test.YtcdpcfnlflpjnaaGreatDoorK09
import Derived.Test.YtcdpcfnlflpjnaaGreatDoorK11
import Derived.Test.YtcdpcfnlflpjnaaGreatDoorK14
import Derived.Test.YtcdpcfnlflpjnaaGreatDoorK25
import Derived.Test.YtcdpcfnlflpjnaaGreatDoorK26
import Derived.Test.YtcdpcfnlflpjnaaGreatDoorK29
import Derived.Test.YtcdpcfnlflpjnaaGreatDoorK31
import Derived.Test.YtcdpcfnlflpjnaaGreatDoorK33
import Derived.Test.YtcdpcfnlflpjnaaGreatDoorK37
import Derived.Test.YtcdpcfnlflpjnaaGreatDoorK38
import Derived.Test.YtcdpcfnlflpjnaaGreatDoorK39
import Derived.Test.YtcdpcfnlflpjnaaGreatDoorK40
import Derived.Test.YtcdpcfnlflpjnaaGreatDoorK43

/-
  The program's runsFrom and CountRuns.
-/
namespace Go.Proofs.YtcdpcfnlflpjnaaGreatDoor
open Go.RowKit
set_option linter.unusedVariables false
set_option linter.unusedSimpArgs false

def CtOk (rows : List (List I3)) (L : List (Rec6 V4 × Value)) (cts : List Int) : Prop := cts.length = L.length ∧ ∀ i r mv, L[i]? = some (r, mv) → cts.getD i 0 = 0 ∨ cts.getD i 0 = (cntM rows r.1 : Int)
theorem CtOk.put {rows : List (List I3)} {L : List (Rec6 V4 × Value)} {cts : List Int} (h : CtOk rows L cts) {at9 : Nat} {r : Rec6 V4} {mv : Value} (hr : L[at9]? = some (r, mv)) : CtOk rows L (cts.set at9 (cntM rows r.1 : Int)) := by
  have hl : at9 < L.length := (List.getElem?_eq_some_iff.1 hr).1
  refine ⟨by simp [h.1], fun i r' mv' hi => ?_⟩
  by_cases e : at9 = i
  · subst e
    rw [hr] at hi
    cases hi
    right
    simp [List.getD, h.1, hl]
  · have := h.2 i r' mv' hi
    simp only [List.getD, List.getElem?_set_ne e] at this ⊢
    exact this
theorem move_at {rows : List (List I3)} {F : List (Rec6 V4)} {m : V4} {j : Nat} {k : Int} (h : (enabM rows m 3)[j]? = some k) : (mvsOf rows F m)[j]? = some (mvOf rows F m k) := by
  unfold mvsOf
  rw [List.getElem?_map, h]
  rfl
theorem range_move {w : World} {B G cap : Nat} {xs : List I4} (h : w.ownsRow B 158 4 (.slice (some ⟨G, 0, none⟩) xs.length cap) xs.length (flat4 xs)) {j : Nat} {x : I4} (hx : xs[j]? = some x) : w.rangeAt G (j * 4) [.int .i64 x.1, .int .i64 x.2.1, .int .i64 x.2.2.1, .int .i64 x.2.2.2] := by
  have hl : j < xs.length := (List.getElem?_eq_some_iff.1 hx).1
  have hg : xs.getD j (0, 0, 0, 0) = x := by simp [List.getD, hx]
  obtain ⟨f0, f1, f2, f3⟩ := flat4_at xs j hl
  rw [hg] at f0 f1 f2 f3
  intro q v hq
  have hq4 : q < 4 := by have := (List.getElem?_eq_some_iff.1 hq).1; simpa using this
  rw [h.cellAt (j * 4 + q) (by omega)]
  match q, hq4 with
  | 0, _ => simp at hq; subst hq; exact f0
  | 1, _ => simp at hq; subst hq; exact f1
  | 2, _ => simp at hq; subst hq; exact f2
  | 3, _ => simp at hq; subst hq; exact f3
end Go.Proofs.YtcdpcfnlflpjnaaGreatDoor


/-
  All bugs and witnesses, both ways, plain.
-/
namespace Go.Proofs.YtcdpcfnlflpjnaaGreatDoor
set_option linter.unusedVariables false

def bugsI (rows : List (List I3)) (m : V4) : List I3 := if stuckM rows m then [(14, 0, 0)] else (enabM rows m 3).flatMap (ownM rows m)
def localS (rows : List (List I3)) (m : V4) : List I3 := (enabM rows m 3).foldl (fun out k => mergeB out (foundM rows m k)) (deadM rows m)
theorem mem_fold {f : Int → List I3} {x : I3} : ∀ (ks : List Int) (out : List I3), x ∈ ks.foldl (fun out k => mergeB out (f k)) out ↔ x ∈ out ∨ ∃ k ∈ ks, x ∈ f k
  | [], out => by simp
  | k :: ks, out => by
    rw [List.foldl_cons, mem_fold ks, mem_mergeB]
    simp only [List.mem_cons, exists_eq_or_imp, or_assoc]
theorem mem_localS {rows : List (List I3)} {m : V4} {x : I3} : x ∈ localS rows m ↔ x ∈ deadM rows m ∨ ∃ k ∈ enabM rows m 3, x ∈ foundM rows m k := mem_fold _ _
theorem mem_foundM {rows : List (List I3)} {m : V4} {k : Int} {x : I3} : x ∈ foundM rows m k ↔ x ∈ ownM rows m k ∨ x ∈ deadM rows (goM rows m k).1 := by
  unfold foundM deadM
  split
  · rw [mem_putB]
    simp
  · simp
theorem mem_bugsI {rows : List (List I3)} {m : V4} {x : I3} : x ∈ bugsI rows m ↔ x ∈ deadM rows m ∨ ∃ k ∈ enabM rows m 3, x ∈ ownM rows m k := by
  unfold bugsI deadM
  by_cases hs : stuckM rows m = true
  · rw [if_pos hs, if_pos hs]
    have he : enabM rows m 3 = [] := by
      unfold stuckM at hs
      simp at hs
      exact hs.1
    rw [he]
    simp
  · rw [if_neg hs, if_neg hs]
    simp
def allI (rows : List (List I3)) (S : List (Rec6 V4)) : List I3 := mergeB (S.flatMap fun r => bugsI rows r.1) []
def allS (rows : List (List I3)) (S : List (Rec6 V4)) : List I3 := S.foldl (fun out r => mergeB out (localS rows r.1)) []
theorem mem_foldR {f : Rec6 V4 → List I3} {x : I3} : ∀ (S : List (Rec6 V4)) (out : List I3), x ∈ S.foldl (fun out r => mergeB out (f r)) out ↔ x ∈ out ∨ ∃ r ∈ S, x ∈ f r
  | [], out => by simp
  | r :: S, out => by
    rw [List.foldl_cons, mem_foldR S, mem_mergeB]
    simp only [List.mem_cons, exists_eq_or_imp, or_assoc]
theorem rises_foldR {f : Rec6 V4 → List I3} : ∀ (S : List (Rec6 V4)) (out : List I3), Rises out → Rises (S.foldl (fun out r => mergeB out (f r)) out)
  | [], out, h => h
  | r :: S, out, h => rises_foldR S _ (mergeB_rises _ _)
theorem mem_allI {rows : List (List I3)} {S : List (Rec6 V4)} {x : I3} : x ∈ allI rows S ↔ ∃ r ∈ S, x ∈ bugsI rows r.1 := by
  unfold allI
  rw [mem_mergeB]
  simp
theorem all_same {rows : List (List I3)} (h : (fullS rows).length ≤ 2000) : allS rows (fullS rows) = allI rows (fullS rows) := by
  refine (rises_foldR _ _ List.Pairwise.nil).same (mergeB_rises _ _) (fun x => ?_)
  show x ∈ allS rows (fullS rows) ↔ x ∈ allI rows (fullS rows)
  rw [mem_allI]
  unfold allS
  rw [mem_foldR]
  constructor
  · rintro (hx | ⟨r, hr, hx⟩)
    · simp at hx
    · rcases mem_localS.1 hx with hx | ⟨k, hk, hx⟩
      · exact ⟨r, hr, mem_bugsI.2 (.inl hx)⟩
      · rcases mem_foundM.1 hx with hx | hx
        · exact ⟨r, hr, mem_bugsI.2 (.inr ⟨k, hk, hx⟩)⟩
        · have hc := fullS_closed h r hr (k, (goM rows r.1 k).1) (List.mem_map.2 ⟨k, hk, rfl⟩)
          obtain ⟨q, hq, e⟩ := List.mem_map.1 hc
          refine ⟨q, hq, mem_bugsI.2 (.inl ?_)⟩
          have e' : q.1 = (goM rows r.1 k).1 := e
          rw [e']
          exact hx
  · rintro ⟨r, hr, hx⟩
    refine .inr ⟨r, hr, mem_localS.2 ?_⟩
    rcases mem_bugsI.1 hx with hx | ⟨k, hk, hx⟩
    · exact .inl hx
    · exact .inr ⟨k, hk, mem_foundM.2 (.inl hx)⟩
end Go.Proofs.YtcdpcfnlflpjnaaGreatDoor


/-
  The program's bugs of a state's record: a deadlock, or what its moves find.
-/
namespace Go.Proofs.YtcdpcfnlflpjnaaGreatDoor
open Go.RowKit
set_option linter.unusedVariables false
set_option linter.unusedSimpArgs false

def fndJ (rows : List (List I3)) (m : V4) (j : Nat) : List I3 := ((enabM rows m 3).take j).flatMap (ownM rows m)
theorem fndJ_succ {rows : List (List I3)} {m : V4} {j : Nat} {k : Int} (h : (enabM rows m 3)[j]? = some k) : fndJ rows m (j + 1) = fndJ rows m j ++ ownM rows m k := by
  unfold fndJ
  rw [List.take_add_one, h]
  simp
theorem fndJ_len (rows : List (List I3)) (m : V4) : ∀ j, (fndJ rows m j).length ≤ j
  | 0 => by simp [fndJ]
  | j + 1 => by
    have ih := fndJ_len rows m j
    cases h : (enabM rows m 3)[j]? with
    | none =>
      have e : fndJ rows m (j + 1) = fndJ rows m j := by unfold fndJ; rw [List.take_add_one, h]; simp
      rw [e]
      omega
    | some k =>
      rw [fndJ_succ h, List.length_append]
      have := ownM_len rows m k
      omega
theorem flat_snoc6 (xs : List I3) (x : I3) : flat (xs ++ [x]) = flat xs ++ [.int .i64 x.1, .int .i64 x.2.1, .int .i64 x.2.2] := by simp [flat, I3.cells]
theorem three_new6 {w : World} {g t : Nat} {a b c : Value} (h : Blk w g t [a, b, c]) : ∀ j u, [a, b, c][j]? = some u → w.cell? ((⟨g, 0, none⟩ : Addr).add j) = some u := cells_new h

set_option maxHeartbeats 2000000 in
set_option maxRecDepth 100000 in
theorem rbug_is {w : World} {B E : Nat} {cs : Sl × Sl × Sl} {rows : List (List I3)} {F : List (Rec6 V4)} {r : Rec6 V4} {mv : Value} (hE : Blk w E 89 (rcC cs r mv)) (hmv : w.ownsRow B 158 4 mv (mvsOf rows F r.1).length (flat4 (mvsOf rows F r.1))) (hp : progOk rows = true) (hs : shapeOk r.1 = true) (hI : ∀ k, k < 3 → Instrs w (slK cs k).1 (slK cs k).2.1 (slK cs k).2.2 (codeM rows k)) :
    Calls Tryz.prog 59 #[.pointer (some ⟨E, 0, none⟩)] w fun e w' => BugsOne e w' w.heap.size (bugsI rows r.1) ∧ Below w.heap.size w w' := by
  obtain ⟨i0, hi9, hz0, hz1, hz2⟩ := info_parts info_bug
  have kU := Rq.stuck_is E cs rows r.1 w ⟨⟨_, _, _, _, hE⟩, hI⟩ hp hs
  have hml : (mvsOf rows F r.1).length = (enabM rows r.1 3).length := by simp [mvsOf]
  have hen := enabM_len rows r.1 3
  cases hst : stuckM rows r.1
  · rw [hst] at kU
    have HB : Hid (bugsI rows r.1 = fndJ rows r.1 (enabM rows r.1 3).length) := by
      rw [Hid]
      unfold bugsI fndJ
      rw [hst, List.take_length]
      rfl
    obtain ⟨ma, mc, rfl⟩ : ∃ ma mc, mv = .slice ma (mvsOf rows F r.1).length mc := by
      rcases hmv.2 with ⟨h1, h2⟩ | ⟨gq, cq, cur, h1, _⟩
      · exact ⟨none, 0, by rw [h1, h2]⟩
      · exact ⟨_, _, h1⟩
    have cM : w.cell? ⟨E, 21, none⟩ = some (.slice ma (mvsOf rows F r.1).length mc) := by rw [hE.cell]; rfl
    have HM : Hid (∀ j k, (enabM rows r.1 3)[j]? = some k → ∃ G, ma = some ⟨G, 0, none⟩ ∧ w.rangeAt G (j * 4) [.int .i64 (goM rows r.1 k).2, .int .i64 k, .int .i64 (r.1.1.getD k.toNat 0), .int .i64 (ixS F (goM rows r.1 k).1 : Int)]) := by
      intro j k hjk
      have hpos : 0 < (mvsOf rows F r.1).length := by
        rw [hml]
        exact Nat.lt_of_le_of_lt (Nat.zero_le _) (List.getElem?_eq_some_iff.1 hjk).1
      obtain ⟨G, c9, e9, _⟩ := own_some6 hmv hpos
      cases e9
      exact ⟨G, rfl, range_move hmv (move_at hjk)⟩
    rw [hml] at cM
    obtain ⟨n, hn⟩ : ∃ n, n = (enabM rows r.1 3).length := ⟨_, rfl⟩
    rw [← hn] at cM hen HB
    have HN : Hid (n = (enabM rows r.1 3).length) := hn
    clear hn hml hmv hE hst hI
    go_enter Tryz.func59, Tryz.ntmps59
    go_wp2_with fail
    refine kU.mono ?_
    rintro e w1 ⟨rfl, bw⟩
    have cM1 := cells_kept bw _ _ cM
    have st : w1.ownsRow w.heap.size 53 3 (.slice none 0 0) (fndJ rows r.1 0).length (flat (fndJ rows r.1 0)) := World.ownsRow_nil _ _ _ _
    clear kU cM
    go_wp2_with fail
    go_loopw [3, 17] (fun s3 s17 wr => ∃ j : Nat, s17 = .int .i64 j ∧ j ≤ n ∧ wr.ownsRow w.heap.size 53 3 s3 (fndJ rows r.1 j).length (flat (fndJ rows r.1 j)) ∧ Below w.heap.size w wr) (fun _ s17 _ => n - (intOf s17).toNat)
    case atStart => exact ⟨0, rfl, Nat.zero_le _, st, bw⟩
    case round =>
      clear st bw cM1
      obtain ⟨j, rfl, hjn, q, bw⟩ := hrel
      obtain ⟨va, vn, vc, rfl⟩ := own_slice6 q
      by_cases hlt : j < n
      · have hkj : (enabM rows r.1 3)[j]? = some ((enabM rows r.1 3).getD j 0) := by rw [List.getD, List.getElem?_eq_getElem (by rw [← HN.out]; exact hlt)]; rfl
        generalize (enabM rows r.1 3).getD j 0 = k at hkj
        obtain ⟨G, rfl, hrg⟩ := HM.out j k hkj
        have hfs := fndJ_succ hkj
        have hfl := fndJ_len rows r.1 j
        unfold ownM at hfs
        have hrw : wr.rangeAt G (j * 4) [.int .i64 (goM rows r.1 k).2, .int .i64 k, .int .i64 (r.1.1.getD k.toNat 0), .int .i64 (ixS F (goM rows r.1 k).1 : Int)] := fun q v hq => cells_kept bw _ _ (hrg q v hq)
        generalize ixS F (goM rows r.1 k).1 = ix at *
        generalize (goM rows r.1 k).2 = f at *
        generalize r.1.1.getD k.toNat 0 = pc at *
        have hlt3 : (j : Int) < (n : Int) := by omega
        have hj0 : (0 : Int) ≤ (j : Int) := by omega
        clear hkj hrg
        have pN := Blk.new wr 158 [.int .i64 0, .int .i64 0, .int .i64 0, .int .i64 0]
        have hbN : Below wr.heap.size wr (wr.alloc (.cells #[.int .i64 0, .int .i64 0, .int .i64 0, .int .i64 0] 158)) := by go_grown
        go_wp2_with (first | refine wpList_load_mid rfl 158 _ rfl G (j * 4) rfl [.int .i64 f, .int .i64 k, .int .i64 pc, .int .i64 (ix : Int)] _ hrw Tryz.underlying158 rfl (by kernel_rfl) ?_ | refine wpList_store_blk rfl 158 _ _ rfl wr.heap.size [.int .i64 f, .int .i64 k, .int .i64 pc, .int .i64 (ix : Int)] rfl rfl pN (by kernel_rfl) rfl rfl ?_)
        intro w3 p3 g3
        have pQ := p3.out
        have b3 : Below wr.heap.size wr w3 := hbN.grown g3 hbN.size (fun q e => by cases e; exact Nat.le_refl _)
        replace bw := bel_trans bw b3
        replace q := owns_below q b3
        have cQ : w3.cell? ⟨wr.heap.size, 0, none⟩ = some (.int .i64 f) := by simpa using pQ.cell 0
        have rQ : w3.rangeAt wr.heap.size 0 [.int .i64 f, .int .i64 k, .int .i64 pc] := fun i v hi => by
          rw [Nat.zero_add, pQ.cell]
          have hi3 : i < 3 := by have := (List.getElem?_eq_some_iff.1 hi).1; simpa using this
          match i, hi3 with
          | 0, _ => exact hi
          | 1, _ => exact hi
          | 2, _ => exact hi
        clear p3 g3 pN hbN b3 hrw pQ
        generalize wr.heap.size = Q at *
        by_cases hf : f = 0
        · subst hf
          rw [if_pos rfl, List.append_nil] at hfs
          have st9 : w3.ownsRow w.heap.size 53 3 (.slice va vn vc) (fndJ rows r.1 (j + 1)).length (flat (fndJ rows r.1 (j + 1))) := by rw [hfs]; exact q
          clear hfs q rQ
          go_wp2
          go_roundw
          case rel => exact ⟨j + 1, by go_num, by omega, st9, bw⟩
          case measure => simp [intOf]; omega
        · rw [if_neg hf] at hfs
          have hfn : (f != 0) = true := by simp [hf]
          have HFS : Hid (fndJ rows r.1 (j + 1) = fndJ rows r.1 j ++ [(f, k, pc)]) := hfs
          clear hfs hf
          go_wp2_with (first | refine wpList_load_mid rfl 53 _ rfl Q 0 rfl [.int .i64 f, .int .i64 k, .int .i64 pc] _ rQ Tryz.underlying53 rfl (by kernel_rfl) ?_ | (at_builtin; refine wpList_append_own_at _ rfl _ _ 45 rfl w.heap.size 53 i0 (.agg #[.int .i64 0, .int .i64 0, .int .i64 0]) 3 24 Tryz.underlying45 hi9 hz0 hz1 hz2 rfl (by decide) _ _ _ rfl (q.alloc _) ⟨w3.heap.size, 0, none⟩ 1 1 [.int .i64 f, .int .i64 k, .int .i64 pc] rfl rfl (three_new6 (blkAt _ _ _ rfl)) (three_one _ _ _) ?c3 ?c4 ?c5 ?_))
          case c3 => unfold maxLen; omega
          case c4 => omega
          case c5 => have := bw.size; simp; omega
          intro v6 w4 q6 gr _ at6
          have ha : Below w3.heap.size w3 (w3.alloc (.cells #[.int .i64 f, .int .i64 k, .int .i64 pc] 53)) := by go_grown
          have bw4 := (bel_trans bw ha).grown gr (bel_trans bw ha).size (fun q9 e => (own_lt3 (q.alloc (.cells #[.int .i64 f, .int .i64 k, .int .i64 pc] 53)) e).1)
          have st9 : w4.ownsRow w.heap.size 53 3 v6 (fndJ rows r.1 (j + 1)).length (flat (fndJ rows r.1 (j + 1))) := by
            rw [HFS.out, flat_snoc6, List.length_append]
            exact q6
          clear ha gr at6 q6 q bw rQ cQ HFS
          go_wp2
          go_roundw
          case rel => exact ⟨j + 1, by go_num, by omega, st9, bw4⟩
          case measure => simp [intOf]; omega
      · have hge : ¬ (j : Int) < (n : Int) := by omega
        obtain rfl : j = n := by omega
        have HG : Hid (BugsOne (.returned (.slice va vn vc)) wr w.heap.size (bugsI rows r.1)) := by rw [HB.out]; exact ⟨_, rfl, q⟩
        clear q HB HM
        go_wp2
        go_ret
        exact ⟨HG.out, bw⟩
  · rw [hst] at kU
    have HB : Hid (bugsI rows r.1 = [(14, 0, 0)]) := by
      rw [Hid]
      unfold bugsI
      rw [hst]
      rfl
    clear hst hml hmv hE hI hen
    go_enter Tryz.func59, Tryz.ntmps59
    go_wp2_with fail
    refine kU.mono ?_
    rintro e w1 ⟨rfl, bw⟩
    have hbs := bw.size
    have HG : Hid (BugsOne (.returned (.slice (some ⟨w1.heap.size, 0, none⟩) 1 1)) (w1.alloc (.cells #[.int .i64 14, .int .i64 0, .int .i64 0] 53)) w.heap.size (bugsI rows r.1)) := by
      rw [HB.out]
      exact ⟨_, rfl, World.ownsRow_lit w1 #[.int .i64 14, .int .i64 0, .int .i64 0] 1 hbs (by unfold maxLen; omega) (by simp)⟩
    have b2 : Below w.heap.size w (w1.alloc (.cells #[.int .i64 14, .int .i64 0, .int .i64 0] 53)) := bel_trans bw (by go_grown)
    clear kU HB
    go_wp2
    go_ret
    exact ⟨HG.out, b2⟩
end Go.Proofs.YtcdpcfnlflpjnaaGreatDoor

