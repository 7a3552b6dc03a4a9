/-
  Joined: SbgI, AbgW.
-/
import Derived.Test.YtcdpcfnlflpjnaaGreatDoorProg
import Derived.Deep.RegionHeld3
import Derived.KernelRfl
import Derived.Tactics
import Derived.WalkKit
import Derived.WalkSpells
import Derived.WalkLawsBesides
import Derived.RegionTactic
import Derived.BigQuiet
import Derived.Deep.QuietTactic
import Derived.Deep.Slices
import Derived.Deep.Strs
import Derived.Deep.Fields
import Derived.ChangeSame
import Derived.Handy
import Derived.OwnWalk
import Derived.ChangeSlices
import Derived.Lib.SmallJoins
import Derived.Shelf.Abstract
import Derived.Laws.BytesArg
import Derived.Deep.RegionLaw
import Derived.Laws.OwnMore
import Derived.Laws.CopyOwn
import Derived.Laws.Tables
import Derived.BigRegion
import Derived.Maps.AppendAt
import Derived.Stop.Asserts
import Derived.Recover
import Derived.Laws.RangeString
import Derived.Laws.RangeAny
import Derived.Laws.Bits
import Derived.Lib.FieldsP
import Derived.Shelf.SlSortCmp.NoneTotal
import Derived.Shelf.Spec.SlicesGrow
import Derived.Laws.AppendOwnNone
import Derived.Lib.SliceRun
import Derived.Deep.MidRow
import Derived.Maps.OwnSet
import Derived.Carry
import Derived.Deep.CutRange
import Derived.Test.YtcdpcfnlflpjnaaGreatDoorK01
import Derived.Test.YtcdpcfnlflpjnaaGreatDoorK02
import Derived.Test.YtcdpcfnlflpjnaaGreatDoorK04
import Derived.Test.YtcdpcfnlflpjnaaGreatDoorK05
import Derived.Test.YtcdpcfnlflpjnaaGreatDoorK07
import Derived.Test.YtcdpcfnlflpjnaaGreatDoorK08
import Derived.Test.YtcdpcfnlflpjnaaGreatDoorK09
import Derived.Test.YtcdpcfnlflpjnaaGreatDoorK11
import Derived.Test.YtcdpcfnlflpjnaaGreatDoorK12
import Derived.Test.YtcdpcfnlflpjnaaGreatDoorK13
import Derived.Test.YtcdpcfnlflpjnaaGreatDoorK14
import Derived.Test.YtcdpcfnlflpjnaaGreatDoorK15
import Derived.Test.YtcdpcfnlflpjnaaGreatDoorK23
import Derived.Test.YtcdpcfnlflpjnaaGreatDoorK25
import Derived.Test.YtcdpcfnlflpjnaaGreatDoorK26
import Derived.Test.YtcdpcfnlflpjnaaGreatDoorK29
import Derived.Test.YtcdpcfnlflpjnaaGreatDoorK31
import Derived.Test.YtcdpcfnlflpjnaaGreatDoorK32
import Derived.Test.YtcdpcfnlflpjnaaGreatDoorK33
import Derived.Test.YtcdpcfnlflpjnaaGreatDoorK35
import Derived.Test.YtcdpcfnlflpjnaaGreatDoorK37
import Derived.Test.YtcdpcfnlflpjnaaGreatDoorK38
import Derived.Test.YtcdpcfnlflpjnaaGreatDoorK39
import Derived.Test.YtcdpcfnlflpjnaaGreatDoorK40
import Derived.Test.YtcdpcfnlflpjnaaGreatDoorK41
import Derived.Test.YtcdpcfnlflpjnaaGreatDoorK45
import Derived.Test.YtcdpcfnlflpjnaaGreatDoorK46

/-
  The program's bugs of all that is reached; AllBugs.
-/
namespace Go.Proofs.YtcdpcfnlflpjnaaGreatDoor
open Go.RowKit
set_option linter.unusedVariables false
set_option linter.unusedSimpArgs false

theorem bugsI_fit6 {rows : List (List I3)} {m : V4} (hp : progOk rows = true) (hs : shapeOk m = true) : ∀ x ∈ bugsI rows m, I3.fits x := fun x hx => by
  unfold bugsI at hx
  split at hx
  · simp at hx; subst hx; exact okB_fitsQ rfl
  · obtain ⟨k, hk, hx⟩ := List.mem_flatMap.1 hx
    exact okB_fitsQ (ownM_ok hp hs (enab_halt hk) x hx)
theorem bugsI_len6 (rows : List (List I3)) (m : V4) : (bugsI rows m).length ≤ 3 := by
  unfold bugsI
  split
  · simp
  · have h := fndJ_len rows m (enabM rows m 3).length
    unfold fndJ at h
    rw [List.take_length] at h
    have := enabM_len rows m 3
    omega
def fndA (rows : List (List I3)) (L : List (Rec6 V4 × Value)) (j : Nat) : List I3 := (L.take j).flatMap fun x => bugsI rows x.1.1
theorem fndA_succ {rows : List (List I3)} {L : List (Rec6 V4 × Value)} {j : Nat} {r : Rec6 V4} {mv : Value} (h : L[j]? = some (r, mv)) : fndA rows L (j + 1) = fndA rows L j ++ bugsI rows r.1 := by
  unfold fndA
  rw [List.take_add_one, h]
  simp
theorem fndA_len (rows : List (List I3)) (L : List (Rec6 V4 × Value)) : ∀ j, (fndA rows L j).length ≤ 3 * j
  | 0 => by simp [fndA]
  | j + 1 => by
    have ih := fndA_len rows L j
    cases h : L[j]? with
    | none =>
      have e : fndA rows L (j + 1) = fndA rows L j := by unfold fndA; rw [List.take_add_one, h]; simp
      rw [e]
      omega
    | some x =>
      obtain ⟨r, mv⟩ := x
      rw [fndA_succ h, List.length_append]
      have := bugsI_len6 rows r.1
      omega
theorem fndA_all (rows : List (List I3)) (L : List (Rec6 V4 × Value)) : fndA rows L L.length = (L.map (·.1)).flatMap fun r => bugsI rows r.1 := by
  unfold fndA
  rw [List.take_length, List.flatMap_map]
theorem fndA_fits {rows : List (List I3)} {L : List (Rec6 V4 × Value)} (hp : progOk rows = true) (hsh : Shaped (L.map (·.1))) (j : Nat) : ∀ x ∈ fndA rows L j, I3.fits x := fun x hx => by
  unfold fndA at hx
  obtain ⟨y, hy, hx⟩ := List.mem_flatMap.1 hx
  exact bugsI_fit6 hp (hsh y.1 (List.mem_map.2 ⟨y, List.mem_of_mem_take hy, rfl⟩)) x hx
theorem flat_app6 (xs ys : List I3) : flat (xs ++ ys) = flat xs ++ flat ys := by simp [flat]
theorem news_flat6 {w : World} {B g n c : Nat} {xs : List I3} (h : w.ownsRow B 53 3 (.slice (some ⟨g, 0, none⟩) n c) n (flat xs)) : ∀ j u, (flat xs)[j]? = some u → w.cell? ((⟨g, 0, none⟩ : Addr).add j) = some u := by
  intro j u hj
  have hl : j < (flat xs).length := (List.getElem?_eq_some_iff.1 hj).1
  have h1 := h.1
  rw [Addr.add_mid, Nat.zero_add, h.cellAt j (by omega)]
  exact hj
theorem flat_one6 (xs : List I3) : ∀ u ∈ flat xs, u.oneCell' = true := fun u hu => by
  unfold flat at hu
  obtain ⟨x, _, hx⟩ := List.mem_flatMap.1 hu
  simp [I3.cells] at hx
  rcases hx with rfl | rfl | rfl <;> rfl

set_option maxHeartbeats 2000000 in
set_option maxRecDepth 100000 in
theorem sbug_is {w : World} {B X nb vc : Nat} {va : Option Addr} {cs : Sl × Sl × Sl} {rows : List (List I3)} {F : List (Rec6 V4)} {L : List (Rec6 V4 × Value)} (sp : SpcD w B nb (.slice va L.length vc) cs (mvsOf rows F) L L.length) (bx : Blk w X 75 [.slice va L.length vc, .map (some nb)]) (hp : progOk rows = true) (hsh : Shaped (L.map (·.1))) (hI : ∀ k, k < 3 → Instrs w (slK cs k).1 (slK cs k).2.1 (slK cs k).2.2 (codeM rows k)) (hl : L.length ≤ 2000) :
    Calls Tryz.prog 50 #[.pointer (some ⟨X, 0, none⟩)] w fun e w' => BugsOne e w' w.heap.size (allI rows (L.map (·.1))) ∧ Below w.heap.size w w' := by
  obtain ⟨i0, hi9, hz0, hz1, hz2⟩ := info_parts info_bug
  have cX0 : w.cell? ⟨X, 0, none⟩ = some (.slice va L.length vc) := by simpa using bx.cell 0
  have HAll : Hid (allI rows (L.map (·.1)) = mergeB (fndA rows L L.length) []) := by rw [Hid, fndA_all]; rfl
  have st : w.ownsRow w.heap.size 53 3 (.slice none 0 0) (fndA rows L 0).length (flat (fndA rows L 0)) := World.ownsRow_nil _ _ _ _
  go_enter Tryz.func50, Tryz.ntmps50
  go_wp2_with fail
  go_loopw [3, 11] (fun s3 s11 wr => ∃ j : Nat, s11 = .int .i64 j ∧ j ≤ L.length ∧ wr.ownsRow w.heap.size 53 3 s3 (fndA rows L j).length (flat (fndA rows L j)) ∧ Below w.heap.size w wr) (fun _ s11 _ => L.length - (intOf s11).toNat)
  case atStart => exact ⟨0, rfl, Nat.zero_le _, st, Below.refl _ _⟩
  case round =>
    clear st cX0
    obtain ⟨j, rfl, hjn, q, bw⟩ := hrel
    obtain ⟨ka, kn, kc, rfl⟩ := own_slice6 q
    have hfl := fndA_len rows L j
    by_cases hlt : j < L.length
    · obtain ⟨r, mv, hr⟩ : ∃ r mv, L[j]? = some (r, mv) := ⟨L[j].1, L[j].2, by rw [List.getElem?_eq_getElem hlt]⟩
      have hs : shapeOk r.1 = true := hsh r (List.mem_map.2 ⟨_, List.mem_of_getElem? hr, rfl⟩)
      have sp1 := sp.below bw
      have mvr := sp1.mvs j r mv hlt hr
      obtain ⟨g, c9, e9, hg, hrg⟩ := sp1.at9 hr
      cases e9
      have hmv := sp1.mvone hr
      have HS : Hid (fndA rows L (j + 1) = fndA rows L j ++ bugsI rows r.1) := fndA_succ hr
      have hbl := bugsI_len6 rows r.1
      have hlt3 : (j : Int) < (L.length : Int) := by omega
      have hj0 : (0 : Int) ≤ (j : Int) := by omega
      have pN := Blk.new wr 89 [.string ⟨#[]⟩, .slice none 0 0, .int .i64 0, .int .i64 0, .int .i64 0, .slice none 0 0, .int .i64 0, .int .i64 0, .int .i64 0, .slice none 0 0, .int .i64 0, .int .i64 0, .int .i64 0, .int .i64 0, .int .i64 0, .int .i64 0, .int .i64 0, .int .i64 0, .int .i64 0, .int .i64 0, .int .i64 0, .slice none 0 0]
      have hbN : Below wr.heap.size wr (wr.alloc (.cells #[.string ⟨#[]⟩, .slice none 0 0, .int .i64 0, .int .i64 0, .int .i64 0, .slice none 0 0, .int .i64 0, .int .i64 0, .int .i64 0, .slice none 0 0, .int .i64 0, .int .i64 0, .int .i64 0, .int .i64 0, .int .i64 0, .int .i64 0, .int .i64 0, .int .i64 0, .int .i64 0, .int .i64 0, .int .i64 0, .slice none 0 0] 89)) := by go_grown
      clear sp1 hr
      go_wp2_with (first | refine wpList_load_mid rfl 89 _ rfl g (j * 22) rfl (rcC cs r mv) _ hrg Tryz.underlying89 rfl (by kernel_rfl) ?_ | refine wpList_store_blk rfl 89 _ _ rfl wr.heap.size (rcC cs r mv) rfl rfl pN (by kernel_rfl) rfl (rcC_one cs r hmv) ?_)
      intro w3 p3 g3
      have pE := p3.out
      have b3 : Below wr.heap.size wr w3 := hbN.grown g3 hbN.size (fun k e => by cases e; exact Nat.le_refl _)
      replace bw := bel_trans bw b3
      replace q := owns_below q b3
      replace mvr := owns_below mvr b3
      clear p3 g3 hbN pN b3 hrg hmv
      generalize wr.heap.size = E at *
      have kR := rbug_is pE mvr hp hs (fun k hk => (hI k hk).below bw)
      go_wp2_with fail
      refine kR.mono ?_
      rintro e w4 ⟨⟨v9, rfl, q9⟩, hb⟩
      have hw3 := bw.size
      replace bw := bel_trans bw hb
      replace q := owns_below q hb
      clear hb kR pE mvr
      rcases q9.2 with ⟨hv9, h09⟩ | ⟨gq, cq, cur, hv9, _⟩
      · subst hv9
        have hn0 : bugsI rows r.1 = [] := List.eq_nil_of_length_eq_zero h09
        have st9 : w4.ownsRow w.heap.size 53 3 (.slice ka kn kc) (fndA rows L (j + 1)).length (flat (fndA rows L (j + 1))) := by
          rw [HS.out, hn0, List.append_nil]
          exact q
        go_wp2_with (at_builtin; refine wpList_append_own_none rfl _ _ 45 rfl w.heap.size 53 i0 3 Tryz.underlying45 hi9 (.slice ka kn kc) _ _ rfl q rfl ?_)
        clear q q9 h09 hn0 HS
        go_wp2
        go_roundw
        case rel => exact ⟨j + 1, by go_num, by omega, st9, bw⟩
        case measure => simp [intOf]; omega
      · subst hv9
        have hw4 : w.heap.size ≤ w4.heap.size := bw.size
        have q9' : w4.ownsRow w3.heap.size 53 3 (.slice (some ⟨gq, 0, none⟩) (bugsI rows r.1).length cq) (bugsI rows r.1).length (flat (bugsI rows r.1)) := q9
        generalize bugsI rows r.1 = bs at *
        go_wp2_with (at_builtin; refine wpList_append_own_at _ rfl _ _ 45 rfl w.heap.size 53 i0 (.agg #[.int .i64 0, .int .i64 0, .int .i64 0]) 3 24 Tryz.underlying45 hi9 hz0 hz1 hz2 rfl (by decide) (.slice ka kn kc) _ _ rfl q ⟨gq, 0, none⟩ bs.length cq (flat bs) rfl (flat_length _) (news_flat6 q9') (flat_one6 _) (by unfold maxLen; omega) (by omega) hw4 ?_)
        intro v6 w5 q6 gr _ at6
        have bw5 := bw.grown gr bw.size (fun k e => (own_lt3 q e).1)
        have st9 : w5.ownsRow w.heap.size 53 3 v6 (fndA rows L (j + 1)).length (flat (fndA rows L (j + 1))) := by
          rw [HS.out, List.length_append, flat_app6]
          exact q6
        clear q q6 q9 q9' gr at6 bw HS
        go_wp2
        go_roundw
        case rel => exact ⟨j + 1, by go_num, by omega, st9, bw5⟩
        case measure => simp [intOf]; omega
    · have hge : ¬ (j : Int) < (L.length : Int) := by omega
      obtain rfl : j = L.length := by omega
      obtain ⟨fa, fc, e9, hIn, hGd⟩ := bugs_sliceR q (fndA_fits hp hsh _)
      cases e9
      have kM := mergedBugs_is ka (fndA rows L L.length).length kc (fndA rows L L.length) none 0 0 [] wr hIn ⟨rfl, Nat.le_refl _, by unfold maxLen; omega, by simp, .inl rfl⟩ (by omega) (by omega) hGd ⟨fun _ => rfl, fun x hx => by cases hx⟩
      clear q hIn hGd
      go_wp2_with fail
      refine kM.mono ?_
      rintro e w5 ⟨⟨v5, rfl, q5⟩, hb⟩
      have hwr := bw.size
      replace bw := bel_trans bw hb
      have HG : Hid (BugsOne (.returned v5) w5 w.heap.size (allI rows (L.map (·.1)))) := by rw [HAll.out]; exact ⟨_, rfl, own_lower q5 hwr⟩
      clear kM hb q5 HAll
      go_wp2
      go_ret
      exact ⟨HG.out, bw⟩

def bugsO (rows : List (List I3)) : List I3 := if codeF rows = 0 then allI rows (fullS rows) else []
def AbgGot (e : Ending) (w : World) (B : Nat) (xs : List I3) (c : Int) : Prop := ∃ v, e = .returned (.tuple #[v, .int .i64 c]) ∧ w.ownsRow B 53 3 v xs.length (flat xs)
set_option maxHeartbeats 2000000 in
set_option maxRecDepth 100000 in
theorem implAllBugs_not (a : Option Addr) (len cap : Nat) (rows : List (List I3)) (w : World) (hC : Codes w a len cap rows) (hV : VmShape w) (hc : codeF rows ≠ 0) :
    Calls Tryz.prog 16 #[.agg #[.slice a len cap]] w fun e w' => AbgGot e w' w.heap.size [] (codeF rows) ∧ Below w.heap.size w w' := by
  have kS := fun (W : World) (b : Below w.heap.size w W) (t : S4) (h : Vmem W t zeroV) => spaceOf_not a len cap rows t W (hC.below b) h (hV.below b) hc
  generalize codeF rows = c at *
  have hcn : (c != 0) = true := by simpa using hc
  have fz := (shape_fits9 zero_shape).1
  have kN := implNewVm_is
  have bw : Below w.heap.size w (w.alloc (.cells #[.slice a len cap] 25)) := by go_grown
  have pP : Blk (w.alloc (.cells #[.slice a len cap] 25)) w.heap.size 25 [.slice a len cap] := blkAt _ _ _ rfl
  go_enter Tryz.func16, Tryz.ntmps16
  go_wp2_with fail
  generalize (w.alloc (.cells #[.slice a len cap] 25)) = U at *
  go_cut [4, 5] from 6 (fun s4 s5 W => CutF w W c s4 s5)
  case first =>
    have hdr : Below U.heap.size U U.drew := by go_grown
    refine wp_region_held_drew (S := (fun w' => w'.cell? ⟨w.heap.size, 0, none⟩ = some (.slice a len cap))) (by kernel_rfl) (by simpa using pP.cell 0) (fun hS0 => ?_)
    refine tkm 0 7 (.agg #[.slice a len cap]) ?_
    have pP9 := pP.below hdr
    replace bw := bel_trans bw hdr
    clear hdr
    generalize U.drew = V at *
    have bt : Below V.heap.size V V := Below.refl _ _
    refine wpAnyH_ready (rs := [1, 6]) (by kernel_rfl) (by simp) ?_
    refine AllReadyH.cons (o := { dst := some 8, op := _, type := _, pos := _, after := _, guard := _ }) rfl (fun K hK => ?_) (AllReadyH.cons (o := { dst := some 4, op := _, type := _, pos := _, after := _, guard := _ }) rfl (fun K hK => ?_) AllReadyH.nil)
    · go_simp
      refine (kN V).mono ?_
      rintro e V1 ⟨⟨⟨⟨t0a, t0n, t0c⟩, ⟨t1a, t1n, t1c⟩, ⟨t2a, t2n, t2c⟩, ⟨t3a, t3n, t3c⟩⟩, rfl, hO⟩, hb1⟩
      have ut : S4.val ((t0a, t0n, t0c), (t1a, t1n, t1c), (t2a, t2n, t2c), (t3a, t3n, t3c)) = .agg #[.slice t0a t0n t0c, .slice t1a t1n t1c, .slice t2a t2n t2c, .slice t3a t3n t3c] := rfl
      rw [ut]
      have bt := bel_trans bt hb1
      go_wp2_with fail
      refine hK.out _ _ (cells_kept bt _ _ hS0) (fun hS1 => ?_)
      clear hK
      try simp only [Act.put, List.setIfInBounds_toArray, List.set_cons_zero, List.set_cons_succ]
      refine wpAnyH_ready (rs := [2, 6]) (by kernel_rfl) (by simp) ?_
      refine AllReadyH.cons (o := { dst := some 9, op := _, type := _, pos := _, after := _, guard := _ }) rfl (fun K hK => ?_) (AllReadyH.cons (o := { dst := some 4, op := _, type := _, pos := _, after := _, guard := _ }) rfl (fun K hK => ?_) AllReadyH.nil)
      · have kx := kS V1 (bel_trans bw bt) ((t0a, t0n, t0c), (t1a, t1n, t1c), (t2a, t2n, t2c), (t3a, t3n, t3c)) (hO.mem fz)
        rw [ut] at kx
        go_simp
        refine kx.mono ?_
        rintro e V2 ⟨rfl, hb2⟩
        have bt := bel_trans bt hb2
        go_wp2_with fail
        refine hK.out _ _ (cells_kept bt _ _ hS0) (fun hS2 => ?_)
        clear hK kx
        try simp only [Act.put, List.setIfInBounds_toArray, List.set_cons_zero, List.set_cons_succ]
        refine tkm 3 6 (.tuple #[.agg #[.slice none 0 0, .map none], .int .i64 c]) ?_
        refine tkm 4 10 (.agg #[.slice none 0 0, .map none]) ?_
        refine tkm 5 11 (.int .i64 c) ?_
        refine tkr 6 4 (fun K hK => ?_)
        have hb3 : Below V2.heap.size V2 (V2.alloc (.cells #[.slice none 0 0, .map none] 75)) := by go_grown
        have pX : Blk (V2.alloc (.cells #[.slice none 0 0, .map none] 75)) V2.heap.size 75 [.slice none 0 0, .map none] := blkAt _ _ _ rfl
        have hXB : w.heap.size ≤ V2.heap.size := Nat.le_trans bw.size bt.size
        have bt := bel_trans bt hb3
        go_simp
        refine hK.out _ _ (cells_kept bt _ _ hS0) (fun hS3 => ?_)
        clear hK
        generalize (V2.alloc (.cells #[.slice none 0 0, .map none] 75)) = V3 at *
        obtain ⟨X, hX⟩ : ∃ X, X = V2.heap.size := ⟨_, rfl⟩
        rw [← hX] at pX hXB ⊢
        clear hX
        try simp only [Act.put, List.setIfInBounds_toArray, List.set_cons_zero, List.set_cons_succ]
        refine wpAnyH_ready (rs := [7]) (by kernel_rfl) (by simp) ?_
        refine AllReadyH.cons (o := { dst := none, op := _, type := _, pos := _, after := _, guard := _ }) rfl (fun K hK => ?_) AllReadyH.nil
        refine step_store_blkD rfl 75 _ _ rfl X [.slice none 0 0, .map none] rfl rfl pX (by kernel_rfl) rfl rfl ?_
        intro V9 pX9 g9
        have bz := (bel_trans bw bt).grown g9 (bel_trans bw bt).size (fun q e => by cases e; exact hXB)
        have hXP : X ≠ w.heap.size := blk_ne pX (pP9.below bt) (by decide)
        have c9 := cells_kept bt _ _ hS0
        refine hK.out _ _ (cell_grownB g9 c9 (by simp; omega)) (fun hS4 => ?_)
        clear hK
        try simp only [Act.put, List.setIfInBounds_toArray, List.set_cons_zero, List.set_cons_succ]
        refine tkm 8 5 (.int .i64 c) ?_
        refine wpAnyH_done (by kernel_rfl) ?_ _
        go_wp2_with fail
        go_meet
        case rel => exact ⟨X, rfl, rfl, bz⟩
      · have hb3 : Below V1.heap.size V1 (V1.alloc (.cells #[.slice none 0 0, .map none] 75)) := by go_grown
        have pX : Blk (V1.alloc (.cells #[.slice none 0 0, .map none] 75)) V1.heap.size 75 [.slice none 0 0, .map none] := blkAt _ _ _ rfl
        have hXB : w.heap.size ≤ V1.heap.size := Nat.le_trans bw.size bt.size
        replace hO := hO.below hb3
        have bt := bel_trans bt hb3
        go_simp
        refine hK.out _ _ (cells_kept bt _ _ hS0) (fun hS3 => ?_)
        clear hK
        generalize (V1.alloc (.cells #[.slice none 0 0, .map none] 75)) = V2 at *
        obtain ⟨X, hX⟩ : ∃ X, X = V1.heap.size := ⟨_, rfl⟩
        rw [← hX] at pX hXB ⊢
        clear hX
        try simp only [Act.put, List.setIfInBounds_toArray, List.set_cons_zero, List.set_cons_succ]
        refine tkr 2 9 (fun K hK => ?_)
        have kx := kS V2 (bel_trans bw bt) ((t0a, t0n, t0c), (t1a, t1n, t1c), (t2a, t2n, t2c), (t3a, t3n, t3c)) (hO.mem fz)
        rw [ut] at kx
        go_simp
        refine kx.mono ?_
        rintro e V3 ⟨rfl, hb2⟩
        replace pX := pX.below hb2
        have bt := bel_trans bt hb2
        go_wp2_with fail
        refine hK.out _ _ (cells_kept bt _ _ hS0) (fun hS2 => ?_)
        clear hK kx
        try simp only [Act.put, List.setIfInBounds_toArray, List.set_cons_zero, List.set_cons_succ]
        refine tkm 3 6 (.tuple #[.agg #[.slice none 0 0, .map none], .int .i64 c]) ?_
        refine tkm 4 10 (.agg #[.slice none 0 0, .map none]) ?_
        refine tkm 5 11 (.int .i64 c) ?_
        refine wpAnyH_ready (rs := [7]) (by kernel_rfl) (by simp) ?_
        refine AllReadyH.cons (o := { dst := none, op := _, type := _, pos := _, after := _, guard := _ }) rfl (fun K hK => ?_) AllReadyH.nil
        refine step_store_blkD rfl 75 _ _ rfl X [.slice none 0 0, .map none] rfl rfl pX (by kernel_rfl) rfl rfl ?_
        intro V9 pX9 g9
        have bz := (bel_trans bw bt).grown g9 (bel_trans bw bt).size (fun q e => by cases e; exact hXB)
        have hXP : X ≠ w.heap.size := blk_ne pX (pP9.below bt) (by decide)
        have c9 := cells_kept bt _ _ hS0
        refine hK.out _ _ (cell_grownB g9 c9 (by simp; omega)) (fun hS4 => ?_)
        clear hK
        try simp only [Act.put, List.setIfInBounds_toArray, List.set_cons_zero, List.set_cons_succ]
        refine tkm 8 5 (.int .i64 c) ?_
        refine wpAnyH_done (by kernel_rfl) ?_ _
        go_wp2_with fail
        go_meet
        case rel => exact ⟨X, rfl, rfl, bz⟩
    · have hb3 : Below V.heap.size V (V.alloc (.cells #[.slice none 0 0, .map none] 75)) := by go_grown
      have pX : Blk (V.alloc (.cells #[.slice none 0 0, .map none] 75)) V.heap.size 75 [.slice none 0 0, .map none] := blkAt _ _ _ rfl
      have hXB : w.heap.size ≤ V.heap.size := Nat.le_trans bw.size bt.size
      have bt := bel_trans bt hb3
      go_simp
      refine hK.out _ _ (cells_kept bt _ _ hS0) (fun hS3 => ?_)
      clear hK
      generalize (V.alloc (.cells #[.slice none 0 0, .map none] 75)) = V1 at *
      obtain ⟨X, hX⟩ : ∃ X, X = V.heap.size := ⟨_, rfl⟩
      rw [← hX] at pX hXB ⊢
      clear hX
      try simp only [Act.put, List.setIfInBounds_toArray, List.set_cons_zero, List.set_cons_succ]
      refine tkr 1 8 (fun K hK => ?_)
      go_simp
      refine (kN V1).mono ?_
      rintro e V2 ⟨⟨⟨⟨t0a, t0n, t0c⟩, ⟨t1a, t1n, t1c⟩, ⟨t2a, t2n, t2c⟩, ⟨t3a, t3n, t3c⟩⟩, rfl, hO⟩, hb1⟩
      have ut : S4.val ((t0a, t0n, t0c), (t1a, t1n, t1c), (t2a, t2n, t2c), (t3a, t3n, t3c)) = .agg #[.slice t0a t0n t0c, .slice t1a t1n t1c, .slice t2a t2n t2c, .slice t3a t3n t3c] := rfl
      rw [ut]
      have bt := bel_trans bt hb1
      go_wp2_with fail
      refine hK.out _ _ (cells_kept bt _ _ hS0) (fun hS1 => ?_)
      clear hK
      try simp only [Act.put, List.setIfInBounds_toArray, List.set_cons_zero, List.set_cons_succ]
      replace pX := pX.below hb1
      refine tkr 2 9 (fun K hK => ?_)
      have kx := kS V2 (bel_trans bw bt) ((t0a, t0n, t0c), (t1a, t1n, t1c), (t2a, t2n, t2c), (t3a, t3n, t3c)) (hO.mem fz)
      rw [ut] at kx
      go_simp
      refine kx.mono ?_
      rintro e V3 ⟨rfl, hb2⟩
      replace pX := pX.below hb2
      have bt := bel_trans bt hb2
      go_wp2_with fail
      refine hK.out _ _ (cells_kept bt _ _ hS0) (fun hS2 => ?_)
      clear hK kx
      try simp only [Act.put, List.setIfInBounds_toArray, List.set_cons_zero, List.set_cons_succ]
      refine tkm 3 6 (.tuple #[.agg #[.slice none 0 0, .map none], .int .i64 c]) ?_
      refine tkm 4 10 (.agg #[.slice none 0 0, .map none]) ?_
      refine tkm 5 11 (.int .i64 c) ?_
      refine wpAnyH_ready (rs := [7]) (by kernel_rfl) (by simp) ?_
      refine AllReadyH.cons (o := { dst := none, op := _, type := _, pos := _, after := _, guard := _ }) rfl (fun K hK => ?_) AllReadyH.nil
      refine step_store_blkD rfl 75 _ _ rfl X [.slice none 0 0, .map none] rfl rfl pX (by kernel_rfl) rfl rfl ?_
      intro V9 pX9 g9
      have bz := (bel_trans bw bt).grown g9 (bel_trans bw bt).size (fun q e => by cases e; exact hXB)
      have hXP : X ≠ w.heap.size := blk_ne pX (pP9.below bt) (by decide)
      have c9 := cells_kept bt _ _ hS0
      refine hK.out _ _ (cell_grownB g9 c9 (by simp; omega)) (fun hS4 => ?_)
      clear hK
      try simp only [Act.put, List.setIfInBounds_toArray, List.set_cons_zero, List.set_cons_succ]
      refine tkm 8 5 (.int .i64 c) ?_
      refine wpAnyH_done (by kernel_rfl) ?_ _
      go_wp2_with fail
      go_meet
      case rel => exact ⟨X, rfl, rfl, bz⟩
  obtain ⟨X, rfl, rfl, bz⟩ := hcut
  clear kS kN bw pP fz
  have HG : Hid (∀ W, AbgGot (.returned (.tuple #[.slice none 0 0, .int .i64 c])) W w.heap.size [] c) := fun W => ⟨_, rfl, World.ownsRow_nil _ _ _ _⟩
  go_wp2
  refine bodyPost_ret (by simp [results, Tryz.results16, go_sem]; try rfl) rfl ?_
  exact ⟨HG.out _, bz⟩

set_option maxHeartbeats 2000000 in
set_option maxRecDepth 100000 in
theorem implAllBugs_ok (a : Option Addr) (len cap : Nat) (rows : List (List I3)) (w : World) (hC : Codes w a len cap rows) (hV : VmShape w) (hc : codeF rows = 0) :
    Calls Tryz.prog 16 #[.agg #[.slice a len cap]] w fun e w' => AbgGot e w' w.heap.size (allI rows (fullS rows)) 0 ∧ Below w.heap.size w w' := by
  obtain ⟨hp, hf⟩ := code_parts hc
  obtain ⟨cs, hR⟩ := rows_of_codes6 hC hp
  have kS := fun (W : World) (b : Below w.heap.size w W) (t : S4) (h : Vmem W t zeroV) => spaceOf_yes a len cap rows t W (hC.below b) h (hV.below b) hp hf
  have hI : ∀ k, k < 3 → Instrs w (slK cs k).1 (slK cs k).2.1 (slK cs k).2.2 (codeM rows k) := by
    obtain ⟨b, off, _, _, hk⟩ := hR
    exact fun k h3 => (hk k h3).2
  clear hc
  have fz := (shape_fits9 zero_shape).1
  have kN := implNewVm_is
  have bw : Below w.heap.size w (w.alloc (.cells #[.slice a len cap] 25)) := by go_grown
  have pP : Blk (w.alloc (.cells #[.slice a len cap] 25)) w.heap.size 25 [.slice a len cap] := blkAt _ _ _ rfl
  go_enter Tryz.func16, Tryz.ntmps16
  go_wp2_with fail
  generalize (w.alloc (.cells #[.slice a len cap] 25)) = U at *
  go_cut [4, 5] from 6 (fun s4 s5 W => CutK w W cs rows (fullS rows) s4 s5)
  case first =>
    have hdr : Below U.heap.size U U.drew := by go_grown
    refine wp_region_held_drew (S := (fun w' => w'.cell? ⟨w.heap.size, 0, none⟩ = some (.slice a len cap))) (by kernel_rfl) (by simpa using pP.cell 0) (fun hS0 => ?_)
    refine tkm 0 7 (.agg #[.slice a len cap]) ?_
    have pP9 := pP.below hdr
    replace bw := bel_trans bw hdr
    clear hdr
    generalize U.drew = V at *
    have bt : Below V.heap.size V V := Below.refl _ _
    refine wpAnyH_ready (rs := [1, 6]) (by kernel_rfl) (by simp) ?_
    refine AllReadyH.cons (o := { dst := some 8, op := _, type := _, pos := _, after := _, guard := _ }) rfl (fun K hK => ?_) (AllReadyH.cons (o := { dst := some 4, op := _, type := _, pos := _, after := _, guard := _ }) rfl (fun K hK => ?_) AllReadyH.nil)
    · go_simp
      refine (kN V).mono ?_
      rintro e V1 ⟨⟨⟨⟨t0a, t0n, t0c⟩, ⟨t1a, t1n, t1c⟩, ⟨t2a, t2n, t2c⟩, ⟨t3a, t3n, t3c⟩⟩, rfl, hO⟩, hb1⟩
      have ut : S4.val ((t0a, t0n, t0c), (t1a, t1n, t1c), (t2a, t2n, t2c), (t3a, t3n, t3c)) = .agg #[.slice t0a t0n t0c, .slice t1a t1n t1c, .slice t2a t2n t2c, .slice t3a t3n t3c] := rfl
      rw [ut]
      have bt := bel_trans bt hb1
      go_wp2_with fail
      refine hK.out _ _ (cells_kept bt _ _ hS0) (fun hS1 => ?_)
      clear hK
      try simp only [Act.put, List.setIfInBounds_toArray, List.set_cons_zero, List.set_cons_succ]
      refine wpAnyH_ready (rs := [2, 6]) (by kernel_rfl) (by simp) ?_
      refine AllReadyH.cons (o := { dst := some 9, op := _, type := _, pos := _, after := _, guard := _ }) rfl (fun K hK => ?_) (AllReadyH.cons (o := { dst := some 4, op := _, type := _, pos := _, after := _, guard := _ }) rfl (fun K hK => ?_) AllReadyH.nil)
      · have kx := kS V1 (bel_trans bw bt) ((t0a, t0n, t0c), (t1a, t1n, t1c), (t2a, t2n, t2c), (t3a, t3n, t3c)) (hO.mem fz)
        rw [ut] at kx
        go_simp
        refine kx.mono ?_
        rintro e V2 ⟨va9, nb, cs', L, rfl, sp, hLF, hR', hb2⟩
        obtain rfl := (hR.below (bel_trans bw bt)).uniq hR'
        have hBv : w.heap.size ≤ V1.heap.size := Nat.le_trans bw.size bt.size
        obtain ⟨va8, vn8, vc8, hva⟩ := own_slice6 sp.row
        have bt := bel_trans bt hb2
        go_wp2_with fail
        refine hK.out _ _ (cells_kept bt _ _ hS0) (fun hS2 => ?_)
        clear hK kx
        try simp only [Act.put, List.setIfInBounds_toArray, List.set_cons_zero, List.set_cons_succ]
        refine tkm 3 6 (.tuple #[.agg #[va9, .map (some nb)], .int .i64 0]) ?_
        refine tkm 4 10 (.agg #[va9, .map (some nb)]) ?_
        refine tkm 5 11 (.int .i64 0) ?_
        refine tkr 6 4 (fun K hK => ?_)
        have hb3 : Below V2.heap.size V2 (V2.alloc (.cells #[.slice none 0 0, .map none] 75)) := by go_grown
        have pX : Blk (V2.alloc (.cells #[.slice none 0 0, .map none] 75)) V2.heap.size 75 [.slice none 0 0, .map none] := blkAt _ _ _ rfl
        have hXB : w.heap.size ≤ V2.heap.size := Nat.le_trans bw.size bt.size
        replace sp := sp.below hb3
        have bt := bel_trans bt hb3
        go_simp
        refine hK.out _ _ (cells_kept bt _ _ hS0) (fun hS3 => ?_)
        clear hK
        generalize (V2.alloc (.cells #[.slice none 0 0, .map none] 75)) = V3 at *
        obtain ⟨X, hX⟩ : ∃ X, X = V2.heap.size := ⟨_, rfl⟩
        rw [← hX] at pX hXB ⊢
        clear hX
        try simp only [Act.put, List.setIfInBounds_toArray, List.set_cons_zero, List.set_cons_succ]
        subst hva
        refine wpAnyH_ready (rs := [7]) (by kernel_rfl) (by simp) ?_
        refine AllReadyH.cons (o := { dst := none, op := _, type := _, pos := _, after := _, guard := _ }) rfl (fun K hK => ?_) AllReadyH.nil
        refine step_store_blkD rfl 75 _ _ rfl X [.slice va8 vn8 vc8, .map (some nb)] rfl rfl pX (by kernel_rfl) rfl rfl ?_
        intro V9 pX9 g9
        have bz := (bel_trans bw bt).grown g9 (bel_trans bw bt).size (fun q e => by cases e; exact hXB)
        replace sp := sp.grown g9 pX (by decide) (by decide)
        have hXP : X ≠ w.heap.size := blk_ne pX (pP9.below bt) (by decide)
        have c9 := cells_kept bt _ _ hS0
        refine hK.out _ _ (cell_grownB g9 c9 (by simp; omega)) (fun hS4 => ?_)
        clear hK
        try simp only [Act.put, List.setIfInBounds_toArray, List.set_cons_zero, List.set_cons_succ]
        refine tkm 8 5 (.int .i64 0) ?_
        refine wpAnyH_done (by kernel_rfl) ?_ _
        go_wp2_with fail
        go_meet
        case rel => exact CutK.mk9 (va := .slice none 0 0) rfl rfl pX9.out sp hLF hXB hBv bz
      · have hb3 : Below V1.heap.size V1 (V1.alloc (.cells #[.slice none 0 0, .map none] 75)) := by go_grown
        have pX : Blk (V1.alloc (.cells #[.slice none 0 0, .map none] 75)) V1.heap.size 75 [.slice none 0 0, .map none] := blkAt _ _ _ rfl
        have hXB : w.heap.size ≤ V1.heap.size := Nat.le_trans bw.size bt.size
        replace hO := hO.below hb3
        have bt := bel_trans bt hb3
        go_simp
        refine hK.out _ _ (cells_kept bt _ _ hS0) (fun hS3 => ?_)
        clear hK
        generalize (V1.alloc (.cells #[.slice none 0 0, .map none] 75)) = V2 at *
        obtain ⟨X, hX⟩ : ∃ X, X = V1.heap.size := ⟨_, rfl⟩
        rw [← hX] at pX hXB ⊢
        clear hX
        try simp only [Act.put, List.setIfInBounds_toArray, List.set_cons_zero, List.set_cons_succ]
        refine tkr 2 9 (fun K hK => ?_)
        have kx := kS V2 (bel_trans bw bt) ((t0a, t0n, t0c), (t1a, t1n, t1c), (t2a, t2n, t2c), (t3a, t3n, t3c)) (hO.mem fz)
        rw [ut] at kx
        go_simp
        refine kx.mono ?_
        rintro e V3 ⟨va9, nb, cs', L, rfl, sp, hLF, hR', hb2⟩
        obtain rfl := (hR.below (bel_trans bw bt)).uniq hR'
        have hBv : w.heap.size ≤ V2.heap.size := Nat.le_trans bw.size bt.size
        obtain ⟨va8, vn8, vc8, hva⟩ := own_slice6 sp.row
        replace pX := pX.below hb2
        have bt := bel_trans bt hb2
        go_wp2_with fail
        refine hK.out _ _ (cells_kept bt _ _ hS0) (fun hS2 => ?_)
        clear hK kx
        try simp only [Act.put, List.setIfInBounds_toArray, List.set_cons_zero, List.set_cons_succ]
        refine tkm 3 6 (.tuple #[.agg #[va9, .map (some nb)], .int .i64 0]) ?_
        refine tkm 4 10 (.agg #[va9, .map (some nb)]) ?_
        refine tkm 5 11 (.int .i64 0) ?_
        subst hva
        refine wpAnyH_ready (rs := [7]) (by kernel_rfl) (by simp) ?_
        refine AllReadyH.cons (o := { dst := none, op := _, type := _, pos := _, after := _, guard := _ }) rfl (fun K hK => ?_) AllReadyH.nil
        refine step_store_blkD rfl 75 _ _ rfl X [.slice va8 vn8 vc8, .map (some nb)] rfl rfl pX (by kernel_rfl) rfl rfl ?_
        intro V9 pX9 g9
        have bz := (bel_trans bw bt).grown g9 (bel_trans bw bt).size (fun q e => by cases e; exact hXB)
        replace sp := sp.grown g9 pX (by decide) (by decide)
        have hXP : X ≠ w.heap.size := blk_ne pX (pP9.below bt) (by decide)
        have c9 := cells_kept bt _ _ hS0
        refine hK.out _ _ (cell_grownB g9 c9 (by simp; omega)) (fun hS4 => ?_)
        clear hK
        try simp only [Act.put, List.setIfInBounds_toArray, List.set_cons_zero, List.set_cons_succ]
        refine tkm 8 5 (.int .i64 0) ?_
        refine wpAnyH_done (by kernel_rfl) ?_ _
        go_wp2_with fail
        go_meet
        case rel => exact CutK.mk9 (va := .slice none 0 0) rfl rfl pX9.out sp hLF hXB hBv bz
    · have hb3 : Below V.heap.size V (V.alloc (.cells #[.slice none 0 0, .map none] 75)) := by go_grown
      have pX : Blk (V.alloc (.cells #[.slice none 0 0, .map none] 75)) V.heap.size 75 [.slice none 0 0, .map none] := blkAt _ _ _ rfl
      have hXB : w.heap.size ≤ V.heap.size := Nat.le_trans bw.size bt.size
      have bt := bel_trans bt hb3
      go_simp
      refine hK.out _ _ (cells_kept bt _ _ hS0) (fun hS3 => ?_)
      clear hK
      generalize (V.alloc (.cells #[.slice none 0 0, .map none] 75)) = V1 at *
      obtain ⟨X, hX⟩ : ∃ X, X = V.heap.size := ⟨_, rfl⟩
      rw [← hX] at pX hXB ⊢
      clear hX
      try simp only [Act.put, List.setIfInBounds_toArray, List.set_cons_zero, List.set_cons_succ]
      refine tkr 1 8 (fun K hK => ?_)
      go_simp
      refine (kN V1).mono ?_
      rintro e V2 ⟨⟨⟨⟨t0a, t0n, t0c⟩, ⟨t1a, t1n, t1c⟩, ⟨t2a, t2n, t2c⟩, ⟨t3a, t3n, t3c⟩⟩, rfl, hO⟩, hb1⟩
      have ut : S4.val ((t0a, t0n, t0c), (t1a, t1n, t1c), (t2a, t2n, t2c), (t3a, t3n, t3c)) = .agg #[.slice t0a t0n t0c, .slice t1a t1n t1c, .slice t2a t2n t2c, .slice t3a t3n t3c] := rfl
      rw [ut]
      have bt := bel_trans bt hb1
      go_wp2_with fail
      refine hK.out _ _ (cells_kept bt _ _ hS0) (fun hS1 => ?_)
      clear hK
      try simp only [Act.put, List.setIfInBounds_toArray, List.set_cons_zero, List.set_cons_succ]
      replace pX := pX.below hb1
      refine tkr 2 9 (fun K hK => ?_)
      have kx := kS V2 (bel_trans bw bt) ((t0a, t0n, t0c), (t1a, t1n, t1c), (t2a, t2n, t2c), (t3a, t3n, t3c)) (hO.mem fz)
      rw [ut] at kx
      go_simp
      refine kx.mono ?_
      rintro e V3 ⟨va9, nb, cs', L, rfl, sp, hLF, hR', hb2⟩
      obtain rfl := (hR.below (bel_trans bw bt)).uniq hR'
      have hBv : w.heap.size ≤ V2.heap.size := Nat.le_trans bw.size bt.size
      obtain ⟨va8, vn8, vc8, hva⟩ := own_slice6 sp.row
      replace pX := pX.below hb2
      have bt := bel_trans bt hb2
      go_wp2_with fail
      refine hK.out _ _ (cells_kept bt _ _ hS0) (fun hS2 => ?_)
      clear hK kx
      try simp only [Act.put, List.setIfInBounds_toArray, List.set_cons_zero, List.set_cons_succ]
      refine tkm 3 6 (.tuple #[.agg #[va9, .map (some nb)], .int .i64 0]) ?_
      refine tkm 4 10 (.agg #[va9, .map (some nb)]) ?_
      refine tkm 5 11 (.int .i64 0) ?_
      subst hva
      refine wpAnyH_ready (rs := [7]) (by kernel_rfl) (by simp) ?_
      refine AllReadyH.cons (o := { dst := none, op := _, type := _, pos := _, after := _, guard := _ }) rfl (fun K hK => ?_) AllReadyH.nil
      refine step_store_blkD rfl 75 _ _ rfl X [.slice va8 vn8 vc8, .map (some nb)] rfl rfl pX (by kernel_rfl) rfl rfl ?_
      intro V9 pX9 g9
      have bz := (bel_trans bw bt).grown g9 (bel_trans bw bt).size (fun q e => by cases e; exact hXB)
      replace sp := sp.grown g9 pX (by decide) (by decide)
      have hXP : X ≠ w.heap.size := blk_ne pX (pP9.below bt) (by decide)
      have c9 := cells_kept bt _ _ hS0
      refine hK.out _ _ (cell_grownB g9 c9 (by simp; omega)) (fun hS4 => ?_)
      clear hK
      try simp only [Act.put, List.setIfInBounds_toArray, List.set_cons_zero, List.set_cons_succ]
      refine tkm 8 5 (.int .i64 0) ?_
      refine wpAnyH_done (by kernel_rfl) ?_ _
      go_wp2_with fail
      go_meet
      case rel => exact CutK.mk9 (va := .slice none 0 0) rfl rfl pX9.out sp hLF hXB hBv bz
  obtain ⟨X, va, vc, nb, L, rfl, rfl, pX, sp, hLF, hXB, bz⟩ := hcut
  clear kS kN bw pP fz
  have hl2 : L.length ≤ 2000 := by
    have e : (L.map (·.1)).length = L.length := by simp
    rw [hLF] at e
    omega
  have kB := sbug_is sp pX hp (by rw [hLF]; exact fullS_shaped hp) (fun k hk => (hI k hk).below bz) hl2
  rw [hLF] at kB
  clear sp pX hLF hXB
  go_wp2_with fail
  refine kB.mono ?_
  rintro e w7 ⟨⟨v7, rfl, q7⟩, hb⟩
  have hwc := bz.size
  replace bz := bel_trans bz hb
  have HG : Hid (AbgGot (.returned (.tuple #[v7, .int .i64 0])) w7 w.heap.size (allI rows (fullS rows)) 0) := ⟨_, rfl, own_lower q7 hwc⟩
  clear q7 hb kB
  go_wp2
  refine bodyPost_ret (by simp [results, Tryz.results16, go_sem]; try rfl) rfl ?_
  exact ⟨HG.out, bz⟩
theorem implAllBugs_is (a : Option Addr) (len cap : Nat) (rows : List (List I3)) (w : World) (hC : Codes w a len cap rows) (hV : VmShape w) :
    Calls Tryz.prog 16 #[.agg #[.slice a len cap]] w fun e w' => AbgGot e w' w.heap.size (bugsO rows) (codeF rows) ∧ Below w.heap.size w w' := by
  unfold bugsO
  by_cases h : codeF rows = 0
  · rw [if_pos h, h]
    exact implAllBugs_ok a len cap rows w hC hV h
  · rw [if_neg h]
    exact implAllBugs_not a len cap rows w hC hV h
end Go.Proofs.YtcdpcfnlflpjnaaGreatDoor


/-
  FnExactAllBugs, given what both answer: the law's walk (marks and all).
-/
namespace Go.Proofs.YtcdpcfnlflpjnaaGreatDoor
open Go.RowKit
set_option linter.unusedVariables false
set_option linter.unusedSimpArgs false

theorem fnExactAllBugs_heap {w w' : World} {b e s n : Nat} {v : Value} {xs : List Value} (h : w.ownsRow b e s v n xs) (hq : ∀ j, v.ownBlock = some j → w'.heap[j]? = w.heap[j]?) : w'.ownsRow b e s v n xs := by
  refine ⟨h.1, ?_⟩
  rcases h.2 with h0 | ⟨g, cap, cur, hv, hB, hg, rest⟩
  · exact .inl h0
  · exact .inr ⟨g, cap, cur, hv, hB, by rw [hq g (by rw [hv]; rfl)]; exact hg, rest⟩
theorem fnExactAllBugs_blk {T : TypeId} {w w' : World} {g t : Nat} {cs : List Value} (k : KeptBut T w w') (h : Blk w g t cs) (hT : t ≠ T) : Blk w' g t cs := k g _ t _ h hT

set_option maxHeartbeats 1200000 in
set_option maxRecDepth 100000 in
theorem fnExactAllBugs_of (a0 : Option Addr) (n0 c0 : Nat) (r0 : List (List I3)) (xs : List I3) (hfit : ∀ x ∈ xs, I3.fits x) (hlf : xs.length ≤ 100000) (cd : Int) (w : World) (h0 : Codes w a0 n0 c0 r0) (hG : VmShape w)
    (kS : ∀ (a0 : Option Addr) (n0 c0 : Nat) (w : World), Codes w a0 n0 c0 r0 → Calls Tryz.prog 17 #[.agg #[.slice a0 n0 c0]] w fun e w' => AbgGot e w' w.heap.size xs cd ∧ Below w.heap.size w w')
    (kI : ∀ (a0 : Option Addr) (n0 c0 : Nat) (w : World), Codes w a0 n0 c0 r0 → VmShape w → Calls Tryz.prog 16 #[.agg #[.slice a0 n0 c0]] w fun e w' => AbgGot e w' w.heap.size xs cd ∧ Below w.heap.size w w') :
    Calls Tryz.prog 5 #[.agg #[.slice a0 n0 c0]] w fun e w' => e = .returned (.bool true) ∧ Below w.heap.size w w' := by
  have kT := fun W h => toProgram_copy a0 n0 c0 r0 W h
  have kO := fun W h => toProgram_own a0 n0 c0 r0 W h
  have hcd : (cd != cd) = false := by simp
  have bw : Below w.heap.size w (w.alloc (.cells #[.slice a0 n0 c0] 62)) := by go_grown
  have p0 : Blk (w.alloc (.cells #[.slice a0 n0 c0] 62)) w.heap.size 62 [.slice a0 n0 c0] := blkAt _ _ _ rfl
  go_enter Tryz.func5, Tryz.ntmps5
  go_wp2_with fail
  generalize (w.alloc (.cells #[.slice a0 n0 c0] 62)) = W0 at *
  go_wp2_with (first | refine wpList_load_blk rfl 62 _ rfl w.heap.size rfl p0 _ Tryz.underlying62 rfl (by kernel_rfl) ?_)
  have hz := sizeLeft_or r0 1048576 (by omega)
  have hbd := size_bounds (rows := r0) (left := 1048576) (by omega)
  have hcb := fun h => sizeLeft_cnt (rows := r0) (left := 1048576) h
  refine (szProgram_less a0 n0 c0 r0 1048576 _ (h0.below bw) (by omega) (by omega)).mono ?_
  rintro e wz ⟨rfl, hb⟩
  generalize sizeLeft 1048576 r0 = zl at hz hbd hcb
  replace bw := bel_trans bw hb
  replace p0 := p0.below hb
  clear hb
  rcases hz with rfl | ⟨yl, xl⟩
  · clear hbd hcb
    go_wp2
    go_ret
    exact ⟨rfl, bw⟩
  obtain ⟨hr, hr'⟩ := hbd yl (by omega)
  have hcnt := hcb yl
  have hlen : n0 ≤ 1048576 := by rw [← h0.1]; exact hr
  replace kT := fun W h => kT W h hlen (fun t _ => hr' t)
  replace kO := fun W h => kO W h hlen (fun t _ => hr' t)
  have hcl : cntP r0 r0.length ≤ 10000000 := by omega
  have hcj : ∀ j, j ≤ r0.length → cntP r0 j ≤ 10000000 := fun j hj => by have := cntP_mono r0 j; omega
  have HRJ : Hid (∀ j, j < r0.length → (r0.getD j []).length ≤ 1048576) := fun j _ => hr' j
  clear hbd hcb hr hr' hlen hcnt
  have hn0 : decide (zl < 0) = false := by simp; omega
  clear yl xl
  go_wp2_with (first | refine wpList_load_blk rfl 62 _ rfl w.heap.size rfl p0 _ Tryz.underlying62 rfl (by kernel_rfl) ?_)
  refine (kT _ (h0.below bw)).mono ?_
  rintro e wa1 ⟨rfl, hO, hb⟩
  have hA := hO.codes
  clear hO
  generalize wz.heap.size + 3 = ga at hA ⊢
  replace bw := bel_trans bw hb
  replace p0 := p0.below hb
  clear hb
  go_wp2_with fail
  refine (kS _ _ _ _ hA).mono ?_
  rintro e wS ⟨⟨vS, rfl, qS⟩, hb⟩
  obtain ⟨vSa, vSc, rfl, _, _⟩ := bugs_sliceR qS hfit
  replace bw := bel_trans bw hb
  replace p0 := p0.below hb
  clear hb hA
  clear kS
  have bv : ∀ j, (Value.slice vSa xs.length vSc).ownBlock = some j → j < wS.heap.size := fun j hj => (qS.lt j hj).2
  go_wp2_with (first | refine wpList_load_blk rfl 62 _ rfl w.heap.size rfl p0 _ Tryz.underlying62 rfl (by kernel_rfl) ?_)
  refine (kO _ (h0.below bw)).mono ?_
  rintro e wx ⟨rfl, hP, hb⟩
  have hBx : w.heap.size ≤ wS.heap.size + 3 := by have := bw.size; omega
  have hSx : wS.heap.size ≤ wx.heap.size := hb.size
  generalize hgx : wS.heap.size + 3 = gx at hP hBx ⊢
  replace bw := bel_trans bw hb
  replace p0 := p0.below hb
  replace qS := owns_below qS hb
  have hgxX : gx ≤ wx.heap.size := by obtain ⟨vs9, h9, _⟩ := hP; have := (h9.lt gx rfl).2; omega
  clear hb hgx
  generalize wS.heap.size = NS at *
  have ha : Below wx.heap.size wx (wx.alloc (.cells #[.slice (some ⟨gx, 0, none⟩) n0 n0] 25)) := by go_grown
  have pX : Blk (wx.alloc (.cells #[.slice (some ⟨gx, 0, none⟩) n0 n0] 25)) wx.heap.size 25 [.slice (some ⟨gx, 0, none⟩) n0 n0] := blkAt _ _ _ rfl
  replace bw := bel_trans bw ha
  replace p0 := p0.below ha
  replace qS := owns_below qS ha
  replace hP := hP.below ha
  have hNp : wx.heap.size ≤ (wx.alloc (.cells #[.slice (some ⟨gx, 0, none⟩) n0 n0] 25)).heap.size := ha.size
  clear ha
  have hX := hP.codes9 h0
  go_wp2_with (first | refine wpList_load_blk rfl 25 _ rfl wx.heap.size rfl pX _ Tryz.underlying25 rfl (by kernel_rfl) ?_)
  generalize (wx.alloc (.cells #[.slice (some ⟨gx, 0, none⟩) n0 n0] 25)) = wy at *
  generalize wx.heap.size = GX at *
  refine (kI _ _ _ _ hX (hG.below bw)).mono ?_
  rintro e wI ⟨⟨vG, rfl, qG⟩, hb⟩
  obtain ⟨vGa, vGc, rfl, _, _⟩ := bugs_sliceR qG hfit
  have hGB : GX < wy.heap.size := pX.lt
  replace bw := bel_trans bw hb
  replace p0 := p0.below hb
  replace qS := owns_below qS hb
  replace hP := hP.below hb
  replace pX := pX.below hb
  generalize wy.heap.size = BG at *
  clear hb hX
  go_wp2_with fail
  refine (eqBugS_same vGa vSa xs.length vGc vSc xs _ (instrs_rowS qG hfit) (instrs_rowS qS hfit)).mono ?_
  rintro e u2 ⟨rfl, hb⟩
  replace bw := bel_trans bw hb
  replace p0 := p0.below hb
  replace qS := owns_below qS hb
  replace hP := hP.below hb
  replace pX := pX.below hb
  replace qG := owns_below qG hb
  clear hb
  have b9 := pX.cell 0
  have b8 := p0.cell 0
  simp only [List.getElem?_cons_zero, List.getElem?_cons_succ] at b9 b8
  go_wp2_with fail
  have hdr : Below u2.heap.size u2 u2.drew := by go_grown
  have bd := bel_trans bw hdr
  have hX := hP.codes9 h0
  refine wp_region_held_drew (S := (fun w' => w'.cell? ⟨GX, 0, none⟩ = some (.slice (some ⟨gx, 0, none⟩) n0 n0) ∧ w'.cell? ⟨w.heap.size, 0, none⟩ = some (.slice a0 n0 c0))) (by kernel_rfl) ⟨b9, b8⟩ (fun hS0 => ?_)
  refine tkm 0 41 (.agg #[.slice (some ⟨gx, 0, none⟩) n0 n0]) ?_
  refine tkm 1 42 (.agg #[.slice a0 n0 c0]) ?_
  refine tkr 2 43 (fun K hK => ?_)
  go_simp
  refine (kT _ (h0.below bd)).mono ?_
  rintro e wk ⟨rfl, hO, hb1⟩
  go_wp2_with fail
  refine hK.out _ _ ?_ (fun hS1 => ?_)
  · exact ⟨cells_kept hb1 _ _ hS0.1, cells_kept hb1 _ _ hS0.2⟩
  clear hK
  have hK9 := hO.codes
  clear hO
  refine tkr 3 44 (fun K hK => ?_)
  go_simp
  refine (eqProgram_same _ _ _ _ _ r0 _ (hX.below (bel_trans hdr hb1)) hK9).mono ?_
  rintro e u3 ⟨rfl, hb2⟩
  go_wp2_with fail
  refine hK.out _ _ ?_ (fun hS2 => ?_)
  · exact ⟨cells_kept hb2 _ _ hS1.1, cells_kept hb2 _ _ hS1.2⟩
  clear hK
  refine tkm 4 45 (.bool false) ?_
  refine wpAnyH_done (by kernel_rfl) ?_ _
  have hb9 : Below u2.heap.size u2 u3 := bel_trans hdr (bel_trans hb1 hb2)
  replace bw := bel_trans bw hb9
  replace p0 := p0.below hb9
  replace qS := owns_below qS hb9
  replace hP := hP.below hb9
  replace pX := pX.below hb9
  replace qG := owns_below qG hb9
  clear hb9 hb1 hb2 hdr bd hS0 hS1 hS2 b9 b8 hX hK9
  have hBW : gx ≤ u3.heap.size := by have := pX.lt; omega
  go_wp2_with (first | refine wpList_load_blk rfl 25 _ rfl GX rfl pX _ Tryz.underlying25 rfl (by kernel_rfl) ?_)
  refine (markProgram_own gx _ 1 r0 _ (by omega) (by omega) hcl hcj HRJ.out hBW hP).mono ?_
  rintro e u6 ⟨rfl, _, kb, hb⟩
  replace bw := bel_transR bw (below_lowR hb hBx)
  replace p0 := fnExactAllBugs_blk kb p0 (by decide)
  replace pX := fnExactAllBugs_blk kb pX (by decide)
  replace qS := kb.owns qS (by decide)
  replace qG := kb.owns qG (by decide)
  clear kb hb hP hBW
  have hc0 : (0 : Int) ≤ cntP r0 r0.length := by omega
  have hk9 : decide (1 + (cntP r0 r0.length : Int) < 0) = false := by simp; omega
  go_wp2_with fail
  refine (eqBugS_same vGa vSa xs.length vGc vSc xs _ (instrs_rowS qG hfit) (instrs_rowS qS hfit)).mono ?_
  rintro e u9 ⟨rfl, hb⟩
  replace bw := bel_trans bw hb
  replace p0 := p0.below hb
  replace qS := owns_below qS hb
  replace pX := pX.below hb
  replace qG := owns_below qG hb
  clear hb
  clear hk9
  go_wp2_with fail
  refine (markBugS_any BG _ 1 xs _ (by omega) (by omega) (by omega) qG).mono ?_
  rintro e v2 ⟨rfl, qG2, g2⟩
  replace p0 := p0.kept g2 (own_ne_blk qG p0 (by decide))
  replace pX := pX.kept g2 (own_ne_blk qG pX (by decide))
  replace qS := fnExactAllBugs_heap qS fun j hj => g2.block j (qS.lt j hj).2 (fun e => by have h1 := (qG.lt j e.symm).1; have := bv _ hj; omega)
  replace bw := bw.grown g2 bw.size (fun k e => by have h1 := (qG.lt k e).1; omega)
  clear g2 qG
  have qG := qG2
  clear qG2
  have hh2 : decide (1 + (xs.length : Int) * 3 < 0) = false := by simp; omega
  have hh3 : ((1 + (xs.length : Int) * 3) != (1 + (xs.length : Int) * 3)) = false := by simp
  go_wp2_with fail
  refine (heldBugS_any BG _ 1 xs _ (by omega) (by omega) (by omega) qG).mono ?_
  rintro e h1b ⟨rfl, rfl⟩
  go_wp2_with (first | refine wpList_load_blk rfl 62 _ rfl w.heap.size rfl p0 _ Tryz.underlying62 rfl (by kernel_rfl) ?_)
  refine (kT _ (h0.below bw)).mono ?_
  rintro e wa2 ⟨rfl, hO, hb⟩
  have hA := hO.codes
  clear hO
  generalize v2.heap.size + 3 = ga at hA ⊢
  replace bw := bel_trans bw hb
  replace p0 := p0.below hb
  replace qS := owns_below qS hb
  replace pX := pX.below hb
  replace qG := owns_below qG hb
  clear hb
  go_wp2_with fail
  refine (kI _ _ _ _ hA (hG.below bw)).mono ?_
  rintro e xc ⟨⟨vH, rfl, qH⟩, hb⟩
  obtain ⟨vHa, vHc, rfl, _, _⟩ := bugs_sliceR qH hfit
  replace bw := bel_trans bw hb
  replace p0 := p0.below hb
  replace qS := owns_below qS hb
  replace pX := pX.below hb
  replace qG := owns_below qG hb
  clear hb hA
  clear kI
  go_wp2_with fail
  refine (eqBugS_same vHa vSa xs.length vHc vSc xs _ (instrs_rowS qH hfit) (instrs_rowS qS hfit)).mono ?_
  rintro e y9 ⟨rfl, hb⟩
  replace bw := bel_trans bw hb
  replace p0 := p0.below hb
  replace qS := owns_below qS hb
  replace pX := pX.below hb
  replace qG := owns_below qG hb
  clear hb qH
  go_wp2_with fail
  refine (heldBugS_any BG _ 1 xs _ (by omega) (by omega) (by omega) qG).mono ?_
  rintro e h2b ⟨rfl, rfl⟩
  go_wp2
  go_ret
  exact ⟨rfl, bw⟩
end Go.Proofs.YtcdpcfnlflpjnaaGreatDoor

