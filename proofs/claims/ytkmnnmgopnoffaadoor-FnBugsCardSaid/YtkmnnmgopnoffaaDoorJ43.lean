/-
  FnBugs, part 43 of 50 (BwI).
-/
import Derived.Test.YtkmnnmgopnoffaaDoorJ41
import Derived.Test.YtkmnnmgopnoffaaDoorJ42

/-
  The program's reading of bugs: bugOfWords.
-/
namespace Go.Proofs.YtkmnnmgopnoffaaDoor
open Go.RowKit
set_option linter.unusedVariables false
set_option linter.unusedSimpArgs false

theorem AllDec.at {ts : List ByteArray} {ns : List Nat} (h : AllDec ts ns) : ∀ i, i < ts.length → IsDec (ts.getD i ByteArray.empty) (ns.getD i 0) := by
  induction ts generalizing ns with
  | nil => intro i hi; simp at hi
  | cons t ts ih =>
    cases ns with
    | nil => exact absurd h (by simp [AllDec])
    | cons n ns =>
      intro i hi
      have h' : IsDec t n ∧ AllDec ts ns := h
      match i, hi with
      | 0, _ => exact h'.1
      | i + 1, hi =>
        rw [List.getD_cons_succ, List.getD_cons_succ]
        exact ih h'.2 i (by simpa using hi)
theorem drop_getD (ps : List ByteArray) (i : Nat) : (ps.drop 1).getD i ByteArray.empty = ps.getD (i + 1) ByteArray.empty := by
  simp [List.getD, Nat.add_comm]
theorem noBug_nums {ps : List ByteArray} (h : ∃ t ∈ ps.drop 1, NoDec t) : NoBug ps := by
  obtain ⟨t, ht, hn⟩ := h
  by_cases h1 : ps.length = 1
  · have e : ps.drop 1 = [] := List.drop_of_length_le (by omega)
    rw [e] at ht
    simp at ht
  · by_cases h3 : ps.length = 3
    · obtain ⟨i, hi, rfl⟩ := List.getElem_of_mem ht
      have hi2 : i < 2 := by simpa [h3] using hi
      have e : (ps.drop 1)[i] = ps.getD (i + 1) ByteArray.empty := by rw [← drop_getD, List.getD, List.getElem?_eq_getElem hi, Option.getD_some]
      rw [e] at hn
      match i, hi2 with
      | 0, _ => exact noBug_dec1 h3 hn
      | 1, _ => exact noBug_dec2 h3 hn
    · exact noBug_len h1 h3
/-- What is left to say once its numbers are read. -/
def BugCases (ps : List ByteArray) (ns : List Nat) (c : Int) : Prop :=
    (c = 14 → ns.length = 0 → IsBug ps (14, 0, 0)) ∧ (¬ (c = 14 ∧ ns.length = 0) → ¬ (c ≠ 14 ∧ ns.length = 2) → NoBug ps) ∧
    (c ≠ 14 → ns.length = 2 → okB (c, (ns.getD 0 0 : Int), (ns.getD 1 0 : Int)) = true → IsBug ps (c, (ns.getD 0 0 : Int), (ns.getD 1 0 : Int))) ∧ (c ≠ 14 → ns.length = 2 → okB (c, (ns.getD 0 0 : Int), (ns.getD 1 0 : Int)) = false → NoBug ps)
theorem bug_cases {ps : List ByteArray} {ns : List Nat} {c : Int} (h : AllDec (ps.drop 1) ns) (hc : IsCode (ps.getD 0 ByteArray.empty) c) (h0 : 0 < ps.length) : BugCases ps ns c := by
  have hl := h.length
  have hl2 : (ps.drop 1).length = ps.length - 1 := by simp
  have hat := h.at
  have d1 : ps.length = 3 → IsDec (ps.getD 1 ByteArray.empty) (ns.getD 0 0) := fun h3 => by have := hat 0 (by omega); rwa [drop_getD] at this
  have d2 : ps.length = 3 → IsDec (ps.getD 2 ByteArray.empty) (ns.getD 1 0) := fun h3 => by have := hat 1 (by omega); rwa [drop_getD] at this
  refine ⟨fun e hn => .inl ⟨by omega, (code14 hc).1 e, rfl⟩, fun n1 n2 => ?_, fun e hn hok => .inr ⟨by omega, _, _, c, d1 (by omega), d2 (by omega), hc, e, hok, rfl⟩, fun e hn hok => noBug_bad (by omega) (d1 (by omega)) (d2 (by omega)) hc (.inr hok)⟩
  by_cases p1 : ps.length = 1
  · refine noBug_one p1 fun hw => n1 ⟨(code14 hc).2 hw, by omega⟩
  · by_cases p3 : ps.length = 3
    · by_cases e : c = 14
      · exact noBug_bad p3 (d1 p3) (d2 p3) hc (.inl e)
      · exact absurd ⟨e, by omega⟩ n2
    · exact noBug_len p1 p3


theorem step_store_blkE {P : Program} {ops : Array Oper} {o : Oper} {a : Act} {w : World} {K : Act → World → Prop} {Q : Exit → Act → World → Prop} {E : Prop} (hgd : o.guard = none) (ty : TypeId) (x y : Operand) (ho : o.op = .store ty x y) (g : Nat) (vs : List Value) (hx : a.eval x = .pointer (some ⟨g, 0, none⟩)) (hy : a.eval y = .agg vs.toArray) {t : Nat} {cs : List Value} (hB : Blk w g t cs)
    (hi : (P.info? ty).map (·.size) = some vs.length) (hl : cs.length = vs.length) (h1 : vs.all (·.oneCell') = true)
    (h : ∀ w', Hid (Blk w' g t vs) → w.grownBy w' (some g) → K (a.put o.dst undef) w') : if Region.wanted o (yielded ops a.tmps) = true then Oper.wp P o a w K Q else E := by
  have hw : Region.wanted o (yielded ops a.tmps) = true := by simp [Region.wanted, hgd]
  rw [if_pos hw]
  exact wp_store_row ty x y ho g vs.toArray hx hy t cs.toArray hB (by simpa using hi) (by simpa using hl) (by simpa using h1) (h _ (blk_setRow vs hB) (grown_setRow _ _ _))
set_option maxHeartbeats 2000000 in
set_option maxRecDepth 100000 in
theorem bugOfWords_any (b off nn cap : Nat) (ps : List ByteArray) (w : World) (hS : Strs w (some ⟨b, off, none⟩) nn cap ps) (h0 : 0 < nn) (hn : nn ≤ 1000000) (hms : ∀ p ∈ ps, p.size ≤ maxLen) (hT : Table w) :
    Calls Tryd.prog 86 #[.slice (some ⟨b, off, none⟩) nn cap] w fun e w' => BugOut ps e ∧ Below w.heap.size w w' := by
  have hl := hS.1
  have hnz : ((nn : Int) == 0) = false := by simp; omega
  have hn0 : (0 : Int) < (nn : Int) := by omega
  have bw : Below w.heap.size w (w.alloc (.cells #[.int .i64 0, .int .i64 0, .int .i64 0] 54)) := by go_grown
  have pR := bugs_blk w
  have hS0 := hS.below bw
  replace hT := hT.below bw
  have hc0 : (w.alloc (.cells #[.int .i64 0, .int .i64 0, .int .i64 0] 54)).cell? ⟨b, off, none⟩ = some (.string (ps.getD 0 ByteArray.empty)) := by
    rcases hS0.2.2.2 with e | ⟨b', off', he, _, hc⟩
    · omega
    · cases he
      simpa using hc 0 h0
  obtain ⟨aS, rS, hS1⟩ := slice_strs hS0 (show 1 ≤ nn by omega)
  obtain ⟨p0, hp0⟩ : ∃ p0, p0 = ps.getD 0 ByteArray.empty := ⟨_, rfl⟩
  rw [← hp0] at hc0
  have hms1 : ∀ p ∈ ps.drop 1, p.size ≤ maxLen := fun p hp => hms p (List.mem_of_mem_drop hp)
  have HND : Hid ((∃ t ∈ ps.drop 1, NoDec t) → NoBug ps) := noBug_nums
  have HCS : Hid (∀ (ns : List Nat) (c : Int), AllDec (ps.drop 1) ns → IsCode p0 c → BugCases ps ns c) := fun ns c h hc => bug_cases h (by rw [← hp0]; exact hc) (by omega)
  clear hp0 hms hl hS hS0
  go_enter Tryd.func86, Tryd.ntmps86
  go_wp2_with fail
  generalize (w.alloc (.cells #[.int .i64 0, .int .i64 0, .int .i64 0] 54)) = W0 at *
  refine (implCodeOf_any p0 W0 hT).mono ?_
  rintro e w1 ⟨⟨c, rfl, hcd⟩, rfl⟩
  have HC : Hid (IsCode p0 c) := hcd
  clear hcd hT hc0
  have hRX : w.heap.size < W0.heap.size := pR.lt
  have ha : Below W0.heap.size W0 (W0.alloc (.cells #[.int .i64 c, .int .i64 0, .int .i64 0] 54)) := by go_grown
  have pB := Blk.new W0 54 [.int .i64 c, .int .i64 0, .int .i64 0]
  replace bw := bel_trans bw ha
  replace pR := pR.below ha
  replace hS1 := hS1.below ha
  clear ha
  have rS1 : ∀ W, (Instr.slice 117 (.slice (some ⟨b, off, none⟩) nn cap) (some (.int .i64 1)) none none).run Tryd.prog W = .ok (.slice aS (nn - 1) (cap - 1)) W := rS
  clear rS
  go_wp2_with fail
  generalize hX4 : W0.heap.size = X4 at *
  generalize (W0.alloc (.cells #[.int .i64 c, .int .i64 0, .int .i64 0] 54)) = w2 at *
  generalize hts : ps.drop 1 = ts at *
  have hX2 : X4 < w2.heap.size := pB.lt
  refine (numbersOfWords_any aS (nn - 1) (cap - 1) ts _ hS1 (by omega) hms1).mono ?_
  rintro e w3 ⟨hN, hb⟩
  replace bw := bel_trans bw hb
  replace pR := pR.below hb
  replace pB := pB.below hb
  clear hb hS1 rS1 hms1
  rcases hN with ⟨ns, v, hAD, rfl, hq⟩ | ⟨hnd, rfl⟩
  · obtain ⟨c1, c2, c3, c4⟩ := HCS.out ns c hAD HC.out
    have C1 : Hid (c = 14 → ns.length = 0 → IsBug ps (14, 0, 0)) := c1
    have C2 : Hid (¬ (c = 14 ∧ ns.length = 0) → ¬ (c ≠ 14 ∧ ns.length = 2) → NoBug ps) := c2
    have C3 : Hid (c ≠ 14 → ns.length = 2 → okB (c, (ns.getD 0 0 : Int), (ns.getD 1 0 : Int)) = true → IsBug ps (c, (ns.getD 0 0 : Int), (ns.getD 1 0 : Int))) := c3
    have C4 : Hid (c ≠ 14 → ns.length = 2 → okB (c, (ns.getD 0 0 : Int), (ns.getD 1 0 : Int)) = false → NoBug ps) := c4
    clear c1 c2 c3 c4 hAD HCS HC HND
    obtain ⟨av, mv, cv, rfl, hmv, hat⟩ : ∃ av mv cv, v = .slice av mv cv ∧ mv = ns.length ∧ (0 < mv → ∃ g, av = some ⟨g, 0, none⟩ ∧ w2.heap.size ≤ g ∧ ∀ t, t < mv → w3.cell? ⟨g, t, none⟩ = some (.int .i64 (ns.getD t 0 : Nat))) := by
      rcases hq.2 with ⟨hv, h9⟩ | ⟨g, cp, cur, hv, _⟩
      · exact ⟨none, 0, 0, hv, h9.symm, fun h => by omega⟩
      · subst hv
        refine ⟨_, _, _, rfl, rfl, fun _ => ⟨g, rfl, (hq.lt g rfl).1, fun t ht => ?_⟩⟩
        have h9 := hq.cellAt t (by simpa using ht)
        rw [h9]
        simp [List.getD, List.getElem?_eq_getElem ht]
    clear hq
    have HMV : Hid (mv = ns.length) := hmv
    clear hmv
    have k0 := pB.cell 0
    simp only [List.getElem?_cons_zero] at k0
    by_cases hc14 : c = 14
    · have hcb : (c == 14) = true := by simp [hc14]
      have hcb2 : (c != 14) = false := by simp [hc14]
      by_cases hm0 : mv = 0
      · have hmb : ((mv : Int) == 0) = true := by simp [hm0]
        have HB : Hid (IsBug ps (14, 0, 0)) := C1.out hc14 (by rw [← HMV.out]; exact hm0)
        subst hc14
        clear C1 C2 C3 C4 HMV hat hm0
        have kO := implBugOK_is (14, 0, 0)
        obtain ⟨okb, hokb⟩ : ∃ okb, okb = okB (14, 0, 0) := ⟨_, rfl⟩
        rw [← hokb] at kO
        have HOK : Hid (okb = true) := hokb.trans (by decide)
        clear hokb
        unfold I3.val at kO
        simp only at kO
        go_wp2_with fail
        refine wp_region_held_drew (S := (fun w' => w'.cell? ⟨X4, 0, none⟩ = some (.int .i64 14) ∧ w'.cell? ⟨X4, 1, none⟩ = some (.int .i64 0) ∧ w'.cell? ⟨X4, 2, none⟩ = some (.int .i64 0))) (by kernel_rfl) ⟨pB.cell 0, pB.cell 1, pB.cell 2⟩ (fun hS0 => ?_)
        refine wpAnyH_take (i := 0) (oi := { dst := some 52, op := _, type := _, pos := _, after := _, guard := _ }) (v := (.agg #[.int .i64 14, .int .i64 0, .int .i64 0])) rfl (by kernel_rfl) (by kernel_rfl) (by kernel_rfl) (fun _ _ _ h => h) (Or.inl ⟨by rfl, ?_⟩) (by assumption) ?_
        · (intro w' hSw; (try dsimp only at hSw); go_simp; try rfl)
        simp only [Act.put, List.setIfInBounds_toArray, List.set_cons_zero, List.set_cons_succ]
        refine wpAnyH_take (i := 1) (oi := { dst := some 53, op := _, type := _, pos := _, after := _, guard := _ }) (v := (.agg #[.int .i64 14, .int .i64 0, .int .i64 0])) rfl (by kernel_rfl) (by kernel_rfl) (by kernel_rfl) (fun _ _ _ h => h) (Or.inl ⟨by rfl, ?_⟩) (by assumption) ?_
        · (intro w' hSw; (try dsimp only at hSw); go_simp; try rfl)
        simp only [Act.put, List.setIfInBounds_toArray, List.set_cons_zero, List.set_cons_succ]
        refine wpAnyH_ready (rs := [2]) (by kernel_rfl) (by simp) ?_
        refine AllReadyH.cons (o := { dst := some 54, op := _, type := _, pos := _, after := _, guard := _ }) rfl (fun K hK => ?_) AllReadyH.nil
        go_simp
        refine (kO _).mono ?_
        rintro e u1 ⟨rfl, hb⟩
        replace hb : Below w3.heap.size w3 u1 := ⟨hb.os, hb.tape, hb.output, hb.size, hb.block⟩
        replace bw := bel_trans bw hb
        replace pR := pR.below hb
        replace pB := pB.below hb
        clear hb
        go_wp2_with fail
        refine hK.out _ _ ⟨pB.cell 0, pB.cell 1, pB.cell 2⟩ (fun hSa => ?_)
        clear hK
        try simp only [Act.put, List.setIfInBounds_toArray, List.set_cons_zero, List.set_cons_succ]
        refine wpAnyH_ready (rs := [3]) (by kernel_rfl) (by simp) ?_
        refine AllReadyH.cons (o := { dst := none, op := _, type := _, pos := _, after := _, guard := _ }) rfl (fun K hK => ?_) AllReadyH.nil
        refine step_store_blkE rfl 54 _ _ rfl w.heap.size [.int .i64 14, .int .i64 0, .int .i64 0] rfl rfl pR (by kernel_rfl) rfl rfl ?_
        intro u2 pR9 g2
        replace bw := bw.grown g2 bw.size (fun k e => by cases e; omega)
        replace pB := pB.kept g2 (fun e => by cases e; omega)
        clear g2 pR
        refine hK.out _ _ ⟨pB.cell 0, pB.cell 1, pB.cell 2⟩ (fun hSb => ?_)
        clear hK
        try simp only [Act.put, List.setIfInBounds_toArray, List.set_cons_zero, List.set_cons_succ]
        refine wpAnyH_take (i := 4) (oi := { dst := some 3, op := _, type := _, pos := _, after := _, guard := _ }) (v := .bool okb) rfl (by kernel_rfl) (by kernel_rfl) (by kernel_rfl) (fun _ _ _ h => h) (Or.inl ⟨by rfl, ?_⟩) (by assumption) ?_
        · (intro w' hSw; (try dsimp only at hSw); go_simp; try rfl)
        simp only [Act.put, List.setIfInBounds_toArray, List.set_cons_zero, List.set_cons_succ]
        refine wpAnyH_done (by kernel_rfl) ?_ _
        clear hS0 hSa hSb pB
        go_wp2_with fail
        refine bodyPost_ret (results_blk2 Tryd.results86 _ _ _ _ _ _ rfl pR9.out Tryd.underlying54 rfl (by kernel_rfl)) rfl ?_
        cases okb
        · exact ⟨BugOut.no (14, 0, 0) (absurd HOK.out (by decide)) rfl, bw⟩
        · exact ⟨BugOut.yes (x := (14, 0, 0)) (HB.out) rfl, bw⟩
      · have hmb : ((mv : Int) == 0) = false := by simp; omega
        have HB : Hid (NoBug ps) := C2.out (fun h => hm0 (by rw [HMV.out]; exact h.2)) (fun h => h.1 hc14)
        clear C1 C2 C3 C4 HMV hat hm0 hc14
        have kR0 := pR.cell 0
        have kR1 := pR.cell 1
        have kR2 := pR.cell 2
        simp only [List.getElem?_cons_zero, List.getElem?_cons_succ] at kR0 kR1 kR2
        have fR0 := pR.frozen 0
        have fR1 := pR.frozen 1
        have fR2 := pR.frozen 2
        have pR9 := ((pR.set 0 (.int .i64 0)).set 1 (.int .i64 0)).set 2 (.int .i64 0)
        simp only [List.set_cons_zero, List.set_cons_succ] at pR9
        have g9 := grownBy_tr (grownBy_tr (grownBy_set w3 w.heap.size 0 (.int .i64 0)) (grownBy_set _ w.heap.size 1 (.int .i64 0))) (grownBy_set _ w.heap.size 2 (.int .i64 0))
        have bw9 := bw.grown g9 bw.size (fun k e => by cases e; omega)
        clear g9 pR bw
        go_wp2
        generalize ((w3.setCell ⟨w.heap.size, 0, none⟩ (.int .i64 0)).setCell ⟨w.heap.size, 1, none⟩ (.int .i64 0)).setCell ⟨w.heap.size, 2, none⟩ (.int .i64 0) = w9 at *
        refine bodyPost_ret (results_blk2 Tryd.results86 _ _ _ _ _ _ rfl pR9 Tryd.underlying54 rfl (by kernel_rfl)) rfl ?_
        exact ⟨BugOut.no (0, 0, 0) HB.out rfl, bw9⟩
    · have hcb : (c == 14) = false := by simp [hc14]
      have hcb2 : (c != 14) = true := by simp [hc14]
      by_cases hm2 : mv = 2
      · subst hm2
        obtain ⟨gv, rfl, hgv, hcell⟩ := hat (by omega)
        have hgx : gv ≠ X4 := by omega
        have hgx2 : X4 ≠ gv := by omega
        have hRX4 : w.heap.size ≠ X4 := by omega
        have q0 := hcell 0 (by omega)
        have q1 := hcell 1 (by omega)
        have D3 : Hid (okB (c, (ns.getD 0 0 : Int), (ns.getD 1 0 : Int)) = true → IsBug ps (c, (ns.getD 0 0 : Int), (ns.getD 1 0 : Int))) := C3.out hc14 HMV.out.symm
        have D4 : Hid (okB (c, (ns.getD 0 0 : Int), (ns.getD 1 0 : Int)) = false → NoBug ps) := C4.out hc14 HMV.out.symm
        generalize ns.getD 0 0 = n1 at *
        generalize ns.getD 1 0 = n2 at *
        have k1 := pB.cell 1
        have k2 := pB.cell 2
        simp only [List.getElem?_cons_zero, List.getElem?_cons_succ] at k1 k2
        have f1 := pB.frozen 1
        have f2 := pB.frozen 2
        have pB2 := (pB.set 1 (.int .i64 (n1 : Int))).set 2 (.int .i64 (n2 : Int))
        simp only [List.set_cons_zero, List.set_cons_succ] at pB2
        clear C1 C2 C3 C4 HMV hcell hat
        go_wp2_with fail
        go_region
        have g5 := grownBy_tr (grownBy_set w3 X4 1 (.int .i64 (n1 : Int))) (grownBy_set _ X4 2 (.int .i64 (n2 : Int)))
        have pR5 := pR.kept g5 (fun e => by cases e; omega)
        have bw5 := bw.grown g5 bw.size (fun k e => by cases e; omega)
        replace pB2 := pB2.drew
        replace pR5 := pR5.drew
        replace bw5 : Below w.heap.size w ((w3.setCell ⟨X4, 1, none⟩ (.int .i64 (n1 : Int))).setCell ⟨X4, 2, none⟩ (.int .i64 (n2 : Int))).drew := ⟨bw5.os, bw5.tape, bw5.output, bw5.size, bw5.block⟩
        clear pR bw pB g5 k0 k1 k2 f1 f2 q0 q1
        have pR := pR5
        have bw := bw5
        have pB := pB2
        clear pR5 bw5 pB2
        generalize ((w3.setCell ⟨X4, 1, none⟩ (.int .i64 (n1 : Int))).setCell ⟨X4, 2, none⟩ (.int .i64 (n2 : Int))).drew = w5 at *
        have kO := implBugOK_is (c, (n1 : Int), (n2 : Int))
        obtain ⟨okb, hokb⟩ : ∃ okb, okb = okB (c, (n1 : Int), (n2 : Int)) := ⟨_, rfl⟩
        rw [← hokb] at kO
        have HOK : Hid (okb = okB (c, (n1 : Int), (n2 : Int))) := hokb
        clear hokb hc14
        unfold I3.val at kO
        simp only at kO
        go_wp2_with fail
        refine wp_region_held_drew (S := (fun w' => w'.cell? ⟨X4, 0, none⟩ = some (.int .i64 c) ∧ w'.cell? ⟨X4, 1, none⟩ = some (.int .i64 (n1 : Int)) ∧ w'.cell? ⟨X4, 2, none⟩ = some (.int .i64 (n2 : Int)))) (by kernel_rfl) ⟨pB.cell 0, pB.cell 1, pB.cell 2⟩ (fun hS0 => ?_)
        refine wpAnyH_take (i := 0) (oi := { dst := some 52, op := _, type := _, pos := _, after := _, guard := _ }) (v := (.agg #[.int .i64 c, .int .i64 (n1 : Int), .int .i64 (n2 : Int)])) rfl (by kernel_rfl) (by kernel_rfl) (by kernel_rfl) (fun _ _ _ h => h) (Or.inl ⟨by rfl, ?_⟩) (by assumption) ?_
        · (intro w' hSw; (try dsimp only at hSw); go_simp; try rfl)
        simp only [Act.put, List.setIfInBounds_toArray, List.set_cons_zero, List.set_cons_succ]
        refine wpAnyH_take (i := 1) (oi := { dst := some 53, op := _, type := _, pos := _, after := _, guard := _ }) (v := (.agg #[.int .i64 c, .int .i64 (n1 : Int), .int .i64 (n2 : Int)])) rfl (by kernel_rfl) (by kernel_rfl) (by kernel_rfl) (fun _ _ _ h => h) (Or.inl ⟨by rfl, ?_⟩) (by assumption) ?_
        · (intro w' hSw; (try dsimp only at hSw); go_simp; try rfl)
        simp only [Act.put, List.setIfInBounds_toArray, List.set_cons_zero, List.set_cons_succ]
        refine wpAnyH_ready (rs := [2]) (by kernel_rfl) (by simp) ?_
        refine AllReadyH.cons (o := { dst := some 54, op := _, type := _, pos := _, after := _, guard := _ }) rfl (fun K hK => ?_) AllReadyH.nil
        go_simp
        refine (kO _).mono ?_
        rintro e u1 ⟨rfl, hb⟩
        replace hb : Below w5.heap.size w5 u1 := ⟨hb.os, hb.tape, hb.output, hb.size, hb.block⟩
        replace bw := bel_trans bw hb
        replace pR := pR.below hb
        replace pB := pB.below hb
        clear hb
        go_wp2_with fail
        refine hK.out _ _ ⟨pB.cell 0, pB.cell 1, pB.cell 2⟩ (fun hSa => ?_)
        clear hK
        try simp only [Act.put, List.setIfInBounds_toArray, List.set_cons_zero, List.set_cons_succ]
        refine wpAnyH_ready (rs := [3]) (by kernel_rfl) (by simp) ?_
        refine AllReadyH.cons (o := { dst := none, op := _, type := _, pos := _, after := _, guard := _ }) rfl (fun K hK => ?_) AllReadyH.nil
        refine step_store_blkE rfl 54 _ _ rfl w.heap.size [.int .i64 c, .int .i64 (n1 : Int), .int .i64 (n2 : Int)] rfl rfl pR (by kernel_rfl) rfl rfl ?_
        intro u2 pR9 g2
        replace bw := bw.grown g2 bw.size (fun k e => by cases e; omega)
        replace pB := pB.kept g2 (fun e => by cases e; omega)
        clear g2 pR
        refine hK.out _ _ ⟨pB.cell 0, pB.cell 1, pB.cell 2⟩ (fun hSb => ?_)
        clear hK
        try simp only [Act.put, List.setIfInBounds_toArray, List.set_cons_zero, List.set_cons_succ]
        refine wpAnyH_take (i := 4) (oi := { dst := some 3, op := _, type := _, pos := _, after := _, guard := _ }) (v := .bool okb) rfl (by kernel_rfl) (by kernel_rfl) (by kernel_rfl) (fun _ _ _ h => h) (Or.inl ⟨by rfl, ?_⟩) (by assumption) ?_
        · (intro w' hSw; (try dsimp only at hSw); go_simp; try rfl)
        simp only [Act.put, List.setIfInBounds_toArray, List.set_cons_zero, List.set_cons_succ]
        refine wpAnyH_done (by kernel_rfl) ?_ _
        clear hS0 hSa hSb pB
        go_wp2_with fail
        refine bodyPost_ret (results_blk2 Tryd.results86 _ _ _ _ _ _ rfl pR9.out Tryd.underlying54 rfl (by kernel_rfl)) rfl ?_
        cases okb
        · exact ⟨BugOut.no (c, (n1 : Int), (n2 : Int)) (D4.out HOK.out.symm) rfl, bw⟩
        · exact ⟨BugOut.yes (x := (c, (n1 : Int), (n2 : Int))) (D3.out HOK.out.symm) rfl, bw⟩
      · have hmb : ((mv : Int) == 2) = false := by simp; omega
        have HB : Hid (NoBug ps) := C2.out (fun h => hc14 h.1) (fun h => hm2 (by rw [HMV.out]; exact h.2))
        clear C1 C2 C3 C4 HMV hat hm2 hc14
        have kR0 := pR.cell 0
        have kR1 := pR.cell 1
        have kR2 := pR.cell 2
        simp only [List.getElem?_cons_zero, List.getElem?_cons_succ] at kR0 kR1 kR2
        have fR0 := pR.frozen 0
        have fR1 := pR.frozen 1
        have fR2 := pR.frozen 2
        have pR9 := ((pR.set 0 (.int .i64 0)).set 1 (.int .i64 0)).set 2 (.int .i64 0)
        simp only [List.set_cons_zero, List.set_cons_succ] at pR9
        have g9 := grownBy_tr (grownBy_tr (grownBy_set w3 w.heap.size 0 (.int .i64 0)) (grownBy_set _ w.heap.size 1 (.int .i64 0))) (grownBy_set _ w.heap.size 2 (.int .i64 0))
        have bw9 := bw.grown g9 bw.size (fun k e => by cases e; omega)
        clear g9 pR bw
        go_wp2
        generalize ((w3.setCell ⟨w.heap.size, 0, none⟩ (.int .i64 0)).setCell ⟨w.heap.size, 1, none⟩ (.int .i64 0)).setCell ⟨w.heap.size, 2, none⟩ (.int .i64 0) = w9 at *
        refine bodyPost_ret (results_blk2 Tryd.results86 _ _ _ _ _ _ rfl pR9 Tryd.underlying54 rfl (by kernel_rfl)) rfl ?_
        exact ⟨BugOut.no (0, 0, 0) HB.out rfl, bw9⟩
  · have HB : Hid (NoBug ps) := HND.out hnd
    clear HND HCS HC hnd
    have kR0 := pR.cell 0
    have kR1 := pR.cell 1
    have kR2 := pR.cell 2
    simp only [List.getElem?_cons_zero, List.getElem?_cons_succ] at kR0 kR1 kR2
    have fR0 := pR.frozen 0
    have fR1 := pR.frozen 1
    have fR2 := pR.frozen 2
    have pR9 := ((pR.set 0 (.int .i64 0)).set 1 (.int .i64 0)).set 2 (.int .i64 0)
    simp only [List.set_cons_zero, List.set_cons_succ] at pR9
    have g9 := grownBy_tr (grownBy_tr (grownBy_set w3 w.heap.size 0 (.int .i64 0)) (grownBy_set _ w.heap.size 1 (.int .i64 0))) (grownBy_set _ w.heap.size 2 (.int .i64 0))
    have bw9 := bw.grown g9 bw.size (fun k e => by cases e; omega)
    clear g9 pR bw
    go_wp2
    generalize ((w3.setCell ⟨w.heap.size, 0, none⟩ (.int .i64 0)).setCell ⟨w.heap.size, 1, none⟩ (.int .i64 0)).setCell ⟨w.heap.size, 2, none⟩ (.int .i64 0) = w9 at *
    refine bodyPost_ret (results_blk2 Tryd.results86 _ _ _ _ _ _ rfl pR9 Tryd.underlying54 rfl (by kernel_rfl)) rfl ?_
    exact ⟨BugOut.no (0, 0, 0) HB.out rfl, bw9⟩
end Go.Proofs.YtkmnnmgopnoffaaDoor
