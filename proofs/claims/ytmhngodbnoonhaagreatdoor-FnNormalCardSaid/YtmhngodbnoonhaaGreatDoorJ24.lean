/-
  FnNormal, part 24 of 50 (MatP, NrmS, OrdS, Bug0, BugPl, MarkH).
-/
import Derived.Test.YtmhngodbnoonhaaGreatDoorJ23
import Derived.Test.YtmhngodbnoonhaaGreatDoorJ07
import Derived.Deep.RegionHeld3
import Derived.Test.YtmhngodbnoonhaaGreatDoorJ01
import Derived.Test.YtmhngodbnoonhaaGreatDoorJ02
import Derived.Test.YtmhngodbnoonhaaGreatDoorJ04

/-
  The specification's table of what must be ahead of what, cell by cell; pairs counted both ways.
-/
namespace Go.Proofs.YtmhngodbnoonhaaGreatDoor
set_option linter.unusedVariables false

noncomputable def befB (D : Nat → Nat → Bool) (i k : Nat) : Bool := @decide (Bef D i k) (Classical.propDecidable _)
theorem befB_iff {D : Nat → Nat → Bool} {i k : Nat} : befB D i k = true ↔ Bef D i k := by
  unfold befB
  exact @decide_eq_true_iff _ (Classical.propDecidable _)
theorem bool_ext {a b : Bool} (h : a = true ↔ b = true) : a = b := by
  cases a <;> cases b <;> simp_all
/-- Column k, once the rows from i on are through. -/
noncomputable def colB (D : Nat → Nat → Bool) (k i h : Nat) : Bool := @decide (∃ j, i ≤ j ∧ j < k ∧ D j k = true ∧ (h = j ∨ Bef D h j)) (Classical.propDecidable _)
theorem colB_iff {D : Nat → Nat → Bool} {k i h : Nat} : colB D k i h = true ↔ ∃ j, i ≤ j ∧ j < k ∧ D j k = true ∧ (h = j ∨ Bef D h j) := by
  unfold colB
  exact @decide_eq_true_iff _ (Classical.propDecidable _)
/-- Column k, where row i is under way: the first c of those ahead of it are through. -/
noncomputable def midB (D : Nat → Nat → Bool) (k i c h : Nat) : Bool := colB D k (i + 1) h || (h == i || (decide (h < c) && befB D h i))
theorem colB_top (D : Nat → Nat → Bool) (k h : Nat) : colB D k k h = false := by
  cases e : colB D k k h
  · rfl
  · obtain ⟨j, h1, h2, _⟩ := colB_iff.1 e
    omega
theorem colB_skip {D : Nat → Nat → Bool} {k i : Nat} (hd : D i k = false) (h : Nat) : colB D k i h = colB D k (i + 1) h := by
  refine bool_ext ?_
  rw [colB_iff, colB_iff]
  constructor
  · rintro ⟨j, h1, h2, h3, h4⟩
    refine ⟨j, ?_, h2, h3, h4⟩
    by_cases e : i = j
    · subst e; rw [hd] at h3; cases h3
    · omega
  · rintro ⟨j, h1, h2, h3, h4⟩
    exact ⟨j, by omega, h2, h3, h4⟩
theorem midB_zero (D : Nat → Nat → Bool) (k i h : Nat) : midB D k i 0 h = (colB D k (i + 1) h || h == i) := by simp [midB]
theorem midB_succ (D : Nat → Nat → Bool) (k i c h : Nat) : midB D k i (c + 1) h = (midB D k i c h || (h == c && befB D c i)) := by
  refine bool_ext ?_
  unfold midB
  simp only [Bool.or_eq_true, Bool.and_eq_true, decide_eq_true_eq, beq_iff_eq]
  constructor
  · rintro (h1 | h1 | ⟨h1, h2⟩)
    · exact .inl (.inl h1)
    · exact .inl (.inr (.inl h1))
    · by_cases e : h = c
      · exact .inr ⟨e, by rw [← e]; exact h2⟩
      · exact .inl (.inr (.inr ⟨by omega, h2⟩))
  · rintro ((h1 | h1 | ⟨h1, h2⟩) | ⟨h1, h2⟩)
    · exact .inl h1
    · exact .inr (.inl h1)
    · exact .inr (.inr ⟨by omega, h2⟩)
    · exact .inr (.inr ⟨by omega, by rw [h1]; exact h2⟩)
theorem midB_end {D : Nat → Nat → Bool} {k i : Nat} (hd : D i k = true) (hi : i < k) (h : Nat) : midB D k i i h = colB D k i h := by
  refine bool_ext ?_
  unfold midB
  simp only [Bool.or_eq_true, Bool.and_eq_true, decide_eq_true_eq, beq_iff_eq]
  rw [colB_iff, colB_iff, befB_iff]
  constructor
  · rintro (⟨j, h1, h2, h3, h4⟩ | h1 | ⟨h1, h2⟩)
    · exact ⟨j, by omega, h2, h3, h4⟩
    · exact ⟨i, Nat.le_refl _, hi, hd, .inl h1⟩
    · exact ⟨i, Nat.le_refl _, hi, hd, .inr h2⟩
  · rintro ⟨j, h1, h2, h3, h4⟩
    by_cases e : i = j
    · subst e
      rcases h4 with h4 | h4
      · exact .inr (.inl h4)
      · exact .inr (.inr ⟨h4.lt, h4⟩)
    · exact .inl ⟨j, by omega, h2, h3, h4⟩
theorem colB_all (D : Nat → Nat → Bool) (k h : Nat) : colB D k 0 h = befB D h k := by
  refine bool_ext ?_
  rw [colB_iff, befB_iff, bef_iff]
  constructor
  · rintro ⟨j, _, h2, h3, h4⟩
    exact ⟨j, h2, h3, h4⟩
  · rintro ⟨j, h2, h3, h4⟩
    exact ⟨j, by omega, h2, h3, h4⟩

/-- A sum of the first n. -/
def sumN (f : Nat → Nat) : Nat → Nat
  | 0 => 0
  | n + 1 => sumN f n + f n
theorem sumN_congr {f g : Nat → Nat} : ∀ n, (∀ i, i < n → f i = g i) → sumN f n = sumN g n
  | 0, _ => rfl
  | n + 1, h => by
    show sumN f n + f n = sumN g n + g n
    rw [sumN_congr n (fun i hi => h i (by omega)), h n (by omega)]
theorem sumN_add (f g : Nat → Nat) : ∀ n, sumN (fun i => f i + g i) n = sumN f n + sumN g n
  | 0 => rfl
  | n + 1 => by
    show sumN (fun i => f i + g i) n + (f n + g n) = (sumN f n + f n) + (sumN g n + g n)
    rw [sumN_add f g n]
    omega
/-- The pairs, the later event outside (the program); the earlier event outside (the specification). -/
def pairsJ (f : Nat → Nat → Nat) (n : Nat) : Nat := sumN (fun j => sumN (fun i => f i j) j) n
def fromTo (f : Nat → Nat) (a b : Nat) : Nat := sumN (fun d => f (a + d)) (b - a)
theorem fromTo_succ (f : Nat → Nat) {a b : Nat} (h : a ≤ b) : fromTo f a (b + 1) = fromTo f a b + f b := by
  unfold fromTo
  rw [show b + 1 - a = (b - a) + 1 by omega]
  show sumN _ (b - a) + f (a + (b - a)) = _
  rw [show a + (b - a) = b by omega]
def pairsI (f : Nat → Nat → Nat) (n : Nat) : Nat := sumN (fun i => fromTo (f i) (i + 1) n) n
theorem pairs_same (f : Nat → Nat → Nat) : ∀ n, pairsI f n = pairsJ f n
  | 0 => rfl
  | n + 1 => by
    have ih := pairs_same f n
    have e1 : pairsJ f (n + 1) = pairsJ f n + sumN (fun i => f i n) n := rfl
    have e2 : pairsI f (n + 1) = sumN (fun i => fromTo (f i) (i + 1) (n + 1)) n + fromTo (f n) (n + 1) (n + 1) := rfl
    have e3 : fromTo (f n) (n + 1) (n + 1) = 0 := by unfold fromTo; rw [Nat.sub_self]; rfl
    have e4 : sumN (fun i => fromTo (f i) (i + 1) (n + 1)) n = sumN (fun i => fromTo (f i) (i + 1) n + f i n) n := sumN_congr n (fun i hi => fromTo_succ (f i) (by omega))
    rw [e2, e3, e4, sumN_add, e1, ← ih]
    rfl
end Go.Proofs.YtmhngodbnoonhaaGreatDoor


/-
  What both sides reckon is the normal form of the row of events.
-/
namespace Go.Proofs.YtmhngodbnoonhaaGreatDoor
set_option linter.unusedVariables false

/-- The events, their threads and what they depend on, by number. -/
def evAt (es : List I4) (i : Nat) : I4 := es.getD i (0, 0, 0, 0)
def thE (es : List I4) (i : Nat) : Nat := (evAt es i).1.toNat
def depE (es : List I4) (i k : Nat) : Bool := depM (evAt es i) (evAt es k)
/-- The threads are the three. -/
def inThree (es : List I4) : Prop := ∀ x ∈ es, 0 ≤ x.1 ∧ x.1 < 3
theorem evAt_mem {es : List I4} {i : Nat} (h : i < es.length) : evAt es i ∈ es := by
  unfold evAt
  simp only [List.getD, List.getElem?_eq_getElem h, Option.getD_some]
  exact List.getElem_mem h
theorem evAt_three {es : List I4} (h : inThree es) (i : Nat) : 0 ≤ (evAt es i).1 ∧ (evAt es i).1 < 3 := by
  by_cases hi : i < es.length
  · exact h _ (evAt_mem hi)
  · unfold evAt
    simp [List.getD, List.getElem?_eq_none (Nat.le_of_not_lt hi)]
theorem thE_three {es : List I4} (h : inThree es) (i : Nat) : thE es i < 3 := by
  have := evAt_three h i
  unfold thE
  omega
theorem thE_int {es : List I4} (h : inThree es) (i : Nat) : ((thE es i : Nat) : Int) = (evAt es i).1 := by
  have := evAt_three h i
  unfold thE
  omega
theorem depE_thread {es : List I4} (h : inThree es) (i k : Nat) (_ : i < k) (ht : thE es i = thE es k) : depE es i k = true := by
  refine depM_thread ?_
  rw [← thE_int h i, ← thE_int h k, ht]
theorem leastT_le {ok : Nat → Bool} {th : Nat → Nat} {k : Nat} (ho : ok k = true) : ∀ n, k < n → leastT ok th n ≤ th k
  | 0, h => by omega
  | n + 1, h => by
    have e : leastT ok th (n + 1) = if ok n then Nat.min (leastT ok th n) (th n) else leastT ok th n := rfl
    have hm : ∀ a b : Nat, Nat.min a b = min a b := fun _ _ => rfl
    by_cases hk : k = n
    · subst hk
      rw [e, if_pos ho, hm]
      omega
    · have ih := leastT_le (th := th) ho n (by omega)
      rw [e]
      split
      · rw [hm]; omega
      · exact ih
/-- The numbers of those that are not used, and their events. -/
def leftI (used : Nat → Bool) (n : Nat) : List Nat := (List.range n).filter (fun i => !used i)
def leftE (es : List I4) (used : Nat → Bool) : List I4 := (leftI used es.length).map (evAt es)
theorem mem_leftI {used : Nat → Bool} {n i : Nat} : i ∈ leftI used n ↔ i < n ∧ used i = false := by
  unfold leftI
  simp
theorem leftI_rises (used : Nat → Bool) (n : Nat) : (leftI used n).Pairwise (· < ·) := List.Pairwise.filter _ List.pairwise_lt_range
theorem part_rises {used : Nat → Bool} {n k : Nat} {I J : List Nat} (h : leftI used n = I ++ k :: J) : (∀ i ∈ I, i < k) ∧ (∀ j ∈ J, k < j) := by
  have hr := leftI_rises used n
  rw [h, List.pairwise_append] at hr
  obtain ⟨_, h2, h3⟩ := hr
  rw [List.pairwise_cons] at h2
  exact ⟨fun i hi => h3 i hi k (by simp), fun j hj => h2.1 j hj⟩
theorem leftI_put {used : Nat → Bool} {n b : Nat} {I J : List Nat} (h : leftI used n = I ++ b :: J) : leftI (fun i => used i || i == b) n = I ++ J := by
  obtain ⟨h1, h2⟩ := part_rises h
  have e : leftI (fun i => used i || i == b) n = (leftI used n).filter (fun i => !(i == b)) := by
    unfold leftI
    rw [List.filter_filter]
    refine List.filter_congr (fun i _ => ?_)
    rw [Bool.not_or, Bool.and_comm]
  rw [e, h, List.filter_append]
  have f1 : I.filter (fun i => !(i == b)) = I := by
    rw [List.filter_eq_self]
    intro i hi
    have := h1 i hi
    simp
    omega
  have f2 : (b :: J).filter (fun i => !(i == b)) = J := by
    rw [List.filter_cons]
    simp only [beq_self_eq_true, Bool.not_true, Bool.false_eq_true, if_false]
    rw [List.filter_eq_self]
    intro i hi
    have := h2 i hi
    simp
    omega
  rw [f1, f2]
theorem left_all (es : List I4) : leftE es (fun _ => false) = es := by
  unfold leftE leftI
  have e : (List.range es.length).filter (fun i => !false) = List.range es.length := by
    rw [List.filter_eq_self]
    intro i _
    rfl
  rw [e]
  refine List.ext_getElem (by simp) (fun i h1 h2 => ?_)
  simp [evAt, List.getD, h2]
/-- The best one is the free event of the least thread. -/
theorem best_pick {es : List I4} (h : inThree es) {used : Nat → Bool} {b : Nat} (hc : ∀ i k, k < es.length → Bef (depE es) i k → used k = true → used i = true) (hb : bestS (okU (befB (depE es)) es.length used) (thE es) es.length = some b) :
    b < es.length ∧ okU (befB (depE es)) es.length used b = true ∧ Pick (leftE es used) (evAt es b) (leftE es (fun i => used i || i == b)) := by
  have ok_iff : ∀ k, okU (befB (depE es)) es.length used k = true ↔ used k = false ∧ ∀ i, i < es.length → Bef (depE es) i k → used i = true := fun k => by
    unfold okU
    rw [Bool.and_eq_true, allU_iff]
    simp only [Bool.not_eq_true', befB_iff]
  rcases best_least (ok := okU (befB (depE es)) es.length used) (thE_three h) es.length with ⟨e, _, _⟩ | ⟨b', e, hbn, hok, hl⟩
  · rw [hb] at e; cases e
  rw [hb] at e
  cases e
  obtain ⟨o1, o2⟩ := (ok_iff b).1 hok
  refine ⟨hbn, hok, ?_, ?_⟩
  · obtain ⟨I, J, hIJ⟩ := List.append_of_mem (mem_leftI.2 ⟨hbn, o1⟩)
    obtain ⟨p1, p2⟩ := part_rises hIJ
    refine ⟨I.map (evAt es), J.map (evAt es), by unfold leftE; rw [hIJ]; simp, by unfold leftE; rw [leftI_put hIJ]; simp, ?_⟩
    intro x hx
    obtain ⟨i, hi, rfl⟩ := List.mem_map.1 hx
    have hm : i ∈ leftI used es.length := by rw [hIJ]; simp [hi]
    obtain ⟨q1, q2⟩ := mem_leftI.1 hm
    cases hd : depM (evAt es i) (evAt es b)
    · rfl
    · have := o2 i q1 (.one (p1 i hi) hd)
      rw [q2] at this
      cases this
  · rintro e' rest' ⟨a, c, f1, f2, f3⟩
    unfold leftE at f1
    obtain ⟨I, R, g1, g2, g3⟩ := List.map_eq_append_iff.1 f1
    obtain ⟨k, J, g4, g5, g6⟩ := List.map_eq_cons_iff.1 g3
    rw [g4] at g1
    obtain ⟨p1, p2⟩ := part_rises g1
    have hm : k ∈ leftI used es.length := by rw [g1]; simp
    obtain ⟨q1, q2⟩ := mem_leftI.1 hm
    have free : ∀ i, i < k → used i = false → depE es i k = false := fun i hi hu => by
      have hmi : i ∈ leftI used es.length := mem_leftI.2 ⟨by omega, hu⟩
      rw [g1] at hmi
      simp only [List.mem_append, List.mem_cons] at hmi
      rcases hmi with hmi | hmi | hmi
      · have := f3 (evAt es i) (by rw [← g2]; exact List.mem_map_of_mem hmi)
        rw [← g5] at this
        exact this
      · omega
      · have := p2 i hmi
        omega
    have okk : okU (befB (depE es)) es.length used k = true := by
      rw [ok_iff]
      refine ⟨q2, fun i hi hbf => ?_⟩
      obtain ⟨j, j1, j2, j3⟩ := bef_iff.1 hbf
      have hj : used j = true := by
        cases hu : used j
        · rw [free j j1 hu] at j2; cases j2
        · rfl
      rcases j3 with rfl | j3
      · exact hj
      · exact hc i j (by omega) j3 hj
    have hle := leastT_le (th := thE es) okk es.length q1
    rw [hl] at hle
    rw [← g5, ← thE_int h b, ← thE_int h k]
    omega
theorem stS_step {B : Nat → Nat → Bool} {th : Nat → Nat} {n s b : Nat} (hb : bestS (okU B n (stS B th n s).1) th n = some b) : stS B th n (s + 1) = (fun i => (stS B th n s).1 i || i == b, (stS B th n s).2 ++ [th b]) := by
  show (match bestS (okU B n (stS B th n s).1) th n with | none => _ | some b => _) = _
  rw [hb]
/-- What is used has all used that must be ahead of it; what is left over leads on. -/
theorem norm_on {es : List I4} (h : inThree es) : ∀ s, s ≤ es.length → (∀ i k, k < es.length → Bef (depE es) i k → (stS (befB (depE es)) (thE es) es.length s).1 k = true → (stS (befB (depE es)) (thE es) es.length s).1 i = true) ∧ ∀ ts, Nrm (leftE es (stS (befB (depE es)) (thE es) es.length s).1) ts → Nrm es ((stS (befB (depE es)) (thE es) es.length s).2.map (fun t : Nat => (t : Int)) ++ ts)
  | 0, _ => by
    refine ⟨fun i k _ _ hk => (by cases hk), fun ts ht => ?_⟩
    have e : leftE es (stS (befB (depE es)) (thE es) es.length 0).1 = es := left_all es
    rw [e] at ht
    exact ht
  | s + 1, hs => by
    obtain ⟨ic, ih⟩ := norm_on h s (by omega)
    obtain ⟨_, _, _, h4⟩ := norm_same (D := depE es) (B := befB (depE es)) (depE_thread h) (thE_three h) (n := es.length) (fun i k _ _ => befB_iff) s (by omega)
    obtain ⟨b, hb, hbn, _⟩ := h4 (by omega)
    obtain ⟨_, hok, hp⟩ := best_pick h ic hb
    have hall : ∀ i, i < es.length → Bef (depE es) i b → (stS (befB (depE es)) (thE es) es.length s).1 i = true := fun i hi hbf => by
      unfold okU at hok
      rw [Bool.and_eq_true, allU_iff] at hok
      exact hok.2 i hi (befB_iff.2 hbf)
    rw [stS_step hb]
    refine ⟨fun i k hk hbf hu => ?_, fun ts ht => ?_⟩
    · simp only [Bool.or_eq_true, beq_iff_eq] at hu ⊢
      rcases hu with hu | hu
      · exact .inl (ic i k hk hbf hu)
      · subst hu
        exact .inl (hall i (by have := hbf.lt; omega) hbf)
    · have h5 := ih _ (Nrm.cons hp ht)
      rw [List.map_append, List.append_assoc]
      have h6 : ((evAt es b).1 :: ts) = ([thE es b].map (fun t : Nat => (t : Int)) ++ ts) := by
        simp [thE_int h b]
      rw [h6] at h5
      exact h5
theorem cntU_full {used : Nat → Bool} : ∀ n, cntU used n = n → ∀ i, i < n → used i = true
  | 0, _, i, hi => by omega
  | n + 1, h, i, hi => by
    have hle : ∀ m, cntU used m ≤ m := fun m => by
      induction m with
      | zero => exact Nat.le_refl _
      | succ m ih => show cntU used m + _ ≤ _; split <;> omega
    have e : cntU used (n + 1) = cntU used n + (if used n then 1 else 0) := rfl
    have h1 := hle n
    cases hu : used n
    · rw [e, hu] at h; simp at h; omega
    · rw [e, hu] at h
      simp at h
      by_cases hx : i = n
      · subst hx; exact hu
      · exact cntU_full n h i (by omega)
/-- The specification's list, and the program's, is the normal form. -/
theorem norm_is {es : List I4} (h : inThree es) : Nrm es ((stS (befB (depE es)) (thE es) es.length es.length).2.map (fun t : Nat => (t : Int))) ∧ (stS (befB (depE es)) (thE es) es.length es.length).2 = (stI (depE es) (thE es) es.length es.length).2 := by
  obtain ⟨h1, _, h3, _⟩ := norm_same (D := depE es) (B := befB (depE es)) (depE_thread h) (thE_three h) (n := es.length) (fun i k _ _ => befB_iff) es.length (Nat.le_refl _)
  refine ⟨?_, h1⟩
  have h4 := (norm_on h es.length (Nat.le_refl _)).2 []
  rw [List.append_nil] at h4
  refine h4 ?_
  have e : leftI (stS (befB (depE es)) (thE es) es.length es.length).1 es.length = [] := by
    rw [List.eq_nil_iff_forall_not_mem]
    intro i hi
    obtain ⟨q1, q2⟩ := mem_leftI.1 hi
    rw [cntU_full es.length h3 i q1] at q2
    cases q2
  unfold leftE
  rw [e]
  exact .nil
end Go.Proofs.YtmhngodbnoonhaaGreatDoor


/-
  The specification's l05Order: the table of what must be ahead of what.
-/
namespace Go.Proofs.YtmhngodbnoonhaaGreatDoor
open Go.RowKit
set_option linter.unusedVariables false
set_option linter.unusedSimpArgs false

theorem info_boolO : (Tryz.prog.info? 4).map (fun i => (i.zero, i.size, i.bytes)) = some (some (.bool false), 1, 1) := by kernel_rfl
/-- The table that was reckoned. -/
def OrdGot (e : Ending) (w w' : World) (n : Nat) (D : Nat → Nat → Bool) : Prop := ∃ g, e = .returned (.slice (some ⟨g, 0, none⟩) (n * n) (n * n)) ∧ Blk w' g 4 (tab2 n (befB D)) ∧ w.heap.size ≤ g ∧ Below w.heap.size w w'
/-- The table on the way: columns ahead of k are through; column k is as far as f. -/
noncomputable def ordF (D : Nat → Nat → Bool) (k : Nat) (f : Nat → Bool) (h c : Nat) : Bool := if c < k then befB D h c else if c = k then f h else false
theorem ordF_next {n k : Nat} {D : Nat → Nat → Bool} : tab2 n (ordF D k (befB D · k)) = tab2 n (ordF D (k + 1) (fun _ => false)) := by
  refine tab2_congr (fun i c _ _ => ?_)
  unfold ordF
  by_cases h1 : c < k
  · rw [if_pos h1, if_pos (by omega)]
  · rw [if_neg h1]
    by_cases h2 : c = k
    · rw [if_pos h2, if_pos (by omega), h2]
    · rw [if_neg h2, if_neg (by omega)]
      split <;> rfl
theorem ordF_set {n k i : Nat} {D : Nat → Nat → Bool} {f : Nat → Bool} (hi : i < n) (hk : k < n) : (tab2 n (ordF D k f)).set (i * n + k) (.bool true) = tab2 n (ordF D k (fun h => f h || h == i)) := by
  rw [tab2_set _ _ hi hk]
  refine tab2_congr (fun h c _ _ => ?_)
  unfold ordF
  by_cases h1 : c < k
  · rw [if_neg (by omega), if_pos h1, if_pos h1]
  · rw [if_neg h1, if_neg h1]
    by_cases h2 : c = k
    · subst h2
      simp only [and_true, if_true]
      by_cases h3 : h = i
      · simp [h3]
      · simp [h3]
    · simp [h2]
theorem ordF_congr {n k : Nat} {D : Nat → Nat → Bool} {f g : Nat → Bool} (h : ∀ i, f i = g i) : tab2 n (ordF D k f) = tab2 n (ordF D k g) := by
  have : f = g := funext h
  rw [this]

set_option maxHeartbeats 2000000 in
set_option maxRecDepth 100000 in
theorem l05Order_is (a : Option Addr) (n c : Nat) (es : List I4) (w : World) (h : Evs w a n es) (hn : n ≤ 4096) :
    Calls Tryz.prog 74 #[.slice a n c] w fun e w' => OrdGot e w w' n (depE es) := by
  obtain ⟨i0, hi9, hz0, hz1, hz2⟩ := info_parts info_boolO
  obtain ⟨N, hN⟩ : ∃ N, N = n * n := ⟨_, rfl⟩
  have hNb : N ≤ 16777216 := by rw [hN]; exact Nat.mul_le_mul hn hn
  have hw := wrap_sq hN hNb
  unfold OrdGot
  rw [← hN]
  have HN : Hid (N = n * n) := hN
  clear hN
  obtain ⟨D, hD⟩ : ∃ D, D = depE es := ⟨_, rfl⟩
  rw [← hD]
  have HD : Hid (D = depE es) := hD
  clear hD
  go_enter Tryz.func74, Tryz.ntmps74
  go_wp2_with (at_make; refine wpList_make_full _ rfl _ _ 127 rfl w.heap.size 4 i0 (.bool false) 1 Tryz.underlying127 hi9 hz0 hz1 _ _ _ _ N rfl rfl hw hw ?b2 ?b3 ?b4 ?_)
  case b2 => rw [hz2]; omega
  case b3 => unfold maxLen; omega
  case b4 => exact Nat.le_refl _
  intro w1 hown hgrow
  rw [made_tab] at hown
  have bw : Below w.heap.size w w1 := ⟨hgrow.os, hgrow.tape, hgrow.output, hgrow.size, fun k hk => hgrow.block k hk (by simp)⟩
  have pT : Hid (Blk w1 w.heap.size 4 (tab2 n (ordF D 0 (fun _ => false)))) := by
    have := (blk_of_full hown).1
    rw [HN.out] at this
    refine this.trans ?_
    congr 3
    refine tab_congr (fun i _ => ?_)
    unfold ordF
    simp
  clear hown hgrow
  obtain ⟨g, hg⟩ : ∃ g, g = w.heap.size := ⟨_, rfl⟩
  have hgw : w.heap.size ≤ g := by omega
  rw [← hg] at pT ⊢
  clear hg
  go_wp2_with fail
  go_loopw [5] (fun sk wr => ∃ k : Nat, k ≤ n ∧ sk = .int .i64 k ∧ Hid (Blk wr g 4 (tab2 n (ordF D k (fun _ => false)))) ∧ Below w.heap.size w wr) (fun sk _ => n - (intOf sk).toNat)
  case atStart => exact ⟨0, by omega, rfl, pT, bw⟩
  case round =>
    clear pT bw
    obtain ⟨k, hk, rfl, pT, bw⟩ := hrel
    by_cases hkn : k < n
    · have hkn' : (k : Int) < (n : Int) := by omega
      have pT2 : Hid (Blk wr g 4 (tab2 n (ordF D k (colB D k k)))) := by
        have e := ordF_congr (n := n) (k := k) (D := D) (f := colB D k k) (g := fun _ => false) (colB_top D k)
        unfold Hid
        rw [e]
        exact pT.out
      clear pT
      go_wp2_with fail
      go_loopw [6] (fun si wr => ∃ ii : Nat, ii ≤ k ∧ si = .int .i64 ((ii : Int) - 1) ∧ Hid (Blk wr g 4 (tab2 n (ordF D k (colB D k ii)))) ∧ Below w.heap.size w wr) (fun si _ => (intOf si + 1).toNat)
      case atStart => exact ⟨k, by omega, rfl, pT2, bw⟩
      case round =>
        clear pT2 bw
        obtain ⟨ii, hii, rfl, pT, bw⟩ := hrel
        rcases Nat.eq_zero_or_pos ii with rfl | hpos
        · have pT2 : Hid (Blk wr g 4 (tab2 n (ordF D (k + 1) (fun _ => false)))) := by
            have e := ordF_congr (n := n) (k := k) (D := D) (f := colB D k 0) (g := (befB D · k)) (colB_all D k)
            unfold Hid
            rw [← ordF_next, ← e]
            exact pT.out
          clear pT
          go_wp2
          go_roundw
          case rel => exact ⟨k + 1, by omega, by go_num, pT2, bw⟩
          case measure => simp [intOf]; omega
        · obtain ⟨i, rfl⟩ : ∃ i, ii = i + 1 := ⟨ii - 1, by omega⟩
          have hi0 : ((i + 1 : Nat) : Int) - 1 = (i : Int) := by omega
          rw [hi0]
          have hi9 : (0 : Int) ≤ (i : Int) := by omega
          have hin : (i : Int) < (n : Int) := by omega
          have hk0 : (0 : Int) ≤ (k : Int) := by omega
          obtain ⟨h1, h2, h3 | ⟨ge, rfl, hgl, hce⟩⟩ := h
          · clear h2; omega
          clear h2
          have gc := fun t ht => by
            have := hce t ht
            rw [← bw.cell (p := ⟨ge, _, none⟩) hgl, ← bw.cell (p := ⟨ge, _, none⟩) hgl, ← bw.cell (p := ⟨ge, _, none⟩) hgl, ← bw.cell (p := ⟨ge, _, none⟩) hgl] at this
            exact this
          obtain ⟨c0, c1, c2, c3⟩ := gc i (by omega)
          obtain ⟨e0, e1, e2, e3⟩ := gc k (by omega)
          clear gc
          have hDx : D i k = depM (es.getD i (0, 0, 0, 0)) (es.getD k (0, 0, 0, 0)) := by rw [HD.out]; rfl
          generalize es.getD i (0, 0, 0, 0) = x at c0 c1 c2 c3 hDx
          generalize es.getD k (0, 0, 0, 0) = y at e0 e1 e2 e3 hDx
          obtain ⟨M, P, hw1, hw2, hP, hP0, hPe⟩ := ix_two HN.out hNb (show i < n by omega) hkn
          have HP : Hid (P = i * n + k) := hPe
          clear hPe
          go_wp2_with fail
          go_region_held3 (fun w' => w'.cell? ⟨ge, i * 4, none⟩ = some (.int .i64 x.1) ∧ w'.cell? ⟨ge, i * 4 + 1, none⟩ = some (.int .i64 x.2.1) ∧ w'.cell? ⟨ge, i * 4 + 2, none⟩ = some (.int .i64 x.2.2.1) ∧ w'.cell? ⟨ge, i * 4 + 3, none⟩ = some (.int .i64 x.2.2.2) ∧ w'.cell? ⟨ge, k * 4, none⟩ = some (.int .i64 y.1) ∧ w'.cell? ⟨ge, k * 4 + 1, none⟩ = some (.int .i64 y.2.1) ∧ w'.cell? ⟨ge, k * 4 + 2, none⟩ = some (.int .i64 y.2.2.1) ∧ w'.cell? ⟨ge, k * 4 + 3, none⟩ = some (.int .i64 y.2.2.2)) (first | (exact ⟨c0, c1, c2, c3, e0, e1, e2, e3⟩) | (refine ⟨?_, ?_, ?_, ?_, ?_, ?_, ?_, ?_⟩ <;> (apply cells_kept (by assumption); assumption)) | go_keep)
            (first | (go_at_call 12; refine (specDepends_is x y _).mono ?_; rintro e w2 ⟨rfl, hb1⟩))
          rename_i hHeld
          rw [← hDx]
          have bw2 : Below w.heap.size w w2 := bel_trans bw (bel_trans (by go_grown) hb1)
          have pT2 : Hid (Blk w2 g 4 (tab2 n (ordF D k (colB D k (i + 1))))) := pT.out.below (bel_trans (by go_grown) hb1)
          clear pT hb1 bw c0 c1 c2 c3 e0 e1 e2 e3 hce
          cases hd : D i k
          · have pT3 : Hid (Blk w2 g 4 (tab2 n (ordF D k (colB D k i)))) := by
              have e := ordF_congr (n := n) (k := k) (D := D) (f := colB D k i) (g := colB D k (i + 1)) (colB_skip hd)
              unfold Hid
              rw [e]
              exact pT2.out
            clear pT2 hDx hHeld hd
            go_wp2
            go_roundw
            case rel => exact ⟨i, by omega, by go_num, pT3, bw2⟩
            case measure => simp [intOf] <;> omega
          · have qc := pT2.out.cell P
            have qf := pT2.out.frozen P
            rw [HP.out, tab2_get _ (by omega) hkn, ← HP.out] at qc
            have pT3 : Hid (Blk (w2.setCell ⟨g, P, none⟩ (.bool true)) g 4 (tab2 n (ordF D k (midB D k i 0)))) := by
              have := pT2.out.set P (.bool true)
              rw [HP.out, ordF_set (by omega) hkn, ← HP.out] at this
              have e := ordF_congr (n := n) (k := k) (D := D) (f := midB D k i 0) (g := fun h => colB D k (i + 1) h || h == i) (midB_zero D k i)
              unfold Hid
              rw [e]
              exact this
            have bw3 : Below w.heap.size w (w2.setCell ⟨g, P, none⟩ (.bool true)) := bw2.setCell hgw _
            clear hDx hHeld pT2 bw2
            go_wp2_with fail
            generalize w2.setCell ⟨g, P, none⟩ (.bool true) = w3 at *
            clear qc qf hw1 hw2 hP hP0 HP
            go_loopw [7] (fun sh wr => ∃ h : Nat, h ≤ i ∧ sh = .int .i64 h ∧ Hid (Blk wr g 4 (tab2 n (ordF D k (midB D k i h)))) ∧ Below w.heap.size w wr) (fun sh _ => i - (intOf sh).toNat)
            case atStart => exact ⟨0, by omega, rfl, pT3, bw3⟩
            case round =>
              clear pT3 bw3
              obtain ⟨h, hh, rfl, pT, bw⟩ := hrel
              by_cases hhi : h < i
              · have hhi' : (h : Int) < (i : Int) := by omega
                obtain ⟨M, P, hw1, hw2, hP, hP0, hPe⟩ := ix_two HN.out hNb (show h < n by omega) (show i < n by omega)
                have HP : Hid (P = h * n + i) := hPe
                obtain ⟨M', P', hw1', hw2', hP', hP0', hPe'⟩ := ix_two HN.out hNb (show h < n by omega) hkn
                have HP' : Hid (P' = h * n + k) := hPe'
                have eM : M' = M := by
                  exact (Int.ofNat_inj.1 (hw1.symm.trans hw1')).symm
                subst eM
                clear hPe hPe' hw1'
                have qc := pT.out.cell P
                rw [HP.out, tab2_get _ (by omega) (by omega), ← HP.out] at qc
                have eB : ordF D k (midB D k i h) h i = befB D h i := by unfold ordF; rw [if_pos (by omega)]
                rw [eB] at qc
                clear eB
                have qc' := pT.out.cell P'
                have qf' := pT.out.frozen P'
                rw [HP'.out, tab2_get _ (by omega) (by omega), ← HP'.out] at qc'
                cases hb : befB D h i
                · have pT3 : Hid (Blk wr g 4 (tab2 n (ordF D k (midB D k i (h + 1))))) := by
                    have e := ordF_congr (n := n) (k := k) (D := D) (f := midB D k i (h + 1)) (g := midB D k i h) (fun j => by rw [midB_succ, hb]; simp)
                    unfold Hid
                    rw [e]
                    exact pT.out
                  rw [hb] at qc
                  clear pT hb
                  go_wp2
                  go_roundw
                  case rel => exact ⟨h + 1, by omega, by go_num, pT3, bw⟩
                  case measure => simp [intOf]; omega
                · have pT3 : Hid (Blk (wr.setCell ⟨g, P', none⟩ (.bool true)) g 4 (tab2 n (ordF D k (midB D k i (h + 1))))) := by
                    have := pT.out.set P' (.bool true)
                    rw [HP'.out, ordF_set (by omega) hkn, ← HP'.out] at this
                    have e := ordF_congr (n := n) (k := k) (D := D) (f := midB D k i (h + 1)) (g := fun j => midB D k i h j || j == h) (fun j => by rw [midB_succ, hb]; simp)
                    unfold Hid
                    rw [e]
                    exact this
                  have bw3 : Below w.heap.size w (wr.setCell ⟨g, P', none⟩ (.bool true)) := bw.setCell hgw _
                  rw [hb] at qc
                  clear pT hb bw
                  go_wp2
                  go_roundw
                  case rel => exact ⟨h + 1, by omega, by go_num, pT3, bw3⟩
                  case measure => simp [intOf]; omega
              · obtain rfl : h = i := by omega
                have pT3 : Hid (Blk wr g 4 (tab2 n (ordF D k (colB D k h)))) := by
                  have e := ordF_congr (n := n) (k := k) (D := D) (f := colB D k h) (g := midB D k h h) (fun j => (midB_end hd (by omega) j).symm)
                  unfold Hid
                  rw [e]
                  exact pT.out
                clear pT hd
                go_wp2
                go_roundw
                case rel => exact ⟨h, by omega, by go_num, pT3, bw⟩
                case measure => simp [intOf] <;> omega
    · obtain rfl : k = n := by omega
      have pT2 : Blk wr g 4 (tab2 k (befB D)) := by
        have e : tab2 k (befB D) = tab2 k (ordF D k (fun _ => false)) := tab2_congr (fun i c _ hc => by unfold ordF; rw [if_pos hc])
        rw [e]
        exact pT.out
      clear pT
      go_wp2
      go_ret
      exact ⟨g, rfl, pT2, hgw, bw⟩
end Go.Proofs.YtmhngodbnoonhaaGreatDoor


/-
  Bugs: which are right; isThread; both sides' BugOK; the laws' toBug, eqBug; a bug that came in.
-/
namespace Go.Proofs.YtmhngodbnoonhaaGreatDoor
open Go.RowKit
set_option linter.unusedVariables false

theorem l01In_isB (n a b : Int) (w : World) : Calls Tryz.prog 77 #[.int .i64 n, .int .i64 a, .int .i64 b] w fun e w' => e = .returned (.bool (inB n a b)) ∧ w = w' := by
  cases h : inB n a b
  · exact l01In_no n a b w (inB_false.1 h)
  · exact l01In_yes n a b w (inB_true.1 h)

set_option maxHeartbeats 1000000 in
theorem eqBug_same (x : I3) (w : World) : Calls Tryz.prog 52 #[x.val, x.val] w fun e w' => e = .returned (.bool true) ∧ Below w.heap.size w w' := by
  obtain ⟨p, q, r⟩ := x
  unfold I3.val
  go_enter Tryz.func52, Tryz.ntmps52
  go_wp2
  go_returns
  exact ⟨rfl, by go_grown⟩

/-- Which bugs are right: its kind, its thread, its place. -/
def okB (x : I3) : Bool :=
  if x.1 = 14 then decide (x.2.1 = 0) && decide (x.2.2 = 0)
  else if x.1 = 12 ∨ x.1 = 13 then inB x.2.1 0 2 && inB x.2.2 0 5
  else false

theorem isThread_is (n : Int) (w : World) : Calls Tryz.prog 91 #[.int .i64 n] w fun e w' => e = .returned (.bool (inB n 0 2)) ∧ w = w' := by
  cases h : inB n 0 2
  · rw [inB_false] at h
    by_cases h1 : 0 ≤ n
    · have h2 : decide (n < 3) = false := by simp; omega
      clear h
      go_enter Tryz.func91, Tryz.ntmps91
      go_wp2
      go_ret
      exact ⟨rfl, rfl⟩
    · clear h
      go_enter Tryz.func91, Tryz.ntmps91
      go_wp2
      go_ret
      exact ⟨rfl, rfl⟩
  · rw [inB_true] at h
    obtain ⟨h1, h3⟩ := h
    have h2 : decide (n < 3) = true := by simp; omega
    clear h3
    go_enter Tryz.func91, Tryz.ntmps91
    go_wp2
    go_ret
    exact ⟨by simp_all, rfl⟩

end Go.Proofs.YtmhngodbnoonhaaGreatDoor


/-
  Bugs in order, in plain words: by kind, thread, place; a list in which each comes once, in order, is told by what it holds; put, merge, and a sorted list without its doubles.
-/
namespace Go.Proofs.YtmhngodbnoonhaaGreatDoor
open Go.RowKit
set_option linter.unusedVariables false

/-- By kind, thread, place. -/
def ltB (a b : I3) : Bool := decide (a.1 < b.1 ∨ (a.1 = b.1 ∧ (a.2.1 < b.2.1 ∨ (a.2.1 = b.2.1 ∧ a.2.2 < b.2.2))))
theorem ltB_iff {a b : I3} : ltB a b = true ↔ a.1 < b.1 ∨ (a.1 = b.1 ∧ (a.2.1 < b.2.1 ∨ (a.2.1 = b.2.1 ∧ a.2.2 < b.2.2))) := by simp [ltB]
theorem ltB_irrefl (a : I3) : ltB a a = false := by
  cases h : ltB a a
  · rfl
  · rw [ltB_iff] at h; omega
theorem ltB_trans {a b c : I3} (h : ltB a b = true) (k : ltB b c = true) : ltB a c = true := by
  rw [ltB_iff] at *; omega
theorem ltB_asymm {a b : I3} (h : ltB a b = true) : ltB b a = false := by
  cases k : ltB b a
  · rfl
  · rw [ltB_iff] at h k; omega
theorem ltB_total {a b : I3} (h : ltB a b = false) (k : ltB b a = false) : a = b := by
  obtain ⟨a0, a1, a2⟩ := a
  obtain ⟨b0, b1, b2⟩ := b
  have h' : ¬ ltB (a0, a1, a2) (b0, b1, b2) = true := by simp [h]
  have k' : ¬ ltB (b0, b1, b2) (a0, a1, a2) = true := by simp [k]
  rw [ltB_iff] at h' k'
  simp only at h' k'
  have e0 : a0 = b0 := by omega
  have e1 : a1 = b1 := by omega
  have e2 : a2 = b2 := by omega
  rw [e0, e1, e2]

/-- In order, each once. -/
def Rises (l : List I3) : Prop := l.Pairwise fun a b => ltB a b = true
theorem Rises.same : ∀ {l k : List I3}, Rises l → Rises k → (∀ x, x ∈ l ↔ x ∈ k) → l = k
  | [], [], _, _, _ => rfl
  | [], b :: k, _, _, h => by have := (h b).2 (by simp); simp at this
  | a :: l, [], _, _, h => by have := (h a).1 (by simp); simp at this
  | a :: l, b :: k, hl, hk, h => by
    have hl' := List.pairwise_cons.1 hl
    have hk' := List.pairwise_cons.1 hk
    have e : a = b := by
      rcases List.mem_cons.1 ((h a).1 (by simp)) with e | e
      · exact e
      rcases List.mem_cons.1 ((h b).2 (by simp)) with e' | e'
      · exact e'.symm
      have h1 := hk'.1 a e
      have h2 := hl'.1 b e'
      rw [ltB_asymm h1] at h2
      cases h2
    subst e
    rw [Rises.same hl'.2 hk'.2 (fun x => ?_)]
    constructor
    · intro hx
      rcases List.mem_cons.1 ((h x).1 (List.mem_cons_of_mem _ hx)) with e | e
      · subst e
        have := hl'.1 x hx
        rw [ltB_irrefl] at this
        cases this
      · exact e
    · intro hx
      rcases List.mem_cons.1 ((h x).2 (List.mem_cons_of_mem _ hx)) with e | e
      · subst e
        have := hk'.1 x hx
        rw [ltB_irrefl] at this
        cases this
      · exact e

/-- The specification's put: at the first that is not less. -/
def putB : List I3 → I3 → List I3
  | [], b => [b]
  | x :: xs, b => if ltB x b then x :: putB xs b else if x = b then x :: xs else b :: x :: xs
theorem mem_putB {x b : I3} : ∀ {l : List I3}, x ∈ putB l b ↔ x ∈ l ∨ x = b
  | [] => by simp [putB]
  | y :: l => by
    have ih := mem_putB (x := x) (b := b) (l := l)
    unfold putB
    split
    · simp [ih, or_assoc]
    · split
      · rename_i h
        subst h
        simp
        intro e
        exact .inl e
      · simp
        constructor
        · rintro (h | h | h)
          · exact .inr h
          · exact .inl (.inl h)
          · exact .inl (.inr h)
        · rintro ((h | h) | h)
          · exact .inr (.inl h)
          · exact .inr (.inr h)
          · exact .inl h
theorem Rises.put {b : I3} : ∀ {l : List I3}, Rises l → Rises (putB l b)
  | [], _ => by simp [putB, Rises]
  | y :: l, h => by
    have h' := List.pairwise_cons.1 h
    unfold putB
    split
    · rename_i hy
      refine List.pairwise_cons.2 ⟨fun z hz => ?_, Rises.put h'.2⟩
      rcases mem_putB.1 hz with e | e
      · exact h'.1 z e
      · rw [e]; exact hy
    · rename_i hy
      split
      · exact h
      · rename_i hne
        have hby : ltB b y = true := by
          cases k : ltB b y
          · exact absurd (ltB_total (by simpa using hy) k) hne
          · rfl
        refine List.pairwise_cons.2 ⟨fun z hz => ?_, h⟩
        rcases List.mem_cons.1 hz with e | e
        · rw [e]; exact hby
        · exact ltB_trans hby (h'.1 z e)
/-- All of a list put, one after the other. -/
def putAll (out l : List I3) : List I3 := l.foldl putB out
theorem mem_putAll {x : I3} : ∀ {l out : List I3}, x ∈ putAll out l ↔ x ∈ out ∨ x ∈ l
  | [], out => by simp [putAll]
  | y :: l, out => by
    have ih := mem_putAll (x := x) (l := l) (out := putB out y)
    unfold putAll at *
    rw [List.foldl_cons, ih, mem_putB]
    simp [or_assoc]
theorem Rises.putAll {l : List I3} : ∀ {out : List I3}, Rises out → Rises (putAll out l) := by
  induction l with
  | nil => intro out h; exact h
  | cons y l ih => intro out h; exact ih h.put
def mergeB (a b : List I3) : List I3 := putAll (putAll [] a) b
theorem mergeB_rises (a b : List I3) : Rises (mergeB a b) := Rises.putAll (Rises.putAll List.Pairwise.nil)
theorem mem_mergeB {x : I3} {a b : List I3} : x ∈ mergeB a b ↔ x ∈ a ∨ x ∈ b := by
  unfold mergeB
  rw [mem_putAll, mem_putAll]
  simp
theorem putB_len (l : List I3) (b : I3) : (putB l b).length ≤ l.length + 1 := by
  induction l with
  | nil => simp [putB]
  | cons y l ih =>
    unfold putB
    split
    · simp; omega
    · split <;> simp
theorem putAll_len : ∀ (l out : List I3), (putAll out l).length ≤ out.length + l.length
  | [], out => by simp [putAll]
  | y :: l, out => by
    have := putAll_len l (putB out y)
    have h2 := putB_len out y
    unfold putAll at *
    simp only [List.foldl_cons, List.length_cons]
    omega
theorem mergeB_len (a b : List I3) : (mergeB a b).length ≤ a.length + b.length := by
  have h1 := putAll_len a []
  have h2 := putAll_len b (putAll [] a)
  simp at h1
  unfold mergeB
  omega
theorem mergeB_comm (a b : List I3) : mergeB a b = mergeB b a := (mergeB_rises a b).same (mergeB_rises b a) fun x => by rw [mem_mergeB, mem_mergeB, or_comm]

/-- Neighbours that are alike, once. -/
def onceB : List I3 → List I3
  | [] => []
  | [x] => [x]
  | x :: y :: l => if x = y then onceB (y :: l) else x :: onceB (y :: l)
theorem onceB_head : ∀ (x : I3) (l : List I3), ∃ t, onceB (x :: l) = x :: t
  | x, [] => ⟨[], rfl⟩
  | x, y :: l => by
    unfold onceB
    split
    · rename_i h
      subst h
      exact onceB_head x l
    · exact ⟨_, rfl⟩
theorem mem_onceB {z : I3} : ∀ {l : List I3}, z ∈ onceB l ↔ z ∈ l
  | [] => by simp [onceB]
  | [x] => by simp [onceB]
  | x :: y :: l => by
    have ih := mem_onceB (z := z) (l := y :: l)
    unfold onceB
    split
    · rename_i h
      subst h
      rw [ih]
      simp
    · simp only [List.mem_cons] at ih ⊢
      rw [ih]
theorem onceB_rises : ∀ {l : List I3}, (l.Pairwise fun a b => ltB b a = false) → Rises (onceB l)
  | [], _ => List.Pairwise.nil
  | [x], _ => by simp [onceB, Rises]
  | x :: y :: l, h => by
    have h' := List.pairwise_cons.1 h
    have ih := onceB_rises h'.2
    unfold onceB
    split
    · exact ih
    · rename_i hne
      refine List.pairwise_cons.2 ⟨fun z hz => ?_, ih⟩
      have hz' := mem_onceB.1 hz
      have hxy : ltB x y = true := by
        cases k : ltB x y
        · exact absurd (ltB_total k (h'.1 y (by simp))) hne
        · rfl
      rcases List.mem_cons.1 hz' with e | e
      · rw [e]; exact hxy
      · have h2 := (List.pairwise_cons.1 h'.2).1 z e
        cases k : ltB x z
        · have hzx := h'.1 z hz'
          have e2 := ltB_total k hzx
          subst e2
          rw [h2] at hxy
          cases hxy
        · rfl
/-- A list that holds what both hold, sorted, without its doubles, is both merged. -/
theorem once_merge {a b l : List I3} (hs : l.Pairwise fun a b => ltB b a = false) (hm : ∀ x, x ∈ l ↔ x ∈ a ∨ x ∈ b) : onceB l = mergeB a b :=
  (onceB_rises hs).same (mergeB_rises a b) fun x => by rw [mem_onceB, hm, mem_mergeB]
end Go.Proofs.YtmhngodbnoonhaaGreatDoor


/-
  The marks of a program in memory of its own are found (heldInstrS, heldInstrSS, heldProgram).
-/
namespace Go.Proofs.YtmhngodbnoonhaaGreatDoor
open Go.RowKit

theorem flat_at {xs : List I3} {t : Nat} (ht : t < xs.length) : (flat xs)[t * 3]? = some (.int .i64 (xs.getD t (0, 0, 0)).1) ∧ (flat xs)[t * 3 + 1]? = some (.int .i64 (xs.getD t (0, 0, 0)).2.1) ∧ (flat xs)[t * 3 + 2]? = some (.int .i64 (xs.getD t (0, 0, 0)).2.2) := by
  have hsplit : flat xs = flat (xs.take t) ++ ((xs.getD t (0, 0, 0)).cells ++ flat (xs.drop (t + 1))) := by
    rw [← List.append_assoc, ← flat_take_succ ht]
    unfold flat
    rw [← List.flatMap_append, List.take_append_drop]
  have hlt : (flat (xs.take t)).length = t * 3 := by rw [flat_length, List.length_take]; rw [Nat.min_eq_left (by omega)]
  have h : ∀ j, j < 3 → (flat xs)[t * 3 + j]? = ((xs.getD t (0, 0, 0)).cells)[j]? := fun j hj => by
    rw [hsplit, List.getElem?_append_right (by omega), hlt, Nat.add_sub_cancel_left, List.getElem?_append_left (by simp [I3.cells]; omega)]
  exact ⟨by simpa [I3.cells] using h 0 (by omega), by simpa [I3.cells] using h 1 (by omega), by simpa [I3.cells] using h 2 (by omega)⟩

end Go.Proofs.YtmhngodbnoonhaaGreatDoor
