/-
  FnProgram, part 13 of 50 (Parse, BackP).
-/
import Derived.Test.YtiokkoaalakakaaGreatDoorJ10
import Derived.Test.YtiokkoaalakakaaGreatDoorJ11
import Derived.Test.YtiokkoaalakakaaGreatDoorJ12

/-
  Plain mathematics of a program's numbers read back: of each thread its length, and its instructions' three numbers.
-/
namespace Go.Proofs.YtiokkoaalakakaaGreatDoor

/-- Three numbers an instruction. -/
def triples : List Int → List I3
  | a :: b :: c :: r => (a, b, c) :: triples r
  | _ => []

theorem triples_length : ∀ (n : Nat) (zs : List Int), zs.length = 3 * n → (triples zs).length = n
  | 0, [], _ => rfl
  | 0, _ :: _, h => by simp at h
  | n + 1, [], h => by simp at h
  | n + 1, [_], h => by simp at h; omega
  | n + 1, [_, _], h => by simp at h; omega
  | n + 1, a :: b :: c :: r, h => by
    have := triples_length n r (by simp at h; omega)
    simp [triples, this]
theorem triples_get : ∀ (n : Nat) (zs : List Int) (i : Nat), zs.length = 3 * n → i < n → (triples zs).getD i (0, 0, 0) = (zs.getD (3 * i) 0, zs.getD (3 * i + 1) 0, zs.getD (3 * i + 2) 0)
  | 0, _, i, _, h => by omega
  | n + 1, [], i, h, _ => by simp at h
  | n + 1, [_], i, h, _ => by simp at h; omega
  | n + 1, [_, _], i, h, _ => by simp at h; omega
  | n + 1, a :: b :: c :: r, 0, _, _ => by simp [triples]
  | n + 1, a :: b :: c :: r, i + 1, h, hi => by
    have ih := triples_get n r i (by simp at h; omega) (by omega)
    rw [triples, List.getD_cons_succ, ih]
    have e0 : 3 * (i + 1) = 3 * i + 1 + 1 + 1 := by omega
    rw [e0]
    simp [List.getD]

/-- The codes of k threads, and nothing behind them. -/
def parse : Nat → List Int → Option (List (List I3))
  | 0, [] => some []
  | 0, _ :: _ => none
  | _ + 1, [] => none
  | k + 1, n :: zs => if (zs.length : Int) < 3 * n then none else (parse k (zs.drop (3 * n.toNat))).map (triples (zs.take (3 * n.toNat)) :: ·)

theorem parse_none_nil (k : Nat) : parse (k + 1) [] = none := rfl
theorem parse_short {k : Nat} {n : Int} {zs : List Int} (h : (zs.length : Int) < 3 * n) : parse (k + 1) (n :: zs) = none := by simp [parse, h]
theorem parse_step {k : Nat} {n : Int} {zs : List Int} (h : ¬ (zs.length : Int) < 3 * n) : parse (k + 1) (n :: zs) = (parse k (zs.drop (3 * n.toNat))).map (triples (zs.take (3 * n.toNat)) :: ·) := by simp [parse, h]
theorem parse_rest {zs : List Int} (h : zs ≠ []) : parse 0 zs = none := by
  cases zs with
  | nil => exact absurd rfl h
  | cons z zs => rfl

/-- What was read so far, and what is left, make the whole. -/
def PState (zs : List Int) (k : Nat) (done : List (List I3)) (rest : List Int) : Prop := parse 3 zs = (parse (3 - k) rest).map (done ++ ·)

theorem PState.start (zs : List Int) : PState zs 0 [] zs := by
  unfold PState
  simp
theorem PState.fail {zs : List Int} {k : Nat} {done : List (List I3)} {rest : List Int} (h : PState zs k done rest) (hn : parse (3 - k) rest = none) : parse 3 zs = none := by
  rw [h, hn]; rfl
theorem PState.empty {zs : List Int} {k : Nat} {done : List (List I3)} (h : PState zs k done []) (hk : k < 3) : parse 3 zs = none := by
  refine h.fail ?_
  obtain ⟨j, hj⟩ : ∃ j, 3 - k = j + 1 := ⟨3 - k - 1, by omega⟩
  rw [hj]; rfl
theorem PState.short {zs : List Int} {k : Nat} {done : List (List I3)} {n : Int} {ys : List Int} (h : PState zs k done (n :: ys)) (hk : k < 3) (hs : (ys.length : Int) < 3 * n) : parse 3 zs = none := by
  refine h.fail ?_
  obtain ⟨j, hj⟩ : ∃ j, 3 - k = j + 1 := ⟨3 - k - 1, by omega⟩
  rw [hj]; exact parse_short hs
theorem PState.step {zs : List Int} {k : Nat} {done : List (List I3)} {n : Int} {ys : List Int} (h : PState zs k done (n :: ys)) (hk : k < 3) (hs : ¬ (ys.length : Int) < 3 * n) : PState zs (k + 1) (done ++ [triples (ys.take (3 * n.toNat))]) (ys.drop (3 * n.toNat)) := by
  unfold PState at h ⊢
  obtain ⟨j, hj⟩ : ∃ j, 3 - k = j + 1 := ⟨3 - k - 1, by omega⟩
  rw [h, hj, parse_step hs, show 3 - (k + 1) = j by omega, Option.map_map]
  congr 1
  funext r
  simp
theorem PState.done {zs : List Int} {done : List (List I3)} (h : PState zs 3 done []) : parse 3 zs = some done := by
  unfold PState at h
  rw [h]; simp [parse]
theorem PState.more {zs : List Int} {done : List (List I3)} {rest : List Int} (h : PState zs 3 done rest) (hr : rest ≠ []) : parse 3 zs = none := h.fail (parse_rest hr)
/-- A thread's code that is too long is in any program that comes of it. -/
theorem PState.long {zs : List Int} {k : Nat} {done : List (List I3)} {n : Nat} {ys : List Int} (h : PState zs k done ((n : Int) :: ys)) (hk : k < 3) : ∀ rows, parse 3 zs = some rows → ∃ r ∈ rows, r.length = n := by
  intro rows hr
  unfold PState at h
  obtain ⟨j, hj⟩ : ∃ j, 3 - k = j + 1 := ⟨3 - k - 1, by omega⟩
  rw [h, hj] at hr
  by_cases hs : (ys.length : Int) < 3 * (n : Int)
  · rw [parse_short hs] at hr; cases hr
  · rw [parse_step hs, Option.map_map] at hr
    cases hp : parse j (ys.drop (3 * ((n : Int)).toNat)) with
    | none => rw [hp] at hr; cases hr
    | some R =>
      rw [hp] at hr
      simp at hr
      refine ⟨triples (ys.take (3 * n)), by rw [← hr]; simp, triples_length n _ ?_⟩
      rw [List.length_take]
      omega
end Go.Proofs.YtiokkoaalakakaaGreatDoor


/-
  Plain mathematics of reading back: the words of words with blanks between; a right instruction's text says it; a right program's lines say it; its numbers are read back.
-/
namespace Go.Proofs.YtiokkoaalakakaaGreatDoor
open Go.RowKit Go.Lib

theorem bt_left (a b : ByteArray) (i : Nat) (h : i < a.size) : bt (a ++ b) i = bt a i := by
  unfold bt
  rw [dif_pos h, dif_pos (by rw [ByteArray.size_append]; omega), ByteArray.getElem_append_left h]
theorem bt_right (a b : ByteArray) (i : Nat) (h : i < b.size) : bt (a ++ b) (a.size + i) = bt b i := by
  unfold bt
  rw [dif_pos h, dif_pos (by rw [ByteArray.size_append]; omega), ByteArray.getElem_append_right (by omega)]
  congr 1
  simp

/-- A word: not empty, no blank in it. -/
def NB (t : ByteArray) : Prop := 1 ≤ t.size ∧ ∀ j, j < t.size → bt t j ≠ 32
def joinB : List ByteArray → ByteArray
  | [] => ByteArray.empty
  | [t] => t
  | t :: ts => t ++ (⟨#[32]⟩ ++ joinB ts)

theorem spansB_one {s : ByteArray} {p n f : Nat} {acc : List (Nat × Nat)} (hn : 1 ≤ n) (hw : ∀ j, j < n → bt s (p + j) ≠ 32) (hb : bt s (p + n) = 32) (hs : p + n < s.size) (hf : s.size ≤ p + f) :
    spansB s f p none acc = spansB s (f - (n + 1)) (p + n + 1) none (acc ++ [(p, p + n)]) := by
  rw [spansB_run (n - 1) (by omega) (by omega) (fun j hj => hw j (by omega)), show n - 1 + 1 = n by omega]
  obtain ⟨g, hg⟩ : ∃ g, f - n = g + 1 := ⟨f - n - 1, by omega⟩
  rw [hg, spansB_blank_some hs hb, show f - (n + 1) = g by omega]
  rfl
theorem spansB_last {s : ByteArray} {p n f : Nat} {acc : List (Nat × Nat)} (hn : 1 ≤ n) (hw : ∀ j, j < n → bt s (p + j) ≠ 32) (hs : p + n = s.size) (hf : s.size ≤ p + f) :
    spansB s f p none acc = (acc, some p) := by
  rw [spansB_run (n - 1) (by omega) (by omega) (fun j hj => hw j (by omega)), show n - 1 + 1 = n by omega, spansB_end _ _ _ _ _ (by omega)]
  rfl
theorem extract_right (a b : ByteArray) : (a ++ b).extract a.size (a ++ b).size = b := by
  apply ByteArray.ext
  simp [ByteArray.data_extract, ByteArray.size_append]
  rw [Array.extract_empty_of_size_le_start (by simp), ← ByteArray.size_data, Array.extract_size]
  simp
theorem extract_mid (a b c : ByteArray) : (a ++ (b ++ c)).extract a.size (a.size + b.size) = b := by
  apply ByteArray.ext
  simp [ByteArray.data_extract]
  rw [Array.extract_empty_of_size_le_start (by simp), ← ByteArray.size_data, Array.extract_size]
  simp
theorem words_from (s : ByteArray) : ∀ (ws : List ByteArray) (pre : ByteArray) (acc : List (Nat × Nat)) (f : Nat), ws ≠ [] → (∀ t ∈ ws, NB t) → s = pre ++ joinB ws → s.size ≤ pre.size + f →
    (closeSpans s (spansB s f pre.size none acc)).map (fun x => s.extract x.1 x.2) = acc.map (fun x => s.extract x.1 x.2) ++ ws
  | [], _, _, _, h, _, _, _ => absurd rfl h
  | [t], pre, acc, f, _, hN, hs, hf => by
    obtain ⟨h1, h2⟩ := hN t (by simp)
    have hs' : s = pre ++ t := hs
    have hsz : s.size = pre.size + t.size := by rw [hs', ByteArray.size_append]
    rw [spansB_last h1 (fun j hj => by rw [hs', bt_right _ _ _ hj]; exact h2 j hj) hsz.symm hf]
    have e : s.extract pre.size s.size = t := by rw [hs']; exact extract_right _ _
    simp [closeSpans, e]
  | t :: u :: ws, pre, acc, f, _, hN, hs, hf => by
    obtain ⟨h1, h2⟩ := hN t (by simp)
    have hs' : s = pre ++ (t ++ (⟨#[32]⟩ ++ joinB (u :: ws))) := hs
    have hs2 : s = (pre ++ t ++ ⟨#[32]⟩) ++ joinB (u :: ws) := by rw [hs']; simp [ByteArray.append_assoc]
    have hz : (⟨#[32]⟩ : ByteArray).size = 1 := rfl
    have hp : (pre ++ t ++ ⟨#[32]⟩).size = pre.size + t.size + 1 := by rw [ByteArray.size_append, ByteArray.size_append, hz]
    have hsz : s.size = pre.size + t.size + 1 + (joinB (u :: ws)).size := by rw [hs2, ByteArray.size_append, hp]
    have hw : ∀ j, j < t.size → bt s (pre.size + j) ≠ 32 := fun j hj => by
      rw [hs', bt_right _ _ _ (by rw [ByteArray.size_append]; omega), bt_left _ _ _ hj]
      exact h2 j hj
    have hb : bt s (pre.size + t.size) = 32 := by
      rw [hs', bt_right _ _ _ (by rw [ByteArray.size_append, ByteArray.size_append, hz]; omega)]
      have := bt_right t (⟨#[32]⟩ ++ joinB (u :: ws)) 0 (by rw [ByteArray.size_append, hz]; omega)
      rw [Nat.add_zero] at this
      rw [this, bt_left _ _ _ (by rw [hz]; omega)]
      rfl
    rw [spansB_one h1 hw hb (by omega) hf, ← hp]
    rw [words_from s (u :: ws) (pre ++ t ++ ⟨#[32]⟩) _ _ (by simp) (fun x hx => hN x (by simp [List.mem_cons.1 hx])) hs2 (by rw [hp]; omega)]
    have e : s.extract pre.size (pre.size + t.size) = t := by rw [hs']; exact extract_mid _ _ _
    simp [e]
theorem wordsT_join (ws : List ByteArray) (h : ws ≠ []) (hN : ∀ t ∈ ws, NB t) : wordsT (joinB ws) = ws := by
  rw [wordsT_is]
  have := words_from (joinB ws) ws ByteArray.empty [] (joinB ws).size h hN (by simp) (by simp)
  simpa [cutAll] using this

theorem bt_dig (a : Nat) (h : a < 10) : bt (digT a) 0 = 48 + a := by
  have hs : 0 < (digT a).size := by rw [digT_size]; omega
  rw [← bt_get _ 0 hs]
  have e : ((digT a)[0]'hs) = UInt8.ofNat (48 + a) := by
    show (digT a).data[0]'(by simpa using hs) = _
    simp [digT, strOfNums, show (48 + (a : Int)).toNat = 48 + a by omega]
  rw [e]
  simp
  omega
theorem isDec_dig (a : Nat) (h : a < 10) : IsDec (digT a) a := by
  have hb := bt_dig a h
  refine ⟨by rw [digT_size]; omega, by rw [digT_size]; omega, by rw [digT_size]; omega, ?_, ?_⟩
  · rw [digT_size]
    intro i hi
    obtain rfl : i = 0 := by omega
    omega
  · rw [digT_size]
    simp [digVal, hb]
theorem nb_dig (a : Nat) (h : a < 10) : NB (digT a) := by
  refine ⟨by rw [digT_size]; omega, fun j hj => ?_⟩
  rw [digT_size] at hj
  obtain rfl : j = 0 := by omega
  rw [bt_dig a h]
  omega
theorem nb_op (k : Nat) (h0 : k ≠ 0) (h : k < 9) : NB (opB k) := by
  match k, h0, h with
  | 1, _, _ => exact ⟨by decide, by decide⟩
  | 2, _, _ => exact ⟨by decide, by decide⟩
  | 3, _, _ => exact ⟨by decide, by decide⟩
  | 4, _, _ => exact ⟨by decide, by decide⟩
  | 5, _, _ => exact ⟨by decide, by decide⟩
  | 6, _, _ => exact ⟨by decide, by decide⟩
  | 7, _, _ => exact ⟨by decide, by decide⟩
  | 8, _, _ => exact ⟨by decide, by decide⟩

/-- The words of a right instruction. -/
theorem instr_words {x : I3} (h : okI x = true) : ∃ ws, ws ≠ [] ∧ (∀ t ∈ ws, NB t) ∧ txtI x = joinB ws ∧ IsRead ws x := by
  obtain ⟨k, a, b, rfl, h0, h9, ha, hb⟩ := okI_nats h
  by_cases hk : k = 5 ∨ k = 6
  · have hb0 : b = 0 := by
      have := h
      unfold okI at this
      rcases hk with rfl | rfl <;> (simp at this; try simp only [inB_true] at this; omega)
    subst hb0
    refine ⟨[opB k, digT a], by simp, ?_, ?_, .inl ⟨opB k, digT a, a, rfl, by rw [opK_opB k h9]; exact hk, isDec_dig a ha, by rw [opK_opB k h9]; rfl, h⟩⟩
    · intro t ht
      simp at ht
      rcases ht with rfl | rfl
      · exact nb_op k h0 h9
      · exact nb_dig a ha
    · unfold txtI
      rw [if_pos (by simp only; omega)]
      simp [txt1, joinB, ByteArray.append_assoc]
  · refine ⟨[opB k, digT a, digT b], by simp, ?_, ?_, .inr ⟨opB k, digT a, digT b, a, b, rfl, by rw [opK_opB k h9]; exact hk, by rw [opK_opB k h9]; exact h0, isDec_dig a ha, isDec_dig b hb, by rw [opK_opB k h9], h⟩⟩
    · intro t ht
      simp at ht
      rcases ht with rfl | rfl | rfl
      · exact nb_op k h0 h9
      · exact nb_dig a ha
      · exact nb_dig b hb
    · unfold txtI
      rw [if_neg (by simp only; omega)]
      simp [txt2, txt1, joinB, ByteArray.append_assoc]
theorem read_back {x : I3} (h : okI x = true) : IsRead (wordsT (txtI x)) x := by
  obtain ⟨ws, h0, hN, he, hr⟩ := instr_words h
  rw [he, wordsT_join ws h0 hN]
  exact hr
theorem step_back {k : Nat} {x : I3} (hk : k < 3) (h : okI x = true) : StepOf (lineOf k x) (some (k, x)) := by
  obtain ⟨ws, h0, hN, he, hr⟩ := instr_words h
  obtain ⟨t, ts, rfl⟩ : ∃ t ts, ws = t :: ts := by
    cases ws with
    | nil => exact absurd rfl h0
    | cons t ts => exact ⟨t, ts, rfl⟩
  refine ⟨digT k, t :: ts, ?_, isDec_dig k (by omega), hk, hr⟩
  have e : lineOf k x = joinB (digT k :: t :: ts) := by
    unfold lineOf
    rw [he]
    simp [joinB, ByteArray.append_assoc]
  rw [e]
  refine wordsT_join _ (by simp) ?_
  intro u hu
  rcases List.mem_cons.1 hu with rfl | hu
  · exact nb_dig k (by omega)
  · exact hN u hu

/-- What a program's lines say. -/
def progSteps (rows : List (List I3)) (j : Nat) : List (Option (Nat × I3)) := (List.range j).flatMap fun k => (rows.getD k []).map fun x => some (k, x)
theorem allSteps_append : ∀ {ts us : List ByteArray} {os ps : List (Option (Nat × I3))}, AllSteps ts os → AllSteps us ps → AllSteps (ts ++ us) (os ++ ps)
  | [], _, [], _, _, h => h
  | [], _, _ :: _, _, h, _ => h.elim
  | _ :: _, _, [], _, h, _ => h.elim
  | _ :: _, _, _ :: _, _, h, g => ⟨h.1, allSteps_append h.2 g⟩
theorem row_steps {k : Nat} (hk : k < 3) : ∀ {xs : List I3}, (∀ x ∈ xs, okI x = true) → AllSteps (rowLines k xs) (xs.map fun x => some (k, x))
  | [], _ => trivial
  | x :: xs, h => ⟨step_back hk (h x (by simp)), row_steps hk (fun y hy => h y (by simp [hy]))⟩
theorem lines_steps {rows : List (List I3)} (hr : ∀ r ∈ rows, ∀ x ∈ r, okI x = true) : ∀ {j : Nat}, j ≤ 3 → AllSteps (linesTo rows j) (progSteps rows j)
  | 0, _ => trivial
  | j + 1, hj => by
    have e : progSteps rows (j + 1) = progSteps rows j ++ (rows.getD j []).map fun x => some (j, x) := by
      unfold progSteps
      rw [List.range_succ, List.flatMap_append]
      simp
    rw [linesTo_step, e]
    refine allSteps_append (lines_steps hr (by omega)) (row_steps (by omega) ?_)
    by_cases hk : j < rows.length
    · exact hr _ (by simp [List.getD, hk])
    · simp [List.getD, List.getElem?_eq_none (Nat.le_of_not_lt hk)]
theorem fold0 : ∀ (r p q s : List I3), (r.map fun x => some (0, x)).foldl addTo [p, q, s] = [p ++ r, q, s]
  | [], p, q, s => by simp
  | x :: r, p, q, s => by
    rw [List.map_cons, List.foldl_cons]
    have : addTo [p, q, s] (some (0, x)) = [p ++ [x], q, s] := rfl
    rw [this, fold0 r]
    simp
theorem fold1 : ∀ (r p q s : List I3), (r.map fun x => some (1, x)).foldl addTo [p, q, s] = [p, q ++ r, s]
  | [], p, q, s => by simp
  | x :: r, p, q, s => by
    rw [List.map_cons, List.foldl_cons]
    have : addTo [p, q, s] (some (1, x)) = [p, q ++ [x], s] := rfl
    rw [this, fold1 r]
    simp
theorem fold2 : ∀ (r p q s : List I3), (r.map fun x => some (2, x)).foldl addTo [p, q, s] = [p, q, s ++ r]
  | [], p, q, s => by simp
  | x :: r, p, q, s => by
    rw [List.map_cons, List.foldl_cons]
    have : addTo [p, q, s] (some (2, x)) = [p, q, s ++ [x]] := rfl
    rw [this, fold2 r]
    simp
theorem rows_back {rows : List (List I3)} (h3 : rows.length = 3) : rowsOf (progSteps rows 3) = rows := by
  match rows, h3 with
  | [r0, r1, r2], _ =>
    have e : progSteps [r0, r1, r2] 3 = (r0.map fun x => some (0, x)) ++ ((r1.map fun x => some (1, x)) ++ (r2.map fun x => some (2, x))) := by
      unfold progSteps
      rw [show List.range 3 = [0, 1, 2] from rfl]
      simp
    unfold rowsOf
    rw [e, List.foldl_append, List.foldl_append, fold0, fold1, fold2]
    simp
/-- A right program's lines are read back. -/
theorem lines_back {rows : List (List I3)} (h : progOk rows = true) : IsRP (linesTo rows 3) rows 0 := by
  obtain ⟨h3, hr⟩ := progOk_parts h
  exact .inl ⟨rfl, progSteps rows 3, lines_steps (fun r hm => (hr r hm).2) (Nat.le_refl _), (rows_back h3).symm, h⟩

theorem triples_nums : ∀ (r : List I3), triples (rowNums r) = r
  | [] => rfl
  | x :: r => by
    have e : rowNums (x :: r) = x.1 :: x.2.1 :: x.2.2 :: rowNums r := by simp [rowNums]
    rw [e, triples, triples_nums r]
/-- A program's numbers are read back. -/
theorem parse_nums : ∀ (rows : List (List I3)), parse rows.length (progNums rows) = some rows
  | [] => rfl
  | r :: rows => by
    have e : progNums (r :: rows) = (r.length : Int) :: (rowNums r ++ progNums rows) := by simp [progNums]
    have hl := rowNums_length r
    rw [e, List.length_cons, parse_step (by rw [List.length_append, hl]; omega), Int.toNat_natCast]
    have d1 : (rowNums r ++ progNums rows).drop (3 * r.length) = progNums rows := by rw [show 3 * r.length = (rowNums r).length by omega]; simp
    have d2 : (rowNums r ++ progNums rows).take (3 * r.length) = rowNums r := by rw [show 3 * r.length = (rowNums r).length by omega]; simp
    rw [d1, d2, parse_nums rows, triples_nums]
    rfl
end Go.Proofs.YtiokkoaalakakaaGreatDoor
