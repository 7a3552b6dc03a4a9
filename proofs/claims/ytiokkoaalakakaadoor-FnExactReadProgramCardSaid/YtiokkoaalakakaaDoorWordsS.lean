/-
  spec.l00Words: a text's words.
-/
import Derived.Test.YtiokkoaalakakaaDoorWordsP
import Derived.Test.YtiokkoaalakakaaDoorStrS
import Derived.Test.YtiokkoaalakakaaDoorParts
namespace Go.Proofs.YtiokkoaalakakaaDoor
open Go.RowKit Go.Lib

theorem info_str : (Tryd.prog.info? 9).map (fun i => (i.zero, i.size, i.bytes)) = some (some (.string ⟨#[]⟩), 1, 16) := by kernel_rfl
theorem one_st (t : ByteArray) : ∀ u ∈ [Value.string t], u.oneCell' = true := by intro u hu; simp at hu; subst hu; rfl
theorem one_cell_st (w : World) (x : Value) (t : TypeId) : ∀ j u, [x][j]? = some u → (w.alloc (.cells #[x] t)).cell? ((⟨w.heap.size, 0, none⟩ : Addr).add j) = some u := by
  intro j u hj
  match j, hj with
  | 0, hj => simp at hj; subst hj; simp [Addr.add]
  | (j + 1), hj => simp at hj

/-- Where the loop stands: from here on the bytes give the whole; or it is done. -/
def WState (s : ByteArray) (i a : Nat) (acc : List (Nat × Nat)) : Prop :=
  (i ≤ s.size ∧ a ≤ i ∧ closeSpans s (spansB s (s.size - i) i (if a < i then some a else none) acc) = closeSpans s (spansB s s.size 0 none [])) ∨
  (i = s.size + 1 ∧ acc = closeSpans s (spansB s s.size 0 none []))
theorem WState.start (s : ByteArray) : WState s 0 0 [] := .inl ⟨by omega, by omega, by simp⟩
theorem WState.word {s : ByteArray} {i a : Nat} {acc : List (Nat × Nat)} (h : WState s i a acc) (hi : i < s.size) (hb : bt s i ≠ 32) : WState s (i + 1) a acc := by
  rcases h with ⟨_, ha, h⟩ | ⟨h, _⟩
  · refine .inl ⟨by omega, by omega, ?_⟩
    rw [← h, show s.size - i = (s.size - (i + 1)) + 1 by omega, spansB_word hi hb, if_pos (by omega)]
    by_cases hai : a < i
    · rw [if_pos hai]; rfl
    · rw [if_neg hai]
      obtain rfl : a = i := by omega
      rfl
  · omega
theorem WState.blank {s : ByteArray} {i a : Nat} {acc : List (Nat × Nat)} (h : WState s i a acc) (hi : i < s.size) (hb : bt s i = 32) (ha : a < i) : WState s (i + 1) (i + 1) (acc ++ [(a, i)]) := by
  rcases h with ⟨_, _, h⟩ | ⟨h, _⟩
  · refine .inl ⟨by omega, by omega, ?_⟩
    rw [← h, show s.size - i = (s.size - (i + 1)) + 1 by omega, if_pos ha, spansB_blank_some hi hb, if_neg (by omega)]
  · omega
theorem WState.blank0 {s : ByteArray} {i a : Nat} {acc : List (Nat × Nat)} (h : WState s i a acc) (hi : i < s.size) (hb : bt s i = 32) (ha : ¬ a < i) : WState s (i + 1) (i + 1) acc := by
  rcases h with ⟨_, _, h⟩ | ⟨h, _⟩
  · refine .inl ⟨by omega, by omega, ?_⟩
    rw [← h, show s.size - i = (s.size - (i + 1)) + 1 by omega, if_neg ha, spansB_blank_none hi hb, if_neg (by omega)]
  · omega
theorem WState.last {s : ByteArray} {a : Nat} {acc : List (Nat × Nat)} (h : WState s s.size a acc) (ha : a < s.size) : WState s (s.size + 1) (s.size + 1) (acc ++ [(a, s.size)]) := by
  rcases h with ⟨_, _, h⟩ | ⟨h, _⟩
  · refine .inr ⟨rfl, ?_⟩
    rw [← h, spansB_end _ _ _ _ _ (by omega), if_pos ha]
    rfl
  · omega
theorem WState.last0 {s : ByteArray} {a : Nat} {acc : List (Nat × Nat)} (h : WState s s.size a acc) (ha : ¬ a < s.size) : WState s (s.size + 1) (s.size + 1) acc := by
  rcases h with ⟨_, _, h⟩ | ⟨h, _⟩
  · refine .inr ⟨rfl, ?_⟩
    rw [← h, spansB_end _ _ _ _ _ (by omega), if_neg ha]
    rfl
  · omega
theorem WState.le {s : ByteArray} {i a : Nat} {acc : List (Nat × Nat)} (h : WState s i a acc) (hi : i ≤ s.size) : a ≤ i := by
  rcases h with ⟨_, h, _⟩ | ⟨h, _⟩ <;> omega
theorem WState.done {s : ByteArray} {i a : Nat} {acc : List (Nat × Nat)} (h : WState s i a acc) (hi : ¬ i ≤ s.size) : cutAll s acc = wordsT s := by
  rcases h with ⟨h, _⟩ | ⟨_, h⟩
  · omega
  · rw [wordsT_is, h]
theorem cutAll_snoc (s : ByteArray) (acc : List (Nat × Nat)) (a i : Nat) : cutAll s (acc ++ [(a, i)]) = cutAll s acc ++ [s.extract a i] := by simp [cutAll]
theorem cutAll_len (s : ByteArray) (acc : List (Nat × Nat)) : (cutAll s acc).length = acc.length := by simp [cutAll]

set_option maxHeartbeats 4000000 in
set_option maxRecDepth 100000 in
theorem l00Words_is (s : ByteArray) (w : World) (hs : s.size ≤ 1048576) : Calls Tryd.prog 35 #[.string s] w fun e w' => ∃ v, e = .returned v ∧ w'.ownsRow w.heap.size 9 1 v (wordsT s).length ((wordsT s).map Value.string) ∧ Below w.heap.size w w' := by
  obtain ⟨i0, hi, hz0, hz1, hz2⟩ := info_parts info_str
  have h0 : (w.alloc (.cells #[] 9)).ownsRow w.heap.size 9 1 (.slice (some ⟨w.heap.size, 0, none⟩) 0 0) 0 [] := World.ownsRow_lit w #[] 0 (Nat.le_refl _) (by unfold maxLen; omega) rfl
  go_enter Tryd.func35, Tryd.ntmps35
  go_wp2
  go_loopw [3, 4, 5] (fun so sa si wr => ∃ (i a : Nat) (acc : List (Nat × Nat)), i ≤ s.size + 1 ∧ acc.length ≤ i ∧ si = .int .i64 i ∧ sa = .int .i64 a ∧ Hid (WState s i a acc) ∧ wr.ownsRow w.heap.size 9 1 so (cutAll s acc).length ((cutAll s acc).map Value.string) ∧ Below w.heap.size w wr) (fun _ _ si _ => s.size + 1 - (intOf si).toNat)
  case atStart => exact ⟨0, 0, [], by omega, by simp, rfl, rfl, WState.start s, by simpa [cutAll] using h0, by go_grown⟩
  case round =>
    clear h0
    obtain ⟨i, a, acc, hil, hal, rfl, rfl, hW, hr, hbel⟩ := hrel
    have hbs := hbel.size
    by_cases hle : i ≤ s.size
    · have hle2 : (i : Int) ≤ (s.size : Int) := by omega
      have hai := hW.out.le hle
      have hsn := cutAll_snoc s acc a i
      have hcl := cutAll_len s acc
      by_cases hlt : i < s.size
      · have hne : ((i : Int) == (s.size : Int)) = false := beq_eq_false_iff_ne.2 (by omega)
        have hlt2 : (i : Int) < (s.size : Int) := by omega
        have hg := bt_get s i hlt
        by_cases hb : bt s i = 32
        · have hb2 : ((s[i]'hlt).toNat : Int) = 32 := by rw [hg, hb]; rfl
          by_cases ha : a < i
          · have HW2 : Hid (WState s (i + 1) (i + 1) (acc ++ [(a, i)])) := hW.out.blank hlt hb ha
            have ha2 : (a : Int) < (i : Int) := by omega
            have hac2 : (acc ++ [(a, i)]).length ≤ i + 1 := by simp; omega
            clear hg hb hW
            generalize acc ++ [(a, i)] = acc2 at HW2 hsn hac2
            have HS : Hid (cutAll s acc2 = cutAll s acc ++ [s.extract a i]) := hsn
            clear hsn
            generalize cutAll s acc = ts at hr HS hcl
            go_wp2_with (at_builtin; refine wpList_append_own _ rfl _ _ 37 rfl w.heap.size 9 i0 (.string ⟨#[]⟩) 1 16 Tryd.underlying37 hi hz0 hz1 hz2 rfl (by decide) _ _ _ rfl (hr.alloc _) ⟨wr.heap.size, 0, none⟩ 1 1 [.string (s.extract a i)] rfl rfl (one_cell_st _ _ _) (one_st _) ?c3 ?c4 ?c5 ?_)
            case c3 => unfold maxLen; omega
            case c4 => omega
            case c5 => simp; omega
            intro v2 w2 hown2 hgrow2 _
            have hb3 : Below w.heap.size w w2 := (hbel.alloc hbs _).grown hgrow2 (by simp; omega) (fun j hj => (hr.lt _ hj).1)
            have hr2 : w2.ownsRow w.heap.size 9 1 v2 (cutAll s acc2).length ((cutAll s acc2).map Value.string) := by rw [HS.out]; simpa [hcl] using hown2
            clear hown2 hgrow2 hr hbel HS hcl
            go_wp2
            go_roundw
            case rel => exact ⟨i + 1, i + 1, acc2, by omega, hac2, by go_num, by go_num, HW2, hr2, hb3⟩
            case measure => simp [intOf]; omega
          · have HW2 : Hid (WState s (i + 1) (i + 1) acc) := hW.out.blank0 hlt hb ha
            have ha2 : ¬ (a : Int) < (i : Int) := by omega
            clear hg hb hW hsn hcl
            go_wp2
            go_roundw
            case rel => exact ⟨i + 1, i + 1, acc, by omega, by omega, by go_num, by go_num, HW2, hr, hbel⟩
            case measure => simp [intOf]; omega
        · have HW2 : Hid (WState s (i + 1) a acc) := hW.out.word hlt hb
          have hb2 : (((s[i]'hlt).toNat : Int) == 32) = false := by rw [hg]; exact beq_eq_false_iff_ne.2 (by omega)
          clear hg hb hW hsn hcl
          go_wp2
          go_roundw
          case rel => exact ⟨i + 1, a, acc, by omega, by omega, by go_num, rfl, HW2, hr, hbel⟩
          case measure => simp [intOf]; omega
      · have hie : i = s.size := by omega
        by_cases ha : a < s.size
        · have HW2 : Hid (WState s (s.size + 1) (s.size + 1) (acc ++ [(a, s.size)])) := by
            have := hW.out
            rw [hie] at this
            exact this.last ha
          rw [hie] at hsn
          have ha2 : (a : Int) < (s.size : Int) := by omega
          have hac2 : (acc ++ [(a, s.size)]).length ≤ s.size + 1 := by simp; omega
          subst hie
          clear hW
          generalize acc ++ [(a, s.size)] = acc2 at HW2 hsn hac2
          have HS : Hid (cutAll s acc2 = cutAll s acc ++ [s.extract a s.size]) := hsn
          clear hsn
          generalize cutAll s acc = ts at hr HS hcl
          go_wp2_with (at_builtin; refine wpList_append_own _ rfl _ _ 37 rfl w.heap.size 9 i0 (.string ⟨#[]⟩) 1 16 Tryd.underlying37 hi hz0 hz1 hz2 rfl (by decide) _ _ _ rfl (hr.alloc _) ⟨wr.heap.size, 0, none⟩ 1 1 [.string (s.extract a s.size)] rfl rfl (one_cell_st _ _ _) (one_st _) ?c3 ?c4 ?c5 ?_)
          case c3 => unfold maxLen; omega
          case c4 => omega
          case c5 => simp; omega
          intro v2 w2 hown2 hgrow2 _
          have hb3 : Below w.heap.size w w2 := (hbel.alloc hbs _).grown hgrow2 (by simp; omega) (fun j hj => (hr.lt _ hj).1)
          have hr2 : w2.ownsRow w.heap.size 9 1 v2 (cutAll s acc2).length ((cutAll s acc2).map Value.string) := by rw [HS.out]; simpa [hcl] using hown2
          clear hown2 hgrow2 hr hbel HS hcl
          go_wp2
          go_roundw
          case rel => exact ⟨s.size + 1, s.size + 1, acc2, by omega, hac2, by go_num, by go_num, HW2, hr2, hb3⟩
          case measure => simp [intOf]
        · have HW2 : Hid (WState s (s.size + 1) (s.size + 1) acc) := by
            have := hW.out
            rw [hie] at this
            exact this.last0 ha
          have ha2 : ¬ (a : Int) < (s.size : Int) := by omega
          subst hie
          clear hW hsn hcl
          go_wp2
          go_roundw
          case rel => exact ⟨s.size + 1, s.size + 1, acc, by omega, by omega, by go_num, by go_num, HW2, hr, hbel⟩
          case measure => simp [intOf]
    · have hE := hW.out.done hle
      rw [hE] at hr
      have hle2 : ¬ (i : Int) ≤ (s.size : Int) := by omega
      have HR : Hid (wr.ownsRow w.heap.size 9 1 u3 (wordsT s).length ((wordsT s).map Value.string)) := hr
      clear hW hE hr
      go_wp2
      go_ret
      exact ⟨_, rfl, HR.out, hbel⟩
end Go.Proofs.YtiokkoaalakakaaDoor
