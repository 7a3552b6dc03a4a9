/-
  Joined: DrawQ, SmB, WtnP, PthS.
-/
import Derived.Test.YtcdpcfnlflpjnaaGreatDoorW42
import Derived.Test.YtcdpcfnlflpjnaaGreatDoorW43

namespace Go.Proofs.YtcdpcfnlflpjnaaGreatDoor
set_option maxRecDepth 100000
open Go.RowKit
set_option linter.unusedVariables false
set_option linter.unusedSimpArgs false

def capT (t : Nat) : Nat := if t = 2 then 2 else 3
def GoodD (done : List (List I3)) : Prop := (∀ r ∈ done, codeOk r = true) ∧ ∀ t r, done[t]? = some r → r.length ≤ capT t
theorem GoodD.nil : GoodD [] := ⟨(fun r hr => by cases hr), (fun t r h => by simp at h)⟩
theorem GoodD.snoc {done : List (List I3)} {xs : List I3} (h : GoodD done) (h1 : codeOk xs = true) (h2 : xs.length ≤ capT done.length) : GoodD (done ++ [xs]) := by
 refine ⟨fun r hr => ?_, fun t r hr => ?_⟩
 ·rcases List.mem_append.1 hr with h' | h'
  ·exact h.1 r h'
  ·simp at h'; subst h'; exact h1
 ·by_cases ht : t < done.length
  ·rw [List.getElem?_append_left ht] at hr
   exact h.2 t r hr
  ·rw [List.getElem?_append_right (by omega)] at hr
   have hl := (List.getElem?_eq_some_iff.1 hr).1
   simp at hl
   have e : t = done.length := by omega
   subst e
   simp at hr
   subst hr
   exact h2
def SmallP (rows : List (List I3)) : Prop := (codeM rows 0).length ≤ 3 ∧ (codeM rows 1).length ≤ 3 ∧ (codeM rows 2).length ≤ 2
theorem GoodD.small {rows : List (List I3)} (h : GoodD rows) (hl : rows.length = 3) : SmallP rows := by
 have hk : ∀ k, k < 3 → (codeM rows k).length ≤ capT k := fun k hk => h.2 k _ (by unfold codeM; rw [List.getD, List.getElem?_eq_getElem (show k < rows.length by omega)]; rfl)
 exact ⟨hk 0 (by decide), hk 1 (by decide), hk 2 (by decide)⟩
def ProgS (rows : List (List I3)) : Prop := progOk rows = true ∧ SmallP rows

set_option maxHeartbeats 8000000 in
theorem programQ_went (p : Nat) (a : Option Addr) (n cap : Nat) (w : World) (hS : Src w p (.slice a n cap) 0) (hC : Code w p a n cap) :
  Calls Tryz.prog 56 #[.pointer (some ⟨p, 0, none⟩)] w fun e w' => (∃ (v : Value) (rows : List (List I3)), ProgS rows ∧ e = .returned (.agg #[v]) ∧ OwnProg w' w.heap.size v rows) ∧ Went p w w' := by
 obtain ⟨i0, hi, hz0, hz1, hz2⟩ := info_parts info_instr
 obtain ⟨j0, hj, hy0, hy1, hy2⟩ := info_parts info_instrs
 have hpl := hS.lt
 have hpB : p < w.heap.size := hS.lt
 go_enter Tryz.func56, Tryz.ntmps56
 go_wp2_with fail
 have hRr : (((w.alloc (.cells #[.slice none 0 0] 25)).alloc (.cells #[] 79)).alloc (.cells #[.slice (some ⟨w.heap.size + 1, 0, none⟩) 0 0] 25)).ownsRow w.heap.size 25 1 (.slice (some ⟨w.heap.size, 0, none⟩) 1 1) 1 [.slice none 0 0] := ((box_n w (.slice none 0 0) 25 w.heap.size (Nat.le_refl _)).alloc _).alloc _
 have hV : (((w.alloc (.cells #[.slice none 0 0] 25)).alloc (.cells #[] 79)).alloc (.cells #[.slice (some ⟨w.heap.size + 1, 0, none⟩) 0 0] 25)).ownsRow w.heap.size 79 1 (.slice (some ⟨w.heap.size + 1, 0, none⟩) 0 0) 0 [] := by
  have h9 := (empty_n (w.alloc (.cells #[.slice none 0 0] 25)) 79 1 w.heap.size (by simp)).alloc (.cells #[.slice (some ⟨w.heap.size + 1, 0, none⟩) 0 0] 25)
  simp only [World.size_alloc] at h9
  exact h9
 have hX : (((w.alloc (.cells #[.slice none 0 0] 25)).alloc (.cells #[] 79)).alloc (.cells #[.slice (some ⟨w.heap.size + 1, 0, none⟩) 0 0] 25)).ownsRow w.heap.size 25 1 (.slice (some ⟨w.heap.size + 1 + 1, 0, none⟩) 1 1) 1 [.slice (some ⟨w.heap.size + 1, 0, none⟩) 0 0] := by
  have h9 := box_n ((w.alloc (.cells #[.slice none 0 0] 25)).alloc (.cells #[] 79)) (.slice (some ⟨w.heap.size + 1, 0, none⟩) 0 0) 25 w.heap.size (by simp; omega)
  simp only [World.size_alloc] at h9
  exact h9
 have hWt : Went p w (((w.alloc (.cells #[.slice none 0 0] 25)).alloc (.cells #[] 79)).alloc (.cells #[.slice (some ⟨w.heap.size + 1, 0, none⟩) 0 0] 25)) := (((Went.refl p w).alloc _).alloc _).alloc _
 replace hC := hC.below (((hWt.below (Nat.le_of_lt hpl))))
 replace hS := ((hS.alloc (.cells #[.slice none 0 0] 25)).alloc (.cells #[] 79)).alloc (.cells #[.slice (some ⟨w.heap.size + 1, 0, none⟩) 0 0] 25)
 replace hpl : p < (((w.alloc (.cells #[.slice none 0 0] 25)).alloc (.cells #[] 79)).alloc (.cells #[.slice (some ⟨w.heap.size + 1, 0, none⟩) 0 0] 25)).heap.size := by simp; omega
 have hXw : w.heap.size < w.heap.size + 1 + 1 := by omega
 generalize (((w.alloc (.cells #[.slice none 0 0] 25)).alloc (.cells #[] 79)).alloc (.cells #[.slice (some ⟨w.heap.size + 1, 0, none⟩) 0 0] 25)) = w3 at hRr hV hX hWt hC hS hpl
 generalize w.heap.size + 1 + 1 = X at hX hXw
 generalize some (Addr.mk (w.heap.size + 1) 0 none) = aV0 at hV hX
 go_loopw [4] (fun si wr => ∃ (k T : Nat) (done : List (List I3)) (vs : List Value) (aV : Option Addr) (capV : Nat), k ≤ 3 ∧ si = .int .i64 k ∧ T ≤ k * 100 ∧ done.length = k ∧ Hid (GoodD done) ∧
   RowsOwn wr w.heap.size k vs done ∧ wr.ownsRow w.heap.size 79 1 (.slice aV k capV) k vs ∧ wr.ownsRow w.heap.size 25 1 (.slice (some ⟨X, 0, none⟩) 1 1) 1 [.slice aV k capV] ∧ wr.ownsRow w.heap.size 25 1 (.slice (some ⟨w.heap.size, 0, none⟩) 1 1) 1 [.slice none 0 0] ∧ Src wr p (.slice a n cap) T ∧ Code wr p a n cap ∧ p < wr.heap.size ∧ Went p w wr) (fun si _ => 3 - (intOf si).toNat)
 case atStart => exact ⟨0, 0, [], [], aV0, 0, by omega, rfl, by omega, rfl, GoodD.nil, ⟨fun t ht => by omega, fun t _ ht => by omega⟩, hV, hX, hRr, hS, hC, hpl, hWt⟩
 case round =>
  clear hRr hV hX hWt hC hS hpl
  obtain ⟨k, T, done, vs, aV, capV, hk, rfl, hT, hdl, hok, hR, hV, hX, hRr, hS, hC, hpl, hWt⟩ := hrel
  by_cases hlt : k < 3
  ·have hlt2 : (k : Int) < 3 := by omega
   have hk0 : (0 : Int) ≤ (k : Int) := by omega
   go_wp2_with fail
   refine (next_any p T a n cap 4 _ hS hC (by omega) (by omega)).mono ?_
   rintro e w4 ⟨⟨v1, hv1, rfl⟩, hSn, hWn⟩
   replace hS := hSn
   replace hR := hR.went hWn hpB
   replace hV := owns_wn hV hWn hpB
   replace hX := owns_wn hX hWn hpB
   replace hRr := owns_wn hRr hWn hpB
   replace hC := hC.went hWn (Nat.le_of_lt hpl)
   replace hpl := Nat.lt_of_lt_of_le hpl hWn.size
   replace hWt := hWt.trans hWn
   clear hSn hWn
   by_cases hk2 : k = 2
   ·have hk2' : ((k : Int) == 2) = true := by subst hk2; rfl
    go_wp2_with fail
    refine (next_any p (T + 3) a n cap 3 _ hS hC (by omega) (by omega)).mono ?_
    rintro e w5 ⟨⟨v2, hv2, rfl⟩, hSn, hWn⟩
    replace hS := hSn
    replace hR := hR.went hWn hpB
    replace hV := owns_wn hV hWn hpB
    replace hX := owns_wn hX hWn hpB
    replace hRr := owns_wn hRr hWn hpB
    replace hC := hC.went hWn (Nat.le_of_lt hpl)
    replace hpl := Nat.lt_of_lt_of_le hpl hWn.size
    replace hWt := hWt.trans hWn
    clear hSn hWn
    have hnn : v2 ≤ 3 := by omega
    have hn2 : v2 ≤ 2 := by omega
    obtain ⟨nn, hnnd⟩ : ∃ nn : Nat, nn = v2 := ⟨_, rfl⟩
    rw [← hnnd] at hnn hn2
    rw [← hnnd]
    have HK2 : Hid (k = 2) := hk2
    clear hnnd hv2 hv1 hk2 hk2'
    replace hS := hS.mono (show T + 3 + 3 ≤ T + 6 by omega)
    have hCo := empty_n w5 129 3 w5.heap.size (Nat.le_refl _)
    have hWo := (Went.refl p w5).alloc (.cells #[] 129)
    have hSo := hS.alloc (.cells #[] 129)
    have hpo : p < (w5.alloc (.cells #[] 129)).heap.size := by simp; omega
    have hCdo := hC.below ((Below.refl p w5).alloc (Nat.le_of_lt hpl) (.cells #[] 129))
    go_wp2
    go_loopw [6, 7] (fun sv si wi => ∃ (i : Nat) (xs : List I3), i ≤ nn ∧ si = .int .i64 i ∧ xs.length = i ∧ Hid (okTo nn xs) ∧ wi.ownsRow w5.heap.size 129 3 sv i (flat xs) ∧ Src wi p (.slice a n cap) (T + 6 + i * 9) ∧ Code wi p a n cap ∧ p < wi.heap.size ∧ Went p w5 wi) (fun _ si _ => nn - (intOf si).toNat)
    case atStart => exact ⟨0, [], by omega, rfl, rfl, (fun i hi => by simp at hi), hCo, hSo, hCdo, hpo, hWo⟩
    case round =>
     clear hCo hWo hSo hpo hCdo
     obtain ⟨i, xs, hin, rfl, hxl, hxo, hr, hSi, hCi, hpi, hWi⟩ := hrel
     by_cases him : i < nn
     ·have him2 : (i : Int) < (nn : Int) := by omega
      go_wp2_with fail
      refine (instr_any p (T + 6 + i * 9) a n cap i nn _ hSi hCi (by omega) him hnn).mono ?_
      rintro e w6 ⟨⟨x, ⟨hx1, hx2⟩, rfl⟩, hS6, hW6⟩
      have hxo2 : Hid (okTo nn (xs ++ [x])) := okTo_snoc hxo.out hx1 (by rw [hxl]; exact hx2)
      replace hr := owns_wn hr hW6 hpl
      replace hCi := hCi.went hW6 (Nat.le_of_lt hpi)
      replace hpi := Nat.lt_of_lt_of_le hpi hW6.size
      replace hWi := hWi.trans hW6
      have hbs6 := hWi.size
      clear hSi hW6 hx1 hx2 hxo
      have HXL : Hid (xs.length = i) := hxl
      clear hxl
      obtain ⟨x0, x1, x2⟩ := x
      unfold I3.val
      go_wp2_with (at_builtin; refine wpList_append_own _ rfl _ _ 79 rfl w5.heap.size 129 i0 (.agg #[.int .i64 0, .int .i64 0, .int .i64 0]) 3 24 Tryz.underlying79 hi hz0 hz1 hz2 rfl (by decide) _ _ _ rfl (hr.alloc _) ⟨w6.heap.size, 0, none⟩ 1 1 [.int .i64 x0, .int .i64 x1, .int .i64 x2] rfl rfl (cell_three_new _ _ _ _ _) (three_i64 _ _ _) ?c3 ?c4 ?c5 ?_)
      case c3 => unfold maxLen; omega
      case c4 => omega
      case c5 => simp; omega
      intro v7 w7 hown7 hgrow7 _
      have hr7 : w7.ownsRow w5.heap.size 129 3 v7 (i + 1) (flat (xs ++ [(x0, x1, x2)])) := by rw [flat_snoc]; exact hown7
      have hW7 : Went p w5 w7 := (hWi.alloc (.cells #[.int .i64 x0, .int .i64 x1, .int .i64 x2] 129)).grown hgrow7 (fun j hj => (hr.lt _ hj).1)
      have hS7 := ((hS6.alloc (.cells #[.int .i64 x0, .int .i64 x1, .int .i64 x2] 129)).grown hgrow7 (fun k e => by have := (hr.lt k e).1; omega)).mono (show T + 6 + i * 9 + 9 ≤ T + 6 + (i + 1) * 9 by omega)
      have hC7 := hCi.below ((((Below.refl p w6).alloc (Nat.le_of_lt hpi) (.cells #[.int .i64 x0, .int .i64 x1, .int .i64 x2] 129))).grown hgrow7 (by simp; omega) (fun j hj => by have := (hr.lt j hj).1; omega))
      have hp7 : p < w7.heap.size := by have := hgrow7.size; simp at this; omega
      clear hown7 hgrow7 hr hWi hS6 hCi hpi
      go_wp2
      go_roundw
      case rel => exact ⟨i + 1, xs ++ [(x0, x1, x2)], by omega, by go_num, by simp [HXL.out], hxo2, hr7, hS7, hC7, hp7, hW7⟩
      case measure => simp [intOf]; omega
     ·obtain rfl : i = nn := by omega
      have hcok : codeOk xs = true := codeOk_of (by omega) (by rw [hxl]; exact hxo.out)
      have hok2 : Hid (GoodD (done ++ [xs])) := GoodD.snoc hok.out hcok (by rw [hdl, HK2.out, hxl]; exact hn2)
      obtain ⟨aC, capC, hv⟩ : ∃ aC capC, u6 = .slice aC i capC := by
       rcases hr.2 with ⟨hv, h0⟩ | ⟨g, cp, cur, hv, _⟩
       ·exact ⟨none, 0, by rw [h0]; exact hv⟩
       ·exact ⟨_, cp, hv⟩
      subst hv
      have hlow : ∀ t x, t < k → (vs.getD t undef).ownBlock = some x → x < w5.heap.size := fun t x ht hx => ((hR.1 t ht).lt x hx).2
      have hw5B : w.heap.size ≤ w5.heap.size := hWt.size
      have hR' := hR.went hWi hpB
      have hV' := owns_wn hV hWi hpB
      have hX' := owns_wn hX hWi hpB
      have hRr' := owns_wn hRr hWi hpB
      have hWt' := hWt.trans hWi
      have hcX : wr.cell? ⟨X, 0, none⟩ = some (.slice aV k capV) := by simpa using hX'.cellAt 0 (by omega)
      have hbs8 := hWt'.size
      clear hR hV hX hRr hWt hWi hS hC hpl hok hxo hcok
      go_wp2_with (at_builtin; refine wpList_append_own _ rfl _ _ 23 rfl w.heap.size 79 j0 (.slice none 0 0) 1 24 Tryz.underlying23 hj hy0 hy1 hy2 rfl (by decide) _ _ _ rfl (hV'.alloc _) ⟨wr.heap.size, 0, none⟩ 1 1 [.slice aC i capC] rfl rfl (one_cell_v _ _ _) (one_slv _ _ _) ?c3 ?c4 ?c5 ?_)
      case c3 => unfold maxLen; omega
      case c4 => omega
      case c5 => simp; omega
      intro v8 w8 hown8 hgrow8 _
      have hA := hr.alloc (.cells #[.slice aC i capC] 79)
      have hV2 := hV'.alloc (.cells #[.slice aC i capC] 79)
      have hC4 := hA.kept hgrow8 (owns_ne hA hV2 (by decide))
      have hR4 : RowsOwn w8 w.heap.size k vs done := ⟨fun t ht => ((hR'.1 t ht).alloc _).kept hgrow8 (owns_ne ((hR'.1 t ht).alloc _) hV2 (by decide)), hR'.2⟩
      have hX4 := (hX'.alloc (.cells #[.slice aC i capC] 79)).kept hgrow8 (owns_ne (hX'.alloc _) hV2 (by decide))
      have hRr4 := (hRr'.alloc (.cells #[.slice aC i capC] 79)).kept hgrow8 (owns_ne (hRr'.alloc _) hV2 (by decide))
      have hW4 : Went p w w8 := (hWt'.alloc (.cells #[.slice aC i capC] 79)).grown hgrow8 (fun j hj => (hV'.lt _ hj).1)
      have hS4 := (hSi.alloc (.cells #[.slice aC i capC] 79)).grown hgrow8 (fun j e => by have := (hV'.lt j e).1; omega)
      have hCd4 := hCi.below (((Below.refl p wr).alloc (Nat.le_of_lt hpi) (.cells #[.slice aC i capC] 79)).grown hgrow8 (by simp; omega) (fun j hj => by have := (hV'.lt j hj).1; omega))
      have hp4 : p < w8.heap.size := by have := hgrow8.size; simp at this; omega
      clear hA hV2 hV' hR' hX' hRr' hWt' hgrow8 hr hcX hSi hCi hpi
      obtain ⟨aW, capW, hv4⟩ : ∃ aW capW, v8 = .slice aW (k + 1) capW := by
       rcases hown8.2 with ⟨hv, h0⟩ | ⟨g, cp, cur, hv, _⟩
       ·omega
       ·exact ⟨_, cp, hv⟩
      subst hv4
      have hlv : vs.length = k := by have := hown8.1; simp at this; omega
      have hpush := hR4.push' (s0 := w5.heap.size) hlv hdl hlow (r := xs) (sv := .slice aC i capC) (by rw [hxl]; exact hC4) hw5B
      have fX := hX4.frozenAt 0
      have cX : w8.cell? ⟨X, 0, none⟩ = some (.slice aV k capV) := by simpa using hX4.cellAt 0 (by omega)
      have hX5 := (hX4.stored 0 (.slice aW (k + 1) capW)).1
      have hV5 : (w8.setCell ⟨X, 0, none⟩ (.slice aW (k + 1) capW)).ownsRow w.heap.size 79 1 (.slice aW (k + 1) capW) (k + 1) (vs ++ [.slice aC i capC]) := ownsRow_setCell_other hown8 (ne_block hown8 hX4 (by decide)) _
      have hR5 : RowsOwn (w8.setCell ⟨X, 0, none⟩ (.slice aW (k + 1) capW)) w.heap.size (k + 1) (vs ++ [.slice aC i capC]) (done ++ [xs]) := ⟨fun t ht => ownsRow_setCell_other (hpush.1 t ht) (ne_block (hpush.1 t ht) hX4 (by decide)) _, hpush.2⟩
      have hRr5 : (w8.setCell ⟨X, 0, none⟩ (.slice aW (k + 1) capW)).ownsRow w.heap.size 25 1 (.slice (some ⟨w.heap.size, 0, none⟩) 1 1) 1 [.slice none 0 0] := ownsRow_setCell_other hRr4 (by simp [Value.ownBlock]; omega) _
      have g5 := grownBy_set w8 X 0 (.slice aW (k + 1) capW)
      have hW5 := hW4.grown g5 (fun j e => by cases e; omega)
      have hS5 := hS4.grown g5 (fun j e => by cases e; omega)
      have hC5 := hCd4.below (grown_below g5 (show p ≤ X by omega) (Nat.le_of_lt hp4))
      have hp5 : p < (w8.setCell ⟨X, 0, none⟩ (.slice aW (k + 1) capW)).heap.size := Nat.lt_of_lt_of_le hp4 g5.size
      simp only [List.set_cons_zero] at hX5
      clear hpush hX4 hown8 hR4 hRr4 hC4 hlow g5 hW4 hS4 hCd4 hp4
      have hdl2 : (done ++ [xs]).length = k + 1 := by simp [hdl]
      generalize done ++ [xs] = done2 at hok2 hR5 hdl2
      generalize vs ++ [.slice aC i capC] = vs2 at hV5 hR5
      go_wp2
      go_roundw
      case rel => exact ⟨k + 1, T + 6 + i * 9, done2, vs2, aW, capW, by omega, (by first | go_num | (rw [HK2.out]; rfl)), by omega, hdl2, hok2, hR5, hV5, hX5, hRr5, hS5, hC5, hp5, hW5⟩
      case measure => have h9 := HK2.out; simp [intOf]; omega
   ·have hk2' : ((k : Int) == 2) = false := beq_eq_false_iff_ne.2 (by omega)
    have HK3 : Hid (k ≠ 2) := hk2
    have hnn : v1 ≤ 3 := by omega
    obtain ⟨nn, hnnd⟩ : ∃ nn : Nat, nn = v1 := ⟨_, rfl⟩
    rw [← hnnd] at hnn
    rw [← hnnd]
    clear hnnd hv1
    replace hS := hS.mono (show T + 3 ≤ T + 6 by omega)
    obtain ⟨w5, hw5⟩ : ∃ w5, w5 = w4 := ⟨_, rfl⟩
    subst hw5
    have hCo := empty_n w5 129 3 w5.heap.size (Nat.le_refl _)
    have hWo := (Went.refl p w5).alloc (.cells #[] 129)
    have hSo := hS.alloc (.cells #[] 129)
    have hpo : p < (w5.alloc (.cells #[] 129)).heap.size := by simp; omega
    have hCdo := hC.below ((Below.refl p w5).alloc (Nat.le_of_lt hpl) (.cells #[] 129))
    go_wp2
    go_loopw [6, 7] (fun sv si wi => ∃ (i : Nat) (xs : List I3), i ≤ nn ∧ si = .int .i64 i ∧ xs.length = i ∧ Hid (okTo nn xs) ∧ wi.ownsRow w5.heap.size 129 3 sv i (flat xs) ∧ Src wi p (.slice a n cap) (T + 6 + i * 9) ∧ Code wi p a n cap ∧ p < wi.heap.size ∧ Went p w5 wi) (fun _ si _ => nn - (intOf si).toNat)
    case atStart => exact ⟨0, [], by omega, rfl, rfl, (fun i hi => by simp at hi), hCo, hSo, hCdo, hpo, hWo⟩
    case round =>
     clear hCo hWo hSo hpo hCdo
     obtain ⟨i, xs, hin, rfl, hxl, hxo, hr, hSi, hCi, hpi, hWi⟩ := hrel
     by_cases him : i < nn
     ·have him2 : (i : Int) < (nn : Int) := by omega
      go_wp2_with fail
      refine (instr_any p (T + 6 + i * 9) a n cap i nn _ hSi hCi (by omega) him hnn).mono ?_
      rintro e w6 ⟨⟨x, ⟨hx1, hx2⟩, rfl⟩, hS6, hW6⟩
      have hxo2 : Hid (okTo nn (xs ++ [x])) := okTo_snoc hxo.out hx1 (by rw [hxl]; exact hx2)
      replace hr := owns_wn hr hW6 hpl
      replace hCi := hCi.went hW6 (Nat.le_of_lt hpi)
      replace hpi := Nat.lt_of_lt_of_le hpi hW6.size
      replace hWi := hWi.trans hW6
      have hbs6 := hWi.size
      clear hSi hW6 hx1 hx2 hxo
      have HXL : Hid (xs.length = i) := hxl
      clear hxl
      obtain ⟨x0, x1, x2⟩ := x
      unfold I3.val
      go_wp2_with (at_builtin; refine wpList_append_own _ rfl _ _ 79 rfl w5.heap.size 129 i0 (.agg #[.int .i64 0, .int .i64 0, .int .i64 0]) 3 24 Tryz.underlying79 hi hz0 hz1 hz2 rfl (by decide) _ _ _ rfl (hr.alloc _) ⟨w6.heap.size, 0, none⟩ 1 1 [.int .i64 x0, .int .i64 x1, .int .i64 x2] rfl rfl (cell_three_new _ _ _ _ _) (three_i64 _ _ _) ?c3 ?c4 ?c5 ?_)
      case c3 => unfold maxLen; omega
      case c4 => omega
      case c5 => simp; omega
      intro v7 w7 hown7 hgrow7 _
      have hr7 : w7.ownsRow w5.heap.size 129 3 v7 (i + 1) (flat (xs ++ [(x0, x1, x2)])) := by rw [flat_snoc]; exact hown7
      have hW7 : Went p w5 w7 := (hWi.alloc (.cells #[.int .i64 x0, .int .i64 x1, .int .i64 x2] 129)).grown hgrow7 (fun j hj => (hr.lt _ hj).1)
      have hS7 := ((hS6.alloc (.cells #[.int .i64 x0, .int .i64 x1, .int .i64 x2] 129)).grown hgrow7 (fun k e => by have := (hr.lt k e).1; omega)).mono (show T + 6 + i * 9 + 9 ≤ T + 6 + (i + 1) * 9 by omega)
      have hC7 := hCi.below ((((Below.refl p w6).alloc (Nat.le_of_lt hpi) (.cells #[.int .i64 x0, .int .i64 x1, .int .i64 x2] 129))).grown hgrow7 (by simp; omega) (fun j hj => by have := (hr.lt j hj).1; omega))
      have hp7 : p < w7.heap.size := by have := hgrow7.size; simp at this; omega
      clear hown7 hgrow7 hr hWi hS6 hCi hpi
      go_wp2
      go_roundw
      case rel => exact ⟨i + 1, xs ++ [(x0, x1, x2)], by omega, by go_num, by simp [HXL.out], hxo2, hr7, hS7, hC7, hp7, hW7⟩
      case measure => simp [intOf]; omega
     ·obtain rfl : i = nn := by omega
      have hcok : codeOk xs = true := codeOk_of (by omega) (by rw [hxl]; exact hxo.out)
      have hok2 : Hid (GoodD (done ++ [xs])) := GoodD.snoc hok.out hcok (by rw [hdl, hxl]; unfold capT; rw [if_neg HK3.out]; exact hnn)
      obtain ⟨aC, capC, hv⟩ : ∃ aC capC, u6 = .slice aC i capC := by
       rcases hr.2 with ⟨hv, h0⟩ | ⟨g, cp, cur, hv, _⟩
       ·exact ⟨none, 0, by rw [h0]; exact hv⟩
       ·exact ⟨_, cp, hv⟩
      subst hv
      have hlow : ∀ t x, t < k → (vs.getD t undef).ownBlock = some x → x < w5.heap.size := fun t x ht hx => ((hR.1 t ht).lt x hx).2
      have hw5B : w.heap.size ≤ w5.heap.size := hWt.size
      have hR' := hR.went hWi hpB
      have hV' := owns_wn hV hWi hpB
      have hX' := owns_wn hX hWi hpB
      have hRr' := owns_wn hRr hWi hpB
      have hWt' := hWt.trans hWi
      have hcX : wr.cell? ⟨X, 0, none⟩ = some (.slice aV k capV) := by simpa using hX'.cellAt 0 (by omega)
      have hbs8 := hWt'.size
      clear hR hV hX hRr hWt hWi hS hC hpl hok hxo hcok
      go_wp2_with (at_builtin; refine wpList_append_own _ rfl _ _ 23 rfl w.heap.size 79 j0 (.slice none 0 0) 1 24 Tryz.underlying23 hj hy0 hy1 hy2 rfl (by decide) _ _ _ rfl (hV'.alloc _) ⟨wr.heap.size, 0, none⟩ 1 1 [.slice aC i capC] rfl rfl (one_cell_v _ _ _) (one_slv _ _ _) ?c3 ?c4 ?c5 ?_)
      case c3 => unfold maxLen; omega
      case c4 => omega
      case c5 => simp; omega
      intro v8 w8 hown8 hgrow8 _
      have hA := hr.alloc (.cells #[.slice aC i capC] 79)
      have hV2 := hV'.alloc (.cells #[.slice aC i capC] 79)
      have hC4 := hA.kept hgrow8 (owns_ne hA hV2 (by decide))
      have hR4 : RowsOwn w8 w.heap.size k vs done := ⟨fun t ht => ((hR'.1 t ht).alloc _).kept hgrow8 (owns_ne ((hR'.1 t ht).alloc _) hV2 (by decide)), hR'.2⟩
      have hX4 := (hX'.alloc (.cells #[.slice aC i capC] 79)).kept hgrow8 (owns_ne (hX'.alloc _) hV2 (by decide))
      have hRr4 := (hRr'.alloc (.cells #[.slice aC i capC] 79)).kept hgrow8 (owns_ne (hRr'.alloc _) hV2 (by decide))
      have hW4 : Went p w w8 := (hWt'.alloc (.cells #[.slice aC i capC] 79)).grown hgrow8 (fun j hj => (hV'.lt _ hj).1)
      have hS4 := (hSi.alloc (.cells #[.slice aC i capC] 79)).grown hgrow8 (fun j e => by have := (hV'.lt j e).1; omega)
      have hCd4 := hCi.below (((Below.refl p wr).alloc (Nat.le_of_lt hpi) (.cells #[.slice aC i capC] 79)).grown hgrow8 (by simp; omega) (fun j hj => by have := (hV'.lt j hj).1; omega))
      have hp4 : p < w8.heap.size := by have := hgrow8.size; simp at this; omega
      clear hA hV2 hV' hR' hX' hRr' hWt' hgrow8 hr hcX hSi hCi hpi
      obtain ⟨aW, capW, hv4⟩ : ∃ aW capW, v8 = .slice aW (k + 1) capW := by
       rcases hown8.2 with ⟨hv, h0⟩ | ⟨g, cp, cur, hv, _⟩
       ·omega
       ·exact ⟨_, cp, hv⟩
      subst hv4
      have hlv : vs.length = k := by have := hown8.1; simp at this; omega
      have hpush := hR4.push' (s0 := w5.heap.size) hlv hdl hlow (r := xs) (sv := .slice aC i capC) (by rw [hxl]; exact hC4) hw5B
      have fX := hX4.frozenAt 0
      have cX : w8.cell? ⟨X, 0, none⟩ = some (.slice aV k capV) := by simpa using hX4.cellAt 0 (by omega)
      have hX5 := (hX4.stored 0 (.slice aW (k + 1) capW)).1
      have hV5 : (w8.setCell ⟨X, 0, none⟩ (.slice aW (k + 1) capW)).ownsRow w.heap.size 79 1 (.slice aW (k + 1) capW) (k + 1) (vs ++ [.slice aC i capC]) := ownsRow_setCell_other hown8 (ne_block hown8 hX4 (by decide)) _
      have hR5 : RowsOwn (w8.setCell ⟨X, 0, none⟩ (.slice aW (k + 1) capW)) w.heap.size (k + 1) (vs ++ [.slice aC i capC]) (done ++ [xs]) := ⟨fun t ht => ownsRow_setCell_other (hpush.1 t ht) (ne_block (hpush.1 t ht) hX4 (by decide)) _, hpush.2⟩
      have hRr5 : (w8.setCell ⟨X, 0, none⟩ (.slice aW (k + 1) capW)).ownsRow w.heap.size 25 1 (.slice (some ⟨w.heap.size, 0, none⟩) 1 1) 1 [.slice none 0 0] := ownsRow_setCell_other hRr4 (by simp [Value.ownBlock]; omega) _
      have g5 := grownBy_set w8 X 0 (.slice aW (k + 1) capW)
      have hW5 := hW4.grown g5 (fun j e => by cases e; omega)
      have hS5 := hS4.grown g5 (fun j e => by cases e; omega)
      have hC5 := hCd4.below (grown_below g5 (show p ≤ X by omega) (Nat.le_of_lt hp4))
      have hp5 : p < (w8.setCell ⟨X, 0, none⟩ (.slice aW (k + 1) capW)).heap.size := Nat.lt_of_lt_of_le hp4 g5.size
      simp only [List.set_cons_zero] at hX5
      clear hpush hX4 hown8 hR4 hRr4 hC4 hlow g5 hW4 hS4 hCd4 hp4
      have hdl2 : (done ++ [xs]).length = k + 1 := by simp [hdl]
      generalize done ++ [xs] = done2 at hok2 hR5 hdl2
      generalize vs ++ [.slice aC i capC] = vs2 at hV5 hR5
      go_wp2
      go_roundw
      case rel => exact ⟨k + 1, T + 6 + i * 9, done2, vs2, aW, capW, by omega, by go_num, by omega, hdl2, hok2, hR5, hV5, hX5, hRr5, hS5, hC5, hp5, hW5⟩
      case measure => simp [intOf]; omega
  ·obtain rfl : k = 3 := by omega
   have hp3 : ProgS done := ⟨progOk_of hdl hok.out.1, GoodD.small hok.out hdl⟩
   have HP : Hid (ProgS done) := hp3
   have hcX : wr.cell? ⟨X, 0, none⟩ = some (.slice aV 3 capV) := by simpa using hX.cellAt 0 (by omega)
   have kR : wr.cell? ⟨w.heap.size, 0, none⟩ = some (.slice none 0 0) := by simpa using hRr.cellAt 0 (by omega)
   have fR := hRr.frozenAt 0
   have hOP : OwnProg (wr.setCell ⟨w.heap.size, 0, none⟩ (.slice aV 3 capV)) w.heap.size (.slice aV 3 capV) done := ⟨vs, by rw [hdl]; exact ownsRow_setCell_other hV (ne_block hV hRr (by decide)) _, by have := hV.1; omega, fun t ht => ownsRow_setCell_other (hR.1 t (by omega)) (ne_block (hR.1 t (by omega)) hRr (by decide)) _, fun t t' ht ht' => hR.2 t t' (by omega) (by omega)⟩
   have g9 := grownBy_set wr w.heap.size 0 (.slice aV 3 capV)
   have hb9 : Went p w (wr.setCell ⟨w.heap.size, 0, none⟩ (.slice aV 3 capV)) := hWt.grown g9 (fun k e => by cases e; exact Nat.le_refl _)
   have k3 : (wr.setCell ⟨w.heap.size, 0, none⟩ (.slice aV 3 capV)).cell? ⟨w.heap.size, 0, none⟩ = some (.slice aV 3 capV) := World.cell?_setCell_same' _ _ _ (by rw [kR]; rfl)
   clear hRr hR hV hX hS hC hWt g9 hp3 hok
   go_wp2
   clear kR fR hcX
   generalize wr.setCell ⟨w.heap.size, 0, none⟩ (.slice aV 3 capV) = w9 at hb9 k3 hOP
   refine bodyPost_ret (by simp [results, Tryz.results56, go_sem, k3]; try rfl) rfl ?_
   exact ⟨⟨_, done, HP.out, rfl, hOP⟩, hb9⟩
theorem programQ_any (p : Nat) (a : Option Addr) (n cap : Nat) (w : World) (hS : Src w p (.slice a n cap) 0) (hC : Code w p a n cap) :
  Calls Tryz.prog 56 #[.pointer (some ⟨p, 0, none⟩)] w fun e w' => (∃ (v : Value) (rows : List (List I3)), ProgS rows ∧ e = .returned (.agg #[v]) ∧ OwnProg w' w.heap.size v rows) ∧ Below p w w' := by
 refine (programQ_went p a n cap w hS hC).mono ?_
 rintro e w' ⟨h, hw⟩
 exact ⟨h, hw.below (Nat.le_of_lt hS.lt)⟩

set_option maxHeartbeats 2000000 in
theorem programDrawnQ_any (a : Option Addr) (n cap : Nat) (zs : List Int) (w : World) (hI : IsRow .u8 w a n cap zs) (hn : n ≤ 1048576) :
  Calls Tryz.prog 22 #[.slice a n cap] w fun e w' => (∃ (v : Value) (rows : List (List I3)), ProgS rows ∧ e = .returned (.agg #[v]) ∧ OwnProg w' w.heap.size v rows) ∧ Below w.heap.size w w' := by
 have hCo := code_of hI hn
 have hb0 : Below w.heap.size w (w.alloc (.cells #[.slice none 0 0] 25)) := by go_grown
 have hRr := box_n w (.slice none 0 0) 25 w.heap.size (Nat.le_refl _)
 go_enter Tryz.func22, Tryz.ntmps22
 go_wp2_with fail
 refine (l00Source_any a n cap _ hn).mono ?_
 rintro e w1 ⟨rfl, hS, hb1⟩
 simp only [World.size_alloc] at hS
 try simp only [World.size_alloc]
 have hRr1 := owns_below hRr hb1
 have b1 : Below w.heap.size w w1 := bel_trans hb0 hb1
 have hC1 : Code w1 (w.heap.size + 1) a n cap := by
  obtain ⟨zs', q1, q2, q3, q4⟩ := hCo
  exact ⟨zs', q1.below b1, q2, q3, fun x hx h0 => by have := q4 x hx h0; omega⟩
 have hpw : w.heap.size + 1 < w1.heap.size := hS.lt
 clear hb1 hb0 hRr hCo
 have hpw' : w.heap.size < w.heap.size + 1 := by omega
 generalize w.heap.size + 1 = p at hS hC1 hpw hpw'
 go_wp2_with fail
 refine (programQ_any p a n cap _ hS hC1).mono ?_
 rintro e w2 ⟨⟨v, rows, hok, rfl, hOP⟩, hb2⟩
 obtain ⟨aV, capV, hv⟩ := hOP.slice
 generalize rows.length = lr at hv
 subst hv
 have HP : Hid (ProgS rows) := hok
 have hRr2 := owns_belowp hRr1 hb2 (fun x e => by cases e; omega)
 have b2 : Below w.heap.size w w2 := b1.trans (hb2.mono (by omega))
 have kR : w2.cell? ⟨w.heap.size, 0, none⟩ = some (.slice none 0 0) := by simpa using hRr2.cellAt 0 (by omega)
 have fR := hRr2.frozenAt 0
 have hOP3 := (hOP.low (p := ⟨w.heap.size, 0, none⟩) (show w.heap.size < w1.heap.size by omega) (.slice aV lr capV)).lower (B' := w.heap.size) (by omega)
 have b3 : Below w.heap.size w (w2.setCell ⟨w.heap.size, 0, none⟩ (.slice aV lr capV)) := b2.setCell (Nat.le_refl _) _
 have k3 : (w2.setCell ⟨w.heap.size, 0, none⟩ (.slice aV lr capV)).cell? ⟨w.heap.size, 0, none⟩ = some (.slice aV lr capV) := World.cell?_setCell_same' _ _ _ (by rw [kR]; rfl)
 clear hok hOP hRr1 hRr2 b1 b2 hb2 hS hC1
 go_wp2
 clear kR fR
 generalize w2.setCell ⟨w.heap.size, 0, none⟩ (.slice aV lr capV) = w9 at hOP3 b3 k3
 refine bodyPost_ret (by simp [results, Tryz.results22, go_sem, k3]; try rfl) rfl ?_
 exact ⟨⟨_, rows, HP.out, rfl, hOP3⟩, b3⟩


def hasB : List I3 → I3 → Bool
 | [], _ => false
 | y :: l, x => decide (y = x) || hasB l x
theorem hasB_iff {x : I3} : ∀ {l : List I3}, hasB l x = true ↔ x ∈ l
 | [] => by simp [hasB]
 | y :: l => by
  have h := hasB_iff (x := x) (l := l)
  show (decide (y = x) || hasB l x) = true ↔ _
  rw [Bool.or_eq_true, h, List.mem_cons, decide_eq_true_iff]
  exact or_congr ⟨Eq.symm, Eq.symm⟩ Iff.rfl
theorem hasB_step {xs : List I3} {k : Nat} (hk : k < xs.length) (y : I3) : hasB (xs.drop k) y = (decide (xs.getD k (0, 0, 0) = y) || hasB (xs.drop (k + 1)) y) := by
 rw [List.drop_eq_getElem_cons hk]
 simp [hasB, List.getD, List.getElem?_eq_getElem hk]

set_option maxHeartbeats 4000000 in
theorem hasBug_is (a : Option Addr) (n cap : Nat) (xs : List I3) (y : I3) (w : World) (h : Instrs w a n cap xs) (hn : n ≤ 1000000) :
  Calls Tryz.prog 20 #[.slice a n cap, y.val] w fun e w' => e = .returned (.bool (hasB xs y)) ∧ Below w.heap.size w w' := by
 have hl := h.1
 obtain ⟨r, hr⟩ : ∃ r, r = hasB xs y := ⟨_, rfl⟩
 rw [← hr]
 have HR : Hid (r = hasB (xs.drop 0) y) := by rw [Hid]; simpa using hr
 clear hr
 obtain ⟨y0, y1, y2⟩ := y
 unfold I3.val
 simp only
 have bw0 : Below w.heap.size w (w.alloc (.cells #[.int .i64 y0, .int .i64 y1, .int .i64 y2] 53)) := by go_grown
 have c0 : (w.alloc (.cells #[.int .i64 y0, .int .i64 y1, .int .i64 y2] 53)).cell? ⟨w.heap.size, 0, none⟩ = some (.int .i64 y0) := by simp [go_sem]
 have c1 : (w.alloc (.cells #[.int .i64 y0, .int .i64 y1, .int .i64 y2] 53)).cell? ⟨w.heap.size, 1, none⟩ = some (.int .i64 y1) := by simp [go_sem]
 have c2 : (w.alloc (.cells #[.int .i64 y0, .int .i64 y1, .int .i64 y2] 53)).cell? ⟨w.heap.size, 2, none⟩ = some (.int .i64 y2) := by simp [go_sem]
 go_enter Tryz.func20, Tryz.ntmps20
 go_wp2_with fail
 generalize w.alloc (.cells #[.int .i64 y0, .int .i64 y1, .int .i64 y2] 53) = W0 at *
 go_loopw [5] (fun si wr => ∃ k : Nat, k ≤ n ∧ si = .int .i64 k ∧ Hid (r = hasB (xs.drop k) (y0, y1, y2)) ∧ Below w.heap.size w wr ∧ wr.cell? ⟨w.heap.size, 0, none⟩ = some (.int .i64 y0) ∧ wr.cell? ⟨w.heap.size, 1, none⟩ = some (.int .i64 y1) ∧ wr.cell? ⟨w.heap.size, 2, none⟩ = some (.int .i64 y2)) (fun si _ => n - (intOf si).toNat)
 case atStart => exact ⟨0, by omega, rfl, HR, bw0, c0, c1, c2⟩
 case round =>
  clear HR bw0 c0 c1 c2
  obtain ⟨k, hk, rfl, HR, bw, c0, c1, c2⟩ := hrel
  by_cases hlt : k < n
  ·obtain ⟨_, _, _, _, hcase⟩ := h.below bw
   rcases hcase with e0 | ⟨b, off, rfl, hb, hc⟩
   ·omega
   obtain ⟨d0, d1, d2⟩ := hc k hlt
   clear hc hb
   have hst := hasB_step (xs := xs) (k := k) (by omega) (y0, y1, y2)
   generalize xs.getD k (0, 0, 0) = x at d0 d1 d2 hst
   have HS : Hid (hasB (xs.drop k) (y0, y1, y2) = (decide (x = (y0, y1, y2)) || hasB (xs.drop (k + 1)) (y0, y1, y2))) := hst
   clear hst
   have hlt' : (k : Int) < (n : Int) := by omega
   have hk0 : (0 : Int) ≤ (k : Int) := by omega
   obtain ⟨x0, x1, x2⟩ := x
   simp only at d0 d1 d2
   by_cases hE : (x0, x1, x2) = (y0, y1, y2)
   ·cases hE
    have HF : Hid (r = true) := by rw [Hid, HR.out, HS.out]; simp
    clear HS HR
    have q0 : (y0 == y0) = true := by simp
    have q1 : (y1 == y1) = true := by simp
    have q2 : (y2 == y2) = true := by simp
    go_wp2_with fail
    go_quiet (fail)
    have bwd := below_drewN bw nq
    generalize wr.drewN nq = U at *
    clear d0 d1 d2 c0 c1 c2 bw q0 q1 q2
    go_wp2
    go_ret
    exact ⟨by rw [HF.out]; rfl, bwd⟩
   ·have HF : Hid (r = hasB (xs.drop (k + 1)) (y0, y1, y2)) := by rw [Hid, HR.out, HS.out]; simp only [hE, decide_false, Bool.false_or]
    clear HS HR
    have h3 : x0 ≠ y0 ∨ (x0 = y0 ∧ x1 ≠ y1) ∨ (x0 = y0 ∧ x1 = y1 ∧ x2 ≠ y2) := by
     by_cases q0 : x0 = y0
     ·by_cases q1 : x1 = y1
      ·refine .inr (.inr ⟨q0, q1, fun q2 => hE ?_⟩)
       rw [q0, q1, q2]
      ·exact .inr (.inl ⟨q0, q1⟩)
     ·exact .inl q0
    clear hE
    go_wp2_with fail
    rcases h3 with t0 | ⟨rfl, t1⟩ | ⟨rfl, rfl, t2⟩
    ·have t0' : (x0 == y0) = false := by simp [t0]
     go_quiet (fail)
     have bwd := below_drewN bw nq
     replace c0 : (wr.drewN nq).cell? ⟨w.heap.size, 0, none⟩ = some (.int .i64 y0) := c0
     replace c1 : (wr.drewN nq).cell? ⟨w.heap.size, 1, none⟩ = some (.int .i64 y1) := c1
     replace c2 : (wr.drewN nq).cell? ⟨w.heap.size, 2, none⟩ = some (.int .i64 y2) := c2
     generalize wr.drewN nq = U at *
     clear d0 d1 d2 bw t0 t0'
     go_wp2
     go_roundw
     case rel => exact ⟨k + 1, by omega, by go_num, HF, bwd, c0, c1, c2⟩
     case measure => simp [intOf]; omega
    ·have q0 : (x0 == x0) = true := by simp
     have t1' : (x1 == y1) = false := by simp [t1]
     go_quiet (fail)
     have bwd := below_drewN bw nq
     replace c0 : (wr.drewN nq).cell? ⟨w.heap.size, 0, none⟩ = some (.int .i64 x0) := c0
     replace c1 : (wr.drewN nq).cell? ⟨w.heap.size, 1, none⟩ = some (.int .i64 y1) := c1
     replace c2 : (wr.drewN nq).cell? ⟨w.heap.size, 2, none⟩ = some (.int .i64 y2) := c2
     generalize wr.drewN nq = U at *
     clear d0 d1 d2 bw q0 t1 t1'
     go_wp2
     go_roundw
     case rel => exact ⟨k + 1, by omega, by go_num, HF, bwd, c0, c1, c2⟩
     case measure => simp [intOf]; omega
    ·have q0 : (x0 == x0) = true := by simp
     have q1 : (x1 == x1) = true := by simp
     have t2' : (x2 == y2) = false := by simp [t2]
     go_quiet (fail)
     have bwd := below_drewN bw nq
     replace c0 : (wr.drewN nq).cell? ⟨w.heap.size, 0, none⟩ = some (.int .i64 x0) := c0
     replace c1 : (wr.drewN nq).cell? ⟨w.heap.size, 1, none⟩ = some (.int .i64 x1) := c1
     replace c2 : (wr.drewN nq).cell? ⟨w.heap.size, 2, none⟩ = some (.int .i64 y2) := c2
     generalize wr.drewN nq = U at *
     clear d0 d1 d2 bw q0 q1 t2 t2'
     go_wp2
     go_roundw
     case rel => exact ⟨k + 1, by omega, by go_num, HF, bwd, c0, c1, c2⟩
     case measure => simp [intOf]; omega
  ·obtain rfl : k = n := by omega
   have HF : Hid (r = false) := by rw [Hid, HR.out, List.drop_of_length_le (by omega)]; rfl
   clear HR c0 c1 c2
   go_wp2
   go_ret
   exact ⟨by rw [HF.out]; rfl, bw⟩


theorem small_code {rows : List (List I3)} (h : ProgS rows) : codeF rows = 0 := by
 have := small_room h.1 h.2.1 h.2.2.1 h.2.2.2
 unfold codeF
 rw [if_pos h.1, if_pos (by omega)]
theorem halt_enab6 {rows : List (List I3)} {m : V4} {k : Int} (h : haltM rows m k = 0) : k ∈ enabM rows m 3 := by
 obtain ⟨j, hj, e⟩ := List.mem_map.1 (nxM_of h)
 have : j = k := congrArg Prod.fst e
 exact this ▸ hj
theorem run_bugs6 {rows : List (List I3)} (h : (fullS rows).length ≤ 2000) {x : I3} : ∀ (ks : List Int) (m : V4) (fs : List I3), m ∈ (fullS rows).map (·.1) → (runI rows m fs ks).2.2 = 0 → x ∈ (runI rows m fs ks).2.1 → x ∈ fs ∨ x ∈ allI rows (fullS rows)
 | [], m, fs, _, _, hx => .inl hx
 | k :: ks, m, fs, hm, hz, hx => by
  obtain ⟨hh, he⟩ := runI_cons hz
  rw [he] at hz hx
  obtain ⟨r, hr, rfl⟩ := List.mem_map.1 hm
  rcases run_bugs6 h ks _ _ (fullS_closed h r hr _ (nxM_of hh)) hz hx with hx | hx
  ·rcases List.mem_append.1 hx with hx | hx
   ·exact .inl hx
   ·exact .inr (mem_allI.2 ⟨r, hr, mem_bugsI.2 (.inr ⟨k, halt_enab6 hh, hx⟩)⟩)
  ·exact .inr hx
theorem zero_in6 (rows : List (List I3)) : zeroV ∈ (fullS rows).map (·.1) := List.mem_map.2 ⟨_, List.mem_of_getElem? (fullS_head rows), rfl⟩
theorem wit_all6 {rows : List (List I3)} {ks : List Int} {y : I3} (hf : (fullS rows).length ≤ 2000) (h : witV rows ks y = true) : y ∈ allI rows (fullS rows) := by
 unfold witV at h
 split at h
 ·simp at h
 ·rename_i h4
  split at h
  ·rename_i hp
   simp only [Bool.and_eq_true] at hp
   rw [Bool.and_eq_true, decide_eq_true_iff] at h
   obtain ⟨hc, hw⟩ := h
   have hx := hasW_iff.1 hw
   unfold runC at hc
   rw [if_neg h4, if_pos hp.1] at hc
   unfold runF at hx
   rw [if_neg h4, if_pos hp.1] at hx
   rcases mem_mergeB.1 hx with hx | hx
   ·rcases run_bugs6 hf ks zeroV [] (zero_in6 rows) hc hx with hx | hx
    ·simp at hx
    ·exact hx
   ·obtain ⟨r, hr, e⟩ := List.mem_map.1 (fullS_runs hf ks zeroV [] (zero_in6 rows) hc)
    exact mem_allI.2 ⟨r, hr, mem_bugsI.2 (.inl (by rw [e]; exact hx))⟩
  ·simp at h
theorem witF_of {S : List (Rec6 V4)} {hit : V4 → Option (List Int)} {ks : List Int} : ∀ (rs : List (Rec6 V4)) (i : Nat), rs = S.drop i → witF S hit i rs = some ks → ∃ j r t, S[j]? = some r ∧ hit r.1 = some t ∧ ks = pathS S j j ++ t
 | [], i, _, h => by simp [witF] at h
 | r :: rs, i, hd, h => by
  have hr : S[i]? = some r := by
   have := congrArg (·[0]?) hd
   simp at this
   exact this.symm
  have hd2 : rs = S.drop (i + 1) := by
   have := congrArg List.tail hd
   simpa using this
  have h2 : (match hit r.1 with | some t => some (pathS S i i ++ t) | none => witF S hit (i + 1) rs) = some ks := h
  cases e : hit r.1 with
  | some t =>
   rw [e] at h2
   simp at h2
   exact ⟨i, r, t, hr, e, h2.symm⟩
  | none =>
   rw [e] at h2
   exact witF_of rs (i + 1) hd2 h2
theorem witF_some6 {S : List (Rec6 V4)} {hit : V4 → Option (List Int)} : ∀ (rs : List (Rec6 V4)) (i : Nat), (witF S hit i rs).isSome = true ↔ ∃ r ∈ rs, (hit r.1).isSome = true
 | [], i => by simp [witF]
 | r :: rs, i => by
  have h2 : witF S hit i (r :: rs) = (match hit r.1 with | some t => some (pathS S i i ++ t) | none => witF S hit (i + 1) rs) := rfl
  rw [h2]
  have ih := witF_some6 (S := S) (hit := hit) rs (i + 1)
  cases e : hit r.1 with
  | some t => simp [e]
  | none => simp only [ih]; simp [e]
theorem witO_some {rows : List (List I3)} {b : I3} : (witO rows b).isSome = true ↔ b ∈ allI rows (fullS rows) := by
 unfold witO
 rw [witF_some6, mem_allI]
 constructor
 ·rintro ⟨r, hr, h⟩
  refine ⟨r, hr, ?_⟩
  unfold hitI at h
  split at h
  ·assumption
  ·simp at h
 ·rintro ⟨r, hr, h⟩
  refine ⟨r, hr, ?_⟩
  unfold hitI
  rw [if_pos h]
  rfl
theorem witO_wit {rows : List (List I3)} {b : I3} {ks : List Int} (hp : progOk rows = true) (hf : (fullS rows).length ≤ 2000) (hb : okB b = true) (h : witO rows b = some ks) : witV rows ks b = true ∧ witC rows ks b = 0 := by
 obtain ⟨j, r, t, hr, ht, rfl⟩ := witF_of (fullS rows) 0 (by simp) h
 have hj := (List.getElem?_eq_some_iff.1 hr).1
 obtain ⟨p1, p2, p3⟩ := path_run (fullS_came rows) (fullS_head rows) j j r (Nat.le_refl _) hr
 unfold hitI at ht
 split at ht
 ·rename_i hx
  simp only [Option.some.injEq] at ht
  have hrun : (pathS (fullS rows) j j ++ t).length ≤ 4096 ∧ (runI rows zeroV [] (pathS (fullS rows) j j ++ t)).2.2 = 0 ∧ b ∈ mergeB (runI rows zeroV [] (pathS (fullS rows) j j ++ t)).2.1 (deadM rows (runI rows zeroV [] (pathS (fullS rows) j j ++ t)).1) := by
   rcases mem_bugsI.1 hx with hd | ⟨k, hk, hd⟩
   ·have e := (dead_kind hd).1
    rw [if_pos (by rw [e])] at ht
    subst ht
    rw [List.append_nil]
    exact ⟨by omega, p2, mem_mergeB.2 (.inr (by rw [p1]; exact hd))⟩
   ·obtain ⟨e1, e2⟩ := own_kind hd
    rw [if_neg (by rcases e2 with e | e <;> rw [e] <;> decide)] at ht
    subst ht
    rw [e1]
    have hh := enab_halt hk
    have e := runI_snoc rows k (pathS (fullS rows) j j) zeroV [] p2
    rw [p1] at e
    have e2 : runI rows r.1 (runI rows zeroV [] (pathS (fullS rows) j j)).2.1 [k] = ((goM rows r.1 k).1, (runI rows zeroV [] (pathS (fullS rows) j j)).2.1 ++ ownM rows r.1 k, 0) := by
     show (if haltM rows r.1 k = 0 then _ else _) = _
     rw [if_pos hh]
     rfl
    rw [e2] at e
    rw [e]
    refine ⟨by simp; omega, rfl, mem_mergeB.2 (.inl (List.mem_append.2 (.inr hd)))⟩
  obtain ⟨r1, r2, r3⟩ := hrun
  unfold witV witC runC runF
  simp only [hp, hb, Bool.and_self, if_true, if_neg (show ¬ 4096 < (pathS (fullS rows) j j ++ t).length by omega), r2, decide_true, Bool.true_and]
  exact ⟨hasW_iff.2 r3, trivial⟩
 ·simp at ht
theorem found_law {rows : List (List I3)} {b : I3} (h : ProgS rows) (hb : b ∈ allI rows (fullS rows)) : wofC rows b = 0 ∧ witV rows (wofL rows b) b = true ∧ witC rows (wofL rows b) b = 0 := by
 have hc := small_code h
 obtain ⟨hp, hf⟩ := code_parts hc
 have hok := allI_ok hp (fullS_shaped hp) b hb
 obtain ⟨ks, hk⟩ := Option.isSome_iff_exists.1 (witO_some.2 hb)
 obtain ⟨h1, h2⟩ := witO_wit hp hf hok hk
 unfold wofC wofL wofK
 simp only [hok, hc, hk, if_true, Option.isSome_some, Option.getD_some, and_self]
 exact ⟨trivial, h1, h2⟩
theorem other_law {rows : List (List I3)} {b : I3} (h : ProgS rows) (hok : okB b = true) : wofC rows b = (if hasB (allI rows (fullS rows)) b then 0 else 5) ∧ ∀ ks, ks.length ≤ 4096 → witC rows ks b = 0 ∧ (witV rows ks b = true → hasB (allI rows (fullS rows)) b = true) := by
 have hc := small_code h
 obtain ⟨hp, hf⟩ := code_parts hc
 refine ⟨?_, fun ks hk => ⟨?_, fun hv => hasB_iff.2 (wit_all6 hf hv)⟩⟩
 ·unfold wofC wofK
  rw [if_pos hok, if_pos hc]
  cases hh : hasB (allI rows (fullS rows)) b
  ·rw [if_neg (fun hs => by rw [hasB_iff.2 (witO_some.1 hs)] at hh; cases hh)]; rfl
  ·rw [if_pos (witO_some.2 (hasB_iff.1 hh))]; rfl
 ·unfold witC
  rw [if_neg (by omega), hp, hok]
  rfl


theorem own_one6 (W : World) (e B : Nat) (v : Value) (hB : B ≤ W.heap.size) : (W.alloc (.cells #[v] e)).ownsRow B e 1 (.slice (some ⟨W.heap.size, 0, none⟩) 1 1) 1 [v] := World.ownsRow_lit W #[v] 1 hB (by unfold maxLen; omega) (by simp)
theorem ints_cell6 {w : World} {lb lo n c : Nat} {ks : List Int} (h : Ints .i64 w (some ⟨lb, lo, none⟩) n c ks) {j : Nat} (hj : j < n) : w.cell? ⟨lb, lo + j, none⟩ = some (.int .i64 (ks.getD j 0)) := by
 obtain ⟨h1, h2, h3, h4⟩ := h
 rcases h4 with h4 | ⟨b, off, ha, hl, hc⟩
 ·omega
 ·cases ha
  have := hc j hj
  first | exact this | (simp; done) | simpa using this
theorem own_news6 {w : World} {B g n c : Nat} {ks : List Int} (h : w.ownsRow B 3 1 (.slice (some ⟨g, 0, none⟩) n c) n (ks.map (Value.int .i64))) : ∀ j u, (ks.map (Value.int .i64))[j]? = some u → w.cell? ((⟨g, 0, none⟩ : Addr).add j) = some u := by
 intro j u hj
 obtain ⟨hj1, e⟩ := List.getElem?_eq_some_iff.1 hj
 have hl : ks.length = n := by have := h.1; simpa using this
 have hjn : j < n := by simp at hj1; omega
 have hc := ints_cell6 (Ints.of_owns h) hjn
 rw [Addr.add_mid, hc, ← e]
 simp [List.getD, List.getElem?_eq_getElem (show j < ks.length by omega)]

theorem l06Path_is (b1 o1 b2 o2 n c1 c2 : Nat) (fs bs : List Int) (i : Nat) (w : World) (h1 : Ints .i64 w (some ⟨b1, o1, none⟩) n c1 fs) (h2 : Ints .i64 w (some ⟨b2, o2, none⟩) n c2 bs) (hB : Back fs) (hi : i < n) (hn : n ≤ 1000000) :
  Calls Tryz.prog 64 #[.slice (some ⟨b1, o1, none⟩) n c1, .slice (some ⟨b2, o2, none⟩) n c2, .int .i64 i] w fun e w' => (∃ g c, e = .returned (.slice (some ⟨g, 0, none⟩) (pathL fs bs i i).length c) ∧ w'.ownsRow w.heap.size 3 1 (.slice (some ⟨g, 0, none⟩) (pathL fs bs i i).length c) (pathL fs bs i i).length ((pathL fs bs i i).map (Value.int .i64))) ∧ Below w.heap.size w w' := by
 obtain ⟨i0, hi0, hz0, hz1, hz2⟩ := info_parts info_int
 have hl1 : fs.length = n := h1.1
 obtain ⟨fin, hfin⟩ : ∃ fin, fin = pathL fs bs i i := ⟨_, rfl⟩
 rw [← hfin]
 have HF : Hid (fin = pathL fs bs i i ++ []) := by rw [List.append_nil]; exact hfin
 have HB : Hid (Back fs) := hB
 have HL : Hid (fs.length = n) := hl1
 have bw : Below w.heap.size w (w.alloc (.cells #[] 3)) := by go_grown
 have q := own_emptyB w 3 1 w.heap.size (Nat.le_refl _)
 clear hfin hB hl1
 go_enter Tryz.func64, Tryz.ntmps64
 go_wp2_with fail
 go_loopw [2, 7] (fun s2 s7 wr => ∃ (j g c : Nat) (ks : List Int), s2 = .int .i64 j ∧ s7 = .slice (some ⟨g, 0, none⟩) ks.length c ∧ j + ks.length < n ∧ wr.ownsRow w.heap.size 3 1 (.slice (some ⟨g, 0, none⟩) ks.length c) ks.length (ks.map (Value.int .i64)) ∧ Hid (fin = pathL fs bs j j ++ ks) ∧ Below w.heap.size w wr) (fun s2 _ _ => (intOf s2).toNat)
 case atStart => exact ⟨i, w.heap.size, 0, [], rfl, rfl, by simpa using hi, q, HF, bw⟩
 case round =>
  clear HF bw q
  obtain ⟨j, g, c, ks, rfl, rfl, hj, q, HF, bw⟩ := hrel
  have h1w := h1.below bw
  have h2w := h2.below bw
  by_cases h0 : 0 < j
  ·have h0' : (0 : Int) < (j : Int) := by omega
   have h0n : (0 : Int) ≤ (j : Int) := by omega
   have hjn : j < n := by omega
   have hjn' : (j : Int) < (n : Int) := by omega
   have c2 := ints_cell6 h2w hjn
   have hst := pathL_step (bs := bs) HB.out h0 (by rw [HL.out]; omega)
   have hbk := HB.out j h0 (by rw [HL.out]; omega)
   obtain ⟨f, hf⟩ : ∃ f : Nat, fs.getD j 0 = (f : Int) := ⟨(fs.getD j 0).toNat, by omega⟩
   have hfj : f < j := by omega
   have HS : Hid (pathL fs bs j j = pathL fs bs f f ++ [bs.getD j 0]) := by rw [hf] at hst; exact hst
   clear hst hbk
   obtain ⟨x, hx⟩ : ∃ x, x = bs.getD j 0 := ⟨_, rfl⟩
   rw [← hx] at c2 HS
   clear hx
   have hbs := bw.size
   have q1 := own_one6 wr 3 w.heap.size (.int .i64 x) hbs
   have hne := own_news6 (q.alloc (.cells #[.int .i64 x] 3))
   have ba : Below w.heap.size w (wr.alloc (.cells #[.int .i64 x] 3)) := bw.trans (by go_grown)
   go_wp2_with (at_builtin; refine wpList_append_own _ rfl _ _ 31 rfl w.heap.size 3 i0 (.int .i64 0) 1 8 Tryz.underlying31 hi0 hz0 hz1 hz2 rfl (by decide) _ _ _ rfl q1 ⟨g, 0, none⟩ ks.length c (ks.map (Value.int .i64)) rfl (by simp) hne (by intro u hu; obtain ⟨x, _, rfl⟩ := List.mem_map.1 hu; rfl) ?c3 ?c4 ?c5 ?_)
   case c3 => unfold maxLen; omega
   case c4 => omega
   case c5 => exact ba.size
   intro v' wn hown' hgrow hx9
   clear hx9
   have R : wn.ownsRow w.heap.size 3 1 v' (x :: ks).length ((x :: ks).map (Value.int .i64)) := by
    rw [List.length_cons, Nat.add_comm]
    simpa using hown'
   have bn : Below w.heap.size w wn := ba.grown hgrow ba.size (fun k e => (q1.lt k e).1)
   obtain ⟨g2, c2', rfl⟩ : ∃ g2 c2', v' = .slice (some ⟨g2, 0, none⟩) (x :: ks).length c2' := by
    rcases R.2 with ⟨_, h9⟩ | ⟨g9, c9, _, h9, _⟩
    ·simp at h9
    ·exact ⟨g9, c9, h9⟩
   have c1' := ints_cell6 (h1.below bn) hjn
   rw [hf] at c1'
   have HE : Hid (fin = pathL fs bs f f ++ (x :: ks)) := by rw [Hid, HF.out, HS.out]; simp
   clear hown' hgrow q1 q hne ba bw HF HS c2 h1w h2w hf hbs
   have hlen : f + (x :: ks).length < n := by simp; omega
   generalize hks : x :: ks = ks2 at *
   clear hks
   go_wp2
   go_roundw
   case rel => exact ⟨f, g2, c2', ks2, rfl, rfl, hlen, R, HE, bn⟩
   case measure => simp [intOf]; omega
  ·obtain rfl : j = 0 := by omega
   have HE : fin = ks := by rw [HF.out]; simp [pathL]
   clear HF
   subst HE
   have HR : Hid (wr.ownsRow w.heap.size 3 1 (.slice (some ⟨g, 0, none⟩) fin.length c) fin.length (fin.map (Value.int .i64))) := q
   clear q
   go_wp2
   go_ret
   exact ⟨⟨g, c, rfl, HR.out⟩, bw⟩
end Go.Proofs.YtcdpcfnlflpjnaaGreatDoor
