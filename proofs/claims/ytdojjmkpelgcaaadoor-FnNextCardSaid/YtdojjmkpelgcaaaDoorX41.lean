/-
  Joined: DelI.
-/
import Derived.Laws.CopyOwn
import Derived.Laws.Tables
import Derived.Test.YtdojjmkpelgcaaaDoorX10
import Derived.Test.YtdojjmkpelgcaaaDoorX40

namespace Go.Proofs.YtdojjmkpelgcaaaDoor
set_option maxRecDepth 100000
open Go.RowKit
set_option linter.unusedVariables false
set_option linter.unusedSimpArgs false

def Asks7 (F : Nat) (lb : Array Value) (p : Int → Bool) (w : World) (g : Nat) (Z : List Int) : Prop := ∀ W, w.grownBy W (some g) → ∀ j ∈ Z, Calls Tryd.prog F (#[.int .i64 j] ++ lb) W fun e W' => e = .returned (.bool (p j)) ∧ Below W.heap.size W W'
def Idx7 (e : Ending) (p : Int → Bool) (Z : List Int) : Prop := ∃ r : Int, e = .returned (.int .i64 r) ∧ ((r = -1 ∧ Z.filter (fun z => !p z) = Z) ∨ ∃ k : Nat, r = k ∧ k < Z.length ∧ (Z.take (k + 1)).filter (fun z => !p z) = Z.take k)
theorem grown_belowX {w W W' : World} {g : Nat} (h : w.grownBy W (some g)) (hb : Below W.heap.size W W') : w.grownBy W' (some g) :=
 ⟨hb.os.trans h.os, hb.tape.trans h.tape, hb.output.trans h.output, Nat.le_trans h.size hb.size, fun i hi hr => (hb.block i (Nat.lt_of_lt_of_le hi h.size)).trans (h.block i hi hr)⟩
theorem take_snoc7 {Z : List Int} {k : Nat} (h : k < Z.length) : Z.take (k + 1) = Z.take k ++ [Z.getD k 0] := by
 rw [List.take_succ_eq_append_getElem h]; simp [List.getD, h]

set_option maxHeartbeats 1000000 in
theorem indexFunc_is (F : Nat) (lb : Array Value) (p : Int → Bool) (eg : ∀ args w, (callFunc F args).run Tryd.prog w = .ok (.enter F args) w) (B g n cap : Nat) (Z : List Int) (w : World)
  (hq : w.ownsRow B 3 1 (.slice (some ⟨g, 0, none⟩) n cap) n (Z.map (Value.int .i64))) (hl : Z.length = n) (hn : n ≤ 1000000) (hf : Asks7 F lb p w g Z) :
  Calls Tryd.prog 80 #[.slice (some ⟨g, 0, none⟩) n cap, .func (.func F) #[] lb] w fun e w' => Idx7 e p Z ∧ Below w.heap.size w w' := by
 have HF0 : Hid ((Z.take 0).filter (fun z => !p z) = Z.take 0) := by rw [Hid]; simp
 have HI := Ints.of_owns hq
 clear hq
 go_enter Tryd.func80, Tryd.ntmps80
 go_wp2_with fail
 go_loopw [8] (fun si wr => ∃ k : Nat, k ≤ n ∧ si = .int .i64 k ∧ Hid ((Z.take k).filter (fun z => !p z) = Z.take k) ∧ Below w.heap.size w wr) (fun si _ => n - (intOf si).toNat)
 case atStart => exact ⟨0, by omega, rfl, HF0, Below.refl _ _⟩
 case round =>
  clear HF0
  obtain ⟨k, hk, rfl, HF, bw⟩ := hrel
  by_cases hlt : k < n
  ·have hz : Z.getD k 0 ∈ Z := by simp [List.getD, show k < Z.length by omega]
   have kF := hf wr ⟨bw.os, bw.tape, bw.output, bw.size, fun i hi _ => bw.block i hi⟩ (Z.getD k 0) hz
   have ht := take_snoc7 (Z := Z) (k := k) (by omega)
   obtain ⟨_, _, _, hcase⟩ := HI.below bw
   rcases hcase with e0 | ⟨b, off, hb9, hb, hc⟩
   ·omega
   cases hb9
   have d0 := hc k hlt
   clear hc hb hz
   generalize Z.getD k 0 = x at d0 kF ht
   have HT : Hid (Z.take (k + 1) = Z.take k ++ [x]) := ht
   clear ht
   have hlt' : (k : Int) < (n : Int) := by omega
   have hk0 : (0 : Int) ≤ (k : Int) := by omega
   have hkl : k < Z.length := by omega
   rw [Nat.zero_add] at d0
   cases hp : p x with
   | true =>
    have HG : Hid ((Z.take (k + 1)).filter (fun z => !p z) = Z.take k) := by rw [Hid, HT.out, List.filter_append, HF.out]; simp [hp]
    rw [hp] at kF
    clear HF HT hp
    go_wp2_with (go_at_fn F; refine kF.mono ?_; rintro e w2 ⟨rfl, hb2⟩)
    go_ret
    exact ⟨⟨k, rfl, .inr ⟨k, rfl, hkl, HG.out⟩⟩, bel_trans bw hb2⟩
   | false =>
    have HG : Hid ((Z.take (k + 1)).filter (fun z => !p z) = Z.take (k + 1)) := by rw [Hid, HT.out, List.filter_append, HF.out]; simp [hp]
    rw [hp] at kF
    clear HF HT hp
    go_wp2_with (go_at_fn F; refine kF.mono ?_; rintro e w2 ⟨rfl, hb2⟩)
    go_roundw
    case rel => exact ⟨k + 1, by omega, by go_num, HG, bel_trans bw hb2⟩
    case measure => simp [intOf]; omega
  ·obtain rfl : k = n := by omega
   have HG : Hid (Z.filter (fun z => !p z) = Z) := by
    have := HF.out
    rw [List.take_of_length_le (by omega)] at this
    exact this
   clear HF
   go_wp2
   go_ret
   exact ⟨⟨-1, rfl, .inl ⟨rfl, HG.out⟩⟩, bw⟩

def Del7 (e : Ending) (w w' : World) (B g cap : Nat) (zs : List Int) : Prop := e = .returned (.slice (some ⟨g, 0, none⟩) zs.length cap) ∧ w'.ownsRow B 3 1 (.slice (some ⟨g, 0, none⟩) zs.length cap) zs.length (zs.map (Value.int .i64)) ∧ w.grownBy w' (some g)

set_option maxHeartbeats 2000000 in
theorem deleteFunc_is (F : Nat) (lb : Array Value) (p : Int → Bool) (eg : ∀ args w, (callFunc F args).run Tryd.prog w = .ok (.enter F args) w) (B g n cap : Nat) (Z : List Int) (w : World)
  (hq : w.ownsRow B 3 1 (.slice (some ⟨g, 0, none⟩) n cap) n (Z.map (Value.int .i64))) (hl : Z.length = n) (hn : n ≤ 1000000) (hf : Asks7 F lb p w g Z) :
  Calls Tryd.prog 82 #[.slice (some ⟨g, 0, none⟩) n cap, .func (.func F) #[] lb] w fun e w' => Del7 e w w' B g cap (Z.filter (fun z => !p z)) := by
 have hcap : n ≤ cap ∧ cap ≤ maxLen := by
  rcases hq.2 with ⟨hv, _⟩ | ⟨g', cap', cur, hv, hB, hg, hn, hc, hsz, ht⟩
  ·cases hv
  ·cases hv
   exact ⟨hn, hc⟩
 unfold maxLen at hcap
 have kI := indexFunc_is F lb p eg B g n cap Z w hq hl hn hf
 go_enter Tryd.func82, Tryd.ntmps82
 go_wp2_with fail
 refine kI.mono ?_
 rintro e w1 ⟨⟨r, rfl, hr⟩, hb1⟩
 clear kI
 have hq1 := owns_below hq hb1
 have gw1 : w.grownBy w1 (some g) := ⟨hb1.os, hb1.tape, hb1.output, hb1.size, fun i hi _ => hb1.block i hi⟩
 clear hb1 hq
 rcases hr with ⟨rfl, hE⟩ | ⟨k, rfl, hk, hE⟩
 ·have HE : Hid (Z.filter (fun z => !p z) = Z) := hE
  clear hE hf
  go_wp2
  go_ret
  unfold Del7
  rw [HE.out, hl]
  exact ⟨rfl, hq1, gw1⟩
 ·have HE : Hid ((Z.take (k + 1)).filter (fun z => !p z) = Z.take k) := hE
  clear hE
  have hne : ((k : Int) == -1) = false := beq_eq_false_iff_ne.2 (by omega)
  have hw1 : IntKind.i64.wrap ((k : Int) + 1) = ((k + 1 : Nat) : Int) := by rw [IntWalk.i64_in _ ⟨by omega, by omega⟩]; omega
  have Q0 : w1.ownsRow B 3 1 (.slice (some ⟨g, 0, none⟩) n cap) n ((Z.take k ++ Z.drop k).map (Value.int .i64)) := by rw [List.take_append_drop]; exact hq1
  clear hq1
  go_wp2_with fail
  go_loopw [5, 6] (fun si sj wr => ∃ (i j : Nat) (done : List Int), i < j ∧ j ≤ n ∧ si = .int .i64 i ∧ sj = .int .i64 j ∧ done.length = i ∧ Hid ((Z.take j).filter (fun z => !p z) = done) ∧ wr.ownsRow B 3 1 (.slice (some ⟨g, 0, none⟩) n cap) n ((done ++ Z.drop i).map (Value.int .i64)) ∧ w.grownBy wr (some g)) (fun _ sj _ => n - (intOf sj).toNat)
  case atStart => exact ⟨k, k + 1, Z.take k, by omega, by omega, rfl, by go_num, by rw [List.length_take]; omega, HE, Q0, gw1⟩
  case round =>
   clear Q0 gw1 HE hne hw1
   obtain ⟨i, j, done, hij, hjn, rfl, rfl, hdl, HD, Q, gw⟩ := hrel
   have hlen : (done ++ Z.drop i).length = n := by rw [List.length_append, List.length_drop]; omega
   by_cases hlt : j < n
   ·have hz : Z.getD j 0 ∈ Z := by simp [List.getD, show j < Z.length by omega]
    have kF := hf wr gw (Z.getD j 0) hz
    have ht := take_snoc7 (Z := Z) (k := j) (by omega)
    have cj : wr.cell? ⟨g, j, none⟩ = some (.int .i64 (Z.getD j 0)) := by
     rw [Q.cellAt j (by omega), List.getElem?_map, List.getElem?_append_right (by omega), List.getElem?_drop, show i + (j - done.length) = j by omega]
     simp [List.getD, show j < Z.length by omega]
    have hlt' : (j : Int) < (n : Int) := by omega
    have hj0 : (0 : Int) ≤ (j : Int) := by omega
    have hi0 : (0 : Int) ≤ (i : Int) := by omega
    have hin' : (i : Int) < (n : Int) := by omega
    have HS : Hid (∀ x : Int, ((done ++ Z.drop i).map (Value.int .i64)).set i (.int .i64 x) = ((done ++ [x]) ++ Z.drop (i + 1)).map (Value.int .i64)) := fun x => by
     rw [← List.map_set, List.set_append_right _ _ (by omega), show i - done.length = 0 by omega, List.drop_eq_getElem_cons (show i < Z.length by omega), List.set_cons_zero, List.append_assoc]
     rfl
    clear hz
    generalize Z.getD j 0 = x at kF ht cj
    have HT : Hid (Z.take (j + 1) = Z.take j ++ [x]) := ht
    clear ht
    cases hp : p x with
    | true =>
     have HG : Hid ((Z.take (j + 1)).filter (fun z => !p z) = done) := by rw [Hid, HT.out, List.filter_append, HD.out]; simp [hp]
     rw [hp] at kF
     clear HD HT hp HS
     go_wp2_with (go_at_fn F; refine kF.mono ?_; rintro e w2 ⟨rfl, hb2⟩)
     have Q2 := owns_below Q hb2
     have g2 := grown_belowX gw hb2
     go_roundw
     case rel => exact ⟨i, j + 1, done, by omega, by omega, rfl, by go_num, hdl, HG, Q2, g2⟩
     case measure => simp [intOf]; omega
    | false =>
     have HG : Hid ((Z.take (j + 1)).filter (fun z => !p z) = done ++ [x]) := by rw [Hid, HT.out, List.filter_append, HD.out]; simp [hp]
     rw [hp] at kF
     clear HD HT hp
     go_wp2_with fail
     go_at_fn F
     refine kF.mono ?_
     rintro e w2 ⟨rfl, hb2⟩
     have Q2 := owns_below Q hb2
     have g2 := grown_belowX gw hb2
     clear Q gw kF hb2 cj
     have fi := Q2.frozenAt i
     have ci := Q2.cellAt i (by omega)
     rw [List.getElem?_map, List.getElem?_append_right (by omega), show i - done.length = 0 by omega, List.drop_eq_getElem_cons (show i < Z.length by omega)] at ci
     simp only [List.getElem?_cons_zero, Option.map_some] at ci
     obtain ⟨s1, s2⟩ := Q2.stored i (.int .i64 x)
     rw [HS.out] at s1
     have g3 := grownBy_tr g2 s2
     clear HS Q2 g2 s2
     go_wp2
     go_roundw
     case rel => exact ⟨i + 1, j + 1, done ++ [x], by omega, by omega, by go_num, by go_num, by simp [hdl], HG, s1, g3⟩
     case measure => simp [intOf]; omega
   ·obtain rfl : j = n := by omega
    have HX : Hid (Z.filter (fun z => !p z) = done) := by
     have := HD.out
     rw [List.take_of_length_le (by omega)] at this
     exact this
    have hnot : ¬ ((j : Int) < (j : Int)) := by omega
    have rC : ∀ W, (Instr.slice 27 (.slice (some ⟨g, 0, none⟩) j cap) (some (.int .i64 (i : Int))) none none).run Tryd.prog W = .ok (.slice (some ⟨g, i, none⟩) (j - i) (cap - i)) W := by
     intro W
     have h8 : (i : Int) ≤ (j : Int) := by omega
     have h7 : ¬ (cap - i = 0) := by omega
     go_simp
     omega
    have rH : ∀ W, (Instr.slice 27 (.slice (some ⟨g, 0, none⟩) j cap) none (some (.int .i64 (i : Int))) none).run Tryd.prog W = .ok (.slice (some ⟨g, 0, none⟩) i cap) W := by
     intro W
     have h8 : (i : Int) ≤ (cap : Int) := by omega
     go_simp
    have hex : ∀ k, k < j - i → (wr.cell? ⟨g, i + k, none⟩).isSome = true := fun k hk => by
     rw [Q.cellAt (i + k) (by omega)]
     have := Q.1
     rw [List.getElem?_eq_getElem (by omega)]
     rfl
    have hcl : ∀ ty, (Builtin.clear_ #[27] ty #[.slice (some ⟨g, i, none⟩) (j - i) (cap - i)]).run Tryd.prog wr = .ok (.tuple #[]) (wr.setCells g i (List.replicate (j - i) (.int .i64 0))) := fun ty =>
     Lib.run_clear_slice wr _ _ ty _ Tryd.underlying27 Tryd.zeroValue3 rfl rfl g i _ _ (by omega) hex (fun k _ => Q.frozenAt _)
    have hS := own_shrink Q (show i ≤ j by omega)
    have hfl : ((done ++ Z.drop i).map (Value.int .i64)).take (i * 1) = done.map (Value.int .i64) := by
     rw [List.map_append, List.take_append_of_le_length (by rw [List.length_map]; omega), List.take_of_length_le (by rw [List.length_map]; omega)]
    rw [hfl] at hS
    have hS2 := own_fars (List.replicate (j - i) (.int .i64 0)) i wr hS (by omega)
    have gw2 := grownBy_tr gw (grown_sets g (List.replicate (j - i) (.int .i64 0)) i wr)
    have HR : Hid (∀ e, e = .returned (.slice (some ⟨g, 0, none⟩) i cap) → Del7 e w (wr.setCells g i (List.replicate (j - i) (.int .i64 0))) B g cap (Z.filter (fun z => !p z))) := fun e he => by
     unfold Del7
     rw [HX.out, hdl]
     exact ⟨he, hS2, gw2⟩
    clear hS hS2 hfl hex Q HX gw gw2 HD hf
    generalize wr.setCells g i (List.replicate (j - i) (.int .i64 0)) = w9 at *
    go_wp2
    go_ret
    exact HR.out _ rfl
end Go.Proofs.YtdojjmkpelgcaaaDoor
