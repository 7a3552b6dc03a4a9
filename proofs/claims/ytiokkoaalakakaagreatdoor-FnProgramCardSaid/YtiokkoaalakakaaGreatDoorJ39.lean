/-
  FnProgram, part 39 of 50 (ProgPlain).
-/
import Derived.Test.YtiokkoaalakakaaGreatDoorJ13
import Derived.Test.YtiokkoaalakakaaGreatDoorJ21
import Derived.Test.YtiokkoaalakakaaGreatDoorJ29
import Derived.Test.YtiokkoaalakakaaGreatDoorJ31
import Derived.Test.YtiokkoaalakakaaGreatDoorJ20
import Derived.Test.YtiokkoaalakakaaGreatDoorJ32
import Derived.Test.YtiokkoaalakakaaGreatDoorJ36
import Derived.Test.YtiokkoaalakakaaGreatDoorJ38

/-
  FnProgram: what is read back from a right program's bytes and lines, in plain words; the law's sameTexts; what the condition on the variables gives.
-/
namespace Go.Proofs.YtiokkoaalakakaaGreatDoor
open Go.RowKit

theorem fits_ok {rows : List (List I3)} (h : progOk rows = true) : allFit rows := fun r hr x hx => okI_fits ((progOk_parts h).2 r hr |>.2 x hx)
theorem nums_ok {rows : List (List I3)} (h : progOk rows = true) : ∃ ns : List Nat, progNums rows = ns.map (fun z : Nat => (z : Int)) ∧ (∀ n ∈ ns, n ≤ 999999999) ∧ ns.length ≤ 57 := by
  obtain ⟨h3, hr⟩ := progOk_parts h
  obtain ⟨ns, e, hb⟩ := nats_of (progNums_ok h)
  have hl := progNums_len (rows := rows) (fun r hm => (hr r hm).1)
  rw [e, List.length_map, h3] at hl
  exact ⟨ns, e, hb, by omega⟩
theorem isProg_pack {rows : List (List I3)} (h : progOk rows = true) : IsProg (strOfNums (packL (progNums rows))) rows 0 := by
  obtain ⟨ns, e, hb, hl⟩ := nums_ok h
  have hp := parse_nums rows
  rw [(progOk_parts h).1, e] at hp
  refine .inl ⟨rfl, ns, ?_, hp, h⟩
  rw [e, packL_nats]
  exact listed_pack hb (by omega)
theorem isProg_more {rows : List (List I3)} (h : progOk rows = true) (b : ByteArray) (h0 : 0 < b.size) : IsProg (strOfNums (packL (progNums rows)) ++ b) [] 3 := by
  obtain ⟨ns, e, hb, hl⟩ := nums_ok h
  rw [e, packL_nats]
  exact IsProg.of_none (noList_longer hb (by omega) b h0)
theorem packP_small {rows : List (List I3)} (h : progOk rows = true) : (strOfNums (packL (progNums rows))).size ≤ 1000 := by
  obtain ⟨ns, e, hb, hl⟩ := nums_ok h
  have q2 := packs_len (progNums rows)
  have q1 := (pack_len (progNums rows).length).2
  have ql : (progNums rows).length ≤ 57 := by rw [e, List.length_map]; exact hl
  rw [strOfNums_size]
  unfold packL
  rw [List.length_append]
  omega
theorem lines_small {rows : List (List I3)} (h : progOk rows = true) : (linesTo rows 3).length ≤ 18 ∧ ∀ t ∈ linesTo rows 3, t.size ≤ 1048576 := by
  obtain ⟨h3, hr⟩ := progOk_parts h
  refine ⟨linesTo_len rows (fun j => ?_) 3, fun t ht => ?_⟩
  · by_cases hj : j < rows.length
    · exact (hr _ (by simp [List.getD, hj])).1
    · simp [List.getD, List.getElem?_eq_none (Nat.le_of_not_lt hj)]
  · unfold linesTo rowLines at ht
    obtain ⟨k, _, hk⟩ := List.mem_flatMap.1 ht
    obtain ⟨x, _, rfl⟩ := List.mem_map.1 hk
    have h1 := digT_size k
    have h2 := txtI_size x
    have h0 : (⟨#[32]⟩ : ByteArray).size = 1 := rfl
    unfold lineOf
    rw [ByteArray.size_append, ByteArray.size_append]
    omega
/-- What reading the lines and the bytes of a right program gives. -/
theorem rp_gives {ts : List ByteArray} {rows : List (List I3)} {base : Nat} {e : Ending} {w' : World} (h : RPOut ts base e w') (hp : IsRP ts rows 0) : ∃ a cap, e = .returned (.tuple #[.agg #[.slice a rows.length cap], .int .i64 0]) ∧ OwnProg w' base (.slice a rows.length cap) rows := by
  obtain ⟨v, r, d, h1, h2, h3, h4⟩ := h
  obtain ⟨rfl, rfl⟩ := h1.same hp
  obtain ⟨a, cap, rfl⟩ := h4.slice
  exact ⟨a, cap, h2, h4⟩
theorem up_gives {s : ByteArray} {rows : List (List I3)} {c : Int} {base : Nat} {e : Ending} {w' : World} (h : UnProg s base e w') (hp : IsProg s rows c) : ∃ a cap, e = .returned (.tuple #[.agg #[.slice a rows.length cap], .int .i64 c]) ∧ OwnProg w' base (.slice a rows.length cap) rows := by
  obtain ⟨v, r, d, h1, h2, h3, h4⟩ := h
  obtain ⟨rfl, rfl⟩ := h1.same hp
  obtain ⟨a, cap, rfl⟩ := h4.slice
  exact ⟨a, cap, h2, h4⟩
theorem in_gives {x : I3} {e : Ending} (h : InsOut (txtI x) e) (ok : okI x = true) : e = .returned (.tuple #[x.val, .int .i64 0]) := by
  obtain ⟨y, c, h1, h2⟩ := h
  obtain ⟨rfl, rfl⟩ := h1.same (.inl ⟨rfl, read_back ok⟩ : IsIns (txtI x) x 0)
  exact h2

set_option maxHeartbeats 1000000 in
set_option maxRecDepth 100000 in
theorem sameTexts_same (a a' : Option Addr) (len cap cap' : Nat) (ts : List ByteArray) (w : World) (h : Strs w a len cap ts) (h' : Strs w a' len cap' ts) :
    Calls Tryz.prog 14 #[.slice a len cap, .slice a' len cap'] w fun e w' => e = .returned (.bool true) ∧ ∃ d, w' = w.drewN d := by
  obtain ⟨hl, hlc, hcm, hcase⟩ := h
  obtain ⟨_, hlc', hcm', hcase'⟩ := h'
  unfold maxLen at hcm hcm'
  have hne : ((len : Int) != (len : Int)) = false := by simp
  by_cases h0 : len = 0
  · subst h0
    go_enter Tryz.func14, Tryz.ntmps14
    go_wp2
    refine wp_loop_rounds 1 ?_
    rw [rounds_succ]
    go_wp2
    go_ret
    exact ⟨rfl, 0, rfl⟩
  · rcases hcase with h0' | ⟨b, off, rfl, hblt, hcell⟩
    · exact absurd h0' h0
    rcases hcase' with h0' | ⟨b', off', rfl, hblt', hcell'⟩
    · exact absurd h0' h0
    go_enter Tryz.func14, Tryz.ntmps14
    go_wp2
    go_loopw [5] (fun si wr => ∃ k d : Nat, k ≤ len ∧ si = .int .i64 k ∧ wr = w.drewN d) (fun si _ => len - (intOf si).toNat)
    case atStart => exact ⟨0, 0, by omega, rfl, rfl⟩
    case round =>
      obtain ⟨k, d, hk, rfl, rfl⟩ := hrel
      by_cases hlt : k < len
      · have hc := hcell k hlt
        have hc' := hcell' k hlt
        have hlt' : (k : Int) < (len : Int) := by omega
        generalize ts.getD k ByteArray.empty = x at hc hc'
        have hxx : (x.toList != x.toList) = false := by simp
        have hxy : (x.toList == x.toList) = true := by simp
        clear hcell hcell'
        go_wp2
        go_quiet (fail)
        go_wp2
        go_roundw
        case rel => exact ⟨k + 1, _, by omega, by go_num, rfl⟩
        case measure => simp [intOf]; omega
      · go_wp2
        go_ret
        exact ⟨rfl, d, rfl⟩

theorem laid_of_parts {W : World} {a b c e : String × DataW Unit} (ha : a.2.handleName? = none) (hb : b.2.handleName? = none) (hc : c.2.handleName? = none) (he : e.2.handleName? = none) {d : String × DataW Unit} (hd : d.2.handleName?.isSome = true)
    (h : laidMetH Tryz.prog [a, b, c, d, e] W) : laidMetH Tryz.prog [d] W ∧ laidMet Tryz.prog [e] W := by
  have hd' : d.2.handleName?.isNone = false := by cases hq : d.2.handleName? with | none => rw [hq] at hd; cases hd | some _ => rfl
  have f1 : ([a, b, c, d, e].filter fun x => x.2.handleName?.isSome) = [d] := by simp [List.filter, ha, hb, hc, he, hd]
  have f2 : ([a, b, c, d, e].filter fun x => x.2.handleName?.isNone) = [a, b, c, e] := by simp [List.filter, ha, hb, hc, he, hd']
  have g1 : ([d].filter fun x => x.2.handleName?.isSome) = [d] := by simp [List.filter, hd]
  have g2 : ([d].filter fun x => x.2.handleName?.isNone) = [] := by simp [List.filter, hd']
  unfold laidMetH at h ⊢
  rw [f1] at h
  rw [g1]
  simp only at h ⊢
  rw [f2] at h
  rw [g2]
  exact ⟨⟨h.1.tail.tail.tail.tail, h.2⟩, h.1.tail.tail.tail⟩
theorem fnProgram_laid {W : World} (h : laidMetH Tryz.prog Rows.fnProgramRow.laid W) : ErrType W ∧ OpTable W := by
  have h' := laid_of_parts (W := W) rfl rfl rfl rfl rfl h
  exact ⟨errType_of_laid rfl h'.1, opTable_of_met h'.2⟩
theorem fnProgram_door_met (os : Os) (args : Array Value) : laidMetH Tryz.prog Rows.fnProgramRow.laid ((World.doorLaid Tryz.prog 400 os).forCall (fun _ _ => 0) ⟨#[], args, []⟩).memory :=
  laidMetH_of_parts3 (fuel := 8) (laidMet_of_run' 8 (by kernel_rfl) (by kernel_rfl)) (by kernel_rfl) (by kernel_rfl)
end Go.Proofs.YtiokkoaalakakaaGreatDoor
