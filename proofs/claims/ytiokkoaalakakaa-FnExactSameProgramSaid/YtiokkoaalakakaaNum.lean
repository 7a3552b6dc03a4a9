/-
  The bytes of a number: the program's appendNumber and the specification's l01Number lay the same bytes ('pack'), by contracts.
-/
import Derived.Test.YtiokkoaalakakaaProg
import Derived.Test.YtiokkoaalakakaaPlain
import Derived.WalkKit
import Derived.WalkSpells
import Derived.WalkLawsBesides
import Derived.Laws.BytesArg
namespace Go.Proofs.Ytiokkoaalakakaa
open Go.RowKit

theorem info_u8 : (Try.prog.info? 5).map (fun i => (i.zero, i.size, i.bytes)) = some (some (.int .u8 0), 1, 1) := by kernel_rfl
abbrev u8s (xs : List Int) : List Value := xs.map (Value.int .u8)

/-- 'string(b)' of a row of bytes that the call itself made. -/
theorem conv_owned {w : World} {base n : Nat} {v : Value} {xs : List Int} (h : w.ownsRow base 5 1 v n (u8s xs)) :
    (convert 68 9 v).run Try.prog w = .ok (.string (strOfNums xs)) w := by
  obtain ⟨hl, h2⟩ := h
  simp at hl
  rcases h2 with ⟨rfl, rfl⟩ | ⟨g, cap, cur, rfl, hg, hh, hn, hc, hs, ht⟩
  · have : xs = [] := by simpa using hl
    subst this
    exact run_convert_bytes_nil w 68 5 Try.underlying68 Try.underlying5 0 0 9 Try.underlying9
  · refine run_convert_bytes_arg w 68 5 Try.underlying68 Try.underlying5 g 0 n cap xs hl (fun i hi => ?_) 9 Try.underlying9
    have hown : w.ownsRow base 5 1 (.slice (some ⟨g, 0, none⟩) n cap) n (u8s xs) := ⟨by simpa using hl, .inr ⟨g, cap, cur, rfl, hg, hh, hn, hc, hs, ht⟩⟩
    have := hown.cellAt i (by omega)
    rw [Nat.zero_add, this]
    simp [List.getElem?_eq_getElem (show i < xs.length by omega)]

theorem one_u8 (n : Int) : ∀ u ∈ [Value.int .u8 n], u.oneCell' = true := by intro u hu; simp at hu; subst hu; rfl

set_option maxHeartbeats 1000000 in
set_option maxRecDepth 100000 in
theorem appendNumber_any (base m : Nat) (v : Value) (xs : List Int) (n : Nat) (w : World) (hn : n ≤ 999999999) (hown : w.ownsRow base 5 1 v m (u8s xs)) (hb : base ≤ w.heap.size) (hm : m ≤ 1099511627776) :
    Calls Try.prog 33 #[v, .int .i64 n] w fun e w' => ∃ v', e = .returned v' ∧ w'.ownsRow base 5 1 v' (m + (pack n).length) (u8s (xs ++ pack n)) ∧ Below base w w' := by
  obtain ⟨i0, hi, hz0, hz1, hz2⟩ := info_parts info_u8
  go_enter Try.func33, Try.ntmps33
  go_wp2
  go_loopw [0, 1] (fun sv si wr => ∃ (k : Nat) (ys : List Int), k ≤ 999999999 ∧ si = .int .i64 k ∧ wr.ownsRow base 5 1 sv (m + ys.length) (u8s (xs ++ ys)) ∧ Hid (ys ++ pack k = pack n) ∧ Below base w wr) (fun _ si _ => (intOf si).toNat)
  case atStart => exact ⟨n, [], hn, rfl, by simpa using hown, by simp [Hid], Below.refl _ _⟩
  case round =>
    obtain ⟨k, ys, hk, rfl, ho, HY, hbel⟩ := hrel
    have hlen : ys.length ≤ 4 := by
      have h1 := congrArg List.length HY.out
      have h2 := pack_len k
      have h3 := pack_len n
      simp at h1; omega
    have hbw : base ≤ wr.heap.size := by have := hbel.size; omega
    by_cases hlt : 128 ≤ k
    · go_wp2_with (at_builtin; refine wpList_append_own _ rfl _ _ 68 rfl base 5 i0 (.int .u8 0) 1 1 Try.underlying68 hi hz0 hz1 hz2 rfl (by decide) _ _ _ rfl (ho.alloc _) ⟨wr.heap.size, 0, none⟩ 1 1 [.int .u8 ((k : Int) % 128 + 128)] rfl rfl (cell_one_new _ _ _) (one_u8 _) ?c3 ?c4 ?c5 ?_)
      case c3 => unfold maxLen; omega
      case c4 => omega
      case c5 => simp; omega
      intro v' w1 hown' hgrow _
      have R : w1.ownsRow base 5 1 v' (m + (ys ++ [(k : Int) % 128 + 128]).length) (u8s (xs ++ (ys ++ [(k : Int) % 128 + 128]))) := by simpa [Nat.add_assoc] using hown'
      have hb1 : Below base w w1 := (hbel.alloc hbw _).grown hgrow (by simp; omega) (fun j hj => (ho.lt _ hj).1)
      clear hown' hgrow ho
      go_wp2
      go_roundw
      case rel => exact ⟨k / 128, ys ++ [(k : Int) % 128 + 128], by omega, by go_num, R, by rw [Hid, List.append_assoc, List.singleton_append, ← pack_step hlt (by omega)]; exact HY.out, hb1⟩
      case measure => simp [intOf]; omega
    · go_wp2_with (at_builtin; refine wpList_append_own _ rfl _ _ 68 rfl base 5 i0 (.int .u8 0) 1 1 Try.underlying68 hi hz0 hz1 hz2 rfl (by decide) _ _ _ rfl (ho.alloc _) ⟨wr.heap.size, 0, none⟩ 1 1 [.int .u8 (k : Int)] rfl rfl (cell_one_new _ _ _) (one_u8 _) ?d3 ?d4 ?d5 ?_)
      case d3 => unfold maxLen; omega
      case d4 => omega
      case d5 => simp; omega
      intro v' w1 hown' hgrow _
      have hb1 : Below base w w1 := (hbel.alloc hbw _).grown hgrow (by simp; omega) (fun j hj => (ho.lt _ hj).1)
      have hp : pack n = ys ++ [(k : Int)] := by rw [← HY.out, pack_small (by omega)]
      have R : w1.ownsRow base 5 1 v' (m + (pack n).length) (u8s (xs ++ pack n)) := by rw [hp]; simpa [Nat.add_assoc] using hown'
      clear hown' hgrow ho hp HY
      go_wp2
      go_ret
      exact ⟨v', rfl, R, hb1⟩
end Go.Proofs.Ytiokkoaalakakaa
