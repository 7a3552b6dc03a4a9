/-
  FnProgram, part 27 of 50 (ReadList).
-/
import Derived.Test.YtiokkoaalakakaaGreatDoorJ26
import Derived.Test.YtiokkoaalakakaaGreatDoorJ01
import Derived.Laws.OwnMore

/-
  The program's readList and the specification's l01Read: a list of numbers in memory of its own where the whole text is its bytes; none of any other text.
-/
namespace Go.Proofs.YtiokkoaalakakaaGreatDoor
open Go.RowKit

/-- The cells of a list of numbers. -/
abbrev natCells (zs : List Nat) : List Value := (zs.map fun z : Nat => (z : Int)).map (Value.int .i64)
theorem one_i64 (n : Int) : ∀ u ∈ [Value.int .i64 n], u.oneCell' = true := by intro u hu; simp at hu; subst hu; rfl

/-- What readList answers. -/
def ReadList (s : ByteArray) (base : Nat) (e : Ending) (w' : World) : Prop :=
  (∃ (zs : List Nat) (g : Nat), Listed s zs ∧ e = .returned (.tuple #[.slice (some ⟨g, 0, none⟩) zs.length zs.length, .nilIface]) ∧ w'.ownsRow base 3 1 (.slice (some ⟨g, 0, none⟩) zs.length zs.length) zs.length (natCells zs)) ∨
  (NoList s ∧ ∃ y : Int, e = .returned (.tuple #[.slice none 0 0, .iface 108 (.agg #[.int .i64 3, .int .i64 y])]))

theorem store_step (zs : List Nat) (n j v : Nat) (hl : zs.length = j) (hj : j < n) : (((zs.map fun z : Nat => (z : Int)) ++ List.replicate (n - j) (0 : Int)).map (Value.int .i64)).set j (.int .i64 v) = (((zs ++ [v]).map fun z : Nat => (z : Int)) ++ List.replicate (n - (j + 1)) (0 : Int)).map (Value.int .i64) := by
  have hr : List.replicate (n - j) (0 : Int) = 0 :: List.replicate (n - (j + 1)) 0 := by
    rw [show n - j = (n - (j + 1)) + 1 by omega, List.replicate_succ]
  have e : (zs.map fun z : Nat => (z : Int)).length = j := by simpa using hl
  rw [← List.map_set, hr, List.set_append_right _ _ (by omega), e, Nat.sub_self]
  simp

set_option maxHeartbeats 4000000 in
set_option maxRecDepth 100000 in
theorem readList_any (s : ByteArray) (w : World) (hs : s.size ≤ 65536) :
    Calls Tryz.prog 51 #[.string s] w fun e w' => ReadList s w.heap.size e w' ∧ Below w.heap.size w w' := by
  obtain ⟨i0, hi, hz0, hz1, hz2⟩ := info_parts info_int
  go_enter Tryz.func51, Tryz.ntmps51
  go_wp2_with fail
  refine (readNumber_any s 0 _ hs (by omega)).mono ?_
  rintro e w1 ⟨hk, hb1⟩
  have hbs := hb1.size
  rcases hk with ⟨n, k, hn, rfl⟩ | ⟨hn, y, rfl⟩
  · rw [Nat.zero_add]
    have hN : Hid (Num s 0 n k) := hn
    have hks : k ≤ s.size := by have := hn.le; omega
    have hnle : n ≤ 999999999 := hn.val_le
    clear hn
    by_cases h4 : 4096 < n
    · have hNL : Hid (NoList s) := noList_great hN.out h4
      clear hN
      go_wp2
      go_ret2
      exact ⟨.inr ⟨hNL.out, _, rfl⟩, hb1⟩
    · go_wp2_with (at_make; refine wpList_make_full _ rfl _ _ 56 rfl w.heap.size 3 i0 (.int .i64 0) 1 Tryz.underlying56 hi hz0 hz1 _ _ _ _ n rfl rfl (by omega) (by omega) ?b2 ?b3 ?b4 ?_)
      case b2 => rw [hz2]; omega
      case b3 => unfold maxLen; omega
      case b4 => exact hbs
      intro w2 hown2 hgrow2
      have hb2 : Below w.heap.size w w2 := hb1.grown hgrow2 hbs (fun k h => by cases h)
      rw [made_ints] at hown2
      clear hgrow2
      obtain ⟨g, hg⟩ : ∃ g, g = w1.heap.size := ⟨_, rfl⟩
      have HG : Hid (w.heap.size ≤ g) := by rw [Hid, hg]; exact hbs
      rw [← hg] at hown2
      rw [← hg]
      clear hg
      go_wp2
      go_loopw [5, 6, 26] (fun sp se si wr => ∃ (j q : Nat) (zs : List Nat), j ≤ n ∧ zs.length = j ∧ q ≤ s.size ∧ si = .int .i64 j ∧ sp = .int .i64 q ∧ se = .nilIface ∧ NumsAt s k zs q ∧ wr.ownsRow w.heap.size 3 1 (.slice (some ⟨g, 0, none⟩) n n) n (((zs.map fun z : Nat => (z : Int)) ++ List.replicate (n - j) (0 : Int)).map (Value.int .i64)) ∧ Below w.heap.size w wr) (fun _ _ si _ => n - (intOf si).toNat)
      case atStart => exact ⟨0, k, [], by omega, rfl, hks, rfl, rfl, rfl, rfl, by simpa using hown2, hb2⟩
      case round =>
        obtain ⟨j, q, zs, hj, hzl, hq, rfl, rfl, rfl, hat, hr, hbel⟩ := hrel
        have HAT : Hid (NumsAt s k zs q ∧ zs.length = j) := ⟨hat, hzl⟩
        clear hat
        by_cases hlt : j < n
        · go_wp2_with fail
          refine (readNumber_any s q _ hs hq).mono ?_
          rintro e w3 ⟨hk3, hb3⟩
          have hr3 : w3.ownsRow w.heap.size 3 1 (.slice (some ⟨g, 0, none⟩) n n) n (((zs.map fun z : Nat => (z : Int)) ++ List.replicate (n - j) (0 : Int)).map (Value.int .i64)) := hr.kept (row := none) ⟨hb3.os, hb3.tape, hb3.output, hb3.size, fun i hi _ => hb3.block i hi⟩ (by simp [Value.ownBlock])
          have hbel3 : Below w.heap.size w w3 := hbel.trans (hb3.mono hbel.size)
          have hf := hr3.frozenAt j
          have hold : ∃ u, w3.cell? ⟨g, j, none⟩ = some u := by
            have := hr3.cellAt j (by omega)
            rw [this]
            exact ⟨_, List.getElem?_eq_getElem (by simp; omega)⟩
          obtain ⟨u, hu⟩ := hold
          rcases hk3 with ⟨v, k3, hv, rfl⟩ | ⟨hv, y, rfl⟩
          · have hst := (hr3.stored j (.int .i64 (v : Int))).1
            rw [store_step zs n j v hzl hlt] at hst
            have hb4 : Below w.heap.size w (w3.setCell ⟨g, j, none⟩ (.int .i64 (v : Int))) := hbel3.setCell HG.out _
            have HV : Hid (NumsAt s k (zs ++ [v]) (q + k3) ∧ q + k3 ≤ s.size) := ⟨numsAt_snoc HAT.out.1 hv, hv.le⟩
            clear hv hr hr3 hb3 hbel hbel3 hzl
            go_wp2
            go_roundw
            case rel => exact ⟨j + 1, q + k3, zs ++ [v], by omega, by simp [HAT.out.2], HV.out.2, by go_num, rfl, rfl, HV.out.1, hst, hb4⟩
            case measure => simp [intOf]; omega
          · have hNL : Hid (NoList s) := noList_stop hN.out HAT.out.1 (by rw [HAT.out.2]; exact hlt) hv
            have hb4 : Below w.heap.size w (w3.setCell ⟨g, j, none⟩ (.int .i64 0)) := hbel3.setCell HG.out _
            clear hv hr hr3 hb3 hbel hbel3 hzl hN HAT
            go_wp2
            go_ret2
            exact ⟨.inr ⟨hNL.out, _, rfl⟩, hb4⟩
        · obtain rfl : j = n := by omega
          by_cases hqs : q < s.size
          · have hNL : Hid (NoList s) := noList_more hN.out HAT.out.1 HAT.out.2 (by omega)
            clear hN HAT hr hzl
            go_wp2
            go_ret2
            exact ⟨.inr ⟨hNL.out, _, rfl⟩, hbel⟩
          · have hL : Hid (Listed s zs) := listed_of hN.out (by omega) HAT.out.1 HAT.out.2 (by omega)
            have hr' : Hid (wr.ownsRow w.heap.size 3 1 (.slice (some ⟨g, 0, none⟩) zs.length zs.length) zs.length (natCells zs)) := by
              rw [Hid]
              rw [Nat.sub_self, List.replicate_zero, List.append_nil] at hr
              rw [hzl]
              exact hr
            have HZ : Hid (zs.length = j) := hzl
            clear hN HAT hr hzl
            go_wp2
            go_ret2
            exact ⟨.inl ⟨zs, g, hL.out, by rw [HZ.out]; rfl, hr'.out⟩, hbel⟩
  · have hNL : Hid (NoList s) := noList_of_noNum hn
    clear hn
    go_wp2
    go_ret2
    exact ⟨.inr ⟨hNL.out, _, rfl⟩, hb1⟩
end Go.Proofs.YtiokkoaalakakaaGreatDoor
