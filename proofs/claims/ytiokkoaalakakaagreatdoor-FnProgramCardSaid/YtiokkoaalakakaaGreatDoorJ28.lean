/-
  FnProgram, part 28 of 50 (UnpackList, UnpackI).
-/
import Derived.Test.YtiokkoaalakakaaGreatDoorJ27

/-
  The specification's l01Read, and UnpackList, the program's and the specification's: the same list, in memory of its own, or ErrForm.
-/
namespace Go.Proofs.YtiokkoaalakakaaGreatDoor
open Go.RowKit

/-- What l01Read answers. -/
def ReadSpec (s : ByteArray) (base : Nat) (e : Ending) (w' : World) : Prop :=
  (∃ (zs : List Nat) (v : Value), Listed s zs ∧ e = .returned (.tuple #[v, .bool true]) ∧ w'.ownsRow base 3 1 v zs.length (natCells zs)) ∨
  (NoList s ∧ ∃ v : Value, e = .returned (.tuple #[v, .bool false]))

theorem isEmpty_yes {x : ByteArray} (h : x.size = 0) : x.toList.isEmpty = true := by rw [← decide_eq_emptyBytes]; simpa using h
theorem isEmpty_no {x : ByteArray} (h : 0 < x.size) : x.toList.isEmpty = false := by
  rw [← decide_eq_emptyBytes]
  simp
  intro e
  rw [e] at h
  simp at h

end Go.Proofs.YtiokkoaalakakaaGreatDoor


/-
  UnpackList, the program's, at every text: the numbers and the code; the answer lies in memory of its own.
-/
namespace Go.Proofs.YtiokkoaalakakaaGreatDoor
open Go.RowKit

abbrev ofNats (zs : List Nat) : List Int := zs.map fun z : Nat => (z : Int)
/-- A slice in memory that the call itself made, from block 'base' on, of the numbers zs. -/
def Own (base : Nat) (w : World) (a : Option Addr) (n cap : Nat) (zs : List Int) : Prop :=
  zs.length = n ∧ n ≤ cap ∧ cap ≤ maxLen ∧ (n = 0 ∨ ∃ g, a = some ⟨g, 0, none⟩ ∧ w.ownsRow base 3 1 (.slice (some ⟨g, 0, none⟩) n cap) n (zs.map (Value.int .i64)))
theorem Own.ints {base : Nat} {w : World} {a : Option Addr} {n cap : Nat} {zs : List Int} (h : Own base w a n cap zs) : Ints .i64 w a n cap zs := by
  obtain ⟨h1, h2, h3, h4⟩ := h
  rcases h4 with h4 | ⟨g, rfl, h4⟩
  · exact ⟨h1, h2, h3, .inl h4⟩
  · exact Ints.of_owns h4
theorem Own.of_owns {base : Nat} {w : World} {v : Value} {n : Nat} {zs : List Int} (h : w.ownsRow base 3 1 v n (zs.map (Value.int .i64))) : ∃ a cap, v = .slice a n cap ∧ Own base w a n cap zs := by
  have hl : zs.length = n := by simpa using h.1
  rcases h.2 with ⟨rfl, rfl⟩ | ⟨g, cap, cur, rfl, hg, hh, hn, hc, hs, ht⟩
  · exact ⟨none, 0, rfl, hl, Nat.le_refl _, by unfold maxLen; omega, .inl rfl⟩
  · exact ⟨_, cap, rfl, hl, hn, hc, .inr ⟨g, rfl, h⟩⟩
theorem Own.kept {base : Nat} {w w' : World} {a : Option Addr} {n cap : Nat} {zs : List Int} (h : Own base w a n cap zs) (hb : Below w.heap.size w w') : Own base w' a n cap zs := by
  obtain ⟨h1, h2, h3, h4⟩ := h
  refine ⟨h1, h2, h3, ?_⟩
  rcases h4 with h4 | ⟨g, rfl, h4⟩
  · exact .inl h4
  · exact .inr ⟨g, rfl, h4.kept (row := none) ⟨hb.os, hb.tape, hb.output, hb.size, fun i hi _ => hb.block i hi⟩ (by simp [Value.ownBlock])⟩
/-- What is owned from a later block on is owned from an earlier one on. -/
theorem Ints.below_base {k : IntKind} {w w' : World} {a : Option Addr} {len cap : Nat} {zs : List Int} {B : Nat} (h : Ints k w a len cap zs) (hl : ∀ x, a = some x → len ≠ 0 → x.block < B) (hb : Below B w w') (hs : w.heap.size ≤ w'.heap.size) : Ints k w' a len cap zs := by
  obtain ⟨h1, h2, h3, h4⟩ := h
  refine ⟨h1, h2, h3, ?_⟩
  rcases h4 with h4 | ⟨b, off, ha, hlt, hc⟩
  · exact .inl h4
  · rcases Nat.eq_zero_or_pos len with h0 | h0
    · exact .inl h0
    · have hbB := hl _ ha (by omega)
      exact .inr ⟨b, off, ha, by omega, fun t ht => by rw [hb.cell (p := ⟨b, off + t, none⟩) hbB]; exact hc t ht⟩

/-- What UnpackList answers of a text of at most 65536 bytes: the numbers and the code. -/
def IsUnpacked (s : ByteArray) (zs : List Nat) (c : Int) : Prop := (c = 0 ∧ Listed s zs) ∨ (c = 3 ∧ NoList s ∧ zs = [])
theorem IsUnpacked.same {s : ByteArray} {zs ys : List Nat} {c d : Int} (h : IsUnpacked s zs c) (g : IsUnpacked s ys d) : zs = ys ∧ c = d := by
  rcases h with ⟨rfl, h⟩ | ⟨rfl, h, rfl⟩ <;> rcases g with ⟨rfl, g⟩ | ⟨rfl, g, rfl⟩
  · exact ⟨h.only g, rfl⟩
  · exact absurd h (g _)
  · exact absurd g (h _)
  · exact ⟨rfl, rfl⟩
theorem IsUnpacked.len {s : ByteArray} {zs : List Nat} {c : Int} (h : IsUnpacked s zs c) : zs.length ≤ 4096 := by
  rcases h with ⟨_, _, _, h, _⟩ | ⟨_, _, rfl⟩
  · exact h
  · simp
def UnpackedL (s : ByteArray) (base : Nat) (e : Ending) (w' : World) : Prop :=
  ∃ (a : Option Addr) (cap : Nat) (zs : List Nat) (c : Int), IsUnpacked s zs c ∧ e = .returned (.tuple #[.slice a zs.length cap, .int .i64 c]) ∧ Own base w' a zs.length cap (ofNats zs)

theorem implUnpackList_long (s : ByteArray) (w : World) (hs : s.size ≤ 1048576) (h : 65536 < s.size) :
    Calls Tryz.prog 29 #[.string s] w fun e w' => e = .returned (.tuple #[.slice none 0 0, .int .i64 2]) ∧ w = w' := by
  go_enter Tryz.func29, Tryz.ntmps29
  go_wp2
  go_ret2
  exact ⟨rfl, rfl⟩

set_option maxHeartbeats 1000000 in
theorem implUnpackList_any (s : ByteArray) (w : World) (hs : s.size ≤ 65536) (hE : ErrType w) :
    Calls Tryz.prog 29 #[.string s] w fun e w' => UnpackedL s w.heap.size e w' ∧ Below w.heap.size w w' := by
  go_enter Tryz.func29, Tryz.ntmps29
  go_wp2_with fail
  refine (readList_any s _ hs).mono ?_
  rintro e w1 ⟨hk, hb1⟩
  have hE1 := hE.below hb1
  rcases hk with ⟨zs, g, hL, rfl, ho⟩ | ⟨hN, y, rfl⟩
  · have HL : Hid (Listed s zs) := hL
    have HO : Hid (Own w.heap.size w1 (some ⟨g, 0, none⟩) zs.length zs.length (ofNats zs)) := by
      obtain ⟨a, cap, e, hO⟩ := Own.of_owns ho
      cases e
      exact hO
    clear hL ho
    go_wp2_with fail
    refine (faultCode_nil _).mono ?_
    rintro e w2 ⟨rfl, hb2⟩
    go_wp2
    go_ret2
    exact ⟨⟨_, _, zs, 0, .inl ⟨rfl, HL.out⟩, rfl, HO.out.kept hb2⟩, sub_trans hb1 hb2⟩
  · have HN : Hid (NoList s) := hN
    clear hN
    go_wp2_with fail
    refine (faultCode_hit 3 y _ hE1).mono ?_
    rintro e w2 ⟨rfl, hb2⟩
    go_wp2
    go_ret2
    exact ⟨⟨none, 0, [], 3, .inr ⟨rfl, HN.out, rfl⟩, rfl, rfl, Nat.le_refl _, by unfold maxLen; omega, .inl rfl⟩, sub_trans hb1 hb2⟩

end Go.Proofs.YtiokkoaalakakaaGreatDoor
