/-
  FnProgram, part 36 of 50 (Fields, RiI).
-/
import Derived.Shelf.LaysM
import Derived.Shelf.Strings.FieldsFuncAny
import Derived.Test.YtiokkoaalakakaaGreatDoorProg
import Derived.Test.YtiokkoaalakakaaGreatDoorJ12
import Derived.Test.YtiokkoaalakakaaGreatDoorJ20
import Derived.Test.YtiokkoaalakakaaGreatDoorJ35

/-
  impl.isBlank, impl.wordsOf: strings.FieldsFunc by the library's contract, laid at this program in plain words (the table of numbers, a field a fact).
-/
namespace Go.Proofs.YtiokkoaalakakaaGreatDoor
open Go.RowKit Go.Shelf

def fieldsRen : Go.Shelf.Ren := ⟨fun | 229 => 42 | n => n, fun | 9 => 9 | 40 => 78 | 31 => 27 | 152 => 101 | 3 => 3 | 0 => 0 | 4 => 4 | 21 => 21 | 154 => 103 | n => n, fun | n => n⟩
theorem fieldsLays : Go.Proofs.Lays.n229 Tryz.prog fieldsRen := {
  mixed := by kernel_rfl
  f229 := Tryz.func42.trans (congrArg some (by kernel_rfl))
  t0 := Tryz.underlying0
  a0 := Tryz.isAgg0
  z0 := Tryz.sizeOf0
  v0 := Tryz.zeroValue0
  t3 := Tryz.underlying3
  a3 := Tryz.isAgg3
  z3 := Tryz.sizeOf3
  v3 := Tryz.zeroValue3
  t4 := Tryz.underlying4
  a4 := Tryz.isAgg4
  z4 := Tryz.sizeOf4
  v4 := Tryz.zeroValue4
  t9 := Tryz.underlying9
  a9 := Tryz.isAgg9
  z9 := Tryz.sizeOf9
  v9 := Tryz.zeroValue9
  t21 := Tryz.underlying21
  a21 := Tryz.isAgg21
  z21 := Tryz.sizeOf21
  v21 := Tryz.zeroValue21
  t31 := Tryz.underlying27
  a31 := Tryz.isAgg27
  z31 := Tryz.sizeOf27
  v31 := Tryz.zeroValue27
  t40 := Tryz.underlying78
  a40 := Tryz.isAgg78
  z40 := Tryz.sizeOf78
  v40 := Tryz.zeroValue78
  t152 := Tryz.underlying101
  a152 := Tryz.isAgg101
  z152 := Tryz.sizeOf101
  v152 := Tryz.zeroValue101
  t154 := Tryz.underlying103
  a154 := Tryz.isAgg103
  z154 := Tryz.sizeOf103
  v154 := Tryz.zeroValue103 }

theorem isBlank_is (r : Int) (w : World) : Calls Tryz.prog 43 #[.int .i32 r] w fun e w' => e = .returned (.bool (r == 32)) ∧ w = w' := by
  go_enter Tryz.func43, Tryz.ntmps43
  go_wp2
  go_ret
  exact ⟨rfl, rfl⟩

theorem isBlank_runes (w : World) : PredAtRunes Tryz.prog 43 #[] isBl w := fun W x _ _ => by
  unfold FnGives
  refine (isBlank_is (x : Int) W).mono ?_
  rintro e w' ⟨rfl, rfl⟩
  refine ⟨?_, 0, rfl⟩
  congr 2
  unfold isBl
  by_cases h : x = 32
  · subst h; rfl
  · rw [beq_eq_false_iff_ne.2 h, beq_eq_false_iff_ne.2 (by omega : (x : Int) ≠ 32)]

set_option maxHeartbeats 1000000 in
theorem wordsOf_is (s : ByteArray) (w : World) (hs : s.size ≤ 4294967296) : Calls Tryz.prog 24 #[.string s] w fun e w' => ∃ v, e = .returned v ∧ w'.ownsRow w.heap.size 9 1 v (wordsT s).length ((wordsT s).map Value.string) ∧ Below w.heap.size w w' := by
  have hC := Any.strings_FieldsFunc_runes fieldsLays 43 #[] (enters_of Tryz.func43 (by kernel_rfl) rfl) isBl s w hs (isBlank_runes w) (by kernel_rfl) (by kernel_rfl)
  change Calls Tryz.prog 42 #[_, .func (.func 43) #[] #[]] _ _ at hC
  change Calls _ _ _ _ fun e w' => ∃ A, e = .returned (.slice (some ⟨A, 0, none⟩) (wordsT s).length (wordsT s).length) ∧ w.heap.size ≤ A ∧ w'.ownsRow w.heap.size 9 1 (.slice (some ⟨A, 0, none⟩) (wordsT s).length (wordsT s).length) (wordsT s).length ((wordsT s).map Value.string) ∧ Below w.heap.size w w' at hC
  go_enter Tryz.func24, Tryz.ntmps24
  go_wp2_with fail
  refine hC.mono ?_
  rintro e w1 ⟨A, rfl, _, ho, hb⟩
  have HO : Hid (w1.ownsRow w.heap.size 9 1 (.slice (some ⟨A, 0, none⟩) (wordsT s).length (wordsT s).length) (wordsT s).length ((wordsT s).map Value.string)) := ho
  clear ho hC
  go_wp2
  go_ret
  exact ⟨_, rfl, HO.out, hb⟩
end Go.Proofs.YtiokkoaalakakaaGreatDoor


/-
  impl.ReadInstr: the instruction that a text is, or a code.
-/
namespace Go.Proofs.YtiokkoaalakakaaGreatDoor
open Go.RowKit

theorem box3_rw (w : World) (x y z : Value) (t B : Nat) (hB : B ≤ w.heap.size) : (w.alloc (.cells #[x, y, z] t)).ownsRow B t 3 (.slice (some ⟨w.heap.size, 0, none⟩) 1 1) 1 [x, y, z] := World.ownsRow_lit w #[x, y, z] 1 hB (by unfold maxLen; omega) rfl
theorem wordsT_size {s : ByteArray} : ∀ t ∈ wordsT s, t.size ≤ s.size := by
  intro t ht
  rw [wordsT_is] at ht
  obtain ⟨x, _, rfl⟩ := List.mem_map.1 ht
  simp
  omega

/-- What ReadInstr answers of a text of at most 65536 bytes. -/
def IsIns (s : ByteArray) (x : I3) (c : Int) : Prop := (c = 0 ∧ IsRead (wordsT s) x) ∨ (c = 3 ∧ x = (0, 0, 0) ∧ NoRead (wordsT s))
theorem IsIns.same {s : ByteArray} {x y : I3} {c d : Int} (h : IsIns s x c) (g : IsIns s y d) : x = y ∧ c = d := by
  rcases h with ⟨rfl, h⟩ | ⟨rfl, rfl, h⟩ <;> rcases g with ⟨rfl, g⟩ | ⟨rfl, rfl, g⟩
  · exact ⟨h.only g, rfl⟩
  · exact absurd h (g _)
  · exact absurd g (h _)
  · exact ⟨rfl, rfl⟩
def InsOut (s : ByteArray) (e : Ending) : Prop := ∃ x c, IsIns s x c ∧ e = .returned (.tuple #[x.val, .int .i64 c])

set_option maxHeartbeats 2000000 in
set_option maxRecDepth 100000 in
theorem implReadInstr_any (s : ByteArray) (w : World) (hs : s.size ≤ 65536) (hT : OpTable w) : Calls Tryz.prog 13 #[.string s] w fun e w' => InsOut s e ∧ Below w.heap.size w w' := by
  have hR0 := box3_rw w (.int .i64 0) (.int .i64 0) (.int .i64 0) 36 w.heap.size (Nat.le_refl _)
  go_enter Tryz.func13, Tryz.ntmps13
  go_wp2_with fail
  refine (wordsOf_is s _ (by omega)).mono ?_
  rintro e w1 ⟨v, rfl, ho, hb1⟩
  have hRr := owns_below hR0 hb1
  have b1 : Below w.heap.size w w1 := bel_trans (by go_grown) hb1
  clear hb1 hR0
  obtain ⟨a, cap, rfl, hO⟩ := OwnT.of_owns ho
  have hcount := wordsT_count s
  have K := instrOfWords_any a (wordsT s).length cap (wordsT s) w1 hO.strs (by omega) (fun t ht => by have := wordsT_size t ht; unfold maxLen; omega) (hT.below b1)
  clear ho hO
  generalize (wordsT s).length = n at K
  go_wp2_with fail
  refine K.mono ?_
  rintro e w2 ⟨hk, hb2⟩
  replace hRr := owns_below hRr hb2
  have hbw := bel_trans b1 hb2
  clear hb2 K b1
  rcases hk with ⟨x, hx, rfl⟩ | ⟨hN, y, rfl⟩
  · have HY : Hid (IsIns s x 0) := .inl ⟨rfl, hx⟩
    clear hx
    obtain ⟨x0, x1, x2⟩ := x
    unfold I3.val
    have hRa := hRr.alloc (.cells #[.int .i64 x0, .int .i64 x1, .int .i64 x2] 36)
    have hba : Below w.heap.size w (w2.alloc (.cells #[.int .i64 x0, .int .i64 x1, .int .i64 x2] 36)) := bel_trans hbw (by go_grown)
    have kR0 : w2.cell? ⟨w.heap.size, 0, none⟩ = some (.int .i64 0) := by simpa using hRr.cellAt 0 (by omega)
    have kR1 : w2.cell? ⟨w.heap.size, 1, none⟩ = some (.int .i64 0) := by simpa using hRr.cellAt 1 (by omega)
    have kR2 : w2.cell? ⟨w.heap.size, 2, none⟩ = some (.int .i64 0) := by simpa using hRr.cellAt 2 (by omega)
    have fR0 := hRr.frozenAt 0
    have fR1 := hRr.frozenAt 1
    have fR2 := hRr.frozenAt 2
    have hlt := (hRr.lt w.heap.size rfl).2
    have hRn := ((((hRr.stored 0 (.int .i64 x0)).1.stored 1 (.int .i64 x1)).1.stored 2 (.int .i64 x2)).1).alloc (.cells #[.int .i64 x0, .int .i64 x1, .int .i64 x2] 36)
    have hb9 := (((hbw.setCell (p := ⟨w.heap.size, 0, none⟩) (Nat.le_refl _) (.int .i64 x0)).setCell (p := ⟨w.heap.size, 1, none⟩) (Nat.le_refl _) (.int .i64 x1)).setCell (p := ⟨w.heap.size, 2, none⟩) (Nat.le_refl _) (.int .i64 x2)).alloc (by simp; omega) (.cells #[.int .i64 x0, .int .i64 x1, .int .i64 x2] 36)
    clear hRr hbw hRa hba
    go_wp2
    clear kR0 kR1 kR2 fR0 fR1 fR2
    generalize (((w2.setCell ⟨w.heap.size, 0, none⟩ (.int .i64 x0)).setCell ⟨w.heap.size, 1, none⟩ (.int .i64 x1)).setCell ⟨w.heap.size, 2, none⟩ (.int .i64 x2)).alloc (.cells #[.int .i64 x0, .int .i64 x1, .int .i64 x2] 36) = w9 at hRn hb9
    have k0 : w9.cell? ⟨w.heap.size, 0, none⟩ = some (.int .i64 x0) := by simpa using hRn.cellAt 0 (by omega)
    have k1 : w9.cell? ⟨w.heap.size, 1, none⟩ = some (.int .i64 x1) := by simpa using hRn.cellAt 1 (by omega)
    have k2 : w9.cell? ⟨w.heap.size, 2, none⟩ = some (.int .i64 x2) := by simpa using hRn.cellAt 2 (by omega)
    refine bodyPost_ret (by simp [results, Tryz.results13, go_sem, k0, k1, k2]; try rfl) rfl ?_
    exact ⟨⟨(x0, x1, x2), 0, HY.out, rfl⟩, hb9⟩
  · have HY : Hid (IsIns s (0, 0, 0) 3) := .inr ⟨rfl, rfl, hN⟩
    clear hN
    obtain ⟨y0, y1, y2⟩ := y
    unfold I3.val
    have kR0 : w2.cell? ⟨w.heap.size, 0, none⟩ = some (.int .i64 0) := by simpa using hRr.cellAt 0 (by omega)
    have kR1 : w2.cell? ⟨w.heap.size, 1, none⟩ = some (.int .i64 0) := by simpa using hRr.cellAt 1 (by omega)
    have kR2 : w2.cell? ⟨w.heap.size, 2, none⟩ = some (.int .i64 0) := by simpa using hRr.cellAt 2 (by omega)
    have fR0 := hRr.frozenAt 0
    have fR1 := hRr.frozenAt 1
    have fR2 := hRr.frozenAt 2
    have hlt := (hRr.lt w.heap.size rfl).2
    have hRn := ((((hRr.stored 0 (.int .i64 0)).1.stored 1 (.int .i64 0)).1.stored 2 (.int .i64 0)).1).alloc (.cells #[.int .i64 y0, .int .i64 y1, .int .i64 y2] 36)
    have hb9 := (((hbw.setCell (p := ⟨w.heap.size, 0, none⟩) (Nat.le_refl _) (.int .i64 0)).setCell (p := ⟨w.heap.size, 1, none⟩) (Nat.le_refl _) (.int .i64 0)).setCell (p := ⟨w.heap.size, 2, none⟩) (Nat.le_refl _) (.int .i64 0)).alloc (by simp; omega) (.cells #[.int .i64 y0, .int .i64 y1, .int .i64 y2] 36)
    clear hRr hbw
    go_wp2
    clear kR0 kR1 kR2 fR0 fR1 fR2
    generalize (((w2.setCell ⟨w.heap.size, 0, none⟩ (.int .i64 0)).setCell ⟨w.heap.size, 1, none⟩ (.int .i64 0)).setCell ⟨w.heap.size, 2, none⟩ (.int .i64 0)).alloc (.cells #[.int .i64 y0, .int .i64 y1, .int .i64 y2] 36) = w9 at hRn hb9
    have k0 : w9.cell? ⟨w.heap.size, 0, none⟩ = some (.int .i64 0) := by simpa using hRn.cellAt 0 (by omega)
    have k1 : w9.cell? ⟨w.heap.size, 1, none⟩ = some (.int .i64 0) := by simpa using hRn.cellAt 1 (by omega)
    have k2 : w9.cell? ⟨w.heap.size, 2, none⟩ = some (.int .i64 0) := by simpa using hRn.cellAt 2 (by omega)
    refine bodyPost_ret (by simp [results, Tryz.results13, go_sem, k0, k1, k2]; try rfl) rfl ?_
    exact ⟨⟨(0, 0, 0), 3, HY.out, rfl⟩, hb9⟩

theorem implReadInstr_long (s : ByteArray) (w : World) (hs : s.size ≤ 1048576) (h : 65536 < s.size) : Calls Tryz.prog 13 #[.string s] w fun e w' => e = .returned (.tuple #[.agg #[.int .i64 0, .int .i64 0, .int .i64 0], .int .i64 2]) ∧ Below w.heap.size w w' := by
  go_enter Tryz.func13, Tryz.ntmps13
  go_wp2
  go_returns
  exact ⟨rfl, by go_grown⟩
end Go.Proofs.YtiokkoaalakakaaGreatDoor
