/-
  FnProgram, part 29 of 50 (UnProgI).
-/
import Derived.Test.YtiokkoaalakakaaGreatDoorJ19
import Derived.Test.YtiokkoaalakakaaGreatDoorJ28

/-
  impl.UnpackProgram: the program that the bytes are, in memory of its own, or ErrForm.
-/
namespace Go.Proofs.YtiokkoaalakakaaGreatDoor
open Go.RowKit

theorem numsAt_small {s : ByteArray} : ∀ {zs : List Nat} {p q : Nat}, NumsAt s p zs q → ∀ z ∈ zs, z ≤ 999999999
  | [], _, _, _, z, hz => by cases hz
  | y :: zs, p, q, h, z, hz => by
    obtain ⟨k, hk, hr⟩ := h
    rcases List.mem_cons.1 hz with rfl | hz
    · exact hk.val_le
    · exact numsAt_small hr z hz
theorem Listed.small {s : ByteArray} {zs : List Nat} (h : Listed s zs) : Go.Proofs.YtiokkoaalakakaaGreatDoor.small (ofNats zs) := by
  obtain ⟨k, _, _, hz⟩ := h
  intro z hm
  obtain ⟨y, hy, rfl⟩ := List.mem_map.1 hm
  have := numsAt_small hz y hy
  exact ⟨by omega, by omega⟩

/-- What UnpackProgram answers of a text of at most 65536 bytes: the rows and the code. -/
def IsProg (s : ByteArray) (rows : List (List I3)) (c : Int) : Prop :=
  (c = 0 ∧ ∃ zs, Listed s zs ∧ parse 3 (ofNats zs) = some rows ∧ progOk rows = true) ∨
  (c = 3 ∧ rows = [] ∧ ∀ zs rows', Listed s zs → parse 3 (ofNats zs) = some rows' → progOk rows' = false)
theorem IsProg.same {s : ByteArray} {r r' : List (List I3)} {c c' : Int} (h : IsProg s r c) (g : IsProg s r' c') : r = r' ∧ c = c' := by
  rcases h with ⟨rfl, zs, hL, hp, ho⟩ | ⟨rfl, rfl, hn⟩ <;> rcases g with ⟨rfl, ys, gL, gp, go⟩ | ⟨rfl, rfl, gn⟩
  · obtain rfl := hL.only gL
    rw [hp] at gp
    cases gp
    exact ⟨rfl, rfl⟩
  · have := gn _ _ hL hp
    rw [ho] at this
    cases this
  · have := hn _ _ gL gp
    rw [go] at this
    cases this
  · exact ⟨rfl, rfl⟩
theorem IsProg.of_read {s : ByteArray} {zs : List Nat} (hL : Listed s zs) (hn : ∀ rows, parse 3 (ofNats zs) = some rows → progOk rows = false) : IsProg s [] 3 :=
  .inr ⟨rfl, rfl, fun ys rows' gL gp => by
    obtain rfl := hL.only gL
    exact hn _ gp⟩
theorem IsProg.of_none {s : ByteArray} (hn : NoList s) : IsProg s [] 3 := .inr ⟨rfl, rfl, fun ys _ gL _ => absurd gL (hn ys)⟩
def UnProg (s : ByteArray) (base : Nat) (e : Ending) (w' : World) : Prop :=
  ∃ (v : Value) (rows : List (List I3)) (c : Int), IsProg s rows c ∧ e = .returned (.tuple #[.agg #[v], .int .i64 c]) ∧ allFit rows ∧ OwnProg w' base v rows
theorem allFit_nil : allFit [] := fun r hr => by cases hr

set_option maxHeartbeats 2000000 in
set_option maxRecDepth 100000 in
theorem implUnProg_any (s : ByteArray) (w : World) (hs : s.size ≤ 65536) (hE : ErrType w) :
    Calls Tryz.prog 10 #[.string s] w fun e w' => UnProg s w.heap.size e w' ∧ Below w.heap.size w w' := by
  go_enter Tryz.func10, Tryz.ntmps10
  go_wp2_with fail
  refine (implUnpackList_any s _ hs (hE.below (by go_grown))).mono ?_
  rintro e w1 ⟨⟨a, cap, zs, c, hU, rfl, hO⟩, hb1⟩
  have kR : w1.cell? ⟨w.heap.size, 0, none⟩ = some (.slice none 0 0) := by rw [hb1.cell (by simp)]; simp [go_sem]
  have fR : w1.frozen? ⟨w.heap.size, 0, none⟩ = false := by rw [hb1.frozen (by simp)]; first | (simp [go_sem]; done) | (simp [World.frozen?]; done)
  have b1 : Below w.heap.size w w1 := bel_trans (by go_grown) hb1
  have hz4 := hU.len
  have HU : Hid (IsUnpacked s zs c) := hU
  have hI := hO.ints
  clear hb1 hU hO hE
  obtain ⟨n, hn⟩ : ∃ n, n = zs.length := ⟨_, rfl⟩
  rw [← hn] at hI hz4
  rw [← hn]
  rcases HU.out with ⟨rfl, hL⟩ | ⟨rfl, hN, rfl⟩
  · have HL : Hid (Listed s zs) := hL
    have KP := programOfList_any a n cap (ofNats zs) w1 hI hL.small hz4
    clear hL HU hI hn
    go_wp2_with fail
    refine KP.mono ?_
    rintro e w2 ⟨hk2, hb2⟩
    clear KP
    rcases hk2 with ⟨rows, v, hp, hok, rfl, hfit, hOP⟩ | ⟨hno, aV, lV, cV, rfl⟩
    · have HP : Hid (IsProg s rows 0) := .inl ⟨rfl, zs, HL.out, hp, hok⟩
      clear HL hp hok
      obtain ⟨aV, capV, hv⟩ := hOP.slice
      generalize rows.length = lr at hv
      subst hv
      have kR2 := cells_kept hb2 _ _ kR
      have hR2 := lt_of_cell kR2
      have fR2 : w2.frozen? ⟨w.heap.size, 0, none⟩ = false := by rw [hb2.frozen (by exact lt_of_cell kR)]; exact fR
      have b2 := bel_trans b1 hb2
      have hRw : w.heap.size < w1.heap.size := lt_of_cell kR
      have hOP4 := ((hOP.low (p := ⟨w.heap.size, 0, none⟩) hRw (.slice aV lr capV)).below (w' := (w2.setCell ⟨w.heap.size, 0, none⟩ (.slice aV lr capV)).alloc (.cells #[.slice aV lr capV] 25)) (by go_grown)).lower (B' := w.heap.size) (by omega)
      have k9 : ((w2.setCell ⟨w.heap.size, 0, none⟩ (.slice aV lr capV)).alloc (.cells #[.slice aV lr capV] 25)).cell? ⟨w.heap.size, 0, none⟩ = some (.slice aV lr capV) := cells_kept (by go_grown) _ _ (World.cell?_setCell_same' w2 _ _ (by rw [kR2]; rfl))
      have b4 : Below w.heap.size w ((w2.setCell ⟨w.heap.size, 0, none⟩ (.slice aV lr capV)).alloc (.cells #[.slice aV lr capV] 25)) := (b2.setCell (Nat.le_refl _) _).alloc (by simp; omega) _
      clear kR fR b1 hb2 hOP b2
      go_wp2
      clear kR2 fR2
      generalize (w2.setCell ⟨w.heap.size, 0, none⟩ (.slice aV lr capV)).alloc (.cells #[.slice aV lr capV] 25) = w9 at k9 b4 hOP4
      refine bodyPost_ret (by simp [results, Tryz.results10, go_sem, k9]; try rfl) rfl ?_
      exact ⟨⟨_, rows, 0, HP.out, rfl, hfit, hOP4⟩, b4⟩
    · have HP : Hid (IsProg s [] 3) := IsProg.of_read HL.out hno
      clear HL hno
      have kR2 := cells_kept hb2 _ _ kR
      have hR2 := lt_of_cell kR2
      have fR2 : w2.frozen? ⟨w.heap.size, 0, none⟩ = false := by rw [hb2.frozen (by exact lt_of_cell kR)]; exact fR
      have b2 := bel_trans b1 hb2
      have k9 : ((w2.setCell ⟨w.heap.size, 0, none⟩ (.slice none 0 0)).alloc (.cells #[.slice aV lV cV] 25)).cell? ⟨w.heap.size, 0, none⟩ = some (.slice none 0 0) := cells_kept (by go_grown) _ _ (World.cell?_setCell_same' w2 _ _ (by rw [kR2]; rfl))
      have b4 : Below w.heap.size w ((w2.setCell ⟨w.heap.size, 0, none⟩ (.slice none 0 0)).alloc (.cells #[.slice aV lV cV] 25)) := (b2.setCell (Nat.le_refl _) _).alloc (by simp; omega) _
      clear kR fR b1 hb2 b2
      go_wp2
      clear kR2 fR2
      generalize (w2.setCell ⟨w.heap.size, 0, none⟩ (.slice none 0 0)).alloc (.cells #[.slice aV lV cV] 25) = w9 at k9 b4
      refine bodyPost_ret (by simp [results, Tryz.results10, go_sem, k9]; try rfl) rfl ?_
      exact ⟨⟨_, [], 3, HP.out, rfl, allFit_nil, OwnProg.nil _ _⟩, b4⟩
  · have HP : Hid (IsProg s [] 3) := IsProg.of_none hN
    have b4 : Below w.heap.size w (w1.setCell ⟨w.heap.size, 0, none⟩ (.slice none 0 0)) := b1.setCell (Nat.le_refl _) _
    have k9 : (w1.setCell ⟨w.heap.size, 0, none⟩ (.slice none 0 0)).cell? ⟨w.heap.size, 0, none⟩ = some (.slice none 0 0) := World.cell?_setCell_same' w1 _ _ (by rw [kR]; rfl)
    clear hN HU hI hn b1
    go_wp2
    clear kR fR
    generalize w1.setCell ⟨w.heap.size, 0, none⟩ (.slice none 0 0) = w9 at k9 b4
    refine bodyPost_ret (by simp [results, Tryz.results10, go_sem, k9]; try rfl) rfl ?_
    exact ⟨⟨_, [], 3, HP.out, rfl, allFit_nil, OwnProg.nil _ _⟩, b4⟩

set_option maxHeartbeats 1000000 in
set_option maxRecDepth 100000 in
theorem implUnProg_long (s : ByteArray) (w : World) (hs : s.size ≤ 1048576) (h : 65536 < s.size) :
    Calls Tryz.prog 10 #[.string s] w fun e w' => e = .returned (.tuple #[.agg #[.slice none 0 0], .int .i64 2]) ∧ Below w.heap.size w w' := by
  go_enter Tryz.func10, Tryz.ntmps10
  go_wp2_with fail
  refine (implUnpackList_long s _ hs h).mono ?_
  rintro e w1 ⟨rfl, rfl⟩
  go_wp2
  go_returns
  exact ⟨rfl, by go_grown⟩
end Go.Proofs.YtiokkoaalakakaaGreatDoor
