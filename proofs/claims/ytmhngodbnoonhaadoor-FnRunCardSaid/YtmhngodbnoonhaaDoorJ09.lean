/-
  FnRun, part 9 of 50 (Marks, MarkV, MarkW, OwnS).
-/
import Derived.Test.YtmhngodbnoonhaaDoorJ01
import Derived.Test.YtmhngodbnoonhaaDoorJ02
import Derived.Test.YtmhngodbnoonhaaDoorJ07

/-
  The laws' helpers that mark a slice of integers and look whether the marks are held: markIntS writes k, k + 1, ... into a slice of the call's own; heldIntS finds them.
-/
namespace Go.Proofs.YtmhngodbnoonhaaDoor
open Go.RowKit

/-- The first j numbers of a list marked, from k on. -/
def mkTo : Int → List Int → Nat → List Int
  | _, xs, 0 => xs
  | _, [], _ + 1 => []
  | k, _ :: xs, j + 1 => k :: mkTo (k + 1) xs j
theorem mkTo_len : ∀ (k : Int) (xs : List Int) (j : Nat), (mkTo k xs j).length = xs.length
  | _, xs, 0 => by simp [mkTo]
  | _, [], _ + 1 => by simp [mkTo]
  | k, _ :: xs, j + 1 => by simp [mkTo, mkTo_len]
theorem mkTo_set : ∀ (k : Int) (xs : List Int) (j : Nat), j < xs.length → (mkTo k xs j).set j (k + j) = mkTo k xs (j + 1)
  | _, [], j, h => by simp at h
  | k, x :: xs, 0, _ => by simp [mkTo]
  | k, x :: xs, j + 1, h => by
    have ih := mkTo_set (k + 1) xs j (by simpa using h)
    have e : k + ((j + 1 : Nat) : Int) = k + 1 + (j : Int) := by omega
    rw [e]
    simp only [mkTo, List.set_cons_succ, ih]
theorem mkTo_get : ∀ (k : Int) (xs : List Int) (j i : Nat), i < j → j ≤ xs.length → (mkTo k xs j).getD i 0 = k + i
  | _, xs, 0, i, h, _ => by omega
  | _, [], j + 1, i, _, h => by simp at h
  | k, x :: xs, j + 1, 0, _, _ => by simp [mkTo]
  | k, x :: xs, j + 1, i + 1, h, hl => by
    have ih := mkTo_get (k + 1) xs j i (by omega) (by simpa using hl)
    have e : k + ((i + 1 : Nat) : Int) = k + 1 + (i : Int) := by omega
    rw [e, ← ih]
    simp [mkTo]

set_option maxHeartbeats 1000000 in
set_option maxRecDepth 100000 in
theorem markIntS_own (base g n cap : Nat) (k : Int) (xs : List Int) (w : World) (hk0 : 0 ≤ k) (hk : k ≤ 1000000000) (hn : n ≤ 1048576) (ho : w.ownsRow base 3 1 (.slice (some ⟨g, 0, none⟩) n cap) n (xs.map (Value.int .i64))) :
    Calls Tryd.prog 36 #[.slice (some ⟨g, 0, none⟩) n cap, .int .i64 k] w fun e w' => e = .returned (.int .i64 (k + n)) ∧
      w'.ownsRow base 3 1 (.slice (some ⟨g, 0, none⟩) n cap) n ((mkTo k xs n).map (Value.int .i64)) ∧ Below base w w' := by
  have hlen : xs.length = n := by simpa using ho.1
  have hbg := (ho.lt g rfl).1
  go_enter Tryd.func36, Tryd.ntmps36
  go_wp2
  go_loopw [1, 5] (fun sk si wr => ∃ j : Nat, j ≤ n ∧ si = .int .i64 j ∧ sk = .int .i64 (k + j) ∧ wr.ownsRow base 3 1 (.slice (some ⟨g, 0, none⟩) n cap) n ((mkTo k xs j).map (Value.int .i64)) ∧ Below base w wr) (fun _ si _ => n - (intOf si).toNat)
  case atStart => exact ⟨0, by omega, rfl, by go_num, by simpa [mkTo] using ho, Below.refl _ _⟩
  case round =>
    obtain ⟨j, hj, rfl, rfl, hr, hbel⟩ := hrel
    by_cases hlt : j < n
    · have hf := hr.frozenAt j
      have hst := (hr.stored j (.int .i64 (k + j))).1
      rw [← List.map_set, mkTo_set k xs j (by omega)] at hst
      have hold : ∃ u, wr.cell? ⟨g, j, none⟩ = some u := by
        have := hr.cellAt j (by omega)
        rw [this]
        exact ⟨_, List.getElem?_eq_getElem (by simp [mkTo_len]; omega)⟩
      obtain ⟨u, hu⟩ := hold
      have hb1 : Below base w (wr.setCell ⟨g, j, none⟩ (.int .i64 (k + j))) := hbel.setCell hbg _
      clear hr ho
      go_wp2
      go_roundw
      case rel => exact ⟨j + 1, by omega, by go_num, by go_num, hst, hb1⟩
      case measure => simp [intOf]; omega
    · obtain rfl : j = n := by omega
      go_wp2
      go_ret
      exact ⟨rfl, hr, hbel⟩

theorem markIntS_none (a : Option Addr) (cap : Nat) (k : Int) (w : World) :
    Calls Tryd.prog 36 #[.slice a 0 cap, .int .i64 k] w fun e w' => e = .returned (.int .i64 k) ∧ w = w' := by
  go_enter Tryd.func36, Tryd.ntmps36
  go_wp2
  refine wp_loop_rounds 1 ?_
  rw [rounds_succ]
  go_wp2
  go_ret
  exact ⟨rfl, rfl⟩

set_option maxHeartbeats 1000000 in
set_option maxRecDepth 100000 in
theorem heldIntS_yes (a : Option Addr) (n cap : Nat) (k : Int) (zs : List Int) (w : World) (hk0 : 0 ≤ k) (hk : k ≤ 1000000000) (hn : n ≤ 1048576) (h : Ints .i64 w a n cap zs) (hm : ∀ i, i < n → zs.getD i 0 = k + i) :
    Calls Tryd.prog 44 #[.slice a n cap, .int .i64 k] w fun e w' => e = .returned (.int .i64 (k + n)) ∧ w = w' := by
  obtain ⟨hl, hlc, hcm, hcase⟩ := h
  unfold maxLen at hcm
  by_cases h0 : n = 0
  · subst h0
    have e0 : k + ((0 : Nat) : Int) = k := by omega
    rw [e0]
    go_enter Tryd.func44, Tryd.ntmps44
    go_wp2
    refine wp_loop_rounds 1 ?_
    rw [rounds_succ]
    go_wp2
    go_ret
    exact ⟨rfl, rfl⟩
  · rcases hcase with h0' | ⟨b, off, rfl, hblt, hcell⟩
    · exact absurd h0' h0
    go_enter Tryd.func44, Tryd.ntmps44
    go_wp2
    go_loop [1, 5] (fun sk si => ∃ j : Nat, j ≤ n ∧ si = .int .i64 j ∧ sk = .int .i64 (k + j)) (fun _ si => n - (intOf si).toNat)
    case atStart => exact ⟨0, by omega, rfl, by go_num⟩
    case round =>
      obtain ⟨j, hj, rfl, rfl⟩ := hrel
      by_cases hlt : j < n
      · have hc := hcell j hlt
        rw [hm j hlt] at hc
        have hne : ((k + (j : Int)) != (k + (j : Int))) = false := by simp
        clear hcell hm
        go_wp2
        go_round
        case rel => exact ⟨j + 1, by omega, by go_num, by go_num⟩
        case measure => simp [intOf]; omega
      · obtain rfl : j = n := by omega
        go_wp2
        go_ret
        exact ⟨rfl, rfl⟩
end Go.Proofs.YtmhngodbnoonhaaDoor


/-
  The laws' helpers that mark a state in memory of its own and look whether the marks are held: markVm, heldVm.
-/
namespace Go.Proofs.YtmhngodbnoonhaaDoor
open Go.RowKit

theorem Sl.some_or {w : World} {B : Nat} {s : Sl} {zs : List Int} (h : OwnI w B s zs) : (s = (none, 0, 0) ∧ zs = []) ∨ ∃ g n c, s = (some ⟨g, 0, none⟩, n, c) := by
  obtain ⟨a, n, c⟩ := s
  unfold OwnI at h
  simp only at h
  rcases h.2 with ⟨h0, h1⟩ | ⟨g, cap, cur, hv, _⟩
  · cases h0
    exact .inl ⟨rfl, by simpa using h.1⟩
  · cases hv
    exact .inr ⟨g, n, c, rfl⟩

set_option maxHeartbeats 1000000 in
set_option maxRecDepth 100000 in
theorem markIntS_grown0 (base g n cap : Nat) (k : Int) (xs : List Int) (w : World) (hk0 : 0 ≤ k) (hk : k ≤ 1000000000) (hn : n ≤ 1048576) (ho : w.ownsRow base 3 1 (.slice (some ⟨g, 0, none⟩) n cap) n (xs.map (Value.int .i64))) :
    Calls Tryd.prog 36 #[.slice (some ⟨g, 0, none⟩) n cap, .int .i64 k] w fun e w' => e = .returned (.int .i64 (k + n)) ∧
      w'.ownsRow base 3 1 (.slice (some ⟨g, 0, none⟩) n cap) n ((mkTo k xs n).map (Value.int .i64)) ∧ w.grownBy w' (some g) := by
  have hlen : xs.length = n := by simpa using ho.1
  go_enter Tryd.func36, Tryd.ntmps36
  go_wp2
  go_loopw [1, 5] (fun sk si wr => ∃ j : Nat, j ≤ n ∧ si = .int .i64 j ∧ sk = .int .i64 (k + j) ∧ wr.ownsRow base 3 1 (.slice (some ⟨g, 0, none⟩) n cap) n ((mkTo k xs j).map (Value.int .i64)) ∧ w.grownBy wr (some g)) (fun _ si _ => n - (intOf si).toNat)
  case atStart => exact ⟨0, by omega, rfl, by go_num, by simpa [mkTo] using ho, World.grownBy.refl _ _⟩
  case round =>
    obtain ⟨j, hj, rfl, rfl, hr, hbel⟩ := hrel
    by_cases hlt : j < n
    · have hf := hr.frozenAt j
      have hst := (hr.stored j (.int .i64 (k + j))).1
      rw [← List.map_set, mkTo_set k xs j (by omega)] at hst
      have hold : ∃ u, wr.cell? ⟨g, j, none⟩ = some u := by
        have := hr.cellAt j (by omega)
        rw [this]
        exact ⟨_, List.getElem?_eq_getElem (by simp [mkTo_len]; omega)⟩
      obtain ⟨u, hu⟩ := hold
      have hb1 := grownBy_tr hbel (grownBy_set wr g j (.int .i64 (k + j)))
      clear hr ho
      go_wp2
      go_roundw
      case rel => exact ⟨j + 1, by omega, by go_num, by go_num, hst, hb1⟩
      case measure => simp [intOf]; omega
    · obtain rfl : j = n := by omega
      go_wp2
      go_ret
      exact ⟨rfl, hr, hbel⟩

theorem markIntS_grown (B : Nat) (s : Sl) (k : Int) (xs : List Int) (w : World) (hk0 : 0 ≤ k) (hk : k ≤ 1000000000) (hn : s.2.1 ≤ 1048576) (ho : OwnI w B s xs) :
    Calls Tryd.prog 36 #[.slice s.1 s.2.1 s.2.2, .int .i64 k] w fun e w' => e = .returned (.int .i64 (k + s.2.1)) ∧ OwnI w' B s (mkTo k xs s.2.1) ∧ w.grownBy w' (Value.slice s.1 s.2.1 s.2.2).ownBlock := by
  rcases Sl.some_or ho with ⟨rfl, rfl⟩ | ⟨g, n, c, rfl⟩
  · refine (markIntS_none none 0 k w).mono ?_
    rintro e w' ⟨rfl, rfl⟩
    exact ⟨by simp, ho, World.grownBy.refl _ _⟩
  · exact markIntS_grown0 B g n c k xs w hk0 hk hn ho

/-- Only blocks of these four slices were turned. -/
def KeptOff (s : S4) (w w' : World) : Prop := ∀ j, j < w.heap.size → (Value.slice s.1.1 s.1.2.1 s.1.2.2).ownBlock ≠ some j → (Value.slice s.2.1.1 s.2.1.2.1 s.2.1.2.2).ownBlock ≠ some j → (Value.slice s.2.2.1.1 s.2.2.1.2.1 s.2.2.1.2.2).ownBlock ≠ some j → (Value.slice s.2.2.2.1 s.2.2.2.2.1 s.2.2.2.2.2).ownBlock ≠ some j → w'.heap[j]? = w.heap[j]?

/-- A state with all its numbers marked, from k on. -/
def mkV (k : Int) (m : V4) : V4 :=
  (mkTo k m.1 m.1.length, mkTo (k + m.1.length) m.2.1 m.2.1.length, mkTo (k + m.1.length + m.2.1.length) m.2.2.1 m.2.2.1.length, mkTo (k + m.1.length + m.2.1.length + m.2.2.1.length) m.2.2.2 m.2.2.2.length)
def cntV (m : V4) : Int := (m.1.length : Int) + m.2.1.length + m.2.2.1.length + m.2.2.2.length

theorem OwnI.len {w : World} {B : Nat} {s : Sl} {zs : List Int} (h : OwnI w B s zs) : zs.length = s.2.1 := by
  have := h.1
  simpa using this
theorem OwnI.kept {w w' : World} {B : Nat} {s s' : Sl} {zs : List Int} (h : OwnI w B s zs) (hg : w.grownBy w' (Value.slice s'.1 s'.2.1 s'.2.2).ownBlock) (ha : Apart s s') : OwnI w' B s zs := by
  refine World.ownsRow.kept h hg ?_
  cases hb : (Value.slice s.1 s.2.1 s.2.2).ownBlock with
  | none => exact .inl rfl
  | some g => exact .inr fun e => ha g hb e.symm
theorem Apart.symm {s s' : Sl} (h : Apart s s') : Apart s' s := fun g h1 h2 => h g h2 h1

theorem Hid.mk9 {p : Prop} (h : p) : Hid p := h

/-- All numbers of a state are marks, from k on. -/
def Marked (k : Int) (m : V4) : Prop := (∀ i, i < m.1.length → m.1.getD i 0 = k + i) ∧ (∀ i, i < m.2.1.length → m.2.1.getD i 0 = k + m.1.length + i) ∧ (∀ i, i < m.2.2.1.length → m.2.2.1.getD i 0 = k + m.1.length + m.2.1.length + i) ∧ ∀ i, i < m.2.2.2.length → m.2.2.2.getD i 0 = k + m.1.length + m.2.1.length + m.2.2.1.length + i
theorem marked_mkV (k : Int) (m : V4) : Marked k (mkV k m) := by
  unfold Marked mkV
  simp only [mkTo_len]
  exact ⟨fun i hi => mkTo_get _ _ _ i hi (Nat.le_refl _), fun i hi => mkTo_get _ _ _ i hi (Nat.le_refl _), fun i hi => mkTo_get _ _ _ i hi (Nat.le_refl _), fun i hi => mkTo_get _ _ _ i hi (Nat.le_refl _)⟩
theorem cnt_mkV (k : Int) (m : V4) : cntV (mkV k m) = cntV m := by
  unfold cntV mkV
  simp only [mkTo_len]

end Go.Proofs.YtmhngodbnoonhaaDoor


/-
  Small laws for a law's walk with marks: rows and states of one's own over what turns rows of another type or other blocks.
-/
namespace Go.Proofs.YtmhngodbnoonhaaDoor
open Go.RowKit

theorem OwnProg.codes9 {w : World} {B : Nat} {a : Option Addr} {len cap : Nat} {rows : List (List I3)} (h : OwnProg w B (.slice a len cap) rows) {w0 : World} {a0 : Option Addr} {len0 cap0 : Nat} (h0 : Codes w0 a0 len0 cap0 rows) : Codes w a len cap rows := by
  refine h.codes fun r hr x hx => ?_
  obtain ⟨hl, _, _, hc⟩ := h0
  obtain ⟨t, ht, rfl⟩ := List.getElem_of_mem hr
  rcases hc with hc | ⟨b, off, _, _, hc⟩
  · omega
  · obtain ⟨_, _, _, _, hI⟩ := hc t (by omega)
    have e : rows.getD t [] = rows[t] := by simp [List.getD, ht]
    rw [e] at hI
    exact hI.2.2.2.1 x hx
theorem OwnI.lower9 {w : World} {B B' : Nat} {s : Sl} {zs : List Int} (h : OwnI w B s zs) (hB : B' ≤ B) : OwnI w B' s zs := own_lower h hB
theorem OwnV.lower9 {w : World} {B B' : Nat} {s : S4} {m : V4} (h : OwnV w B s m) (hB : B' ≤ B) : OwnV w B' s m := ⟨⟨h.1.1.lower9 hB, h.1.2.1.lower9 hB, h.1.2.2.1.lower9 hB, h.1.2.2.2.lower9 hB⟩, h.2⟩
/-- Where a state's four rows lie. -/
def Blocks (s : S4) (n : Nat) : Prop := (∀ g, (Value.slice s.1.1 s.1.2.1 s.1.2.2).ownBlock = some g → g < n) ∧ (∀ g, (Value.slice s.2.1.1 s.2.1.2.1 s.2.1.2.2).ownBlock = some g → g < n) ∧ (∀ g, (Value.slice s.2.2.1.1 s.2.2.1.2.1 s.2.2.1.2.2).ownBlock = some g → g < n) ∧ ∀ g, (Value.slice s.2.2.2.1 s.2.2.2.2.1 s.2.2.2.2.2).ownBlock = some g → g < n
theorem OwnV.blocks {w : World} {B : Nat} {s : S4} {m : V4} (h : OwnV w B s m) : Blocks s w.heap.size := ⟨fun g hg => (h.1.1.lt g hg).2, fun g hg => (h.1.2.1.lt g hg).2, fun g hg => (h.1.2.2.1.lt g hg).2, fun g hg => (h.1.2.2.2.lt g hg).2⟩
theorem Blocks.lt9 {s : S4} {n k : Nat} (h : Blocks s n) (hn : n ≤ k) : Blocks s k := ⟨fun g hg => Nat.lt_of_lt_of_le (h.1 g hg) hn, fun g hg => Nat.lt_of_lt_of_le (h.2.1 g hg) hn, fun g hg => Nat.lt_of_lt_of_le (h.2.2.1 g hg) hn, fun g hg => Nat.lt_of_lt_of_le (h.2.2.2 g hg) hn⟩
theorem OwnI.but9 {t : Nat} {w w' : World} {B : Nat} {s : Sl} {zs : List Int} (h : OwnI w B s zs) (hK : KeptBut t w w') (ht : 3 ≠ t) : OwnI w' B s zs := hK.owns h ht
theorem OwnV.but9 {t : Nat} {w w' : World} {B : Nat} {s : S4} {m : V4} (h : OwnV w B s m) (hK : KeptBut t w w') (ht : 3 ≠ t) : OwnV w' B s m := ⟨⟨h.1.1.but9 hK ht, h.1.2.1.but9 hK ht, h.1.2.2.1.but9 hK ht, h.1.2.2.2.but9 hK ht⟩, h.2⟩
theorem KeptBut.blk9 {t : Nat} {w w' : World} {g e : Nat} {cs : List Value} (hK : KeptBut t w w') (h : Blk w g e cs) (he : e ≠ t) : Blk w' g e cs := hK g _ e _ h he
/-- A row whose block lies behind those of a state that was turned. -/
theorem OwnI.off9 {w w' : World} {B n : Nat} {s : S4} {r : Sl} {zs : List Int} (h : OwnI w B r zs) (hK : KeptOff s w w') (hs : Blocks s n) (hn : n ≤ B) : OwnI w' B r zs := by
  refine ⟨h.1, ?_⟩
  rcases h.2 with h0 | ⟨g, cap, cur, hv, hg, hh, rest⟩
  · exact .inl h0
  · refine .inr ⟨g, cap, cur, hv, hg, ?_, rest⟩
    rw [hK g (Array.getElem?_eq_some_iff.1 hh).1 (fun e => by have := hs.1 g e; omega) (fun e => by have := hs.2.1 g e; omega) (fun e => by have := hs.2.2.1 g e; omega) (fun e => by have := hs.2.2.2 g e; omega)]
    exact hh
theorem OwnV.off9 {w w' : World} {B n : Nat} {s : S4} {r : S4} {m : V4} (h : OwnV w B r m) (hK : KeptOff s w w') (hs : Blocks s n) (hn : n ≤ B) : OwnV w' B r m := ⟨⟨h.1.1.off9 hK hs hn, h.1.2.1.off9 hK hs hn, h.1.2.2.1.off9 hK hs hn, h.1.2.2.2.off9 hK hs hn⟩, h.2⟩
theorem own_ne_blk9 {w : World} {B e s n g t : Nat} {v : Value} {xs cs : List Value} (h : w.ownsRow B e s v n xs) (hB : Blk w g t cs) (he : e ≠ t) : v.ownBlock ≠ some g := by
  rcases h.2 with ⟨rfl, _⟩ | ⟨g', cap, cur, rfl, _, hg, _⟩
  · simp [Value.ownBlock]
  · simp only [Value.ownBlock, ne_eq, Option.some.injEq]
    rintro rfl
    unfold Blk at hB
    rw [hg] at hB
    simp at hB
    exact he hB.2
theorem Blk.off9 {w w' : World} {B g e : Nat} {s : S4} {m : V4} {cs : List Value} (h : Blk w g e cs) (hK : KeptOff s w w') (hX : OwnV w B s m) (he : 3 ≠ e) : Blk w' g e cs :=
  (hK g h.lt (own_ne_blk9 hX.1.1 h he) (own_ne_blk9 hX.1.2.1 h he) (own_ne_blk9 hX.1.2.2.1 h he) (own_ne_blk9 hX.1.2.2.2 h he)).trans h
theorem Ints.low9 {w w' : World} {s : Sl} {zs : List Int} {B : Nat} (h : Ints .i64 w s.1 s.2.1 s.2.2 zs) (hs : ∀ g, (Value.slice s.1 s.2.1 s.2.2).ownBlock = some g → g < B) (hb : Below B w w') : Ints .i64 w' s.1 s.2.1 s.2.2 zs := by
  obtain ⟨h1, h2, h3, h4⟩ := h
  refine ⟨h1, h2, h3, ?_⟩
  rcases h4 with h4 | ⟨b, off, ha, hlt, hc⟩
  · exact .inl h4
  · have hbB : b < B := hs b (by rw [ha]; rfl)
    exact .inr ⟨b, off, ha, Nat.lt_of_lt_of_le hlt hb.size, fun t ht => by rw [hb.cell (p := ⟨b, off + t, none⟩) hbB]; exact hc t ht⟩
/-- A state whose rows lie below is kept. -/
theorem Vmem.low9 {w w' : World} {s : S4} {m : V4} {B : Nat} (h : Vmem w s m) (hs : Blocks s B) (hb : Below B w w') : Vmem w' s m :=
  ⟨⟨h.1.1.low9 hs.1 hb, h.1.2⟩, ⟨h.2.1.1.low9 hs.2.1 hb, h.2.1.2⟩, ⟨h.2.2.1.1.low9 hs.2.2.1 hb, h.2.2.1.2⟩, ⟨h.2.2.2.1.low9 hs.2.2.2 hb, h.2.2.2.2⟩⟩
end Go.Proofs.YtmhngodbnoonhaaDoor


/-
  A state in memory of its own: its cells, and what a store into one of its rows leaves.
-/
namespace Go.Proofs.YtmhngodbnoonhaaDoor
open Go.RowKit

theorem OwnI.at9 {w : World} {B g n c : Nat} {zs : List Int} (h : OwnI w B (some ⟨g, 0, none⟩, n, c) zs) {j : Nat} (hj : j < n) : w.cell? ⟨g, j, none⟩ = some (.int .i64 (zs.getD j 0)) := by
  have hl := h.len
  simp only at hl
  have := h.cellAt j (by simp only; omega)
  rw [this]
  simp [List.getElem?_eq_getElem (show j < zs.length by omega)]
theorem OwnI.frz9 {w : World} {B g n c : Nat} {zs : List Int} (h : OwnI w B (some ⟨g, 0, none⟩, n, c) zs) (j : Nat) : w.frozen? ⟨g, j, none⟩ = false := h.frozenAt j
theorem OwnI.set9 {w : World} {B g n c : Nat} {zs : List Int} (h : OwnI w B (some ⟨g, 0, none⟩, n, c) zs) (j : Nat) (v : Int) : OwnI (w.setCell ⟨g, j, none⟩ (.int .i64 v)) B (some ⟨g, 0, none⟩, n, c) (zs.set j v) := by
  have := (h.stored j (.int .i64 v)).1
  rw [← List.map_set] at this
  exact this
theorem OwnI.away9 {w : World} {B g n c : Nat} {s : Sl} {zs : List Int} (h : OwnI w B s zs) (ha : Apart (some ⟨g, 0, none⟩, n, c) s) (j : Nat) (v : Value) : OwnI (w.setCell ⟨g, j, none⟩ v) B s zs :=
  ownsRow_setCell_other h (fun e => ha g rfl e) v
theorem OwnI.lo9 {w : World} {B g n c : Nat} {zs : List Int} (h : OwnI w B (some ⟨g, 0, none⟩, n, c) zs) : B ≤ g ∧ g < w.heap.size := h.lt g rfl

section
variable {w : World} {B g n c : Nat} {s0 s1 s2 s3 : Sl} {m : V4}
theorem OwnV.set0 (h : OwnV w B ((some ⟨g, 0, none⟩, n, c), s1, s2, s3) m) (j : Nat) (v : Int) : OwnV (w.setCell ⟨g, j, none⟩ (.int .i64 v)) B ((some ⟨g, 0, none⟩, n, c), s1, s2, s3) (m.1.set j v, m.2) :=
  ⟨⟨h.1.1.set9 j v, h.1.2.1.away9 h.2.1 j _, h.1.2.2.1.away9 h.2.2.1 j _, h.1.2.2.2.away9 h.2.2.2.1 j _⟩, h.2⟩
theorem OwnV.set1 (h : OwnV w B (s0, (some ⟨g, 0, none⟩, n, c), s2, s3) m) (j : Nat) (v : Int) : OwnV (w.setCell ⟨g, j, none⟩ (.int .i64 v)) B (s0, (some ⟨g, 0, none⟩, n, c), s2, s3) (m.1, m.2.1.set j v, m.2.2) :=
  ⟨⟨h.1.1.away9 h.2.1.symm j _, h.1.2.1.set9 j v, h.1.2.2.1.away9 h.2.2.2.2.1 j _, h.1.2.2.2.away9 h.2.2.2.2.2.1 j _⟩, h.2⟩
theorem OwnV.set2 (h : OwnV w B (s0, s1, (some ⟨g, 0, none⟩, n, c), s3) m) (j : Nat) (v : Int) : OwnV (w.setCell ⟨g, j, none⟩ (.int .i64 v)) B (s0, s1, (some ⟨g, 0, none⟩, n, c), s3) (m.1, m.2.1, m.2.2.1.set j v, m.2.2.2) :=
  ⟨⟨h.1.1.away9 h.2.2.1.symm j _, h.1.2.1.away9 h.2.2.2.2.1.symm j _, h.1.2.2.1.set9 j v, h.1.2.2.2.away9 h.2.2.2.2.2.2 j _⟩, h.2⟩
theorem OwnV.set3 (h : OwnV w B (s0, s1, s2, (some ⟨g, 0, none⟩, n, c)) m) (j : Nat) (v : Int) : OwnV (w.setCell ⟨g, j, none⟩ (.int .i64 v)) B (s0, s1, s2, (some ⟨g, 0, none⟩, n, c)) (m.1, m.2.1, m.2.2.1, m.2.2.2.set j v) :=
  ⟨⟨h.1.1.away9 h.2.2.2.1.symm j _, h.1.2.1.away9 h.2.2.2.2.2.1.symm j _, h.1.2.2.1.away9 h.2.2.2.2.2.2.symm j _, h.1.2.2.2.set9 j v⟩, h.2⟩
end
theorem OwnI.some9 {w : World} {B : Nat} {s : Sl} {zs : List Int} {k : Nat} (h : OwnI w B s zs) (hl : zs.length = k) (hk : 0 < k) : ∃ g c, s = (some ⟨g, 0, none⟩, k, c) ∧ k ≤ c ∧ c ≤ maxLen := by
  have hi := h.ints
  rcases Sl.some_or h with ⟨rfl, rfl⟩ | ⟨g, n, c, rfl⟩
  · simp at hl; omega
  · obtain ⟨h1, h2, h3, _⟩ := hi
    simp only at h1 h2 h3
    exact ⟨g, c, by rw [← h1, hl], by omega, h3⟩
/-- A block of another type than int is none of a state's rows. -/
theorem OwnV.ne9 {w : World} {B g n c X t : Nat} {s1 s2 s3 : Sl} {m : V4} {cs : List Value} (h : OwnV w B ((some ⟨g, 0, none⟩, n, c), s1, s2, s3) m) (hX : Blk w X t cs) (ht : 3 ≠ t) : X ≠ g := fun e => own_ne_blk9 h.1.1 hX ht (by rw [e]; rfl)
theorem OwnI.ne9 {w : World} {B g n c X t : Nat} {zs : List Int} {cs : List Value} (h : OwnI w B (some ⟨g, 0, none⟩, n, c) zs) (hX : Blk w X t cs) (ht : 3 ≠ t) : X ≠ g := fun e => own_ne_blk9 h hX ht (by rw [e]; rfl)
theorem ownV_nil (w : World) (B : Nat) : OwnV w B ((none, 0, 0), (none, 0, 0), (none, 0, 0), (none, 0, 0)) ([], [], [], []) := by
  have h : OwnI w B (none, 0, 0) [] := World.ownsRow_nil _ _ _ _
  have a : Apart (none, 0, 0) (none, 0, 0) := fun g hg => by simp [Value.ownBlock] at hg
  exact ⟨⟨h, h, h, h⟩, a, a, a, a, a, a⟩
theorem OwnI.kept9 {w w' : World} {B X t : Nat} {s : Sl} {zs : List Int} {cs : List Value} (h : OwnI w B s zs) (hg : w.grownBy w' (some X)) (hX : Blk w X t cs) (ht : 3 ≠ t) : OwnI w' B s zs := World.ownsRow.kept h hg (.inr (own_ne_blk9 h hX ht))
theorem OwnI.awayB9 {w : World} {B X t : Nat} {s : Sl} {zs : List Int} {cs : List Value} (h : OwnI w B s zs) (hX : Blk w X t cs) (ht : 3 ≠ t) (j : Nat) (v : Value) : OwnI (w.setCell ⟨X, j, none⟩ v) B s zs := ownsRow_setCell_other h (own_ne_blk9 h hX ht) v
theorem OwnV.awayB9 {w : World} {B X t : Nat} {s : S4} {m : V4} {cs : List Value} (h : OwnV w B s m) (hX : Blk w X t cs) (ht : 3 ≠ t) (j : Nat) (v : Value) : OwnV (w.setCell ⟨X, j, none⟩ v) B s m := ⟨⟨h.1.1.awayB9 hX ht j v, h.1.2.1.awayB9 hX ht j v, h.1.2.2.1.awayB9 hX ht j v, h.1.2.2.2.awayB9 hX ht j v⟩, h.2⟩
/-- A state over a store into a block of another type. -/
theorem OwnV.kept9 {w w' : World} {B X t : Nat} {s : S4} {m : V4} {cs : List Value} (h : OwnV w B s m) (hg : w.grownBy w' (some X)) (hX : Blk w X t cs) (ht : 3 ≠ t) : OwnV w' B s m := ⟨⟨h.1.1.kept9 hg hX ht, h.1.2.1.kept9 hg hX ht, h.1.2.2.1.kept9 hg hX ht, h.1.2.2.2.kept9 hg hX ht⟩, h.2⟩
end Go.Proofs.YtmhngodbnoonhaaDoor
