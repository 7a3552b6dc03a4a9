
/-
  Small laws for a law's walk with marks: rows and states of one's own over what turns rows of another type or other blocks.
-/
import Derived.Test.YtkmnnmgopnoffaaDoorMarkV
import Derived.Test.YtkmnnmgopnoffaaDoorMarkP
import Derived.Test.YtkmnnmgopnoffaaDoorCopyG
namespace Go.Proofs.YtkmnnmgopnoffaaDoor
open Go.RowKit

theorem OwnProg.codes9 {w : World} {B : Nat} {a : Option Addr} {len cap : Nat} {rows : List (List I3)} (h : OwnProg w B (.slice a len cap) rows) {w0 : World} {a0 : Option Addr} {len0 cap0 : Nat} (h0 : Codes w0 a0 len0 cap0 rows) : Codes w a len cap rows := by
  refine h.codes fun r hr x hx => ?_
  obtain ⟨hl, _, _, hc⟩ := h0
  obtain ⟨t, ht, rfl⟩ := List.getElem_of_mem hr
  rcases hc with hc | ⟨b, off, _, _, hc⟩
  · omega
  · obtain ⟨_, _, _, _, hI⟩ := hc t (by omega)
    have e : rows.getD t [] = rows[t] := by simp [List.getD, ht]
    rw [e] at hI
    exact hI.2.2.2.1 x hx
theorem OwnI.lower9 {w : World} {B B' : Nat} {s : Sl} {zs : List Int} (h : OwnI w B s zs) (hB : B' ≤ B) : OwnI w B' s zs := own_lower h hB
theorem OwnV.lower9 {w : World} {B B' : Nat} {s : S4} {m : V4} (h : OwnV w B s m) (hB : B' ≤ B) : OwnV w B' s m := ⟨⟨h.1.1.lower9 hB, h.1.2.1.lower9 hB, h.1.2.2.1.lower9 hB, h.1.2.2.2.lower9 hB⟩, h.2⟩
/-- Where a state's four rows lie. -/
def Blocks (s : S4) (n : Nat) : Prop := (∀ g, (Value.slice s.1.1 s.1.2.1 s.1.2.2).ownBlock = some g → g < n) ∧ (∀ g, (Value.slice s.2.1.1 s.2.1.2.1 s.2.1.2.2).ownBlock = some g → g < n) ∧ (∀ g, (Value.slice s.2.2.1.1 s.2.2.1.2.1 s.2.2.1.2.2).ownBlock = some g → g < n) ∧ ∀ g, (Value.slice s.2.2.2.1 s.2.2.2.2.1 s.2.2.2.2.2).ownBlock = some g → g < n
theorem OwnV.blocks {w : World} {B : Nat} {s : S4} {m : V4} (h : OwnV w B s m) : Blocks s w.heap.size := ⟨fun g hg => (h.1.1.lt g hg).2, fun g hg => (h.1.2.1.lt g hg).2, fun g hg => (h.1.2.2.1.lt g hg).2, fun g hg => (h.1.2.2.2.lt g hg).2⟩
theorem Blocks.lt9 {s : S4} {n k : Nat} (h : Blocks s n) (hn : n ≤ k) : Blocks s k := ⟨fun g hg => Nat.lt_of_lt_of_le (h.1 g hg) hn, fun g hg => Nat.lt_of_lt_of_le (h.2.1 g hg) hn, fun g hg => Nat.lt_of_lt_of_le (h.2.2.1 g hg) hn, fun g hg => Nat.lt_of_lt_of_le (h.2.2.2 g hg) hn⟩
theorem OwnI.but9 {t : Nat} {w w' : World} {B : Nat} {s : Sl} {zs : List Int} (h : OwnI w B s zs) (hK : KeptBut t w w') (ht : 3 ≠ t) : OwnI w' B s zs := hK.owns h ht
theorem OwnV.but9 {t : Nat} {w w' : World} {B : Nat} {s : S4} {m : V4} (h : OwnV w B s m) (hK : KeptBut t w w') (ht : 3 ≠ t) : OwnV w' B s m := ⟨⟨h.1.1.but9 hK ht, h.1.2.1.but9 hK ht, h.1.2.2.1.but9 hK ht, h.1.2.2.2.but9 hK ht⟩, h.2⟩
theorem KeptBut.blk9 {t : Nat} {w w' : World} {g e : Nat} {cs : List Value} (hK : KeptBut t w w') (h : Blk w g e cs) (he : e ≠ t) : Blk w' g e cs := hK g _ e _ h he
/-- A row whose block lies behind those of a state that was turned. -/
theorem OwnI.off9 {w w' : World} {B n : Nat} {s : S4} {r : Sl} {zs : List Int} (h : OwnI w B r zs) (hK : KeptOff s w w') (hs : Blocks s n) (hn : n ≤ B) : OwnI w' B r zs := by
  refine ⟨h.1, ?_⟩
  rcases h.2 with h0 | ⟨g, cap, cur, hv, hg, hh, rest⟩
  · exact .inl h0
  · refine .inr ⟨g, cap, cur, hv, hg, ?_, rest⟩
    rw [hK g (Array.getElem?_eq_some_iff.1 hh).1 (fun e => by have := hs.1 g e; omega) (fun e => by have := hs.2.1 g e; omega) (fun e => by have := hs.2.2.1 g e; omega) (fun e => by have := hs.2.2.2 g e; omega)]
    exact hh
theorem OwnV.off9 {w w' : World} {B n : Nat} {s : S4} {r : S4} {m : V4} (h : OwnV w B r m) (hK : KeptOff s w w') (hs : Blocks s n) (hn : n ≤ B) : OwnV w' B r m := ⟨⟨h.1.1.off9 hK hs hn, h.1.2.1.off9 hK hs hn, h.1.2.2.1.off9 hK hs hn, h.1.2.2.2.off9 hK hs hn⟩, h.2⟩
theorem own_ne_blk9 {w : World} {B e s n g t : Nat} {v : Value} {xs cs : List Value} (h : w.ownsRow B e s v n xs) (hB : Blk w g t cs) (he : e ≠ t) : v.ownBlock ≠ some g := by
  rcases h.2 with ⟨rfl, _⟩ | ⟨g', cap, cur, rfl, _, hg, _⟩
  · simp [Value.ownBlock]
  · simp only [Value.ownBlock, ne_eq, Option.some.injEq]
    rintro rfl
    unfold Blk at hB
    rw [hg] at hB
    simp at hB
    exact he hB.2
theorem Blk.off9 {w w' : World} {B g e : Nat} {s : S4} {m : V4} {cs : List Value} (h : Blk w g e cs) (hK : KeptOff s w w') (hX : OwnV w B s m) (he : 3 ≠ e) : Blk w' g e cs :=
  (hK g h.lt (own_ne_blk9 hX.1.1 h he) (own_ne_blk9 hX.1.2.1 h he) (own_ne_blk9 hX.1.2.2.1 h he) (own_ne_blk9 hX.1.2.2.2 h he)).trans h
theorem heldVm_own9 (s : S4) (m : V4) (w : World) (B : Nat) (h : OwnV w B s (mkV 1 m)) (hl : m.1.length ≤ 1048576 ∧ m.2.1.length ≤ 1048576 ∧ m.2.2.1.length ≤ 1048576 ∧ m.2.2.2.length ≤ 1048576) :
    Calls Tryd.prog 48 #[s.val, .int .i64 1] w fun e w' => e = .returned (.int .i64 (1 + cntV m)) ∧ Below w.heap.size w w' := by
  have := heldVm_yes s 1 (mkV 1 m) w (by omega) (by omega) h.1.1.ints h.1.2.1.ints h.1.2.2.1.ints h.1.2.2.2.ints (marked_mkV 1 m) (by simp only [mkV, mkTo_len]; exact hl.1) (by simp only [mkV, mkTo_len]; exact hl.2.1) (by simp only [mkV, mkTo_len]; exact hl.2.2.1) (by simp only [mkV, mkTo_len]; exact hl.2.2.2)
  rw [cnt_mkV] at this
  exact this
theorem Ints.low9 {w w' : World} {s : Sl} {zs : List Int} {B : Nat} (h : Ints .i64 w s.1 s.2.1 s.2.2 zs) (hs : ∀ g, (Value.slice s.1 s.2.1 s.2.2).ownBlock = some g → g < B) (hb : Below B w w') : Ints .i64 w' s.1 s.2.1 s.2.2 zs := by
  obtain ⟨h1, h2, h3, h4⟩ := h
  refine ⟨h1, h2, h3, ?_⟩
  rcases h4 with h4 | ⟨b, off, ha, hlt, hc⟩
  · exact .inl h4
  · have hbB : b < B := hs b (by rw [ha]; rfl)
    exact .inr ⟨b, off, ha, Nat.lt_of_lt_of_le hlt hb.size, fun t ht => by rw [hb.cell (p := ⟨b, off + t, none⟩) hbB]; exact hc t ht⟩
/-- A state whose rows lie below is kept. -/
theorem Vmem.low9 {w w' : World} {s : S4} {m : V4} {B : Nat} (h : Vmem w s m) (hs : Blocks s B) (hb : Below B w w') : Vmem w' s m :=
  ⟨⟨h.1.1.low9 hs.1 hb, h.1.2⟩, ⟨h.2.1.1.low9 hs.2.1 hb, h.2.1.2⟩, ⟨h.2.2.1.1.low9 hs.2.2.1 hb, h.2.2.1.2⟩, ⟨h.2.2.2.1.low9 hs.2.2.2 hb, h.2.2.2.2⟩⟩
end Go.Proofs.YtkmnnmgopnoffaaDoor
