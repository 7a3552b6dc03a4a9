/-
  Joined: MachS.
-/
import Derived.Test.YtdojjmkpelgcaaaGreatDoorProg
import Derived.Deep.RegionHeld3
import Derived.KernelRfl
import Derived.Tactics
import Derived.WalkKit
import Derived.WalkSpells
import Derived.WalkLawsBesides
import Derived.RegionTactic
import Derived.BigQuiet
import Derived.Deep.QuietTactic
import Derived.Deep.Slices
import Derived.Deep.Strs
import Derived.Deep.Fields
import Derived.ChangeSame
import Derived.ChangeSlices
import Derived.Lib.SmallJoins
import Derived.Handy
import Derived.OwnWalk
import Derived.Shelf.Abstract
import Derived.Laws.BytesArg
import Derived.Deep.RegionLaw
import Derived.Laws.OwnMore
import Derived.Laws.CopyOwn
import Derived.Laws.Tables
import Derived.Maps.AppendAt
import Derived.BigRegion
import Derived.Test.YtdojjmkpelgcaaaGreatDoorK01
import Derived.Test.YtdojjmkpelgcaaaGreatDoorK02
import Derived.Test.YtdojjmkpelgcaaaGreatDoorK07
import Derived.Test.YtdojjmkpelgcaaaGreatDoorK10
import Derived.Test.YtdojjmkpelgcaaaGreatDoorK11

/-
  (*machine).state: a machine's state, in memory of its own.
-/
namespace Go.Proofs.YtdojjmkpelgcaaaGreatDoor
open Go.RowKit
set_option linter.unusedVariables false
set_option linter.unusedSimpArgs false

theorem OwnI.open9 {w : World} {B g n c : Nat} {zs : List Int} (h : OwnI w B (some ⟨g, 0, none⟩, n, c) zs) : ∃ cur : List Value, Blk w g 3 cur ∧ cur.length = c ∧ cur.take n = zs.map (Value.int .i64) ∧ B ≤ g ∧ n ≤ c ∧ c ≤ maxLen := by
  unfold OwnI at h
  simp only at h
  rcases h.2 with ⟨h0, _⟩ | ⟨g', cap, cur, hv, hB, hh, hn, hm, hs, ht⟩
  · cases h0
  · cases hv
    refine ⟨cur.toList, by unfold Blk; simpa using hh, by simpa using hs, by simpa using ht, hB, hn, hm⟩
theorem OwnI.shut9 {w : World} {B g n c : Nat} {zs : List Int} {cur : List Value} (h : Blk w g 3 cur) (hc : cur.length = c) (ht : cur.take n = zs.map (Value.int .i64)) (hl : zs.length = n) (hB : B ≤ g) (hn : n ≤ c) (hm : c ≤ maxLen) : OwnI w B (some ⟨g, 0, none⟩, n, c) zs :=
  ⟨by simpa using hl, .inr ⟨g, c, _, rfl, hB, h, hn, hm, by simpa using hc, by simpa using ht⟩⟩
theorem take_splice {cur cs : List Value} {off n : Nat} (h : off + cs.length ≤ n) (hn : n ≤ cur.length) : (splice cur off cs).take n = splice (cur.take n) off cs := by
  unfold splice
  have h1 : (cur.take n).take off = cur.take off := by rw [List.take_take, Nat.min_eq_left (by omega)]
  have h2 : (cur.take n).drop (off + cs.length) = (cur.drop (off + cs.length)).take (n - (off + cs.length)) := List.drop_take
  have h3 : (cur.take off).length = off := by simp; omega
  rw [h1, h2, List.take_append, List.take_of_length_le (show (cur.take off).length ≤ n by omega), h3, List.take_append, List.take_of_length_le (show cs.length ≤ n - off by omega), Nat.sub_sub]
theorem OwnI.spliced9 {w' : World} {B g n c off : Nat} {zs zs' : List Int} {cur : List Value} {cs : List Value} (hc : cur.length = c) (ht : cur.take n = zs.map (Value.int .i64)) (hB : B ≤ g) (hn : n ≤ c) (hm : c ≤ maxLen) (hw : Blk w' g 3 (splice cur off cs)) (hf : off + cs.length ≤ n) (hz : splice (zs.map (Value.int .i64)) off cs = zs'.map (Value.int .i64)) (hl : zs'.length = n) : OwnI w' B (some ⟨g, 0, none⟩, n, c) zs' :=
  OwnI.shut9 hw ((length_splice cur off cs (by omega)).trans hc) (by rw [take_splice hf (by omega), ht, hz]) hl hB hn hm
theorem OwnV.drew9 {w : World} {B : Nat} {s : S4} {m : V4} (h : OwnV w B s m) : OwnV w.drew B s m := h
section
variable {w w' : World} {B g n c : Nat} {s0 s1 s2 s3 : Sl} {m : V4} {zs' : List Int}
theorem kept_ap {s : Sl} {zs : List Int} (h : OwnI w B s zs) (hg : w.grownBy w' (some g)) (ha : Apart (some ⟨g, 0, none⟩, n, c) s) : OwnI w' B s zs :=
  World.ownsRow.kept h hg (by
    cases hb : (Value.slice s.1 s.2.1 s.2.2).ownBlock with
    | none => exact .inl rfl
    | some g' => exact .inr fun e => ha g rfl (by rw [hb, e]))
theorem OwnV.into1 (h : OwnV w B (s0, (some ⟨g, 0, none⟩, n, c), s2, s3) m) (hg : w.grownBy w' (some g)) (hn : OwnI w' B (some ⟨g, 0, none⟩, n, c) zs') : OwnV w' B (s0, (some ⟨g, 0, none⟩, n, c), s2, s3) (m.1, zs', m.2.2) :=
  ⟨⟨kept_ap h.1.1 hg h.2.1.symm, hn, kept_ap h.1.2.2.1 hg h.2.2.2.2.1, kept_ap h.1.2.2.2 hg h.2.2.2.2.2.1⟩, h.2⟩
theorem OwnV.into2 (h : OwnV w B (s0, s1, (some ⟨g, 0, none⟩, n, c), s3) m) (hg : w.grownBy w' (some g)) (hn : OwnI w' B (some ⟨g, 0, none⟩, n, c) zs') : OwnV w' B (s0, s1, (some ⟨g, 0, none⟩, n, c), s3) (m.1, m.2.1, zs', m.2.2.2) :=
  ⟨⟨kept_ap h.1.1 hg h.2.2.1.symm, kept_ap h.1.2.1 hg h.2.2.2.2.1.symm, hn, kept_ap h.1.2.2.2 hg h.2.2.2.2.2.2⟩, h.2⟩
theorem OwnV.into3 (h : OwnV w B (s0, s1, s2, (some ⟨g, 0, none⟩, n, c)) m) (hg : w.grownBy w' (some g)) (hn : OwnI w' B (some ⟨g, 0, none⟩, n, c) zs') : OwnV w' B (s0, s1, s2, (some ⟨g, 0, none⟩, n, c)) (m.1, m.2.1, m.2.2.1, zs') :=
  ⟨⟨kept_ap h.1.1 hg h.2.2.2.1.symm, kept_ap h.1.2.1 hg h.2.2.2.2.2.1.symm, kept_ap h.1.2.2.1 hg h.2.2.2.2.2.2.symm, hn⟩, h.2⟩
end
theorem blk_src {w : World} {g t off : Nat} {L cs : List Value} (h : Blk w g t L) (hc : ∀ j v, cs[j]? = some v → L[off + j]? = some v) : ∀ j v, cs[j]? = some v → w.cell? ((⟨g, off, none⟩ : Addr).add j) = some v := by
  intro j v hj
  have e : (⟨g, off, none⟩ : Addr).add j = ⟨g, off + j, none⟩ := by unfold Addr.add; split <;> simp_all
  rw [e, h.cell, hc j v hj]

theorem idxT_0 (w0 w1 w2 w3 w4 w5 w6 w7 w8 w9 w10 w11 : Value) (W : World) : (Instr.index 91 (.agg #[w0, w1, w2, w3, w4, w5, w6, w7, w8, w9, w10, w11]) (.int .i64 0)).run Tryz.prog W = .ok (.agg #[w0, w1, w2, w3]) W := by kernel_rfl
theorem idxT_1 (w0 w1 w2 w3 w4 w5 w6 w7 w8 w9 w10 w11 : Value) (W : World) : (Instr.index 91 (.agg #[w0, w1, w2, w3, w4, w5, w6, w7, w8, w9, w10, w11]) (.int .i64 1)).run Tryz.prog W = .ok (.agg #[w4, w5, w6, w7]) W := by kernel_rfl
theorem idxT_2 (w0 w1 w2 w3 w4 w5 w6 w7 w8 w9 w10 w11 : Value) (W : World) : (Instr.index 91 (.agg #[w0, w1, w2, w3, w4, w5, w6, w7, w8, w9, w10, w11]) (.int .i64 2)).run Tryz.prog W = .ok (.agg #[w8, w9, w10, w11]) W := by kernel_rfl

end Go.Proofs.YtdojjmkpelgcaaaGreatDoor

