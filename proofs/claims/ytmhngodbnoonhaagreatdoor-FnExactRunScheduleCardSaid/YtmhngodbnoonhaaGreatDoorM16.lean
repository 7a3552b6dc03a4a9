/-
  Joined: MachO#1.
-/
import Derived.Test.YtmhngodbnoonhaaGreatDoorProg
import Derived.WalkKit
import Derived.WalkSpells
import Derived.WalkLawsBesides
import Derived.RegionTactic
import Derived.BigQuiet
import Derived.Deep.QuietTactic
import Derived.Deep.Slices
import Derived.Deep.Strs
import Derived.Deep.Fields
import Derived.ChangeSame
import Derived.ChangeSlices
import Derived.Lib.SmallJoins
import Derived.Handy
import Derived.Deep.RegionHeld3
import Derived.OwnWalk
import Derived.Shelf.Abstract
import Derived.Laws.BytesArg
import Derived.Deep.RegionLaw
import Derived.Laws.OwnMore
import Derived.Laws.CopyOwn
import Derived.Laws.Tables
import Derived.BigRegion
import Derived.Test.YtmhngodbnoonhaaGreatDoorM01
import Derived.Test.YtmhngodbnoonhaaGreatDoorM02
import Derived.Test.YtmhngodbnoonhaaGreatDoorM03
import Derived.Test.YtmhngodbnoonhaaGreatDoorM04
import Derived.Test.YtmhngodbnoonhaaGreatDoorM07
import Derived.Test.YtmhngodbnoonhaaGreatDoorM10
import Derived.Test.YtmhngodbnoonhaaGreatDoorM11
import Derived.Test.YtmhngodbnoonhaaGreatDoorM15

/-
  machineOf: a program in a state, in arrays.
-/
namespace Go.Proofs.YtmhngodbnoonhaaGreatDoor
open Go.RowKit

theorem ints_at9 {w : World} {b off n c : Nat} {zs : List Int} (h : Ints .i64 w (some ⟨b, off, none⟩) n c zs) {t : Nat} (ht : t < n) : w.cell? ⟨b, off + t, none⟩ = some (.int .i64 (zs.getD t 0)) := by
  rcases h.2.2.2 with h0 | ⟨b', off', ha, _, hc⟩
  · omega
  · cases ha
    exact hc t ht
theorem list_src {w : World} {ad : Addr} {cs : List Value} (h : ∀ j v, cs[j]? = some v → w.cell? ⟨ad.block, ad.off + j, none⟩ = some v) (hs : ad.spot = none) : ∀ j v, cs[j]? = some v → w.cell? (ad.add j) = some v := by
  intro j v hj
  have e : ad.add j = ⟨ad.block, ad.off + j, none⟩ := by obtain ⟨b, o, s⟩ := ad; simp only at hs; subst hs; unfold Addr.add; split <;> simp_all
  rw [e]
  exact h j v hj
theorem src_of {w : World} {b off n c : Nat} {zs : List Int} (h : Ints .i64 w (some ⟨b, off, none⟩) n c zs) (o l : Nat) (hl : o + l ≤ n) : ∀ j v, (((zs.drop o).take l).map (Value.int .i64))[j]? = some v → w.cell? ((⟨b, off + o, none⟩ : Addr).add j) = some v := by
  refine list_src ?_ rfl
  intro j v hj
  have hzl := h.1
  have hjl : j < l := by
    rcases Nat.lt_or_ge j l with h' | h'
    · exact h'
    · rw [List.getElem?_eq_none (by simp; omega)] at hj; cases hj
  have := ints_at9 h (t := o + j) (by omega)
  rw [Nat.add_assoc, this]
  simp only [List.getElem?_map, List.getElem?_take, List.getElem?_drop, hjl, if_true] at hj
  rw [List.getElem?_eq_getElem (show o + j < zs.length by omega)] at hj
  simp at hj
  rw [← hj]
  simp [List.getD, show o + j < zs.length by omega]

def RowsAt (w : World) (a : Option Addr) (cs : Sl × Sl × Sl) (rows : List (List I3)) : Prop :=
  ∃ b off, a = some ⟨b, off, none⟩ ∧ b < w.heap.size ∧ ∀ k, k < 3 → w.cell? ⟨b, off + k, none⟩ = some (.slice (slK cs k).1 (slK cs k).2.1 (slK cs k).2.2) ∧ Instrs w (slK cs k).1 (slK cs k).2.1 (slK cs k).2.2 (codeM rows k)
theorem RowsAt.below {w w' : World} {a : Option Addr} {cs : Sl × Sl × Sl} {rows : List (List I3)} (h : RowsAt w a cs rows) (hb : Below w.heap.size w w') : RowsAt w' a cs rows := by
  obtain ⟨b, off, ha, hlt, hk⟩ := h
  exact ⟨b, off, ha, Nat.lt_of_lt_of_le hlt hb.size, fun k h3 => ⟨cells_kept hb _ _ (hk k h3).1, (hk k h3).2.below hb⟩⟩
theorem RowsAt.uniq {w : World} {a : Option Addr} {cs cs' : Sl × Sl × Sl} {rows rows' : List (List I3)} (h : RowsAt w a cs rows) (h' : RowsAt w a cs' rows') : cs = cs' := by
  obtain ⟨b, off, ha, _, hk⟩ := h
  obtain ⟨b', off', ha', _, hk'⟩ := h'
  rw [ha] at ha'
  cases ha'
  have e : ∀ k, k < 3 → slK cs k = slK cs' k := fun k h3 => by
    have := (hk k h3).1.symm.trans (hk' k h3).1
    simp at this
    obtain ⟨e0, e1, e2⟩ := this
    exact Prod.ext e0 (Prod.ext e1 e2)
  exact Prod.ext (e 0 (by decide)) (Prod.ext (e 1 (by decide)) (e 2 (by decide)))
theorem Codes.rowsAt {w : World} {a : Option Addr} {len cap : Nat} {rows : List (List I3)} (hC : Codes w a len cap rows) (hp : progOk rows = true) : len = 3 ∧ ∃ cs, RowsAt w a cs rows := by
  obtain ⟨h3, _⟩ := progOk_parts hp
  obtain ⟨hl, hlc, hcm, hcase⟩ := hC
  obtain rfl : len = 3 := hl.symm.trans h3
  rcases hcase with h9 | ⟨b, off, ha, hlt, hrow⟩
  · exact absurd h9 (by decide)
  · obtain ⟨a0, n0, c0, r0, i0⟩ := hrow 0 (by decide)
    obtain ⟨a1, n1, c1, r1, i1⟩ := hrow 1 (by decide)
    obtain ⟨a2, n2, c2, r2, i2⟩ := hrow 2 (by decide)
    refine ⟨rfl, ((a0, n0, c0), (a1, n1, c1), (a2, n2, c2)), b, off, ha, hlt, fun k hk => ?_⟩
    match k, hk with
    | 0, _ => exact ⟨r0, i0⟩
    | 1, _ => exact ⟨r1, i1⟩
    | 2, _ => exact ⟨r2, i2⟩
set_option maxHeartbeats 2000000 in
set_option maxRecDepth 100000 in
theorem machineOf_bad (a : Option Addr) (len cap : Nat) (rows : List (List I3)) (s : S4) (m : V4) (w : World) (hC : Codes w a len cap rows) (h : Vmem w s m) (hV : VmShape w) (hok : (progOk rows && shapeOk m) = false) :
    Calls Tryz.prog 61 #[.agg #[.slice a len cap], s.val] w fun e w' => e = .returned (.tuple #[.agg #[.slice none 0 0, .int .i64 0, .int .i64 0, .int .i64 0, .slice none 0 0, .int .i64 0, .int .i64 0, .int .i64 0, .slice none 0 0, .int .i64 0, .int .i64 0, .int .i64 0, .int .i64 0, .int .i64 0, .int .i64 0, .int .i64 0, .int .i64 0, .int .i64 0], .int .i64 1]) ∧ Below w.heap.size w w' := by
  have kV := fun w hC h hV => implVmOK_is a len cap rows s m w hC h hV
  rw [hok] at kV
  have hM := fun (W : World) (hb : Below w.heap.size w W) => h.below hb
  obtain ⟨⟨a0, n0, c0⟩, ⟨a1, n1, c1⟩, ⟨a2, n2, c2⟩, ⟨a3, n3, c3⟩⟩ := s
  have uA : S4.val ((a0, n0, c0), (a1, n1, c1), (a2, n2, c2), (a3, n3, c3)) = .agg #[.slice a0 n0 c0, .slice a1 n1 c1, .slice a2 n2 c2, .slice a3 n3 c3] := rfl
  rw [uA] at kV ⊢
  clear uA h
  have bw : Below w.heap.size w (((w.alloc (.cells #[.slice a len cap] 25)).alloc (.cells #[.slice a0 n0 c0, .slice a1 n1 c1, .slice a2 n2 c2, .slice a3 n3 c3] 33)).alloc (.cells #[.slice none 0 0, .int .i64 0, .int .i64 0, .int .i64 0, .slice none 0 0, .int .i64 0, .int .i64 0, .int .i64 0, .slice none 0 0, .int .i64 0, .int .i64 0, .int .i64 0, .int .i64 0, .int .i64 0, .int .i64 0, .int .i64 0, .int .i64 0, .int .i64 0] 71)) := by go_grown
  have pR : Blk (((w.alloc (.cells #[.slice a len cap] 25)).alloc (.cells #[.slice a0 n0 c0, .slice a1 n1 c1, .slice a2 n2 c2, .slice a3 n3 c3] 33)).alloc (.cells #[.slice none 0 0, .int .i64 0, .int .i64 0, .int .i64 0, .slice none 0 0, .int .i64 0, .int .i64 0, .int .i64 0, .slice none 0 0, .int .i64 0, .int .i64 0, .int .i64 0, .int .i64 0, .int .i64 0, .int .i64 0, .int .i64 0, .int .i64 0, .int .i64 0] 71)) (w.heap.size + 1 + 1) 71 [.slice none 0 0, .int .i64 0, .int .i64 0, .int .i64 0, .slice none 0 0, .int .i64 0, .int .i64 0, .int .i64 0, .slice none 0 0, .int .i64 0, .int .i64 0, .int .i64 0, .int .i64 0, .int .i64 0, .int .i64 0, .int .i64 0, .int .i64 0, .int .i64 0] := by
    have h9 := Blk.new ((w.alloc (.cells #[.slice a len cap] 25)).alloc (.cells #[.slice a0 n0 c0, .slice a1 n1 c1, .slice a2 n2 c2, .slice a3 n3 c3] 33)) 71 [.slice none 0 0, .int .i64 0, .int .i64 0, .int .i64 0, .slice none 0 0, .int .i64 0, .int .i64 0, .int .i64 0, .slice none 0 0, .int .i64 0, .int .i64 0, .int .i64 0, .int .i64 0, .int .i64 0, .int .i64 0, .int .i64 0, .int .i64 0, .int .i64 0]
    simp only [World.size_alloc] at h9
    exact h9
  go_enter Tryz.func61, Tryz.ntmps61
  go_wp2_with fail
  refine (kV _ (hC.below bw) (hM _ bw) (hV.below bw)).mono ?_
  rintro e w1 ⟨rfl, hb⟩
  replace bw := bel_trans bw hb
  replace pR := pR.below hb
  clear hb kV hM hV hC
  go_wp2_with (refine wpList_store_blk rfl 71 _ _ rfl (w.heap.size + 1 + 1) [.slice none 0 0, .int .i64 0, .int .i64 0, .int .i64 0, .slice none 0 0, .int .i64 0, .int .i64 0, .int .i64 0, .slice none 0 0, .int .i64 0, .int .i64 0, .int .i64 0, .int .i64 0, .int .i64 0, .int .i64 0, .int .i64 0, .int .i64 0, .int .i64 0] rfl rfl pR (by kernel_rfl) rfl rfl ?_)
  intro w2 pR2 g2
  replace bw := bw.grown g2 bw.size (fun k hk => by cases hk; omega)
  clear g2 pR
  go_wp2_with fail
  refine bodyPost_ret (results_blk2 Tryz.results61 _ _ _ _ _ _ rfl pR2.out Tryz.underlying71 rfl (by kernel_rfl)) rfl ?_
  exact ⟨rfl, bw⟩
end Go.Proofs.YtmhngodbnoonhaaGreatDoor

