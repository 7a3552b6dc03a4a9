/-
  Joined: SpecC.
-/
import Derived.Test.YtdojjmkpelgcaaaDoorN23

namespace Go.Proofs.YtdojjmkpelgcaaaDoor
set_option maxRecDepth 100000
open Go.RowKit

set_option maxHeartbeats 2000000 in
theorem l03Done_raw (b off len cap b0 o0 c0 : Nat) (a1 : Option Addr) (n1 c1 : Nat) (a2 : Option Addr) (n2 c2 : Nat) (a3 : Option Addr) (n3 c3 k : Nat) (ca : Option Addr) (cn cc : Nat) (pc : Int) (w : World) (hk : k < 3) (hlen : len = 3)
  (r0 : w.cell? ⟨b, off + k, none⟩ = some (.slice ca cn cc)) (r1 : w.cell? ⟨b0, o0 + k, none⟩ = some (.int .i64 pc)) :
  Calls Tryd.prog 43 #[.agg #[.slice (some ⟨b, off, none⟩) len cap], .agg #[.slice (some ⟨b0, o0, none⟩) 3 c0, .slice a1 n1 c1, .slice a2 n2 c2, .slice a3 n3 c3], .int .i64 k] w fun e w' => e = .returned (.bool (decide ((cn : Int) ≤ pc))) ∧ Below w.heap.size w w' := by
 obtain ⟨x, hx⟩ : ∃ x, x = decide ((cn : Int) ≤ pc) := ⟨_, rfl⟩
 have hd : decide ((cn : Int) ≤ pc) = x := hx.symm
 rw [← hx]
 clear hx
 have hk3 : (k : Int) < 3 := by omega
 have hkl : (k : Int) < (len : Int) := by omega
 clear hlen
 have bw : Below w.heap.size w ((w.alloc (.cells #[.slice (some ⟨b, off, none⟩) len cap] 25)).alloc (.cells #[.slice (some ⟨b0, o0, none⟩) 3 c0, .slice a1 n1 c1, .slice a2 n2 c2, .slice a3 n3 c3] 29)) := by go_grown
 have g0 : ((w.alloc (.cells #[.slice (some ⟨b, off, none⟩) len cap] 25)).alloc (.cells #[.slice (some ⟨b0, o0, none⟩) 3 c0, .slice a1 n1 c1, .slice a2 n2 c2, .slice a3 n3 c3] 29)).cell? ⟨w.heap.size, 0, none⟩ = some (.slice (some ⟨b, off, none⟩) len cap) := by simp [go_sem]
 have g1 : ((w.alloc (.cells #[.slice (some ⟨b, off, none⟩) len cap] 25)).alloc (.cells #[.slice (some ⟨b0, o0, none⟩) 3 c0, .slice a1 n1 c1, .slice a2 n2 c2, .slice a3 n3 c3] 29)).cell? ⟨w.heap.size + 1, 0, none⟩ = some (.slice (some ⟨b0, o0, none⟩) 3 c0) := by simp [go_sem]
 replace r0 := cells_kept bw _ _ r0
 replace r1 := cells_kept bw _ _ r1
 go_enter Tryd.func43, Tryd.ntmps43
 go_wp2_with fail
 generalize ((w.alloc (.cells #[.slice (some ⟨b, off, none⟩) len cap] 25)).alloc (.cells #[.slice (some ⟨b0, o0, none⟩) 3 c0, .slice a1 n1 c1, .slice a2 n2 c2, .slice a3 n3 c3] 29)) = W at *
 go_quiet (fail)
 have bz : Below w.heap.size w (W.drewN nq) := bel_trans bw (below_dN _)
 go_wp2
 go_ret
 exact ⟨rfl, bz⟩

theorem l03Done_is {w : World} {a : Option Addr} {len cap : Nat} {cs : Sl × Sl × Sl} {rows : List (List I3)} {s : S4} {m : V4} (hl : len = 3) (hR : RowsAt w a cs rows) (h : Vmem w s m) (hs : shapeOk m = true) {k : Nat} (hk : k < 3) :
  Calls Tryd.prog 43 #[.agg #[.slice a len cap], s.val, .int .i64 k] w fun e w' => e = .returned (.bool (doneM rows m k)) ∧ Below w.heap.size w w' := by
 obtain ⟨b, off, rfl, _, hrow⟩ := hR
 obtain ⟨r0, hI⟩ := hrow k hk
 obtain ⟨⟨j0, _⟩, _⟩ := h
 obtain ⟨l0, _⟩ := shape_parts hs
 obtain ⟨⟨a0, n0, c0⟩, ⟨a1, n1, c1⟩, ⟨a2, n2, c2⟩, ⟨a3, n3, c3⟩⟩ := s
 simp only at j0
 obtain ⟨rfl, b0, o0, rfl⟩ := some_of_ints j0 l0 (by decide)
 have r1 := ints_at9 j0 (t := k) hk
 unfold doneM
 rw [hI.1]
 exact l03Done_raw b off len cap b0 o0 c0 a1 n1 c1 a2 n2 c2 a3 n3 c3 k _ _ _ _ w hk hl r0 r1

end Go.Proofs.YtdojjmkpelgcaaaDoor
