
/-
  FnExactNewVm, given what both answer: the law's walk (marks and all).
-/
import Derived.Test.YtiigmlfcffcfmaaVm1
import Derived.Test.YtiigmlfcffcfmaaMarkW

namespace Go.Proofs.Ytiigmlfcffcfmaa
open Go.RowKit
set_option linter.unusedVariables false

set_option maxHeartbeats 8000000 in
set_option maxRecDepth 100000 in
theorem fnExactNewVm_of  (z : V4) (hfz : V4.fits z) (hlz : z.1.length ≤ 1048576 ∧ z.2.1.length ≤ 1048576 ∧ z.2.2.1.length ≤ 1048576 ∧ z.2.2.2.length ≤ 1048576)  (w : World) 
    (kS : ∀ w : World, Calls Try.prog 4 #[] w fun e w' => (∃ t : S4, e = .returned (t.val) ∧ OwnV w' w.heap.size t z) ∧ Below w.heap.size w w')
    (kI : ∀ w : World, Calls Try.prog 5 #[] w fun e w' => (∃ t : S4, e = .returned (t.val) ∧ OwnV w' w.heap.size t z) ∧ Below w.heap.size w w') :
    Calls Try.prog 3 #[] w fun e w' => e = .returned (.bool true) ∧ Below w.heap.size w w' := by
  go_enter Try.func3, Try.ntmps3
  go_wp2_with fail
  refine (kS _).mono ?_
  rintro e ws ⟨⟨tr, rfl, hsr⟩, hb⟩
  obtain ⟨⟨sr0a, sr0n, sr0c⟩, ⟨sr1a, sr1n, sr1c⟩, ⟨sr2a, sr2n, sr2c⟩, ⟨sr3a, sr3n, sr3c⟩⟩ := tr
  have uR : S4.val ((sr0a, sr0n, sr0c), (sr1a, sr1n, sr1c), (sr2a, sr2n, sr2c), (sr3a, sr3n, sr3c)) = .agg #[.slice sr0a sr0n sr0c, .slice sr1a sr1n sr1c, .slice sr2a sr2n sr2c, .slice sr3a sr3n sr3c] := rfl
  rw [uR]
  clear uR
  have bA : Below ws.heap.size ws (ws.alloc (.cells #[.slice sr0a sr0n sr0c, .slice sr1a sr1n sr1c, .slice sr2a sr2n sr2c, .slice sr3a sr3n sr3c] 24)) := by go_grown
  have psr := Blk.new ws 24 [.slice sr0a sr0n sr0c, .slice sr1a sr1n sr1c, .slice sr2a sr2n sr2c, .slice sr3a sr3n sr3c]
  
  replace hb := bel_trans hb bA
  replace hsr := hsr.below bA
  
  clear bA
  have bw := hb
  clear hb
  go_wp2_with fail
  generalize (ws.alloc (.cells #[.slice sr0a sr0n sr0c, .slice sr1a sr1n sr1c, .slice sr2a sr2n sr2c, .slice sr3a sr3n sr3c] 24)) = wS at *
  have hsb := hsr.blocks
  generalize ws.heap.size = GS at *
  refine (kI _).mono ?_
  rintro e wg ⟨⟨tr, rfl, hgr⟩, hb⟩
  obtain ⟨⟨gr0a, gr0n, gr0c⟩, ⟨gr1a, gr1n, gr1c⟩, ⟨gr2a, gr2n, gr2c⟩, ⟨gr3a, gr3n, gr3c⟩⟩ := tr
  have uR : S4.val ((gr0a, gr0n, gr0c), (gr1a, gr1n, gr1c), (gr2a, gr2n, gr2c), (gr3a, gr3n, gr3c)) = .agg #[.slice gr0a gr0n gr0c, .slice gr1a gr1n gr1c, .slice gr2a gr2n gr2c, .slice gr3a gr3n gr3c] := rfl
  rw [uR]
  clear uR
  have bA : Below wg.heap.size wg (wg.alloc (.cells #[.slice gr0a gr0n gr0c, .slice gr1a gr1n gr1c, .slice gr2a gr2n gr2c, .slice gr3a gr3n gr3c] 24)) := by go_grown
  have pgr := Blk.new wg 24 [.slice gr0a gr0n gr0c, .slice gr1a gr1n gr1c, .slice gr2a gr2n gr2c, .slice gr3a gr3n gr3c]
  have hBJ := hb.size
  replace hb := bel_trans hb bA
  replace hgr := hgr.below bA
  replace hsr := hsr.below hb
  replace psr := psr.below hb
  clear bA
  have bo := hb
  clear hb
  have s0 := psr.cell 0
  have s1 := psr.cell 1
  have s2 := psr.cell 2
  have s3 := psr.cell 3
  simp only [List.getElem?_cons_zero, List.getElem?_cons_succ] at s0 s1 s2 s3
  go_wp2_with fail
  generalize hWG : (wg.alloc (.cells #[.slice gr0a gr0n gr0c, .slice gr1a gr1n gr1c, .slice gr2a gr2n gr2c, .slice gr3a gr3n gr3c] 24)) = wG at *
  have hle : wg.heap.size ≤ wG.heap.size := by rw [← hWG]; simp
  clear hWG
  generalize wg.heap.size = GG at *
  refine (eqVm_same ((gr0a, gr0n, gr0c), (gr1a, gr1n, gr1c), (gr2a, gr2n, gr2c), (gr3a, gr3n, gr3c)) ((sr0a, sr0n, sr0c), (sr1a, sr1n, sr1c), (sr2a, sr2n, sr2c), (sr3a, sr3n, sr3c)) z _ (hgr.mem hfz) (hsr.mem hfz)).mono ?_
  rintro e w1 ⟨rfl, hb⟩
  replace bo := bel_trans bo hb
  replace hsr := hsr.below hb
  replace psr := psr.below hb
  replace hgr := hgr.below hb
  replace pgr := pgr.below hb
  have hBJ2 : wS.heap.size ≤ w1.heap.size := bo.size
  clear hb s0 s1 s2 s3
  have hsr0 := hsr.mem hfz
  have KG := markVm_own wS.heap.size ((gr0a, gr0n, gr0c), (gr1a, gr1n, gr1c), (gr2a, gr2n, gr2c), (gr3a, gr3n, gr3c)) 1 z w1 (by omega) (by omega) hgr hBJ2 hlz.1 hlz.2.1 hlz.2.2.1 hlz.2.2.2
  have hcz : 0 ≤ cntV z := by unfold cntV; omega
  have HH := fun (W : World) (hO : OwnV W wS.heap.size ((gr0a, gr0n, gr0c), (gr1a, gr1n, gr1c), (gr2a, gr2n, gr2c), (gr3a, gr3n, gr3c)) (mkV 1 z)) => heldVm_own9 ((gr0a, gr0n, gr0c), (gr1a, gr1n, gr1c), (gr2a, gr2n, gr2c), (gr3a, gr3n, gr3c)) z W wS.heap.size hO hlz
  generalize cntV z = cz at *
  have uX : S4.val ((gr0a, gr0n, gr0c), (gr1a, gr1n, gr1c), (gr2a, gr2n, gr2c), (gr3a, gr3n, gr3c)) = .agg #[.slice gr0a gr0n gr0c, .slice gr1a gr1n gr1c, .slice gr2a gr2n gr2c, .slice gr3a gr3n gr3c] := rfl
  rw [uX] at KG HH
  clear uX
  have g0 := pgr.cell 0
  have g1 := pgr.cell 1
  have g2 := pgr.cell 2
  have g3 := pgr.cell 3
  simp only [List.getElem?_cons_zero, List.getElem?_cons_succ] at g0 g1 g2 g3
  go_wp2_with fail
  refine KG.mono ?_
  rintro e w2 ⟨rfl, hD2, hK9, hb⟩
  have psr2 : Blk w2 GS 24 [.slice sr0a sr0n sr0c, .slice sr1a sr1n sr1c, .slice sr2a sr2n sr2c, .slice sr3a sr3n sr3c] := psr.off9 hK9 hgr (by decide)
  have pgr2 := pgr.off9 hK9 hgr (by decide)
  have hsr2 : Vmem w2 ((sr0a, sr0n, sr0c), (sr1a, sr1n, sr1c), (sr2a, sr2n, sr2c), (sr3a, sr3n, sr3c)) z := hsr0.low9 hsb hb
  replace bo := bo.trans hb
  clear hK9 hb hgr KG g0 g1 g2 g3 psr pgr hsr hsr0
  have psr := psr2
  have pgr := pgr2
  clear psr2 pgr2
  have g0 := pgr.cell 0
  have g1 := pgr.cell 1
  have g2 := pgr.cell 2
  have g3 := pgr.cell 3
  simp only [List.getElem?_cons_zero, List.getElem?_cons_succ] at g0 g1 g2 g3
  have hq : ¬ ((1 : Int) + cz < 0) := by omega
  have hq' : (((1 : Int) + cz) != ((1 : Int) + cz)) = false := by simp
  go_wp2_with fail
  refine (HH _ hD2).mono ?_
  rintro e w3 ⟨rfl, hb⟩
  replace bo := bel_trans bo hb
  replace hD2 := hD2.below hb
  replace psr := psr.below hb
  replace pgr := pgr.below hb
  replace hsr2 := hsr2.below hb
  clear hb g0 g1 g2 g3
  go_wp2_with fail
  refine (kI _).mono ?_
  rintro e wh ⟨⟨tr, rfl, hhr⟩, hb⟩
  obtain ⟨⟨hr0a, hr0n, hr0c⟩, ⟨hr1a, hr1n, hr1c⟩, ⟨hr2a, hr2n, hr2c⟩, ⟨hr3a, hr3n, hr3c⟩⟩ := tr
  have uR : S4.val ((hr0a, hr0n, hr0c), (hr1a, hr1n, hr1c), (hr2a, hr2n, hr2c), (hr3a, hr3n, hr3c)) = .agg #[.slice hr0a hr0n hr0c, .slice hr1a hr1n hr1c, .slice hr2a hr2n hr2c, .slice hr3a hr3n hr3c] := rfl
  rw [uR]
  clear uR
  have bA : Below wh.heap.size wh (wh.alloc (.cells #[.slice hr0a hr0n hr0c, .slice hr1a hr1n hr1c, .slice hr2a hr2n hr2c, .slice hr3a hr3n hr3c] 24)) := by go_grown
  have phr := Blk.new wh 24 [.slice hr0a hr0n hr0c, .slice hr1a hr1n hr1c, .slice hr2a hr2n hr2c, .slice hr3a hr3n hr3c]
  
  replace hb := bel_trans hb bA
  replace hhr := hhr.below bA
  replace hsr2 := hsr2.below hb
  replace psr := psr.below hb
  replace pgr := pgr.below hb
  replace hD2 := hD2.below hb
  clear bA
  replace bo := bel_trans bo hb
  clear hb
  have s0 := psr.cell 0
  have s1 := psr.cell 1
  have s2 := psr.cell 2
  have s3 := psr.cell 3
  simp only [List.getElem?_cons_zero, List.getElem?_cons_succ] at s0 s1 s2 s3
  go_wp2_with fail
  generalize (wh.alloc (.cells #[.slice hr0a hr0n hr0c, .slice hr1a hr1n hr1c, .slice hr2a hr2n hr2c, .slice hr3a hr3n hr3c] 24)) = wH at *
  refine (eqVm_same ((hr0a, hr0n, hr0c), (hr1a, hr1n, hr1c), (hr2a, hr2n, hr2c), (hr3a, hr3n, hr3c)) ((sr0a, sr0n, sr0c), (sr1a, sr1n, sr1c), (sr2a, sr2n, sr2c), (sr3a, sr3n, sr3c)) z _ (hhr.mem hfz) hsr2).mono ?_
  rintro e w4 ⟨rfl, hb⟩
  replace bo := bel_trans bo hb
  replace pgr := pgr.below hb
  replace hD2 := hD2.below hb
  clear hb s0 s1 s2 s3 psr hsr2 hhr phr
  have g0 := pgr.cell 0
  have g1 := pgr.cell 1
  have g2 := pgr.cell 2
  have g3 := pgr.cell 3
  simp only [List.getElem?_cons_zero, List.getElem?_cons_succ] at g0 g1 g2 g3
  go_wp2_with fail
  refine (HH _ hD2).mono ?_
  rintro e w5 ⟨rfl, hb⟩
  have bz := bel_trans (bel_trans bw bo) hb
  clear hb g0 g1 g2 g3
  go_wp2
  go_ret
  exact ⟨rfl, bz⟩
end Go.Proofs.Ytiigmlfcffcfmaa
