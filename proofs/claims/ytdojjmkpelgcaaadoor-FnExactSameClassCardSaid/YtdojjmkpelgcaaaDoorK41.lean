/-
  Joined: LstI, EvA.
-/
import Derived.Test.YtdojjmkpelgcaaaDoorProg
import Derived.Deep.RegionHeld3
import Derived.KernelRfl
import Derived.Tactics
import Derived.WalkKit
import Derived.WalkSpells
import Derived.WalkLawsBesides
import Derived.RegionTactic
import Derived.BigQuiet
import Derived.Deep.QuietTactic
import Derived.Deep.Slices
import Derived.Deep.Strs
import Derived.Deep.Fields
import Derived.ChangeSame
import Derived.Handy
import Derived.OwnWalk
import Derived.ChangeSlices
import Derived.Lib.SmallJoins
import Derived.Shelf.Abstract
import Derived.Laws.BytesArg
import Derived.Deep.RegionLaw
import Derived.Laws.OwnMore
import Derived.Laws.CopyOwn
import Derived.Laws.Tables
import Derived.BigRegion
import Derived.Maps.AppendAt
import Derived.IntWalk
import Derived.Deep.MidRow
import Derived.Laws.RangeString
import Derived.Laws.RangeAny
import Derived.Laws.Bits
import Derived.Lib.FieldsP
import Derived.Test.YtdojjmkpelgcaaaDoorK01
import Derived.Test.YtdojjmkpelgcaaaDoorK02
import Derived.Test.YtdojjmkpelgcaaaDoorK03
import Derived.Test.YtdojjmkpelgcaaaDoorK04
import Derived.Test.YtdojjmkpelgcaaaDoorK07
import Derived.Test.YtdojjmkpelgcaaaDoorK08
import Derived.Test.YtdojjmkpelgcaaaDoorK09
import Derived.Test.YtdojjmkpelgcaaaDoorK10
import Derived.Test.YtdojjmkpelgcaaaDoorK11
import Derived.Test.YtdojjmkpelgcaaaDoorK12
import Derived.Test.YtdojjmkpelgcaaaDoorK16
import Derived.Test.YtdojjmkpelgcaaaDoorK18
import Derived.Test.YtdojjmkpelgcaaaDoorK21
import Derived.Test.YtdojjmkpelgcaaaDoorK22
import Derived.Test.YtdojjmkpelgcaaaDoorK23
import Derived.Test.YtdojjmkpelgcaaaDoorK25
import Derived.Test.YtdojjmkpelgcaaaDoorK27
import Derived.Test.YtdojjmkpelgcaaaDoorK28
import Derived.Test.YtdojjmkpelgcaaaDoorK31
import Derived.Test.YtdojjmkpelgcaaaDoorK32
import Derived.Test.YtdojjmkpelgcaaaDoorK37
import Derived.Test.YtdojjmkpelgcaaaDoorK40

/-
  The program's leastThread.
-/
namespace Go.Proofs.YtdojjmkpelgcaaaDoor
open Go.RowKit
set_option linter.unusedVariables false
set_option linter.unusedSimpArgs false

theorem tab_three (f : Nat → Value) : tab 3 f = [f 0, f 1, f 2] := rfl
def dueC (f : Nat → Nat) (t u : Nat) : Nat := f u + (if u = t then 1 else 0)
theorem okN_due (D : Nat → Nat → Bool) (th : Nat → Nat) (f : Nat → Nat) (k : Nat) : okN D th f k = (decide (clk D th k (th k) = dueC f (th k) (th k)) && inC (clk D th k) (dueC f (th k))) := by
  unfold okN inC dueC
  simp only [if_true]
theorem leastT_step (ok : Nat → Bool) (th : Nat → Nat) (n : Nat) : leastT ok th (n + 1) = if ok n then Nat.min (leastT ok th n) (th n) else leastT ok th n := rfl
theorem leastT_three {ok : Nat → Bool} {th : Nat → Nat} : ∀ n, leastT ok th n ≤ 3
  | 0 => Nat.le_refl _
  | n + 1 => by
    rw [leastT_step]
    have := leastT_three (ok := ok) (th := th) n
    split
    · exact Nat.le_trans (Nat.min_le_left _ _) this
    · exact this

set_option maxHeartbeats 2000000 in
set_option maxRecDepth 100000 in
theorem leastThread_is (a : Option Addr) (n c g : Nat) (es : List I4) (w : World) (h : Evs w a n es) (hn : n ≤ 4096) (hI : inThree es) (hB : Blk w g 140 (tabC n (clk (depE es) (thE es)))) (f : Nat → Nat) (hf : ∀ t, f t ≤ 5000) :
    Calls Tryd.prog 91 #[.slice a n c, .slice (some ⟨g, 0, none⟩) n n, ck f] w fun e w' => e = .returned (.int .i64 (leastT (okN (depE es) (thE es) f) (thE es) n : Nat)) ∧ Below w.heap.size w w' := by
  obtain ⟨D, hD⟩ : ∃ D, D = depE es := ⟨_, rfl⟩
  obtain ⟨th, hT⟩ : ∃ th, th = thE es := ⟨_, rfl⟩
  rw [← hD, ← hT] at hB ⊢
  have HT : Hid (th = thE es) := hT
  clear hD hT
  unfold ck
  have pF := Blk.new w 140 [.int .i64 (f 0 : Nat), .int .i64 (f 1 : Nat), .int .i64 (f 2 : Nat)]
  have bw : Below w.heap.size w (w.alloc (.cells #[.int .i64 (f 0 : Nat), .int .i64 (f 1 : Nat), .int .i64 (f 2 : Nat)] 140)) := by go_grown
  have hgl9 := hB.lt
  obtain ⟨gF, hgF⟩ : ∃ gF, gF = w.heap.size := ⟨_, rfl⟩
  have HgF : Hid (gF = w.heap.size) := hgF
  rw [← hgF] at pF
  have hgFw : w.heap.size ≤ gF := by omega
  have hgg : g < gF := by omega
  obtain ⟨ok, hok⟩ : ∃ ok, ok = okN D th f := ⟨_, rfl⟩
  rw [← hok]
  have HK : Hid (ok = okN D th f) := hok
  clear hok hgF
  go_enter Tryd.func91, Tryd.ntmps91
  go_wp2_with fail
  rw [← HgF.out]
  generalize w.alloc (.cells #[.int .i64 (f 0 : Nat), .int .i64 (f 1 : Nat), .int .i64 (f 2 : Nat)] 140) = U at *
  go_wp2_with fail
  go_loopw [7, 14] (fun sl si wr => ∃ i : Nat, i ≤ n ∧ sl = .int .i64 (leastT ok th i : Nat) ∧ si = .int .i64 i ∧ Hid (Blk wr gF 140 [.int .i64 (f 0 : Nat), .int .i64 (f 1 : Nat), .int .i64 (f 2 : Nat)]) ∧ Below w.heap.size w wr) (fun _ si _ => n - (intOf si).toNat)
  case atStart => exact ⟨0, by omega, rfl, rfl, pF, bw⟩
  case round =>
    clear pF bw
    obtain ⟨i, hi, rfl, rfl, pF, bw⟩ := hrel
    by_cases hin : i < n
    · have hin' : (i : Int) < (n : Int) := by omega
      have hi0 : (0 : Int) ≤ (i : Int) := by omega
      obtain ⟨ge, rfl, hgl, hrg⟩ := ev_range h bw hin
      have hti : (th i : Int) = (evAt es i).1 := by rw [HT.out]; exact thE_int hI i
      have ht3 : th i < 3 := by rw [HT.out]; exact thE_three hI i
      generalize evAt es i = x at hrg hti
      obtain ⟨x0, x1, x2, x3⟩ := x
      simp only at hrg hti
      subst hti
      have HL : Hid (leastT ok th (i + 1) = if ok i then Nat.min (leastT ok th i) (th i) else leastT ok th i) := rfl
      have hl3 := leastT_three (ok := ok) (th := th) i
      have HO : Hid (ok i = (decide (clk D th i (th i) = dueC f (th i) (th i)) && inC (clk D th i) (dueC f (th i)))) := by rw [HK.out]; exact okN_due D th f i
      generalize leastT ok th i = l at *
      obtain ⟨t, ht⟩ : ∃ t, t = th i := ⟨_, rfl⟩
      rw [← ht] at ht3 hrg HL HO
      clear ht
      have pN := Blk.new wr 33 [.int .i64 0, .int .i64 0, .int .i64 0, .int .i64 0]
      have ha : Below wr.heap.size wr (wr.alloc (.cells #[.int .i64 0, .int .i64 0, .int .i64 0, .int .i64 0] 33)) := by go_grown
      go_wp2_with (first | refine wpList_load_mid rfl 33 _ rfl ge (i * 4) rfl [.int .i64 (t : Int), .int .i64 x1, .int .i64 x2, .int .i64 x3] _ hrg Tryd.underlying33 rfl (by kernel_rfl) ?_ | refine wpList_store_blk rfl 33 _ _ rfl wr.heap.size [.int .i64 (t : Int), .int .i64 x1, .int .i64 x2, .int .i64 x3] rfl rfl pN (by kernel_rfl) rfl rfl ?_)
      intro W pX g1
      have hfr := pF.out.lt
      have pF1 := (pF.out.below ha).kept g1 (by simp; omega)
      have bw1 := (bel_trans bw ha).grown g1 (Nat.le_trans bw.size ha.size) (fun k e => by cases e; exact bw.size)
      have pX1 := pX.out
      have hXl := pX1.lt
      have hFX : gF < wr.heap.size := hfr
      clear pN ha g1 hrg pX bw pF hfr
      generalize wr.heap.size = gX at *
      have pN := Blk.new W 140 [.int .i64 0, .int .i64 0, .int .i64 0]
      have ha : Below W.heap.size W (W.alloc (.cells #[.int .i64 0, .int .i64 0, .int .i64 0] 140)) := by go_grown
      go_wp2_with (first | refine wpList_load_blk rfl 140 _ rfl gF rfl pF1 _ Tryd.underlying140 rfl (by kernel_rfl) ?_ | refine wpList_store_blk rfl 140 _ _ rfl W.heap.size [.int .i64 (f 0 : Nat), .int .i64 (f 1 : Nat), .int .i64 (f 2 : Nat)] rfl rfl pN (by kernel_rfl) rfl rfl ?_)
      intro V pD g1
      have pF2 : Hid (Blk V gF 140 [.int .i64 (f 0 : Nat), .int .i64 (f 1 : Nat), .int .i64 (f 2 : Nat)]) := (pF1.below ha).kept g1 (by simp; omega)
      have pX2 := (pX1.below ha).kept g1 (by simp; omega)
      have bw2 := (bel_trans bw1 ha).grown g1 (Nat.le_trans bw1.size ha.size) (fun k e => by cases e; exact bw1.size)
      have pD1 := pD.out
      have hsz := bw1.size
      clear pN ha g1 pX1 pF1 bw1 pD
      generalize W.heap.size = gD at *
      have cX := pX2.cell 0
      simp only [List.getElem?_cons_zero] at cX
      have ht9 : (t : Int) < 3 := by omega
      have ht8 : (0 : Int) ≤ (t : Int) := by omega
      have c0 := (pD1.cell t).trans ((congrArg (·[t]?) (tab_three fun u => .int .i64 (f u : Nat))).symm.trans (tab_get _ ht3))
      have f0 := pD1.frozen t
      have hft := hf t
      have pD2 : Hid (Blk (V.setCell ⟨gD, t, none⟩ (.int .i64 (f t + 1 : Nat))) gD 140 (tab 3 fun u => .int .i64 (dueC f t u : Nat))) := by
        have := pD1.set t (.int .i64 (f t + 1 : Nat))
        have e : [.int .i64 (f 0 : Nat), .int .i64 (f 1 : Nat), .int .i64 (f 2 : Nat)].set t (.int .i64 (f t + 1 : Nat)) = tab 3 (fun u => .int .i64 (dueC f t u : Nat)) := by
          rw [← tab_three fun u => .int .i64 (f u : Nat), tab_set]
          refine tab_congr (fun u _ => ?_)
          unfold dueC
          by_cases e : u = t
          · subst e; simp
          · simp [e]
        rw [e] at this
        exact this
      have gs : V.grownBy (V.setCell ⟨gD, t, none⟩ (.int .i64 (f t + 1 : Nat))) (some gD) := ⟨rfl, rfl, rfl, by simp, fun i _ hr => Below.heap_setCell V ⟨gD, t, none⟩ _ i (fun e => hr (by rw [e]))⟩
      have pF3 : Hid (Blk _ gF 140 [.int .i64 (f 0 : Nat), .int .i64 (f 1 : Nat), .int .i64 (f 2 : Nat)]) := pF2.out.kept gs (by simp; omega)
      have pX3 := pX2.kept gs (by simp; omega)
      have bw3 := bw2.grown gs bw2.size (fun k e => by cases e; omega)
      clear pF2 pX2 bw2 pD1 gs
      rw [show ((f t + 1 : Nat) : Int) = (f t : Int) + 1 from rfl] at pD2 pF3 pX3 bw3
      go_wp2_with fail
      generalize V.setCell ⟨gD, t, none⟩ (.int .i64 ((f t : Int) + 1)) = V2 at *
      clear cX c0 f0
      have cX := pX3.cell 0
      simp only [List.getElem?_cons_zero] at cX
      have pB := hB.below bw3
      have kt := (pB.cell (i * 3 + t)).trans (tabC_get _ hin ht3)
      have dt := (pD2.out.cell t).trans (tab_get _ ht3)
      have kk : ∀ u, u < 3 → V2.cell? ⟨g, i * 3 + u, none⟩ = some (.int .i64 (clk D th i u : Nat)) := fun u hu => (pB.cell (i * 3 + u)).trans (tabC_get _ hin hu)
      have dd : ∀ u, u < 3 → V2.cell? ⟨gD, u, none⟩ = some (.int .i64 (dueC f t u : Nat)) := fun u hu => (pD2.out.cell u).trans (tab_get _ hu)
      have k0 := kk 0 (by omega)
      have k1 := kk 1 (by omega)
      have k2 := kk 2 (by omega)
      have e0 := dd 0 (by omega)
      have e1 := dd 1 (by omega)
      have e2 := dd 2 (by omega)
      rw [Nat.add_zero] at k0
      have kW := fun W => within_is (clk D th i) (dueC f t) W
      unfold ck at kW
      clear pB kk dd pX3 pD2
      obtain ⟨o2, ho2⟩ : ∃ o2, o2 = inC (clk D th i) (dueC f t) := ⟨_, rfl⟩
      rw [← ho2] at kW HO
      clear ho2
      generalize clk D th i 0 = q0 at *
      generalize clk D th i 1 = q1 at *
      generalize clk D th i 2 = q2 at *
      generalize dueC f t 0 = r0 at *
      generalize dueC f t 1 = r1 at *
      generalize dueC f t 2 = r2 at *
      generalize clk D th i t = qt at *
      generalize dueC f t t = rt at *
      by_cases heq : qt = rt
      · subst heq
        have qe : ((qt : Int) == (qt : Int)) = true := by simp
        have HO2 : Hid (ok i = o2) := by rw [Hid, HO.out]; simp
        clear HO
        go_quiet (fail)
        have bw4 : Below w.heap.size w (V2.drewN nq) := bel_trans bw3 (below_dN nq)
        have pF4 : Hid (Blk (V2.drewN nq) gF 140 [.int .i64 (f 0 : Nat), .int .i64 (f 1 : Nat), .int .i64 (f 2 : Nat)]) := pF3.out.drewN nq
        have cX4 : (V2.drewN nq).cell? ⟨gX, 0, none⟩ = some (.int .i64 (t : Int)) := cX
        have k0' : (V2.drewN nq).cell? ⟨g, i * 3, none⟩ = some (.int .i64 (q0 : Nat)) := k0
        have k1' : (V2.drewN nq).cell? ⟨g, i * 3 + 1, none⟩ = some (.int .i64 (q1 : Nat)) := k1
        have k2' : (V2.drewN nq).cell? ⟨g, i * 3 + 2, none⟩ = some (.int .i64 (q2 : Nat)) := k2
        have e0' : (V2.drewN nq).cell? ⟨gD, 0, none⟩ = some (.int .i64 (r0 : Nat)) := e0
        have e1' : (V2.drewN nq).cell? ⟨gD, 1, none⟩ = some (.int .i64 (r1 : Nat)) := e1
        have e2' : (V2.drewN nq).cell? ⟨gD, 2, none⟩ = some (.int .i64 (r2 : Nat)) := e2
        clear bw3 pF3 cX k0 k1 k2 e0 e1 e2 kt dt
        generalize V2.drewN nq = V3 at *
        go_wp2_with fail
        go_region_held3 (fun w' => w'.cell? ⟨g, i * 3, none⟩ = some (.int .i64 (q0 : Nat)) ∧ w'.cell? ⟨g, i * 3 + 1, none⟩ = some (.int .i64 (q1 : Nat)) ∧ w'.cell? ⟨g, i * 3 + 2, none⟩ = some (.int .i64 (q2 : Nat)) ∧ w'.cell? ⟨gD, 0, none⟩ = some (.int .i64 (r0 : Nat)) ∧ w'.cell? ⟨gD, 1, none⟩ = some (.int .i64 (r1 : Nat)) ∧ w'.cell? ⟨gD, 2, none⟩ = some (.int .i64 (r2 : Nat))) (first | (exact ⟨k0', k1', k2', e0', e1', e2'⟩) | (refine ⟨?_, ?_, ?_, ?_, ?_, ?_⟩ <;> (apply cells_kept (by assumption); assumption)) | go_keep)
          (first | (go_at_call 123; refine (kW _).mono ?_; rintro e V4 ⟨rfl, hb⟩))
        rename_i hHeld
        have hb5 : Below V3.heap.size V3 V4 := bel_trans (by go_grown) hb
        have bw5 := bel_trans bw4 hb5
        have pF5 : Hid (Blk V4 gF 140 [.int .i64 (f 0 : Nat), .int .i64 (f 1 : Nat), .int .i64 (f 2 : Nat)]) := pF4.out.below hb5
        have cX5 := cells_kept hb5 _ _ cX4
        clear hHeld k0' k1' k2' e0' e1' e2' cX4 pF4 bw4 hb hb5 kW
        cases o2
        · have HO3 : Hid (leastT ok th (i + 1) = l) := by rw [Hid, HL.out, HO2.out]; simp
          clear HO2 HL
          go_wp2
          go_roundw
          case rel => exact ⟨i + 1, by omega, by rw [HO3.out], by go_num, pF5, bw5⟩
          case measure => simp [intOf]; omega
        · have HO3 : Hid (leastT ok th (i + 1) = Nat.min l t) := by rw [Hid, HL.out, HO2.out]; simp
          clear HO2 HL
          by_cases hlt : l < t
          · have HO4 : Hid (leastT ok th (i + 1) = l) := by rw [Hid, HO3.out]; exact Nat.min_eq_left (by omega)
            have hlt' : (l : Int) < (t : Int) := by omega
            have hlt9 : ¬ (t : Int) < (l : Int) := by omega
            clear HO3 hlt
            go_wp2
            go_roundw
            case rel => exact ⟨i + 1, by omega, by rw [HO4.out] <;> (try (congr 1; omega)), by go_num, pF5, bw5⟩
            case measure => simp [intOf]; omega
          · have HO4 : Hid (leastT ok th (i + 1) = t) := by rw [Hid, HO3.out]; exact Nat.min_eq_right (by omega)
            clear HO3
            by_cases hle : t < l
            · have hlt' : (t : Int) < (l : Int) := by omega
              have hlt9 : ¬ (l : Int) < (t : Int) := by omega
              clear hlt hle
              go_wp2
              go_roundw
              case rel => exact ⟨i + 1, by omega, by rw [HO4.out] <;> (try (congr 1; omega)), by go_num, pF5, bw5⟩
              case measure => simp [intOf]; omega
            · obtain rfl : t = l := by omega
              have hlt9 : ¬ (t : Int) < (t : Int) := by omega
              clear hlt hle
              go_wp2
              go_roundw
              case rel => exact ⟨i + 1, by omega, by rw [HO4.out] <;> (try (congr 1; omega)), by go_num, pF5, bw5⟩
              case measure => simp [intOf]; omega
      · have qe : ((qt : Int) == (rt : Int)) = false := by simp; omega
        have HO2 : Hid (leastT ok th (i + 1) = l) := by rw [Hid, HL.out, HO.out]; simp [heq]
        clear HO HL kW heq
        go_quiet (fail)
        go_wp2
        go_quiet (fail)
        go_wp2
        go_roundw
        case rel => exact ⟨i + 1, by omega, by rw [HO2.out], by go_num, pF3.out.drewN _, bel_trans bw3 (below_dN _)⟩
        case measure => simp [intOf]; omega
    · obtain rfl : i = n := by omega
      go_wp2
      go_ret
      exact ⟨rfl, bw⟩
end Go.Proofs.YtdojjmkpelgcaaaDoor


/-
  What an instruction touches; an event of the program's machine.
-/
namespace Go.Proofs.YtdojjmkpelgcaaaDoor
open Go.RowKit
set_option linter.unusedVariables false
set_option linter.unusedSimpArgs false

def objM (x : I3) : Int := if x.1 = 1 then x.2.2 else if x.1 = 2 then x.2.1 else if x.1 = 5 ∨ x.1 = 6 then 4 + x.2.1 else -1
def eventM (rows : List (List I3)) (m : V4) (k : Nat) : Int × Int × Int × Int := (k, m.1.getD k 0, (insM rows m k).1, objM (insM rows m k))

set_option maxHeartbeats 1000000 in
set_option maxRecDepth 100000 in
theorem objOf_is (x0 x1 x2 : Int) (hx : -1000 ≤ x1 ∧ x1 ≤ 1000) (w : World) : Calls Tryd.prog 77 #[.agg #[.int .i64 x0, .int .i64 x1, .int .i64 x2]] w fun e w' => e = .returned (.int .i64 (objM (x0, x1, x2))) ∧ Below w.heap.size w w' := by
  obtain ⟨r, hr⟩ : ∃ r, r = objM (x0, x1, x2) := ⟨_, rfl⟩
  rw [← hr]
  unfold objM at hr
  simp only at hr
  have HR : Hid (r = if x0 = 1 then x2 else if x0 = 2 then x1 else if x0 = 5 ∨ x0 = 6 then 4 + x1 else -1) := hr
  clear hr
  have h4 : IntKind.i64.wrap (4 + x1) = 4 + x1 := IntWalk.i64_in _ (by omega)
  by_cases q1 : x0 = 1
  · have HF : Hid (r = x2) := by rw [Hid, HR.out]; simp [q1]
    subst q1
    clear HR 
    go_enter Tryd.func77, Tryd.ntmps77
    go_wp2
    go_ret
    exact ⟨by rw [HF.out]; rfl, by go_grown⟩
  by_cases q2 : x0 = 2
  · have HF : Hid (r = x1) := by rw [Hid, HR.out]; simp [q2]
    subst q2
    clear HR q1
    go_enter Tryd.func77, Tryd.ntmps77
    go_wp2
    go_ret
    exact ⟨by rw [HF.out]; rfl, by go_grown⟩
  by_cases q5 : x0 = 5
  · have HF : Hid (r = 4 + x1) := by rw [Hid, HR.out]; simp [q5]
    subst q5
    clear HR q1 q2
    go_enter Tryd.func77, Tryd.ntmps77
    go_wp2
    go_ret
    exact ⟨by rw [HF.out]; rfl, by go_grown⟩
  by_cases q6 : x0 = 6
  · have HF : Hid (r = 4 + x1) := by rw [Hid, HR.out]; simp [q6]
    subst q6
    clear HR q1 q2 q5
    go_enter Tryd.func77, Tryd.ntmps77
    go_wp2
    go_ret
    exact ⟨by rw [HF.out]; rfl, by go_grown⟩
  have HF : Hid (r = -1) := by rw [Hid, HR.out, if_neg q1, if_neg q2, if_neg (by omega)]
  have r1 : (x0 == 1) = false := by simp [q1]
  have r2 : (x0 == 2) = false := by simp [q2]
  have r5 : (x0 == 5) = false := by simp [q5]
  have r6 : (x0 == 6) = false := by simp [q6]
  clear HR q1 q2 q5 q6
  go_enter Tryd.func77, Tryd.ntmps77
  go_wp2
  go_ret
  exact ⟨by rw [HF.out]; rfl, by go_grown⟩

set_option maxHeartbeats 1000000 in
set_option maxRecDepth 100000 in
theorem l05Obj_is (x0 x1 x2 : Int) (hx : -1000 ≤ x1 ∧ x1 ≤ 1000) (w : World) : Calls Tryd.prog 79 #[.agg #[.int .i64 x0, .int .i64 x1, .int .i64 x2]] w fun e w' => e = .returned (.int .i64 (objM (x0, x1, x2))) ∧ Below w.heap.size w w' := by
  obtain ⟨r, hr⟩ : ∃ r, r = objM (x0, x1, x2) := ⟨_, rfl⟩
  rw [← hr]
  unfold objM at hr
  simp only at hr
  have HR : Hid (r = if x0 = 1 then x2 else if x0 = 2 then x1 else if x0 = 5 ∨ x0 = 6 then 4 + x1 else -1) := hr
  clear hr
  have h4 : IntKind.i64.wrap (4 + x1) = 4 + x1 := IntWalk.i64_in _ (by omega)
  by_cases q1 : x0 = 1
  · have HF : Hid (r = x2) := by rw [Hid, HR.out]; simp [q1]
    subst q1
    clear HR 
    go_enter Tryd.func79, Tryd.ntmps79
    go_wp2
    go_ret
    exact ⟨by rw [HF.out]; rfl, by go_grown⟩
  by_cases q2 : x0 = 2
  · have HF : Hid (r = x1) := by rw [Hid, HR.out]; simp [q2]
    subst q2
    clear HR q1
    go_enter Tryd.func79, Tryd.ntmps79
    go_wp2
    go_ret
    exact ⟨by rw [HF.out]; rfl, by go_grown⟩
  by_cases q5 : x0 = 5
  · have HF : Hid (r = 4 + x1) := by rw [Hid, HR.out]; simp [q5]
    subst q5
    clear HR q1 q2
    go_enter Tryd.func79, Tryd.ntmps79
    go_wp2
    go_ret
    exact ⟨by rw [HF.out]; rfl, by go_grown⟩
  by_cases q6 : x0 = 6
  · have HF : Hid (r = 4 + x1) := by rw [Hid, HR.out]; simp [q6]
    subst q6
    clear HR q1 q2 q5
    go_enter Tryd.func79, Tryd.ntmps79
    go_wp2
    go_ret
    exact ⟨by rw [HF.out]; rfl, by go_grown⟩
  have HF : Hid (r = -1) := by rw [Hid, HR.out, if_neg q1, if_neg q2, if_neg (by omega)]
  have r1 : (x0 == 1) = false := by simp [q1]
  have r2 : (x0 == 2) = false := by simp [q2]
  have r5 : (x0 == 5) = false := by simp [q5]
  have r6 : (x0 == 6) = false := by simp [q6]
  clear HR q1 q2 q5 q6
  go_enter Tryd.func79, Tryd.ntmps79
  go_wp2
  go_ret
  exact ⟨by rw [HF.out]; rfl, by go_grown⟩

set_option maxHeartbeats 1600000 in
set_option maxRecDepth 100000 in
theorem event_raw (g k p b off n c : Nat) (x0 x1 x2 : Int) (w : World) (hk : k < 3) (hp : p < n) (hp6 : p ≤ 6) (hx : -1000 ≤ x1 ∧ x1 ≤ 1000)
    (e0 : w.cell? ⟨g, k * 4, none⟩ = some (.slice (some ⟨b, off, none⟩) n c)) (e1 : w.cell? ⟨g, k * 4 + 1, none⟩ = some (.int .i64 p)) (q0 : w.cell? ⟨b, off + p * 3, none⟩ = some (.int .i64 x0)) (q1 : w.cell? ⟨b, off + p * 3 + 1, none⟩ = some (.int .i64 x1)) (q2 : w.cell? ⟨b, off + p * 3 + 2, none⟩ = some (.int .i64 x2)) :
    Calls Tryd.prog 41 #[.pointer (some ⟨g, 0, none⟩), .int .i64 k] w fun e w' => e = .returned (.agg #[.int .i64 k, .int .i64 p, .int .i64 x0, .int .i64 (objM (x0, x1, x2))]) ∧ Below w.heap.size w w' := by
  have hgl : g < w.heap.size := World.block_lt_of_cell? _ _ e1
  have hk3 : (k : Int) < 3 := by omega
  have hpn : (p : Int) < (n : Int) := by omega
  have kO := objOf_is x0 x1 x2 hx
  generalize objM (x0, x1, x2) = ob at *
  have bw : Below w.heap.size w (w.alloc (.cells #[.int .i64 0, .int .i64 0, .int .i64 0, .int .i64 0] 33)) := by go_grown
  have pR : Blk (w.alloc (.cells #[.int .i64 0, .int .i64 0, .int .i64 0, .int .i64 0] 33)) w.heap.size 33 [.int .i64 0, .int .i64 0, .int .i64 0, .int .i64 0] := blkAt _ _ _ rfl
  replace e0 := cells_kept bw _ _ e0
  replace e1 := cells_kept bw _ _ e1
  replace q0 := cells_kept bw _ _ q0
  replace q1 := cells_kept bw _ _ q1
  replace q2 := cells_kept bw _ _ q2
  go_enter Tryd.func41, Tryd.ntmps41
  go_wp2_with fail
  have hX9 : w.heap.size < (w.alloc (.cells #[.int .i64 0, .int .i64 0, .int .i64 0, .int .i64 0] 33)).heap.size := pR.lt
  generalize (w.alloc (.cells #[.int .i64 0, .int .i64 0, .int .i64 0, .int .i64 0] 33)) = W at *
  refine wp_region_held_drew (S := (fun w' => w'.cell? ⟨g, k * 4, none⟩ = some (.slice (some ⟨b, off, none⟩) n c) ∧ w'.cell? ⟨g, k * 4 + 1, none⟩ = some (.int .i64 p) ∧ w'.cell? ⟨b, off + p * 3, none⟩ = some (.int .i64 x0) ∧ w'.cell? ⟨b, off + p * 3 + 1, none⟩ = some (.int .i64 x1) ∧ w'.cell? ⟨b, off + p * 3 + 2, none⟩ = some (.int .i64 x2))) (by kernel_rfl) ⟨e0, e1, q0, q1, q2⟩ (fun hS0 => ?_)
  refine tkm 0 12 (.pointer (some ⟨g, k * 4, none⟩)) ?_
  refine tkm 1 13 (.pointer (some ⟨g, k * 4, none⟩)) ?_
  refine tkm 2 14 (.pointer (some ⟨g, k * 4, none⟩)) ?_
  refine tkm 3 15 (.slice (some ⟨b, off, none⟩) n c) ?_
  refine tkm 4 16 (.pointer (some ⟨g, k * 4, none⟩)) ?_
  refine tkm 5 17 (.pointer (some ⟨g, k * 4, none⟩)) ?_
  refine tkm 6 18 (.pointer (some ⟨g, k * 4 + 1, none⟩)) ?_
  refine tkm 7 19 (.int .i64 p) ?_
  refine tkm 8 20 (.pointer (some ⟨b, off + p * 3, none⟩)) ?_
  refine tkm 9 21 (.agg #[.int .i64 x0, .int .i64 x1, .int .i64 x2]) ?_
  refine tkr 10 6 (fun K hK => ?_)
  have hal : Below W.drew.heap.size W.drew (W.drew.alloc (.cells #[.int .i64 0, .int .i64 0, .int .i64 0] 112)) := by go_grown
  go_simp
  refine hK.out _ _ ?_ (fun hS1 => ?_)
  · exact ⟨cells_kept hal _ _ hS0.1, cells_kept hal _ _ hS0.2.1, cells_kept hal _ _ hS0.2.2.1, cells_kept hal _ _ hS0.2.2.2.1, cells_kept hal _ _ hS0.2.2.2.2⟩
  clear hK
  try simp only [Act.put, tka, tkb, tkc]
  refine tkz 11 (fun K hK => ?_)
  have hal2 : Below W.drew.heap.size W.drew (W.drew.alloc (.cells #[.int .i64 x0, .int .i64 x1, .int .i64 x2] 112)) := by go_grown
  go_simp
  refine hK.out _ _ ?_ (fun hS2 => ?_)
  · exact ⟨cells_kept hal2 _ _ hS0.1, cells_kept hal2 _ _ hS0.2.1, cells_kept hal2 _ _ hS0.2.2.1, cells_kept hal2 _ _ hS0.2.2.2.1, cells_kept hal2 _ _ hS0.2.2.2.2⟩
  clear hK
  try simp only [Act.put, tka, tkb, tkc]
  refine wpAnyH_done (by kernel_rfl) ?_ _
  have hb : Below W.heap.size W (W.alloc (.cells #[.int .i64 x0, .int .i64 x1, .int .i64 x2] 112)).drew := by go_grown
  have pX : Blk (W.alloc (.cells #[.int .i64 x0, .int .i64 x1, .int .i64 x2] 112)).drew W.heap.size 112 [.int .i64 x0, .int .i64 x1, .int .i64 x2] := blkAt _ _ _ rfl
  replace bw := bel_trans bw hb
  replace pR := pR.below hb
  replace e1 := cells_kept hb _ _ e1
  skip
  clear hal hal2 hS0 hS1 hS2 e0 q0 q1 q2 hb
  go_wp2_with fail
  generalize (W.alloc (.cells #[.int .i64 x0, .int .i64 x1, .int .i64 x2] 112)).drew = V at *
  generalize W.heap.size = X at *
  have c0 := pX.cell 0
  have c1 := pX.cell 1
  have c2 := pX.cell 2
  simp only [List.getElem?_cons_zero, List.getElem?_cons_succ] at c0 c1 c2
  have hdr : Below V.heap.size V V.drew := by go_grown
  refine wp_region_held_drew (S := (fun w' => w'.cell? ⟨g, k * 4 + 1, none⟩ = some (.int .i64 p) ∧ w'.cell? ⟨X, 0, none⟩ = some (.int .i64 x0) ∧ w'.cell? ⟨X, 1, none⟩ = some (.int .i64 x1) ∧ w'.cell? ⟨X, 2, none⟩ = some (.int .i64 x2))) (by kernel_rfl) ⟨e1, c0, c1, c2⟩ (fun hS0 => ?_)
  refine tkm 0 22 (.int .i64 (k : Int)) ?_
  refine tkm 1 23 (.pointer (some ⟨g, k * 4, none⟩)) ?_
  refine tkm 2 24 (.pointer (some ⟨g, k * 4, none⟩)) ?_
  refine tkm 3 25 (.pointer (some ⟨g, k * 4 + 1, none⟩)) ?_
  refine tkm 4 26 (.int .i64 p) ?_
  refine tkm 5 27 (.pointer (some ⟨X, 0, none⟩)) ?_
  refine tkm 6 28 (.int .i64 x0) ?_
  refine tkm 7 29 (.agg #[.int .i64 x0, .int .i64 x1, .int .i64 x2]) ?_
  refine tkr 8 30 (fun K hK => ?_)
  go_simp
  refine (kO _).mono ?_
  rintro e U ⟨rfl, hb8⟩
  go_wp2_with fail
  refine hK.out _ _ ?_ (fun hS1 => ?_)
  · exact ⟨cells_kept hb8 _ _ hS0.1, cells_kept hb8 _ _ hS0.2.1, cells_kept hb8 _ _ hS0.2.2.1, cells_kept hb8 _ _ hS0.2.2.2⟩
  clear hK
  refine tkm 9 31 (.agg #[.int .i64 (k : Int), .int .i64 p, .int .i64 x0, .int .i64 ob]) ?_
  replace pR := pR.below (bel_trans hdr hb8)
  replace bw := bel_trans bw (bel_trans hdr hb8)
  refine tkz 10 (fun K hK => ?_)
  refine step_store_blkD rfl 33 _ _ rfl w.heap.size [.int .i64 (k : Int), .int .i64 p, .int .i64 x0, .int .i64 ob] rfl rfl pR (by kernel_rfl) rfl rfl ?_
  intro U2 pR2 g2
  have bz := bw.grown g2 bw.size (fun j hj => by cases hj; omega)
  have n1 : (some g : Option Nat) ≠ some w.heap.size := by simp; omega
  have n2 : (some X : Option Nat) ≠ some w.heap.size := by simp; omega
  refine hK.out _ _ ⟨cell_grownB g2 hS1.1 n1, cell_grownB g2 hS1.2.1 n2, cell_grownB g2 hS1.2.2.1 n2, cell_grownB g2 hS1.2.2.2 n2⟩ (fun hS2 => ?_)
  clear hK
  try simp only [Act.put, tka, tkb, tkc]
  refine wpAnyH_done (by kernel_rfl) ?_ _
  clear hS0 hS1 hS2 n1 n2 g2 bw pR hdr hb8 kO c0 c1 c2 e1 pX
  go_wp2_with fail
  refine bodyPost_ret (results_blk1 Tryd.results41 _ _ _ _ _ _ rfl pR2.out Tryd.underlying33 rfl (by kernel_rfl)) rfl ?_
  exact ⟨rfl, bz⟩

theorem okI_mid {x : I3} (h : okI x = true) : -1000 ≤ x.2.1 ∧ x.2.1 ≤ 1000 := by
  rcases okI_parts h with ⟨a, q, rfl, ha, hq⟩ | ⟨q, a, rfl, hq, ha⟩ | ⟨a, z, rfl, ha⟩ | ⟨a, z, rfl, ha, hz⟩ | ⟨a, z, rfl, ha⟩ | ⟨a, z, rfl, ha⟩ | ⟨a, z, rfl, ha, hz⟩ | ⟨a, z, rfl, ha⟩ <;> (simp only; omega)
theorem event_is {w : World} {g : Nat} {cs : Sl × Sl × Sl} {rows : List (List I3)} {m : V4} (h : MachAt w g cs rows m) (hp : progOk rows = true) (hs : shapeOk m = true) {k : Nat} (hk : k < 3) (hd : doneM rows m k = false) :
    Calls Tryd.prog 41 #[.pointer (some ⟨g, 0, none⟩), .int .i64 k] w fun e w' => e = .returned (.agg #[.int .i64 (eventM rows m k).1, .int .i64 (eventM rows m k).2.1, .int .i64 (eventM rows m k).2.2.1, .int .i64 (eventM rows m k).2.2.2]) ∧ Below w.heap.size w w' := by
  obtain ⟨p, ep, hlt, hi, hok⟩ := at_ins hp hs hk hd
  have hl6 := (codeM_len hp hk).1
  have e0 := h.code hk
  have e1 := h.pc hk
  rw [ep] at e1
  obtain ⟨b, off, ea, hpn, q0, q1, q2⟩ := ins_at (h.2 k hk) hlt
  rw [← hi] at q0 q1 q2
  rw [ea] at e0
  have hm := okI_mid hok
  unfold eventM
  rw [ep]
  generalize insM rows m k = x at *
  obtain ⟨x0, x1, x2⟩ := x
  exact event_raw g k p b off _ _ x0 x1 x2 w hk hpn (by omega) hm e0 e1 q0 q1 q2

end Go.Proofs.YtdojjmkpelgcaaaDoor

