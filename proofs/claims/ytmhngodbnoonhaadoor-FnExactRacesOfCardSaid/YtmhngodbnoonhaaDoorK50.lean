/-
  Joined: RacI.
-/
import Derived.Test.YtmhngodbnoonhaaDoorProg
import Derived.Deep.RegionHeld3
import Derived.KernelRfl
import Derived.Tactics
import Derived.WalkKit
import Derived.WalkSpells
import Derived.WalkLawsBesides
import Derived.RegionTactic
import Derived.BigQuiet
import Derived.Deep.QuietTactic
import Derived.Deep.Slices
import Derived.Deep.Strs
import Derived.Deep.Fields
import Derived.ChangeSame
import Derived.Handy
import Derived.OwnWalk
import Derived.ChangeSlices
import Derived.Lib.SmallJoins
import Derived.Shelf.Abstract
import Derived.Laws.BytesArg
import Derived.Deep.RegionLaw
import Derived.Laws.OwnMore
import Derived.Laws.CopyOwn
import Derived.Laws.Tables
import Derived.BigRegion
import Derived.Maps.AppendAt
import Derived.Stop.Asserts
import Derived.Recover
import Derived.IntWalk
import Derived.Deep.MidRow
import Derived.Laws.RangeString
import Derived.Laws.RangeAny
import Derived.Laws.Bits
import Derived.Lib.FieldsP
import Derived.Shelf.SlSortCmp.NoneTotal
import Derived.Shelf.Spec.SlicesGrow
import Derived.Laws.AppendOwnNone
import Derived.Lib.SliceRun
import Derived.Test.YtmhngodbnoonhaaDoorK01
import Derived.Test.YtmhngodbnoonhaaDoorK02
import Derived.Test.YtmhngodbnoonhaaDoorK04
import Derived.Test.YtmhngodbnoonhaaDoorK07
import Derived.Test.YtmhngodbnoonhaaDoorK08
import Derived.Test.YtmhngodbnoonhaaDoorK09
import Derived.Test.YtmhngodbnoonhaaDoorK11
import Derived.Test.YtmhngodbnoonhaaDoorK12
import Derived.Test.YtmhngodbnoonhaaDoorK16
import Derived.Test.YtmhngodbnoonhaaDoorK23
import Derived.Test.YtmhngodbnoonhaaDoorK24
import Derived.Test.YtmhngodbnoonhaaDoorK25
import Derived.Test.YtmhngodbnoonhaaDoorK26
import Derived.Test.YtmhngodbnoonhaaDoorK28
import Derived.Test.YtmhngodbnoonhaaDoorK39
import Derived.Test.YtmhngodbnoonhaaDoorK43
import Derived.Test.YtmhngodbnoonhaaDoorK47

/-
  The program's raceOver and RacesOf.
-/
namespace Go.Proofs.YtmhngodbnoonhaaDoor
open Go.RowKit
set_option linter.unusedVariables false
set_option linter.unusedSimpArgs false

def clearB (f : Nat → Bool) (i : Nat) : Nat → Bool
  | 0 => true
  | c + 1 => clearB f i c && (if i < c then !f c else true)
theorem clearB_low (f : Nat → Bool) (i : Nat) : ∀ c, c ≤ i + 1 → clearB f i c = true
  | 0, _ => rfl
  | c + 1, h => by
    show (clearB f i c && (if i < c then !f c else true)) = true
    rw [clearB_low f i c (by omega), if_neg (by omega)]
    rfl
theorem clearB_next {f : Nat → Bool} {i c : Nat} (h : i < c) : clearB f i (c + 1) = (clearB f i c && !f c) := by
  show (clearB f i c && (if i < c then !f c else true)) = _
  rw [if_pos h]
theorem clearB_hit {f : Nat → Bool} {i b : Nat} (hb : i < b) (hf : f b = true) : ∀ c, b < c → clearB f i c = false
  | 0, h => by omega
  | c + 1, h => by
    by_cases e : b = c
    · subst e
      rw [clearB_next hb, hf]
      simp
    · show (clearB f i c && _) = false
      rw [clearB_hit hb hf c (by omega)]
      rfl
def btwB (es : List I4) (i j b : Nat) : Bool := ahdB es i b && ahdB es b j
def raceB (es : List I4) (i j : Nat) : Bool := (decide (thE es i ≠ thE es j) && depE es i j) && clearB (btwB es i j) i j
def RaceAt (w : World) (gE gA : Nat) (es : List I4) (n : Nat) : Prop :=
  ∃ ea ec gE' gC', Blk w gE 61 [.slice ea n ec] ∧ Evs w ea n es ∧ Blk w gA 102 [.func (.func 108) #[] #[.pointer (some ⟨gE', 0, none⟩), .pointer (some ⟨gC', 0, none⟩)]] ∧ AhdAt w gE' gC' es n
theorem RaceAt.below {w w' : World} {gE gA : Nat} {es : List I4} {n : Nat} (h : RaceAt w gE gA es n) (hb : Below w.heap.size w w') : RaceAt w' gE gA es n := by
  obtain ⟨ea, ec, x, y, h1, h2, h3, h4⟩ := h
  exact ⟨ea, ec, x, y, h1.below hb, h2.below hb, h3.below hb, h4.below hb⟩

set_option maxHeartbeats 2000000 in
set_option maxRecDepth 100000 in
theorem races_is {w : World} {gE gA : Nat} {es : List I4} {n : Nat} (h : RaceAt w gE gA es n) (hn : n ≤ 4096) (hI : inThree es) {i j : Nat} (hij : i < j) (hj : j < n) :
    Calls Tryd.prog 110 #[.int .i64 i, .int .i64 j, .pointer (some ⟨gE, 0, none⟩), .pointer (some ⟨gA, 0, none⟩)] w fun e w' => e = .returned (.bool (raceB es i j)) ∧ Below w.heap.size w w' := by
  obtain ⟨ea, ec, gE', gC', pE, hE, pA, hA⟩ := h
  obtain ⟨ge, rfl, hgl, x0, x1, x2, x3⟩ := ev_cells hE (Below.refl _ _) (show i < n by omega)
  obtain ⟨ge9, hge9, _, y0, y1, y2, y3⟩ := ev_cells hE (Below.refl _ _) hj
  cases hge9
  have kE := pE.cell 0
  simp only [List.getElem?_cons_zero] at kE
  have h1 : (i : Int) < (n : Int) := by omega
  have h2 : (j : Int) < (n : Int) := by omega
  have h3 : (0 : Int) ≤ (i : Int) := by omega
  have h4 : (0 : Int) ≤ (j : Int) := by omega
  obtain ⟨b9, hb9⟩ : ∃ b9, b9 = raceB es i j := ⟨_, rfl⟩
  have HB : Hid (b9 = ((decide (thE es i ≠ thE es j) && depE es i j) && clearB (btwB es i j) i j)) := hb9
  rw [← hb9]
  have ti := thE_int hI i
  have tj := thE_int hI j
  have hdp : depE es i j = depM (evAt es i) (evAt es j) := rfl
  clear hb9 pE hE
  by_cases hth : thE es i = thE es j
  · have heq : ((evAt es i).1 == (evAt es j).1) = true := by rw [← ti, ← tj, hth]; simp
    have HB2 : Hid (b9 = false) := by rw [Hid, HB.out]; simp [hth]
    generalize (evAt es i).1 = xa at *
    generalize (evAt es j).1 = ya at *
    clear HB hth ti tj hdp x1 x2 x3 y1 y2 y3
    go_enter Tryd.func110, Tryd.ntmps110
    go_wp2
    go_quiet (fail)
    go_wp2
    go_ret
    exact ⟨by rw [HB2.out]; rfl, below_dN _⟩
  have heq : ((evAt es i).1 == (evAt es j).1) = false := by rw [← ti, ← tj]; simp; omega
  have kD := implDepends_is (evAt es i) (evAt es j)
  rw [← hdp] at kD
  have HB3 : Hid (b9 = (depE es i j && clearB (btwB es i j) i j)) := by rw [Hid, HB.out]; simp [hth]
  clear HB hth ti tj hdp
  generalize evAt es i = x at *
  generalize evAt es j = y at *
  obtain ⟨xa, xb, xc, xd⟩ := x
  obtain ⟨ya, yb, yc, yd⟩ := y
  unfold I4.val at kD
  simp only at x0 x1 x2 x3 y0 y1 y2 y3 heq kD
  obtain ⟨dd, hdd⟩ : ∃ dd, dd = depE es i j := ⟨_, rfl⟩
  rw [← hdd] at kD HB3
  clear hdd
  go_enter Tryd.func110, Tryd.ntmps110
  go_wp2_with fail
  go_region_held3 (fun w' => w'.cell? ⟨gE, 0, none⟩ = some (.slice (some ⟨ge, 0, none⟩) n ec) ∧ w'.cell? ⟨ge, i * 4, none⟩ = some (.int .i64 xa) ∧ w'.cell? ⟨ge, i * 4 + 1, none⟩ = some (.int .i64 xb) ∧ w'.cell? ⟨ge, i * 4 + 2, none⟩ = some (.int .i64 xc) ∧ w'.cell? ⟨ge, i * 4 + 3, none⟩ = some (.int .i64 xd) ∧ w'.cell? ⟨ge, j * 4, none⟩ = some (.int .i64 ya) ∧ w'.cell? ⟨ge, j * 4 + 1, none⟩ = some (.int .i64 yb) ∧ w'.cell? ⟨ge, j * 4 + 2, none⟩ = some (.int .i64 yc) ∧ w'.cell? ⟨ge, j * 4 + 3, none⟩ = some (.int .i64 yd)) (first | (exact ⟨kE, x0, x1, x2, x3, y0, y1, y2, y3⟩) | (refine ⟨?_, ?_, ?_, ?_, ?_, ?_, ?_, ?_, ?_⟩ <;> (apply cells_kept (by assumption); assumption)) | go_keep)
    (first | (go_at_call 111; refine (kD _).mono ?_; rintro e w1 ⟨rfl, hb1⟩))
  rename_i hHeld
  have b1 : Below w.heap.size w w1 := bel_trans (by go_grown) hb1
  have pA1 := pA.below b1
  have hA1 := hA.below b1
  clear hHeld hb1 kD x0 x1 x2 x3 y0 y1 y2 y3 kE pA hA
  cases dd
  · have HB2 : Hid (b9 = false) := by rw [Hid, HB3.out]; simp
    clear HB3
    go_wp2
    go_ret
    exact ⟨by rw [HB2.out]; rfl, b1⟩
  have HB4 : Hid (b9 = clearB (btwB es i j) i j) := by rw [Hid, HB3.out]; simp
  clear HB3
  have kA := fun (W : World) (b : Below w1.heap.size w1 W) (p q : Nat) (hp : p < n) (hq : q < n) => ahead_is (hA1.below b) hI hp hq
  have kc : ∀ W, Below w1.heap.size w1 W → W.cell? ⟨gA, 0, none⟩ = some (.func (.func 108) #[] #[.pointer (some ⟨gE', 0, none⟩), .pointer (some ⟨gC', 0, none⟩)]) := fun W b => by
    have := (pA1.below b).cell 0
    simp only [List.getElem?_cons_zero] at this
    exact this
  clear pA1 hA1
  go_wp2_with fail
  go_loopw [7] (fun sb wr => ∃ (b d : Nat), i < b ∧ b ≤ j ∧ sb = .int .i64 b ∧ Hid (clearB (btwB es i j) i b = true) ∧ wr = w1.drewN d) (fun sb _ => j - (intOf sb).toNat)
  case atStart => exact ⟨i + 1, 0, by omega, by omega, by go_num, clearB_low _ _ _ (by omega), rfl⟩
  case round =>
    obtain ⟨b, d, hb1, hb2, rfl, HC, rfl⟩ := hrel
    by_cases hbj : b < j
    · have hbj' : (b : Int) < (j : Int) := by omega
      have k1 := kA _ (below_dN d) i b (by omega) (by omega)
      have k2 := fun d2 => kA _ (below_dN d2) b j (by omega) hj
      have c1 := kc _ (below_dN d)
      have c2 := fun d2 => kc _ (below_dN d2)
      have HN : Hid (clearB (btwB es i j) i (b + 1) = (clearB (btwB es i j) i b && !(ahdB es i b && ahdB es b j))) := clearB_next hb1
      have HH : Hid ((ahdB es i b && ahdB es b j) = true → b9 = false) := fun hf => by rw [HB4.out]; exact clearB_hit hb1 hf j hbj
      generalize ahdB es i b = p1 at *
      generalize ahdB es b j = p2 at *
      go_wp2_with fail
      refine k1.mono ?_
      rintro e w2 ⟨rfl, d2, rfl⟩
      clear k1
      have e9 : (w1.drewN d).drewN d2 = w1.drewN (d + d2) := by simp [World.drewN]; omega
      rw [e9]
      cases p1
      · have HC2 : Hid (clearB (btwB es i j) i (b + 1) = true) := by rw [Hid, HN.out, HC.out]; rfl
        clear HN HH HC k2 c2 c1
        go_wp2
        refine ⟨⟨_, _, _, _, _, _, _, _, _, _, _, _, _, _, _, _, _, ⟨b + 1, _, by omega, by omega, ?e1, HC2, rfl⟩, rfl⟩, ?e2⟩
        case e1 => go_num
        case e2 => simp [intOf]; omega
      · have k3 := k2 (d + d2)
        have c3 := c2 (d + d2)
        clear k2 c2 c1
        go_wp2_with fail
        refine k3.mono ?_
        rintro e w3 ⟨rfl, d3, rfl⟩
        have e8 : (w1.drewN (d + d2)).drewN d3 = w1.drewN (d + d2 + d3) := by simp [World.drewN]; omega
        rw [e8]
        clear k3 c3
        cases p2
        · have HC2 : Hid (clearB (btwB es i j) i (b + 1) = true) := by rw [Hid, HN.out, HC.out]; rfl
          clear HN HH HC
          go_wp2
          refine ⟨⟨_, _, _, _, _, _, _, _, _, _, _, _, _, _, _, _, _, ⟨b + 1, _, by omega, by omega, ?e1, HC2, rfl⟩, rfl⟩, ?e2⟩
          case e1 => go_num
          case e2 => simp [intOf]; omega
        · have HB2 : Hid (b9 = false) := HH.out rfl
          clear HN HH HC
          go_wp2
          go_ret
          exact ⟨by rw [HB2.out]; rfl, bel_trans b1 (below_dN _)⟩
    · obtain rfl : b = j := by omega
      have HB2 : Hid (b9 = true) := by rw [Hid, HB4.out]; exact HC.out
      clear HC HB4 kA kc
      go_wp2
      go_ret
      exact ⟨by rw [HB2.out]; rfl, bel_trans b1 (below_dN _)⟩

def RaceGot (e : Ending) (w w' : World) (es : List I4) (n : Nat) : Prop := ∃ gE gA, e = .returned (.func (.func 110) #[] #[.pointer (some ⟨gE, 0, none⟩), .pointer (some ⟨gA, 0, none⟩)]) ∧ RaceAt w' gE gA es n ∧ Below w.heap.size w w'
set_option maxHeartbeats 1000000 in
set_option maxRecDepth 100000 in
theorem raceOver_is (a : Option Addr) (n c : Nat) (es : List I4) (w : World) (h : Evs w a n es) (hn : n ≤ 4096) (hnc : n ≤ c) (hI : inThree es) :
    Calls Tryd.prog 69 #[.slice a n c] w fun e w' => RaceGot e w w' es n := by
  have ha : Below w.heap.size w (w.alloc (.cells #[.slice a n c] 61)) := by go_grown
  have pE := Blk.new w 61 [.slice a n c]
  have kC := aheadOver_is a n c es _ (h.below ha) hn hnc hI
  unfold RaceGot
  have hE := h.below ha
  go_enter Tryd.func69, Tryd.ntmps69
  go_wp2_with fail
  generalize (w.alloc (.cells #[.slice a n c] 61)) = U at *
  obtain ⟨gE, hgE⟩ : ∃ gE, gE = w.heap.size := ⟨_, rfl⟩
  have HG : Hid (gE = w.heap.size) := hgE
  rw [← hgE] at pE ⊢
  clear hgE
  refine kC.mono ?_
  rintro e w2 ⟨gE', gC', rfl, hA, hb⟩
  have ha2 : Below w2.heap.size w2 (w2.alloc (.cells #[.func (.func 108) #[] #[.pointer (some ⟨gE', 0, none⟩), .pointer (some ⟨gC', 0, none⟩)]] 102)) := by go_grown
  have pC := Blk.new w2 102 [.func (.func 108) #[] #[.pointer (some ⟨gE', 0, none⟩), .pointer (some ⟨gC', 0, none⟩)]]
  have st : RaceAt (w2.alloc (.cells #[.func (.func 108) #[] #[.pointer (some ⟨gE', 0, none⟩), .pointer (some ⟨gC', 0, none⟩)]] 102)) gE w2.heap.size es n := ⟨a, c, gE', gC', (pE.below hb).below ha2, (hE.below hb).below ha2, pC, hA.below ha2⟩
  have bz : Below w.heap.size w (w2.alloc (.cells #[.func (.func 108) #[] #[.pointer (some ⟨gE', 0, none⟩), .pointer (some ⟨gC', 0, none⟩)]] 102)) := bel_trans (bel_trans ha hb) ha2
  have hsf : ∀ W : World, (store ⟨w2.heap.size, 0, none⟩ (.func (.func 108) #[] #[.pointer (some ⟨gE', 0, none⟩), .pointer (some ⟨gC', 0, none⟩)])).run Tryd.prog W = stored Tryd.prog W ⟨w2.heap.size, 0, none⟩ (.func (.func 108) #[] #[.pointer (some ⟨gE', 0, none⟩), .pointer (some ⟨gC', 0, none⟩)]) .plain := fun W => run_store _ _ _ _ _ rfl
  clear kC hA hb ha2 pC pE hE ha
  go_wp2
  go_ret
  exact ⟨gE, w2.heap.size, rfl, st, bz⟩

def bitN (b : Bool) : Nat := if b then 1 else 0
def raceN (es : List I4) : Nat := pairsJ (fun i j => bitN (raceB es i j)) es.length
theorem sumN_le {f : Nat → Nat} {B : Nat} (h : ∀ i, f i ≤ B) : ∀ n, sumN f n ≤ n * B
  | 0 => by simp [sumN]
  | n + 1 => by
    have := sumN_le h n
    have := h n
    show sumN f n + f n ≤ _
    rw [Nat.add_mul, Nat.one_mul]
    omega
theorem bitN_le (b : Bool) : bitN b ≤ 1 := by cases b <;> decide

set_option maxHeartbeats 2000000 in
set_option maxRecDepth 100000 in
theorem implRacesOf_is (a : Option Addr) (len cap : Nat) (rows : List (List I3)) (la : Option Addr) (n c : Nat) (ks : List Int) (w : World) (hC : Codes w a len cap rows) (hV : VmShape w) (hL : Ints .i64 w la n c ks) :
    Calls Tryd.prog 22 #[.agg #[.slice a len cap], .slice la n c] w fun e w' => e = .returned (.tuple #[.int .i64 (raceN (evE rows ks) : Nat), .int .i64 (evK rows ks)]) ∧ Below w.heap.size w w' := by
  have hI := evE_three rows ks
  have hE := evE_len9 rows ks
  have kE := fun W (b : Below w.heap.size w W) => implEventsOf_is a len cap rows la n c ks W (hC.below b) (hV.below b) (hL.below b)
  have HN : Hid (evK rows ks ≠ 0 → raceN (evE rows ks) = 0) := fun h => by rw [evE_nil h]; rfl
  generalize evE rows ks = es at *
  generalize evK rows ks = cd at *
  obtain ⟨N, hN⟩ : ∃ N, N = raceN es := ⟨_, rfl⟩
  have HR : Hid (N = raceN es) := hN
  rw [← hN]
  clear hN
  have bw : Below w.heap.size w (w.alloc (.cells #[.slice a len cap] 25)) := by go_grown
  have pP : Blk (w.alloc (.cells #[.slice a len cap] 25)) w.heap.size 25 [.slice a len cap] := blkAt _ _ _ rfl
  clear hC hV hL
  go_enter Tryd.func22, Tryd.ntmps22
  go_wp2_with fail
  generalize (w.alloc (.cells #[.slice a len cap] 25)) = U at *
  go_wp2_with (first | refine wpList_load_blk rfl 25 _ rfl w.heap.size rfl pP _ Tryd.underlying25 rfl (by kernel_rfl) ?_)
  refine (kE _ bw).mono ?_
  rintro e w1 ⟨⟨v, rfl, q⟩, hb⟩
  replace bw := bel_trans bw hb
  clear kE pP hb
  by_cases hcd : cd = 0
  case neg =>
    have hne : (cd != 0) = true := by simp [hcd]
    have HE : Hid (N = 0) := by rw [Hid, HR.out]; exact HN.out hcd
    clear q HN hcd
    go_wp2
    go_ret2
    rw [HE.out]
    exact ⟨rfl, bw⟩
  subst hcd
  clear HN
  obtain ⟨ea, ec, rfl, hEv⟩ := evs_slice q
  have hec : es.length ≤ ec := by
    rcases q.2 with ⟨h1, _⟩ | ⟨g9, cap9, cur9, h1, _, _, h2, _⟩
    · simp at h1; omega
    · simp at h1; omega
  clear q
  obtain ⟨n9, hn9⟩ : ∃ n9, n9 = es.length := ⟨_, rfl⟩
  rw [← hn9] at hEv hE hec ⊢
  have HL : Hid (n9 = es.length) := hn9
  clear hn9
  have kC := raceOver_is ea n9 ec es w1 hEv hE hec hI
  go_wp2_with fail
  refine kC.mono ?_
  rintro e w2 ⟨gE, gC, rfl, hA, hb⟩
  have bw2 := bel_trans bw hb
  clear kC hb bw hEv
  have kA := fun (W : World) (b : Below w2.heap.size w2 W) (i j : Nat) (hi : i < j) (hj : j < n9) => races_is (hA.below b) hE hI hi hj
  have hJ : ∀ j, sumN (fun i => bitN (raceB es i j)) j ≤ j * 1 := fun j => sumN_le (fun i => bitN_le _) j
  have HSb : Hid (∀ j, j ≤ n9 → sumN (fun j => sumN (fun i => bitN (raceB es i j)) j) j ≤ j * 4096) := fun j hj => by
    have : ∀ m, m ≤ n9 → sumN (fun j => sumN (fun i => bitN (raceB es i j)) j) m ≤ m * 4096 := fun m => by
      induction m with
      | zero => intro _; exact Nat.le_refl _
      | succ m ih =>
        intro hm
        have h1 := ih (by omega)
        have h2 := hJ m
        show sumN (fun j => sumN (fun i => bitN (raceB es i j)) j) m + sumN (fun i => bitN (raceB es i m)) m ≤ _
        omega
    exact this j hj
  clear hA
  go_wp2_with fail
  go_loopw [9, 25] (fun sc sj wr => ∃ j : Nat, j ≤ n9 ∧ sc = .int .i64 (sumN (fun j => sumN (fun i => bitN (raceB es i j)) j) j : Nat) ∧ sj = .int .i64 j ∧ Below w2.heap.size w2 wr) (fun _ sj _ => n9 - (intOf sj).toNat)
  case atStart => exact ⟨0, by omega, rfl, rfl, Below.refl _ _⟩
  case round =>
    obtain ⟨j, hj, rfl, rfl, b2⟩ := hrel
    by_cases hjn : j < n9
    · have hjn' : (j : Int) < (n9 : Int) := by omega
      have hsb := HSb.out j hj
      have HS1 : Hid (sumN (fun j => sumN (fun i => bitN (raceB es i j)) j) (j + 1) = sumN (fun j => sumN (fun i => bitN (raceB es i j)) j) j + sumN (fun i => bitN (raceB es i j)) j) := rfl
      generalize sumN (fun j => sumN (fun i => bitN (raceB es i j)) j) j = A at *
      go_wp2_with fail
      go_loopw [9, 29] (fun sc si wr => ∃ i : Nat, i ≤ j ∧ sc = .int .i64 (A + sumN (fun i => bitN (raceB es i j)) i : Nat) ∧ si = .int .i64 i ∧ Below w2.heap.size w2 wr) (fun _ si _ => j - (intOf si).toNat)
      case atStart => exact ⟨0, by omega, rfl, rfl, b2⟩
      case round =>
        clear b2
        obtain ⟨i, hi, rfl, rfl, b2⟩ := hrel
        by_cases hij : i < j
        · have hij' : (i : Int) < (j : Int) := by omega
          have kAx := kA wr b2 i j hij hjn
          have hsi := sumN_le (f := fun i => bitN (raceB es i j)) (B := 1) (fun i => bitN_le _) i
          have HS2 : Hid (sumN (fun i => bitN (raceB es i j)) (i + 1) = sumN (fun i => bitN (raceB es i j)) i + bitN (raceB es i j)) := rfl
          generalize sumN (fun i => bitN (raceB es i j)) i = S at *
          generalize raceB es i j = rb at *
          go_wp2_with fail
          refine kAx.mono ?_
          rintro e w3 ⟨rfl, hb⟩
          have b3 := bel_trans b2 hb
          clear hb b2 kAx
          cases rb
          · have HS3 : Hid (sumN (fun i => bitN (raceB es i j)) (i + 1) = S) := HS2.out
            clear HS2
            go_wp2
            go_roundw
            case rel => exact ⟨i + 1, by omega, by rw [HS3.out]; first | rfl | (simp; done), by go_num, b3⟩
            case measure => simp [intOf]; omega
          · have HS3 : Hid (sumN (fun i => bitN (raceB es i j)) (i + 1) = S + 1) := HS2.out
            clear HS2
            obtain ⟨C, hC⟩ : ∃ C, C = A + S := ⟨_, rfl⟩
            have HC : Hid (C = A + S) := hC
            have hCb : C ≤ 100000000 := by omega
            rw [← hC]
            clear hC
            go_wp2
            go_roundw
            case rel => exact ⟨i + 1, by omega, by rw [HS3.out, ← Nat.add_assoc, ← HC.out]; go_num, by go_num, b3⟩
            case measure => simp [intOf]; omega
        · obtain rfl : i = j := by omega
          go_wp2
          go_roundw
          case rel => exact ⟨i + 1, by omega, by rw [HS1.out], by go_num, b2⟩
          case measure => simp [intOf]; omega
    · obtain rfl : j = n9 := by omega
      have HE : Hid (N = sumN (fun j => sumN (fun i => bitN (raceB es i j)) j) j) := by
        rw [Hid, HR.out, HL.out]
        rfl
      have b9 := bel_trans bw2 b2
      go_wp2
      go_ret2
      rw [HE.out]
      exact ⟨rfl, b9⟩
end Go.Proofs.YtmhngodbnoonhaaDoor

