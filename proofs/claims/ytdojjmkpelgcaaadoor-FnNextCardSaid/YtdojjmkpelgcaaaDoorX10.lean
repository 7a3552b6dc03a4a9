/-
  Joined: Vm3, Parts, Vm4, Mach0.
-/
import Derived.Deep.RegionLaw
import Derived.Laws.OwnMore
import Derived.Laws.BytesArg
import Derived.Test.YtdojjmkpelgcaaaDoorX03
import Derived.Test.YtdojjmkpelgcaaaDoorX09

namespace Go.Proofs.YtdojjmkpelgcaaaDoor
set_option maxRecDepth 100000
open Go.RowKit

def allIn (zs : List Int) (n high : Int) : Bool := zs.all (fun z => decide (0 ≤ z ∧ z ≤ high)) && decide ((zs.length : Int) = n)
def shapeOk (m : V4) : Bool := allIn m.1 3 6 && (allIn m.2.1 4 9 && (allIn m.2.2.1 2 3 && allIn m.2.2.2 6 9))
theorem allIn_no {zs : List Int} {n high : Int} {k : Nat} (hk : k < zs.length) (h : ¬ (0 ≤ zs.getD k 0 ∧ zs.getD k 0 ≤ high)) : allIn zs n high = false := by
 unfold allIn
 have : zs.all (fun z => decide (0 ≤ z ∧ z ≤ high)) = false := by
  rw [List.all_eq_false]
  refine ⟨zs.getD k 0, by simp [List.getD, hk], ?_⟩
  simpa using h
 rw [this]; rfl
theorem allIn_end {zs : List Int} {n high : Int} (h : ∀ i, i < zs.length → 0 ≤ zs.getD i 0 ∧ zs.getD i 0 ≤ high) : allIn zs n high = decide ((zs.length : Int) = n) := by
 unfold allIn
 have : zs.all (fun z => decide (0 ≤ z ∧ z ≤ high)) = true := by
  rw [List.all_eq_true]
  intro z hz
  obtain ⟨i, hi, rfl⟩ := List.getElem_of_mem hz
  have := h i hi
  simpa [List.getD, hi] using this
 rw [this]; rfl

set_option maxHeartbeats 1000000 in
theorem l03All_is (a : Option Addr) (len cap : Nat) (zs : List Int) (n high : Int) (w : World) (h : Ints .i64 w a len cap zs) :
  Calls Tryd.prog 132 #[.slice a len cap, .int .i64 n, .int .i64 high] w fun e w' => e = .returned (.bool (allIn zs n high)) ∧ w = w' := by
 obtain ⟨hl, hlc, hcm, hcase⟩ := h
 unfold maxLen at hcm
 obtain ⟨fin, hfin⟩ : ∃ fin, fin = allIn zs n high := ⟨_, rfl⟩
 rw [← hfin]
 have HF : Hid (fin = allIn zs n high) := hfin
 clear hfin
 have hend : ∀ b : Bool, b = decide ((len : Int) = n) → Hid (∀ i, i < zs.length → 0 ≤ zs.getD i 0 ∧ zs.getD i 0 ≤ high) → fin = b := fun b hb h => by rw [HF.out, allIn_end h.out, hb, hl]
 obtain ⟨b, hb⟩ : ∃ b, b = decide ((len : Int) = n) := ⟨_, rfl⟩
 have he := hend b hb
 have hb2 : ((len : Int) == n) = b := by rw [hb]; by_cases h : (len : Int) = n <;> simp [h]
 clear hend hb
 have HE : Hid (Hid (∀ i, i < zs.length → 0 ≤ zs.getD i 0 ∧ zs.getD i 0 ≤ high) → fin = b) := he
 clear he
 by_cases h0 : len = 0
 ·subst h0
  obtain rfl : fin = b := HE.out (fun i hi => by omega)
  clear HE HF
  go_enter Tryd.func132, Tryd.ntmps132
  go_wp2
  refine wp_loop_rounds 1 ?_
  rw [rounds_succ]
  simp only [Int.natCast_zero] at hb2
  go_wp2
  go_ret
  exact ⟨rfl, rfl⟩
 ·rcases hcase with h0' | ⟨bk, off, rfl, hblt, hcell⟩
  ·exact absurd h0' h0
  go_enter Tryd.func132, Tryd.ntmps132
  go_wp2
  go_loopw [7] (fun si wr => ∃ k : Nat, k ≤ len ∧ si = .int .i64 k ∧ Hid (∀ i, i < k → 0 ≤ zs.getD i 0 ∧ zs.getD i 0 ≤ high) ∧ w = wr) (fun si _ => len - (intOf si).toNat)
  case atStart => exact ⟨0, by omega, rfl, (fun i hi => by omega), rfl⟩
  case round =>
   obtain ⟨k, hk, rfl, HK, rfl⟩ := hrel
   by_cases hlt : k < len
   ·have hc := hcell k hlt
    have hlt' : (k : Int) < (len : Int) := by omega
    by_cases hin : 0 ≤ zs.getD k 0 ∧ zs.getD k 0 ≤ high
    ·have HK2 : Hid (∀ i, i < k + 1 → 0 ≤ zs.getD i 0 ∧ zs.getD i 0 ≤ high) := fun i hi => by
      by_cases e : i = k
      ·subst e; exact hin
      ·exact HK.out i (by omega)
     have kI := fun w => l01In_yes (zs.getD k 0) 0 high w hin
     clear hcell hin
     generalize zs.getD k 0 = x at hc kI
     go_wp2_with fail
     refine (kI _).mono ?_
     rintro e w1 ⟨rfl, rfl⟩
     go_wp2
     go_roundw
     case rel => exact ⟨k + 1, by omega, by go_num, HK2, by trivial⟩
     case measure => simp [intOf]; omega
    ·obtain rfl : fin = false := by rw [HF.out]; exact allIn_no (by omega) hin
     have kI := fun w => l01In_no (zs.getD k 0) 0 high w hin
     clear hcell hin HE HF
     generalize zs.getD k 0 = x at hc kI
     go_wp2_with fail
     refine (kI _).mono ?_
     rintro e w1 ⟨rfl, rfl⟩
     go_wp2
     go_ret
     exact ⟨rfl, rfl⟩
   ·obtain rfl : k = len := by omega
    obtain rfl : fin = b := HE.out (fun i hi => HK.out i (by omega))
    clear hcell HE HF HK
    go_wp2
    go_ret
    exact ⟨rfl, rfl⟩

set_option maxHeartbeats 2000000 in
theorem l03Shape_is (s : S4) (m : V4) (w : World) (h : Vmem w s m) :
  Calls Tryd.prog 111 #[s.val] w fun e w' => e = .returned (.bool (shapeOk m)) ∧ Below w.heap.size w w' := by
 obtain ⟨⟨i0, _⟩, ⟨i1, _⟩, ⟨i2, _⟩, ⟨i3, _⟩⟩ := h
 obtain ⟨⟨a0, n0, c0⟩, ⟨a1, n1, c1⟩, ⟨a2, n2, c2⟩, ⟨a3, n3, c3⟩⟩ := s
 obtain ⟨m0, m1, m2, m3⟩ := m
 unfold S4.val shapeOk
 simp only at i0 i1 i2 i3 ⊢
 have bw : Below w.heap.size w (w.alloc (.cells #[.slice a0 n0 c0, .slice a1 n1 c1, .slice a2 n2 c2, .slice a3 n3 c3] 29)) := by go_grown
 have k0 := l03All_is a0 n0 c0 m0 3 6 _ (i0.below bw)
 have k1 := l03All_is a1 n1 c1 m1 4 9 _ (i1.below bw)
 have k2 := l03All_is a2 n2 c2 m2 2 3 _ (i2.below bw)
 have k3 := l03All_is a3 n3 c3 m3 6 9 _ (i3.below bw)
 clear i0 i1 i2 i3
 generalize allIn m0 3 6 = x0 at *
 generalize allIn m1 4 9 = x1 at *
 generalize allIn m2 2 3 = x2 at *
 generalize allIn m3 6 9 = x3 at *
 go_enter Tryd.func111, Tryd.ntmps111
 go_wp2_with fail
 refine k0.mono ?_
 rintro e w1 ⟨rfl, rfl⟩
 cases x0
 ·go_wp2
  go_ret
  exact ⟨rfl, bw⟩
 go_wp2_with fail
 refine k1.mono ?_
 rintro e w1 ⟨rfl, rfl⟩
 cases x1
 ·go_wp2
  go_ret
  exact ⟨rfl, bw⟩
 go_wp2_with fail
 refine k2.mono ?_
 rintro e w1 ⟨rfl, rfl⟩
 cases x2
 ·go_wp2
  go_ret
  exact ⟨rfl, bw⟩
 go_wp2_with fail
 refine k3.mono ?_
 rintro e w1 ⟨rfl, rfl⟩
 cases x3
 ·go_wp2
  go_ret
  exact ⟨rfl, bw⟩
 go_wp2
 go_ret
 exact ⟨rfl, bw⟩

set_option maxHeartbeats 2000000 in
theorem specVmOK_is (a : Option Addr) (len cap : Nat) (rows : List (List I3)) (s : S4) (m : V4) (w : World) (hC : Codes w a len cap rows) (h : Vmem w s m) :
  Calls Tryd.prog 78 #[.agg #[.slice a len cap], s.val] w fun e w' => e = .returned (.bool (progOk rows && shapeOk m)) ∧ Below w.heap.size w w' := by
 have kP := specProgramOK_is a len cap rows
 have kS := l03Shape_is s m
 generalize progOk rows = x at *
 generalize shapeOk m = y at *
 obtain ⟨⟨a0, n0, c0⟩, ⟨a1, n1, c1⟩, ⟨a2, n2, c2⟩, ⟨a3, n3, c3⟩⟩ := s
 unfold S4.val at kS ⊢
 simp only at kS ⊢
 have hu : Hid (∀ W, Below w.heap.size w W → Vmem W ((a0, n0, c0), (a1, n1, c1), (a2, n2, c2), (a3, n3, c3)) m) := fun W hb => h.below hb
 have bw : Below w.heap.size w ((w.alloc (.cells #[.slice a len cap] 25)).alloc (.cells #[.slice a0 n0 c0, .slice a1 n1 c1, .slice a2 n2 c2, .slice a3 n3 c3] 29)) := by go_grown
 have cS : ∀ j v, [Value.slice a0 n0 c0, .slice a1 n1 c1, .slice a2 n2 c2, .slice a3 n3 c3][j]? = some v → ((w.alloc (.cells #[.slice a len cap] 25)).alloc (.cells #[.slice a0 n0 c0, .slice a1 n1 c1, .slice a2 n2 c2, .slice a3 n3 c3] 29)).cell? ⟨w.heap.size + 1, j, none⟩ = some v := by
  intro j v hj
  match j, hj with
  | 0, hj => simp at hj; subst hj; simp [go_sem]
  | 1, hj => simp at hj; subst hj; simp [go_sem]
  | 2, hj => simp at hj; subst hj; simp [go_sem]
  | 3, hj => simp at hj; subst hj; simp [go_sem]
  | (j + 4), hj => simp at hj
 have s0 := cS 0 _ rfl
 have s1 := cS 1 _ rfl
 have s2 := cS 2 _ rfl
 have s3 := cS 3 _ rfl
 clear cS
 go_enter Tryd.func78, Tryd.ntmps78
 go_wp2_with fail
 refine (kP _ (hC.below bw)).mono ?_
 rintro e w1 ⟨rfl, hb⟩
 replace bw := bel_trans bw hb
 replace s0 := cells_kept hb _ _ s0
 replace s1 := cells_kept hb _ _ s1
 replace s2 := cells_kept hb _ _ s2
 replace s3 := cells_kept hb _ _ s3
 clear hb hC kP
 cases x
 ·go_wp2
  go_ret
  exact ⟨rfl, bw⟩
 go_wp2_with fail
 refine (kS _ (hu.out _ bw)).mono ?_
 rintro e w2 ⟨rfl, hb⟩
 replace bw := bel_trans bw hb
 cases y
 ·go_wp2
  go_ret
  exact ⟨rfl, bw⟩
 go_wp2
 go_ret
 exact ⟨rfl, bw⟩


theorem okI_small {x : I3} (h : okI x = true) : (0 ≤ x.1 ∧ x.1 ≤ 9) ∧ (0 ≤ x.2.1 ∧ x.2.1 ≤ 9) ∧ (0 ≤ x.2.2 ∧ x.2.2 ≤ 9) := by
 unfold okI at h
 rcases op_cases x with h' | h' | h' | h' | h' | h' | h' | h' | h'
 all_goals first
  | (simp [h'] at h; simp only [inB_true] at h; omega)
  | (obtain ⟨h1, h2, h3, h4, h5, h6, h7, h8⟩ := h'; simp [h1, h2, h3, h4, h5, h6, h7, h8] at h)
theorem okFrom_mem {n : Nat} : ∀ {xs : List I3} {i : Nat}, okFrom n i xs = true → ∀ x ∈ xs, okI x = true
 | [], _, _, x, hx => by cases hx
 | y :: ys, i, h, x, hx => by
  unfold okFrom at h
  simp only [Bool.and_eq_true] at h
  rcases List.mem_cons.1 hx with rfl | hx
  ·exact h.1.1
  ·exact okFrom_mem h.2 x hx
theorem progOk_parts {rows : List (List I3)} (h : progOk rows = true) : rows.length = 3 ∧ ∀ r ∈ rows, r.length ≤ 6 ∧ ∀ x ∈ r, okI x = true := by
 unfold progOk at h
 simp only [Bool.and_eq_true, decide_eq_true_eq, List.all_eq_true] at h
 refine ⟨h.1, fun r hr => ?_⟩
 have := h.2 r hr
 unfold codeOk at this
 simp only [Bool.and_eq_true, decide_eq_true_eq] at this
 exact ⟨this.1, okFrom_mem this.2⟩
theorem three_i64 (a b c : Int) : ∀ u ∈ [Value.int .i64 a, .int .i64 b, .int .i64 c], u.oneCell' = true := by intro u hu; simp at hu; rcases hu with rfl | rfl | rfl <;> rfl
theorem cell_three_new (w : World) (x y z : Value) (t : TypeId) : ∀ j u, [x, y, z][j]? = some u → (w.alloc (.cells #[x, y, z] t)).cell? ((⟨w.heap.size, 0, none⟩ : Addr).add j) = some u := by
 intro j u hj
 match j, hj with
 | 0, hj => simp at hj; subst hj; simp [Addr.add]
 | 1, hj => simp at hj; subst hj; simp [Addr.add]
 | 2, hj => simp at hj; subst hj; simp [Addr.add]
 | (j + 3), hj => simp at hj


def allOf (m : V4) : List Int := ((m.1 ++ m.2.1) ++ m.2.2.1) ++ m.2.2.2
theorem allIn_parts {zs : List Int} {n high : Int} (h : allIn zs n high = true) : (zs.length : Int) = n ∧ ∀ z ∈ zs, 0 ≤ z ∧ z ≤ high := by
 unfold allIn at h
 simp at h
 exact ⟨h.2, h.1⟩
theorem shape_parts {m : V4} (h : shapeOk m = true) : m.1.length = 3 ∧ m.2.1.length = 4 ∧ m.2.2.1.length = 2 ∧ m.2.2.2.length = 6 ∧ ∀ z ∈ allOf m, 0 ≤ z ∧ z ≤ 9 := by
 unfold shapeOk at h
 simp only [Bool.and_eq_true] at h
 obtain ⟨h0, h1, h2, h3⟩ := h
 obtain ⟨l0, e0⟩ := allIn_parts h0
 obtain ⟨l1, e1⟩ := allIn_parts h1
 obtain ⟨l2, e2⟩ := allIn_parts h2
 obtain ⟨l3, e3⟩ := allIn_parts h3
 refine ⟨by omega, by omega, by omega, by omega, fun z hz => ?_⟩
 unfold allOf at hz
 simp only [List.mem_append] at hz
 rcases hz with ((hz | hz) | hz) | hz
 ·have := e0 z hz; omega
 ·exact e1 z hz
 ·have := e2 z hz; omega
 ·exact e3 z hz
theorem ints_news {w : World} {b off n c : Nat} {zs : List Int} (h : Ints .i64 w (some ⟨b, off, none⟩) n c zs) : ∀ j u, (zs.map (Value.int .i64))[j]? = some u → w.cell? ((⟨b, off, none⟩ : Addr).add j) = some u := by
 obtain ⟨hl, _, _, h0⟩ := h
 intro j u hj
 have hjl : j < zs.length := by
  rcases Nat.lt_or_ge j zs.length with h | h
  ·exact h
  ·simp [List.getElem?_eq_none h] at hj
 rcases h0 with h0 | ⟨b', off', ha, _, hc⟩
 ·omega
 ·cases ha
  have e : (⟨b, off, none⟩ : Addr).add j = ⟨b, off + j, none⟩ := by unfold Addr.add; split <;> simp_all
  rw [e, hc j (by omega)]
  simp [hjl] at hj
  simp [List.getD, hjl, hj]
theorem one_i64s (zs : List Int) : ∀ u ∈ zs.map (Value.int .i64), u.oneCell' = true := by intro u hu; obtain ⟨z, _, rfl⟩ := List.mem_map.1 hu; rfl
theorem own_empty (w : World) (t s B : Nat) (hB : B ≤ w.heap.size) : (w.alloc (.cells #[] t)).ownsRow B t s (.slice (some ⟨w.heap.size, 0, none⟩) 0 0) 0 [] := World.ownsRow_lit w #[] 0 hB (by unfold maxLen; omega) (by simp)
theorem some_of_ints {w : World} {a : Option Addr} {n c k : Nat} {zs : List Int} (h : Ints .i64 w a n c zs) (hl : zs.length = k) (hk : 0 < k) : n = k ∧ ∃ b off, a = some ⟨b, off, none⟩ := by
 have hn : n = k := h.1.symm.trans hl
 rcases h.2.2.2 with h0 | ⟨b, off, ha, _⟩
 ·omega
 ·exact ⟨hn, b, off, ha⟩


def codeM (rows : List (List I3)) (k : Nat) : List I3 := rows.getD k []
def doneM (rows : List (List I3)) (m : V4) (k : Nat) : Bool := decide (((codeM rows k).length : Int) ≤ m.1.getD k 0)
def insM (rows : List (List I3)) (m : V4) (k : Nat) : I3 := (codeM rows k).getD (m.1.getD k 0).toNat (0, 0, 0)
def atLock (m : V4) (x : I3) : Bool := decide (x.1 = 5) && !decide (m.2.2.1.getD x.2.1.toNat 0 = 0)
def waitM (rows : List (List I3)) (m : V4) (k : Nat) : Bool := !doneM rows m k && atLock m (insM rows m k)
def canM (rows : List (List I3)) (m : V4) (k : Nat) : Bool := !doneM rows m k && !atLock m (insM rows m k)
def enabM (rows : List (List I3)) (m : V4) : Nat → List Int
 | 0 => []
 | k + 1 => if canM rows m k then enabM rows m k ++ [(k : Int)] else enabM rows m k
def stepM (m : V4) (x : I3) (k : Nat) : V4 × Int :=
 if x.1 = 1 then ((m.1.set k (m.1.getD k 0 + 1), m.2.1, m.2.2.1, m.2.2.2.set (k * 2 + x.2.1.toNat) (m.2.1.getD x.2.2.toNat 0)), 0)
 else if x.1 = 2 then ((m.1.set k (m.1.getD k 0 + 1), m.2.1.set x.2.1.toNat (m.2.2.2.getD (k * 2 + x.2.2.toNat) 0), m.2.2.1, m.2.2.2), 0)
 else if x.1 = 3 then ((m.1.set k (m.1.getD k 0 + 1), m.2.1, m.2.2.1, m.2.2.2.set (k * 2 + x.2.1.toNat) x.2.2), 0)
 else if x.1 = 4 then ((m.1.set k (m.1.getD k 0 + 1), m.2.1, m.2.2.1, m.2.2.2.set (k * 2 + x.2.1.toNat) ((m.2.2.2.getD (k * 2 + x.2.1.toNat) 0 + x.2.2) % 10)), 0)
 else if x.1 = 5 then ((m.1.set k (m.1.getD k 0 + 1), m.2.1, m.2.2.1.set x.2.1.toNat (k + 1), m.2.2.2), 0)
 else if x.1 = 6 then
  if m.2.2.1.getD x.2.1.toNat 0 = k + 1 then ((m.1.set k (m.1.getD k 0 + 1), m.2.1, m.2.2.1.set x.2.1.toNat 0, m.2.2.2), 0)
  else ((m.1.set k (m.1.getD k 0 + 1), m.2.1, m.2.2.1, m.2.2.2), 13)
 else if x.1 = 7 then
  if m.2.2.2.getD (k * 2 + x.2.1.toNat) 0 = 0 then ((m.1.set k (m.1.getD k 0 + 1), m.2.1, m.2.2.1, m.2.2.2), 0)
  else ((m.1.set k x.2.2, m.2.1, m.2.2.1, m.2.2.2), 0)
 else if m.2.2.2.getD (k * 2 + x.2.1.toNat) 0 = x.2.2 then ((m.1.set k (m.1.getD k 0 + 1), m.2.1, m.2.2.1, m.2.2.2), 0)
 else ((m.1.set k (m.1.getD k 0 + 1), m.2.1, m.2.2.1, m.2.2.2), 12)

theorem shape_lists {m : V4} (h : shapeOk m = true) : ∃ p0 p1 p2 v0 v1 v2 v3 h0 h1 x0 y0 x1 y1 x2 y2 : Int, m = ([p0, p1, p2], [v0, v1, v2, v3], [h0, h1], [x0, y0, x1, y1, x2, y2]) := by
 obtain ⟨l0, l1, l2, l3, _⟩ := shape_parts h
 obtain ⟨a, b, c, d⟩ := m
 simp only at l0 l1 l2 l3
 match a, b, c, d, l0, l1, l2, l3 with
 | [p0, p1, p2], [v0, v1, v2, v3], [h0, h1], [x0, y0, x1, y1, x2, y2], _, _, _, _ => exact ⟨p0, p1, p2, v0, v1, v2, v3, h0, h1, x0, y0, x1, y1, x2, y2, rfl⟩
theorem shape_bounds {m : V4} (h : shapeOk m = true) : (∀ z ∈ m.1, 0 ≤ z ∧ z ≤ 6) ∧ (∀ z ∈ m.2.1, 0 ≤ z ∧ z ≤ 9) ∧ (∀ z ∈ m.2.2.1, 0 ≤ z ∧ z ≤ 3) ∧ ∀ z ∈ m.2.2.2, 0 ≤ z ∧ z ≤ 9 := by
 unfold shapeOk at h
 simp only [Bool.and_eq_true] at h
 exact ⟨(allIn_parts h.1).2, (allIn_parts h.2.1).2, (allIn_parts h.2.2.1).2, (allIn_parts h.2.2.2).2⟩
theorem getD_in {zs : List Int} {lo hi : Int} (h : ∀ z ∈ zs, lo ≤ z ∧ z ≤ hi) (h0 : lo ≤ 0 ∧ 0 ≤ hi) (k : Nat) : lo ≤ zs.getD k 0 ∧ zs.getD k 0 ≤ hi := by
 rcases Nat.lt_or_ge k zs.length with hk | hk
 ·simp only [List.getD, List.getElem?_eq_getElem hk, Option.getD_some]
  exact h _ (List.getElem_mem hk)
 ·simp [List.getD, List.getElem?_eq_none hk, h0]

def machCells (c0 c1 c2 : Value) (m : V4) : List Value :=
 [c0, .int .i64 (m.1.getD 0 0), .int .i64 (m.2.2.2.getD 0 0), .int .i64 (m.2.2.2.getD 1 0),
  c1, .int .i64 (m.1.getD 1 0), .int .i64 (m.2.2.2.getD 2 0), .int .i64 (m.2.2.2.getD 3 0),
  c2, .int .i64 (m.1.getD 2 0), .int .i64 (m.2.2.2.getD 4 0), .int .i64 (m.2.2.2.getD 5 0),
  .int .i64 (m.2.1.getD 0 0), .int .i64 (m.2.1.getD 1 0), .int .i64 (m.2.1.getD 2 0), .int .i64 (m.2.1.getD 3 0),
  .int .i64 (m.2.2.1.getD 0 0), .int .i64 (m.2.2.1.getD 1 0)]
def codeV (c0 c1 c2 : Value) (k : Nat) : Value := [c0, c1, c2].getD k undef

section
variable (c0 c1 c2 : Value) (m : V4)
theorem mc_code {k : Nat} (hk : k < 3) : (machCells c0 c1 c2 m)[k * 4]? = some (codeV c0 c1 c2 k) := by
 match k, hk with
 | 0, _ => rfl
 | 1, _ => rfl
 | 2, _ => rfl
theorem mc_pc {k : Nat} (hk : k < 3) : (machCells c0 c1 c2 m)[k * 4 + 1]? = some (.int .i64 (m.1.getD k 0)) := by
 match k, hk with
 | 0, _ => rfl
 | 1, _ => rfl
 | 2, _ => rfl
end

section
variable (c0 c1 c2 : Value) (m : V4) (h : shapeOk m = true)
include h
end

def Blk (w : World) (g : Nat) (t : TypeId) (cs : List Value) : Prop := w.heap[g]? = some (.cells cs.toArray t (0, 0))
theorem Blk.lt {w : World} {g t : Nat} {cs : List Value} (h : Blk w g t cs) : g < w.heap.size := (Array.getElem?_eq_some_iff.1 h).1
theorem Blk.cell {w : World} {g t : Nat} {cs : List Value} (h : Blk w g t cs) (i : Nat) : w.cell? ⟨g, i, none⟩ = cs[i]? := by
 unfold Blk at h
 simp [World.cell?, h]
theorem Blk.frozen {w : World} {g t : Nat} {cs : List Value} (h : Blk w g t cs) (i : Nat) : w.frozen? ⟨g, i, none⟩ = false := by
 unfold Blk at h
 simp [World.frozen?, h]
theorem Blk.set {w : World} {g t : Nat} {cs : List Value} (h : Blk w g t cs) (i : Nat) (v : Value) : Blk (w.setCell ⟨g, i, none⟩ v) g t (cs.set i v) := by
 have hl := h.lt
 unfold Blk at h ⊢
 simp [World.setCell, Array.getElem?_modify, h]
theorem Blk.below {w w' : World} {g t : Nat} {cs : List Value} (h : Blk w g t cs) (hb : Below w.heap.size w w') : Blk w' g t cs := (hb.block g h.lt).trans h
theorem Blk.belowB {w w' : World} {g t B : Nat} {cs : List Value} (h : Blk w g t cs) (hb : Below B w w') (hg : g < B) : Blk w' g t cs := (hb.block g hg).trans h
theorem Blk.new (w : World) (t : Nat) (cs : List Value) : Blk (w.alloc (.cells cs.toArray t)) w.heap.size t cs := by
 show (w.heap.push _)[w.heap.size]? = _
 simp
theorem Blk.drew {w : World} {g t : Nat} {cs : List Value} (h : Blk w g t cs) : Blk w.drew g t cs := h
theorem Blk.drewN {w : World} {g t : Nat} {cs : List Value} (h : Blk w g t cs) (d : Nat) : Blk (w.drewN d) g t cs := h
theorem Blk.off {w : World} {g t : Nat} {cs : List Value} (h : Blk w g t cs) (p : Addr) (v : Value) (hp : g ≠ p.block) : Blk (w.setCell p v) g t cs := (Below.heap_setCell w p v g hp).trans h
end Go.Proofs.YtdojjmkpelgcaaaDoor
