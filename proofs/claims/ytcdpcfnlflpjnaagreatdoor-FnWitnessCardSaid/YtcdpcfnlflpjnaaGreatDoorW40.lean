/-
  Joined: AstI, RevL, PthP, PthQ, SchI.
-/
import Derived.Deep.CutRange
import Derived.Shelf.Slices.Reverse
import Derived.Test.YtcdpcfnlflpjnaaGreatDoorW37
import Derived.Test.YtcdpcfnlflpjnaaGreatDoorW39

namespace Go.Proofs.YtcdpcfnlflpjnaaGreatDoor
set_option maxRecDepth 100000
open Go.RowKit
set_option linter.unusedVariables false
set_option linter.unusedSimpArgs false
def CutF (w W : World) (c : Int) (s4 s5 : Value) : Prop := ∃ X, s4 = .pointer (some ⟨X, 0, none⟩) ∧ s5 = .int .i64 c ∧ Below w.heap.size w W
def CutK (w W : World) (cs : Sl × Sl × Sl) (rows : List (List I3)) (F : List (Rec6 V4)) (s4 s5 : Value) : Prop :=
 ∃ X va vc nb L, s4 = .pointer (some ⟨X, 0, none⟩) ∧ s5 = .int .i64 0 ∧ Blk W X 75 [.slice va L.length vc, .map (some nb)] ∧ SpcD W w.heap.size nb (.slice va L.length vc) cs (mvsOf rows F) L L.length ∧ L.map (·.1) = F ∧ w.heap.size ≤ X ∧ Below w.heap.size w W
theorem SpcD.lower {w : World} {B B' nb d : Nat} {vs : Value} {cs : Sl × Sl × Sl} {M : V4 → List I4} {L : List (Rec6 V4 × Value)} (h : SpcD w B nb vs cs M L d) (hB : B' ≤ B) : SpcD w B' nb vs cs M L d :=
 ⟨own_lower h.row hB, h.map, fun i r mv h1 h2 => own_lower (h.mvs i r mv h1 h2) hB, h.nil, Nat.le_trans hB h.low⟩
theorem CutK.mk9 {w W : World} {cs : Sl × Sl × Sl} {rows : List (List I3)} {F : List (Rec6 V4)} {s4 s5 va vs : Value} {X nb B : Nat} {L : List (Rec6 V4 × Value)} (h4 : s4 = .pointer (some ⟨X, 0, none⟩)) (h5 : s5 = .int .i64 0) (hX : Blk W X 75 [vs, .map (some nb)]) (sp : SpcD W B nb vs cs (mvsOf rows F) L L.length) (hL : L.map (·.1) = F) (hBX : w.heap.size ≤ X) (hB : w.heap.size ≤ B) (b : Below w.heap.size w W) : CutK w W cs rows F s4 s5 := by
 obtain ⟨va, vn, vc, rfl⟩ := own_slice6 sp.row
 obtain rfl : vn = L.length := by
  rcases sp.row.2 with ⟨h1, h2⟩ | ⟨gq, cq, cur, h1, _⟩
  ·cases h1; exact h2.symm
  ·cases h1; rfl
 exact ⟨X, va, vc, nb, L, h4, h5, hX, sp.lower hB, hL, hBX, b⟩

def codeF (rows : List (List I3)) : Int := if progOk rows then (if (fullS rows).length ≤ 2000 then 0 else 15) else 1
theorem spaceOf_not (a : Option Addr) (len cap : Nat) (rows : List (List I3)) (s : S4) (w : World) (hC : Codes w a len cap rows) (h : Vmem w s zeroV) (hV : VmShape w) (hc : codeF rows ≠ 0) :
  Calls Tryz.prog 37 #[.agg #[.slice a len cap], s.val] w fun e w' => e = .returned (.tuple #[.agg #[.slice none 0 0, .map none], .int .i64 (codeF rows)]) ∧ Below w.heap.size w w' := by
 unfold codeF at hc ⊢
 cases hp : progOk rows
 ·exact spaceOf_bad a len cap rows s zeroV w hC h hV (by rw [hp]; rfl)
 ·rw [hp] at hc
  by_cases hf : (fullS rows).length ≤ 2000
  ·rw [if_pos rfl, if_pos hf] at hc
   exact absurd rfl hc
  ·rw [if_pos rfl, if_neg hf]
   refine (spaceOf_is a len cap rows s w hC h hV hp).mono fun e w' h => ?_
   rw [if_neg hf] at h
   exact h
theorem spaceOf_yes (a : Option Addr) (len cap : Nat) (rows : List (List I3)) (s : S4) (w : World) (hC : Codes w a len cap rows) (h : Vmem w s zeroV) (hV : VmShape w) (hp : progOk rows = true) (hf : (fullS rows).length ≤ 2000) :
  Calls Tryz.prog 37 #[.agg #[.slice a len cap], s.val] w fun e w' => SpcGot e w w' a rows (fullS rows) := by
 refine (spaceOf_is a len cap rows s w hC h hV hp).mono fun e w' h => ?_
 rw [if_pos hf] at h
 exact h
theorem code_parts {rows : List (List I3)} (h : codeF rows = 0) : progOk rows = true ∧ (fullS rows).length ≤ 2000 := by
 unfold codeF at h
 cases hp : progOk rows
 ·rw [hp] at h; simp at h
 ·rw [hp] at h
  by_cases hf : (fullS rows).length ≤ 2000
  ·exact ⟨rfl, hf⟩
  ·rw [if_pos rfl, if_neg hf] at h
   simp at h
theorem rcC_one (cs : Sl × Sl × Sl) (r : Rec6 V4) {mv : Value} (h : mv.oneCell' = true) : (rcC cs r mv).all (·.oneCell') = true := by
 unfold rcC
 rw [List.all_cons, List.all_append, mach_one]
 simp only [List.all_cons, List.all_nil, h, Bool.and_true, Bool.and_self]
 rfl
theorem SpcD.mvone {w : World} {B nb : Nat} {vs : Value} {cs : Sl × Sl × Sl} {M : V4 → List I4} {L : List (Rec6 V4 × Value)} (h : SpcD w B nb vs cs M L L.length) {j : Nat} {r : Rec6 V4} {mv : Value} (hr : L[j]? = some (r, mv)) : mv.oneCell' = true := by
 obtain ⟨a, k, c, rfl⟩ := own_slice6 (h.mvs j r mv (List.getElem?_eq_some_iff.1 hr).1 hr)
 rfl

open Go.RowKit Go.Shelf

def rev_ren : Go.Shelf.Ren := ⟨fun | 112 => 96 | x => x, fun | 0 => 0 | 3 => 3 | 4 => 4 | 28 => 31 | x => x, fun x => x⟩
theorem revInt : Lays.n112 Tryz.prog rev_ren := {
 mixed := by kernel_rfl
 f112 := Tryz.func96.trans (congrArg some (by kernel_rfl))
 t0 := Tryz.underlying0
 a0 := Tryz.isAgg0
 z0 := Tryz.sizeOf0
 v0 := Tryz.zeroValue0
 t3 := Tryz.underlying3
 a3 := Tryz.isAgg3
 z3 := Tryz.sizeOf3
 v3 := Tryz.zeroValue3
 t4 := Tryz.underlying4
 a4 := Tryz.isAgg4
 z4 := Tryz.sizeOf4
 v4 := Tryz.zeroValue4
 t28 := Tryz.underlying31
 a28 := Tryz.isAgg31
 z28 := Tryz.sizeOf31
 v28 := Tryz.zeroValue31 }

open Go.Sort in
theorem rev_owns {w : World} {B g n cap m : Nat} {xs ys : List Int} (h : OwnI w B (some ⟨g, 0, none⟩, n, cap) xs) (hy : ys.length = n) :
  OwnI (putRow (Value.int .i64) (Sort.ahead w m) g 0 ys.toArray) B (some ⟨g, 0, none⟩, n, cap) ys ∧ w.grownBy (putRow (Value.int .i64) (Sort.ahead w m) g 0 ys.toArray) (some g) := by
 rcases h.2 with ⟨hv, _⟩ | ⟨g', cap', cur, hv, hB, hg, hn, hc, hsz, ht⟩
 ·cases hv
 cases hv
 have hgl : g < w.heap.size := (Array.getElem?_eq_some_iff.1 hg).1
 refine ⟨⟨by simp [hy], .inr ⟨g, cap, putCells (Value.int .i64) 0 ys.toArray cur, rfl, hB, ?_, hn, hc, ?_, ?_⟩⟩, ⟨rfl, rfl, rfl, ?_, ?_⟩⟩
 ·show ((Sort.ahead w m).heap.modify g _)[g]? = _
  rw [Array.getElem?_modify]
  simp [Sort.ahead, hg, onCells]
 ·simpa [putCells] using hsz
 ·apply List.ext_getElem?
  intro t
  by_cases h3 : t < n
  ·rw [List.getElem?_take_of_lt (by simpa using h3)]
   have hcz : t < cur.size := by rw [hsz]; simp only at hn ⊢; omega
   simp only [putCells, Array.getElem?_toList, Array.getElem?_mapIdx, Array.getElem?_eq_getElem hcz, Option.map_some]
   rw [if_pos ⟨Nat.zero_le _, by simp; omega⟩, List.getElem?_map, List.getElem?_eq_getElem (show t < ys.length by omega)]
   simp [getElem!_pos, show t < ys.length by omega]
  ·rw [List.getElem?_eq_none (by rw [List.length_take]; simp only; omega), List.getElem?_eq_none (by simp; omega)]
 ·show w.heap.size ≤ ((Sort.ahead w m).heap.modify g _).size
  simp [Sort.ahead]
 ·intro k hk hne
  show ((Sort.ahead w m).heap.modify g _)[k]? = _
  rw [Array.getElem?_modify]
  have : g ≠ k := fun e => hne (by rw [e])
  simp [Sort.ahead, this]
theorem rev_is {w : World} {B g cap : Nat} {zs : List Int} (h : OwnI w B (some ⟨g, 0, none⟩, zs.length, cap) zs) (hl : zs.length ≤ 1000000) :
  Calls Tryz.prog 96 #[.slice (some ⟨g, 0, none⟩) zs.length cap] w fun e w' => e = .returned (.tuple #[]) ∧ OwnI w' B (some ⟨g, 0, none⟩, zs.length, cap) zs.reverse ∧ w.grownBy w' (some g) := by
 have hH : Go.Sort.Holds (Value.int .i64) w g 0 zs.toArray := by
  intro j hj
  have hj2 : j < zs.length := by simpa using hj
  rw [Nat.zero_add]
  refine ⟨?_, h.frz9 j⟩
  rw [h.at9 hj2]
  simp [List.getD, getElem!_pos, hj2]
 refine (Any.slices_Reverse_int revInt g 0 cap zs w hH (by omega)).mono ?_
 rintro e w' ⟨rfl, n, rfl⟩
 exact ⟨rfl, rev_owns (ys := zs.reverse) h (by simp)⟩
theorem rev_none (a : Option Addr) (cap : Nat) (w : World) :
  Calls Tryz.prog 96 #[.slice a 0 cap] w fun e w' => e = .returned (.tuple #[]) ∧ w = w' := by
 refine (Any.slices_Reverse_int_empty revInt a cap w).mono ?_
 rintro e w' ⟨rfl, rfl⟩
 exact ⟨rfl, rfl⟩


def pathL (fs bs : List Int) : Nat → Nat → List Int
 | 0, _ => []
 | f + 1, j => if j = 0 then [] else pathL fs bs f (fs.getD j 0).toNat ++ [bs.getD j 0]
def Back (fs : List Int) : Prop := ∀ j, 0 < j → j < fs.length → 0 ≤ fs.getD j 0 ∧ fs.getD j 0 < (j : Int)
theorem pathL_fuel {fs bs : List Int} (hB : Back fs) : ∀ (f j : Nat), j ≤ f → j < fs.length → pathL fs bs f j = pathL fs bs j j
 | 0, j, h, hl => by obtain rfl : j = 0 := by omega
                     rfl
 | f + 1, j, h, hl => by
  cases j with
  | zero => simp [pathL]
  | succ j =>
   have hb := hB (j + 1) (by omega) hl
   unfold pathL
   simp only [if_neg (Nat.succ_ne_zero j)]
   rw [pathL_fuel hB f _ (by omega) (by omega), pathL_fuel hB j _ (by omega) (by omega)]
theorem pathL_step {fs bs : List Int} (hB : Back fs) {j : Nat} (h0 : 0 < j) (hl : j < fs.length) : pathL fs bs j j = pathL fs bs (fs.getD j 0).toNat (fs.getD j 0).toNat ++ [bs.getD j 0] := by
 have hb := hB j h0 hl
 cases j with
 | zero => omega
 | succ j =>
  conv => lhs; unfold pathL
  rw [if_neg (Nat.succ_ne_zero j), pathL_fuel hB j _ (by omega) (by omega)]


theorem fromL_at {S : List (Rec6 V4)} {j : Nat} {r : Rec6 V4} (h0 : 0 < j) (h : S[j]? = some r) : (fromL S).getD j 0 = (r.2.1 : Int) := by
 cases S with
 | nil => simp at h
 | cons a S =>
  cases j with
  | zero => omega
  | succ j =>
   simp only [List.getElem?_cons_succ] at h
   simp [fromL, List.getD, h]
theorem byL_at {S : List (Rec6 V4)} {j : Nat} {r : Rec6 V4} (h0 : 0 < j) (h : S[j]? = some r) : (byL S).getD j 0 = r.2.2 := by
 cases S with
 | nil => simp at h
 | cons a S =>
  cases j with
  | zero => omega
  | succ j =>
   simp only [List.getElem?_cons_succ] at h
   simp [byL, List.getD, h]
theorem back_of {nx : V4 → List (Int × V4)} {S : List (Rec6 V4)} (h : Came nx S) : Back (fromL S) := fun j h0 hl => by
 rw [fromL_len] at hl
 have hr := List.getElem?_eq_getElem hl
 have hc := (h j _ h0 hr).1
 rw [fromL_at h0 hr]
 omega
theorem pathL_eq {nx : V4 → List (Int × V4)} {S : List (Rec6 V4)} (h : Came nx S) : ∀ (f j : Nat), j ≤ f → j < S.length → pathL (fromL S) (byL S) f j = pathS S f j
 | 0, j, _, _ => rfl
 | f + 1, j, hj, hl => by
  unfold pathL pathS
  by_cases e : j = 0
  ·rw [if_pos e, if_pos e]
  ·have hr := List.getElem?_eq_getElem hl
   have hc := (h j _ (by omega) hr).1
   rw [if_neg e, if_neg e, fromL_at (by omega) hr, byL_at (by omega) hr, hr]
   simp only [Int.toNat_natCast]
   rw [pathL_eq h f _ (by omega) (by omega)]


theorem pathS_fuel {nx : V4 → List (Int × V4)} {S : List (Rec6 V4)} (h : Came nx S) {f j : Nat} (hf : j ≤ f) (hj : j < S.length) : pathS S f j = pathS S j j := by
 rw [← pathL_eq h f j hf hj, ← pathL_eq h j j (Nat.le_refl _) hj]
 exact pathL_fuel (back_of h) f j hf (by rw [fromL_len]; exact hj)
theorem pathS_step {nx : V4 → List (Int × V4)} {S : List (Rec6 V4)} (h : Came nx S) {j : Nat} {r : Rec6 V4} (h0 : 0 < j) (hr : S[j]? = some r) : r.2.1 < j ∧ pathS S j j = pathS S r.2.1 r.2.1 ++ [r.2.2] := by
 have hl : j < S.length := (List.getElem?_eq_some_iff.1 hr).1
 obtain ⟨hlt, _⟩ := h j r h0 hr
 refine ⟨hlt, ?_⟩
 obtain ⟨i, rfl⟩ : ∃ i, j = i + 1 := ⟨j - 1, by omega⟩
 show (if i + 1 = 0 then [] else match S[i + 1]? with | none => [] | some r => pathS S i r.2.1 ++ [r.2.2]) = _
 rw [if_neg (by omega), hr]
 show pathS S i r.2.1 ++ [r.2.2] = _
 rw [pathS_fuel h (by omega) (by omega)]
theorem pathS_zero (S : List (Rec6 V4)) : pathS S 0 0 = [] := rfl
def PathGot (e : Ending) (w : World) (B : Nat) (ks : List Int) : Prop := ∃ v, e = .returned v ∧ w.ownsRow B 3 1 v ks.length (ks.map (Value.int .i64))

set_option maxHeartbeats 2000000 in
theorem schTo_is {w : World} {B X nb vc at9 : Nat} {va : Option Addr} {cs : Sl × Sl × Sl} {M : V4 → List I4} {L : List (Rec6 V4 × Value)} {nx : V4 → List (Int × V4)} (sp : SpcD w B nb (.slice va L.length vc) cs M L L.length) (bx : Blk w X 75 [.slice va L.length vc, .map (some nb)]) (hcm : Came nx (L.map (·.1))) (hat : at9 < L.length) (hl : L.length ≤ 2000) :
  Calls Tryz.prog 60 #[.pointer (some ⟨X, 0, none⟩), .int .i64 at9] w fun e w' => PathGot e w' w.heap.size (pathS (L.map (·.1)) at9 at9) ∧ Below w.heap.size w w' := by
 obtain ⟨i0, hi9, hz0, hz1, hz2⟩ := info_parts info_int
 obtain ⟨fin, hfin⟩ : ∃ fin, fin = pathS (L.map (·.1)) at9 at9 := ⟨_, rfl⟩
 rw [← hfin]
 have HF : Hid (fin = pathS (L.map (·.1)) at9 at9 ++ ([] : List Int).reverse) := by rw [Hid]; simpa using hfin
 have HCm : Hid (Came nx (L.map (·.1))) := hcm
 have cX0 : w.cell? ⟨X, 0, none⟩ = some (.slice va L.length vc) := by simpa using bx.cell 0
 clear hfin hcm
 go_enter Tryz.func60, Tryz.ntmps60
 go_wp2_with fail
 go_loopw [1, 5] (fun s1 s5 wr => ∃ (j : Nat) (ks : List Int), s1 = .int .i64 j ∧ j + ks.length < L.length ∧ Hid (fin = pathS (L.map (·.1)) j j ++ ks.reverse) ∧ wr.ownsRow w.heap.size 3 1 s5 ks.length (ks.map (Value.int .i64)) ∧ Below w.heap.size w wr) (fun s1 _ _ => (intOf s1).toNat)
 case atStart => exact ⟨at9, [], rfl, by simpa using hat, HF, World.ownsRow_nil _ _ _ _, Below.refl _ _⟩
 case round =>
  clear HF cX0
  obtain ⟨j, ks, rfl, hj, HF, q, bw⟩ := hrel
  have cX0 : wr.cell? ⟨X, 0, none⟩ = some (.slice va L.length vc) := by simpa using (bx.below bw).cell 0
  by_cases h0 : 0 < j
  ·have hjl : j < L.length := by omega
   obtain ⟨r, mv, hr⟩ : ∃ r mv, L[j]? = some (r, mv) := ⟨L[j].1, L[j].2, by rw [List.getElem?_eq_getElem hjl]⟩
   have hr2 : (L.map (·.1))[j]? = some r := by rw [List.getElem?_map, hr]; rfl
   obtain ⟨hlt, hst⟩ := pathS_step HCm.out h0 hr2
   have HE : Hid (fin = pathS (L.map (·.1)) r.2.1 r.2.1 ++ (ks ++ [r.2.2]).reverse) := by rw [Hid, HF.out, hst]; simp
   obtain ⟨g, c, e9, hg, hrg⟩ := (sp.below bw).at9 hr
   cases e9
   have hmv := sp.mvone hr
   have h0' : (0 : Int) < (j : Int) := by omega
   have hjl' : (j : Int) < (L.length : Int) := by omega
   have hj0 : (0 : Int) ≤ (j : Int) := by omega
   have pN := Blk.new wr 89 [.string ⟨#[]⟩, .slice none 0 0, .int .i64 0, .int .i64 0, .int .i64 0, .slice none 0 0, .int .i64 0, .int .i64 0, .int .i64 0, .slice none 0 0, .int .i64 0, .int .i64 0, .int .i64 0, .int .i64 0, .int .i64 0, .int .i64 0, .int .i64 0, .int .i64 0, .int .i64 0, .int .i64 0, .int .i64 0, .slice none 0 0]
   have hbN : Below wr.heap.size wr (wr.alloc (.cells #[.string ⟨#[]⟩, .slice none 0 0, .int .i64 0, .int .i64 0, .int .i64 0, .slice none 0 0, .int .i64 0, .int .i64 0, .int .i64 0, .slice none 0 0, .int .i64 0, .int .i64 0, .int .i64 0, .int .i64 0, .int .i64 0, .int .i64 0, .int .i64 0, .int .i64 0, .int .i64 0, .int .i64 0, .int .i64 0, .slice none 0 0] 89)) := by go_grown
   clear hst hr hr2 HF
   go_wp2_with (first | refine wpList_load_mid rfl 89 _ rfl g (j * 22) rfl (rcC cs r mv) _ hrg Tryz.underlying89 rfl (by kernel_rfl) ?_ | refine wpList_store_blk rfl 89 _ _ rfl wr.heap.size (rcC cs r mv) rfl rfl pN (by kernel_rfl) rfl (rcC_one cs r hmv) ?_)
   intro w3 p3 g3
   have pE := p3.out
   have b3 : Below wr.heap.size wr w3 := hbN.grown g3 hbN.size (fun k e => by cases e; exact Nat.le_refl _)
   have c20 : w3.cell? ⟨wr.heap.size, 20, none⟩ = some (.int .i64 r.2.2) := by rw [pE.cell]; rfl
   have c19 : w3.cell? ⟨wr.heap.size, 19, none⟩ = some (.int .i64 (r.2.1 : Int)) := by rw [pE.cell]; rfl
   have hEl : wr.heap.size < w3.heap.size := pE.lt
   replace bw := bel_trans bw b3
   replace q := owns_below q b3
   clear p3 g3 hbN pN b3 hrg hmv cX0
   generalize wr.heap.size = E at *
   obtain ⟨by9, hby⟩ : ∃ by9, by9 = r.2.2 := ⟨_, rfl⟩
   obtain ⟨fr, hfr⟩ : ∃ fr, fr = r.2.1 := ⟨_, rfl⟩
   rw [← hby] at c20 HE
   rw [← hfr] at c19 HE hlt
   clear hby hfr
   go_wp2_with (at_builtin; refine wpList_append_own_at _ rfl _ _ 31 rfl w.heap.size 3 i0 (.int .i64 0) 1 8 Tryz.underlying31 hi9 hz0 hz1 hz2 rfl (by decide) _ _ _ rfl (q.alloc _) ⟨w3.heap.size, 0, none⟩ 1 1 [.int .i64 by9] rfl rfl (cell_one_new _ _ _) (one_int6 _) ?c3 ?c4 ?c5 ?_)
   case c3 => unfold maxLen; omega
   case c4 => omega
   case c5 => have := bw.size; simp; omega
   intro v6 w4 q6 gr _ at6
   have ha : Below w3.heap.size w3 (w3.alloc (.cells #[.int .i64 by9] 3)) := by go_grown
   have hEn := own_ne_blk9 (q.alloc (.cells #[.int .i64 by9] 3)) (pE.below ha) (by decide)
   have d19 := cell_grownB gr (cells_kept ha _ _ c19) (Ne.symm hEn)
   have bw4 := (bel_trans bw ha).grown gr (bel_trans bw ha).size (fun k e => (own_lt3 (q.alloc (.cells #[.int .i64 by9] 3)) e).1)
   have q7 : w4.ownsRow w.heap.size 3 1 v6 (ks ++ [by9]).length ((ks ++ [by9]).map (Value.int .i64)) := row_int6 q6
   have hkl : fr + (ks ++ [by9]).length < L.length := by simp; omega
   generalize ks ++ [by9] = ks2 at *
   clear q6 gr at6 ha bw q c20 c19 hEn pE
   go_wp2
   go_roundw
   case rel => exact ⟨fr, ks2, rfl, hkl, HE, q7, bw4⟩
   case measure => simp [intOf]; omega
  ·obtain rfl : j = 0 := by omega
   have HE : Hid (fin = ks.reverse) := by rw [Hid, HF.out, pathS_zero]; rfl
   clear HF h0
   rcases Nat.eq_zero_or_pos ks.length with hk0 | hkp
   ·have hks : ks = [] := List.eq_nil_of_length_eq_zero hk0
    subst hks
    obtain ⟨ka, kn, kc, e9⟩ := own_slice6 q
    obtain rfl : kn = 0 := by
     rcases q.2 with ⟨h1, h2⟩ | ⟨gq, cq, cur, h1, _⟩
     ·rw [e9] at h1; cases h1; rfl
     ·rw [e9] at h1; cases h1; rfl
    subst e9
    have HG : Hid (PathGot (.returned (.slice ka 0 kc)) wr w.heap.size fin) := by rw [HE.out]; exact ⟨_, rfl, q⟩
    have kR := rev_none ka kc wr
    clear q HE hk0
    go_wp2_with fail
    refine kR.mono ?_
    rintro e w5 ⟨rfl, rfl⟩
    clear kR
    go_wp2
    go_ret
    exact ⟨HG.out, bw⟩
   ·obtain ⟨g, c, rfl, _, _⟩ := own_some6 q hkp
    have kR := rev_is (w := wr) (B := w.heap.size) (g := g) (cap := c) (zs := ks) q (by omega)
    have hgB := (own_lt3 q (g := g) rfl).1
    clear q
    go_wp2_with fail
    refine kR.mono ?_
    rintro e w5 ⟨rfl, hO, gr⟩
    have bw5 := bw.grown gr bw.size (fun k e => by cases e; exact hgB)
    have HG : Hid (PathGot (.returned (.slice (some ⟨g, 0, none⟩) ks.length c)) w5 w.heap.size fin) := by
     rw [HE.out]
     refine ⟨_, rfl, ?_⟩
     rw [List.length_reverse]
     exact hO
    clear hO gr kR HE bw
    go_wp2
    go_ret
    exact ⟨HG.out, bw5⟩
end Go.Proofs.YtcdpcfnlflpjnaaGreatDoor
