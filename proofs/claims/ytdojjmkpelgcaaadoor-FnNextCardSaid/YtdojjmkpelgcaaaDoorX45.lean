/-
  Joined: SlpP, SaI, Rw3.
-/
import Derived.Shelf.SlSortCmp.NoneTotal
import Derived.Shelf.Spec.SlicesGrow
import Derived.Laws.AppendOwnNone
import Derived.Deep.MidRow
import Derived.Test.YtdojjmkpelgcaaaDoorX36
import Derived.Test.YtdojjmkpelgcaaaDoorX41
import Derived.Test.YtdojjmkpelgcaaaDoorX42
import Derived.Test.YtdojjmkpelgcaaaDoorX44

namespace Go.Proofs.YtdojjmkpelgcaaaDoor
set_option maxRecDepth 100000
set_option linter.unusedVariables false

def stillM (rows : List (List I3)) (m : V4) (Z : List Int) (k : Int) : List Int := Z.filter fun j => !depM (eventM rows m k.toNat) (eventM rows m j.toNat)

open Go.RowKit
set_option linter.unusedSimpArgs false

def RowGot (e : Ending) (w : World) (B : Nat) (ks : List Int) : Prop := ∃ v, e = .returned v ∧ w.ownsRow B 3 1 v ks.length (ks.map (Value.int .i64))
def SlpOk (rows : List (List I3)) (m : V4) (Z : List Int) : Prop := ∀ j ∈ Z, ∃ q : Nat, j = q ∧ q < 3 ∧ doneM rows m q = false

set_option maxHeartbeats 1000000 in
theorem wakes_is {w : World} {g bx ev : Nat} {cs : Sl × Sl × Sl} {rows : List (List I3)} {m : V4} (h : MachAt w g cs rows m) (hp : progOk rows = true) (hs : shapeOk m = true) (cB : w.cell? ⟨bx, 0, none⟩ = some (.pointer (some ⟨g, 0, none⟩))) (x0 x1 x2 x3 : Int)
  (c0 : w.cell? ⟨ev, 0, none⟩ = some (.int .i64 x0)) (c1 : w.cell? ⟨ev, 1, none⟩ = some (.int .i64 x1)) (c2 : w.cell? ⟨ev, 2, none⟩ = some (.int .i64 x2)) (c3 : w.cell? ⟨ev, 3, none⟩ = some (.int .i64 x3)) {j : Nat} (hj : j < 3) (hd : doneM rows m j = false) :
  Calls Tryd.prog 81 #[.int .i64 j, .pointer (some ⟨bx, 0, none⟩), .pointer (some ⟨ev, 0, none⟩)] w fun e w' => e = .returned (.bool (depM (eventM rows m j) (x0, x1, x2, x3))) ∧ Below w.heap.size w w' := by
 have kE := fun (W : World) (b : Below w.heap.size w W) => event_is (h.below b) hp hs hj hd
 generalize eventM rows m j = y at *
 obtain ⟨y0, y1, y2, y3⟩ := y
 have kD := fun (W : World) => implDepends_is (y0, y1, y2, y3) (x0, x1, x2, x3) W
 unfold I4.val at kD
 simp only at kD kE
 have bd : Below w.heap.size w w.drew := by go_grown
 clear h
 go_enter Tryd.func81, Tryd.ntmps81
 go_wp2_with fail
 refine wp_region_held_drew (S := (fun w' => w'.cell? ⟨bx, 0, none⟩ = some (.pointer (some ⟨g, 0, none⟩)) ∧ w'.cell? ⟨ev, 0, none⟩ = some (.int .i64 x0) ∧ w'.cell? ⟨ev, 1, none⟩ = some (.int .i64 x1) ∧ w'.cell? ⟨ev, 2, none⟩ = some (.int .i64 x2) ∧ w'.cell? ⟨ev, 3, none⟩ = some (.int .i64 x3))) (by kernel_rfl) ⟨cB, c0, c1, c2, c3⟩ (fun hS0 => ?_)
 refine tkm 0 5 (.pointer (some ⟨g, 0, none⟩)) ?_
 refine tkm 1 6 (.int .i64 (j : Int)) ?_
 refine tkm 3 8 (.agg #[.int .i64 x0, .int .i64 x1, .int .i64 x2, .int .i64 x3]) ?_
 refine tkr 2 7 (fun K hK => ?_)
 go_simp
 refine (kE _ bd).mono ?_
 rintro e w1 ⟨rfl, hb1⟩
 go_wp2_with fail
 refine hK.out _ _ ?_ (fun hS1 => ?_)
 ·exact ⟨cells_kept hb1 _ _ hS0.1, cells_kept hb1 _ _ hS0.2.1, cells_kept hb1 _ _ hS0.2.2.1, cells_kept hb1 _ _ hS0.2.2.2.1, cells_kept hb1 _ _ hS0.2.2.2.2⟩
 clear hK
 refine tkr 4 9 (fun K hK => ?_)
 go_simp
 refine (kD _).mono ?_
 rintro e w2 ⟨rfl, hb2⟩
 go_wp2_with fail
 refine hK.out _ _ ?_ (fun hS2 => ?_)
 ·exact ⟨cells_kept hb2 _ _ hS1.1, cells_kept hb2 _ _ hS1.2.1, cells_kept hb2 _ _ hS1.2.2.1, cells_kept hb2 _ _ hS1.2.2.2.1, cells_kept hb2 _ _ hS1.2.2.2.2⟩
 clear hK
 refine tkm 5 4 (.bool (depM (y0, y1, y2, y3) (x0, x1, x2, x3))) ?_
 refine wpAnyH_done (by kernel_rfl) ?_ _
 go_wp2
 go_ret
 exact ⟨rfl, bel_trans bd (bel_trans hb1 hb2)⟩

set_option maxHeartbeats 2000000 in
theorem stillAsleep_is {w : World} {g : Nat} {cs : Sl × Sl × Sl} {rows : List (List I3)} {m : V4} (h : MachAt w g cs rows m) (hp : progOk rows = true) (hs : shapeOk m = true) {k : Nat} (hk : k < 3) (hd : doneM rows m k = false) (la : Option Addr) (n c : Nat) (Z : List Int) (hL : Ints .i64 w la n c Z) (hn : n ≤ 4096) (hZ : SlpOk rows m Z) :
  Calls Tryd.prog 49 #[.pointer (some ⟨g, 0, none⟩), .slice la n c, .int .i64 k] w fun e w' => RowGot e w' w.heap.size (stillM rows m Z k) ∧ Below w.heap.size w w' := by
 obtain ⟨i1, hi, hz3, hz4, hz5⟩ := info_parts info_int
 have hll := hL.1
 have eS : stillM rows m Z (k : Int) = Z.filter (fun z => !(fun j : Int => depM (eventM rows m j.toNat) (eventM rows m k)) z) := by
  unfold stillM
  rw [Int.toNat_natCast]
  congr 1
  funext j
  rw [depM_symm]
 rw [eS]
 clear eS
 have kE := fun (W : World) (b : Below w.heap.size w W) => event_is (h.below b) hp hs hk hd
 have kW := fun (W : World) (b : Below w.heap.size w W) (bx ev : Nat) cB x0 x1 x2 x3 c0 c1 c2 c3 (q : Nat) (hq : q < 3) hdq => wakes_is (bx := bx) (ev := ev) (h.below b) hp hs cB x0 x1 x2 x3 c0 c1 c2 c3 (j := q) hq hdq
 have hM := h.1.lt
 clear h hd hp
 generalize eventM rows m k = y at *
 obtain ⟨y0, y1, y2, y3⟩ := y
 simp only at kE
 have pB := Blk.new w 118 [.pointer (some ⟨g, 0, none⟩)]
 have bw : Below w.heap.size w (w.alloc (.cells #[.pointer (some ⟨g, 0, none⟩)] 118)) := by go_grown
 have hsz : (w.alloc (.cells #[.pointer (some ⟨g, 0, none⟩)] 118)).heap.size = w.heap.size + 1 := by simp
 replace hL := hL.below bw
 go_enter Tryd.func49, Tryd.ntmps49
 go_wp2_with (at_make; refine wpList_make_full _ rfl _ _ 27 rfl w.heap.size 3 i1 (.int .i64 0) 1 Tryd.underlying27 hi hz3 hz4 _ _ _ _ n rfl rfl rfl rfl ?b2 ?b3 ?b4 ?_)
 case b2 => first | omega | (rw [hz5]; omega)
 case b3 => unfold maxLen; omega
 case b4 => simp
 intro W1 hown hgrow
 generalize (w.alloc (.cells #[.pointer (some ⟨g, 0, none⟩)] 118)) = W0 at *
 obtain ⟨g1, hg1⟩ : ∃ g1, g1 = w.heap.size + 1 := ⟨_, rfl⟩
 rw [← hg1] at hown hsz ⊢
 have hg1w : W0.heap.size ≤ g1 := by omega
 obtain ⟨bx, hbx⟩ : ∃ bx, bx = w.heap.size := ⟨_, rfl⟩
 have hbw : w.heap.size ≤ bx := by omega
 rw [← hbx] at pB
 have b1 : Below W0.heap.size W0 W1 := ⟨hgrow.os, hgrow.tape, hgrow.output, hgrow.size, fun k hk => hgrow.block k hk (by simp)⟩
 replace hL := hL.below b1
 clear hgrow
 have hne : bx ≠ g1 := by omega
 have hbg : w.heap.size ≤ g1 := by omega
 try rw [← hbx]
 clear hbx hsz hg1
 have HO : Hid (∃ cur : List Value, cur.length = n ∧ W1.heap[g1]? = some (.cells cur.toArray 3 (0, 0)) ∧ ∀ (W : World) (cs : List Value), cs.length = n → W.heap[g1]? = some (.cells cs.toArray 3 (0, 0)) → W.ownsRow w.heap.size 3 1 (.slice (some ⟨g1, 0, none⟩) n n) n cs) := by
  rcases hown.2 with ⟨hv, _⟩ | ⟨g', cap', cur, hv, hB, hg, hn9, hc9, hsz9, ht9⟩
  ·cases hv
  ·cases hv
   refine ⟨cur.toList, by simpa using hsz9, by simpa using hg, fun W cs hcs hW => ⟨by omega, .inr ⟨g1, n, cs.toArray, rfl, hbg, hW, Nat.le_refl _, hc9, by simp [hcs], ?_⟩⟩⟩
   simp [hcs]
   exact List.take_of_length_le (by omega)
 clear hown
 obtain ⟨cur, hcl, hcur, HOW⟩ := HO.out
 have HOW : Hid _ := HOW
 clear HO
 have hcs1 : (Z.map (Value.int .i64)).length = Nat.min n n := by rw [List.length_map, hll]; exact (Nat.min_self n).symm
 have HP : Hid (0 < (Z.map (Value.int .i64)).length → (some (⟨g1, 0, none⟩ : Addr)) = some ⟨g1, 0, none⟩ ∧ ∃ ad, la = some ad ∧ ∀ j v, (Z.map (Value.int .i64))[j]? = some v → W1.cell? (ad.add j) = some v) := by
  intro hpos
  rw [List.length_map] at hpos
  obtain ⟨_, _, _, hcase⟩ := hL
  rcases hcase with e0 | ⟨b, off, rfl, hb, hc⟩
  ·omega
  ·refine ⟨rfl, _, rfl, fun j v hj => ?_⟩
   rw [List.getElem?_map] at hj
   obtain ⟨z, hz, rfl⟩ := Option.map_eq_some_iff.1 hj
   have hjl := (List.getElem?_eq_some_iff.1 hz).1
   have h9 := hc j (by omega)
   rw [List.getD, hz, Option.getD_some] at h9
   by_cases e0 : j = 0
   ·subst e0; simpa [Addr.add] using h9
   ·simpa [Addr.add, e0] using h9
 go_wp2_with (refine wpList_copy_splice rfl _ _ 27 27 rfl 3 Tryd.underlying27 (by kernel_rfl) _ _ _ _ _ _ rfl rfl g1 0 cur 3 hcur (Z.map (Value.int .i64)) hcs1 HP.out (by rw [List.length_map]; omega) (fun v hv => by obtain ⟨z, _, rfl⟩ := List.mem_map.1 hv; rfl) W0.heap.size W0 b1 hg1w ?_)
 intro W2 HC b2
 have hC := HC.out
 have hsp : splice cur 0 (Z.map (Value.int .i64)) = Z.map (Value.int .i64) := by
  unfold splice
  rw [List.drop_of_length_le (by rw [List.length_map]; omega)]
  simp
 rw [hsp] at hC
 have Q := HOW.out W2 _ (by rw [List.length_map]; exact hll) hC
 replace bw := bel_trans bw b2
 replace pB := pB.below b2
 clear HC hC hsp hcur hcl HOW cur b1 b2 hL hcs1
 have cB : W2.cell? ⟨bx, 0, none⟩ = some (.pointer (some ⟨g, 0, none⟩)) := by simpa using pB.cell 0
 have kEx := kE W2 bw
 clear kE
 go_wp2_with fail
 refine kEx.mono ?_
 rintro e W3 ⟨rfl, hb3⟩
 replace bw := bel_trans bw hb3
 replace pB := pB.below hb3
 have Q3 := owns_below Q hb3
 clear cB kEx Q hb3
 have b4 : Below W3.heap.size W3 (W3.alloc (.cells #[.int .i64 0, .int .i64 0, .int .i64 0, .int .i64 0] 33)) := by go_grown
 have pE := Blk.new W3 33 [.int .i64 0, .int .i64 0, .int .i64 0, .int .i64 0]
 have hb9 := pB.lt
 have hg9 := (Q3.lt g1 rfl).2
 obtain ⟨ev, hev⟩ : ∃ ev, ev = W3.heap.size := ⟨_, rfl⟩
 rw [← hev] at pE hb9 hg9
 have hwe : w.heap.size ≤ ev := by rw [hev]; exact bw.size
 have HV : Hid (ev = W3.heap.size) := hev
 clear hev
 go_wp2_with (rw [← HV.out]; refine wpList_store_blk rfl 33 _ _ rfl ev [.int .i64 y0, .int .i64 y1, .int .i64 y2, .int .i64 y3] rfl rfl pE (by kernel_rfl) rfl rfl ?_)
 intro W4 pE4 g4
 have Q4 := (owns_below Q3 b4).kept g4 (.inr (by simp [Value.ownBlock]; omega))
 have pB4 := (pB.below b4).kept g4 (by simp; omega)
 have bw4 := (bel_trans bw b4).grown g4 (Nat.le_trans bw.size b4.size) (fun x hx => by cases hx; exact hwe)
 have pE5 := pE4.out
 clear pE g4 b4 Q3 pB bw pE4
 have eg : ∀ args w, (callFunc 81 args).run Tryd.prog w = .ok (.enter 81 args) w := enters_of Tryd.func81 (by kernel_rfl) rfl
 have hA : Asks7 81 #[.pointer (some ⟨bx, 0, none⟩), .pointer (some ⟨ev, 0, none⟩)] (fun j : Int => depM (eventM rows m j.toNat) (y0, y1, y2, y3)) W4 g1 Z := fun W gW j hj => by
  obtain ⟨q, rfl, hq3, hqd⟩ := hZ j hj
  have bW := bw4.grown gW bw4.size (fun x hx => by cases hx; exact hbg)
  have pBW := pB4.kept gW (by simp; omega)
  have pEW := pE5.kept gW (by simp; omega)
  simp only [Int.toNat_natCast]
  exact kW W bW bx ev (by simpa using pBW.cell 0) y0 y1 y2 y3 (by simpa using pEW.cell 0) (by simpa using pEW.cell 1) (by simpa using pEW.cell 2) (by simpa using pEW.cell 3) q hq3 hqd
 obtain ⟨R, hR⟩ : ∃ R, R = Z.filter (fun z => !depM (eventM rows m z.toNat) (y0, y1, y2, y3)) := ⟨_, rfl⟩
 have kD : Calls Tryd.prog 82 #[.slice (some ⟨g1, 0, none⟩) n n, .func (.func 81) #[] #[.pointer (some ⟨bx, 0, none⟩), .pointer (some ⟨ev, 0, none⟩)]] W4 fun e w' => Del7 e W4 w' w.heap.size g1 n R := by
  rw [hR]
  exact deleteFunc_is 81 #[.pointer (some ⟨bx, 0, none⟩), .pointer (some ⟨ev, 0, none⟩)] (fun j : Int => depM (eventM rows m j.toNat) (y0, y1, y2, y3)) eg w.heap.size g1 n n Z W4 Q4 hll (by omega) hA
 have HR : Hid (R = Z.filter (fun z => !depM (eventM rows m z.toNat) (y0, y1, y2, y3))) := hR
 clear hA eg kW Q4 pB4 pE5 hZ hR
 go_wp2_with fail
 refine kD.mono ?_
 rintro e W5 ⟨rfl, Q5, g5⟩
 have bw5 := bw4.grown g5 bw4.size (fun x hx => by cases hx; exact hbg)
 clear kD g5 bw4
 go_wp2
 go_ret
 exact ⟨⟨.slice (some ⟨g1, 0, none⟩) R.length n, rfl, by rw [← HR.out]; exact Q5⟩, bw5⟩


def Ap3 (v u : Value) : Prop := ∀ g, v.ownBlock = some g → u.ownBlock ≠ some g
theorem Ap3.symm {v u : Value} (h : Ap3 v u) : Ap3 u v := fun g hg h2 => h g h2 hg
theorem own_lt3 {w : World} {B e s n : Nat} {v : Value} {xs : List Value} (h : w.ownsRow B e s v n xs) {g : Nat} (hg : v.ownBlock = some g) : B ≤ g ∧ g < w.heap.size := by
 rcases h.2 with ⟨rfl, _⟩ | ⟨g', cap, cur, rfl, hb, hgg, _⟩
 ·simp [Value.ownBlock] at hg
 ·simp [Value.ownBlock] at hg
  subst hg
  refine ⟨hb, ?_⟩
  rcases Nat.lt_or_ge g' w.heap.size with h1 | h1
  ·exact h1
  ·rw [Array.getElem?_eq_none h1] at hgg; cases hgg
structure Tri (w : World) (B : Nat) (v1 v2 v3 : Value) (ts : List ByteArray) (fs bs : List Int) : Prop where
 ks : w.ownsRow B 9 1 v1 ts.length (ts.map Value.string)
 fr : w.ownsRow B 3 1 v2 fs.length (fs.map (Value.int .i64))
 bw : w.ownsRow B 3 1 v3 bs.length (bs.map (Value.int .i64))
 ap : Ap3 v2 v3
theorem Tri.below {w w' : World} {B : Nat} {v1 v2 v3 : Value} {ts : List ByteArray} {fs bs : List Int} (h : Tri w B v1 v2 v3 ts fs bs) (hb : Below w.heap.size w w') : Tri w' B v1 v2 v3 ts fs bs :=
 ⟨owns_below h.ks hb, owns_below h.fr hb, owns_below h.bw hb, h.ap⟩
structure Off3 (wi w : World) (v1 v2 v3 u1 u2 u3 : Value) : Prop where
 size : wi.heap.size ≤ w.heap.size
 keep : ∀ k, k < wi.heap.size → v1.ownBlock ≠ some k → v2.ownBlock ≠ some k → v3.ownBlock ≠ some k → w.heap[k]? = wi.heap[k]?
 at1 : u1.ownBlock = v1.ownBlock ∨ ∃ g, wi.heap.size ≤ g ∧ u1.ownBlock = some g
 at2 : u2.ownBlock = v2.ownBlock ∨ ∃ g, wi.heap.size ≤ g ∧ u2.ownBlock = some g
 at3 : u3.ownBlock = v3.ownBlock ∨ ∃ g, wi.heap.size ≤ g ∧ u3.ownBlock = some g
theorem Off3.refl (w : World) (v1 v2 v3 : Value) : Off3 w w v1 v2 v3 v1 v2 v3 := ⟨Nat.le_refl _, fun _ _ _ _ _ => rfl, .inl rfl, .inl rfl, .inl rfl⟩
theorem Off3.below {wi w w' : World} {v1 v2 v3 u1 u2 u3 : Value} (h : Off3 wi w v1 v2 v3 u1 u2 u3) (hb : Below w.heap.size w w') : Off3 wi w' v1 v2 v3 u1 u2 u3 :=
 ⟨Nat.le_trans h.size hb.size, fun k hk a b c => (hb.block k (Nat.lt_of_lt_of_le hk h.size)).trans (h.keep k hk a b c), h.at1, h.at2, h.at3⟩
/-! The rows that go with the list of states. -/
end Go.Proofs.YtdojjmkpelgcaaaDoor
