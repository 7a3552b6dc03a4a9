
/-
  Both sides' ChangedItems.
-/
import Derived.Test.YtleiogcohkfgkaaVerC
import Derived.Test.YtleiogcohkfgkaaVerT
namespace Go.Proofs.Ytleiogcohkfgkaa
open Go.RowKit
set_option linter.unusedVariables false
set_option linter.unusedSimpArgs false

set_option maxHeartbeats 1000000 in
set_option maxRecDepth 100000 in
theorem changeItem_is (k p : Nat) (tP : TypeId) (vP : Value) (tQ : TypeId) (vQ : Value) (w : World) (hk : k < 3) (hp : p < 7) :
    Calls Try.prog 26 #[.agg #[.int .i64 (k : Int), .int .i64 (p : Int), .iface tP vP, .iface tQ vQ]] w fun e w' => e = .returned (.int .i64 (itm9 (k, p))) ∧ Below w.heap.size w w' := by
  have kI := implItemOf_is (k : Int) (p : Int)
  rw [itemV_yes (inB8_true.2 (by omega)) (inB8_true.2 (by omega))] at kI
  have e0 : itm9 (k, p) = 8 * (k : Int) + (p : Int) := rfl
  rw [e0]
  clear e0
  go_enter Try.func26, Try.ntmps26
  go_wp2_with fail
  refine (kI _).mono ?_
  rintro e w1 ⟨rfl, rfl⟩
  go_wp2
  go_ret
  exact ⟨rfl, by go_grown⟩

/-- What ChangedItems answers: items, a code. -/
def CiGot (e : Ending) (w' : World) (B : Nat) (P Q : List (List I3)) : Prop := ∃ v, e = .returned (.tuple #[v, .int .i64 (chK9 P Q)]) ∧ OwnP9 w' B v (chL9 P Q)

theorem chL9_mem {P Q : List (List I3)} {t : Nat} (ht : t < (chL9 P Q).length) : ((chL9 P Q).getD t (0, 0)).1 < 3 ∧ ((chL9 P Q).getD t (0, 0)).2 < 7 := by
  have hm : (chL9 P Q).getD t (0, 0) ∈ chL9 P Q := by
    rw [List.getD, List.getElem?_eq_getElem ht]
    exact List.getElem_mem ht
  generalize (chL9 P Q).getD t (0, 0) = x at *
  unfold chL9 at hm
  split at hm
  · obtain ⟨h1, h2, _⟩ := chg9_mem.1 hm
    exact ⟨h1, h2⟩
  · simp at hm
theorem take_snoc9 {L : List Pl9} {t : Nat} (ht : t < L.length) : L.take (t + 1) = L.take t ++ [L.getD t (0, 0)] := by
  rw [List.take_add_one, List.getElem?_eq_getElem ht, List.getD, List.getElem?_eq_getElem ht]
  rfl

set_option maxHeartbeats 4000000 in
set_option maxRecDepth 100000 in
theorem implChangedItems_is (a : Option Addr) (len cap : Nat) (P : List (List I3)) (a' : Option Addr) (len' cap' : Nat) (Q : List (List I3)) (w : World) (h : Codes w a len cap P) (h' : Codes w a' len' cap' Q) :
    Calls Try.prog 9 #[.agg #[.slice a len cap], .agg #[.slice a' len' cap']] w fun e w' => CiGot e w' w.heap.size P Q ∧ Below w.heap.size w w' := by
  obtain ⟨i0, hi, hz0, hz1, hz2⟩ := info_parts info_int
  have kC := fun W (hb : Below w.heap.size w W) => changesOf_is a len cap P a' len' cap' Q W (h.below hb) (h'.below hb)
  have bw : Below w.heap.size w ((w.alloc (.cells #[.slice a len cap] 31)).alloc (.cells #[.slice a' len' cap'] 31)) := by go_grown
  go_enter Try.func9, Try.ntmps9
  go_wp2_with fail
  refine (kC _ bw).mono ?_
  rintro e U ⟨⟨v, rfl, qC⟩, hb⟩
  replace bw := bel8 bw hb
  clear hb kC
  have hl21 := chL9_len P Q
  have hmem := fun t ht => chL9_mem (P := P) (Q := Q) (t := t) ht
  have HG : ∀ v W B, w.heap.size ≤ B → OwnP9 W B v (chL9 P Q) → CiGot (.returned (.tuple #[v, .int .i64 (chK9 P Q)])) W w.heap.size P Q := fun v W B hB q => ⟨v, rfl, lower8 q hB⟩
  generalize chK9 P Q = cd at *
  unfold OwnC9 at qC
  obtain ⟨va, vc, rfl⟩ := slice8 qC
  generalize chL9 P Q = L at *
  have hat := fun t (ht : t < L.length) => flatC9_at P Q L t ht
  have hfl := flatC9_len P Q L
  go_wp2_with fail
  go_loopw [8, 19] (fun so si wr => ∃ (t : Nat) (v : Value), v = so ∧ t ≤ L.length ∧ si = .int .i64 t ∧ OwnP9 wr U.heap.size v (L.take t) ∧ Below U.heap.size U wr) (fun _ si _ => L.length - (Go.RowKit.intOf si).toNat)
  case atStart => exact ⟨0, _, rfl, by omega, rfl, World.ownsRow_nil _ _ _ _, Below.refl _ _⟩
  case round =>
    obtain ⟨t, so, rfl, ht, rfl, q, bu⟩ := hrel
    by_cases hlt : t < L.length
    · have hlt2 : (t : Int) < (L.length : Int) := by omega
      have ht0 : (0 : Int) ≤ (t : Int) := by omega
      obtain ⟨g, c, hv⟩ := some8 qC (by omega)
      cases hv
      have hcell := qC.cellAt
      have d0 := (hcell (t * 4) (by omega)).trans (hat t hlt).1
      have d1 := (hcell (t * 4 + 1) (by omega)).trans (hat t hlt).2.1
      have d2 := (hcell (t * 4 + 2) (by omega)).trans (hat t hlt).2.2.1
      have d3 := (hcell (t * 4 + 3) (by omega)).trans (hat t hlt).2.2.2
      obtain ⟨hk, hp⟩ := hmem t hlt
      have HS : Hid (L.take (t + 1) = L.take t ++ [L.getD t (0, 0)]) := take_snoc9 hlt
      have HM : Hid ((L.take (t + 1)).map itm9 = (L.take t).map itm9 ++ [itm9 (L.getD t (0, 0))]) := by rw [Hid, take_snoc9 hlt, List.map_append]; rfl
      have HN : Hid ((L.take (t + 1)).length = t + 1) := by rw [Hid, List.length_take]; omega
      clear HS
      have hn9 : (L.take t).length = t := by rw [List.length_take]; omega
      clear hcell hat hmem
      generalize L.getD t (0, 0) = x at *
      obtain ⟨k, p⟩ := x
      simp only at d0 d1 d2 d3 hk hp
      obtain ⟨tP, vP, eP⟩ := site_if9 (atM9 P k p)
      obtain ⟨tQ, vQ, eQ⟩ := site_if9 (atM9 Q k p)
      rw [eP] at d2
      rw [eQ] at d3
      clear eP eQ
      replace d0 := cells_kept bu _ _ d0
      replace d1 := cells_kept bu _ _ d1
      replace d2 := cells_kept bu _ _ d2
      replace d3 := cells_kept bu _ _ d3
      have kI := fun W => changeItem_is k p tP vP tQ vQ W hk hp
      generalize itm9 (k, p) = zz at *
      have bx : Below wr.heap.size wr (wr.alloc (.cells #[.int .i64 (k : Int), .int .i64 (p : Int), .iface tP vP, .iface tQ vQ] 58)) := by go_grown
      go_wp2_with fail
      refine (kI _).mono ?_
      rintro e w3 ⟨rfl, hb⟩
      replace bx := bel8 bx hb
      replace bu := bel8 bu bx
      replace q : OwnP9 w3 U.heap.size so (L.take t) := owns8 q bx
      clear bx hb kI d0 d1 d2 d3
      unfold OwnP9 at q
      have hsz := bu.size
      go_wp2_with (at_builtin; refine wpList_append_own _ rfl _ _ 26 rfl U.heap.size 3 i0 (.int .i64 0) 1 8 Try.underlying26 hi hz0 hz1 hz2 rfl (by decide) _ _ _ rfl (q.alloc _) ⟨w3.heap.size, 0, none⟩ 1 1 [.int .i64 zz] rfl rfl (cell_one_new _ _ _) (by simp [Value.oneCell']) ?c3 ?c4 ?c5 ?_)
      case c3 => unfold maxLen; omega
      case c4 => omega
      case c5 => simp; omega
      intro v' wn hown' hgrow _
      have bn : Below U.heap.size U wn := (bu.alloc hsz _).grown hgrow (by simp; omega) (fun k hk => (q.lt k hk).1)
      have qn : OwnP9 wn U.heap.size v' (L.take (t + 1)) := by
        unfold OwnP9
        rw [HM.out, HN.out, List.map_append, List.map_map, List.map_take]
        exact hown'
      clear hgrow q bu hown' HM HN
      go_wp2
      go_roundw
      case rel => exact ⟨t + 1, _, rfl, by omega, by go_num, qn, bn⟩
      case measure => simp [Go.RowKit.intOf]; omega
    · obtain rfl : t = L.length := by omega
      have hB := bw.size
      rw [List.take_length] at q
      go_wp2
      go_ret2
      exact ⟨HG _ _ _ hB q, bel8 bw bu⟩

/-- .. the specification's; its lists are never nil. -/
theorem ci_ok9 {P Q : List (List I3)} (hP : progOk P = true) (hQ : progOk Q = true) : chL9 P Q = chg9 P Q ∧ chK9 P Q = 0 := ⟨if_pos ⟨hP, hQ⟩, if_pos ⟨hP, hQ⟩⟩
theorem ci_bad9 {P Q : List (List I3)} (h : ¬ (progOk P = true ∧ progOk Q = true)) : chL9 P Q = [] ∧ chK9 P Q = 1 := ⟨if_neg h, if_neg h⟩
set_option maxHeartbeats 4000000 in
set_option maxRecDepth 100000 in
theorem specChangedItems_is (a : Option Addr) (len cap : Nat) (P : List (List I3)) (a' : Option Addr) (len' cap' : Nat) (Q : List (List I3)) (w : World) (h : Codes w a len cap P) (h' : Codes w a' len' cap' Q) :
    Calls Try.prog 7 #[.agg #[.slice a len cap], .agg #[.slice a' len' cap']] w fun e w' => CiGot e w' w.heap.size P Q ∧ Below w.heap.size w w' := by
  have kP := fun W (hb : Below w.heap.size w W) => specProgramOK_is a len cap P W (h.below hb)
  have kQ := fun W (hb : Below w.heap.size w W) => specProgramOK_is a' len' cap' Q W (h'.below hb)
  have bw : Below w.heap.size w ((w.alloc (.cells #[.slice a len cap] 31)).alloc (.cells #[.slice a' len' cap'] 31)) := by go_grown
  have g0 : ((w.alloc (.cells #[.slice a len cap] 31)).alloc (.cells #[.slice a' len' cap'] 31)).cell? ⟨w.heap.size, 0, none⟩ = some (.slice a len cap) := by first | (simp [go_sem]; done) | (simp [World.cell?]; done)
  have g1 : ((w.alloc (.cells #[.slice a len cap] 31)).alloc (.cells #[.slice a' len' cap'] 31)).cell? ⟨w.heap.size + 1, 0, none⟩ = some (.slice a' len' cap') := by first | (simp [go_sem]; done) | (simp [World.cell?]; done)
  cases hP : progOk P
  · obtain ⟨eL, eK⟩ := ci_bad9 (P := P) (Q := Q) (by rw [hP]; simp)
    unfold CiGot
    rw [eL, eK]
    rw [hP] at kP
    clear hP kQ eL eK
    go_enter Try.func7, Try.ntmps7
    go_wp2_with fail
    refine (kP _ bw).mono ?_
    rintro e w1 ⟨rfl, hb⟩
    replace bw := bel8 bw hb
    clear hb g0 g1 kP
    have q := empty8 w1 3 1 w.heap.size bw.size
    have b2 := bel8 bw (show Below w1.heap.size w1 (w1.alloc (.cells #[] 3)) by go_grown)
    go_wp2
    go_ret2
    exact ⟨⟨_, rfl, q⟩, b2⟩
  · cases hQ : progOk Q
    · obtain ⟨eL, eK⟩ := ci_bad9 (P := P) (Q := Q) (by rw [hQ]; simp)
      unfold CiGot
      rw [eL, eK]
      rw [hP] at kP
      rw [hQ] at kQ
      clear hP hQ eL eK
      go_enter Try.func7, Try.ntmps7
      go_wp2_with fail
      refine (kP _ bw).mono ?_
      rintro e w1 ⟨rfl, hb⟩
      replace bw := bel8 bw hb
      replace g1 := cells_kept hb _ _ g1
      clear hb g0 kP
      go_wp2_with fail
      refine (kQ _ bw).mono ?_
      rintro e w2 ⟨rfl, hb⟩
      replace bw := bel8 bw hb
      clear hb g1 kQ
      have q := empty8 w2 3 1 w.heap.size bw.size
      have b2 := bel8 bw (show Below w2.heap.size w2 (w2.alloc (.cells #[] 3)) by go_grown)
      go_wp2
      go_ret2
      exact ⟨⟨_, rfl, q⟩, b2⟩
    · obtain ⟨eL, eK⟩ := ci_ok9 hP hQ
      have h3 := prog_len9 hP
      rw [h.1] at h3
      have h4 := prog_len9 hQ
      rw [h'.1] at h4
      subst h3 h4
      have kC := fun W (hb : Below w.heap.size w W) => l09Changed_is (h.below hb) (h'.below hb)
      unfold CiGot
      rw [eL, eK]
      rw [hP] at kP
      rw [hQ] at kQ
      clear hP hQ eL eK
      go_enter Try.func7, Try.ntmps7
      go_wp2_with fail
      refine (kP _ bw).mono ?_
      rintro e w1 ⟨rfl, hb⟩
      replace bw := bel8 bw hb
      replace g0 := cells_kept hb _ _ g0
      replace g1 := cells_kept hb _ _ g1
      clear hb kP
      go_wp2_with fail
      refine (kQ _ bw).mono ?_
      rintro e w2 ⟨rfl, hb⟩
      replace bw := bel8 bw hb
      replace g0 := cells_kept hb _ _ g0
      replace g1 := cells_kept hb _ _ g1
      clear hb kQ
      go_wp2_with fail
      refine (kC _ bw).mono ?_
      rintro e w3 ⟨⟨v, rfl, q⟩, hb⟩
      have hB := bw.size
      replace bw := bel8 bw hb
      clear hb kC g0 g1
      have e9 : (chgI P Q).length = (chg9 P Q).length := by unfold chgI; rw [List.length_map]
      rw [e9] at q
      go_wp2
      go_ret2
      exact ⟨⟨_, rfl, lower8 q hB⟩, bw⟩
end Go.Proofs.Ytleiogcohkfgkaa
