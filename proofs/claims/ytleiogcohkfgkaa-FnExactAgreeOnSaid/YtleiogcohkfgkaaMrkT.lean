
/-
  A program marked: nothing below its blocks is turned, and nothing above them.
-/
import Derived.Test.YtleiogcohkfgkaaMarkP
import Derived.Test.YtleiogcohkfgkaaProg5
import Derived.Test.YtleiogcohkfgkaaMach0
namespace Go.Proofs.Ytleiogcohkfgkaa
open Go.RowKit
set_option linter.unusedVariables false
set_option linter.unusedSimpArgs false

/-- What lies below B is as it was, and what lies from T on. -/
def Mid9 (B T : Nat) (w w' : World) : Prop := Below B w w' ∧ ∀ j, T ≤ j → j < w.heap.size → w'.heap[j]? = w.heap[j]?
theorem Mid9.refl (B T : Nat) (w : World) : Mid9 B T w w := ⟨Below.refl _ _, fun _ _ _ => rfl⟩
theorem Mid9.step {B T : Nat} {w wr w1 : World} {u : Value} (h : Mid9 B T w wr) (hg : wr.grownBy w1 u.ownBlock) (hsz : B ≤ wr.heap.size) (hlow : ∀ x, u.ownBlock = some x → B ≤ x) (htop : ∀ x, u.ownBlock = some x → x < T) : Mid9 B T w w1 :=
  ⟨h.1.grown hg hsz hlow, fun j hj hl => by
    rw [hg.block j (Nat.lt_of_lt_of_le hl h.1.size) (fun e => absurd (htop j e.symm) (by omega))]
    exact h.2 j hj hl⟩
theorem Mid9.after {B T : Nat} {w w0 w1 : World} (h : Mid9 B T w0 w1) (hb : Below w.heap.size w w0) (hB : B ≤ w.heap.size) : Mid9 B T w w1 :=
  ⟨(hb.mono hB).trans h.1, fun j hj hl => (h.2 j hj (Nat.lt_of_lt_of_le hl hb.size)).trans (hb.block j hl)⟩
theorem Mid9.blk {B T g t : Nat} {w w' : World} {cs : List Value} (h : Mid9 B T w w') (hB : Blk w g t cs) (hg : T ≤ g) : Blk w' g t cs := (h.2 g hg hB.lt).trans hB
theorem Mid9.owns {B T B' e s n : Nat} {w w' : World} {v : Value} {xs : List Value} (h : Mid9 B T w w') (ho : w.ownsRow B' e s v n xs) (hB : T ≤ B') : w'.ownsRow B' e s v n xs := by
  refine ⟨ho.1, ?_⟩
  rcases ho.2 with h0 | ⟨g, cap, cur, hv, hBg, hg, rest⟩
  · exact .inl h0
  · exact .inr ⟨g, cap, cur, hv, hBg, (h.2 g (by omega) (Array.getElem?_eq_some_iff.1 hg).1).trans hg, rest⟩
/-- A program of one's own whose rows lie below T. -/
theorem fitsC9 {w : World} {a : Option Addr} {len cap : Nat} {rows : List (List I3)} (h : Codes w a len cap rows) : ∀ r ∈ rows, ∀ x ∈ r, I3.fits x := by
  intro r hr x hx
  obtain ⟨t, ht, rfl⟩ := List.getElem_of_mem hr
  obtain ⟨h1, _, _, hc⟩ := h
  rcases hc with h0 | ⟨b, off, _, _, hc⟩
  · omega
  · obtain ⟨a', l', c', _, hI⟩ := hc t (by omega)
    have e : rows.getD t [] = rows[t] := by simp [List.getD, ht]
    rw [e] at hI
    exact hI.2.2.2.1 x hx
def OwnProgT (w : World) (B T : Nat) (v : Value) (rows : List (List I3)) : Prop := ∃ vs, w.ownsRow B 71 1 v rows.length vs ∧ OwnRows w B vs rows ∧ ∀ u ∈ vs, ∀ x, u.ownBlock = some x → x < T
theorem OwnProgT.own {w : World} {B T : Nat} {v : Value} {rows : List (List I3)} (h : OwnProgT w B T v rows) : OwnProg w B v rows := by
  obtain ⟨vs, h1, h2, _⟩ := h
  exact ⟨vs, h1, h2⟩
theorem OwnProgT.below {w w' : World} {B T : Nat} {v : Value} {rows : List (List I3)} (h : OwnProgT w B T v rows) (hb : Below w.heap.size w w') : OwnProgT w' B T v rows := by
  obtain ⟨vs, h1, h2, h3⟩ := h
  exact ⟨vs, owns_below h1 hb, h2.below hb, h3⟩
theorem OwnProg.top9 {w : World} {B : Nat} {v : Value} {rows : List (List I3)} (h : OwnProg w B v rows) : OwnProgT w B w.heap.size v rows := by
  obtain ⟨vs, h1, h2⟩ := h
  refine ⟨vs, h1, h2, fun u hu x hx => ?_⟩
  obtain ⟨t, ht, rfl⟩ := List.getElem_of_mem hu
  have hr := h2.2.1 t (by have := h2.1; omega)
  have e : vs.getD t undef = vs[t] := by simp [List.getD, ht]
  rw [e] at hr
  exact (hr.lt x hx).2
theorem OwnProgT.mid {B T B' T' : Nat} {w w' : World} {v : Value} {rows : List (List I3)} (h : OwnProgT w B' T' v rows) (hm : Mid9 B T w w') (hT : T ≤ B') : OwnProgT w' B' T' v rows := by
  obtain ⟨vs, h1, h2, h3⟩ := h
  exact ⟨vs, hm.owns h1 hT, ⟨h2.1, fun t ht => hm.owns (h2.2.1 t ht) hT, h2.2.2⟩, h3⟩

set_option maxHeartbeats 1000000 in
set_option maxRecDepth 100000 in
theorem markInstrSS_mid (B T : Nat) (v : Value) (k : Int) (rows : List (List I3)) (w : World) (hk0 : 0 ≤ k) (hk : k ≤ 100000000) (hc : cntP rows rows.length ≤ 10000000) (hcj : ∀ j, j ≤ rows.length → cntP rows j ≤ 10000000) (hn : ∀ j, j < rows.length → (rows.getD j []).length ≤ 1048576) (h : OwnProgT w B T v rows) :
    Calls Try.prog 28 #[v, .int .i64 k] w fun e w' => e = .returned (.int .i64 (k + cntP rows rows.length)) ∧ Mid9 B T w w' := by
  obtain ⟨vs, h1, h2, hT⟩ := h
  rcases h1.2 with ⟨rfl, h0⟩ | ⟨P, cap, cur, rfl, hPB, hh, hlc, hcm, _⟩
  · obtain rfl : rows = [] := List.eq_nil_of_length_eq_zero h0
    go_enter Try.func28, Try.ntmps28
    go_wp2
    refine wp_loop_rounds 1 ?_
    rw [rounds_succ]
    go_wp2
    go_ret
    exact ⟨by simp [cntP], Mid9.refl _ _ _⟩
  · clear hh
    unfold maxLen at hcm
    have HL : Hid (vs.length = rows.length) := h2.1
    go_enter Try.func28, Try.ntmps28
    go_wp2
    go_loopw [1, 5] (fun sk si wr => ∃ j : Nat, j ≤ rows.length ∧ si = .int .i64 j ∧ sk = .int .i64 (k + cntP rows j) ∧ wr.ownsRow B 71 1 (.slice (some ⟨P, 0, none⟩) rows.length cap) rows.length vs ∧ OwnRows wr B vs (mkP k rows j) ∧ Mid9 B T w wr) (fun _ si _ => rows.length - (intOf si).toNat)
    case atStart => exact ⟨0, by omega, rfl, by simp [cntP], h1, by simpa [mkP] using h2, Mid9.refl _ _ _⟩
    case round =>
      obtain ⟨j, hj, rfl, rfl, hr, hR, hb⟩ := hrel
      by_cases hlt : j < rows.length
      · have hlt2 : (j : Int) < (rows.length : Int) := by omega
        have hj0 : (0 : Int) ≤ (j : Int) := by omega
        have hc0 := hr.cellAt j (by omega)
        have hvt : vs[j]? = some (vs.getD j undef) := by simp [List.getD, show j < vs.length by have := HL.out; omega]
        rw [hvt] at hc0
        have hrow := hR.2.1 j (by rw [mkP_len]; exact hlt)
        have hcs := hcj j hj
        have hnj := hn j hlt
        have hstep := cntP_step rows j hlt
        have hset := mkP_set k rows j hlt
        have hold := mkP_old k rows j j (Nat.le_refl _) hlt
        rw [hold] at hrow
        obtain ⟨c, hcd⟩ : ∃ c, c = cntP rows j := ⟨_, rfl⟩
        obtain ⟨r, hrd⟩ : ∃ r, r = rows.getD j [] := ⟨_, rfl⟩
        rw [← hcd] at hcs hstep hset ⊢
        rw [← hrd] at hnj hstep hset hold hrow
        have hturn := fun w' (hr' : w'.ownsRow B 39 3 (vs.getD j undef) r.length (flat (mkI (k + c) r r.length))) (hg : wr.grownBy w' (vs.getD j undef).ownBlock) => OwnRows.turn (w' := w') (t := j) (r := mkI (k + c) r r.length) hR (by rw [mkP_len]; exact hlt) (by rw [mkI_len, hold]) (by rw [hold]; exact hr') hg
        rw [hset] at hturn
        have HS : Hid (cntP rows (j + 1) = c + r.length * 3) := hstep
        have hlow : ∀ x, (vs.getD j undef).ownBlock = some x → B ≤ x := fun x hx => (hrow.lt x hx).1
        have htop : ∀ x, (vs.getD j undef).ownBlock = some x → x < T := fun x hx => hT _ (by simp [List.getD, show j < vs.length by have := HL.out; omega]) x hx
        have hsz : B ≤ wr.heap.size := by have := (hr.lt P rfl).2; omega
        have hne := owns_ne hr hrow (by decide)
        have K := markInstrS_any B (vs.getD j undef) (k + c) r
        clear hcd hrd hstep hset hold hvt hR
        generalize vs.getD j undef = u at hc0 hrow hturn hlow htop hne K
        go_wp2_with fail
        refine (K _ (by omega) (by omega) hnj hrow).mono ?_
        rintro e w1 ⟨rfl, hr1, hg1⟩
        have hR1 := hturn w1 hr1 hg1
        have hr2 := hr.kept hg1 hne
        have hb1 := hb.step hg1 hsz hlow htop
        clear hturn hr1 hr hb hg1 hlow htop hne hrow hc0 K
        go_wp2
        go_roundw
        case rel => exact ⟨j + 1, by omega, by go_num, by rw [HS.out]; go_num, hr2, hR1, hb1⟩
        case measure => simp [intOf]; omega
      · obtain rfl : j = rows.length := by omega
        go_wp2
        go_ret
        exact ⟨rfl, hb⟩

set_option maxHeartbeats 1000000 in
set_option maxRecDepth 100000 in
theorem markProgram_mid (B T : Nat) (v : Value) (k : Int) (rows : List (List I3)) (w : World) (hk0 : 0 ≤ k) (hk : k ≤ 100000000) (hc : cntP rows rows.length ≤ 10000000) (hcj : ∀ j, j ≤ rows.length → cntP rows j ≤ 10000000) (hn : ∀ j, j < rows.length → (rows.getD j []).length ≤ 1048576) (hB : B ≤ w.heap.size) (h : OwnProgT w B T v rows) :
    Calls Try.prog 12 #[.agg #[v], .int .i64 k] w fun e w' => e = .returned (.int .i64 (k + cntP rows rows.length)) ∧ Mid9 B T w w' := by
  obtain ⟨a, cap, rfl⟩ := h.own.slice
  go_enter Try.func12, Try.ntmps12
  go_wp2_with fail
  refine (markInstrSS_mid B T _ k rows _ hk0 hk hc hcj hn (h.below (by go_grown))).mono ?_
  rintro e w1 ⟨rfl, hb1⟩
  have b1 : Mid9 B T w w1 := hb1.after (by go_grown) hB
  clear hb1 h
  go_wp2
  go_ret
  exact ⟨rfl, b1⟩
end Go.Proofs.Ytleiogcohkfgkaa
