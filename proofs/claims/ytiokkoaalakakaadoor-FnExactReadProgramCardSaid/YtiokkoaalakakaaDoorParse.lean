/-
  Plain mathematics of a program's numbers read back: of each thread its length, and its instructions' three numbers.
-/
import Derived.Test.YtiokkoaalakakaaDoorProg2
namespace Go.Proofs.YtiokkoaalakakaaDoor

/-- Three numbers an instruction. -/
def triples : List Int → List I3
  | a :: b :: c :: r => (a, b, c) :: triples r
  | _ => []

theorem triples_length : ∀ (n : Nat) (zs : List Int), zs.length = 3 * n → (triples zs).length = n
  | 0, [], _ => rfl
  | 0, _ :: _, h => by simp at h
  | n + 1, [], h => by simp at h
  | n + 1, [_], h => by simp at h; omega
  | n + 1, [_, _], h => by simp at h; omega
  | n + 1, a :: b :: c :: r, h => by
    have := triples_length n r (by simp at h; omega)
    simp [triples, this]
theorem triples_get : ∀ (n : Nat) (zs : List Int) (i : Nat), zs.length = 3 * n → i < n → (triples zs).getD i (0, 0, 0) = (zs.getD (3 * i) 0, zs.getD (3 * i + 1) 0, zs.getD (3 * i + 2) 0)
  | 0, _, i, _, h => by omega
  | n + 1, [], i, h, _ => by simp at h
  | n + 1, [_], i, h, _ => by simp at h; omega
  | n + 1, [_, _], i, h, _ => by simp at h; omega
  | n + 1, a :: b :: c :: r, 0, _, _ => by simp [triples]
  | n + 1, a :: b :: c :: r, i + 1, h, hi => by
    have ih := triples_get n r i (by simp at h; omega) (by omega)
    rw [triples, List.getD_cons_succ, ih]
    have e0 : 3 * (i + 1) = 3 * i + 1 + 1 + 1 := by omega
    rw [e0]
    simp [List.getD]

/-- The codes of k threads, and nothing behind them. -/
def parse : Nat → List Int → Option (List (List I3))
  | 0, [] => some []
  | 0, _ :: _ => none
  | _ + 1, [] => none
  | k + 1, n :: zs => if (zs.length : Int) < 3 * n then none else (parse k (zs.drop (3 * n.toNat))).map (triples (zs.take (3 * n.toNat)) :: ·)

theorem parse_none_nil (k : Nat) : parse (k + 1) [] = none := rfl
theorem parse_short {k : Nat} {n : Int} {zs : List Int} (h : (zs.length : Int) < 3 * n) : parse (k + 1) (n :: zs) = none := by simp [parse, h]
theorem parse_step {k : Nat} {n : Int} {zs : List Int} (h : ¬ (zs.length : Int) < 3 * n) : parse (k + 1) (n :: zs) = (parse k (zs.drop (3 * n.toNat))).map (triples (zs.take (3 * n.toNat)) :: ·) := by simp [parse, h]
theorem parse_rest {zs : List Int} (h : zs ≠ []) : parse 0 zs = none := by
  cases zs with
  | nil => exact absurd rfl h
  | cons z zs => rfl

/-- What was read so far, and what is left, make the whole. -/
def PState (zs : List Int) (k : Nat) (done : List (List I3)) (rest : List Int) : Prop := parse 3 zs = (parse (3 - k) rest).map (done ++ ·)

theorem PState.start (zs : List Int) : PState zs 0 [] zs := by
  unfold PState
  simp
theorem PState.fail {zs : List Int} {k : Nat} {done : List (List I3)} {rest : List Int} (h : PState zs k done rest) (hn : parse (3 - k) rest = none) : parse 3 zs = none := by
  rw [h, hn]; rfl
theorem PState.empty {zs : List Int} {k : Nat} {done : List (List I3)} (h : PState zs k done []) (hk : k < 3) : parse 3 zs = none := by
  refine h.fail ?_
  obtain ⟨j, hj⟩ : ∃ j, 3 - k = j + 1 := ⟨3 - k - 1, by omega⟩
  rw [hj]; rfl
theorem PState.short {zs : List Int} {k : Nat} {done : List (List I3)} {n : Int} {ys : List Int} (h : PState zs k done (n :: ys)) (hk : k < 3) (hs : (ys.length : Int) < 3 * n) : parse 3 zs = none := by
  refine h.fail ?_
  obtain ⟨j, hj⟩ : ∃ j, 3 - k = j + 1 := ⟨3 - k - 1, by omega⟩
  rw [hj]; exact parse_short hs
theorem PState.step {zs : List Int} {k : Nat} {done : List (List I3)} {n : Int} {ys : List Int} (h : PState zs k done (n :: ys)) (hk : k < 3) (hs : ¬ (ys.length : Int) < 3 * n) : PState zs (k + 1) (done ++ [triples (ys.take (3 * n.toNat))]) (ys.drop (3 * n.toNat)) := by
  unfold PState at h ⊢
  obtain ⟨j, hj⟩ : ∃ j, 3 - k = j + 1 := ⟨3 - k - 1, by omega⟩
  rw [h, hj, parse_step hs, show 3 - (k + 1) = j by omega, Option.map_map]
  congr 1
  funext r
  simp
theorem PState.done {zs : List Int} {done : List (List I3)} (h : PState zs 3 done []) : parse 3 zs = some done := by
  unfold PState at h
  rw [h]; simp [parse]
theorem PState.more {zs : List Int} {done : List (List I3)} {rest : List Int} (h : PState zs 3 done rest) (hr : rest ≠ []) : parse 3 zs = none := h.fail (parse_rest hr)
/-- A thread's code that is too long is in any program that comes of it. -/
theorem PState.long {zs : List Int} {k : Nat} {done : List (List I3)} {n : Nat} {ys : List Int} (h : PState zs k done ((n : Int) :: ys)) (hk : k < 3) : ∀ rows, parse 3 zs = some rows → ∃ r ∈ rows, r.length = n := by
  intro rows hr
  unfold PState at h
  obtain ⟨j, hj⟩ : ∃ j, 3 - k = j + 1 := ⟨3 - k - 1, by omega⟩
  rw [h, hj] at hr
  by_cases hs : (ys.length : Int) < 3 * (n : Int)
  · rw [parse_short hs] at hr; cases hr
  · rw [parse_step hs, Option.map_map] at hr
    cases hp : parse j (ys.drop (3 * ((n : Int)).toNat)) with
    | none => rw [hp] at hr; cases hr
    | some R =>
      rw [hp] at hr
      simp at hr
      refine ⟨triples (ys.take (3 * n)), by rw [← hr]; simp, triples_length n _ ?_⟩
      rw [List.length_take]
      omega
end Go.Proofs.YtiokkoaalakakaaDoor
