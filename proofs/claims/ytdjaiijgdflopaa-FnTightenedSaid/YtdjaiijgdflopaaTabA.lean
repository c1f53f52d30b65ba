/-
  TABLES, AS FUNCTIONS: valid, a cell, closed, the table of a graph, an edge added, a window, the edges of a table.
-/
import Derived.Test.YtdjaiijgdflopaaGrU
import Derived.Test.YtdjaiijgdflopaaIvA
namespace Go.Proofs.Ytdjaiijgdflopaa
open Go.RowKit
set_option linter.unusedVariables false
set_option linter.unusedSimpArgs false

def cellT (n : Int) (i : Nat) (x : Int) : Bool := decide (-1000000 ≤ x ∧ x ≤ 1000000) && !(decide ((i : Int) % (n + 1) = 0) && decide (x ≠ 0))
def okT (n : Int) (cs : List Int) : Bool := decide (0 ≤ n ∧ n ≤ 8 ∧ (cs.length : Int) = n * n) && (List.range cs.length).all fun i => cellT n i (cs[i]?.getD 0)
/-- The number in row i and column k. -/
def atT (n : Nat) (cs : List Int) (i k : Nat) : Int := cs[i * n + k]?.getD 0
def cellR (n : Int) (cs : List Int) (i k : Int) : Int := if okT n cs = true ∧ (0 ≤ i ∧ i < n) ∧ (0 ≤ k ∧ k < n) then atT n.toNat cs i.toNat k.toNat else 0
def rowC (n : Nat) (es : List GE) (i : Nat) : List Int := (distZ (roundsE es (srcS i) n).1 n).map clampI
def closeOk (n : Nat) (es : List GE) : Bool := (List.range n).all fun i => decide ((roundsE es (srcS i) n).2 = -1)
def closeC (n : Nat) (es : List GE) : List Int := (List.range n).flatMap (rowC n es)
def closeR (n : Int) (es : List GE) : Int × List Int × Bool := if okG n es = true ∧ closeOk n.toNat es = true then (n, closeC n.toNat es, true) else (0, [], false)
def closedR (n : Int) (cs : List Int) : Bool := okT n cs && (List.range n.toNat).all fun i => (List.range n.toNat).all fun j => (List.range n.toNat).all fun k => decide (atT n.toNat cs i k ≤ addI (atT n.toNat cs i j) (atT n.toNat cs j k))
def tightOk (n : Int) (cs : List Int) (e : GE) : Bool := closedR n cs && decide (0 ≤ e.u ∧ e.u < n) && decide (0 ≤ e.v ∧ e.v < n) && decide (-1000000 < e.c ∧ e.c < 1000000) && !decide (addI e.c (atT n.toNat cs e.v.toNat e.u.toNat) < 0)
def tightAt (n : Nat) (cs : List Int) (e : GE) (i k : Nat) : Int :=
  if atT n cs i k ≤ addI (addI (atT n cs i e.u.toNat) e.c) (atT n cs e.v.toNat k) then atT n cs i k else addI (addI (atT n cs i e.u.toNat) e.c) (atT n cs e.v.toNat k)
def tightC (n : Nat) (cs : List Int) (e : GE) : List Int := (List.range n).flatMap fun i => (List.range n).map fun k => tightAt n cs e i k
def tightR (n : Int) (cs : List Int) (e : GE) : Int × List Int × Bool := if tightOk n cs e = true then (n, tightC n.toNat cs e, true) else (0, [], false)

theorem rowC_length (n : Nat) (es : List GE) (i : Nat) : (rowC n es i).length = n := by simp [rowC, distZ]
theorem flat_at {α : Type} {f : Nat → List α} {n : Nat} (hf : ∀ i, (f i).length = n) : ∀ m i k, i < m → k < n → ((List.range m).flatMap f)[i * n + k]? = (f i)[k]? := by
  intro m
  induction m with
  | zero => intro i k h; omega
  | succ m ih =>
    intro i k hi hk
    rw [List.range_succ, List.flatMap_append]
    have hl : ∀ m, ((List.range m).flatMap f).length = m * n := by
      intro m
      induction m with
      | zero => simp
      | succ m ih => rw [List.range_succ, List.flatMap_append, List.length_append, ih]; simp [hf]; rw [Nat.succ_mul]
    by_cases h : i < m
    · rw [List.getElem?_append_left (by rw [hl]; have h1 : (i + 1) * n ≤ m * n := Nat.mul_le_mul_right n h; rw [Nat.succ_mul] at h1; omega)]
      exact ih i k h hk
    · have : i = m := by omega
      subst this
      rw [List.getElem?_append_right (by rw [hl]; omega), hl, show i * n + k - i * n = k from by omega]
      simp
theorem flat_length {α : Type} {f : Nat → List α} {n : Nat} (hf : ∀ i, (f i).length = n) (m : Nat) : ((List.range m).flatMap f).length = m * n := by
  induction m with
  | zero => simp
  | succ m ih => rw [List.range_succ, List.flatMap_append, List.length_append, ih]; simp [hf]; rw [Nat.succ_mul]
theorem close_at (n : Nat) (es : List GE) {i k : Nat} (hi : i < n) (hk : k < n) : atT n (closeC n es) i k = clampI (distE (roundsE es (srcS i) n).1 k) := by
  unfold atT closeC
  rw [flat_at (rowC_length n es) n i k hi hk]
  simp [rowC, distZ, hk]
theorem close_length (n : Nat) (es : List GE) : (closeC n es).length = n * n := flat_length (rowC_length n es) n
theorem tight_at (n : Nat) (cs : List Int) (e : GE) {i k : Nat} (hi : i < n) (hk : k < n) : atT n (tightC n cs e) i k = tightAt n cs e i k := by
  have := flat_at (f := fun i => (List.range n).map fun k => tightAt n cs e i k) (n := n) (fun i => by simp) n i k hi hk
  unfold atT tightC
  rw [this]
  simp [hk]
theorem tight_length (n : Nat) (cs : List Int) (e : GE) : (tightC n cs e).length = n * n := flat_length (fun i => by simp) n
theorem okT_rng {n : Int} {cs : List Int} (h : okT n cs = true) : 0 ≤ n ∧ n ≤ 8 ∧ (cs.length : Int) = n * n := by
  unfold okT at h
  rw [Bool.and_eq_true] at h
  exact of_decide_eq_true h.1
theorem okT_cell {n : Int} {cs : List Int} (h : okT n cs = true) (i : Nat) : -1000000 ≤ cs[i]?.getD 0 ∧ cs[i]?.getD 0 ≤ 1000000 := by
  by_cases hi : i < cs.length
  · unfold okT at h
    rw [Bool.and_eq_true, List.all_eq_true] at h
    have := h.2 i (by simpa using hi)
    unfold cellT at this
    rw [Bool.and_eq_true] at this
    exact of_decide_eq_true this.1
  · rw [List.getElem?_eq_none (by omega)]; simp

end Go.Proofs.Ytdjaiijgdflopaa
