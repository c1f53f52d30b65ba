/-
  WALKS of spec.IsNegativeCycle, isClosedWalk and impl.IsNegativeCycle.
-/
import Derived.Test.YtdjaiijgdflopaaGrW
import Derived.Deep.RegionHeld3
import Derived.Deep.RegionWith
namespace Go.Proofs.Ytdjaiijgdflopaa
open Go.RowKit
set_option linter.unusedVariables false
set_option linter.unusedSimpArgs false

def inE (es : List GE) (z : Int) : Bool := decide (0 ≤ z ∧ z < es.length)
def edE (es : List GE) (z : Int) : GE := (es[z.toNat]?).getD ⟨0, 0, 0⟩
def linkE (es : List GE) (zs : List Int) (j : Nat) : Bool :=
  match zs[j]?, zs[(j + zs.length - 1) % zs.length]? with
  | some z, some b => inE es z && inE es b && decide ((edE es b).v = (edE es z).u)
  | _, _ => false
def closedTo (es : List GE) (zs : List Int) : Nat → Bool
  | 0 => true
  | j + 1 => closedTo es zs j && linkE es zs j
theorem closedTo_not (es : List GE) (zs : List Int) {j : Nat} (h : linkE es zs j = false) : ∀ m, j < m → closedTo es zs m = false := by
  intro m hm
  induction m with
  | zero => omega
  | succ m ih =>
    unfold closedTo
    by_cases he : j = m
    · subst he; rw [h, Bool.and_false]
    · rw [ih (by omega), Bool.false_and]
theorem closedTo_next (es : List GE) (zs : List Int) {j : Nat} (h : linkE es zs j = true) (hj : closedTo es zs j = true) : closedTo es zs (j + 1) = true := by
  unfold closedTo; rw [h, hj]; rfl
def negC (n : Int) (es : List GE) (zs : List Int) : Bool := okG n es && decide (0 < zs.length) && closedTo es zs zs.length && decide (sumTo es zs zs.length < 0)

theorem link_eq (es : List GE) (zs : List Int) {j m : Nat} {z b : Int} (hm : zs.length = m) (hz : zs[j]? = some z) (hb : zs[(j + m - 1) % m]? = some b) :
    linkE es zs j = (inE es z && inE es b && decide ((edE es b).v = (edE es z).u)) := by
  subst hm
  unfold linkE; rw [hz, hb]
theorem edE_at (es : List GE) {q : Nat} {x : GE} (h : es[q]? = some x) : edE es (q : Int) = x := by simp [edE, h]

end Go.Proofs.Ytdjaiijgdflopaa
