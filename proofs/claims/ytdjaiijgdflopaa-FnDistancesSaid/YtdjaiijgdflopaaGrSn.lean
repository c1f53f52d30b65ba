/-
  WALK of spec.NegativeCycle.
-/
import Derived.Test.YtdjaiijgdflopaaGrCy
import Derived.Deep.Cut
namespace Go.Proofs.Ytdjaiijgdflopaa
open Go.RowKit
set_option linter.unusedVariables false
set_option linter.unusedSimpArgs false

def mixV (a b : Value) (i : Nat) : Nat → Value := fun t => if t < i then a else b
theorem mixV_zero (a b : Value) : mixV a b 0 = fun _ => b := by funext t; simp [mixV]
theorem mixV_set (a b : Value) (i : Nat) : upf (mixV a b i) i a = mixV a b (i + 1) := by
  funext t; unfold upf mixV
  by_cases e : t = i
  · subst e; rw [if_pos rfl, if_pos (by omega)]
  · rw [if_neg e]
    by_cases l : t < i
    · rw [if_pos l, if_pos (by omega)]
    · rw [if_neg l, if_neg (by omega)]

/-- An empty slice literal is the call's own. -/
theorem owns_zero (w : World) (t : TypeId) : (w.alloc (.cells #[] t)).ownsRow w.heap.size t 1 (.slice (some ⟨w.heap.size, 0, none⟩) 0 0) 0 [] :=
  ⟨rfl, .inr ⟨w.heap.size, 0, #[], rfl, Nat.le_refl _, World.alloc_heap_new w _, Nat.le_refl _, Nat.zero_le _, rfl, rfl⟩⟩

end Go.Proofs.Ytdjaiijgdflopaa
