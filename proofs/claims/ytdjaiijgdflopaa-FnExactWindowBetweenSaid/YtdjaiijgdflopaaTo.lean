/-
  WALKS of laws.toInterval and laws.eqInterval; an interval that comes in.
-/
import Derived.Test.YtdjaiijgdflopaaIvC
import Derived.ProofKit
import Derived.Lib.SmallJoins
namespace Go.Proofs.Ytdjaiijgdflopaa
open Go.RowKit Go.ChangeShapes Go.WideShapes Go.ChangeAt Go.WideMaps Go.WideElems
set_option linter.unusedVariables false
set_option linter.unusedSimpArgs false

set_option maxRecDepth 100000 in
set_option maxHeartbeats 1000000 in
theorem eqInterval_any (l h : Int) (w : World) :
    Calls Try.prog 44 #[ivV l h, ivV l h] w fun e w' => e = .returned (.bool true) ∧ Below w.heap.size w w' := by
  unfold ivV
  have h1 : ((l : Int) != l) = false := by simp
  have h2 : ((h : Int) != h) = false := by simp
  go_enter Try.func44, Try.ntmps44
  go_wp2
  go_ret
  exact ⟨rfl, (by repeat (first | exact Below.refl _ _ | refine below_step (by assumption) (by (try simp) <;> omega) ?_ | refine below_drewN ?_ _ | refine Below.drew ?_ | refine Below.setCell ?_ (by (try simp) <;> omega) _ | refine Below.alloc ?_ (by (try simp) <;> omega) _))⟩

end Go.Proofs.Ytdjaiijgdflopaa
