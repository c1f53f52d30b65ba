/-
  impl.Contains(Interval{High: 1}, 1) is true, in every world.
-/
import Derived.Test.YtdjaiijgdflopaaIvOkA
namespace Go.Proofs.Ytdjaiijgdflopaa
open Go.RowKit
set_option linter.unusedVariables false
set_option linter.unusedSimpArgs false

set_option maxRecDepth 100000 in
set_option maxHeartbeats 400000 in
theorem reachesDown_one (w : World) :
    Calls Try.prog 65 #[.agg #[.int .i64 0, .int .i64 1], .int .i64 1] w fun e w' => e = .returned (.bool true) ∧ ∃ a b, w' = w.alloc (.cells #[.int .i64 a, .int .i64 b] 46) := by
  go_enter Try.func65, Try.ntmps65
  go_wp2
  all_goals (go_ret; exact ⟨rfl, _, _, rfl⟩)

set_option maxRecDepth 100000 in
set_option maxHeartbeats 400000 in
theorem reachesUp_one (w : World) :
    Calls Try.prog 66 #[.agg #[.int .i64 0, .int .i64 1], .int .i64 1] w fun e w' => e = .returned (.bool true) ∧ ∃ a b, w' = w.alloc (.cells #[.int .i64 a, .int .i64 b] 46) := by
  go_enter Try.func66, Try.ntmps66
  go_wp2
  all_goals (go_ret; exact ⟨rfl, _, _, rfl⟩)

set_option maxRecDepth 100000 in
set_option maxHeartbeats 400000 in
theorem Contains_one (w : World) :
    Calls Try.prog 24 #[.agg #[.int .i64 0, .int .i64 1], .int .i64 1] w fun e w' => e = .returned (.bool true) ∧ Below w.heap.size w w' := by
  have ho := fun w => impl_IntervalOk_a 0 1 (by decide) (by decide) (by decide) (by decide) (by decide) w
  rw [show okI 0 1 = true from by decide] at ho
  have HO := Lib.hid ho
  clear ho
  unfold ivV at HO
  go_enter Try.func24, Try.ntmps24
  go_wp2_with (first | (go_at_call 64; refine (HO.out _).mono ?_; rintro e w1 ⟨rfl, q, rfl⟩) | (go_at_call 65; refine (reachesDown_one _).mono ?_; rintro e w1 ⟨rfl, a, b, rfl⟩) | (go_at_call 66; refine (reachesUp_one _).mono ?_; rintro e w1 ⟨rfl, a, b, rfl⟩))
  all_goals (go_ret; exact ⟨rfl, (by repeat (first | exact Below.refl _ _ | refine below_drewN ?_ _ | refine Below.drew ?_ | refine Below.alloc ?_ (by (try simp) <;> omega) _))⟩)

end Go.Proofs.Ytdjaiijgdflopaa
