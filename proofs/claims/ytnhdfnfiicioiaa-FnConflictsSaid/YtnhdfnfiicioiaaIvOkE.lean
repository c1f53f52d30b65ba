/-
  impl.IntervalOk: both bounds infinite, on one side.
-/
import Derived.Test.YtnhdfnfiicioiaaProg
import Derived.Test.YtnhdfnfiicioiaaBdDig
import Derived.WalkKit
import Derived.WalkSpells
import Derived.WalkLawsBesides
import Derived.Deep.QuietTactic
import Derived.Deep.RegionWith
import Derived.Deep.RegionHeld3
import Derived.BigQuiet
import Derived.Lib.Hide
import Derived.Below
namespace Go.Proofs.Ytnhdfnfiicioiaa
open Go.RowKit
set_option linter.unusedVariables false
set_option linter.unusedSimpArgs false

set_option maxRecDepth 100000 in
set_option maxHeartbeats 2000000 in
theorem impl_IntervalOk_d  (w : World) :
    Calls Try.prog 66 #[ivV (-1000000) (-1000000)] w fun e w' => e = .returned (.bool (okI (-1000000) (-1000000))) ∧ ∃ q, w' = (((w.alloc (.cells #[.int .i64 (-1000000), .int .i64 (-1000000)] 36)).alloc (.cells #[.int .i64 (-1000000), .int .i64 (-1000000)] 36)).alloc (.cells #[.int .i64 (-1000000), .int .i64 (-1000000)] 36)).drewN q := by
  have HC : Hid (∀ w : World, Calls Try.prog 100 #[ivV (-1000000) (-1000000)] w fun e w' => e = .returned (ivV (-1000000) (-1000000)) ∧ w' = ((w.alloc (.cells #[.int .i64 (-1000000), .int .i64 (-1000000)] 36)).alloc (.cells #[.int .i64 (-1000000), .int .i64 (-1000000)] 36)).drew) := Lib.hid (fun w => impl_clamped (-1000000) (-1000000) w)
  unfold ivV at HC ⊢
  go_enter Try.func66, Try.ntmps66
  go_wp2
  first | (go_region_with (go_at_call 100; refine (HC.out _).mono ?_; rintro e w1 ⟨rfl, rfl⟩)) | fail
  all_goals (go_wp2; go_ret; exact ⟨bool_ans (by decide), 2, rfl⟩)

end Go.Proofs.Ytnhdfnfiicioiaa

