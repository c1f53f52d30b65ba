/-
  impl.IntervalOk: both bounds infinite, above.
-/
import Derived.Test.YteppmlepbfjnpaaProg
import Derived.Test.YteppmlepbfjnpaaBdDig
import Derived.WalkKit
import Derived.WalkSpells
import Derived.WalkLawsBesides
import Derived.Deep.QuietTactic
import Derived.Deep.RegionWith
import Derived.Deep.RegionHeld3
import Derived.BigQuiet
import Derived.Lib.Hide
import Derived.Below
namespace Go.Proofs.Yteppmlepbfjnpaa
open Go.RowKit
set_option linter.unusedVariables false
set_option linter.unusedSimpArgs false

set_option maxRecDepth 100000 in
set_option maxHeartbeats 2000000 in
theorem impl_IntervalOk_c  (w : World) :
    Calls Try.prog 52 #[ivV (1000000) (1000000)] w fun e w' => e = .returned (.bool (okI (1000000) (1000000))) ∧ ∃ q, w' = (((w.alloc (.cells #[.int .i64 (1000000), .int .i64 (1000000)] 29)).alloc (.cells #[.int .i64 (1000000), .int .i64 (1000000)] 29)).alloc (.cells #[.int .i64 (1000000), .int .i64 (1000000)] 29)).drewN q := by
  have HC : Hid (∀ w : World, Calls Try.prog 84 #[ivV (1000000) (1000000)] w fun e w' => e = .returned (ivV (1000000) (1000000)) ∧ w' = ((w.alloc (.cells #[.int .i64 (1000000), .int .i64 (1000000)] 29)).alloc (.cells #[.int .i64 (1000000), .int .i64 (1000000)] 29)).drew) := Lib.hid (fun w => impl_clamped (1000000) (1000000) w)
  unfold ivV at HC ⊢
  go_enter Try.func52, Try.ntmps52
  go_wp2
  first | (go_region_with (go_at_call 84; refine (HC.out _).mono ?_; rintro e w1 ⟨rfl, rfl⟩)) | fail
  all_goals (go_wp2; go_ret; exact ⟨bool_ans (by decide), 2, rfl⟩)

end Go.Proofs.Yteppmlepbfjnpaa

