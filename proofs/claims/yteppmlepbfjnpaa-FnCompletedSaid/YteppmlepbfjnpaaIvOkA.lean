/-
  impl.IntervalOk: an interval that is one.
-/
import Derived.Test.YteppmlepbfjnpaaProg
import Derived.Test.YteppmlepbfjnpaaBdDig
import Derived.WalkKit
import Derived.WalkSpells
import Derived.WalkLawsBesides
import Derived.Deep.QuietTactic
import Derived.Deep.RegionWith
import Derived.Deep.RegionHeld3
import Derived.BigQuiet
import Derived.Lib.Hide
import Derived.Below
namespace Go.Proofs.Yteppmlepbfjnpaa
open Go.RowKit
set_option linter.unusedVariables false
set_option linter.unusedSimpArgs false

set_option maxRecDepth 100000 in
set_option maxHeartbeats 2000000 in
theorem impl_IntervalOk_a (l h : Int) (hl : l = clampI l) (hh : h = clampI h) (h1 : l ≤ h) (h2 : l ≠ 1000000) (h3 : h ≠ -1000000) (w : World) :
    Calls Try.prog 52 #[ivV l h] w fun e w' => e = .returned (.bool (okI l h)) ∧ ∃ q, w' = (((w.alloc (.cells #[.int .i64 l, .int .i64 h] 29)).alloc (.cells #[.int .i64 l, .int .i64 h] 29)).alloc (.cells #[.int .i64 l, .int .i64 h] 29)).drewN q := by
  have HC : Hid (∀ w : World, Calls Try.prog 84 #[ivV l h] w fun e w' => e = .returned (ivV l h) ∧ w' = ((w.alloc (.cells #[.int .i64 l, .int .i64 h] 29)).alloc (.cells #[.int .i64 l, .int .i64 h] 29)).drew) := Lib.hid (fun w => by have := impl_clamped l h w; rw [← hl, ← hh] at this; exact this)
  have HN : Hid (-1000000 ≤ l ∧ l ≤ 1000000 ∧ -1000000 ≤ h ∧ h ≤ 1000000) := Lib.hid (by have := clampI_rng l; have := clampI_rng h; omega)
  have h2' : (l != 1000000) = true := by simp [h2]
  have h3' : (h != -1000000) = true := by simp [h3]
  have HO : Hid (l ≤ h ∧ l ≠ 1000000 ∧ h ≠ -1000000) := Lib.hid ⟨h1, h2, h3⟩
  clear hl hh h2 h3
  unfold ivV at HC ⊢
  go_enter Try.func52, Try.ntmps52
  go_wp2
  first | (go_region_with (go_at_call 84; refine (HC.out _).mono ?_; rintro e w1 ⟨rfl, rfl⟩)) | fail
  all_goals (go_wp2; go_ret; exact ⟨bool_ans (by have ho := HO.out; have hn := HN.out; simp [okI]; omega), 2, rfl⟩)

end Go.Proofs.Yteppmlepbfjnpaa

