/-
  impl.IntervalOk: the lower bound beyond the infinite ones.
-/
import Derived.Test.YteppmlepbfjnpaaProg
import Derived.Test.YteppmlepbfjnpaaBdDig
import Derived.WalkKit
import Derived.WalkSpells
import Derived.WalkLawsBesides
import Derived.Deep.QuietTactic
import Derived.Deep.RegionWith
import Derived.Deep.RegionHeld3
import Derived.BigQuiet
import Derived.Lib.Hide
import Derived.Below
namespace Go.Proofs.Yteppmlepbfjnpaa
open Go.RowKit
set_option linter.unusedVariables false
set_option linter.unusedSimpArgs false

set_option maxRecDepth 100000 in
set_option maxHeartbeats 2000000 in
theorem impl_IntervalOk_e (l h : Int) (hl : ¬ l = clampI l) (w : World) :
    Calls Try.prog 52 #[ivV l h] w fun e w' => e = .returned (.bool (okI l h)) ∧ ∃ q, w' = (((w.alloc (.cells #[.int .i64 l, .int .i64 h] 29)).alloc (.cells #[.int .i64 l, .int .i64 h] 29)).alloc (.cells #[.int .i64 (clampI l), .int .i64 (clampI h)] 29)).drewN q := by
  obtain ⟨l2, hl2⟩ : ∃ x, x = clampI l := ⟨_, rfl⟩
  obtain ⟨h2, hh2⟩ : ∃ x, x = clampI h := ⟨_, rfl⟩
  rw [← hl2, ← hh2]
  have HC : Hid (∀ w : World, Calls Try.prog 84 #[ivV l h] w fun e w' => e = .returned (ivV l2 h2) ∧ w' = ((w.alloc (.cells #[.int .i64 l, .int .i64 h] 29)).alloc (.cells #[.int .i64 l2, .int .i64 h2] 29)).drew) := Lib.hid (fun w => by have := impl_clamped l h w; rw [← hl2, ← hh2] at this; exact this)
  have HO : Hid (l < -1000000 ∨ 1000000 < l) := Lib.hid (by unfold clampI at hl; (repeat' split at hl) <;> omega)
  have HN : Hid True := Lib.hid trivial
  rw [← hl2] at hl
  have h1 : (l == l2) = false := by simp [hl]
  clear hl2 hh2 hl
  unfold ivV at HC ⊢
  go_enter Try.func52, Try.ntmps52
  go_wp2
  first | (go_region_with (go_at_call 84; refine (HC.out _).mono ?_; rintro e w1 ⟨rfl, rfl⟩)) | fail
  all_goals (go_wp2; go_ret; exact ⟨bool_ans (by have ho := HO.out; have hn := HN.out; simp [okI]; omega), 2, rfl⟩)

end Go.Proofs.Yteppmlepbfjnpaa

