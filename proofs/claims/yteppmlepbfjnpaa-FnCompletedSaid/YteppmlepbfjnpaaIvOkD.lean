/-
  impl.IntervalOk: a bound beyond the infinite ones.
-/
import Derived.Test.YteppmlepbfjnpaaProg
import Derived.Test.YteppmlepbfjnpaaBdDig
import Derived.WalkKit
import Derived.WalkSpells
import Derived.WalkLawsBesides
import Derived.Deep.QuietTactic
import Derived.Deep.RegionWith
import Derived.Deep.RegionHeld3
import Derived.BigQuiet
import Derived.Lib.Hide
import Derived.Below
namespace Go.Proofs.Yteppmlepbfjnpaa
open Go.RowKit
set_option linter.unusedVariables false
set_option linter.unusedSimpArgs false

set_option maxRecDepth 100000 in
set_option maxHeartbeats 2000000 in
theorem impl_IntervalOk_f (l h : Int) (hl : l = clampI l) (hh : ¬ h = clampI h) (w : World) :
    Calls Try.prog 52 #[ivV l h] w fun e w' => e = .returned (.bool (okI l h)) ∧ ∃ q, w' = (((w.alloc (.cells #[.int .i64 l, .int .i64 h] 29)).alloc (.cells #[.int .i64 l, .int .i64 h] 29)).alloc (.cells #[.int .i64 l, .int .i64 (clampI h)] 29)).drewN q := by
  obtain ⟨h2, hh2⟩ : ∃ x, x = clampI h := ⟨_, rfl⟩
  rw [← hh2]
  have HC : Hid (∀ w : World, Calls Try.prog 84 #[ivV l h] w fun e w' => e = .returned (ivV l h2) ∧ w' = ((w.alloc (.cells #[.int .i64 l, .int .i64 h] 29)).alloc (.cells #[.int .i64 l, .int .i64 h2] 29)).drew) := Lib.hid (fun w => by have := impl_clamped l h w; rw [← hl, ← hh2] at this; exact this)
  have HO : Hid (h < -1000000 ∨ 1000000 < h) := Lib.hid (by unfold clampI at hh; (repeat' split at hh) <;> omega)
  have HN : Hid True := Lib.hid trivial
  rw [← hh2] at hh
  have h1 : (h == h2) = false := by simp [hh]
  clear hl hh2 hh
  unfold ivV at HC ⊢
  go_enter Try.func52, Try.ntmps52
  go_wp2
  first | (go_region_with (go_at_call 84; refine (HC.out _).mono ?_; rintro e w1 ⟨rfl, rfl⟩)) | fail
  all_goals (go_wp2; go_ret; exact ⟨bool_ans (by have ho := HO.out; have hn := HN.out; simp [okI]; omega), 2, rfl⟩)

end Go.Proofs.Yteppmlepbfjnpaa

