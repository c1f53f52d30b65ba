/-
  impl.orZero, spec.ReverseInterval.
-/
import Derived.Test.YtdjaiijgdflopaaProg
import Derived.Test.YtdjaiijgdflopaaIvA
import Derived.Test.YtdjaiijgdflopaaIvOk
import Derived.Test.YtdjaiijgdflopaaIvC
import Derived.WalkKit
import Derived.WalkSpells
import Derived.WalkLawsBesides
import Derived.Deep.QuietTactic
import Derived.Deep.RegionWith
import Derived.Deep.RegionHeld3
import Derived.BigQuiet
import Derived.Lib.Hide
import Derived.Below
namespace Go.Proofs.Ytdjaiijgdflopaa
open Go.RowKit
set_option linter.unusedVariables false
set_option linter.unusedSimpArgs false

set_option maxRecDepth 100000 in
set_option maxHeartbeats 1000000 in
theorem impl_orZero_true (l h : Int) (hkHO : okI l h = true) (w : World) :
    Calls Try.prog 85 #[ivV l h] w fun e w' => e = .returned (orZ (okI l h) l h) ∧ Below w.heap.size w w' := by
  rw [hkHO]
  have HO : Hid (∀ w : World, Calls Try.prog 64 #[ivV l h] w fun e w' => e = .returned (.bool true) ∧ ∃ q x y, w' = (((w.alloc (.cells #[.int .i64 l, .int .i64 h] 46)).alloc (.cells #[.int .i64 l, .int .i64 h] 46)).alloc (.cells #[.int .i64 x, .int .i64 y] 46)).drewN q) := Lib.hid fun w => by have := impl_IntervalOk l h w; rw [hkHO] at this; exact this
  clear hkHO
  unfold ivV at HO ⊢
  go_enter Try.func85, Try.ntmps85
  go_wp2_with (go_at_call_of 64 (Value.agg #[Value.int IntKind.i64 l, Value.int IntKind.i64 h]); refine (HO.out _).mono ?_; rintro e w1 ⟨rfl, q, x, y, rfl⟩)
  all_goals (go_wp2; refine bodyPost_ret (v := .agg #[.int .i64 l, .int .i64 h]) (by first | (simp [results, Try.results85, go_sem]; done) | simp [*, results, Try.results85, go_sem]) rfl ⟨rfl, (by repeat (first | exact Below.refl _ _ | refine Below.trans ?_ (Below.mono b1 (by (try simp) <;> omega)) | refine below_drewN ?_ _ | refine Below.drew ?_ | refine Below.setCell ?_ (by (try simp) <;> omega) _ | refine Below.alloc ?_ (by (try simp) <;> omega) _))⟩)

set_option maxRecDepth 100000 in
set_option maxHeartbeats 1000000 in
theorem impl_orZero_false (l h : Int) (hkHO : okI l h = false) (w : World) :
    Calls Try.prog 85 #[ivV l h] w fun e w' => e = .returned (orZ (okI l h) l h) ∧ Below w.heap.size w w' := by
  rw [hkHO]
  have HO : Hid (∀ w : World, Calls Try.prog 64 #[ivV l h] w fun e w' => e = .returned (.bool false) ∧ ∃ q x y, w' = (((w.alloc (.cells #[.int .i64 l, .int .i64 h] 46)).alloc (.cells #[.int .i64 l, .int .i64 h] 46)).alloc (.cells #[.int .i64 x, .int .i64 y] 46)).drewN q) := Lib.hid fun w => by have := impl_IntervalOk l h w; rw [hkHO] at this; exact this
  clear hkHO
  unfold ivV at HO ⊢
  go_enter Try.func85, Try.ntmps85
  go_wp2_with (go_at_call_of 64 (Value.agg #[Value.int IntKind.i64 l, Value.int IntKind.i64 h]); refine (HO.out _).mono ?_; rintro e w1 ⟨rfl, q, x, y, rfl⟩)
  all_goals (go_wp2; refine bodyPost_ret (v := .agg #[.int .i64 0, .int .i64 0]) (by first | (simp [results, Try.results85, go_sem]; done) | simp [*, results, Try.results85, go_sem]) rfl ⟨rfl, (by repeat (first | exact Below.refl _ _ | refine Below.trans ?_ (Below.mono b1 (by (try simp) <;> omega)) | refine below_drewN ?_ _ | refine Below.drew ?_ | refine Below.setCell ?_ (by (try simp) <;> omega) _ | refine Below.alloc ?_ (by (try simp) <;> omega) _))⟩)

theorem impl_orZero (l h : Int) (w : World) :
    Calls Try.prog 85 #[ivV l h] w fun e w' => e = .returned (orZ (okI l h) l h) ∧ Below w.heap.size w w' := by
  cases hk : okI l h with
  | true => have := impl_orZero_true l h hk w; rw [hk] at this; exact this
  | false => have := impl_orZero_false l h hk w; rw [hk] at this; exact this

end Go.Proofs.Ytdjaiijgdflopaa
