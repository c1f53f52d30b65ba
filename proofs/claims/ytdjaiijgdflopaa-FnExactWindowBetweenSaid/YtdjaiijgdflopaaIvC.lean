/-
  Contains.
-/
import Derived.Test.YtdjaiijgdflopaaProg
import Derived.Test.YtdjaiijgdflopaaIvA
import Derived.Test.YtdjaiijgdflopaaIvOk
import Derived.WalkKit
import Derived.WalkSpells
import Derived.WalkLawsBesides
import Derived.Deep.QuietTactic
import Derived.Deep.RegionWith
import Derived.Deep.RegionHeld3
import Derived.BigQuiet
import Derived.Lib.Hide
import Derived.Below
namespace Go.Proofs.Ytdjaiijgdflopaa
open Go.RowKit
set_option linter.unusedVariables false
set_option linter.unusedSimpArgs false

set_option maxRecDepth 100000 in
set_option maxHeartbeats 400000 in
theorem impl_reachesDown (l h n : Int) (w : World) :
    Calls Try.prog 65 #[ivV l h, .int .i64 n] w fun e w' => e = .returned (.bool (decide (l = -1000000 ∨ l ≤ n))) ∧ ∃ a b, w' = w.alloc (.cells #[.int .i64 a, .int .i64 b] 46) := by
  unfold ivV
  go_enter Try.func65, Try.ntmps65
  go_wp2
  all_goals (go_ret; exact ⟨bool_ans (by (try simp) <;> omega), _, _, rfl⟩)

set_option maxRecDepth 100000 in
set_option maxHeartbeats 400000 in
theorem impl_reachesUp (l h n : Int) (w : World) :
    Calls Try.prog 66 #[ivV l h, .int .i64 n] w fun e w' => e = .returned (.bool (decide (h = 1000000 ∨ n ≤ h))) ∧ ∃ a b, w' = w.alloc (.cells #[.int .i64 a, .int .i64 b] 46) := by
  unfold ivV
  go_enter Try.func66, Try.ntmps66
  go_wp2
  all_goals (go_ret; exact ⟨bool_ans (by (try simp) <;> omega), _, _, rfl⟩)

set_option maxRecDepth 100000 in
set_option maxHeartbeats 400000 in
theorem impl_Contains (l h n : Int) (w : World) :
    Calls Try.prog 24 #[ivV l h, .int .i64 n] w fun e w' => e = .returned (.bool (inI l h n)) ∧ Below w.heap.size w w' := by
  have HO := Lib.hid (impl_IntervalOk l h)
  have HD := Lib.hid (impl_reachesDown l h n)
  have HU := Lib.hid (impl_reachesUp l h n)
  unfold ivV at HO HD HU ⊢
  go_enter Try.func24, Try.ntmps24
  go_wp2_with (first | (go_at_call 64; refine (HO.out _).mono ?_; rintro e w1 ⟨rfl, q, a, b, rfl⟩) | (go_at_call 65; refine (HD.out _).mono ?_; rintro e w1 ⟨rfl, a, b, rfl⟩) | (go_at_call 66; refine (HU.out _).mono ?_; rintro e w1 ⟨rfl, a, b, rfl⟩))
  all_goals (go_ret; exact ⟨bool_ans (by (try simp [inI, *]) <;> omega), (by repeat (first | exact Below.refl _ _ | refine below_drewN ?_ _ | refine Below.drew ?_ | refine Below.alloc ?_ (by (try simp) <;> omega) _))⟩)

theorem below_step {w a b : World} (h : Below a.heap.size a b) (hs : w.heap.size ≤ a.heap.size) (h0 : Below w.heap.size w a) : Below w.heap.size w b := h0.trans (h.mono hs)

theorem impl_IntervalOk_below (l h : Int) (w : World) :
    Calls Try.prog 64 #[ivV l h] w fun e w' => e = .returned (.bool (okI l h)) ∧ Below w.heap.size w w' :=
  (impl_IntervalOk l h w).mono fun e w1 ⟨h1, q, x, y, h2⟩ => ⟨h1, by rw [h2]; exact below_drewN ((below_one _).alloc (by simp) _ |>.alloc (by (try simp) <;> omega) _) q⟩

end Go.Proofs.Ytdjaiijgdflopaa
