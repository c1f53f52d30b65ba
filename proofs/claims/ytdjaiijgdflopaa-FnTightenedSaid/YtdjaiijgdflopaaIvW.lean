/-
  WALKS of the functions over intervals and bounds: spec's and impl's.
-/
import Derived.Test.YtdjaiijgdflopaaProg
import Derived.Test.YtdjaiijgdflopaaIvA
import Derived.WalkKit
import Derived.WalkSpells
import Derived.WalkLawsBesides
import Derived.Deep.QuietTactic
import Derived.Deep.RegionWith
import Derived.Deep.RegionHeld3
import Derived.BigQuiet
import Derived.Lib.Hide
import Derived.Below
namespace Go.Proofs.Ytdjaiijgdflopaa
open Go.RowKit
set_option linter.unusedVariables false
set_option linter.unusedSimpArgs false

theorem bool_ans {a b : Bool} (h : a = true ↔ b = true) : Ending.returned (Value.bool a) = .returned (.bool b) := by rw [Bool.eq_iff_iff.2 h]
theorem int_ans {a b : Int} (h : a = b) : Ending.returned (Value.int .i64 a) = .returned (.int .i64 b) := by rw [h]
theorem iv_ans {a b c d : Int} (h : a = c) (k : b = d) : Ending.returned (Value.agg #[.int .i64 a, .int .i64 b]) = .returned (ivV c d) := by rw [h, k]; rfl
theorem below_one {w : World} (o : Obj) : Below w.heap.size w (w.alloc o) := (Below.refl _ w).alloc (Nat.le_refl _) o

set_option maxRecDepth 100000 in
set_option maxHeartbeats 400000 in
theorem spec_ClampBound (n : Int) (w : World) :
    Calls Try.prog 79 #[.int .i64 n] w fun e w' => e = .returned (.int .i64 (clampI n)) ∧ w = w' := by
  go_enter Try.func79, Try.ntmps79
  go_wp2
  all_goals (go_ret; exact ⟨int_ans (by unfold clampI; (repeat' split) <;> omega), rfl⟩)

set_option maxRecDepth 100000 in
set_option maxHeartbeats 400000 in
theorem impl_ClampBound (n : Int) (w : World) :
    Calls Try.prog 51 #[.int .i64 n] w fun e w' => e = .returned (.int .i64 (clampI n)) ∧ w = w' := by
  go_enter Try.func51, Try.ntmps51
  go_wp2
  all_goals (go_ret; exact ⟨int_ans (by unfold clampI; (repeat' split) <;> omega), rfl⟩)

set_option maxRecDepth 100000 in
set_option maxHeartbeats 400000 in
theorem spec_AddBounds (a b : Int) (w : World) :
    Calls Try.prog 83 #[.int .i64 a, .int .i64 b] w fun e w' => e = .returned (.int .i64 (addI a b)) ∧ w = w' := by
  go_enter Try.func83, Try.ntmps83
  go_wp2_with (go_at_call 79; refine (spec_ClampBound _ _).mono ?_; rintro e w1 ⟨rfl, rfl⟩)
  all_goals (go_ret; exact ⟨int_ans (by unfold addI; (repeat' split) <;> first | rfl | omega), rfl⟩)

set_option maxRecDepth 100000 in
set_option maxHeartbeats 400000 in
theorem impl_AddBounds (a b : Int) (w : World) :
    Calls Try.prog 69 #[.int .i64 a, .int .i64 b] w fun e w' => e = .returned (.int .i64 (addI a b)) ∧ w = w' := by
  go_enter Try.func69, Try.ntmps69
  go_wp2_with (go_at_call 51; refine (impl_ClampBound _ _).mono ?_; rintro e w1 ⟨rfl, rfl⟩)
  all_goals (go_ret; exact ⟨int_ans (by unfold addI; (repeat' split) <;> first | rfl | omega), rfl⟩)

set_option maxRecDepth 100000 in
set_option maxHeartbeats 400000 in
theorem spec_IntervalOk (l h : Int) (w : World) :
    Calls Try.prog 84 #[ivV l h] w fun e w' => e = .returned (.bool (okI l h)) ∧ w' = w.alloc (.cells #[.int .i64 l, .int .i64 h] 46) := by
  unfold ivV
  go_enter Try.func84, Try.ntmps84
  by_cases hl : l = 1000000
  · subst hl
    go_wp2
    all_goals (go_ret; exact ⟨bool_ans (by simp [okI]), rfl⟩)
  · go_wp2
    all_goals (go_ret; exact ⟨bool_ans (by simp [okI]; omega), rfl⟩)

set_option maxRecDepth 100000 in
set_option maxHeartbeats 400000 in
theorem impl_clamped (l h : Int) (w : World) :
    Calls Try.prog 92 #[ivV l h] w fun e w' => e = .returned (ivV (clampI l) (clampI h)) ∧ w' = ((w.alloc (.cells #[.int .i64 l, .int .i64 h] 46)).alloc (.cells #[.int .i64 (clampI l), .int .i64 (clampI h)] 46)).drew := by
  unfold ivV
  go_enter Try.func92, Try.ntmps92
  go_wp2
  go_region_held3 (fun w' => w'.cell? ⟨w.heap.size, 0, none⟩ = some (.int .i64 l) ∧ w'.cell? ⟨w.heap.size, 1, none⟩ = some (.int .i64 h)) (go_keep) (first | (go_at_call 51; refine (impl_ClampBound _ _).mono ?_; rintro e w1 ⟨rfl, rfl⟩))
  all_goals (go_wp2; refine bodyPost_ret (v := .agg #[.int .i64 (clampI l), .int .i64 (clampI h)]) (by simp [results, Try.results92, go_sem]) rfl ⟨rfl, rfl⟩)

end Go.Proofs.Ytdjaiijgdflopaa
