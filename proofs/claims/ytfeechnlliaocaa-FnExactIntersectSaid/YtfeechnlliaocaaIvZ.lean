/-
  impl.orZero, spec.ReverseInterval.
-/
import Derived.Test.YtfeechnlliaocaaProg
import Derived.Test.YtfeechnlliaocaaIvA
import Derived.Test.YtfeechnlliaocaaIvOk
import Derived.Test.YtfeechnlliaocaaIvC
import Derived.WalkKit
import Derived.WalkSpells
import Derived.WalkLawsBesides
import Derived.Deep.QuietTactic
import Derived.Deep.RegionWith
import Derived.Deep.RegionHeld3
import Derived.BigQuiet
import Derived.Lib.Hide
import Derived.Below
namespace Go.Proofs.Ytfeechnlliaocaa
open Go.RowKit
set_option linter.unusedVariables false
set_option linter.unusedSimpArgs false

set_option maxRecDepth 100000 in
set_option maxHeartbeats 1000000 in
theorem impl_orZero_true (l h : Int) (hkHO : okI l h = true) (w : World) :
    Calls Try.prog 33 #[ivV l h] w fun e w' => e = .returned (orZ (okI l h) l h) ∧ Below w.heap.size w w' := by
  rw [hkHO]
  have HO : Hid (∀ w : World, Calls Try.prog 13 #[ivV l h] w fun e w' => e = .returned (.bool true) ∧ ∃ q x y, w' = (((w.alloc (.cells #[.int .i64 l, .int .i64 h] 25)).alloc (.cells #[.int .i64 l, .int .i64 h] 25)).alloc (.cells #[.int .i64 x, .int .i64 y] 25)).drewN q) := Lib.hid fun w => by have := impl_IntervalOk l h w; rw [hkHO] at this; exact this
  clear hkHO
  unfold ivV at HO ⊢
  go_enter Try.func33, Try.ntmps33
  go_wp2_with (go_at_call_of 13 (Value.agg #[Value.int IntKind.i64 l, Value.int IntKind.i64 h]); refine (HO.out _).mono ?_; rintro e w1 ⟨rfl, q, x, y, rfl⟩)
  all_goals (go_wp2; refine bodyPost_ret (v := .agg #[.int .i64 l, .int .i64 h]) (by first | (simp [results, Try.results33, go_sem]; done) | simp [*, results, Try.results33, go_sem]) rfl ⟨rfl, (by repeat (first | exact Below.refl _ _ | refine Below.trans ?_ (Below.mono b1 (by (try simp) <;> omega)) | refine below_drewN ?_ _ | refine Below.drew ?_ | refine Below.setCell ?_ (by (try simp) <;> omega) _ | refine Below.alloc ?_ (by (try simp) <;> omega) _))⟩)

set_option maxRecDepth 100000 in
set_option maxHeartbeats 1000000 in
theorem impl_orZero_false (l h : Int) (hkHO : okI l h = false) (w : World) :
    Calls Try.prog 33 #[ivV l h] w fun e w' => e = .returned (orZ (okI l h) l h) ∧ Below w.heap.size w w' := by
  rw [hkHO]
  have HO : Hid (∀ w : World, Calls Try.prog 13 #[ivV l h] w fun e w' => e = .returned (.bool false) ∧ ∃ q x y, w' = (((w.alloc (.cells #[.int .i64 l, .int .i64 h] 25)).alloc (.cells #[.int .i64 l, .int .i64 h] 25)).alloc (.cells #[.int .i64 x, .int .i64 y] 25)).drewN q) := Lib.hid fun w => by have := impl_IntervalOk l h w; rw [hkHO] at this; exact this
  clear hkHO
  unfold ivV at HO ⊢
  go_enter Try.func33, Try.ntmps33
  go_wp2_with (go_at_call_of 13 (Value.agg #[Value.int IntKind.i64 l, Value.int IntKind.i64 h]); refine (HO.out _).mono ?_; rintro e w1 ⟨rfl, q, x, y, rfl⟩)
  all_goals (go_wp2; refine bodyPost_ret (v := .agg #[.int .i64 0, .int .i64 0]) (by first | (simp [results, Try.results33, go_sem]; done) | simp [*, results, Try.results33, go_sem]) rfl ⟨rfl, (by repeat (first | exact Below.refl _ _ | refine Below.trans ?_ (Below.mono b1 (by (try simp) <;> omega)) | refine below_drewN ?_ _ | refine Below.drew ?_ | refine Below.setCell ?_ (by (try simp) <;> omega) _ | refine Below.alloc ?_ (by (try simp) <;> omega) _))⟩)

theorem impl_orZero (l h : Int) (w : World) :
    Calls Try.prog 33 #[ivV l h] w fun e w' => e = .returned (orZ (okI l h) l h) ∧ Below w.heap.size w w' := by
  cases hk : okI l h with
  | true => have := impl_orZero_true l h hk w; rw [hk] at this; exact this
  | false => have := impl_orZero_false l h hk w; rw [hk] at this; exact this

set_option maxRecDepth 100000 in
set_option maxHeartbeats 1000000 in
theorem spec_Reverse_true (l h : Int) (hkHO : okI l h = true) (w : World) :
    Calls Try.prog 23 #[ivV l h] w fun e w' => e = .returned (orZ (okI l h) (-h) (-l)) ∧ Below w.heap.size w w' := by
  rw [hkHO]
  have HO : Hid (∀ w : World, Calls Try.prog 11 #[ivV l h] w fun e w' => e = .returned (.bool true) ∧ w' = w.alloc (.cells #[.int .i64 l, .int .i64 h] 25)) := Lib.hid fun w => by have := spec_IntervalOk l h w; rw [hkHO] at this; exact this
  have hb := okI_of hkHO
  have e1 : wrap64 (-h) = -h := IntWalk.wrap64_in _ (by omega)
  have e2 : wrap64 (-l) = -l := IntWalk.wrap64_in _ (by omega)
  clear hb
  clear hkHO
  unfold ivV at HO ⊢
  go_enter Try.func23, Try.ntmps23
  go_wp2_with (go_at_call_of 11 (Value.agg #[Value.int IntKind.i64 l, Value.int IntKind.i64 h]); refine (HO.out _).mono ?_; rintro e w1 ⟨rfl, rfl⟩)
  all_goals (go_wp2; refine bodyPost_ret (v := .agg #[.int .i64 (-h), .int .i64 (-l)]) (by first | (simp [results, Try.results23, go_sem]; done) | simp [*, results, Try.results23, go_sem]) rfl ⟨rfl, (by repeat (first | exact Below.refl _ _ | refine Below.trans ?_ (Below.mono b1 (by (try simp) <;> omega)) | refine below_drewN ?_ _ | refine Below.drew ?_ | refine Below.setCell ?_ (by (try simp) <;> omega) _ | refine Below.alloc ?_ (by (try simp) <;> omega) _))⟩)

set_option maxRecDepth 100000 in
set_option maxHeartbeats 1000000 in
theorem spec_Reverse_false (l h : Int) (hkHO : okI l h = false) (w : World) :
    Calls Try.prog 23 #[ivV l h] w fun e w' => e = .returned (orZ (okI l h) (-h) (-l)) ∧ Below w.heap.size w w' := by
  rw [hkHO]
  have HO : Hid (∀ w : World, Calls Try.prog 11 #[ivV l h] w fun e w' => e = .returned (.bool false) ∧ w' = w.alloc (.cells #[.int .i64 l, .int .i64 h] 25)) := Lib.hid fun w => by have := spec_IntervalOk l h w; rw [hkHO] at this; exact this
  clear hkHO
  unfold ivV at HO ⊢
  go_enter Try.func23, Try.ntmps23
  go_wp2_with (go_at_call_of 11 (Value.agg #[Value.int IntKind.i64 l, Value.int IntKind.i64 h]); refine (HO.out _).mono ?_; rintro e w1 ⟨rfl, rfl⟩)
  all_goals (go_wp2; refine bodyPost_ret (v := .agg #[.int .i64 0, .int .i64 0]) (by first | (simp [results, Try.results23, go_sem]; done) | simp [*, results, Try.results23, go_sem]) rfl ⟨rfl, (by repeat (first | exact Below.refl _ _ | refine Below.trans ?_ (Below.mono b1 (by (try simp) <;> omega)) | refine below_drewN ?_ _ | refine Below.drew ?_ | refine Below.setCell ?_ (by (try simp) <;> omega) _ | refine Below.alloc ?_ (by (try simp) <;> omega) _))⟩)

theorem spec_ReverseInterval (l h : Int) (w : World) :
    Calls Try.prog 23 #[ivV l h] w fun e w' => e = .returned (orZ (okI l h) (-h) (-l)) ∧ Below w.heap.size w w' := by
  cases hk : okI l h with
  | true => have := spec_Reverse_true l h hk w; rw [hk] at this; exact this
  | false => have := spec_Reverse_false l h hk w; rw [hk] at this; exact this

end Go.Proofs.Ytfeechnlliaocaa
