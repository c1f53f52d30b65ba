/-
  spec.Intersect.
-/
import Derived.Test.YtfeechnlliaocaaProg
import Derived.Test.YtfeechnlliaocaaIvA
import Derived.Test.YtfeechnlliaocaaIvOk
import Derived.Test.YtfeechnlliaocaaIvC
import Derived.WalkKit
import Derived.WalkSpells
import Derived.WalkLawsBesides
import Derived.Deep.QuietTactic
import Derived.Deep.RegionWith
import Derived.Deep.RegionHeld3
import Derived.BigQuiet
import Derived.Lib.Hide
import Derived.Below
namespace Go.Proofs.Ytfeechnlliaocaa
open Go.RowKit
set_option linter.unusedVariables false
set_option linter.unusedSimpArgs false

set_option maxRecDepth 100000 in
set_option maxHeartbeats 2000000 in
theorem spec_Intersect_a0 (a b c d : Int) (hkHA : okI a b = false) (hx : a < c) (hy : b ≤ d) (w : World) :
    Calls Try.prog 25 #[ivV a b, ivV c d] w fun e w' => e = .returned (.tuple #[orZ (okI a b && okI c d && decide (max a c ≤ min b d)) (max a c) (min b d), .bool (okI a b && okI c d && decide (max a c ≤ min b d))]) ∧ Below w.heap.size w w' := by
  rw [show max a c = c from by omega, show min b d = b from by omega, hkHA]
  have HA : Hid (∀ w : World, Calls Try.prog 11 #[ivV a b] w fun e w' => e = .returned (.bool false) ∧ w' = w.alloc (.cells #[.int .i64 a, .int .i64 b] 25)) := Lib.hid fun w => by have := spec_IntervalOk a b w; rw [hkHA] at this; exact this
  clear hkHA
  unfold ivV at HA ⊢
  go_enter Try.func25, Try.ntmps25
  go_wp2_with (first | (go_at_call_of 11 (Value.agg #[Value.int IntKind.i64 a, Value.int IntKind.i64 b]); refine (HA.out _).mono ?_; rintro e w1 ⟨rfl, rfl⟩))
  try go_region_held3 (fun w' => w'.cell? ⟨w.heap.size, 0, none⟩ = some (.int .i64 a) ∧ w'.cell? ⟨w.heap.size, 1, none⟩ = some (.int .i64 b) ∧ w'.cell? ⟨w.heap.size + 1, 0, none⟩ = some (.int .i64 c) ∧ w'.cell? ⟨w.heap.size + 1, 1, none⟩ = some (.int .i64 d)) (first | go_keep | (dsimp only; refine ⟨?_, ?_, ?_, ?_⟩ <;> first | go_keep | go_simp)) (fail)
  all_goals (go_wp2_with (first | (go_at_call_of 11 (Value.agg #[Value.int IntKind.i64 a, Value.int IntKind.i64 b]); refine (HA.out _).mono ?_; rintro e w1 ⟨rfl, rfl⟩)))
  all_goals (go_wp2; refine bodyPost_ret (v := .tuple #[.agg #[.int .i64 0, .int .i64 0], .bool false]) (by first | (simp [results, Try.results25, go_sem]; done) | simp [*, results, Try.results25, go_sem]) rfl ⟨rfl, (by repeat (first | exact Below.refl _ _ | refine below_step (by assumption) (by (try simp) <;> omega) ?_ | refine Below.trans ?_ (Below.mono b1 (by (try simp) <;> omega)) | refine below_drewN ?_ _ | refine Below.drew ?_ | refine Below.setCell ?_ (by (try simp) <;> omega) _ | refine Below.alloc ?_ (by (try simp) <;> omega) _))⟩)

set_option maxRecDepth 100000 in
set_option maxHeartbeats 2000000 in
theorem spec_Intersect_b0 (a b c d : Int) (hkHA : okI a b = true) (hkHB : okI c d = false) (hx : a < c) (hy : b ≤ d) (w : World) :
    Calls Try.prog 25 #[ivV a b, ivV c d] w fun e w' => e = .returned (.tuple #[orZ (okI a b && okI c d && decide (max a c ≤ min b d)) (max a c) (min b d), .bool (okI a b && okI c d && decide (max a c ≤ min b d))]) ∧ Below w.heap.size w w' := by
  rw [show max a c = c from by omega, show min b d = b from by omega, hkHA, hkHB]
  have HA : Hid (∀ w : World, Calls Try.prog 11 #[ivV a b] w fun e w' => e = .returned (.bool true) ∧ w' = w.alloc (.cells #[.int .i64 a, .int .i64 b] 25)) := Lib.hid fun w => by have := spec_IntervalOk a b w; rw [hkHA] at this; exact this
  have HB : Hid (∀ w : World, Calls Try.prog 11 #[ivV c d] w fun e w' => e = .returned (.bool false) ∧ w' = w.alloc (.cells #[.int .i64 c, .int .i64 d] 25)) := Lib.hid fun w => by have := spec_IntervalOk c d w; rw [hkHB] at this; exact this
  clear hkHA hkHB
  unfold ivV at HA HB ⊢
  go_enter Try.func25, Try.ntmps25
  go_wp2_with (first | (go_at_call_of 11 (Value.agg #[Value.int IntKind.i64 a, Value.int IntKind.i64 b]); refine (HA.out _).mono ?_; rintro e w1 ⟨rfl, rfl⟩) | (go_at_call_of 11 (Value.agg #[Value.int IntKind.i64 c, Value.int IntKind.i64 d]); refine (HB.out _).mono ?_; rintro e w1 ⟨rfl, rfl⟩))
  try go_region_held3 (fun w' => w'.cell? ⟨w.heap.size, 0, none⟩ = some (.int .i64 a) ∧ w'.cell? ⟨w.heap.size, 1, none⟩ = some (.int .i64 b) ∧ w'.cell? ⟨w.heap.size + 1, 0, none⟩ = some (.int .i64 c) ∧ w'.cell? ⟨w.heap.size + 1, 1, none⟩ = some (.int .i64 d)) (first | go_keep | (dsimp only; refine ⟨?_, ?_, ?_, ?_⟩ <;> first | go_keep | go_simp)) (fail)
  all_goals (go_wp2_with (first | (go_at_call_of 11 (Value.agg #[Value.int IntKind.i64 a, Value.int IntKind.i64 b]); refine (HA.out _).mono ?_; rintro e w1 ⟨rfl, rfl⟩) | (go_at_call_of 11 (Value.agg #[Value.int IntKind.i64 c, Value.int IntKind.i64 d]); refine (HB.out _).mono ?_; rintro e w1 ⟨rfl, rfl⟩)))
  all_goals (go_wp2; refine bodyPost_ret (v := .tuple #[.agg #[.int .i64 0, .int .i64 0], .bool false]) (by first | (simp [results, Try.results25, go_sem]; done) | simp [*, results, Try.results25, go_sem]) rfl ⟨rfl, (by repeat (first | exact Below.refl _ _ | refine below_step (by assumption) (by (try simp) <;> omega) ?_ | refine Below.trans ?_ (Below.mono b1 (by (try simp) <;> omega)) | refine below_drewN ?_ _ | refine Below.drew ?_ | refine Below.setCell ?_ (by (try simp) <;> omega) _ | refine Below.alloc ?_ (by (try simp) <;> omega) _))⟩)

set_option maxRecDepth 100000 in
set_option maxHeartbeats 2000000 in
theorem spec_Intersect_c0 (a b c d : Int) (hkHA : okI a b = true) (hkHB : okI c d = true) (hz : b < c) (hx : a < c) (hy : b ≤ d) (w : World) :
    Calls Try.prog 25 #[ivV a b, ivV c d] w fun e w' => e = .returned (.tuple #[orZ (okI a b && okI c d && decide (max a c ≤ min b d)) (max a c) (min b d), .bool (okI a b && okI c d && decide (max a c ≤ min b d))]) ∧ Below w.heap.size w w' := by
  rw [show max a c = c from by omega, show min b d = b from by omega, hkHA, hkHB]
  rw [show decide (c ≤ b) = false from decide_eq_false (by omega)]
  have HA : Hid (∀ w : World, Calls Try.prog 11 #[ivV a b] w fun e w' => e = .returned (.bool true) ∧ w' = w.alloc (.cells #[.int .i64 a, .int .i64 b] 25)) := Lib.hid fun w => by have := spec_IntervalOk a b w; rw [hkHA] at this; exact this
  have HB : Hid (∀ w : World, Calls Try.prog 11 #[ivV c d] w fun e w' => e = .returned (.bool true) ∧ w' = w.alloc (.cells #[.int .i64 c, .int .i64 d] 25)) := Lib.hid fun w => by have := spec_IntervalOk c d w; rw [hkHB] at this; exact this
  clear hkHA hkHB
  unfold ivV at HA HB ⊢
  go_enter Try.func25, Try.ntmps25
  go_wp2_with (first | (go_at_call_of 11 (Value.agg #[Value.int IntKind.i64 a, Value.int IntKind.i64 b]); refine (HA.out _).mono ?_; rintro e w1 ⟨rfl, rfl⟩) | (go_at_call_of 11 (Value.agg #[Value.int IntKind.i64 c, Value.int IntKind.i64 d]); refine (HB.out _).mono ?_; rintro e w1 ⟨rfl, rfl⟩))
  try go_region_held3 (fun w' => w'.cell? ⟨w.heap.size, 0, none⟩ = some (.int .i64 a) ∧ w'.cell? ⟨w.heap.size, 1, none⟩ = some (.int .i64 b) ∧ w'.cell? ⟨w.heap.size + 1, 0, none⟩ = some (.int .i64 c) ∧ w'.cell? ⟨w.heap.size + 1, 1, none⟩ = some (.int .i64 d)) (first | go_keep | (dsimp only; refine ⟨?_, ?_, ?_, ?_⟩ <;> first | go_keep | go_simp)) (fail)
  all_goals (go_wp2_with (first | (go_at_call_of 11 (Value.agg #[Value.int IntKind.i64 a, Value.int IntKind.i64 b]); refine (HA.out _).mono ?_; rintro e w1 ⟨rfl, rfl⟩) | (go_at_call_of 11 (Value.agg #[Value.int IntKind.i64 c, Value.int IntKind.i64 d]); refine (HB.out _).mono ?_; rintro e w1 ⟨rfl, rfl⟩)))
  all_goals (go_wp2; refine bodyPost_ret (v := .tuple #[.agg #[.int .i64 0, .int .i64 0], .bool false]) (by first | (simp [results, Try.results25, go_sem]; done) | simp [*, results, Try.results25, go_sem]) rfl ⟨rfl, (by repeat (first | exact Below.refl _ _ | refine below_step (by assumption) (by (try simp) <;> omega) ?_ | refine Below.trans ?_ (Below.mono b1 (by (try simp) <;> omega)) | refine below_drewN ?_ _ | refine Below.drew ?_ | refine Below.setCell ?_ (by (try simp) <;> omega) _ | refine Below.alloc ?_ (by (try simp) <;> omega) _))⟩)

set_option maxRecDepth 100000 in
set_option maxHeartbeats 2000000 in
theorem spec_Intersect_d0 (a b c d : Int) (hkHA : okI a b = true) (hkHB : okI c d = true) (hz : c ≤ b) (hx : a < c) (hy : b ≤ d) (w : World) :
    Calls Try.prog 25 #[ivV a b, ivV c d] w fun e w' => e = .returned (.tuple #[orZ (okI a b && okI c d && decide (max a c ≤ min b d)) (max a c) (min b d), .bool (okI a b && okI c d && decide (max a c ≤ min b d))]) ∧ Below w.heap.size w w' := by
  rw [show max a c = c from by omega, show min b d = b from by omega, hkHA, hkHB]
  rw [show decide (c ≤ b) = true from decide_eq_true hz]
  have HA : Hid (∀ w : World, Calls Try.prog 11 #[ivV a b] w fun e w' => e = .returned (.bool true) ∧ w' = w.alloc (.cells #[.int .i64 a, .int .i64 b] 25)) := Lib.hid fun w => by have := spec_IntervalOk a b w; rw [hkHA] at this; exact this
  have HB : Hid (∀ w : World, Calls Try.prog 11 #[ivV c d] w fun e w' => e = .returned (.bool true) ∧ w' = w.alloc (.cells #[.int .i64 c, .int .i64 d] 25)) := Lib.hid fun w => by have := spec_IntervalOk c d w; rw [hkHB] at this; exact this
  clear hkHA hkHB
  unfold ivV at HA HB ⊢
  go_enter Try.func25, Try.ntmps25
  go_wp2_with (first | (go_at_call_of 11 (Value.agg #[Value.int IntKind.i64 a, Value.int IntKind.i64 b]); refine (HA.out _).mono ?_; rintro e w1 ⟨rfl, rfl⟩) | (go_at_call_of 11 (Value.agg #[Value.int IntKind.i64 c, Value.int IntKind.i64 d]); refine (HB.out _).mono ?_; rintro e w1 ⟨rfl, rfl⟩))
  try go_region_held3 (fun w' => w'.cell? ⟨w.heap.size, 0, none⟩ = some (.int .i64 a) ∧ w'.cell? ⟨w.heap.size, 1, none⟩ = some (.int .i64 b) ∧ w'.cell? ⟨w.heap.size + 1, 0, none⟩ = some (.int .i64 c) ∧ w'.cell? ⟨w.heap.size + 1, 1, none⟩ = some (.int .i64 d)) (first | go_keep | (dsimp only; refine ⟨?_, ?_, ?_, ?_⟩ <;> first | go_keep | go_simp)) (fail)
  all_goals (go_wp2_with (first | (go_at_call_of 11 (Value.agg #[Value.int IntKind.i64 a, Value.int IntKind.i64 b]); refine (HA.out _).mono ?_; rintro e w1 ⟨rfl, rfl⟩) | (go_at_call_of 11 (Value.agg #[Value.int IntKind.i64 c, Value.int IntKind.i64 d]); refine (HB.out _).mono ?_; rintro e w1 ⟨rfl, rfl⟩)))
  all_goals (go_wp2; refine bodyPost_ret (v := .tuple #[.agg #[.int .i64 c, .int .i64 b], .bool true]) (by first | (simp [results, Try.results25, go_sem]; done) | simp [*, results, Try.results25, go_sem]) rfl ⟨rfl, (by repeat (first | exact Below.refl _ _ | refine below_step (by assumption) (by (try simp) <;> omega) ?_ | refine Below.trans ?_ (Below.mono b1 (by (try simp) <;> omega)) | refine below_drewN ?_ _ | refine Below.drew ?_ | refine Below.setCell ?_ (by (try simp) <;> omega) _ | refine Below.alloc ?_ (by (try simp) <;> omega) _))⟩)

set_option maxRecDepth 100000 in
set_option maxHeartbeats 2000000 in
theorem spec_Intersect_a1 (a b c d : Int) (hkHA : okI a b = false) (hx : a < c) (hy : d < b) (w : World) :
    Calls Try.prog 25 #[ivV a b, ivV c d] w fun e w' => e = .returned (.tuple #[orZ (okI a b && okI c d && decide (max a c ≤ min b d)) (max a c) (min b d), .bool (okI a b && okI c d && decide (max a c ≤ min b d))]) ∧ Below w.heap.size w w' := by
  rw [show max a c = c from by omega, show min b d = d from by omega, hkHA]
  have HA : Hid (∀ w : World, Calls Try.prog 11 #[ivV a b] w fun e w' => e = .returned (.bool false) ∧ w' = w.alloc (.cells #[.int .i64 a, .int .i64 b] 25)) := Lib.hid fun w => by have := spec_IntervalOk a b w; rw [hkHA] at this; exact this
  clear hkHA
  unfold ivV at HA ⊢
  go_enter Try.func25, Try.ntmps25
  go_wp2_with (first | (go_at_call_of 11 (Value.agg #[Value.int IntKind.i64 a, Value.int IntKind.i64 b]); refine (HA.out _).mono ?_; rintro e w1 ⟨rfl, rfl⟩))
  try go_region_held3 (fun w' => w'.cell? ⟨w.heap.size, 0, none⟩ = some (.int .i64 a) ∧ w'.cell? ⟨w.heap.size, 1, none⟩ = some (.int .i64 b) ∧ w'.cell? ⟨w.heap.size + 1, 0, none⟩ = some (.int .i64 c) ∧ w'.cell? ⟨w.heap.size + 1, 1, none⟩ = some (.int .i64 d)) (first | go_keep | (dsimp only; refine ⟨?_, ?_, ?_, ?_⟩ <;> first | go_keep | go_simp)) (fail)
  all_goals (go_wp2_with (first | (go_at_call_of 11 (Value.agg #[Value.int IntKind.i64 a, Value.int IntKind.i64 b]); refine (HA.out _).mono ?_; rintro e w1 ⟨rfl, rfl⟩)))
  all_goals (go_wp2; refine bodyPost_ret (v := .tuple #[.agg #[.int .i64 0, .int .i64 0], .bool false]) (by first | (simp [results, Try.results25, go_sem]; done) | simp [*, results, Try.results25, go_sem]) rfl ⟨rfl, (by repeat (first | exact Below.refl _ _ | refine below_step (by assumption) (by (try simp) <;> omega) ?_ | refine Below.trans ?_ (Below.mono b1 (by (try simp) <;> omega)) | refine below_drewN ?_ _ | refine Below.drew ?_ | refine Below.setCell ?_ (by (try simp) <;> omega) _ | refine Below.alloc ?_ (by (try simp) <;> omega) _))⟩)

set_option maxRecDepth 100000 in
set_option maxHeartbeats 2000000 in
theorem spec_Intersect_b1 (a b c d : Int) (hkHA : okI a b = true) (hkHB : okI c d = false) (hx : a < c) (hy : d < b) (w : World) :
    Calls Try.prog 25 #[ivV a b, ivV c d] w fun e w' => e = .returned (.tuple #[orZ (okI a b && okI c d && decide (max a c ≤ min b d)) (max a c) (min b d), .bool (okI a b && okI c d && decide (max a c ≤ min b d))]) ∧ Below w.heap.size w w' := by
  rw [show max a c = c from by omega, show min b d = d from by omega, hkHA, hkHB]
  have HA : Hid (∀ w : World, Calls Try.prog 11 #[ivV a b] w fun e w' => e = .returned (.bool true) ∧ w' = w.alloc (.cells #[.int .i64 a, .int .i64 b] 25)) := Lib.hid fun w => by have := spec_IntervalOk a b w; rw [hkHA] at this; exact this
  have HB : Hid (∀ w : World, Calls Try.prog 11 #[ivV c d] w fun e w' => e = .returned (.bool false) ∧ w' = w.alloc (.cells #[.int .i64 c, .int .i64 d] 25)) := Lib.hid fun w => by have := spec_IntervalOk c d w; rw [hkHB] at this; exact this
  clear hkHA hkHB
  unfold ivV at HA HB ⊢
  go_enter Try.func25, Try.ntmps25
  go_wp2_with (first | (go_at_call_of 11 (Value.agg #[Value.int IntKind.i64 a, Value.int IntKind.i64 b]); refine (HA.out _).mono ?_; rintro e w1 ⟨rfl, rfl⟩) | (go_at_call_of 11 (Value.agg #[Value.int IntKind.i64 c, Value.int IntKind.i64 d]); refine (HB.out _).mono ?_; rintro e w1 ⟨rfl, rfl⟩))
  try go_region_held3 (fun w' => w'.cell? ⟨w.heap.size, 0, none⟩ = some (.int .i64 a) ∧ w'.cell? ⟨w.heap.size, 1, none⟩ = some (.int .i64 b) ∧ w'.cell? ⟨w.heap.size + 1, 0, none⟩ = some (.int .i64 c) ∧ w'.cell? ⟨w.heap.size + 1, 1, none⟩ = some (.int .i64 d)) (first | go_keep | (dsimp only; refine ⟨?_, ?_, ?_, ?_⟩ <;> first | go_keep | go_simp)) (fail)
  all_goals (go_wp2_with (first | (go_at_call_of 11 (Value.agg #[Value.int IntKind.i64 a, Value.int IntKind.i64 b]); refine (HA.out _).mono ?_; rintro e w1 ⟨rfl, rfl⟩) | (go_at_call_of 11 (Value.agg #[Value.int IntKind.i64 c, Value.int IntKind.i64 d]); refine (HB.out _).mono ?_; rintro e w1 ⟨rfl, rfl⟩)))
  all_goals (go_wp2; refine bodyPost_ret (v := .tuple #[.agg #[.int .i64 0, .int .i64 0], .bool false]) (by first | (simp [results, Try.results25, go_sem]; done) | simp [*, results, Try.results25, go_sem]) rfl ⟨rfl, (by repeat (first | exact Below.refl _ _ | refine below_step (by assumption) (by (try simp) <;> omega) ?_ | refine Below.trans ?_ (Below.mono b1 (by (try simp) <;> omega)) | refine below_drewN ?_ _ | refine Below.drew ?_ | refine Below.setCell ?_ (by (try simp) <;> omega) _ | refine Below.alloc ?_ (by (try simp) <;> omega) _))⟩)

set_option maxRecDepth 100000 in
set_option maxHeartbeats 2000000 in
theorem spec_Intersect_c1 (a b c d : Int) (hkHA : okI a b = true) (hkHB : okI c d = true) (hz : d < c) (hx : a < c) (hy : d < b) (w : World) :
    Calls Try.prog 25 #[ivV a b, ivV c d] w fun e w' => e = .returned (.tuple #[orZ (okI a b && okI c d && decide (max a c ≤ min b d)) (max a c) (min b d), .bool (okI a b && okI c d && decide (max a c ≤ min b d))]) ∧ Below w.heap.size w w' := by
  rw [show max a c = c from by omega, show min b d = d from by omega, hkHA, hkHB]
  rw [show decide (c ≤ d) = false from decide_eq_false (by omega)]
  have HA : Hid (∀ w : World, Calls Try.prog 11 #[ivV a b] w fun e w' => e = .returned (.bool true) ∧ w' = w.alloc (.cells #[.int .i64 a, .int .i64 b] 25)) := Lib.hid fun w => by have := spec_IntervalOk a b w; rw [hkHA] at this; exact this
  have HB : Hid (∀ w : World, Calls Try.prog 11 #[ivV c d] w fun e w' => e = .returned (.bool true) ∧ w' = w.alloc (.cells #[.int .i64 c, .int .i64 d] 25)) := Lib.hid fun w => by have := spec_IntervalOk c d w; rw [hkHB] at this; exact this
  clear hkHA hkHB
  unfold ivV at HA HB ⊢
  go_enter Try.func25, Try.ntmps25
  go_wp2_with (first | (go_at_call_of 11 (Value.agg #[Value.int IntKind.i64 a, Value.int IntKind.i64 b]); refine (HA.out _).mono ?_; rintro e w1 ⟨rfl, rfl⟩) | (go_at_call_of 11 (Value.agg #[Value.int IntKind.i64 c, Value.int IntKind.i64 d]); refine (HB.out _).mono ?_; rintro e w1 ⟨rfl, rfl⟩))
  try go_region_held3 (fun w' => w'.cell? ⟨w.heap.size, 0, none⟩ = some (.int .i64 a) ∧ w'.cell? ⟨w.heap.size, 1, none⟩ = some (.int .i64 b) ∧ w'.cell? ⟨w.heap.size + 1, 0, none⟩ = some (.int .i64 c) ∧ w'.cell? ⟨w.heap.size + 1, 1, none⟩ = some (.int .i64 d)) (first | go_keep | (dsimp only; refine ⟨?_, ?_, ?_, ?_⟩ <;> first | go_keep | go_simp)) (fail)
  all_goals (go_wp2_with (first | (go_at_call_of 11 (Value.agg #[Value.int IntKind.i64 a, Value.int IntKind.i64 b]); refine (HA.out _).mono ?_; rintro e w1 ⟨rfl, rfl⟩) | (go_at_call_of 11 (Value.agg #[Value.int IntKind.i64 c, Value.int IntKind.i64 d]); refine (HB.out _).mono ?_; rintro e w1 ⟨rfl, rfl⟩)))
  all_goals (go_wp2; refine bodyPost_ret (v := .tuple #[.agg #[.int .i64 0, .int .i64 0], .bool false]) (by first | (simp [results, Try.results25, go_sem]; done) | simp [*, results, Try.results25, go_sem]) rfl ⟨rfl, (by repeat (first | exact Below.refl _ _ | refine below_step (by assumption) (by (try simp) <;> omega) ?_ | refine Below.trans ?_ (Below.mono b1 (by (try simp) <;> omega)) | refine below_drewN ?_ _ | refine Below.drew ?_ | refine Below.setCell ?_ (by (try simp) <;> omega) _ | refine Below.alloc ?_ (by (try simp) <;> omega) _))⟩)

set_option maxRecDepth 100000 in
set_option maxHeartbeats 2000000 in
theorem spec_Intersect_d1 (a b c d : Int) (hkHA : okI a b = true) (hkHB : okI c d = true) (hz : c ≤ d) (hx : a < c) (hy : d < b) (w : World) :
    Calls Try.prog 25 #[ivV a b, ivV c d] w fun e w' => e = .returned (.tuple #[orZ (okI a b && okI c d && decide (max a c ≤ min b d)) (max a c) (min b d), .bool (okI a b && okI c d && decide (max a c ≤ min b d))]) ∧ Below w.heap.size w w' := by
  rw [show max a c = c from by omega, show min b d = d from by omega, hkHA, hkHB]
  rw [show decide (c ≤ d) = true from decide_eq_true hz]
  have HA : Hid (∀ w : World, Calls Try.prog 11 #[ivV a b] w fun e w' => e = .returned (.bool true) ∧ w' = w.alloc (.cells #[.int .i64 a, .int .i64 b] 25)) := Lib.hid fun w => by have := spec_IntervalOk a b w; rw [hkHA] at this; exact this
  have HB : Hid (∀ w : World, Calls Try.prog 11 #[ivV c d] w fun e w' => e = .returned (.bool true) ∧ w' = w.alloc (.cells #[.int .i64 c, .int .i64 d] 25)) := Lib.hid fun w => by have := spec_IntervalOk c d w; rw [hkHB] at this; exact this
  clear hkHA hkHB
  unfold ivV at HA HB ⊢
  go_enter Try.func25, Try.ntmps25
  go_wp2_with (first | (go_at_call_of 11 (Value.agg #[Value.int IntKind.i64 a, Value.int IntKind.i64 b]); refine (HA.out _).mono ?_; rintro e w1 ⟨rfl, rfl⟩) | (go_at_call_of 11 (Value.agg #[Value.int IntKind.i64 c, Value.int IntKind.i64 d]); refine (HB.out _).mono ?_; rintro e w1 ⟨rfl, rfl⟩))
  try go_region_held3 (fun w' => w'.cell? ⟨w.heap.size, 0, none⟩ = some (.int .i64 a) ∧ w'.cell? ⟨w.heap.size, 1, none⟩ = some (.int .i64 b) ∧ w'.cell? ⟨w.heap.size + 1, 0, none⟩ = some (.int .i64 c) ∧ w'.cell? ⟨w.heap.size + 1, 1, none⟩ = some (.int .i64 d)) (first | go_keep | (dsimp only; refine ⟨?_, ?_, ?_, ?_⟩ <;> first | go_keep | go_simp)) (fail)
  all_goals (go_wp2_with (first | (go_at_call_of 11 (Value.agg #[Value.int IntKind.i64 a, Value.int IntKind.i64 b]); refine (HA.out _).mono ?_; rintro e w1 ⟨rfl, rfl⟩) | (go_at_call_of 11 (Value.agg #[Value.int IntKind.i64 c, Value.int IntKind.i64 d]); refine (HB.out _).mono ?_; rintro e w1 ⟨rfl, rfl⟩)))
  all_goals (go_wp2; refine bodyPost_ret (v := .tuple #[.agg #[.int .i64 c, .int .i64 d], .bool true]) (by first | (simp [results, Try.results25, go_sem]; done) | simp [*, results, Try.results25, go_sem]) rfl ⟨rfl, (by repeat (first | exact Below.refl _ _ | refine below_step (by assumption) (by (try simp) <;> omega) ?_ | refine Below.trans ?_ (Below.mono b1 (by (try simp) <;> omega)) | refine below_drewN ?_ _ | refine Below.drew ?_ | refine Below.setCell ?_ (by (try simp) <;> omega) _ | refine Below.alloc ?_ (by (try simp) <;> omega) _))⟩)

set_option maxRecDepth 100000 in
set_option maxHeartbeats 2000000 in
theorem spec_Intersect_a2 (a b c d : Int) (hkHA : okI a b = false) (hx : c ≤ a) (hy : b ≤ d) (w : World) :
    Calls Try.prog 25 #[ivV a b, ivV c d] w fun e w' => e = .returned (.tuple #[orZ (okI a b && okI c d && decide (max a c ≤ min b d)) (max a c) (min b d), .bool (okI a b && okI c d && decide (max a c ≤ min b d))]) ∧ Below w.heap.size w w' := by
  rw [show max a c = a from by omega, show min b d = b from by omega, hkHA]
  have HA : Hid (∀ w : World, Calls Try.prog 11 #[ivV a b] w fun e w' => e = .returned (.bool false) ∧ w' = w.alloc (.cells #[.int .i64 a, .int .i64 b] 25)) := Lib.hid fun w => by have := spec_IntervalOk a b w; rw [hkHA] at this; exact this
  clear hkHA
  unfold ivV at HA ⊢
  go_enter Try.func25, Try.ntmps25
  go_wp2_with (first | (go_at_call_of 11 (Value.agg #[Value.int IntKind.i64 a, Value.int IntKind.i64 b]); refine (HA.out _).mono ?_; rintro e w1 ⟨rfl, rfl⟩))
  try go_region_held3 (fun w' => w'.cell? ⟨w.heap.size, 0, none⟩ = some (.int .i64 a) ∧ w'.cell? ⟨w.heap.size, 1, none⟩ = some (.int .i64 b) ∧ w'.cell? ⟨w.heap.size + 1, 0, none⟩ = some (.int .i64 c) ∧ w'.cell? ⟨w.heap.size + 1, 1, none⟩ = some (.int .i64 d)) (first | go_keep | (dsimp only; refine ⟨?_, ?_, ?_, ?_⟩ <;> first | go_keep | go_simp)) (fail)
  all_goals (go_wp2_with (first | (go_at_call_of 11 (Value.agg #[Value.int IntKind.i64 a, Value.int IntKind.i64 b]); refine (HA.out _).mono ?_; rintro e w1 ⟨rfl, rfl⟩)))
  all_goals (go_wp2; refine bodyPost_ret (v := .tuple #[.agg #[.int .i64 0, .int .i64 0], .bool false]) (by first | (simp [results, Try.results25, go_sem]; done) | simp [*, results, Try.results25, go_sem]) rfl ⟨rfl, (by repeat (first | exact Below.refl _ _ | refine below_step (by assumption) (by (try simp) <;> omega) ?_ | refine Below.trans ?_ (Below.mono b1 (by (try simp) <;> omega)) | refine below_drewN ?_ _ | refine Below.drew ?_ | refine Below.setCell ?_ (by (try simp) <;> omega) _ | refine Below.alloc ?_ (by (try simp) <;> omega) _))⟩)

set_option maxRecDepth 100000 in
set_option maxHeartbeats 2000000 in
theorem spec_Intersect_b2 (a b c d : Int) (hkHA : okI a b = true) (hkHB : okI c d = false) (hx : c ≤ a) (hy : b ≤ d) (w : World) :
    Calls Try.prog 25 #[ivV a b, ivV c d] w fun e w' => e = .returned (.tuple #[orZ (okI a b && okI c d && decide (max a c ≤ min b d)) (max a c) (min b d), .bool (okI a b && okI c d && decide (max a c ≤ min b d))]) ∧ Below w.heap.size w w' := by
  rw [show max a c = a from by omega, show min b d = b from by omega, hkHA, hkHB]
  have HA : Hid (∀ w : World, Calls Try.prog 11 #[ivV a b] w fun e w' => e = .returned (.bool true) ∧ w' = w.alloc (.cells #[.int .i64 a, .int .i64 b] 25)) := Lib.hid fun w => by have := spec_IntervalOk a b w; rw [hkHA] at this; exact this
  have HB : Hid (∀ w : World, Calls Try.prog 11 #[ivV c d] w fun e w' => e = .returned (.bool false) ∧ w' = w.alloc (.cells #[.int .i64 c, .int .i64 d] 25)) := Lib.hid fun w => by have := spec_IntervalOk c d w; rw [hkHB] at this; exact this
  clear hkHA hkHB
  unfold ivV at HA HB ⊢
  go_enter Try.func25, Try.ntmps25
  go_wp2_with (first | (go_at_call_of 11 (Value.agg #[Value.int IntKind.i64 a, Value.int IntKind.i64 b]); refine (HA.out _).mono ?_; rintro e w1 ⟨rfl, rfl⟩) | (go_at_call_of 11 (Value.agg #[Value.int IntKind.i64 c, Value.int IntKind.i64 d]); refine (HB.out _).mono ?_; rintro e w1 ⟨rfl, rfl⟩))
  try go_region_held3 (fun w' => w'.cell? ⟨w.heap.size, 0, none⟩ = some (.int .i64 a) ∧ w'.cell? ⟨w.heap.size, 1, none⟩ = some (.int .i64 b) ∧ w'.cell? ⟨w.heap.size + 1, 0, none⟩ = some (.int .i64 c) ∧ w'.cell? ⟨w.heap.size + 1, 1, none⟩ = some (.int .i64 d)) (first | go_keep | (dsimp only; refine ⟨?_, ?_, ?_, ?_⟩ <;> first | go_keep | go_simp)) (fail)
  all_goals (go_wp2_with (first | (go_at_call_of 11 (Value.agg #[Value.int IntKind.i64 a, Value.int IntKind.i64 b]); refine (HA.out _).mono ?_; rintro e w1 ⟨rfl, rfl⟩) | (go_at_call_of 11 (Value.agg #[Value.int IntKind.i64 c, Value.int IntKind.i64 d]); refine (HB.out _).mono ?_; rintro e w1 ⟨rfl, rfl⟩)))
  all_goals (go_wp2; refine bodyPost_ret (v := .tuple #[.agg #[.int .i64 0, .int .i64 0], .bool false]) (by first | (simp [results, Try.results25, go_sem]; done) | simp [*, results, Try.results25, go_sem]) rfl ⟨rfl, (by repeat (first | exact Below.refl _ _ | refine below_step (by assumption) (by (try simp) <;> omega) ?_ | refine Below.trans ?_ (Below.mono b1 (by (try simp) <;> omega)) | refine below_drewN ?_ _ | refine Below.drew ?_ | refine Below.setCell ?_ (by (try simp) <;> omega) _ | refine Below.alloc ?_ (by (try simp) <;> omega) _))⟩)

set_option maxRecDepth 100000 in
set_option maxHeartbeats 2000000 in
theorem spec_Intersect_c2 (a b c d : Int) (hkHA : okI a b = true) (hkHB : okI c d = true) (hz : b < a) (hx : c ≤ a) (hy : b ≤ d) (w : World) :
    Calls Try.prog 25 #[ivV a b, ivV c d] w fun e w' => e = .returned (.tuple #[orZ (okI a b && okI c d && decide (max a c ≤ min b d)) (max a c) (min b d), .bool (okI a b && okI c d && decide (max a c ≤ min b d))]) ∧ Below w.heap.size w w' := by
  rw [show max a c = a from by omega, show min b d = b from by omega, hkHA, hkHB]
  rw [show decide (a ≤ b) = false from decide_eq_false (by omega)]
  have HA : Hid (∀ w : World, Calls Try.prog 11 #[ivV a b] w fun e w' => e = .returned (.bool true) ∧ w' = w.alloc (.cells #[.int .i64 a, .int .i64 b] 25)) := Lib.hid fun w => by have := spec_IntervalOk a b w; rw [hkHA] at this; exact this
  have HB : Hid (∀ w : World, Calls Try.prog 11 #[ivV c d] w fun e w' => e = .returned (.bool true) ∧ w' = w.alloc (.cells #[.int .i64 c, .int .i64 d] 25)) := Lib.hid fun w => by have := spec_IntervalOk c d w; rw [hkHB] at this; exact this
  clear hkHA hkHB
  unfold ivV at HA HB ⊢
  go_enter Try.func25, Try.ntmps25
  go_wp2_with (first | (go_at_call_of 11 (Value.agg #[Value.int IntKind.i64 a, Value.int IntKind.i64 b]); refine (HA.out _).mono ?_; rintro e w1 ⟨rfl, rfl⟩) | (go_at_call_of 11 (Value.agg #[Value.int IntKind.i64 c, Value.int IntKind.i64 d]); refine (HB.out _).mono ?_; rintro e w1 ⟨rfl, rfl⟩))
  try go_region_held3 (fun w' => w'.cell? ⟨w.heap.size, 0, none⟩ = some (.int .i64 a) ∧ w'.cell? ⟨w.heap.size, 1, none⟩ = some (.int .i64 b) ∧ w'.cell? ⟨w.heap.size + 1, 0, none⟩ = some (.int .i64 c) ∧ w'.cell? ⟨w.heap.size + 1, 1, none⟩ = some (.int .i64 d)) (first | go_keep | (dsimp only; refine ⟨?_, ?_, ?_, ?_⟩ <;> first | go_keep | go_simp)) (fail)
  all_goals (go_wp2_with (first | (go_at_call_of 11 (Value.agg #[Value.int IntKind.i64 a, Value.int IntKind.i64 b]); refine (HA.out _).mono ?_; rintro e w1 ⟨rfl, rfl⟩) | (go_at_call_of 11 (Value.agg #[Value.int IntKind.i64 c, Value.int IntKind.i64 d]); refine (HB.out _).mono ?_; rintro e w1 ⟨rfl, rfl⟩)))
  all_goals (go_wp2; refine bodyPost_ret (v := .tuple #[.agg #[.int .i64 0, .int .i64 0], .bool false]) (by first | (simp [results, Try.results25, go_sem]; done) | simp [*, results, Try.results25, go_sem]) rfl ⟨rfl, (by repeat (first | exact Below.refl _ _ | refine below_step (by assumption) (by (try simp) <;> omega) ?_ | refine Below.trans ?_ (Below.mono b1 (by (try simp) <;> omega)) | refine below_drewN ?_ _ | refine Below.drew ?_ | refine Below.setCell ?_ (by (try simp) <;> omega) _ | refine Below.alloc ?_ (by (try simp) <;> omega) _))⟩)

set_option maxRecDepth 100000 in
set_option maxHeartbeats 2000000 in
theorem spec_Intersect_d2 (a b c d : Int) (hkHA : okI a b = true) (hkHB : okI c d = true) (hz : a ≤ b) (hx : c ≤ a) (hy : b ≤ d) (w : World) :
    Calls Try.prog 25 #[ivV a b, ivV c d] w fun e w' => e = .returned (.tuple #[orZ (okI a b && okI c d && decide (max a c ≤ min b d)) (max a c) (min b d), .bool (okI a b && okI c d && decide (max a c ≤ min b d))]) ∧ Below w.heap.size w w' := by
  rw [show max a c = a from by omega, show min b d = b from by omega, hkHA, hkHB]
  rw [show decide (a ≤ b) = true from decide_eq_true hz]
  have HA : Hid (∀ w : World, Calls Try.prog 11 #[ivV a b] w fun e w' => e = .returned (.bool true) ∧ w' = w.alloc (.cells #[.int .i64 a, .int .i64 b] 25)) := Lib.hid fun w => by have := spec_IntervalOk a b w; rw [hkHA] at this; exact this
  have HB : Hid (∀ w : World, Calls Try.prog 11 #[ivV c d] w fun e w' => e = .returned (.bool true) ∧ w' = w.alloc (.cells #[.int .i64 c, .int .i64 d] 25)) := Lib.hid fun w => by have := spec_IntervalOk c d w; rw [hkHB] at this; exact this
  clear hkHA hkHB
  unfold ivV at HA HB ⊢
  go_enter Try.func25, Try.ntmps25
  go_wp2_with (first | (go_at_call_of 11 (Value.agg #[Value.int IntKind.i64 a, Value.int IntKind.i64 b]); refine (HA.out _).mono ?_; rintro e w1 ⟨rfl, rfl⟩) | (go_at_call_of 11 (Value.agg #[Value.int IntKind.i64 c, Value.int IntKind.i64 d]); refine (HB.out _).mono ?_; rintro e w1 ⟨rfl, rfl⟩))
  try go_region_held3 (fun w' => w'.cell? ⟨w.heap.size, 0, none⟩ = some (.int .i64 a) ∧ w'.cell? ⟨w.heap.size, 1, none⟩ = some (.int .i64 b) ∧ w'.cell? ⟨w.heap.size + 1, 0, none⟩ = some (.int .i64 c) ∧ w'.cell? ⟨w.heap.size + 1, 1, none⟩ = some (.int .i64 d)) (first | go_keep | (dsimp only; refine ⟨?_, ?_, ?_, ?_⟩ <;> first | go_keep | go_simp)) (fail)
  all_goals (go_wp2_with (first | (go_at_call_of 11 (Value.agg #[Value.int IntKind.i64 a, Value.int IntKind.i64 b]); refine (HA.out _).mono ?_; rintro e w1 ⟨rfl, rfl⟩) | (go_at_call_of 11 (Value.agg #[Value.int IntKind.i64 c, Value.int IntKind.i64 d]); refine (HB.out _).mono ?_; rintro e w1 ⟨rfl, rfl⟩)))
  all_goals (go_wp2; refine bodyPost_ret (v := .tuple #[.agg #[.int .i64 a, .int .i64 b], .bool true]) (by first | (simp [results, Try.results25, go_sem]; done) | simp [*, results, Try.results25, go_sem]) rfl ⟨rfl, (by repeat (first | exact Below.refl _ _ | refine below_step (by assumption) (by (try simp) <;> omega) ?_ | refine Below.trans ?_ (Below.mono b1 (by (try simp) <;> omega)) | refine below_drewN ?_ _ | refine Below.drew ?_ | refine Below.setCell ?_ (by (try simp) <;> omega) _ | refine Below.alloc ?_ (by (try simp) <;> omega) _))⟩)

set_option maxRecDepth 100000 in
set_option maxHeartbeats 2000000 in
theorem spec_Intersect_a3 (a b c d : Int) (hkHA : okI a b = false) (hx : c ≤ a) (hy : d < b) (w : World) :
    Calls Try.prog 25 #[ivV a b, ivV c d] w fun e w' => e = .returned (.tuple #[orZ (okI a b && okI c d && decide (max a c ≤ min b d)) (max a c) (min b d), .bool (okI a b && okI c d && decide (max a c ≤ min b d))]) ∧ Below w.heap.size w w' := by
  rw [show max a c = a from by omega, show min b d = d from by omega, hkHA]
  have HA : Hid (∀ w : World, Calls Try.prog 11 #[ivV a b] w fun e w' => e = .returned (.bool false) ∧ w' = w.alloc (.cells #[.int .i64 a, .int .i64 b] 25)) := Lib.hid fun w => by have := spec_IntervalOk a b w; rw [hkHA] at this; exact this
  clear hkHA
  unfold ivV at HA ⊢
  go_enter Try.func25, Try.ntmps25
  go_wp2_with (first | (go_at_call_of 11 (Value.agg #[Value.int IntKind.i64 a, Value.int IntKind.i64 b]); refine (HA.out _).mono ?_; rintro e w1 ⟨rfl, rfl⟩))
  try go_region_held3 (fun w' => w'.cell? ⟨w.heap.size, 0, none⟩ = some (.int .i64 a) ∧ w'.cell? ⟨w.heap.size, 1, none⟩ = some (.int .i64 b) ∧ w'.cell? ⟨w.heap.size + 1, 0, none⟩ = some (.int .i64 c) ∧ w'.cell? ⟨w.heap.size + 1, 1, none⟩ = some (.int .i64 d)) (first | go_keep | (dsimp only; refine ⟨?_, ?_, ?_, ?_⟩ <;> first | go_keep | go_simp)) (fail)
  all_goals (go_wp2_with (first | (go_at_call_of 11 (Value.agg #[Value.int IntKind.i64 a, Value.int IntKind.i64 b]); refine (HA.out _).mono ?_; rintro e w1 ⟨rfl, rfl⟩)))
  all_goals (go_wp2; refine bodyPost_ret (v := .tuple #[.agg #[.int .i64 0, .int .i64 0], .bool false]) (by first | (simp [results, Try.results25, go_sem]; done) | simp [*, results, Try.results25, go_sem]) rfl ⟨rfl, (by repeat (first | exact Below.refl _ _ | refine below_step (by assumption) (by (try simp) <;> omega) ?_ | refine Below.trans ?_ (Below.mono b1 (by (try simp) <;> omega)) | refine below_drewN ?_ _ | refine Below.drew ?_ | refine Below.setCell ?_ (by (try simp) <;> omega) _ | refine Below.alloc ?_ (by (try simp) <;> omega) _))⟩)

set_option maxRecDepth 100000 in
set_option maxHeartbeats 2000000 in
theorem spec_Intersect_b3 (a b c d : Int) (hkHA : okI a b = true) (hkHB : okI c d = false) (hx : c ≤ a) (hy : d < b) (w : World) :
    Calls Try.prog 25 #[ivV a b, ivV c d] w fun e w' => e = .returned (.tuple #[orZ (okI a b && okI c d && decide (max a c ≤ min b d)) (max a c) (min b d), .bool (okI a b && okI c d && decide (max a c ≤ min b d))]) ∧ Below w.heap.size w w' := by
  rw [show max a c = a from by omega, show min b d = d from by omega, hkHA, hkHB]
  have HA : Hid (∀ w : World, Calls Try.prog 11 #[ivV a b] w fun e w' => e = .returned (.bool true) ∧ w' = w.alloc (.cells #[.int .i64 a, .int .i64 b] 25)) := Lib.hid fun w => by have := spec_IntervalOk a b w; rw [hkHA] at this; exact this
  have HB : Hid (∀ w : World, Calls Try.prog 11 #[ivV c d] w fun e w' => e = .returned (.bool false) ∧ w' = w.alloc (.cells #[.int .i64 c, .int .i64 d] 25)) := Lib.hid fun w => by have := spec_IntervalOk c d w; rw [hkHB] at this; exact this
  clear hkHA hkHB
  unfold ivV at HA HB ⊢
  go_enter Try.func25, Try.ntmps25
  go_wp2_with (first | (go_at_call_of 11 (Value.agg #[Value.int IntKind.i64 a, Value.int IntKind.i64 b]); refine (HA.out _).mono ?_; rintro e w1 ⟨rfl, rfl⟩) | (go_at_call_of 11 (Value.agg #[Value.int IntKind.i64 c, Value.int IntKind.i64 d]); refine (HB.out _).mono ?_; rintro e w1 ⟨rfl, rfl⟩))
  try go_region_held3 (fun w' => w'.cell? ⟨w.heap.size, 0, none⟩ = some (.int .i64 a) ∧ w'.cell? ⟨w.heap.size, 1, none⟩ = some (.int .i64 b) ∧ w'.cell? ⟨w.heap.size + 1, 0, none⟩ = some (.int .i64 c) ∧ w'.cell? ⟨w.heap.size + 1, 1, none⟩ = some (.int .i64 d)) (first | go_keep | (dsimp only; refine ⟨?_, ?_, ?_, ?_⟩ <;> first | go_keep | go_simp)) (fail)
  all_goals (go_wp2_with (first | (go_at_call_of 11 (Value.agg #[Value.int IntKind.i64 a, Value.int IntKind.i64 b]); refine (HA.out _).mono ?_; rintro e w1 ⟨rfl, rfl⟩) | (go_at_call_of 11 (Value.agg #[Value.int IntKind.i64 c, Value.int IntKind.i64 d]); refine (HB.out _).mono ?_; rintro e w1 ⟨rfl, rfl⟩)))
  all_goals (go_wp2; refine bodyPost_ret (v := .tuple #[.agg #[.int .i64 0, .int .i64 0], .bool false]) (by first | (simp [results, Try.results25, go_sem]; done) | simp [*, results, Try.results25, go_sem]) rfl ⟨rfl, (by repeat (first | exact Below.refl _ _ | refine below_step (by assumption) (by (try simp) <;> omega) ?_ | refine Below.trans ?_ (Below.mono b1 (by (try simp) <;> omega)) | refine below_drewN ?_ _ | refine Below.drew ?_ | refine Below.setCell ?_ (by (try simp) <;> omega) _ | refine Below.alloc ?_ (by (try simp) <;> omega) _))⟩)

set_option maxRecDepth 100000 in
set_option maxHeartbeats 2000000 in
theorem spec_Intersect_c3 (a b c d : Int) (hkHA : okI a b = true) (hkHB : okI c d = true) (hz : d < a) (hx : c ≤ a) (hy : d < b) (w : World) :
    Calls Try.prog 25 #[ivV a b, ivV c d] w fun e w' => e = .returned (.tuple #[orZ (okI a b && okI c d && decide (max a c ≤ min b d)) (max a c) (min b d), .bool (okI a b && okI c d && decide (max a c ≤ min b d))]) ∧ Below w.heap.size w w' := by
  rw [show max a c = a from by omega, show min b d = d from by omega, hkHA, hkHB]
  rw [show decide (a ≤ d) = false from decide_eq_false (by omega)]
  have HA : Hid (∀ w : World, Calls Try.prog 11 #[ivV a b] w fun e w' => e = .returned (.bool true) ∧ w' = w.alloc (.cells #[.int .i64 a, .int .i64 b] 25)) := Lib.hid fun w => by have := spec_IntervalOk a b w; rw [hkHA] at this; exact this
  have HB : Hid (∀ w : World, Calls Try.prog 11 #[ivV c d] w fun e w' => e = .returned (.bool true) ∧ w' = w.alloc (.cells #[.int .i64 c, .int .i64 d] 25)) := Lib.hid fun w => by have := spec_IntervalOk c d w; rw [hkHB] at this; exact this
  clear hkHA hkHB
  unfold ivV at HA HB ⊢
  go_enter Try.func25, Try.ntmps25
  go_wp2_with (first | (go_at_call_of 11 (Value.agg #[Value.int IntKind.i64 a, Value.int IntKind.i64 b]); refine (HA.out _).mono ?_; rintro e w1 ⟨rfl, rfl⟩) | (go_at_call_of 11 (Value.agg #[Value.int IntKind.i64 c, Value.int IntKind.i64 d]); refine (HB.out _).mono ?_; rintro e w1 ⟨rfl, rfl⟩))
  try go_region_held3 (fun w' => w'.cell? ⟨w.heap.size, 0, none⟩ = some (.int .i64 a) ∧ w'.cell? ⟨w.heap.size, 1, none⟩ = some (.int .i64 b) ∧ w'.cell? ⟨w.heap.size + 1, 0, none⟩ = some (.int .i64 c) ∧ w'.cell? ⟨w.heap.size + 1, 1, none⟩ = some (.int .i64 d)) (first | go_keep | (dsimp only; refine ⟨?_, ?_, ?_, ?_⟩ <;> first | go_keep | go_simp)) (fail)
  all_goals (go_wp2_with (first | (go_at_call_of 11 (Value.agg #[Value.int IntKind.i64 a, Value.int IntKind.i64 b]); refine (HA.out _).mono ?_; rintro e w1 ⟨rfl, rfl⟩) | (go_at_call_of 11 (Value.agg #[Value.int IntKind.i64 c, Value.int IntKind.i64 d]); refine (HB.out _).mono ?_; rintro e w1 ⟨rfl, rfl⟩)))
  all_goals (go_wp2; refine bodyPost_ret (v := .tuple #[.agg #[.int .i64 0, .int .i64 0], .bool false]) (by first | (simp [results, Try.results25, go_sem]; done) | simp [*, results, Try.results25, go_sem]) rfl ⟨rfl, (by repeat (first | exact Below.refl _ _ | refine below_step (by assumption) (by (try simp) <;> omega) ?_ | refine Below.trans ?_ (Below.mono b1 (by (try simp) <;> omega)) | refine below_drewN ?_ _ | refine Below.drew ?_ | refine Below.setCell ?_ (by (try simp) <;> omega) _ | refine Below.alloc ?_ (by (try simp) <;> omega) _))⟩)

set_option maxRecDepth 100000 in
set_option maxHeartbeats 2000000 in
theorem spec_Intersect_d3 (a b c d : Int) (hkHA : okI a b = true) (hkHB : okI c d = true) (hz : a ≤ d) (hx : c ≤ a) (hy : d < b) (w : World) :
    Calls Try.prog 25 #[ivV a b, ivV c d] w fun e w' => e = .returned (.tuple #[orZ (okI a b && okI c d && decide (max a c ≤ min b d)) (max a c) (min b d), .bool (okI a b && okI c d && decide (max a c ≤ min b d))]) ∧ Below w.heap.size w w' := by
  rw [show max a c = a from by omega, show min b d = d from by omega, hkHA, hkHB]
  rw [show decide (a ≤ d) = true from decide_eq_true hz]
  have HA : Hid (∀ w : World, Calls Try.prog 11 #[ivV a b] w fun e w' => e = .returned (.bool true) ∧ w' = w.alloc (.cells #[.int .i64 a, .int .i64 b] 25)) := Lib.hid fun w => by have := spec_IntervalOk a b w; rw [hkHA] at this; exact this
  have HB : Hid (∀ w : World, Calls Try.prog 11 #[ivV c d] w fun e w' => e = .returned (.bool true) ∧ w' = w.alloc (.cells #[.int .i64 c, .int .i64 d] 25)) := Lib.hid fun w => by have := spec_IntervalOk c d w; rw [hkHB] at this; exact this
  clear hkHA hkHB
  unfold ivV at HA HB ⊢
  go_enter Try.func25, Try.ntmps25
  go_wp2_with (first | (go_at_call_of 11 (Value.agg #[Value.int IntKind.i64 a, Value.int IntKind.i64 b]); refine (HA.out _).mono ?_; rintro e w1 ⟨rfl, rfl⟩) | (go_at_call_of 11 (Value.agg #[Value.int IntKind.i64 c, Value.int IntKind.i64 d]); refine (HB.out _).mono ?_; rintro e w1 ⟨rfl, rfl⟩))
  try go_region_held3 (fun w' => w'.cell? ⟨w.heap.size, 0, none⟩ = some (.int .i64 a) ∧ w'.cell? ⟨w.heap.size, 1, none⟩ = some (.int .i64 b) ∧ w'.cell? ⟨w.heap.size + 1, 0, none⟩ = some (.int .i64 c) ∧ w'.cell? ⟨w.heap.size + 1, 1, none⟩ = some (.int .i64 d)) (first | go_keep | (dsimp only; refine ⟨?_, ?_, ?_, ?_⟩ <;> first | go_keep | go_simp)) (fail)
  all_goals (go_wp2_with (first | (go_at_call_of 11 (Value.agg #[Value.int IntKind.i64 a, Value.int IntKind.i64 b]); refine (HA.out _).mono ?_; rintro e w1 ⟨rfl, rfl⟩) | (go_at_call_of 11 (Value.agg #[Value.int IntKind.i64 c, Value.int IntKind.i64 d]); refine (HB.out _).mono ?_; rintro e w1 ⟨rfl, rfl⟩)))
  all_goals (go_wp2; refine bodyPost_ret (v := .tuple #[.agg #[.int .i64 a, .int .i64 d], .bool true]) (by first | (simp [results, Try.results25, go_sem]; done) | simp [*, results, Try.results25, go_sem]) rfl ⟨rfl, (by repeat (first | exact Below.refl _ _ | refine below_step (by assumption) (by (try simp) <;> omega) ?_ | refine Below.trans ?_ (Below.mono b1 (by (try simp) <;> omega)) | refine below_drewN ?_ _ | refine Below.drew ?_ | refine Below.setCell ?_ (by (try simp) <;> omega) _ | refine Below.alloc ?_ (by (try simp) <;> omega) _))⟩)

theorem spec_Intersect (a b c d : Int) (w : World) :
    Calls Try.prog 25 #[ivV a b, ivV c d] w fun e w' => e = .returned (.tuple #[orZ (okI a b && okI c d && decide (max a c ≤ min b d)) (max a c) (min b d), .bool (okI a b && okI c d && decide (max a c ≤ min b d))]) ∧ Below w.heap.size w w' := by
  cases hA : okI a b with
  | false =>
    by_cases hx : a < c
    · by_cases hy : b ≤ d
      · have := spec_Intersect_a0 a b c d hA hx hy w; rw [hA] at this; exact this
      · have := spec_Intersect_a1 a b c d hA hx (by omega) w; rw [hA] at this; exact this
    · by_cases hy : b ≤ d
      · have := spec_Intersect_a2 a b c d hA (by omega) hy w; rw [hA] at this; exact this
      · have := spec_Intersect_a3 a b c d hA (by omega) (by omega) w; rw [hA] at this; exact this
  | true =>
    cases hB : okI c d with
    | false =>
      by_cases hx : a < c
      · by_cases hy : b ≤ d
        · have := spec_Intersect_b0 a b c d hA hB hx hy w; rw [hA, hB] at this; exact this
        · have := spec_Intersect_b1 a b c d hA hB hx (by omega) w; rw [hA, hB] at this; exact this
      · by_cases hy : b ≤ d
        · have := spec_Intersect_b2 a b c d hA hB (by omega) hy w; rw [hA, hB] at this; exact this
        · have := spec_Intersect_b3 a b c d hA hB (by omega) (by omega) w; rw [hA, hB] at this; exact this
    | true =>
      by_cases hx : a < c
      · by_cases hy : b ≤ d
        · by_cases hz : c ≤ b
          · have := spec_Intersect_d0 a b c d hA hB hz hx hy w; rw [hA, hB] at this; exact this
          · have := spec_Intersect_c0 a b c d hA hB (by omega) hx hy w; rw [hA, hB] at this; exact this
        · by_cases hz : c ≤ d
          · have := spec_Intersect_d1 a b c d hA hB hz hx (by omega) w; rw [hA, hB] at this; exact this
          · have := spec_Intersect_c1 a b c d hA hB (by omega) hx (by omega) w; rw [hA, hB] at this; exact this
      · by_cases hy : b ≤ d
        · by_cases hz : a ≤ b
          · have := spec_Intersect_d2 a b c d hA hB hz (by omega) hy w; rw [hA, hB] at this; exact this
          · have := spec_Intersect_c2 a b c d hA hB (by omega) (by omega) hy w; rw [hA, hB] at this; exact this
        · by_cases hz : a ≤ d
          · have := spec_Intersect_d3 a b c d hA hB hz (by omega) (by omega) w; rw [hA, hB] at this; exact this
          · have := spec_Intersect_c3 a b c d hA hB (by omega) (by omega) (by omega) w; rw [hA, hB] at this; exact this

end Go.Proofs.Ytfeechnlliaocaa
