/-
  impl.Hull.
-/
import Derived.Test.YtfeechnlliaocaaDoorProg
import Derived.Test.YtfeechnlliaocaaDoorIvA
import Derived.Test.YtfeechnlliaocaaDoorIvOk
import Derived.Test.YtfeechnlliaocaaDoorIvC
import Derived.WalkKit
import Derived.WalkSpells
import Derived.WalkLawsBesides
import Derived.Deep.QuietTactic
import Derived.Deep.RegionWith
import Derived.Deep.RegionHeld3
import Derived.BigQuiet
import Derived.Lib.Hide
import Derived.Below
namespace Go.Proofs.YtfeechnlliaocaaDoor
open Go.RowKit
set_option linter.unusedVariables false
set_option linter.unusedSimpArgs false

set_option maxRecDepth 100000 in
set_option maxHeartbeats 2000000 in
theorem impl_Hull_a (a b c d : Int) (hkHA : okI a b = false) (w : World) :
    Calls Tryd.prog 12 #[ivV a b, ivV c d] w fun e w' => e = .returned (.tuple #[orZ (okI a b && okI c d) (min a c) (max b d), .bool (okI a b && okI c d)]) ∧ Below w.heap.size w w' := by
  rw [hkHA]
  have HA : Hid (∀ w : World, Calls Tryd.prog 9 #[ivV a b] w fun e w' => e = .returned (.bool false) ∧ ∃ q x y, w' = (((w.alloc (.cells #[.int .i64 a, .int .i64 b] 24)).alloc (.cells #[.int .i64 a, .int .i64 b] 24)).alloc (.cells #[.int .i64 x, .int .i64 y] 24)).drewN q) := Lib.hid fun w => by have := impl_IntervalOk a b w; rw [hkHA] at this; exact this
  clear hkHA
  unfold ivV at HA ⊢
  go_enter Tryd.func12, Tryd.ntmps12
  go_wp2_with (first | (go_at_call_of 9 (Value.agg #[Value.int IntKind.i64 a, Value.int IntKind.i64 b]); refine (HA.out _).mono ?_; rintro e w1 ⟨rfl, q, x, y, rfl⟩))
  all_goals (go_wp2; refine bodyPost_ret (v := .tuple #[.agg #[.int .i64 0, .int .i64 0], .bool false]) (by first | (simp [results, Tryd.results12, go_sem]; done) | simp [*, results, Tryd.results12, go_sem]) rfl ⟨rfl, (by repeat (first | exact Below.refl _ _ | refine Below.trans ?_ (Below.mono b1 (by (try simp) <;> omega)) | refine below_drewN ?_ _ | refine Below.drew ?_ | refine Below.setCell ?_ (by (try simp) <;> omega) _ | refine Below.alloc ?_ (by (try simp) <;> omega) _))⟩)

set_option maxRecDepth 100000 in
set_option maxHeartbeats 2000000 in
theorem impl_Hull_b (a b c d : Int) (hkHA : okI a b = true) (hkHB : okI c d = false) (w : World) :
    Calls Tryd.prog 12 #[ivV a b, ivV c d] w fun e w' => e = .returned (.tuple #[orZ (okI a b && okI c d) (min a c) (max b d), .bool (okI a b && okI c d)]) ∧ Below w.heap.size w w' := by
  rw [hkHA, hkHB]
  have HA : Hid (∀ w : World, Calls Tryd.prog 9 #[ivV a b] w fun e w' => e = .returned (.bool true) ∧ ∃ q x y, w' = (((w.alloc (.cells #[.int .i64 a, .int .i64 b] 24)).alloc (.cells #[.int .i64 a, .int .i64 b] 24)).alloc (.cells #[.int .i64 x, .int .i64 y] 24)).drewN q) := Lib.hid fun w => by have := impl_IntervalOk a b w; rw [hkHA] at this; exact this
  have HB : Hid (∀ w : World, Calls Tryd.prog 9 #[ivV c d] w fun e w' => e = .returned (.bool false) ∧ ∃ q x y, w' = (((w.alloc (.cells #[.int .i64 c, .int .i64 d] 24)).alloc (.cells #[.int .i64 c, .int .i64 d] 24)).alloc (.cells #[.int .i64 x, .int .i64 y] 24)).drewN q) := Lib.hid fun w => by have := impl_IntervalOk c d w; rw [hkHB] at this; exact this
  clear hkHA hkHB
  unfold ivV at HA HB ⊢
  go_enter Tryd.func12, Tryd.ntmps12
  go_wp2_with (first | (go_at_call_of 9 (Value.agg #[Value.int IntKind.i64 a, Value.int IntKind.i64 b]); refine (HA.out _).mono ?_; rintro e w1 ⟨rfl, q, x, y, rfl⟩) | (go_at_call_of 9 (Value.agg #[Value.int IntKind.i64 c, Value.int IntKind.i64 d]); refine (HB.out _).mono ?_; rintro e w1 ⟨rfl, q, x, y, rfl⟩))
  all_goals (go_wp2; refine bodyPost_ret (v := .tuple #[.agg #[.int .i64 0, .int .i64 0], .bool false]) (by first | (simp [results, Tryd.results12, go_sem]; done) | simp [*, results, Tryd.results12, go_sem]) rfl ⟨rfl, (by repeat (first | exact Below.refl _ _ | refine Below.trans ?_ (Below.mono b1 (by (try simp) <;> omega)) | refine below_drewN ?_ _ | refine Below.drew ?_ | refine Below.setCell ?_ (by (try simp) <;> omega) _ | refine Below.alloc ?_ (by (try simp) <;> omega) _))⟩)

set_option maxRecDepth 100000 in
set_option maxHeartbeats 2000000 in
theorem impl_Hull_0 (a b c d : Int) (hkHA : okI a b = true) (hkHB : okI c d = true) (hx : a ≤ c) (hy : b < d) (w : World) :
    Calls Tryd.prog 12 #[ivV a b, ivV c d] w fun e w' => e = .returned (.tuple #[orZ (okI a b && okI c d) (min a c) (max b d), .bool (okI a b && okI c d)]) ∧ Below w.heap.size w w' := by
  rw [hkHA, hkHB, show min a c = a from by omega, show max b d = d from by omega]
  have HA : Hid (∀ w : World, Calls Tryd.prog 9 #[ivV a b] w fun e w' => e = .returned (.bool true) ∧ ∃ q x y, w' = (((w.alloc (.cells #[.int .i64 a, .int .i64 b] 24)).alloc (.cells #[.int .i64 a, .int .i64 b] 24)).alloc (.cells #[.int .i64 x, .int .i64 y] 24)).drewN q) := Lib.hid fun w => by have := impl_IntervalOk a b w; rw [hkHA] at this; exact this
  have HB : Hid (∀ w : World, Calls Tryd.prog 9 #[ivV c d] w fun e w' => e = .returned (.bool true) ∧ ∃ q x y, w' = (((w.alloc (.cells #[.int .i64 c, .int .i64 d] 24)).alloc (.cells #[.int .i64 c, .int .i64 d] 24)).alloc (.cells #[.int .i64 x, .int .i64 y] 24)).drewN q) := Lib.hid fun w => by have := impl_IntervalOk c d w; rw [hkHB] at this; exact this
  clear hkHA hkHB
  unfold ivV at HA HB ⊢
  go_enter Tryd.func12, Tryd.ntmps12
  go_wp2_with (first | (go_at_call_of 9 (Value.agg #[Value.int IntKind.i64 a, Value.int IntKind.i64 b]); refine (HA.out _).mono ?_; rintro e w1 ⟨rfl, q, x, y, rfl⟩) | (go_at_call_of 9 (Value.agg #[Value.int IntKind.i64 c, Value.int IntKind.i64 d]); refine (HB.out _).mono ?_; rintro e w1 ⟨rfl, q, x, y, rfl⟩))
  try go_region_held3 (fun w' => w'.cell? ⟨w.heap.size, 0, none⟩ = some (.int .i64 a) ∧ w'.cell? ⟨w.heap.size, 1, none⟩ = some (.int .i64 b) ∧ w'.cell? ⟨w.heap.size + 1, 0, none⟩ = some (.int .i64 c) ∧ w'.cell? ⟨w.heap.size + 1, 1, none⟩ = some (.int .i64 d)) (go_keep) (fail)
  all_goals (go_wp2; refine bodyPost_ret (v := .tuple #[.agg #[.int .i64 a, .int .i64 d], .bool true]) (by first | (simp [results, Tryd.results12, go_sem]; done) | simp [*, results, Tryd.results12, go_sem]) rfl ⟨rfl, (by repeat (first | exact Below.refl _ _ | refine Below.trans ?_ (Below.mono b1 (by (try simp) <;> omega)) | refine below_drewN ?_ _ | refine Below.drew ?_ | refine Below.setCell ?_ (by (try simp) <;> omega) _ | refine Below.alloc ?_ (by (try simp) <;> omega) _))⟩)

set_option maxRecDepth 100000 in
set_option maxHeartbeats 2000000 in
theorem impl_Hull_1 (a b c d : Int) (hkHA : okI a b = true) (hkHB : okI c d = true) (hx : a ≤ c) (hy : d ≤ b) (w : World) :
    Calls Tryd.prog 12 #[ivV a b, ivV c d] w fun e w' => e = .returned (.tuple #[orZ (okI a b && okI c d) (min a c) (max b d), .bool (okI a b && okI c d)]) ∧ Below w.heap.size w w' := by
  rw [hkHA, hkHB, show min a c = a from by omega, show max b d = b from by omega]
  have HA : Hid (∀ w : World, Calls Tryd.prog 9 #[ivV a b] w fun e w' => e = .returned (.bool true) ∧ ∃ q x y, w' = (((w.alloc (.cells #[.int .i64 a, .int .i64 b] 24)).alloc (.cells #[.int .i64 a, .int .i64 b] 24)).alloc (.cells #[.int .i64 x, .int .i64 y] 24)).drewN q) := Lib.hid fun w => by have := impl_IntervalOk a b w; rw [hkHA] at this; exact this
  have HB : Hid (∀ w : World, Calls Tryd.prog 9 #[ivV c d] w fun e w' => e = .returned (.bool true) ∧ ∃ q x y, w' = (((w.alloc (.cells #[.int .i64 c, .int .i64 d] 24)).alloc (.cells #[.int .i64 c, .int .i64 d] 24)).alloc (.cells #[.int .i64 x, .int .i64 y] 24)).drewN q) := Lib.hid fun w => by have := impl_IntervalOk c d w; rw [hkHB] at this; exact this
  clear hkHA hkHB
  unfold ivV at HA HB ⊢
  go_enter Tryd.func12, Tryd.ntmps12
  go_wp2_with (first | (go_at_call_of 9 (Value.agg #[Value.int IntKind.i64 a, Value.int IntKind.i64 b]); refine (HA.out _).mono ?_; rintro e w1 ⟨rfl, q, x, y, rfl⟩) | (go_at_call_of 9 (Value.agg #[Value.int IntKind.i64 c, Value.int IntKind.i64 d]); refine (HB.out _).mono ?_; rintro e w1 ⟨rfl, q, x, y, rfl⟩))
  try go_region_held3 (fun w' => w'.cell? ⟨w.heap.size, 0, none⟩ = some (.int .i64 a) ∧ w'.cell? ⟨w.heap.size, 1, none⟩ = some (.int .i64 b) ∧ w'.cell? ⟨w.heap.size + 1, 0, none⟩ = some (.int .i64 c) ∧ w'.cell? ⟨w.heap.size + 1, 1, none⟩ = some (.int .i64 d)) (go_keep) (fail)
  all_goals (go_wp2; refine bodyPost_ret (v := .tuple #[.agg #[.int .i64 a, .int .i64 b], .bool true]) (by first | (simp [results, Tryd.results12, go_sem]; done) | simp [*, results, Tryd.results12, go_sem]) rfl ⟨rfl, (by repeat (first | exact Below.refl _ _ | refine Below.trans ?_ (Below.mono b1 (by (try simp) <;> omega)) | refine below_drewN ?_ _ | refine Below.drew ?_ | refine Below.setCell ?_ (by (try simp) <;> omega) _ | refine Below.alloc ?_ (by (try simp) <;> omega) _))⟩)

set_option maxRecDepth 100000 in
set_option maxHeartbeats 2000000 in
theorem impl_Hull_2 (a b c d : Int) (hkHA : okI a b = true) (hkHB : okI c d = true) (hx : c < a) (hy : b < d) (w : World) :
    Calls Tryd.prog 12 #[ivV a b, ivV c d] w fun e w' => e = .returned (.tuple #[orZ (okI a b && okI c d) (min a c) (max b d), .bool (okI a b && okI c d)]) ∧ Below w.heap.size w w' := by
  rw [hkHA, hkHB, show min a c = c from by omega, show max b d = d from by omega]
  have HA : Hid (∀ w : World, Calls Tryd.prog 9 #[ivV a b] w fun e w' => e = .returned (.bool true) ∧ ∃ q x y, w' = (((w.alloc (.cells #[.int .i64 a, .int .i64 b] 24)).alloc (.cells #[.int .i64 a, .int .i64 b] 24)).alloc (.cells #[.int .i64 x, .int .i64 y] 24)).drewN q) := Lib.hid fun w => by have := impl_IntervalOk a b w; rw [hkHA] at this; exact this
  have HB : Hid (∀ w : World, Calls Tryd.prog 9 #[ivV c d] w fun e w' => e = .returned (.bool true) ∧ ∃ q x y, w' = (((w.alloc (.cells #[.int .i64 c, .int .i64 d] 24)).alloc (.cells #[.int .i64 c, .int .i64 d] 24)).alloc (.cells #[.int .i64 x, .int .i64 y] 24)).drewN q) := Lib.hid fun w => by have := impl_IntervalOk c d w; rw [hkHB] at this; exact this
  clear hkHA hkHB
  unfold ivV at HA HB ⊢
  go_enter Tryd.func12, Tryd.ntmps12
  go_wp2_with (first | (go_at_call_of 9 (Value.agg #[Value.int IntKind.i64 a, Value.int IntKind.i64 b]); refine (HA.out _).mono ?_; rintro e w1 ⟨rfl, q, x, y, rfl⟩) | (go_at_call_of 9 (Value.agg #[Value.int IntKind.i64 c, Value.int IntKind.i64 d]); refine (HB.out _).mono ?_; rintro e w1 ⟨rfl, q, x, y, rfl⟩))
  try go_region_held3 (fun w' => w'.cell? ⟨w.heap.size, 0, none⟩ = some (.int .i64 a) ∧ w'.cell? ⟨w.heap.size, 1, none⟩ = some (.int .i64 b) ∧ w'.cell? ⟨w.heap.size + 1, 0, none⟩ = some (.int .i64 c) ∧ w'.cell? ⟨w.heap.size + 1, 1, none⟩ = some (.int .i64 d)) (go_keep) (fail)
  all_goals (go_wp2; refine bodyPost_ret (v := .tuple #[.agg #[.int .i64 c, .int .i64 d], .bool true]) (by first | (simp [results, Tryd.results12, go_sem]; done) | simp [*, results, Tryd.results12, go_sem]) rfl ⟨rfl, (by repeat (first | exact Below.refl _ _ | refine Below.trans ?_ (Below.mono b1 (by (try simp) <;> omega)) | refine below_drewN ?_ _ | refine Below.drew ?_ | refine Below.setCell ?_ (by (try simp) <;> omega) _ | refine Below.alloc ?_ (by (try simp) <;> omega) _))⟩)

set_option maxRecDepth 100000 in
set_option maxHeartbeats 2000000 in
theorem impl_Hull_3 (a b c d : Int) (hkHA : okI a b = true) (hkHB : okI c d = true) (hx : c < a) (hy : d ≤ b) (w : World) :
    Calls Tryd.prog 12 #[ivV a b, ivV c d] w fun e w' => e = .returned (.tuple #[orZ (okI a b && okI c d) (min a c) (max b d), .bool (okI a b && okI c d)]) ∧ Below w.heap.size w w' := by
  rw [hkHA, hkHB, show min a c = c from by omega, show max b d = b from by omega]
  have HA : Hid (∀ w : World, Calls Tryd.prog 9 #[ivV a b] w fun e w' => e = .returned (.bool true) ∧ ∃ q x y, w' = (((w.alloc (.cells #[.int .i64 a, .int .i64 b] 24)).alloc (.cells #[.int .i64 a, .int .i64 b] 24)).alloc (.cells #[.int .i64 x, .int .i64 y] 24)).drewN q) := Lib.hid fun w => by have := impl_IntervalOk a b w; rw [hkHA] at this; exact this
  have HB : Hid (∀ w : World, Calls Tryd.prog 9 #[ivV c d] w fun e w' => e = .returned (.bool true) ∧ ∃ q x y, w' = (((w.alloc (.cells #[.int .i64 c, .int .i64 d] 24)).alloc (.cells #[.int .i64 c, .int .i64 d] 24)).alloc (.cells #[.int .i64 x, .int .i64 y] 24)).drewN q) := Lib.hid fun w => by have := impl_IntervalOk c d w; rw [hkHB] at this; exact this
  clear hkHA hkHB
  unfold ivV at HA HB ⊢
  go_enter Tryd.func12, Tryd.ntmps12
  go_wp2_with (first | (go_at_call_of 9 (Value.agg #[Value.int IntKind.i64 a, Value.int IntKind.i64 b]); refine (HA.out _).mono ?_; rintro e w1 ⟨rfl, q, x, y, rfl⟩) | (go_at_call_of 9 (Value.agg #[Value.int IntKind.i64 c, Value.int IntKind.i64 d]); refine (HB.out _).mono ?_; rintro e w1 ⟨rfl, q, x, y, rfl⟩))
  try go_region_held3 (fun w' => w'.cell? ⟨w.heap.size, 0, none⟩ = some (.int .i64 a) ∧ w'.cell? ⟨w.heap.size, 1, none⟩ = some (.int .i64 b) ∧ w'.cell? ⟨w.heap.size + 1, 0, none⟩ = some (.int .i64 c) ∧ w'.cell? ⟨w.heap.size + 1, 1, none⟩ = some (.int .i64 d)) (go_keep) (fail)
  all_goals (go_wp2; refine bodyPost_ret (v := .tuple #[.agg #[.int .i64 c, .int .i64 b], .bool true]) (by first | (simp [results, Tryd.results12, go_sem]; done) | simp [*, results, Tryd.results12, go_sem]) rfl ⟨rfl, (by repeat (first | exact Below.refl _ _ | refine Below.trans ?_ (Below.mono b1 (by (try simp) <;> omega)) | refine below_drewN ?_ _ | refine Below.drew ?_ | refine Below.setCell ?_ (by (try simp) <;> omega) _ | refine Below.alloc ?_ (by (try simp) <;> omega) _))⟩)

theorem impl_Hull (a b c d : Int) (w : World) :
    Calls Tryd.prog 12 #[ivV a b, ivV c d] w fun e w' => e = .returned (.tuple #[orZ (okI a b && okI c d) (min a c) (max b d), .bool (okI a b && okI c d)]) ∧ Below w.heap.size w w' := by
  cases hA : okI a b with
  | false => have := impl_Hull_a a b c d hA w; rw [hA] at this; exact this
  | true =>
    cases hB : okI c d with
    | false => have := impl_Hull_b a b c d hA hB w; rw [hA, hB] at this; exact this
    | true =>
      rw [← hA]
      have e : okI a b = (okI a b && okI c d) := by rw [hA, hB]; rfl
      by_cases hx : a ≤ c
      · by_cases hy : b < d
        · have := impl_Hull_0 a b c d hA hB hx hy w; rw [hA, hB] at this; rw [hA]; exact this
        · have := impl_Hull_1 a b c d hA hB hx (by omega) w; rw [hA, hB] at this; rw [hA]; exact this
      · by_cases hy : b < d
        · have := impl_Hull_2 a b c d hA hB (by omega) hy w; rw [hA, hB] at this; rw [hA]; exact this
        · have := impl_Hull_3 a b c d hA hB (by omega) (by omega) w; rw [hA, hB] at this; rw [hA]; exact this

end Go.Proofs.YtfeechnlliaocaaDoor
