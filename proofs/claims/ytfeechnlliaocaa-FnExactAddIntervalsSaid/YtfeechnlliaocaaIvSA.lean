/-
  spec.AddIntervals.
-/
import Derived.Test.YtfeechnlliaocaaProg
import Derived.Test.YtfeechnlliaocaaIvA
import Derived.Test.YtfeechnlliaocaaIvOk
import Derived.Test.YtfeechnlliaocaaIvC
import Derived.WalkKit
import Derived.WalkSpells
import Derived.WalkLawsBesides
import Derived.Deep.QuietTactic
import Derived.Deep.RegionWith
import Derived.Deep.RegionHeld3
import Derived.BigQuiet
import Derived.Lib.Hide
import Derived.Below
namespace Go.Proofs.Ytfeechnlliaocaa
open Go.RowKit
set_option linter.unusedVariables false
set_option linter.unusedSimpArgs false

set_option maxRecDepth 100000 in
set_option maxHeartbeats 4000000 in
theorem spec_Add_a (a b c d : Int) (hkHA : okI a b = false) (w : World) :
    Calls Try.prog 20 #[ivV a b, ivV c d] w fun e w' => e = .returned (orZ (okI a b && okI c d && okI (lowI a c) (addI b d)) (lowI a c) (addI b d)) ∧ Below w.heap.size w w' := by
  rw [hkHA]
  have HL := Lib.hid (spec_l02Low a c)
  have HU := Lib.hid (spec_AddBounds b d)
  obtain ⟨lo, hlo⟩ : ∃ x, x = lowI a c := ⟨_, rfl⟩
  obtain ⟨hi, hhi⟩ : ∃ x, x = addI b d := ⟨_, rfl⟩
  rw [← hlo] at HL
  rw [← hhi] at HU
  rw [← hlo, ← hhi]
  clear hlo hhi
  have HA : Hid (∀ w : World, Calls Try.prog 11 #[ivV a b] w fun e w' => e = .returned (.bool false) ∧ w' = w.alloc (.cells #[.int .i64 a, .int .i64 b] 25)) := Lib.hid fun w => by have := spec_IntervalOk a b w; rw [hkHA] at this; exact this
  clear hkHA
  unfold ivV at HA ⊢
  go_enter Try.func20, Try.ntmps20
  go_wp2
  go_region_held3 (fun w' => w'.cell? ⟨w.heap.size, 0, none⟩ = some (.int .i64 a) ∧ w'.cell? ⟨w.heap.size, 1, none⟩ = some (.int .i64 b) ∧ w'.cell? ⟨w.heap.size + 1, 0, none⟩ = some (.int .i64 c) ∧ w'.cell? ⟨w.heap.size + 1, 1, none⟩ = some (.int .i64 d)) (go_keep) (first | (go_at_call 32; refine (HL.out _).mono ?_; rintro e w1 ⟨rfl, rfl⟩) | (go_at_call 18; refine (HU.out _).mono ?_; rintro e w1 ⟨rfl, rfl⟩))
  all_goals (go_wp2_with (first | (go_at_call_of 11 (Value.agg #[Value.int IntKind.i64 a, Value.int IntKind.i64 b]); refine (HA.out _).mono ?_; rintro e w1 ⟨rfl, rfl⟩)))
  all_goals (go_wp2; refine bodyPost_ret (v := .agg #[.int .i64 0, .int .i64 0]) (by first | (simp [results, Try.results20, go_sem]; done) | simp [*, results, Try.results20, go_sem]) rfl ⟨rfl, (by repeat (first | exact Below.refl _ _ | refine Below.trans ?_ (Below.mono b1 (by (try simp) <;> omega)) | refine below_drewN ?_ _ | refine Below.drew ?_ | refine Below.setCell ?_ (by (try simp) <;> omega) _ | refine Below.alloc ?_ (by (try simp) <;> omega) _))⟩)

set_option maxRecDepth 100000 in
set_option maxHeartbeats 4000000 in
theorem spec_Add_b (a b c d : Int) (hkHA : okI a b = true) (hkHB : okI c d = false) (w : World) :
    Calls Try.prog 20 #[ivV a b, ivV c d] w fun e w' => e = .returned (orZ (okI a b && okI c d && okI (lowI a c) (addI b d)) (lowI a c) (addI b d)) ∧ Below w.heap.size w w' := by
  rw [hkHA, hkHB]
  have HL := Lib.hid (spec_l02Low a c)
  have HU := Lib.hid (spec_AddBounds b d)
  obtain ⟨lo, hlo⟩ : ∃ x, x = lowI a c := ⟨_, rfl⟩
  obtain ⟨hi, hhi⟩ : ∃ x, x = addI b d := ⟨_, rfl⟩
  rw [← hlo] at HL
  rw [← hhi] at HU
  rw [← hlo, ← hhi]
  clear hlo hhi
  have HA : Hid (∀ w : World, Calls Try.prog 11 #[ivV a b] w fun e w' => e = .returned (.bool true) ∧ w' = w.alloc (.cells #[.int .i64 a, .int .i64 b] 25)) := Lib.hid fun w => by have := spec_IntervalOk a b w; rw [hkHA] at this; exact this
  have HB : Hid (∀ w : World, Calls Try.prog 11 #[ivV c d] w fun e w' => e = .returned (.bool false) ∧ w' = w.alloc (.cells #[.int .i64 c, .int .i64 d] 25)) := Lib.hid fun w => by have := spec_IntervalOk c d w; rw [hkHB] at this; exact this
  clear hkHA hkHB
  unfold ivV at HA HB ⊢
  go_enter Try.func20, Try.ntmps20
  go_wp2
  go_region_held3 (fun w' => w'.cell? ⟨w.heap.size, 0, none⟩ = some (.int .i64 a) ∧ w'.cell? ⟨w.heap.size, 1, none⟩ = some (.int .i64 b) ∧ w'.cell? ⟨w.heap.size + 1, 0, none⟩ = some (.int .i64 c) ∧ w'.cell? ⟨w.heap.size + 1, 1, none⟩ = some (.int .i64 d)) (go_keep) (first | (go_at_call 32; refine (HL.out _).mono ?_; rintro e w1 ⟨rfl, rfl⟩) | (go_at_call 18; refine (HU.out _).mono ?_; rintro e w1 ⟨rfl, rfl⟩))
  all_goals (go_wp2_with (first | (go_at_call_of 11 (Value.agg #[Value.int IntKind.i64 a, Value.int IntKind.i64 b]); refine (HA.out _).mono ?_; rintro e w1 ⟨rfl, rfl⟩) | (go_at_call_of 11 (Value.agg #[Value.int IntKind.i64 c, Value.int IntKind.i64 d]); refine (HB.out _).mono ?_; rintro e w1 ⟨rfl, rfl⟩)))
  all_goals (go_wp2; refine bodyPost_ret (v := .agg #[.int .i64 0, .int .i64 0]) (by first | (simp [results, Try.results20, go_sem]; done) | simp [*, results, Try.results20, go_sem]) rfl ⟨rfl, (by repeat (first | exact Below.refl _ _ | refine Below.trans ?_ (Below.mono b1 (by (try simp) <;> omega)) | refine below_drewN ?_ _ | refine Below.drew ?_ | refine Below.setCell ?_ (by (try simp) <;> omega) _ | refine Below.alloc ?_ (by (try simp) <;> omega) _))⟩)

set_option maxRecDepth 100000 in
set_option maxHeartbeats 4000000 in
theorem spec_Add_c (a b c d : Int) (hkHA : okI a b = true) (hkHB : okI c d = true) (hkHC : okI (lowI a c) (addI b d) = false) (w : World) :
    Calls Try.prog 20 #[ivV a b, ivV c d] w fun e w' => e = .returned (orZ (okI a b && okI c d && okI (lowI a c) (addI b d)) (lowI a c) (addI b d)) ∧ Below w.heap.size w w' := by
  rw [hkHA, hkHB, hkHC]
  have HL := Lib.hid (spec_l02Low a c)
  have HU := Lib.hid (spec_AddBounds b d)
  obtain ⟨lo, hlo⟩ : ∃ x, x = lowI a c := ⟨_, rfl⟩
  obtain ⟨hi, hhi⟩ : ∃ x, x = addI b d := ⟨_, rfl⟩
  rw [← hlo] at HL
  rw [← hhi] at HU
  rw [← hlo, ← hhi] at hkHC
  rw [← hlo, ← hhi]
  clear hlo hhi
  have HA : Hid (∀ w : World, Calls Try.prog 11 #[ivV a b] w fun e w' => e = .returned (.bool true) ∧ w' = w.alloc (.cells #[.int .i64 a, .int .i64 b] 25)) := Lib.hid fun w => by have := spec_IntervalOk a b w; rw [hkHA] at this; exact this
  have HB : Hid (∀ w : World, Calls Try.prog 11 #[ivV c d] w fun e w' => e = .returned (.bool true) ∧ w' = w.alloc (.cells #[.int .i64 c, .int .i64 d] 25)) := Lib.hid fun w => by have := spec_IntervalOk c d w; rw [hkHB] at this; exact this
  have HC : Hid (∀ w : World, Calls Try.prog 11 #[ivV lo hi] w fun e w' => e = .returned (.bool false) ∧ w' = w.alloc (.cells #[.int .i64 lo, .int .i64 hi] 25)) := Lib.hid fun w => by have := spec_IntervalOk lo hi w; rw [hkHC] at this; exact this
  clear hkHA hkHB hkHC
  unfold ivV at HA HB HC ⊢
  go_enter Try.func20, Try.ntmps20
  go_wp2
  go_region_held3 (fun w' => w'.cell? ⟨w.heap.size, 0, none⟩ = some (.int .i64 a) ∧ w'.cell? ⟨w.heap.size, 1, none⟩ = some (.int .i64 b) ∧ w'.cell? ⟨w.heap.size + 1, 0, none⟩ = some (.int .i64 c) ∧ w'.cell? ⟨w.heap.size + 1, 1, none⟩ = some (.int .i64 d)) (go_keep) (first | (go_at_call 32; refine (HL.out _).mono ?_; rintro e w1 ⟨rfl, rfl⟩) | (go_at_call 18; refine (HU.out _).mono ?_; rintro e w1 ⟨rfl, rfl⟩))
  all_goals (go_wp2_with (first | (go_at_call_of 11 (Value.agg #[Value.int IntKind.i64 a, Value.int IntKind.i64 b]); refine (HA.out _).mono ?_; rintro e w1 ⟨rfl, rfl⟩) | (go_at_call_of 11 (Value.agg #[Value.int IntKind.i64 c, Value.int IntKind.i64 d]); refine (HB.out _).mono ?_; rintro e w1 ⟨rfl, rfl⟩) | (go_at_call_of 11 (Value.agg #[Value.int IntKind.i64 lo, Value.int IntKind.i64 hi]); refine (HC.out _).mono ?_; rintro e w1 ⟨rfl, rfl⟩)))
  all_goals (go_wp2; refine bodyPost_ret (v := .agg #[.int .i64 0, .int .i64 0]) (by first | (simp [results, Try.results20, go_sem]; done) | simp [*, results, Try.results20, go_sem]) rfl ⟨rfl, (by repeat (first | exact Below.refl _ _ | refine Below.trans ?_ (Below.mono b1 (by (try simp) <;> omega)) | refine below_drewN ?_ _ | refine Below.drew ?_ | refine Below.setCell ?_ (by (try simp) <;> omega) _ | refine Below.alloc ?_ (by (try simp) <;> omega) _))⟩)

set_option maxRecDepth 100000 in
set_option maxHeartbeats 4000000 in
theorem spec_Add_d (a b c d : Int) (hkHA : okI a b = true) (hkHB : okI c d = true) (hkHC : okI (lowI a c) (addI b d) = true) (w : World) :
    Calls Try.prog 20 #[ivV a b, ivV c d] w fun e w' => e = .returned (orZ (okI a b && okI c d && okI (lowI a c) (addI b d)) (lowI a c) (addI b d)) ∧ Below w.heap.size w w' := by
  rw [hkHA, hkHB, hkHC]
  have HL := Lib.hid (spec_l02Low a c)
  have HU := Lib.hid (spec_AddBounds b d)
  obtain ⟨lo, hlo⟩ : ∃ x, x = lowI a c := ⟨_, rfl⟩
  obtain ⟨hi, hhi⟩ : ∃ x, x = addI b d := ⟨_, rfl⟩
  rw [← hlo] at HL
  rw [← hhi] at HU
  rw [← hlo, ← hhi] at hkHC
  rw [← hlo, ← hhi]
  clear hlo hhi
  have HA : Hid (∀ w : World, Calls Try.prog 11 #[ivV a b] w fun e w' => e = .returned (.bool true) ∧ w' = w.alloc (.cells #[.int .i64 a, .int .i64 b] 25)) := Lib.hid fun w => by have := spec_IntervalOk a b w; rw [hkHA] at this; exact this
  have HB : Hid (∀ w : World, Calls Try.prog 11 #[ivV c d] w fun e w' => e = .returned (.bool true) ∧ w' = w.alloc (.cells #[.int .i64 c, .int .i64 d] 25)) := Lib.hid fun w => by have := spec_IntervalOk c d w; rw [hkHB] at this; exact this
  have HC : Hid (∀ w : World, Calls Try.prog 11 #[ivV lo hi] w fun e w' => e = .returned (.bool true) ∧ w' = w.alloc (.cells #[.int .i64 lo, .int .i64 hi] 25)) := Lib.hid fun w => by have := spec_IntervalOk lo hi w; rw [hkHC] at this; exact this
  clear hkHA hkHB hkHC
  unfold ivV at HA HB HC ⊢
  go_enter Try.func20, Try.ntmps20
  go_wp2
  go_region_held3 (fun w' => w'.cell? ⟨w.heap.size, 0, none⟩ = some (.int .i64 a) ∧ w'.cell? ⟨w.heap.size, 1, none⟩ = some (.int .i64 b) ∧ w'.cell? ⟨w.heap.size + 1, 0, none⟩ = some (.int .i64 c) ∧ w'.cell? ⟨w.heap.size + 1, 1, none⟩ = some (.int .i64 d)) (go_keep) (first | (go_at_call 32; refine (HL.out _).mono ?_; rintro e w1 ⟨rfl, rfl⟩) | (go_at_call 18; refine (HU.out _).mono ?_; rintro e w1 ⟨rfl, rfl⟩))
  all_goals (go_wp2_with (first | (go_at_call_of 11 (Value.agg #[Value.int IntKind.i64 a, Value.int IntKind.i64 b]); refine (HA.out _).mono ?_; rintro e w1 ⟨rfl, rfl⟩) | (go_at_call_of 11 (Value.agg #[Value.int IntKind.i64 c, Value.int IntKind.i64 d]); refine (HB.out _).mono ?_; rintro e w1 ⟨rfl, rfl⟩) | (go_at_call_of 11 (Value.agg #[Value.int IntKind.i64 lo, Value.int IntKind.i64 hi]); refine (HC.out _).mono ?_; rintro e w1 ⟨rfl, rfl⟩)))
  all_goals (go_wp2; refine bodyPost_ret (v := .agg #[.int .i64 lo, .int .i64 hi]) (by first | (simp [results, Try.results20, go_sem]; done) | simp [*, results, Try.results20, go_sem]) rfl ⟨rfl, (by repeat (first | exact Below.refl _ _ | refine Below.trans ?_ (Below.mono b1 (by (try simp) <;> omega)) | refine below_drewN ?_ _ | refine Below.drew ?_ | refine Below.setCell ?_ (by (try simp) <;> omega) _ | refine Below.alloc ?_ (by (try simp) <;> omega) _))⟩)

theorem spec_AddIntervals (a b c d : Int) (w : World) :
    Calls Try.prog 20 #[ivV a b, ivV c d] w fun e w' => e = .returned (orZ (okI a b && okI c d && okI (lowI a c) (addI b d)) (lowI a c) (addI b d)) ∧ Below w.heap.size w w' := by
  cases hA : okI a b with
  | false => have := spec_Add_a a b c d hA w; rw [hA] at this; exact this
  | true =>
    cases hB : okI c d with
    | false => have := spec_Add_b a b c d hA hB w; rw [hA, hB] at this; exact this
    | true =>
      cases hC : okI (lowI a c) (addI b d) with
      | false => have := spec_Add_c a b c d hA hB hC w; rw [hA, hB, hC] at this; exact this
      | true => have := spec_Add_d a b c d hA hB hC w; rw [hA, hB, hC] at this; exact this

end Go.Proofs.Ytfeechnlliaocaa
