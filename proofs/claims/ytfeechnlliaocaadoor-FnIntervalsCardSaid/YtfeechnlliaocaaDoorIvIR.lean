/-
  impl.ReverseInterval.
-/
import Derived.Test.YtfeechnlliaocaaDoorProg
import Derived.Test.YtfeechnlliaocaaDoorIvA
import Derived.Test.YtfeechnlliaocaaDoorIvOk
import Derived.Test.YtfeechnlliaocaaDoorIvC
import Derived.Test.YtfeechnlliaocaaDoorIvZ
import Derived.WalkKit
import Derived.WalkSpells
import Derived.WalkLawsBesides
import Derived.Deep.QuietTactic
import Derived.Deep.RegionWith
import Derived.Deep.RegionHeld3
import Derived.BigQuiet
import Derived.Lib.Hide
import Derived.Below
namespace Go.Proofs.YtfeechnlliaocaaDoor
open Go.RowKit
set_option linter.unusedVariables false
set_option linter.unusedSimpArgs false

theorem impl_orZero_true' (l h : Int) (hk : okI l h = true) (w : World) :
    Calls Tryd.prog 28 #[ivV l h] w fun e w' => e = .returned (ivV l h) ∧ Below w.heap.size w w' := by
  have := impl_orZero_true l h hk w; rw [hk] at this; exact this

theorem impl_orZero_false' (l h : Int) (hk : okI l h = false) (w : World) :
    Calls Tryd.prog 28 #[ivV l h] w fun e w' => e = .returned (ivV 0 0) ∧ Below w.heap.size w w' := by
  have := impl_orZero_false l h hk w; rw [hk] at this; exact this

set_option maxRecDepth 100000 in
set_option maxHeartbeats 1000000 in
theorem impl_Reverse_true (l h : Int) (hkHZ : okI l h = true) (w : World) :
    Calls Tryd.prog 10 #[ivV l h] w fun e w' => e = .returned (orZ (okI l h) (-h) (-l)) ∧ Below w.heap.size w w' := by
  rw [hkHZ]
  have HZ : Hid (∀ w : World, Calls Tryd.prog 28 #[ivV l h] w fun e w' => e = .returned (ivV l h) ∧ Below w.heap.size w w') := Lib.hid fun w => impl_orZero_true' l h hkHZ w
  have hb := okI_of hkHZ
  have e1 : wrap64 (-h) = -h := IntWalk.wrap64_in _ (by omega)
  have e2 : wrap64 (-l) = -l := IntWalk.wrap64_in _ (by omega)
  clear hb
  clear hkHZ
  unfold ivV at HZ ⊢
  go_enter Tryd.func10, Tryd.ntmps10
  go_wp2_with (go_at_call 28; refine (HZ.out _).mono ?_; rintro e w1 ⟨rfl, b1⟩; have hc1 := fun x hx => b1.cell (p := x) hx; have hf1 := fun x hx => b1.frozen (p := x) hx; have s0 : w.heap.size < w1.heap.size := Nat.lt_of_lt_of_le (by (try simp) <;> omega) b1.size; have s1 : w.heap.size + 1 < w1.heap.size := Nat.lt_of_lt_of_le (by (try simp) <;> omega) b1.size; have t0 : w.heap.size ≤ w1.heap.size := (by omega); have t1 : w.heap.size ≤ w1.heap.size + 1 := (by omega); have t2 : w.heap.size ≤ w1.heap.size + 1 + 1 := (by omega); have u0 : w.heap.size < w1.heap.size + 1 := (by omega); have u1 : w.heap.size < w1.heap.size + 1 + 1 := (by omega); have u2 : w.heap.size < w1.heap.size + 1 + 1 + 1 := (by omega))
  all_goals (go_wp2; refine bodyPost_ret (v := .agg #[.int .i64 (-h), .int .i64 (-l)]) (by first | (simp [results, Tryd.results10, go_sem]; done) | simp [*, results, Tryd.results10, go_sem]) rfl ⟨rfl, (by repeat (first | exact Below.refl _ _ | refine Below.trans ?_ (Below.mono b1 (by (try simp) <;> omega)) | refine below_drewN ?_ _ | refine Below.drew ?_ | refine Below.setCell ?_ (by (try simp) <;> omega) _ | refine Below.alloc ?_ (by (try simp) <;> omega) _))⟩)

set_option maxRecDepth 100000 in
set_option maxHeartbeats 1000000 in
theorem impl_Reverse_false (l h : Int) (hkHZ : okI l h = false) (w : World) :
    Calls Tryd.prog 10 #[ivV l h] w fun e w' => e = .returned (orZ (okI l h) (-h) (-l)) ∧ Below w.heap.size w w' := by
  rw [hkHZ]
  have HZ : Hid (∀ w : World, Calls Tryd.prog 28 #[ivV l h] w fun e w' => e = .returned (ivV 0 0) ∧ Below w.heap.size w w') := Lib.hid fun w => impl_orZero_false' l h hkHZ w
  clear hkHZ
  unfold ivV at HZ ⊢
  go_enter Tryd.func10, Tryd.ntmps10
  go_wp2_with (go_at_call 28; refine (HZ.out _).mono ?_; rintro e w1 ⟨rfl, b1⟩; have hc1 := fun x hx => b1.cell (p := x) hx; have hf1 := fun x hx => b1.frozen (p := x) hx; have s0 : w.heap.size < w1.heap.size := Nat.lt_of_lt_of_le (by (try simp) <;> omega) b1.size; have s1 : w.heap.size + 1 < w1.heap.size := Nat.lt_of_lt_of_le (by (try simp) <;> omega) b1.size; have t0 : w.heap.size ≤ w1.heap.size := (by omega); have t1 : w.heap.size ≤ w1.heap.size + 1 := (by omega); have t2 : w.heap.size ≤ w1.heap.size + 1 + 1 := (by omega); have u0 : w.heap.size < w1.heap.size + 1 := (by omega); have u1 : w.heap.size < w1.heap.size + 1 + 1 := (by omega); have u2 : w.heap.size < w1.heap.size + 1 + 1 + 1 := (by omega))
  all_goals (go_wp2; refine bodyPost_ret (v := .agg #[.int .i64 0, .int .i64 0]) (by first | (simp [results, Tryd.results10, go_sem]; done) | simp [*, results, Tryd.results10, go_sem]) rfl ⟨rfl, (by repeat (first | exact Below.refl _ _ | refine Below.trans ?_ (Below.mono b1 (by (try simp) <;> omega)) | refine below_drewN ?_ _ | refine Below.drew ?_ | refine Below.setCell ?_ (by (try simp) <;> omega) _ | refine Below.alloc ?_ (by (try simp) <;> omega) _))⟩)

theorem impl_ReverseInterval (l h : Int) (w : World) :
    Calls Tryd.prog 10 #[ivV l h] w fun e w' => e = .returned (orZ (okI l h) (-h) (-l)) ∧ Below w.heap.size w w' := by
  cases hk : okI l h with
  | true => have := impl_Reverse_true l h hk w; rw [hk] at this; exact this
  | false => have := impl_Reverse_false l h hk w; rw [hk] at this; exact this

end Go.Proofs.YtfeechnlliaocaaDoor
