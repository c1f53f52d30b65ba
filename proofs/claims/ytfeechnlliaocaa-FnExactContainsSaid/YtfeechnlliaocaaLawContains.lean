/-
  laws.FnExactContains HOLDS: whatever the arguments, impl.Contains answers as spec.Contains does, and the arguments read as they did. No condition.
-/
import Derived.Test.YtfeechnlliaocaaRows
import Derived.Test.YtfeechnlliaocaaFrame
import Derived.Test.YtfeechnlliaocaaTo
import Derived.Test.YtfeechnlliaocaaIvC
import Derived.ProofKit
import Derived.Lib.SmallJoins
namespace Go.Proofs.Ytfeechnlliaocaa
open Go.RowKit Go.ChangeShapes Go.WideShapes Go.ChangeAt Go.WideMaps Go.WideElems
set_option linter.unusedVariables false
set_option linter.unusedSimpArgs false

set_option maxRecDepth 100000 in
set_option maxHeartbeats 1000000 in
theorem FnExactContains_walk (x0 y0 a1 : Int) (w : World) :
    Calls Try.prog 4 #[.agg #[.int .i64 x0, .int .i64 y0], .int .i64 a1] w fun e w' => e = .returned (.bool true) ∧ Below w.heap.size w w' := by
  have HS := Lib.hid (spec_Contains x0 y0 a1)
  have HI := Lib.hid (impl_Contains x0 y0 a1)
  obtain ⟨kb, hkb⟩ : ∃ z, z = inI x0 y0 a1 := ⟨_, rfl⟩
  rw [← hkb] at HS HI
  clear hkb
  have hbb : ((kb : Bool) != kb) = false := by simp
  unfold ivV at HS HI
  go_enter Try.func4, Try.ntmps4
  go_wp2_with (first | (go_at_call_of 12 (Value.agg #[Value.int IntKind.i64 x0, Value.int IntKind.i64 y0]); refine (toInterval_any x0 y0 _).mono ?_; rintro e v0 ⟨rfl, bv0⟩; unfold ivV; have s0 : w.heap.size < v0.heap.size := Nat.lt_of_lt_of_le (by (try simp) <;> omega) bv0.size; have k00 : v0.cell? ⟨w.heap.size, 0, none⟩ = some (.int .i64 x0) := (bv0.cell (p := ⟨w.heap.size, 0, none⟩) (by (try simp) <;> omega)).trans (by go_simp); have k01 : v0.cell? ⟨w.heap.size, 1, none⟩ = some (.int .i64 y0) := (bv0.cell (p := ⟨w.heap.size, 1, none⟩) (by (try simp) <;> omega)).trans (by go_simp)) | (go_at_call 14; refine (HS.out _).mono ?_; rintro e ws ⟨rfl, bs⟩; have s0 : w.heap.size < ws.heap.size := Nat.lt_of_lt_of_le (by (try simp) <;> omega) bs.size; have k00 : ws.cell? ⟨w.heap.size, 0, none⟩ = some (.int .i64 x0) := (bs.cell (p := ⟨w.heap.size, 0, none⟩) (by (try simp) <;> omega)).trans (by go_simp); have k01 : ws.cell? ⟨w.heap.size, 1, none⟩ = some (.int .i64 y0) := (bs.cell (p := ⟨w.heap.size, 1, none⟩) (by (try simp) <;> omega)).trans (by go_simp)) | (go_at_call 15; refine (HI.out _).mono ?_; rintro e wi ⟨rfl, bi⟩; have s0 : w.heap.size < wi.heap.size := Nat.lt_of_lt_of_le (by (try simp) <;> omega) bi.size; have k00 : wi.cell? ⟨w.heap.size, 0, none⟩ = some (.int .i64 x0) := (bi.cell (p := ⟨w.heap.size, 0, none⟩) (by (try simp) <;> omega)).trans (by go_simp); have k01 : wi.cell? ⟨w.heap.size, 1, none⟩ = some (.int .i64 y0) := (bi.cell (p := ⟨w.heap.size, 1, none⟩) (by (try simp) <;> omega)).trans (by go_simp)))
  go_ret
  exact ⟨rfl, (by repeat (first | exact Below.refl _ _ | refine below_step (by assumption) (by (try simp) <;> omega) ?_ | refine below_drewN ?_ _ | refine Below.drew ?_ | refine Below.setCell ?_ (by (try simp) <;> omega) _ | refine Below.alloc ?_ (by (try simp) <;> omega) _))⟩

/-! ### FnExactContains: the row -/

set_option maxRecDepth 100000 in
theorem FnExactContains_lifted (os : Os) (started : os.Started) (H : Type) (enc : TypeId × Value → H) :
    ReturnsInHanded {} Try.checked os 4 .any (Rows.fnExactContainsSpec.pre6 enc Try.prog Try.f4 Rows.fnExactContainsRow.domain false) (Rows.fnExactContainsSpec.post enc Try.prog Try.f4 false true false false) := by
  refine returnsInHanded_of_change (C := Try.checked) (by kernel_rfl) started (by kernel_rfl) Try.func4
    (ChangeSpec.witness6 (enc := enc) (C := Try.checked) false ⟨#[], #[.agg #[.int .i64 0, .int .i64 0], .int .i64 0], []⟩ 8 (by kernel_rfl) (by kernel_rfl) (by kernel_rfl) (by kernel_rfl)) ?_
  intro W base args ds gs before hval0 hW hcnd _
  have hval : ∀ (j : Nat) t v, Try.f4.params[j]? = some t → args[j]? = some v → Value.okWide Try.prog W .any base t v := hval0
  have hW2 := hW
  obtain ⟨p, q, hA0, hV, hpq, hfz, hnd⟩ := hW2
  have hA : DataW.TrodAll enc Try.prog W 0 (fun _ => true) true Try.f4.params.toList args.toList ds p := hA0
  rw [Try.params4] at hA hval
  obtain ⟨v0, v1, d0, d1, p0, p1, hargs, hds, hp, h0, h1⟩ := trodAll_two hA
  obtain ⟨hgs, hq⟩ := trodVars_none hV
  subst hargs
  subst hds
  subst hgs
  obtain ⟨x0, y0, rfl, wx0, wy0⟩ := open_iv (hval 0 23 v0 rfl rfl) h0
  obtain ⟨a1, rfl, rfl, _, w1⟩ := open_int Try.underlying3 (hval 1 3 v1 rfl rfl) h1
  refine (FnExactContains_walk x0 y0 a1 W).mono fun e W2 ⟨he, hb⟩ => ?_
  subst he
  exact ⟨_, rfl, law_post (by kernel_rfl) (by rw [Try.params4]; decide +kernel) (by kernel_rfl) Try.underlying4 rfl ⟨rfl, rfl, rfl⟩ hW hb⟩

theorem FnExactContains_holds : Rows.FnExactContainsSaid :=
  OpenClaim.holds_of_wide 4 Try.f4 rfl rfl rfl rfl rfl rfl rfl ⟨rfl, rfl, rfl, rfl, rfl⟩ rfl rfl rfl rfl rfl (by kernel_rfl) Try.func4 (by kernel_rfl)
    (of_decide_eq_true (by kernel_rfl)) (by unfold Func.isWrapper; first | (rw [if_pos (by decide +kernel)]; kernel_rfl) | (rw [if_neg (by decide +kernel)]; exact ⟨rfl, rfl⟩))
    (fun os started H enc _ => FnExactContains_lifted os started H enc)

end Go.Proofs.Ytfeechnlliaocaa
