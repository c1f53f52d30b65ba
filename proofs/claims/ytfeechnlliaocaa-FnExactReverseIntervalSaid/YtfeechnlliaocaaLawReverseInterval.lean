/-
  laws.FnExactReverseInterval HOLDS: whatever the arguments, impl.ReverseInterval answers as spec.ReverseInterval does, and the arguments read as they did. No condition.
-/
import Derived.Test.YtfeechnlliaocaaRows
import Derived.Test.YtfeechnlliaocaaFrame
import Derived.Test.YtfeechnlliaocaaTo
import Derived.Test.YtfeechnlliaocaaIvZ
import Derived.Test.YtfeechnlliaocaaIvIR
import Derived.ProofKit
import Derived.Lib.SmallJoins
namespace Go.Proofs.Ytfeechnlliaocaa
open Go.RowKit Go.ChangeShapes Go.WideShapes Go.ChangeAt Go.WideMaps Go.WideElems
set_option linter.unusedVariables false
set_option linter.unusedSimpArgs false

set_option maxRecDepth 100000 in
set_option maxHeartbeats 1000000 in
theorem FnExactReverseInterval_walk (x0 y0 : Int) (w : World) :
    Calls Try.prog 8 #[.agg #[.int .i64 x0, .int .i64 y0]] w fun e w' => e = .returned (.bool true) ∧ Below w.heap.size w w' := by
  have HS := Lib.hid (spec_ReverseInterval x0 y0)
  have HI := Lib.hid (impl_ReverseInterval x0 y0)
  obtain ⟨lo, hi, hlh⟩ := orZ_iv (okI x0 y0) (-y0) (-x0)
  rw [hlh] at HS HI
  clear hlh

  unfold ivV at HS HI
  go_enter Try.func8, Try.ntmps8
  go_wp2_with (first | (go_at_call_of 12 (Value.agg #[Value.int IntKind.i64 x0, Value.int IntKind.i64 y0]); refine (toInterval_any x0 y0 _).mono ?_; rintro e v0 ⟨rfl, bv0⟩; unfold ivV; have s9 : ws.heap.size < v0.heap.size := Nat.lt_of_lt_of_le (by (try simp) <;> omega) bv0.size; have k90 : v0.cell? ⟨ws.heap.size, 0, none⟩ = some (.int .i64 lo) := (bv0.cell (p := ⟨ws.heap.size, 0, none⟩) (by (try simp) <;> omega)).trans (by go_simp); have k91 : v0.cell? ⟨ws.heap.size, 1, none⟩ = some (.int .i64 hi) := (bv0.cell (p := ⟨ws.heap.size, 1, none⟩) (by (try simp) <;> omega)).trans (by go_simp); have s0 : w.heap.size < v0.heap.size := Nat.lt_of_lt_of_le (by (try simp) <;> omega) bv0.size; have k00 : v0.cell? ⟨w.heap.size, 0, none⟩ = some (.int .i64 x0) := (bv0.cell (p := ⟨w.heap.size, 0, none⟩) (by (try simp) <;> omega)).trans (by go_simp); have k01 : v0.cell? ⟨w.heap.size, 1, none⟩ = some (.int .i64 y0) := (bv0.cell (p := ⟨w.heap.size, 1, none⟩) (by (try simp) <;> omega)).trans (by go_simp)) | (go_at_call_of 12 (Value.agg #[Value.int IntKind.i64 x0, Value.int IntKind.i64 y0]); refine (toInterval_any x0 y0 _).mono ?_; rintro e v0 ⟨rfl, bv0⟩; unfold ivV; have s0 : w.heap.size < v0.heap.size := Nat.lt_of_lt_of_le (by (try simp) <;> omega) bv0.size; have k00 : v0.cell? ⟨w.heap.size, 0, none⟩ = some (.int .i64 x0) := (bv0.cell (p := ⟨w.heap.size, 0, none⟩) (by (try simp) <;> omega)).trans (by go_simp); have k01 : v0.cell? ⟨w.heap.size, 1, none⟩ = some (.int .i64 y0) := (bv0.cell (p := ⟨w.heap.size, 1, none⟩) (by (try simp) <;> omega)).trans (by go_simp)) | (go_at_call 23; refine (HS.out _).mono ?_; rintro e ws ⟨rfl, bs⟩; have s0 : w.heap.size < ws.heap.size := Nat.lt_of_lt_of_le (by (try simp) <;> omega) bs.size; have k00 : ws.cell? ⟨w.heap.size, 0, none⟩ = some (.int .i64 x0) := (bs.cell (p := ⟨w.heap.size, 0, none⟩) (by (try simp) <;> omega)).trans (by go_simp); have k01 : ws.cell? ⟨w.heap.size, 1, none⟩ = some (.int .i64 y0) := (bs.cell (p := ⟨w.heap.size, 1, none⟩) (by (try simp) <;> omega)).trans (by go_simp)) | (go_at_call 24; refine (HI.out _).mono ?_; rintro e wi ⟨rfl, bi⟩; have s9 : ws.heap.size < wi.heap.size := Nat.lt_of_lt_of_le (by (try simp) <;> omega) bi.size; have k90 : wi.cell? ⟨ws.heap.size, 0, none⟩ = some (.int .i64 lo) := (bi.cell (p := ⟨ws.heap.size, 0, none⟩) (by (try simp) <;> omega)).trans (by go_simp); have k91 : wi.cell? ⟨ws.heap.size, 1, none⟩ = some (.int .i64 hi) := (bi.cell (p := ⟨ws.heap.size, 1, none⟩) (by (try simp) <;> omega)).trans (by go_simp); have s0 : w.heap.size < wi.heap.size := Nat.lt_of_lt_of_le (by (try simp) <;> omega) bi.size; have k00 : wi.cell? ⟨w.heap.size, 0, none⟩ = some (.int .i64 x0) := (bi.cell (p := ⟨w.heap.size, 0, none⟩) (by (try simp) <;> omega)).trans (by go_simp); have k01 : wi.cell? ⟨w.heap.size, 1, none⟩ = some (.int .i64 y0) := (bi.cell (p := ⟨w.heap.size, 1, none⟩) (by (try simp) <;> omega)).trans (by go_simp)) | (go_at_call 22; refine (eqInterval_any lo hi _).mono ?_; rintro e we ⟨rfl, be⟩; have s0 : w.heap.size < we.heap.size := Nat.lt_of_lt_of_le (by (try simp) <;> omega) be.size; have k00 : we.cell? ⟨w.heap.size, 0, none⟩ = some (.int .i64 x0) := (be.cell (p := ⟨w.heap.size, 0, none⟩) (by (try simp) <;> omega)).trans (by go_simp); have k01 : we.cell? ⟨w.heap.size, 1, none⟩ = some (.int .i64 y0) := (be.cell (p := ⟨w.heap.size, 1, none⟩) (by (try simp) <;> omega)).trans (by go_simp)))
  go_ret
  exact ⟨rfl, (by repeat (first | exact Below.refl _ _ | refine below_step (by assumption) (by (try simp) <;> omega) ?_ | refine below_drewN ?_ _ | refine Below.drew ?_ | refine Below.setCell ?_ (by (try simp) <;> omega) _ | refine Below.alloc ?_ (by (try simp) <;> omega) _))⟩

/-! ### FnExactReverseInterval: the row -/

set_option maxRecDepth 100000 in
theorem FnExactReverseInterval_lifted (os : Os) (started : os.Started) (H : Type) (enc : TypeId × Value → H) :
    ReturnsInHanded {} Try.checked os 8 .any (Rows.fnExactReverseIntervalSpec.pre6 enc Try.prog Try.f8 Rows.fnExactReverseIntervalRow.domain false) (Rows.fnExactReverseIntervalSpec.post enc Try.prog Try.f8 false true false false) := by
  refine returnsInHanded_of_change (C := Try.checked) (by kernel_rfl) started (by kernel_rfl) Try.func8
    (ChangeSpec.witness6 (enc := enc) (C := Try.checked) false ⟨#[], #[.agg #[.int .i64 0, .int .i64 0]], []⟩ 8 (by kernel_rfl) (by kernel_rfl) (by kernel_rfl) (by kernel_rfl)) ?_
  intro W base args ds gs before hval0 hW hcnd _
  have hval : ∀ (j : Nat) t v, Try.f8.params[j]? = some t → args[j]? = some v → Value.okWide Try.prog W .any base t v := hval0
  have hW2 := hW
  obtain ⟨p, q, hA0, hV, hpq, hfz, hnd⟩ := hW2
  have hA : DataW.TrodAll enc Try.prog W 0 (fun _ => true) true Try.f8.params.toList args.toList ds p := hA0
  rw [Try.params8] at hA hval
  obtain ⟨v0, d0, hargs, hds, h0⟩ := trodAll_one hA
  obtain ⟨hgs, hq⟩ := trodVars_none hV
  subst hargs
  subst hds
  subst hgs
  obtain ⟨x0, y0, rfl, wx0, wy0⟩ := open_iv (hval 0 23 v0 rfl rfl) h0
  refine (FnExactReverseInterval_walk x0 y0 W).mono fun e W2 ⟨he, hb⟩ => ?_
  subst he
  exact ⟨_, rfl, law_post (by kernel_rfl) (by rw [Try.params8]; decide +kernel) (by kernel_rfl) Try.underlying4 rfl ⟨rfl, rfl, rfl⟩ hW hb⟩

theorem FnExactReverseInterval_holds : Rows.FnExactReverseIntervalSaid :=
  OpenClaim.holds_of_wide 8 Try.f8 rfl rfl rfl rfl rfl rfl rfl ⟨rfl, rfl, rfl, rfl, rfl⟩ rfl rfl rfl rfl rfl (by kernel_rfl) Try.func8 (by kernel_rfl)
    (of_decide_eq_true (by kernel_rfl)) (by unfold Func.isWrapper; first | (rw [if_pos (by decide +kernel)]; kernel_rfl) | (rw [if_neg (by decide +kernel)]; exact ⟨rfl, rfl⟩))
    (fun os started H enc _ => FnExactReverseInterval_lifted os started H enc)

end Go.Proofs.Ytfeechnlliaocaa
