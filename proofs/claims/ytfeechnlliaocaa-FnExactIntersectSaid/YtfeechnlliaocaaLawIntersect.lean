/-
  laws.FnExactIntersect HOLDS: whatever the arguments, impl.Intersect answers as spec.Intersect does, and the arguments read as they did. No condition.
-/
import Derived.Test.YtfeechnlliaocaaRows
import Derived.Test.YtfeechnlliaocaaFrame
import Derived.Test.YtfeechnlliaocaaTo
import Derived.Test.YtfeechnlliaocaaIvSX
import Derived.Test.YtfeechnlliaocaaIvIX
import Derived.ProofKit
import Derived.Lib.SmallJoins
namespace Go.Proofs.Ytfeechnlliaocaa
open Go.RowKit Go.ChangeShapes Go.WideShapes Go.ChangeAt Go.WideMaps Go.WideElems
set_option linter.unusedVariables false
set_option linter.unusedSimpArgs false

set_option maxRecDepth 100000 in
set_option maxHeartbeats 1000000 in
theorem FnExactIntersect_walk (x0 y0 x1 y1 : Int) (w : World) :
    Calls Try.prog 9 #[.agg #[.int .i64 x0, .int .i64 y0], .agg #[.int .i64 x1, .int .i64 y1]] w fun e w' => e = .returned (.bool true) ∧ Below w.heap.size w w' := by
  have HS := Lib.hid (spec_Intersect x0 y0 x1 y1)
  have HI := Lib.hid (impl_Intersect x0 y0 x1 y1)
  obtain ⟨kb, hkb⟩ : ∃ z, z = (okI x0 y0 && okI x1 y1 && decide (max x0 x1 ≤ min y0 y1)) := ⟨_, rfl⟩
  rw [← hkb] at HS HI
  clear hkb
  have hbb : ((kb : Bool) != kb) = false := by simp
  obtain ⟨lo, hi, hlh⟩ := orZ_iv (kb) (max x0 x1) (min y0 y1)
  rw [hlh] at HS HI
  clear hlh

  unfold ivV at HS HI
  go_enter Try.func9, Try.ntmps9
  go_wp2_with (first | (go_at_call_of 12 (Value.agg #[Value.int IntKind.i64 x0, Value.int IntKind.i64 y0]); refine (toInterval_any x0 y0 _).mono ?_; rintro e v0 ⟨rfl, bv0⟩; unfold ivV; have s9 : ws.heap.size < v0.heap.size := Nat.lt_of_lt_of_le (by (try simp) <;> omega) bv0.size; have k90 : v0.cell? ⟨ws.heap.size, 0, none⟩ = some (.int .i64 lo) := (bv0.cell (p := ⟨ws.heap.size, 0, none⟩) (by (try simp) <;> omega)).trans (by go_simp); have k91 : v0.cell? ⟨ws.heap.size, 1, none⟩ = some (.int .i64 hi) := (bv0.cell (p := ⟨ws.heap.size, 1, none⟩) (by (try simp) <;> omega)).trans (by go_simp); have s0 : w.heap.size < v0.heap.size := Nat.lt_of_lt_of_le (by (try simp) <;> omega) bv0.size; have k00 : v0.cell? ⟨w.heap.size, 0, none⟩ = some (.int .i64 x0) := (bv0.cell (p := ⟨w.heap.size, 0, none⟩) (by (try simp) <;> omega)).trans (by go_simp); have k01 : v0.cell? ⟨w.heap.size, 1, none⟩ = some (.int .i64 y0) := (bv0.cell (p := ⟨w.heap.size, 1, none⟩) (by (try simp) <;> omega)).trans (by go_simp); have s1 : w.heap.size + 1 < v0.heap.size := Nat.lt_of_lt_of_le (by (try simp) <;> omega) bv0.size; have k10 : v0.cell? ⟨w.heap.size + 1, 0, none⟩ = some (.int .i64 x1) := (bv0.cell (p := ⟨w.heap.size + 1, 0, none⟩) (by (try simp) <;> omega)).trans (by go_simp); have k11 : v0.cell? ⟨w.heap.size + 1, 1, none⟩ = some (.int .i64 y1) := (bv0.cell (p := ⟨w.heap.size + 1, 1, none⟩) (by (try simp) <;> omega)).trans (by go_simp)) | (go_at_call_of 12 (Value.agg #[Value.int IntKind.i64 x0, Value.int IntKind.i64 y0]); refine (toInterval_any x0 y0 _).mono ?_; rintro e v0 ⟨rfl, bv0⟩; unfold ivV; have s0 : w.heap.size < v0.heap.size := Nat.lt_of_lt_of_le (by (try simp) <;> omega) bv0.size; have k00 : v0.cell? ⟨w.heap.size, 0, none⟩ = some (.int .i64 x0) := (bv0.cell (p := ⟨w.heap.size, 0, none⟩) (by (try simp) <;> omega)).trans (by go_simp); have k01 : v0.cell? ⟨w.heap.size, 1, none⟩ = some (.int .i64 y0) := (bv0.cell (p := ⟨w.heap.size, 1, none⟩) (by (try simp) <;> omega)).trans (by go_simp); have s1 : w.heap.size + 1 < v0.heap.size := Nat.lt_of_lt_of_le (by (try simp) <;> omega) bv0.size; have k10 : v0.cell? ⟨w.heap.size + 1, 0, none⟩ = some (.int .i64 x1) := (bv0.cell (p := ⟨w.heap.size + 1, 0, none⟩) (by (try simp) <;> omega)).trans (by go_simp); have k11 : v0.cell? ⟨w.heap.size + 1, 1, none⟩ = some (.int .i64 y1) := (bv0.cell (p := ⟨w.heap.size + 1, 1, none⟩) (by (try simp) <;> omega)).trans (by go_simp)) | (go_at_call_of 12 (Value.agg #[Value.int IntKind.i64 x1, Value.int IntKind.i64 y1]); refine (toInterval_any x1 y1 _).mono ?_; rintro e v1 ⟨rfl, bv1⟩; unfold ivV; have s9 : ws.heap.size < v1.heap.size := Nat.lt_of_lt_of_le (by (try simp) <;> omega) bv1.size; have k90 : v1.cell? ⟨ws.heap.size, 0, none⟩ = some (.int .i64 lo) := (bv1.cell (p := ⟨ws.heap.size, 0, none⟩) (by (try simp) <;> omega)).trans (by go_simp); have k91 : v1.cell? ⟨ws.heap.size, 1, none⟩ = some (.int .i64 hi) := (bv1.cell (p := ⟨ws.heap.size, 1, none⟩) (by (try simp) <;> omega)).trans (by go_simp); have s0 : w.heap.size < v1.heap.size := Nat.lt_of_lt_of_le (by (try simp) <;> omega) bv1.size; have k00 : v1.cell? ⟨w.heap.size, 0, none⟩ = some (.int .i64 x0) := (bv1.cell (p := ⟨w.heap.size, 0, none⟩) (by (try simp) <;> omega)).trans (by go_simp); have k01 : v1.cell? ⟨w.heap.size, 1, none⟩ = some (.int .i64 y0) := (bv1.cell (p := ⟨w.heap.size, 1, none⟩) (by (try simp) <;> omega)).trans (by go_simp); have s1 : w.heap.size + 1 < v1.heap.size := Nat.lt_of_lt_of_le (by (try simp) <;> omega) bv1.size; have k10 : v1.cell? ⟨w.heap.size + 1, 0, none⟩ = some (.int .i64 x1) := (bv1.cell (p := ⟨w.heap.size + 1, 0, none⟩) (by (try simp) <;> omega)).trans (by go_simp); have k11 : v1.cell? ⟨w.heap.size + 1, 1, none⟩ = some (.int .i64 y1) := (bv1.cell (p := ⟨w.heap.size + 1, 1, none⟩) (by (try simp) <;> omega)).trans (by go_simp)) | (go_at_call_of 12 (Value.agg #[Value.int IntKind.i64 x1, Value.int IntKind.i64 y1]); refine (toInterval_any x1 y1 _).mono ?_; rintro e v1 ⟨rfl, bv1⟩; unfold ivV; have s0 : w.heap.size < v1.heap.size := Nat.lt_of_lt_of_le (by (try simp) <;> omega) bv1.size; have k00 : v1.cell? ⟨w.heap.size, 0, none⟩ = some (.int .i64 x0) := (bv1.cell (p := ⟨w.heap.size, 0, none⟩) (by (try simp) <;> omega)).trans (by go_simp); have k01 : v1.cell? ⟨w.heap.size, 1, none⟩ = some (.int .i64 y0) := (bv1.cell (p := ⟨w.heap.size, 1, none⟩) (by (try simp) <;> omega)).trans (by go_simp); have s1 : w.heap.size + 1 < v1.heap.size := Nat.lt_of_lt_of_le (by (try simp) <;> omega) bv1.size; have k10 : v1.cell? ⟨w.heap.size + 1, 0, none⟩ = some (.int .i64 x1) := (bv1.cell (p := ⟨w.heap.size + 1, 0, none⟩) (by (try simp) <;> omega)).trans (by go_simp); have k11 : v1.cell? ⟨w.heap.size + 1, 1, none⟩ = some (.int .i64 y1) := (bv1.cell (p := ⟨w.heap.size + 1, 1, none⟩) (by (try simp) <;> omega)).trans (by go_simp)) | (go_at_call 25; refine (HS.out _).mono ?_; rintro e ws ⟨rfl, bs⟩; have s0 : w.heap.size < ws.heap.size := Nat.lt_of_lt_of_le (by (try simp) <;> omega) bs.size; have k00 : ws.cell? ⟨w.heap.size, 0, none⟩ = some (.int .i64 x0) := (bs.cell (p := ⟨w.heap.size, 0, none⟩) (by (try simp) <;> omega)).trans (by go_simp); have k01 : ws.cell? ⟨w.heap.size, 1, none⟩ = some (.int .i64 y0) := (bs.cell (p := ⟨w.heap.size, 1, none⟩) (by (try simp) <;> omega)).trans (by go_simp); have s1 : w.heap.size + 1 < ws.heap.size := Nat.lt_of_lt_of_le (by (try simp) <;> omega) bs.size; have k10 : ws.cell? ⟨w.heap.size + 1, 0, none⟩ = some (.int .i64 x1) := (bs.cell (p := ⟨w.heap.size + 1, 0, none⟩) (by (try simp) <;> omega)).trans (by go_simp); have k11 : ws.cell? ⟨w.heap.size + 1, 1, none⟩ = some (.int .i64 y1) := (bs.cell (p := ⟨w.heap.size + 1, 1, none⟩) (by (try simp) <;> omega)).trans (by go_simp)) | (go_at_call 26; refine (HI.out _).mono ?_; rintro e wi ⟨rfl, bi⟩; have s9 : ws.heap.size < wi.heap.size := Nat.lt_of_lt_of_le (by (try simp) <;> omega) bi.size; have k90 : wi.cell? ⟨ws.heap.size, 0, none⟩ = some (.int .i64 lo) := (bi.cell (p := ⟨ws.heap.size, 0, none⟩) (by (try simp) <;> omega)).trans (by go_simp); have k91 : wi.cell? ⟨ws.heap.size, 1, none⟩ = some (.int .i64 hi) := (bi.cell (p := ⟨ws.heap.size, 1, none⟩) (by (try simp) <;> omega)).trans (by go_simp); have s0 : w.heap.size < wi.heap.size := Nat.lt_of_lt_of_le (by (try simp) <;> omega) bi.size; have k00 : wi.cell? ⟨w.heap.size, 0, none⟩ = some (.int .i64 x0) := (bi.cell (p := ⟨w.heap.size, 0, none⟩) (by (try simp) <;> omega)).trans (by go_simp); have k01 : wi.cell? ⟨w.heap.size, 1, none⟩ = some (.int .i64 y0) := (bi.cell (p := ⟨w.heap.size, 1, none⟩) (by (try simp) <;> omega)).trans (by go_simp); have s1 : w.heap.size + 1 < wi.heap.size := Nat.lt_of_lt_of_le (by (try simp) <;> omega) bi.size; have k10 : wi.cell? ⟨w.heap.size + 1, 0, none⟩ = some (.int .i64 x1) := (bi.cell (p := ⟨w.heap.size + 1, 0, none⟩) (by (try simp) <;> omega)).trans (by go_simp); have k11 : wi.cell? ⟨w.heap.size + 1, 1, none⟩ = some (.int .i64 y1) := (bi.cell (p := ⟨w.heap.size + 1, 1, none⟩) (by (try simp) <;> omega)).trans (by go_simp)) | (go_at_call 22; refine (eqInterval_any lo hi _).mono ?_; rintro e we ⟨rfl, be⟩; have s0 : w.heap.size < we.heap.size := Nat.lt_of_lt_of_le (by (try simp) <;> omega) be.size; have k00 : we.cell? ⟨w.heap.size, 0, none⟩ = some (.int .i64 x0) := (be.cell (p := ⟨w.heap.size, 0, none⟩) (by (try simp) <;> omega)).trans (by go_simp); have k01 : we.cell? ⟨w.heap.size, 1, none⟩ = some (.int .i64 y0) := (be.cell (p := ⟨w.heap.size, 1, none⟩) (by (try simp) <;> omega)).trans (by go_simp); have s1 : w.heap.size + 1 < we.heap.size := Nat.lt_of_lt_of_le (by (try simp) <;> omega) be.size; have k10 : we.cell? ⟨w.heap.size + 1, 0, none⟩ = some (.int .i64 x1) := (be.cell (p := ⟨w.heap.size + 1, 0, none⟩) (by (try simp) <;> omega)).trans (by go_simp); have k11 : we.cell? ⟨w.heap.size + 1, 1, none⟩ = some (.int .i64 y1) := (be.cell (p := ⟨w.heap.size + 1, 1, none⟩) (by (try simp) <;> omega)).trans (by go_simp)))
  go_ret
  exact ⟨rfl, (by repeat (first | exact Below.refl _ _ | refine below_step (by assumption) (by (try simp) <;> omega) ?_ | refine below_drewN ?_ _ | refine Below.drew ?_ | refine Below.setCell ?_ (by (try simp) <;> omega) _ | refine Below.alloc ?_ (by (try simp) <;> omega) _))⟩

/-! ### FnExactIntersect: the row -/

set_option maxRecDepth 100000 in
theorem FnExactIntersect_lifted (os : Os) (started : os.Started) (H : Type) (enc : TypeId × Value → H) :
    ReturnsInHanded {} Try.checked os 9 .any (Rows.fnExactIntersectSpec.pre6 enc Try.prog Try.f9 Rows.fnExactIntersectRow.domain false) (Rows.fnExactIntersectSpec.post enc Try.prog Try.f9 false true false false) := by
  refine returnsInHanded_of_change (C := Try.checked) (by kernel_rfl) started (by kernel_rfl) Try.func9
    (ChangeSpec.witness6 (enc := enc) (C := Try.checked) false ⟨#[], #[.agg #[.int .i64 0, .int .i64 0], .agg #[.int .i64 0, .int .i64 0]], []⟩ 8 (by kernel_rfl) (by kernel_rfl) (by kernel_rfl) (by kernel_rfl)) ?_
  intro W base args ds gs before hval0 hW hcnd _
  have hval : ∀ (j : Nat) t v, Try.f9.params[j]? = some t → args[j]? = some v → Value.okWide Try.prog W .any base t v := hval0
  have hW2 := hW
  obtain ⟨p, q, hA0, hV, hpq, hfz, hnd⟩ := hW2
  have hA : DataW.TrodAll enc Try.prog W 0 (fun _ => true) true Try.f9.params.toList args.toList ds p := hA0
  rw [Try.params9] at hA hval
  obtain ⟨v0, v1, d0, d1, p0, p1, hargs, hds, hp, h0, h1⟩ := trodAll_two hA
  obtain ⟨hgs, hq⟩ := trodVars_none hV
  subst hargs
  subst hds
  subst hgs
  obtain ⟨x0, y0, rfl, wx0, wy0⟩ := open_iv (hval 0 23 v0 rfl rfl) h0
  obtain ⟨x1, y1, rfl, wx1, wy1⟩ := open_iv (hval 1 23 v1 rfl rfl) h1
  refine (FnExactIntersect_walk x0 y0 x1 y1 W).mono fun e W2 ⟨he, hb⟩ => ?_
  subst he
  exact ⟨_, rfl, law_post (by kernel_rfl) (by rw [Try.params9]; decide +kernel) (by kernel_rfl) Try.underlying4 rfl ⟨rfl, rfl, rfl⟩ hW hb⟩

theorem FnExactIntersect_holds : Rows.FnExactIntersectSaid :=
  OpenClaim.holds_of_wide 9 Try.f9 rfl rfl rfl rfl rfl rfl rfl ⟨rfl, rfl, rfl, rfl, rfl⟩ rfl rfl rfl rfl rfl (by kernel_rfl) Try.func9 (by kernel_rfl)
    (of_decide_eq_true (by kernel_rfl)) (by unfold Func.isWrapper; first | (rw [if_pos (by decide +kernel)]; kernel_rfl) | (rw [if_neg (by decide +kernel)]; exact ⟨rfl, rfl⟩))
    (fun os started H enc _ => FnExactIntersect_lifted os started H enc)

end Go.Proofs.Ytfeechnlliaocaa
