/-
  laws.FnExactFormatInterval HOLDS, AND ITS TIED CARD: whatever the interval, impl.FormatInterval answers as spec.FormatInterval does. The listed tables of the library are tied to the program's text.
-/
import Derived.Test.YtfeechnlliaocaaDoorCards
import Derived.Test.YtfeechnlliaocaaDoorTie
import Derived.Test.YtfeechnlliaocaaDoorFrame
import Derived.Test.YtfeechnlliaocaaDoorTo
import Derived.Test.YtfeechnlliaocaaDoorIvF
import Derived.ProofKit
import Derived.Lib.SmallJoins
import Derived.Deep.DeepHandedRow
import Derived.Deep.DeepWitnessRowRef
import Derived.LaidMore
import Derived.LaidHandle
import Derived.MakeChecks
import Derived.Stop.LaidErr
import Derived.Lib.LaidTab
namespace Go.Proofs.YtfeechnlliaocaaDoor
open Go.RowKit Go.ChangeShapes Go.WideShapes Go.ChangeAt Go.WideMaps Go.WideElems
open Go.ChangeMaps (open_string shut_string)
set_option linter.unusedVariables false
set_option linter.unusedSimpArgs false

set_option maxRecDepth 100000 in
set_option maxHeartbeats 1000000 in
theorem FnExactFormatInterval_walk (x0 y0 : Int) (w : World) (ht : Pow10 w) :
    Calls Tryd.prog 4 #[.agg #[.int .i64 x0, .int .i64 y0]] w fun e w' => e = .returned (.bool true) ∧ Below w.heap.size w w' := by
  have HS := Lib.hid (spec_FormatInterval x0 y0)
  have HI := Lib.hid fun (w' : World) (hb : Below w.heap.size w w') => impl_FormatInterval x0 y0 w' (var_kept hb ht)
  obtain ⟨s, hs⟩ : ∃ z, z = fmtIv x0 y0 := ⟨_, rfl⟩
  rw [← hs] at HS HI
  clear hs ht
  have hxx : (s.toList != s.toList) = false := by simp
  unfold ivV at HS HI
  go_enter Tryd.func4, Tryd.ntmps4
  go_wp2_with (first | (go_at_call 18; refine (toInterval_any x0 y0 _).mono ?_; rintro e v0 ⟨rfl, bv0⟩; unfold ivV; have s0 : w.heap.size < v0.heap.size := Nat.lt_of_lt_of_le (by (try simp) <;> omega) bv0.size; have k00 : v0.cell? ⟨w.heap.size, 0, none⟩ = some (.int .i64 x0) := (bv0.cell (p := ⟨w.heap.size, 0, none⟩) (by (try simp) <;> omega)).trans (by go_simp); have k01 : v0.cell? ⟨w.heap.size, 1, none⟩ = some (.int .i64 y0) := (bv0.cell (p := ⟨w.heap.size, 1, none⟩) (by (try simp) <;> omega)).trans (by go_simp)) | (go_at_call 17; refine (HS.out _).mono ?_; rintro e ws ⟨rfl, bs⟩; have s0 : w.heap.size < ws.heap.size := Nat.lt_of_lt_of_le (by (try simp) <;> omega) bs.size; have k00 : ws.cell? ⟨w.heap.size, 0, none⟩ = some (.int .i64 x0) := (bs.cell (p := ⟨w.heap.size, 0, none⟩) (by (try simp) <;> omega)).trans (by go_simp); have k01 : ws.cell? ⟨w.heap.size, 1, none⟩ = some (.int .i64 y0) := (bs.cell (p := ⟨w.heap.size, 1, none⟩) (by (try simp) <;> omega)).trans (by go_simp)) | (go_at_call 8; refine (HI.out _ (by repeat (first | exact Below.refl _ _ | refine below_step (by assumption) (by (try simp) <;> omega) ?_ | refine below_drewN ?_ _ | refine Below.drew ?_ | refine Below.setCell ?_ (by (try simp) <;> omega) _ | refine Below.alloc ?_ (by (try simp) <;> omega) _))).mono ?_; rintro e wi ⟨rfl, bi⟩))
  go_ret
  exact ⟨rfl, (by repeat (first | exact Below.refl _ _ | refine below_step (by assumption) (by (try simp) <;> omega) ?_ | refine below_drewN ?_ _ | refine Below.drew ?_ | refine Below.setCell ?_ (by (try simp) <;> omega) _ | refine Below.alloc ?_ (by (try simp) <;> omega) _))⟩

/-! ### FnExactFormatInterval: the row and its card -/

theorem FnExactFormatInterval_reads (os : Os) {H : Type} (enc : TypeId × Value → H) : ∃ places, DataW.whole enc Tryd.prog ((World.doorLaid Tryd.prog 400 os).forCall (fun _ _ => 0) ⟨#[], #[.agg #[.int .i64 0, .int .i64 0]], []⟩).memory Tryd.f4.params.toList Rows.fnExactFormatIntervalSpec.vars false (#[.agg #[.int .i64 0, .int .i64 0]] : Array Value).toList 8 = some ([.agg [.lit (.int .i64 0), .lit (.int .i64 0)]], [], places) :=
  ⟨[], by kernel_rfl⟩
theorem FnExactFormatInterval_met (os : Os) (args : Array Value) : laidMetH Tryd.prog Rows.fnExactFormatIntervalRow.laid ((World.doorLaid Tryd.prog 400 os).forCall (fun _ _ => 0) ⟨#[], args, []⟩).memory :=
  laidMetH_of_parts3 (fuel := 8) (laidMet_of_run' 8 (by kernel_rfl) (by kernel_rfl)) (by kernel_rfl) (by kernel_rfl)

set_option maxRecDepth 100000 in
theorem FnExactFormatInterval_lifted (os : Os) (started : os.Started) (H : Type) (enc : TypeId × Value → H) (F : Stop.Interp) :
    ReturnsInHanded {} Tryd.checked os 4 .any ((OpenSpec.ofChange Rows.fnExactFormatIntervalSpec).preRow enc Tryd.prog Tryd.f4 Rows.fnExactFormatIntervalRow.domain false Rows.fnExactFormatIntervalRow.laid) (((OpenSpec.ofChange Rows.fnExactFormatIntervalSpec).at F).post enc Tryd.prog Tryd.f4 false true false false) := by
  obtain ⟨places, hx⟩ := FnExactFormatInterval_reads os enc
  refine returnsInHanded_of_row (C := Tryd.checked) (s := OpenSpec.ofChange Rows.fnExactFormatIntervalSpec) (by kernel_rfl) started (by kernel_rfl) Tryd.func4
    (witness_row_atRef (enc := enc) (C := Tryd.checked) false (World.doorLaid Tryd.prog 400 os) #[.agg #[.int .i64 0, .int .i64 0]] rfl (by kernel_rfl) (by kernel_rfl) (by kernel_rfl)
      (OpenSpec.preRow_of_cond 8 hx (by kernel_rfl) (fun k hk => by cases hk) (by kernel_rfl) (FnExactFormatInterval_met os _))) ?_
  intro W base args ds gs before hval0 hW _ _ _ hL0 hsh _
  have hL : laidMet Tryd.prog Rows.fnExactFormatIntervalRow.laid W := by
    rw [← MakeChecks.laidMetH_plain _ _ _ (by kernel_rfl)]
    exact hL0
  have hval : ∀ (j : Nat) t v, Tryd.f4.params[j]? = some t → args[j]? = some v → Value.okWide Tryd.prog W .any base t v := hval0
  have hW2 := hW
  obtain ⟨p, q, hA0, hV, hpq, hfz, hnd⟩ := hW2
  have hA : DataW.TrodAll enc Tryd.prog W 0 (fun _ => true) true Tryd.f4.params.toList args.toList ds p := hA0
  rw [Tryd.params4] at hA hval
  obtain ⟨v0, d0, hargs, hds, h0⟩ := trodAll_one hA
  obtain ⟨hgs, hq⟩ := trodVars_none hV
  subst hargs
  subst hds
  subst hgs
  obtain ⟨x0, y0, rfl, wx0, wy0⟩ := open_iv (hval 0 37 v0 rfl rfl) h0

  refine (FnExactFormatInterval_walk x0 y0 W (pow10_of rfl hL.tail.tail)).mono fun e W2 ⟨he, hb⟩ => ?_
  subst he
  exact ⟨_, rfl, law_post (by kernel_rfl) (by rw [Tryd.params4]; decide +kernel) (by kernel_rfl) Tryd.underlying4 rfl ⟨rfl, rfl, rfl⟩ hW hb⟩

theorem FnExactFormatInterval_said : Rows.FnExactFormatIntervalSaid :=
  OpenClaim.holds_of_cond 4 Tryd.f4 rfl rfl rfl rfl rfl rfl rfl ⟨rfl, rfl, rfl, rfl, rfl⟩ rfl rfl rfl rfl rfl (by kernel_rfl) Tryd.func4 (by kernel_rfl)
    (of_decide_eq_true (by kernel_rfl)) (by unfold Func.isWrapper; first | (rw [if_pos (by decide +kernel)]; kernel_rfl) | (rw [if_neg (by decide +kernel)]; exact ⟨rfl, rfl⟩))
    (fun os started H enc _ F => by rw [OpenClaim.pre_eq_preRow]; exact FnExactFormatInterval_lifted os started H enc F)

/-- No parameter wants a stand-in. -/
theorem FnExactFormatInterval_plain (f : FuncId) (fn : Func) (hf : Tryd.pinned.checked.prog.funcNamed "loop.example/g00827/laws.FnExactFormatInterval" = some f) (hfn : Tryd.pinned.checked.prog.funcs[f]? = some fn) :
    true = Tryd.pinned.checked.prog.looks [] ∧ ∀ (j : Nat) t, fn.params[j]? = some t → Tryd.pinned.checked.prog.wantsStandIn t = false := by
  obtain rfl : f = 4 := Option.some.inj ((show Tryd.prog.funcNamed "loop.example/g00827/laws.FnExactFormatInterval" = some 4 by kernel_rfl).symm.trans hf) |>.symm
  obtain rfl : fn = Tryd.f4 := (Option.some.inj (Tryd.func4.symm.trans hfn)).symm
  refine ⟨by kernel_rfl, fun j t ht => ?_⟩
  rw [Tryd.params4] at ht
  have hm : t ∈ [37] := by simpa using Array.mem_of_getElem? ht
  have hall : ([37].all fun u => !Tryd.prog.wantsStandIn u) = true := by kernel_rfl
  exact (show Tryd.prog.wantsStandIn t = false by simpa using List.all_eq_true.1 hall t hm)

theorem FnExactFormatInterval_card : Rows.FnExactFormatIntervalCardSaid :=
  Claim7.holds_tied_plain_at .later [] _ _ _ _ FnExactFormatInterval_said (fun _ h => by cases h) (by kernel_rfl) (fun _ h => by cases h) fnExactFormatInterval_row_tie rfl ⟨rfl, rfl⟩ (by kernel_rfl) rfl FnExactFormatInterval_plain (by kernel_rfl)

end Go.Proofs.YtfeechnlliaocaaDoor
