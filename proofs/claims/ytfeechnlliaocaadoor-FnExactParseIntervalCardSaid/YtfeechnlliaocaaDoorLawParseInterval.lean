/-
  laws.FnExactParseInterval HOLDS, AND ITS TIED CARD: whatever the string, impl.ParseInterval answers as spec.ParseInterval does, and the string reads as it did. The listed tables and error values of the library are tied to the program's text.
-/
import Derived.Test.YtfeechnlliaocaaDoorCards
import Derived.Test.YtfeechnlliaocaaDoorTie
import Derived.Test.YtfeechnlliaocaaDoorFrame
import Derived.Test.YtfeechnlliaocaaDoorTo
import Derived.Test.YtfeechnlliaocaaDoorIvR
import Derived.Test.YtfeechnlliaocaaDoorLaid
import Derived.ProofKit
import Derived.Lib.SmallJoins
import Derived.Deep.DeepHandedRow
import Derived.Deep.DeepWitnessRowRef
import Derived.LaidMore
import Derived.LaidHandle
import Derived.MakeChecks
import Derived.Stop.LaidErr
import Derived.Lib.LaidTab
namespace Go.Proofs.YtfeechnlliaocaaDoor
open Go.RowKit Go.ChangeShapes Go.WideShapes Go.ChangeAt Go.WideMaps Go.WideElems
open Go.ChangeMaps (open_string shut_string)
set_option linter.unusedVariables false
set_option linter.unusedSimpArgs false

set_option maxRecDepth 100000 in
set_option maxHeartbeats 1000000 in
theorem FnExactParseInterval_walk (s : ByteArray) (w : World) (hs : s.size ≤ maxLen) (hm : MaxL w) (ht : Pow10 w) (he : Errs w) :
    Calls Tryd.prog 5 #[.string s] w fun e w' => e = .returned (.bool true) ∧ Below w.heap.size w w' := by
  have hs2 := hs
  unfold maxLen at hs2
  by_cases h : s.size ≤ 1048576
  · have HS := Lib.hid (fun w' => spec_ParseInterval s w' h)
    have HI := Lib.hid fun (w' : World) (hb : Below w.heap.size w w') => impl_ParseInterval s w' h (hm.kept hb) (var_kept hb ht) (he.kept hb)
    obtain ⟨lo, hi, kb, hp⟩ := pIv_form s
    rw [hp] at HS HI
    clear hp hm ht he
    have hbb : ((kb : Bool) != kb) = false := by simp
    unfold ivV at HS HI
    go_enter Tryd.func5, Tryd.ntmps5
    go_wp2_with (first | (go_at_call 19; refine (HS.out _).mono ?_; rintro e ws ⟨rfl, bs⟩; have sz1 : w.heap.size ≤ ws.heap.size := bs.size) | (go_at_call 7; refine (HI.out _ (by repeat (first | exact Below.refl _ _ | refine below_step (by assumption) (by (try simp) <;> omega) ?_ | refine below_drewN ?_ _ | refine Below.drew ?_ | refine Below.setCell ?_ (by (try simp) <;> omega) _ | refine Below.alloc ?_ (by (try simp) <;> omega) _))).mono ?_; rintro e wi ⟨rfl, bi⟩; have s9 : ws.heap.size < wi.heap.size := Nat.lt_of_lt_of_le (by (try simp) <;> omega) bi.size; have k90 : wi.cell? ⟨ws.heap.size, 0, none⟩ = some (.int .i64 lo) := (bi.cell (p := ⟨ws.heap.size, 0, none⟩) (by (try simp) <;> omega)).trans (by go_simp); have k91 : wi.cell? ⟨ws.heap.size, 1, none⟩ = some (.int .i64 hi) := (bi.cell (p := ⟨ws.heap.size, 1, none⟩) (by (try simp) <;> omega)).trans (by go_simp)) | (go_at_call 20; refine (eqInterval_any lo hi _).mono ?_; rintro e we ⟨rfl, be⟩))
    go_ret
    exact ⟨rfl, (by repeat (first | exact Below.refl _ _ | refine below_step (by assumption) (by (try simp) <;> omega) ?_ | refine below_drewN ?_ _ | refine Below.drew ?_ | refine Below.setCell ?_ (by (try simp) <;> omega) _ | refine Below.alloc ?_ (by (try simp) <;> omega) _))⟩
  · go_enter Tryd.func5, Tryd.ntmps5
    go_wp2
    go_ret
    exact ⟨rfl, Below.refl _ _⟩

/-! ### FnExactParseInterval: the row and its card -/

theorem FnExactParseInterval_reads (os : Os) {H : Type} (enc : TypeId × Value → H) : ∃ places, DataW.whole enc Tryd.prog ((World.doorLaid Tryd.prog 400 os).forCall (fun _ _ => 0) ⟨#[], #[.string ⟨#[]⟩], []⟩).memory Tryd.f5.params.toList Rows.fnExactParseIntervalSpec.vars false (#[.string ⟨#[]⟩] : Array Value).toList 8 = some ([.lit (.string [])], [], places) :=
  ⟨[], by kernel_rfl⟩
theorem FnExactParseInterval_met (os : Os) (args : Array Value) : laidMetH Tryd.prog Rows.fnExactParseIntervalRow.laid ((World.doorLaid Tryd.prog 400 os).forCall (fun _ _ => 0) ⟨#[], args, []⟩).memory :=
  laidMetH_of_parts3 (fuel := 8) (laidMet_of_run' 8 (by kernel_rfl) (by kernel_rfl)) (by kernel_rfl) (by kernel_rfl)

set_option maxRecDepth 100000 in
theorem FnExactParseInterval_lifted (os : Os) (started : os.Started) (H : Type) (enc : TypeId × Value → H) (F : Stop.Interp) :
    ReturnsInHanded {} Tryd.checked os 5 .any ((OpenSpec.ofChange Rows.fnExactParseIntervalSpec).preRow enc Tryd.prog Tryd.f5 Rows.fnExactParseIntervalRow.domain false Rows.fnExactParseIntervalRow.laid) (((OpenSpec.ofChange Rows.fnExactParseIntervalSpec).at F).post enc Tryd.prog Tryd.f5 false true false false) := by
  obtain ⟨places, hx⟩ := FnExactParseInterval_reads os enc
  refine returnsInHanded_of_row (C := Tryd.checked) (s := OpenSpec.ofChange Rows.fnExactParseIntervalSpec) (by kernel_rfl) started (by kernel_rfl) Tryd.func5
    (witness_row_atRef (enc := enc) (C := Tryd.checked) false (World.doorLaid Tryd.prog 400 os) #[.string ⟨#[]⟩] rfl (by kernel_rfl) (by kernel_rfl) (by kernel_rfl)
      (OpenSpec.preRow_of_cond 8 hx (by kernel_rfl) (fun k hk => by cases hk) (by kernel_rfl) (FnExactParseInterval_met os _))) ?_
  intro W base args ds gs before hval0 hW _ _ _ hL0 hsh _
  have hL : laidMet Tryd.prog Rows.fnExactParseIntervalRow.laid W := by
    rw [← MakeChecks.laidMetH_plain _ _ _ (by kernel_rfl)]
    exact hL0
  have hval : ∀ (j : Nat) t v, Tryd.f5.params[j]? = some t → args[j]? = some v → Value.okWide Tryd.prog W .any base t v := hval0
  have hW2 := hW
  obtain ⟨p, q, hA0, hV, hpq, hfz, hnd⟩ := hW2
  have hA : DataW.TrodAll enc Tryd.prog W 0 (fun _ => true) true Tryd.f5.params.toList args.toList ds p := hA0
  rw [Tryd.params5] at hA hval
  obtain ⟨v0, d0, hargs, hds, h0⟩ := trodAll_one hA
  obtain ⟨hgs, hq⟩ := trodVars_none hV
  subst hargs
  subst hds
  subst hgs
  obtain ⟨a0, rfl, rfl, _, w0⟩ := open_string Tryd.underlying9 (hval 0 9 v0 rfl rfl) h0

  refine (FnExactParseInterval_walk a0 W w0 (maxL_of hsh) (pow10_of rfl hL.tail.tail) (errs_of hL.tail.tail.tail)).mono fun e W2 ⟨he, hb⟩ => ?_
  subst he
  exact ⟨_, rfl, law_post (by kernel_rfl) (by rw [Tryd.params5]; decide +kernel) (by kernel_rfl) Tryd.underlying4 rfl ⟨rfl, rfl, rfl⟩ hW hb⟩

theorem FnExactParseInterval_said : Rows.FnExactParseIntervalSaid :=
  OpenClaim.holds_of_cond 5 Tryd.f5 rfl rfl rfl rfl rfl rfl rfl ⟨rfl, rfl, rfl, rfl, rfl⟩ rfl rfl rfl rfl rfl (by kernel_rfl) Tryd.func5 (by kernel_rfl)
    (of_decide_eq_true (by kernel_rfl)) (by unfold Func.isWrapper; first | (rw [if_pos (by decide +kernel)]; kernel_rfl) | (rw [if_neg (by decide +kernel)]; exact ⟨rfl, rfl⟩))
    (fun os started H enc _ F => by rw [OpenClaim.pre_eq_preRow]; exact FnExactParseInterval_lifted os started H enc F)

/-- No parameter wants a stand-in. -/
theorem FnExactParseInterval_plain (f : FuncId) (fn : Func) (hf : Tryd.pinned.checked.prog.funcNamed "loop.example/g00827/laws.FnExactParseInterval" = some f) (hfn : Tryd.pinned.checked.prog.funcs[f]? = some fn) :
    true = Tryd.pinned.checked.prog.looks [] ∧ ∀ (j : Nat) t, fn.params[j]? = some t → Tryd.pinned.checked.prog.wantsStandIn t = false := by
  obtain rfl : f = 5 := Option.some.inj ((show Tryd.prog.funcNamed "loop.example/g00827/laws.FnExactParseInterval" = some 5 by kernel_rfl).symm.trans hf) |>.symm
  obtain rfl : fn = Tryd.f5 := (Option.some.inj (Tryd.func5.symm.trans hfn)).symm
  refine ⟨by kernel_rfl, fun j t ht => ?_⟩
  rw [Tryd.params5] at ht
  have hm : t ∈ [9] := by simpa using Array.mem_of_getElem? ht
  have hall : ([9].all fun u => !Tryd.prog.wantsStandIn u) = true := by kernel_rfl
  exact (show Tryd.prog.wantsStandIn t = false by simpa using List.all_eq_true.1 hall t hm)

theorem FnExactParseInterval_card : Rows.FnExactParseIntervalCardSaid :=
  Claim7.holds_tied_plain_at .later [] _ _ _ _ FnExactParseInterval_said (fun _ h => by cases h) (by kernel_rfl) (fun _ h => by cases h) fnExactParseInterval_row_tie rfl ⟨rfl, rfl⟩ (by kernel_rfl) rfl FnExactParseInterval_plain (by kernel_rfl)

end Go.Proofs.YtfeechnlliaocaaDoor
