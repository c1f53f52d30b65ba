/-
  WALKS of laws.toInterval and laws.eqInterval; an interval that comes in.
-/
import Derived.Test.YtfeechnlliaocaaDoorIvC
import Derived.ProofKit
import Derived.Lib.SmallJoins
namespace Go.Proofs.YtfeechnlliaocaaDoor
open Go.RowKit Go.ChangeShapes Go.WideShapes Go.ChangeAt Go.WideMaps Go.WideElems
set_option linter.unusedVariables false
set_option linter.unusedSimpArgs false

theorem orZ_iv (b : Bool) (l h : Int) : ∃ lo hi, orZ b l h = ivV lo hi := by cases b <;> exact ⟨_, _, rfl⟩
theorem cells_iv : Tryd.prog.cellsOf 37 = 2 := by kernel_rfl
set_option maxRecDepth 100000 in
/-- An interval that comes in: its two ints. -/
theorem open_iv {H : Type} {enc : TypeId × Value → H} {W : World} {r : Reach} {b : Nat} {v : Value} {d : DataW H} {p : List MemPlace} {base : Nat} {spare : Nat → Bool} {held : Bool}
    (hv : Value.okWide Tryd.prog W r b 37 v) (h : DataW.Trod enc Tryd.prog W base spare held 37 v d p) :
    ∃ l k : Int, v = .agg #[.int .i64 l, .int .i64 k] ∧ (Lit.int .i64 l).wf = true ∧ (Lit.int .i64 k).wf = true := by
  obtain ⟨c0, c1, y0, y1, m, rfl, rfl, rfl, hy0, hy1⟩ := Go.Joins.open_agg2 Tryd.underlying37 (by kernel_rfl) cells_iv hv h
  obtain ⟨a, e0, hx0, wa⟩ := DataW.trod_int Tryd.underlying3 hy0
  obtain ⟨b, e1, hx1, wb⟩ := DataW.trod_int Tryd.underlying3 hy1
  simp at e0 e1
  subst e0 e1
  exact ⟨a, b, rfl, wa, wb⟩

set_option maxRecDepth 100000 in
set_option maxHeartbeats 1000000 in
theorem toInterval_any (l h : Int) (w : World) :
    Calls Tryd.prog 18 #[.agg #[.int .i64 l, .int .i64 h]] w fun e w' => e = .returned (ivV l h) ∧ Below w.heap.size w w' := by
  unfold ivV
  go_enter Tryd.func18, Tryd.ntmps18
  go_wp2
  refine bodyPost_ret (v := .agg #[.int .i64 l, .int .i64 h]) (by simp [results, Tryd.results18, go_sem]) rfl ⟨rfl, (by repeat (first | exact Below.refl _ _ | refine below_step (by assumption) (by (try simp) <;> omega) ?_ | refine below_drewN ?_ _ | refine Below.drew ?_ | refine Below.setCell ?_ (by (try simp) <;> omega) _ | refine Below.alloc ?_ (by (try simp) <;> omega) _))⟩

set_option maxRecDepth 100000 in
set_option maxHeartbeats 1000000 in
theorem eqInterval_any (l h : Int) (w : World) :
    Calls Tryd.prog 20 #[ivV l h, ivV l h] w fun e w' => e = .returned (.bool true) ∧ Below w.heap.size w w' := by
  unfold ivV
  have h1 : ((l : Int) != l) = false := by simp
  have h2 : ((h : Int) != h) = false := by simp
  go_enter Tryd.func20, Tryd.ntmps20
  go_wp2
  go_ret
  exact ⟨rfl, (by repeat (first | exact Below.refl _ _ | refine below_step (by assumption) (by (try simp) <;> omega) ?_ | refine below_drewN ?_ _ | refine Below.drew ?_ | refine Below.setCell ?_ (by (try simp) <;> omega) _ | refine Below.alloc ?_ (by (try simp) <;> omega) _))⟩

end Go.Proofs.YtfeechnlliaocaaDoor
