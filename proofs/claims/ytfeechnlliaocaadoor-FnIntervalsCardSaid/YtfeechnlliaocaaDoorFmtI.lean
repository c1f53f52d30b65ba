/-
  WALK of impl.FormatInt, and what the listed table gives.
-/
import Derived.Test.YtfeechnlliaocaaDoorFrame
import Derived.Test.YtfeechnlliaocaaDoorNum
import Derived.Test.YtfeechnlliaocaaDoorConv
import Derived.Lib.LaidTab
import Derived.Stop.LaidErr
import Derived.RowKit
namespace Go.Proofs.YtfeechnlliaocaaDoor
open Go.RowKit
set_option linter.unusedVariables false
set_option linter.unusedSimpArgs false

/-- A listed variable reads as it did where nothing old has turned. -/
theorem var_kept {P : Program} {W W' : World} {n : String} {cs : Array Value} (hb : Below W.heap.size W W') (h : W.var? P n = some cs) : W'.var? P n = some cs := by
  unfold World.var? at h ⊢
  cases hg : P.globalNamed n with
  | none => simp [hg] at h
  | some g =>
    simp only [hg, Option.bind_some] at h ⊢
    have hlt : g < W.heap.size := by
      rcases Nat.lt_or_ge g W.heap.size with h2 | h2
      · exact h2
      · rw [Array.getElem?_eq_none h2] at h; simp at h
    rw [hb.block g hlt]
    exact h

abbrev Pow10 (w : World) : Prop := Lib.TabIs Tryd.prog w "internal/strconv.uint64pow10" .u64 Lib.pow10Tab

theorem below_grow (w : World) (k : Nat) (os : Array Obj) : Below w.heap.size w (Go.Sort.grow (w.drewN k) os) := by
  refine ⟨rfl, rfl, rfl, ?_, fun i hi => ?_⟩
  · show w.heap.size ≤ (w.heap ++ os).size
    simp
  · show (w.heap ++ os)[i]? = w.heap[i]?
    rw [Array.getElem?_append_left hi]

set_option maxRecDepth 100000 in
set_option maxHeartbeats 400000 in
theorem impl_FormatInt (n : Int) (w : World) (h0 : -9223372036854775808 ≤ n) (h1 : n ≤ 9223372036854775807) (ht : Pow10 w) :
    Calls Tryd.prog 43 #[.int .i64 n] w fun e w' => e = .returned (.string (numB n)) ∧ Below w.heap.size w w' := by
  have HC := Lib.hid (strconv_Itoa n h0 h1 w ht)
  clear ht
  go_enter Tryd.func43, Tryd.ntmps43
  go_wp2_with fail
  refine HC.out.mono ?_
  rintro e w1 ⟨rfl, k, os, hw⟩
  have hb : Below w.heap.size w w1 := by rw [hw]; exact below_grow w k os
  clear hw
  go_wp2
  go_ret
  exact ⟨rfl, hb⟩

set_option maxRecDepth 100000 in
set_option maxHeartbeats 400000 in
/-- spec.FormatInt, at every int. -/
theorem spec_FormatInt (n : Int) (w : World) (h0 : -9223372036854775808 ≤ n) (h1 : n ≤ 9223372036854775807) :
    Calls Tryd.prog 44 #[.int .i64 n] w fun e w' => e = .returned (.string (numB n)) ∧ Below w.heap.size w w' := by
  by_cases h : 0 ≤ n
  · obtain ⟨u, rfl⟩ : ∃ u : Nat, n = u := ⟨n.toNat, by omega⟩
    rw [numB_pos]
    exact spec_FormatInt_pos u w (by omega)
  · obtain ⟨u, rfl⟩ : ∃ u : Nat, n = -(u : Int) := ⟨n.natAbs, by omega⟩
    rw [numB_neg u (by omega)]
    exact spec_FormatInt_neg u w (by omega) (by omega)

theorem gPow10 : Tryd.prog.globalNamed "internal/strconv.uint64pow10" = some 3 := by kernel_rfl
theorem tPow10 : (Tryd.prog.globals[3]?).map (·.type) = some 103 := by kernel_rfl
theorem cPow10 : Tryd.prog.cellsOf 103 = 20 := by kernel_rfl
theorem cU64 : Tryd.prog.cellsOf 86 = 1 := by kernel_rfl
theorem pow10_of {d : DataW Unit} (hd : d = Lib.tabData .u64 Lib.pow10Tab) {r : List (String × DataW Unit)} {W : World} (h : laidMet Tryd.prog (("internal/strconv.uint64pow10", d) :: r) W) : Pow10 W := by
  subst hd
  exact Lib.tabIs_of_head gPow10 tPow10 Tryd.underlying103 Tryd.underlying86 cU64 cPow10 h

end Go.Proofs.YtfeechnlliaocaaDoor
