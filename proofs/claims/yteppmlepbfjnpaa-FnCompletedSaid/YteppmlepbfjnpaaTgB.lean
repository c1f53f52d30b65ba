/-
  WALK of spec.TightenTable: the way with a table.
-/
import Derived.Test.YteppmlepbfjnpaaBdTbC
namespace Go.Proofs.Yteppmlepbfjnpaa
open Go.RowKit
set_option linter.unusedVariables false
set_option linter.unusedSimpArgs false

/-- The numbers that have been appended when the loops stand at i, k. -/
def tgL (N : Nat) (zs : List Int) (e : GE) (i k : Nat) : List Int := ((List.range i).flatMap fun i => (List.range N).map fun k => tightAt N zs e i k) ++ (List.range k).map (tightAt N zs e i)
theorem tgL_next (N : Nat) (zs : List Int) (e : GE) (i k : Nat) : tgL N zs e i (k + 1) = tgL N zs e i k ++ [tightAt N zs e i k] := by
  unfold tgL; rw [List.range_succ (n := k), List.map_append, List.append_assoc]; rfl
theorem tgL_row (N : Nat) (zs : List Int) (e : GE) (i : Nat) : tgL N zs e i N = tgL N zs e (i + 1) 0 := by
  unfold tgL; rw [List.range_succ (n := i), List.flatMap_append]; simp
theorem tgL_all (N : Nat) (zs : List Int) (e : GE) : tgL N zs e N 0 = tightC N zs e := by unfold tgL tightC; simp
theorem tgL_length (N : Nat) (zs : List Int) (e : GE) (i k : Nat) : (tgL N zs e i k).length = i * N + k := by
  unfold tgL; rw [List.length_append, flat_length (n := N) (fun i => by simp)]; simp

end Go.Proofs.Yteppmlepbfjnpaa

