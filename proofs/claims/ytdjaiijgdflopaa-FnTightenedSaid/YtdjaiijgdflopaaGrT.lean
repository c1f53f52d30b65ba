/-
  WALKS of the laws' helpers over edges and graphs: toEdge, toEdgeS, toGraph, szEdgeS, szGraph, eqEdge, eqEdgeS, eqGraph.
-/
import Derived.Test.YtdjaiijgdflopaaGrA
import Derived.WalkKit
import Derived.WalkSpells
import Derived.WalkLawsBesides
import Derived.Deep.QuietTactic
import Derived.Deep.RegionWith
import Derived.BigQuiet
import Derived.Laws.Rows
import Derived.Laws.OwnMore
import Derived.Deep.Onto
import Derived.Deep.AppendLies
namespace Go.Proofs.Ytdjaiijgdflopaa
open Go.RowKit
set_option linter.unusedVariables false
set_option linter.unusedSimpArgs false

theorem Try.info35 : (Try.prog.info? 35).map (fun i => (i.zero, i.size, i.bytes)) = some (some (.agg #[.int .i64 0, .int .i64 0, .int .i64 0]), 3, 24) := by kernel_rfl

set_option maxRecDepth 100000 in
set_option maxHeartbeats 1000000 in
theorem toEdge_any (e : GE) (w : World) :
    Calls Try.prog 41 #[e.val] w fun x w' => x = .returned e.val ∧ Below w.heap.size w w' := by
  obtain ⟨u, v, c⟩ := e
  unfold GE.val
  go_enter Try.func41, Try.ntmps41
  go_wp2
  refine bodyPost_ret (v := .agg #[.int .i64 u, .int .i64 v, .int .i64 c]) (by simp [results, Try.results41, go_sem]) rfl ⟨rfl, (by repeat (first | exact Below.refl _ _ | refine below_step (by assumption) (by (try simp) <;> omega) ?_ | refine below_drewN ?_ _ | refine Below.drew ?_ | refine Below.setCell ?_ (by (try simp) <;> omega) _ | refine Below.alloc ?_ (by (try simp) <;> omega) _))⟩

set_option maxRecDepth 100000 in
set_option maxHeartbeats 1000000 in
theorem eqEdge_any (e : GE) (w : World) :
    Calls Try.prog 86 #[e.val, e.val] w fun x w' => x = .returned (.bool true) ∧ Below w.heap.size w w' := by
  obtain ⟨u, v, c⟩ := e
  unfold GE.val
  have h1 : ((u : Int) != u) = false := by simp
  have h2 : ((v : Int) != v) = false := by simp
  have h3 : ((c : Int) != c) = false := by simp
  go_enter Try.func86, Try.ntmps86
  go_wp2
  go_ret
  exact ⟨rfl, (by repeat (first | exact Below.refl _ _ | refine below_step (by assumption) (by (try simp) <;> omega) ?_ | refine below_drewN ?_ _ | refine Below.drew ?_ | refine Below.setCell ?_ (by (try simp) <;> omega) _ | refine Below.alloc ?_ (by (try simp) <;> omega) _))⟩

set_option maxRecDepth 100000 in
theorem szEdgeS_any (A : Option Addr) (n c : Nat) (w : World) (hm : n ≤ maxLen) :
    Calls Try.prog 76 #[.slice A n c, .int .i64 1048576] w fun x w' => x = .returned (.int .i64 (if n ≤ 1048576 then 1048576 - n else -1)) ∧ w' = w := by
  unfold maxLen at hm
  go_enter Try.func76, Try.ntmps76
  by_cases h : n ≤ 1048576
  · have hlt : ¬ ((1048576 : Int) - n < 0) := by omega
    rw [if_pos h]
    go_wp2
    go_ret
    exact ⟨rfl, rfl⟩
  · have hlt : ((1048576 : Int) - n < 0) := by omega
    rw [if_neg h]
    go_wp2
    go_ret
    exact ⟨rfl, rfl⟩

set_option maxRecDepth 100000 in
theorem szGraph_any (n : Int) (A : Option Addr) (k c : Nat) (w : World) (hm : k ≤ maxLen) :
    Calls Try.prog 32 #[grV n A k c, .int .i64 1048576] w fun x w' => x = .returned (.int .i64 (if k ≤ 1048576 then 1048576 - k else -1)) ∧ Below w.heap.size w w' := by
  unfold grV
  obtain ⟨r, hr⟩ : ∃ r : Int, r = if k ≤ 1048576 then (1048576 : Int) - k else -1 := ⟨_, rfl⟩
  have hc := szEdgeS_any A k c
  rw [← hr] at hc ⊢
  have h0 : r = -1 ∨ 0 ≤ r := by split at hr <;> omega
  clear hr
  go_enter Try.func32, Try.ntmps32
  rcases h0 with rfl | h0
  · go_wp2_with (go_at_call 76; refine (hc _ hm).mono ?_; rintro e w1 ⟨rfl, rfl⟩)
    go_ret
    exact ⟨rfl, (Below.refl _ _).alloc (Nat.le_refl _) _⟩
  · go_wp2_with (go_at_call 76; refine (hc _ hm).mono ?_; rintro e w1 ⟨rfl, rfl⟩)
    go_ret
    exact ⟨rfl, (Below.refl _ _).alloc (Nat.le_refl _) _⟩

end Go.Proofs.Ytdjaiijgdflopaa
