/-
  THE ITERATOR OVER THE ROUNDS: rounds, rounds$1: as many rounds as the graph has nodes, each is handed the edges.
-/
import Derived.Test.YtdjaiijgdflopaaGrF
import Derived.RangeFuncNested
import Derived.RangeFuncBound
import Derived.RangeFuncCalls
import Derived.RangeFuncLeaves
import Derived.Shelf.Abstract
import Derived.Shelf.RegionOpen
import Derived.WalkKit
import Derived.OwnWalkIn
import Derived.TacticsInMore
import Derived.LoopNIn
import Derived.LoopIn
namespace Go.Proofs.Ytdjaiijgdflopaa
open Go.RowKit Go.Shelf
set_option linter.unusedVariables false
set_option linter.unusedSimpArgs false

attribute [local go_sem] Oper.semAt_some

/-- What a round keeps: the block in which the iterator holds the graph. -/
def KpB (Bn : Nat) (W W' : World) : Prop := W'.heap[Bn]? = W.heap[Bn]?
theorem KpB.t {Bn : Nat} {A B C : World} (h : KpB Bn A B) (k : KpB Bn B C) : KpB Bn A C := Eq.trans k h
theorem KpB.b {Bn : Nat} {w : World} (hn : Bn < w.heap.size) (W : World) (l : Nat) (o o' : Obj) (hl : w.heap.size ≤ l) (h : W.heap[l]? = some o) (_ : o.isCells = false) (_ : o.isWalk = false) : KpB Bn W (W.putObj l o') :=
  World.putObj_heap_other (by omega)

set_option maxRecDepth 100000 in
set_option maxHeartbeats 2000000 in
theorem rounds1_in (F : Fence) (n : Nat) (h6 : F.fn 94) (hro : F.round = none) (hn : 1 ≤ n) (l Bn N : Nat) (A : Option Addr) (k c : Nat) (hN : N ≤ 8) (J Jx : List Unit → World → Prop)
    (hY : ∀ pre x W, J pre W → pre.length < N → YieldAt F (n - 1) Try.prog l #[.slice A k c] W fun e W' =>
      (e = .returned (.bool true) ∧ J (pre ++ [x]) W' ∧ KpB Bn W W') ∨ (e = .returned (.bool false) ∧ Jx (pre ++ [x]) W'))
    (W : World) (hB0 : W.cell? ⟨Bn, 0, none⟩ = some (.int .i64 N)) (hB1 : W.cell? ⟨Bn, 1, none⟩ = some (.slice A k c)) (h0 : J [] W) :
    CallsIn F n Try.prog 94 #[.func (.yield l) #[] #[], .pointer (some ⟨Bn, 0, none⟩)] W fun e W' => (∃ v, e = .returned v) ∧
      ((∃ ys, ys.length = N ∧ J ys W') ∨ (∃ pre, pre.length ≤ N ∧ Jx pre W')) := by
  refine callsIn_of_wp Try.func94 rfl h6 ?_ hro
  simp only [Try.ntmps94, List.size_toArray, List.length_cons, List.length_nil, Nat.reduceAdd, Nat.reduceSub, Array.replicate_succ, Array.replicate_zero, List.push_toArray, List.append_toArray, List.nil_append, List.cons_append]
  gi_wp2
  gi_loopw [5] (fun i wr => ∃ (j : Nat) (pre : List Unit), j ≤ N ∧ i = .int .i64 j ∧ pre.length = j ∧ J pre wr ∧ wr.cell? ⟨Bn, 1, none⟩ = some (.slice A k c)) (fun i _ => N - (intOf i).toNat)
  case atStart => exact ⟨0, [], Nat.zero_le _, rfl, rfl, h0, hB1⟩
  case round =>
    obtain ⟨j, pre, hj, rfl, hpl, hJs, hb1⟩ := hrel
    by_cases hlt : j < N
    · obtain ⟨fn, tmps, assign, body, hy, hR⟩ := hY pre () wr hJs (by omega)
      have HP := Lib.hid hpl
      clear hpl
      gi_wp2
      refine hR.mono ?_
      rintro e W3 (⟨rfl, hJ3, hk3⟩ | ⟨rfl, hJx3⟩)
      · have hb3 : W3.cell? ⟨Bn, 1, none⟩ = some (.slice A k c) := (World.cell?_of_block (a := ⟨Bn, 1, none⟩) hk3).trans hb1
        clear hk3
        gi_wp2
        go_roundw
        case rel => exact ⟨j + 1, pre ++ [()], by omega, by go_num, by have := HP.out; simp; omega, hJ3, hb3⟩
        case measure => simp [intOf]; omega
      · gi_wp2
        refine bodyPost_ret (results_none rfl _ _ _) rfl ?_
        exact ⟨⟨_, rfl⟩, .inr ⟨pre ++ [()], by have := HP.out; simp; omega, hJx3⟩⟩
    · have : j = N := by omega
      subst this
      gi_wp2
      go_end0
      exact ⟨⟨_, rfl⟩, .inl ⟨pre, hpl, hJs⟩⟩

set_option maxHeartbeats 1000000 in
theorem rounds_in (F : Fence) (n : Nat) (h5 : F.fn 88) (hro : F.round = none) (N : Int) (A : Option Addr) (k c : Nat) (w : World) :
    CallsIn F n Try.prog 88 #[grV N A k c] w fun e w' => e = .returned (.func (.func 94) #[] #[.pointer (some ⟨w.heap.size, 0, none⟩)]) ∧ w' = w.alloc (.cells #[.int .i64 N, .slice A k c] 25) := by
  unfold grV
  refine callsIn_of_wp Try.func88 rfl h5 ?_ hro
  simp only [Try.ntmps88, List.size_toArray, List.length_cons, List.length_nil, Nat.reduceAdd, Nat.reduceSub, Array.replicate_succ, Array.replicate_zero, List.push_toArray, List.append_toArray, List.nil_append, List.cons_append]
  gi_wp2
  go_ret
  exact ⟨rfl, rfl⟩

theorem rounds_stops (F : Fence) (n : Nat) (h6 : F.fn 94) (hro : F.round = none) (hn : 1 ≤ n) (Bn N : Nat) (A : Option Addr) (k c : Nat) (hN : N ≤ 8) (w : World) (hBn : Bn < w.heap.size)
    (hB0 : w.cell? ⟨Bn, 0, none⟩ = some (.int .i64 N)) (hB1 : w.cell? ⟨Bn, 1, none⟩ = some (.slice A k c)) :
    SeqStopsK F n Try.prog 94 #[.pointer (some ⟨Bn, 0, none⟩)] (fun _ : Unit => #[Value.slice A k c]) (KpB Bn) (fun ys => ys.length = N) (fun pre => pre.length ≤ N) N w := fun l J Jx W hW _ _ hY h0 =>
  rounds1_in F n h6 hro hn l Bn N A k c hN J Jx hY W ((hW.cell (p := ⟨Bn, 0, none⟩) hBn).trans hB0) ((hW.cell (p := ⟨Bn, 1, none⟩) hBn).trans hB1) h0

end Go.Proofs.Ytdjaiijgdflopaa
