/-
  WALKS of slices.Grow at nil, slices.Concat of two slices of links, and impl.WithLink.
-/
import Derived.Test.YteppmlepbfjnpaaBdSmL
import Derived.Test.YteppmlepbfjnpaaNwO
import Derived.Lib.AppendZeros
import Derived.Deep.RegionHeld3
import Derived.Deep.RegionLaw
import Derived.Deep.CutRange
namespace Go.Proofs.Yteppmlepbfjnpaa
open Go.RowKit
set_option linter.unusedVariables false
set_option linter.unusedSimpArgs false

theorem link_one {w : World} {b : Nat} {u v lo hi : Int} {t : TypeId} (h : w.heap[b]? = some (.cells #[.int .i64 u, .int .i64 v, .int .i64 lo, .int .i64 hi] t (0, 0))) : LinkAt w (some ⟨b, 0, none⟩) [⟨u, v, lo, hi⟩] := by
  intro _
  refine ⟨b, 0, rfl, (Array.getElem?_eq_some_iff.1 h).1, fun j hj => ?_⟩
  have hj0 : j = 0 := by simpa using hj
  subst hj0
  refine ⟨?_, ?_, ?_, ?_⟩ <;> (rw [cell_of_row w b _ _ t (0, 0) h]; rfl)

/-- The state ahead of each round of Concat's second loop. -/
def CcR (w : World) (es : List GL) (x : GL) (k : Nat) (ii ou : Value) (wr : World) : Prop :=
  ∃ (j : Nat) (L : List GL) (A3 : Option Addr) (d3 : Nat), ii = .int .i64 (j : Int) ∧ ou = .slice A3 L.length d3 ∧ (j = 0 ∧ L = [] ∨ j = 1 ∧ L = es ∨ j = 2 ∧ L = es ++ [x]) ∧ wr.ownsRow w.heap.size 76 4 (.slice A3 L.length d3) L.length (cellsL L) ∧ Below w.heap.size w wr

set_option maxRecDepth 100000 in
set_option maxHeartbeats 2000000 in
theorem simpleOk_more (n : Int) (es : List GL) (A : Option Addr) (k c : Nat) (w : World) (hn : es.length = k) (hm : k ≤ 1048577) (hr : LinkAt w A es) :
    Calls Try.prog 15 #[grV n A k c] w fun e w' => e = .returned (.bool (okS n es)) ∧ Below w.heap.size w w' := by
  by_cases h : k ≤ 1048576
  · exact impl_SimpleOk n es A k c w hn h hr
  · have hk40 : ((40 : Int) < k) := by omega
    have HL := Lib.hid (okS_big n es (by omega))
    clear hr hn
    unfold grV
    by_cases h1 : n < 1
    · go_enter Try.func15, Try.ntmps15
      go_wp2_with fail
      go_ret
      exact ⟨ret_b HL.out.symm, (by repeat (first | exact Below.refl _ _ | refine below_step (by assumption) (by first | omega | (simp; done) | (simp; omega)) ?_ | refine below_drewN ?_ _ | refine Below.drew ?_ | refine Below.setCell ?_ (by first | omega | (simp; done) | (simp; omega)) _ | refine Below.alloc ?_ (by first | omega | (simp; done) | (simp; omega)) _))⟩
    · by_cases h8 : 8 < n
      · go_enter Try.func15, Try.ntmps15
        go_wp2_with fail
        go_ret
        exact ⟨ret_b HL.out.symm, (by repeat (first | exact Below.refl _ _ | refine below_step (by assumption) (by first | omega | (simp; done) | (simp; omega)) ?_ | refine below_drewN ?_ _ | refine Below.drew ?_ | refine Below.setCell ?_ (by first | omega | (simp; done) | (simp; omega)) _ | refine Below.alloc ?_ (by first | omega | (simp; done) | (simp; omega)) _))⟩
      · go_enter Try.func15, Try.ntmps15
        go_wp2_with fail
        go_ret
        exact ⟨ret_b HL.out.symm, (by repeat (first | exact Below.refl _ _ | refine below_step (by assumption) (by first | omega | (simp; done) | (simp; omega)) ?_ | refine below_drewN ?_ _ | refine Below.drew ?_ | refine Below.setCell ?_ (by first | omega | (simp; done) | (simp; omega)) _ | refine Below.alloc ?_ (by first | omega | (simp; done) | (simp; omega)) _))⟩
theorem okS_front {n : Int} {es : List GL} {e : GL} (h : okS n (es ++ [e]) = true) : okS n es = true := by
  have hr := okS_rng h
  rw [List.length_append] at hr
  unfold okS at h ⊢
  rw [Bool.and_eq_true] at h ⊢
  refine ⟨decide_eq_true ⟨hr.1, hr.2.1, by have := hr.2.2; simp at this; omega⟩, ?_⟩
  have h2 := h.2
  rw [List.all_append, Bool.and_eq_true] at h2
  exact h2.1
theorem wlR_back (n : Int) (es : List GL) (e : GL) : wlR n es e = okS n (es ++ [e]) := by
  unfold wlR
  cases h : okS n (es ++ [e]) with
  | true => rw [okS_front h]; rfl
  | false => rw [Bool.and_false]

theorem cutL {p q : Prop} (hp : p) (k : p → q) : q := k hp
/-- What the making of the longer network leaves. -/
def WlCut (w0 : World) (n : Int) (L : List GL) (m : Nat) (p : Value) (wc : World) : Prop :=
  ∃ (B : Nat) (A : Option Addr) (c : Nat), p = .pointer (some ⟨B, 0, none⟩) ∧ w0.heap.size ≤ B ∧ B < wc.heap.size ∧ wc.cell? ⟨B, 0, none⟩ = some (.int .i64 n) ∧ wc.cell? ⟨B, 1, none⟩ = some (.slice A m c) ∧ wc.ownsRow w0.heap.size 76 4 (.slice A m c) m (cellsL L) ∧ Below w0.heap.size w0 wc

end Go.Proofs.Yteppmlepbfjnpaa

