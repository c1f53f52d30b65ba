/-
  impl.IntervalOk.
  Contains.
  WALKS of laws.toInterval and laws.eqInterval; an interval that comes in.
  WALKS of the laws' helpers over edges and graphs: toEdge, toEdgeS, toGraph, szEdgeS, szGraph, eqEdge, eqEdgeS, eqGraph.
  WALKS over slices of edges: toEdgeS, eqEdgeS; toGraph, eqGraph.
  WALKS over slices of edges: eqEdgeS; toGraph, eqGraph.
  WALKS of the laws' helpers over one link, and the measures: toInterval, eqInterval, toLink, eqLink, szLinkS, szSimple.
  WALKS over slices of links: toLinkS.
  WALKS over slices of links: toSimple, eqLinkS.
  WALKS of eqGraph, hasNode, spec.GraphOk and impl.GraphOk: a graph that is one.
  WALK of spec.SimpleOk: a network that is one.
-/
import Derived.Test.YteppmlepbfjnpaaProg
import Derived.Test.YteppmlepbfjnpaaBdDig
import Derived.Test.YteppmlepbfjnpaaIvOkA
import Derived.Test.YteppmlepbfjnpaaIvOkB
import Derived.Test.YteppmlepbfjnpaaIvOkC
import Derived.Test.YteppmlepbfjnpaaIvOkD
import Derived.Test.YteppmlepbfjnpaaIvOkE
import Derived.Test.YteppmlepbfjnpaaIvOkF
import Derived.WalkKit
import Derived.WalkSpells
import Derived.WalkLawsBesides
import Derived.Deep.QuietTactic
import Derived.Deep.RegionWith
import Derived.Deep.RegionHeld3
import Derived.BigQuiet
import Derived.Lib.Hide
import Derived.Below
import Derived.ProofKit
import Derived.Lib.SmallJoins
import Derived.Laws.Rows
import Derived.Laws.OwnMore
import Derived.Deep.Onto
import Derived.Deep.AppendLies
namespace Go.Proofs.Yteppmlepbfjnpaa
open Go.RowKit
set_option linter.unusedVariables false
set_option linter.unusedSimpArgs false

theorem clampI_in {n : Int} (h : n = clampI n) : -1000000 ≤ n ∧ n ≤ 1000000 := by have := clampI_rng n; omega
theorem impl_IntervalOk (l h : Int) (w : World) :
    Calls Try.prog 52 #[ivV l h] w fun e w' => e = .returned (.bool (okI l h)) ∧ ∃ q a b, w' = (((w.alloc (.cells #[.int .i64 l, .int .i64 h] 29)).alloc (.cells #[.int .i64 l, .int .i64 h] 29)).alloc (.cells #[.int .i64 a, .int .i64 b] 29)).drewN q := by
  by_cases hl : l = clampI l
  · have rl := clampI_in hl
    by_cases hh : h = clampI h
    · have rh := clampI_in hh
      by_cases h1 : l ≤ h
      · by_cases h2 : l = 1000000
        · obtain rfl : h = 1000000 := by omega
          subst h2
          exact (impl_IntervalOk_c w).mono fun e w1 ⟨he, q, hq⟩ => ⟨he, q, _, _, hq⟩
        · by_cases h3 : h = -1000000
          · obtain rfl : l = -1000000 := by omega
            subst h3
            exact (impl_IntervalOk_d w).mono fun e w1 ⟨he, q, hq⟩ => ⟨he, q, _, _, hq⟩
          · exact (impl_IntervalOk_a l h hl hh h1 h2 h3 w).mono fun e w1 ⟨he, q, hq⟩ => ⟨he, q, _, _, hq⟩
      · exact (impl_IntervalOk_b l h hl hh h1 w).mono fun e w1 ⟨he, q, hq⟩ => ⟨he, q, _, _, hq⟩
    · exact (impl_IntervalOk_f l h hl hh w).mono fun e w1 ⟨he, q, hq⟩ => ⟨he, q, _, _, hq⟩
  · exact (impl_IntervalOk_e l h hl w).mono fun e w1 ⟨he, q, hq⟩ => ⟨he, q, _, _, hq⟩

end Go.Proofs.Yteppmlepbfjnpaa

namespace Go.Proofs.Yteppmlepbfjnpaa
open Go.RowKit
set_option linter.unusedVariables false
set_option linter.unusedSimpArgs false

set_option maxRecDepth 100000 in
set_option maxHeartbeats 400000 in
theorem impl_reachesDown (l h n : Int) (w : World) :
    Calls Try.prog 53 #[ivV l h, .int .i64 n] w fun e w' => e = .returned (.bool (decide (l = -1000000 ∨ l ≤ n))) ∧ ∃ a b, w' = w.alloc (.cells #[.int .i64 a, .int .i64 b] 29) := by
  unfold ivV
  go_enter Try.func53, Try.ntmps53
  go_wp2
  all_goals (go_ret; exact ⟨bool_ans (by (try simp) <;> omega), _, _, rfl⟩)

set_option maxRecDepth 100000 in
set_option maxHeartbeats 400000 in
theorem impl_reachesUp (l h n : Int) (w : World) :
    Calls Try.prog 54 #[ivV l h, .int .i64 n] w fun e w' => e = .returned (.bool (decide (h = 1000000 ∨ n ≤ h))) ∧ ∃ a b, w' = w.alloc (.cells #[.int .i64 a, .int .i64 b] 29) := by
  unfold ivV
  go_enter Try.func54, Try.ntmps54
  go_wp2
  all_goals (go_ret; exact ⟨bool_ans (by (try simp) <;> omega), _, _, rfl⟩)

set_option maxRecDepth 100000 in
set_option maxHeartbeats 400000 in
theorem impl_Contains (l h n : Int) (w : World) :
    Calls Try.prog 18 #[ivV l h, .int .i64 n] w fun e w' => e = .returned (.bool (inI l h n)) ∧ Below w.heap.size w w' := by
  have HO := Lib.hid (impl_IntervalOk l h)
  have HD := Lib.hid (impl_reachesDown l h n)
  have HU := Lib.hid (impl_reachesUp l h n)
  unfold ivV at HO HD HU ⊢
  go_enter Try.func18, Try.ntmps18
  go_wp2_with (first | (go_at_call 52; refine (HO.out _).mono ?_; rintro e w1 ⟨rfl, q, a, b, rfl⟩) | (go_at_call 53; refine (HD.out _).mono ?_; rintro e w1 ⟨rfl, a, b, rfl⟩) | (go_at_call 54; refine (HU.out _).mono ?_; rintro e w1 ⟨rfl, a, b, rfl⟩))
  all_goals (go_ret; exact ⟨bool_ans (by (try simp [inI, *]) <;> omega), (by repeat (first | exact Below.refl _ _ | refine below_drewN ?_ _ | refine Below.drew ?_ | refine Below.alloc ?_ (by (try simp) <;> omega) _))⟩)

theorem impl_IntervalOk_below (l h : Int) (w : World) :
    Calls Try.prog 52 #[ivV l h] w fun e w' => e = .returned (.bool (okI l h)) ∧ Below w.heap.size w w' :=
  (impl_IntervalOk l h w).mono fun e w1 ⟨h1, q, x, y, h2⟩ => ⟨h1, by rw [h2]; exact below_drewN ((below_one _).alloc (by simp) _ |>.alloc (by (try simp) <;> omega) _) q⟩

end Go.Proofs.Yteppmlepbfjnpaa

namespace Go.Proofs.Yteppmlepbfjnpaa
open Go.RowKit Go.ChangeShapes Go.WideShapes Go.ChangeAt Go.WideMaps Go.WideElems
set_option linter.unusedVariables false
set_option linter.unusedSimpArgs false

theorem orZ_iv (b : Bool) (l h : Int) : ∃ lo hi, orZ b l h = ivV lo hi := by cases b <;> exact ⟨_, _, rfl⟩
theorem cells_iv : Try.prog.cellsOf 114 = 2 := by kernel_rfl
set_option maxRecDepth 100000 in
/-- An interval that comes in: its two ints. -/
theorem open_iv {H : Type} {enc : TypeId × Value → H} {W : World} {r : Reach} {b : Nat} {v : Value} {d : DataW H} {p : List MemPlace} {base : Nat} {spare : Nat → Bool} {held : Bool}
    (hv : Value.okWide Try.prog W r b 114 v) (h : DataW.Trod enc Try.prog W base spare held 114 v d p) :
    ∃ l k : Int, v = .agg #[.int .i64 l, .int .i64 k] ∧ (Lit.int .i64 l).wf = true ∧ (Lit.int .i64 k).wf = true := by
  obtain ⟨c0, c1, y0, y1, m, rfl, rfl, rfl, hy0, hy1⟩ := Go.Joins.open_agg2 Try.underlying114 (by kernel_rfl) cells_iv hv h
  obtain ⟨a, e0, hx0, wa⟩ := DataW.trod_int Try.underlying3 hy0
  obtain ⟨b, e1, hx1, wb⟩ := DataW.trod_int Try.underlying3 hy1
  simp at e0 e1
  subst e0 e1
  exact ⟨a, b, rfl, wa, wb⟩

set_option maxRecDepth 100000 in
set_option maxHeartbeats 1000000 in
theorem toInterval_any (l h : Int) (w : World) :
    Calls Try.prog 101 #[.agg #[.int .i64 l, .int .i64 h]] w fun e w' => e = .returned (ivV l h) ∧ Below w.heap.size w w' := by
  unfold ivV
  go_enter Try.func101, Try.ntmps101
  go_wp2
  refine bodyPost_ret (v := .agg #[.int .i64 l, .int .i64 h]) (by simp [results, Try.results101, go_sem]) rfl ⟨rfl, (by repeat (first | exact Below.refl _ _ | refine below_step (by assumption) (by (try simp) <;> omega) ?_ | refine below_drewN ?_ _ | refine Below.drew ?_ | refine Below.setCell ?_ (by (try simp) <;> omega) _ | refine Below.alloc ?_ (by (try simp) <;> omega) _))⟩

set_option maxRecDepth 100000 in
set_option maxHeartbeats 1000000 in
theorem eqInterval_any (l h : Int) (w : World) :
    Calls Try.prog 37 #[ivV l h, ivV l h] w fun e w' => e = .returned (.bool true) ∧ Below w.heap.size w w' := by
  unfold ivV
  have h1 : ((l : Int) != l) = false := by simp
  have h2 : ((h : Int) != h) = false := by simp
  go_enter Try.func37, Try.ntmps37
  go_wp2
  go_ret
  exact ⟨rfl, (by repeat (first | exact Below.refl _ _ | refine below_step (by assumption) (by (try simp) <;> omega) ?_ | refine below_drewN ?_ _ | refine Below.drew ?_ | refine Below.setCell ?_ (by (try simp) <;> omega) _ | refine Below.alloc ?_ (by (try simp) <;> omega) _))⟩

end Go.Proofs.Yteppmlepbfjnpaa

namespace Go.Proofs.Yteppmlepbfjnpaa
open Go.RowKit
set_option linter.unusedVariables false
set_option linter.unusedSimpArgs false

theorem Try.info110 : (Try.prog.info? 110).map (fun i => (i.zero, i.size, i.bytes)) = some (some (.agg #[.int .i64 0, .int .i64 0, .int .i64 0]), 3, 24) := by kernel_rfl

end Go.Proofs.Yteppmlepbfjnpaa

namespace Go.Proofs.Yteppmlepbfjnpaa
open Go.RowKit
set_option linter.unusedVariables false
set_option linter.unusedSimpArgs false

theorem put3 (xs : List Value) (k : Nat) (es : List GE) (e : GE) (hl : k * 3 + 3 ≤ xs.length) (hk : xs.take (k * 3) = cellsE (es.take k)) (he : es[k]? = some e) :
    (((xs.set (k * 3) (.int .i64 e.u)).set (k * 3 + 1) (.int .i64 e.v)).set (k * 3 + 2) (.int .i64 e.c)).take ((k + 1) * 3) = cellsE (es.take (k + 1)) := by
  have hes : es.take (k + 1) = es.take k ++ [e] := by
    rw [List.take_add_one, he]; rfl
  have hx : xs = xs.take (k * 3) ++ xs.drop (k * 3) := (List.take_append_drop _ _).symm
  obtain ⟨a, b, c, r, hr⟩ : ∃ a b c r, xs.drop (k * 3) = a :: b :: c :: r := by
    have hd : (xs.drop (k * 3)).length = xs.length - k * 3 := List.length_drop ..
    match h : xs.drop (k * 3) with
    | [] => rw [h] at hd; simp at hd; omega
    | [_] => rw [h] at hd; simp at hd; omega
    | [_, _] => rw [h] at hd; simp at hd; omega
    | a :: b :: c :: r => exact ⟨a, b, c, r, rfl⟩
  have hp : (xs.take (k * 3)).length = k * 3 := by simp; omega
  rw [hx, hr]
  rw [List.set_append_right _ _ (by omega), List.set_append_right _ _ (by omega), List.set_append_right _ _ (by omega), hp]
  rw [show k * 3 - k * 3 = 0 from by omega, show k * 3 + 1 - k * 3 = 1 from by omega, show k * 3 + 2 - k * 3 = 2 from by omega]
  rw [List.take_append, hp, List.take_of_length_le (by omega), show (k + 1) * 3 - k * 3 = 3 from by omega, hes, cellsE_append, hk]
  rfl

theorem set3_length (xs : List Value) (i j k : Nat) (a b c : Value) : (((xs.set i a).set j b).set k c).length = xs.length := by simp

end Go.Proofs.Yteppmlepbfjnpaa

namespace Go.Proofs.Yteppmlepbfjnpaa
open Go.RowKit
set_option linter.unusedVariables false
set_option linter.unusedSimpArgs false

theorem setCell_grown (w : World) (p : Addr) (u : Value) : w.grownBy (w.setCell p u) (some p.block) :=
  ⟨rfl, rfl, rfl, by simp, fun k _ hk => heap_setCell_other w p k u (fun e => hk (by simp [e]))⟩
theorem own_base {w : World} {B B' e n s : Nat} {v : Value} {xs : List Value} (h : w.ownsRow B e s v n xs) (hb : B' ≤ B) : w.ownsRow B' e s v n xs := by
  refine ⟨h.1, ?_⟩
  rcases h.2 with h2 | ⟨g, cap, cur, h1, h2, h3⟩
  · exact .inl h2
  · exact .inr ⟨g, cap, cur, h1, by omega, h3⟩
theorem own_set {w : World} {B e n s : Nat} {v : Value} {xs : List Value} (h : w.ownsRow B e s v n xs) (p : Addr) (u : Value) (hp : p.block < B) : (w.setCell p u).ownsRow B e s v n xs :=
  h.kept (setCell_grown w p u) (by
    cases hb : v.ownBlock with
    | none => exact .inl rfl
    | some g => exact .inr (fun e => by have := (h.lt g hb).1; injection e with e; omega))

end Go.Proofs.Yteppmlepbfjnpaa

namespace Go.Proofs.Yteppmlepbfjnpaa
open Go.RowKit
set_option linter.unusedVariables false
set_option linter.unusedSimpArgs false

theorem Try.info76 : (Try.prog.info? 76).map (fun i => (i.zero, i.size, i.bytes)) = some (some (.agg #[.int .i64 0, .int .i64 0, .int .i64 0, .int .i64 0]), 4, 32) := by kernel_rfl

set_option maxRecDepth 100000 in
set_option maxHeartbeats 2000000 in
theorem toLink_any (e : GL) (w : World) :
    Calls Try.prog 87 #[e.val] w fun x w' => x = .returned e.val ∧ Below w.heap.size w w' := by
  obtain ⟨u, v, l, z⟩ := e
  have HT := Lib.hid (fun W => toInterval_any l z W)
  unfold GL.val
  unfold ivV at HT
  go_enter Try.func87, Try.ntmps87
  go_wp2_with fail
  refine (HT.out _).mono ?_
  rintro x w1 ⟨rfl, b1⟩
  have k19_0 : w1.cell? ⟨w.heap.size + 1 + 1, 0, none⟩ = some (.int .i64 u) := (b1.cell (p := ⟨w.heap.size + 1 + 1, 0, none⟩) (by first | omega | (simp; done) | (simp; omega))).trans (by first | assumption | go_simp)
  have f19_0 : w1.frozen? ⟨w.heap.size + 1 + 1, 0, none⟩ = false := (b1.frozen (p := ⟨w.heap.size + 1 + 1, 0, none⟩) (by first | omega | (simp; done) | (simp; omega))).trans (by first | assumption | go_simp)
  have k19_1 : w1.cell? ⟨w.heap.size + 1 + 1, 1, none⟩ = some (.int .i64 v) := (b1.cell (p := ⟨w.heap.size + 1 + 1, 1, none⟩) (by first | omega | (simp; done) | (simp; omega))).trans (by first | assumption | go_simp)
  have f19_1 : w1.frozen? ⟨w.heap.size + 1 + 1, 1, none⟩ = false := (b1.frozen (p := ⟨w.heap.size + 1 + 1, 1, none⟩) (by first | omega | (simp; done) | (simp; omega))).trans (by first | assumption | go_simp)
  have k19_2 : w1.cell? ⟨w.heap.size + 1 + 1, 2, none⟩ = some (.int .i64 0) := (b1.cell (p := ⟨w.heap.size + 1 + 1, 2, none⟩) (by first | omega | (simp; done) | (simp; omega))).trans (by first | assumption | go_simp)
  have f19_2 : w1.frozen? ⟨w.heap.size + 1 + 1, 2, none⟩ = false := (b1.frozen (p := ⟨w.heap.size + 1 + 1, 2, none⟩) (by first | omega | (simp; done) | (simp; omega))).trans (by first | assumption | go_simp)
  have k19_3 : w1.cell? ⟨w.heap.size + 1 + 1, 3, none⟩ = some (.int .i64 0) := (b1.cell (p := ⟨w.heap.size + 1 + 1, 3, none⟩) (by first | omega | (simp; done) | (simp; omega))).trans (by first | assumption | go_simp)
  have f19_3 : w1.frozen? ⟨w.heap.size + 1 + 1, 3, none⟩ = false := (b1.frozen (p := ⟨w.heap.size + 1 + 1, 3, none⟩) (by first | omega | (simp; done) | (simp; omega))).trans (by first | assumption | go_simp)
  have k15_0 : w1.cell? ⟨w.heap.size + 1, 0, none⟩ = some (.int .i64 0) := (b1.cell (p := ⟨w.heap.size + 1, 0, none⟩) (by first | omega | (simp; done) | (simp; omega))).trans (by first | assumption | go_simp)
  have f15_0 : w1.frozen? ⟨w.heap.size + 1, 0, none⟩ = false := (b1.frozen (p := ⟨w.heap.size + 1, 0, none⟩) (by first | omega | (simp; done) | (simp; omega))).trans (by first | assumption | go_simp)
  have k15_1 : w1.cell? ⟨w.heap.size + 1, 1, none⟩ = some (.int .i64 0) := (b1.cell (p := ⟨w.heap.size + 1, 1, none⟩) (by first | omega | (simp; done) | (simp; omega))).trans (by first | assumption | go_simp)
  have f15_1 : w1.frozen? ⟨w.heap.size + 1, 1, none⟩ = false := (b1.frozen (p := ⟨w.heap.size + 1, 1, none⟩) (by first | omega | (simp; done) | (simp; omega))).trans (by first | assumption | go_simp)
  have k15_2 : w1.cell? ⟨w.heap.size + 1, 2, none⟩ = some (.int .i64 0) := (b1.cell (p := ⟨w.heap.size + 1, 2, none⟩) (by first | omega | (simp; done) | (simp; omega))).trans (by first | assumption | go_simp)
  have f15_2 : w1.frozen? ⟨w.heap.size + 1, 2, none⟩ = false := (b1.frozen (p := ⟨w.heap.size + 1, 2, none⟩) (by first | omega | (simp; done) | (simp; omega))).trans (by first | assumption | go_simp)
  have k15_3 : w1.cell? ⟨w.heap.size + 1, 3, none⟩ = some (.int .i64 0) := (b1.cell (p := ⟨w.heap.size + 1, 3, none⟩) (by first | omega | (simp; done) | (simp; omega))).trans (by first | assumption | go_simp)
  have f15_3 : w1.frozen? ⟨w.heap.size + 1, 3, none⟩ = false := (b1.frozen (p := ⟨w.heap.size + 1, 3, none⟩) (by first | omega | (simp; done) | (simp; omega))).trans (by first | assumption | go_simp)
  have k11_0 : w1.cell? ⟨w.heap.size, 0, none⟩ = some (.int .i64 u) := (b1.cell (p := ⟨w.heap.size, 0, none⟩) (by first | omega | (simp; done) | (simp; omega))).trans (by first | assumption | go_simp)
  have f11_0 : w1.frozen? ⟨w.heap.size, 0, none⟩ = false := (b1.frozen (p := ⟨w.heap.size, 0, none⟩) (by first | omega | (simp; done) | (simp; omega))).trans (by first | assumption | go_simp)
  have k11_1 : w1.cell? ⟨w.heap.size, 1, none⟩ = some (.int .i64 v) := (b1.cell (p := ⟨w.heap.size, 1, none⟩) (by first | omega | (simp; done) | (simp; omega))).trans (by first | assumption | go_simp)
  have f11_1 : w1.frozen? ⟨w.heap.size, 1, none⟩ = false := (b1.frozen (p := ⟨w.heap.size, 1, none⟩) (by first | omega | (simp; done) | (simp; omega))).trans (by first | assumption | go_simp)
  have k11_2 : w1.cell? ⟨w.heap.size, 2, none⟩ = some (.int .i64 l) := (b1.cell (p := ⟨w.heap.size, 2, none⟩) (by first | omega | (simp; done) | (simp; omega))).trans (by first | assumption | go_simp)
  have f11_2 : w1.frozen? ⟨w.heap.size, 2, none⟩ = false := (b1.frozen (p := ⟨w.heap.size, 2, none⟩) (by first | omega | (simp; done) | (simp; omega))).trans (by first | assumption | go_simp)
  have k11_3 : w1.cell? ⟨w.heap.size, 3, none⟩ = some (.int .i64 z) := (b1.cell (p := ⟨w.heap.size, 3, none⟩) (by first | omega | (simp; done) | (simp; omega))).trans (by first | assumption | go_simp)
  have f11_3 : w1.frozen? ⟨w.heap.size, 3, none⟩ = false := (b1.frozen (p := ⟨w.heap.size, 3, none⟩) (by first | omega | (simp; done) | (simp; omega))).trans (by first | assumption | go_simp)
  have s3 : w.heap.size + 1 < w1.heap.size := Nat.lt_of_lt_of_le (by first | omega | (simp; done) | (simp; omega)) b1.size
  have s1 : w.heap.size + 1 + 1 < w1.heap.size := Nat.lt_of_lt_of_le (by first | omega | (simp; done) | (simp; omega)) b1.size
  have s2 : w.heap.size < w1.heap.size := Nat.lt_of_lt_of_le (by first | omega | (simp; done) | (simp; omega)) b1.size
  have B_w1 : Below w.heap.size w w1 := (by repeat (first | exact Below.refl _ _ | refine below_step (by assumption) (by first | omega | (simp; done) | (simp; omega)) ?_ | refine below_drewN ?_ _ | refine Below.drew ?_ | refine Below.setCell ?_ (by first | omega | (simp; done) | (simp; omega)) _ | refine Below.alloc ?_ (by first | omega | (simp; done) | (simp; omega)) _))
  clear b1
  go_wp2_with fail
  refine bodyPost_ret (v := .agg #[.int .i64 u, .int .i64 v, .int .i64 l, .int .i64 z]) (by simp [results, Try.results87, go_sem, k15_0, k15_1, k15_2, k15_3]) rfl ⟨rfl, (by (iterate 6 (refine Below.setCell ?_ (by first | omega | (simp; done) | (simp; omega)) _)); exact B_w1)⟩

set_option maxRecDepth 100000 in
set_option maxHeartbeats 2000000 in
theorem eqLink_any (e : GL) (w : World) :
    Calls Try.prog 88 #[e.val, e.val] w fun x w' => x = .returned (.bool true) ∧ Below w.heap.size w w' := by
  obtain ⟨u, v, l, z⟩ := e
  have HT := Lib.hid (fun W => eqInterval_any l z W)
  unfold GL.val
  unfold ivV at HT
  have h1 : ((u : Int) != u) = false := by simp
  have h2 : ((v : Int) != v) = false := by simp
  go_enter Try.func88, Try.ntmps88
  go_wp2_with fail
  first
  | (refine (HT.out _).mono ?_
     rintro x w1 ⟨rfl, b1⟩
     go_wp2_with fail)
  | (go_region_held3 (fun W => True) (go_keep) (first | (go_at_call 37; refine (HT.out _).mono ?_; rintro x w1 ⟨rfl, b1⟩))
     all_goals go_wp2_with fail)
  all_goals go_ret
  all_goals exact ⟨rfl, (by repeat (first | exact Below.refl _ _ | refine below_step (by assumption) (by first | omega | (simp; done) | (simp; omega)) ?_ | refine below_drewN ?_ _ | refine Below.drew ?_ | refine Below.setCell ?_ (by first | omega | (simp; done) | (simp; omega)) _ | refine Below.alloc ?_ (by first | omega | (simp; done) | (simp; omega)) _))⟩

set_option maxRecDepth 100000 in
theorem szLinkS_any (A : Option Addr) (n c : Nat) (w : World) (hm : n ≤ maxLen) :
    Calls Try.prog 63 #[.slice A n c, .int .i64 1048576] w fun x w' => x = .returned (.int .i64 (if n ≤ 1048576 then 1048576 - n else -1)) ∧ w' = w := by
  unfold maxLen at hm
  go_enter Try.func63, Try.ntmps63
  by_cases h : n ≤ 1048576
  · have hlt : ¬ ((1048576 : Int) - n < 0) := by omega
    rw [if_pos h]
    go_wp2
    go_ret
    exact ⟨rfl, rfl⟩
  · have hlt : ((1048576 : Int) - n < 0) := by omega
    rw [if_neg h]
    go_wp2
    go_ret
    exact ⟨rfl, rfl⟩

set_option maxRecDepth 100000 in
theorem szSimple_any (n : Int) (A : Option Addr) (k c : Nat) (w : World) (hm : k ≤ maxLen) :
    Calls Try.prog 25 #[grV n A k c, .int .i64 1048576] w fun x w' => x = .returned (.int .i64 (if k ≤ 1048576 then 1048576 - k else -1)) ∧ Below w.heap.size w w' := by
  unfold grV
  obtain ⟨r, hr⟩ : ∃ r : Int, r = if k ≤ 1048576 then (1048576 : Int) - k else -1 := ⟨_, rfl⟩
  have hc := szLinkS_any A k c
  rw [← hr] at hc ⊢
  have h0 : r = -1 ∨ 0 ≤ r := by split at hr <;> omega
  clear hr
  go_enter Try.func25, Try.ntmps25
  rcases h0 with rfl | h0
  · go_wp2_with (go_at_call 63; refine (hc _ hm).mono ?_; rintro e w1 ⟨rfl, rfl⟩)
    go_ret
    exact ⟨rfl, (Below.refl _ _).alloc (Nat.le_refl _) _⟩
  · go_wp2_with (go_at_call 63; refine (hc _ hm).mono ?_; rintro e w1 ⟨rfl, rfl⟩)
    go_ret
    exact ⟨rfl, (Below.refl _ _).alloc (Nat.le_refl _) _⟩

end Go.Proofs.Yteppmlepbfjnpaa

namespace Go.Proofs.Yteppmlepbfjnpaa
open Go.RowKit
set_option linter.unusedVariables false
set_option linter.unusedSimpArgs false

theorem put4 (xs : List Value) (k : Nat) (es : List GL) (e : GL) (hl : k * 4 + 4 ≤ xs.length) (hk : xs.take (k * 4) = cellsL (es.take k)) (he : es[k]? = some e) :
    ((((xs.set (k * 4) (.int .i64 e.f)).set (k * 4 + 1) (.int .i64 e.t)).set (k * 4 + 2) (.int .i64 e.l)).set (k * 4 + 3) (.int .i64 e.h)).take ((k + 1) * 4) = cellsL (es.take (k + 1)) := by
  have hes : es.take (k + 1) = es.take k ++ [e] := by
    rw [List.take_add_one, he]; rfl
  have hx : xs = xs.take (k * 4) ++ xs.drop (k * 4) := (List.take_append_drop _ _).symm
  obtain ⟨a, b, c, d, r, hr⟩ : ∃ a b c d r, xs.drop (k * 4) = a :: b :: c :: d :: r := by
    have hd : (xs.drop (k * 4)).length = xs.length - k * 4 := List.length_drop ..
    match h : xs.drop (k * 4) with
    | [] => rw [h] at hd; simp at hd; omega
    | [_] => rw [h] at hd; simp at hd; omega
    | [_, _] => rw [h] at hd; simp at hd; omega
    | [_, _, _] => rw [h] at hd; simp at hd; omega
    | a :: b :: c :: d :: r => exact ⟨a, b, c, d, r, rfl⟩
  have hp : (xs.take (k * 4)).length = k * 4 := by simp; omega
  rw [hx, hr]
  rw [List.set_append_right _ _ (by omega), List.set_append_right _ _ (by omega), List.set_append_right _ _ (by omega), List.set_append_right _ _ (by omega), hp]
  rw [show k * 4 - k * 4 = 0 from by omega, show k * 4 + 1 - k * 4 = 1 from by omega, show k * 4 + 2 - k * 4 = 2 from by omega, show k * 4 + 3 - k * 4 = 3 from by omega]
  rw [List.take_append, hp, List.take_of_length_le (by omega), show (k + 1) * 4 - k * 4 = 4 from by omega, hes, cellsL_append, hk]
  rfl

set_option maxRecDepth 100000 in
set_option maxHeartbeats 2000000 in
theorem toLinkS_any (es : List GL) (A : Option Addr) (n c : Nat) (w : World) (hn : es.length = n) (hm : n ≤ 1048576) (hr : LinkAt w A es) :
    Calls Try.prog 66 #[.slice A n c] w fun e w' => ∃ v, e = .returned v ∧ w'.ownsRow w.heap.size 76 4 v n (cellsL es) ∧ Below w.heap.size w w' := by
  obtain ⟨i0, hi, hz0, hz1, hz2⟩ := info_parts Try.info76
  have hb2 : i0.bytes * n ≤ 281474976710656 := by rw [hz2]; omega
  have HR := Lib.hid hr
  have HL := Lib.hid hn
  clear hr hn
  go_enter Try.func66, Try.ntmps66
  go_wp2_with (refine wpList_make_full _ rfl _ _ 23 rfl w.heap.size 76 i0 (.agg #[.int .i64 0, .int .i64 0, .int .i64 0, .int .i64 0]) 4 Try.underlying23 hi hz0 hz1 .i64 .i64 _ _ n rfl rfl rfl rfl hb2 (by unfold maxLen; omega) (Nat.le_refl _) ?_)
  intro w1 h1 g1
  have b1 : Below w.heap.size w w1 := (Below.refl _ w).grown g1 (Nat.le_refl _) (fun k hk => by cases hk)
  clear g1
  have h1b : ∃ xs, w1.ownsRow w.heap.size 76 4 (.slice (some ⟨w.heap.size, 0, none⟩) n n) n xs ∧ xs.take (0 * 4) = cellsL (es.take 0) := ⟨_, h1, by simp [cellsL]⟩
  clear h1
  go_wp2
  go_loopw [4] (fun i wr => ∃ k : Nat, k ≤ n ∧ i = .int .i64 k ∧ (∃ xs, wr.ownsRow w.heap.size 76 4 (.slice (some ⟨w.heap.size, 0, none⟩) n n) n xs ∧ xs.take (k * 4) = cellsL (es.take k)) ∧ Below w.heap.size w wr) (fun i _ => n - (intOf i).toNat)
  case atStart => exact ⟨0, Nat.zero_le _, rfl, h1b, b1⟩
  case round =>
    obtain ⟨k, hk, rfl, ⟨xs, hown, htk⟩, hbw⟩ := hrel
    have HK := Lib.hid htk
    clear htk
    by_cases hlt : k < n
    · have hl := HL.out
      obtain ⟨g, o, rfl, hg, hc⟩ := HR.out (by omega)
      have hc1 := hc k (by omega)
      obtain ⟨e, he⟩ : ∃ e, e = es[k]'(by omega) := ⟨_, rfl⟩
      rw [← he] at hc1
      have HE : Hid (es[k]? = some e) := Lib.hid (by rw [he]; exact List.getElem?_eq_getElem _)
      obtain ⟨c0, c1, c2, c3⟩ := hc1
      have k0 := (hbw.cell (p := ⟨g, o + k * 4, none⟩) hg).trans c0
      have k1 := (hbw.cell (p := ⟨g, o + k * 4 + 1, none⟩) hg).trans c1
      have k2 := (hbw.cell (p := ⟨g, o + k * 4 + 2, none⟩) hg).trans c2
      have k3 := (hbw.cell (p := ⟨g, o + k * 4 + 3, none⟩) hg).trans c3
      have hlen : xs.length = n * 4 := hown.1
      have HO := Lib.hid hown
      have HLX := Lib.hid hlen
      clear hc c0 c1 c2 c3 he hl hown hlen
      go_wp2_with (go_at_call 87; refine (toLink_any e _).mono ?_; rintro x w2 ⟨rfl, b2⟩; unfold GL.val; have h2 := own_below HO.out b2; have hlx := HLX.out; have f0 := h2.frozenAt (k * 4); have f1 := h2.frozenAt (k * 4 + 1); have f2 := h2.frozenAt (k * 4 + 2); have f3 := h2.frozenAt (k * 4 + 3); (obtain ⟨y0, hy0⟩ : ∃ y, w2.cell? ⟨w.heap.size, k * 4, none⟩ = some y := ⟨_, (h2.cellAt (k * 4) (by omega)).trans (List.getElem?_eq_getElem (by omega))⟩); (obtain ⟨y1, hy1⟩ : ∃ y, w2.cell? ⟨w.heap.size, k * 4 + 1, none⟩ = some y := ⟨_, (h2.cellAt (k * 4 + 1) (by omega)).trans (List.getElem?_eq_getElem (by omega))⟩); (obtain ⟨y2, hy2⟩ : ∃ y, w2.cell? ⟨w.heap.size, k * 4 + 2, none⟩ = some y := ⟨_, (h2.cellAt (k * 4 + 2) (by omega)).trans (List.getElem?_eq_getElem (by omega))⟩); (obtain ⟨y3, hy3⟩ : ∃ y, w2.cell? ⟨w.heap.size, k * 4 + 3, none⟩ = some y := ⟨_, (h2.cellAt (k * 4 + 3) (by omega)).trans (List.getElem?_eq_getElem (by omega))⟩); have HST := Lib.hid ((((h2.stored (k * 4) (.int .i64 e.f)).1.stored (k * 4 + 1) (.int .i64 e.t)).1.stored (k * 4 + 2) (.int .i64 e.l)).1.stored (k * 4 + 3) (.int .i64 e.h)); have hbw2 := hbw.trans (b2.mono hbw.size); clear h2 hlx)
      go_roundw
      case rel =>
        refine ⟨k + 1, by omega, by go_num, ⟨_, HST.out.1, put4 xs k es e (by have := HLX.out; omega) HK.out HE.out⟩, ?_⟩
        exact (((hbw2.setCell (Nat.le_refl _) _).setCell (Nat.le_refl _) _).setCell (Nat.le_refl _) _).setCell (Nat.le_refl _) _
      case measure => simp [intOf]; omega
    · go_wp2
      go_ret
      have hkn : k = n := by omega
      subst hkn
      refine ⟨_, rfl, ?_, hbw⟩
      have hl := HL.out
      have hk := HK.out
      rw [List.take_of_length_le (by have := hown.1; omega), List.take_of_length_le (by omega)] at hk
      rw [← hk]; exact hown

end Go.Proofs.Yteppmlepbfjnpaa

namespace Go.Proofs.Yteppmlepbfjnpaa
open Go.RowKit
set_option linter.unusedVariables false
set_option linter.unusedSimpArgs false

set_option maxRecDepth 100000 in
set_option maxHeartbeats 1000000 in
theorem toSimple_any (n : Int) (es : List GL) (A : Option Addr) (k c : Nat) (w : World) (hn : es.length = k) (hm : k ≤ 1048576) (hr : LinkAt w A es) :
    Calls Try.prog 27 #[grV n A k c] w fun e w' => ∃ A' c', e = .returned (grV n A' k c') ∧ w'.ownsRow w.heap.size 76 4 (.slice A' k c') k (cellsL es) ∧ Below w.heap.size w w' := by
  unfold grV
  go_enter Try.func27, Try.ntmps27
  go_wp2_with (go_at_call 66; refine (toLinkS_any es A k c _ hn hm (hr.below (by repeat (first | exact Below.refl _ _ | refine below_step (by assumption) (by first | omega | (simp; done) | (simp; omega)) ?_ | refine below_drewN ?_ _ | refine Below.drew ?_ | refine Below.setCell ?_ (by first | omega | (simp; done) | (simp; omega)) _ | refine Below.alloc ?_ (by first | omega | (simp; done) | (simp; omega)) _)))).mono ?_; rintro x w2 ⟨v, rfl, h2, b2⟩; (obtain ⟨A', c', rfl, hl', _⟩ := ownL_form h2); have hc2 := fun x hx => b2.cell (p := x) hx; have hf2 := fun x hx => b2.frozen (p := x) hx; have s2 := b2.size; simp at s2 hc2 hf2; have k0 : w2.cell? ⟨w.heap.size + 1 + 1, 0, none⟩ = some (.int .i64 n) := (b2.cell (p := ⟨w.heap.size + 1 + 1, 0, none⟩) (by first | omega | (simp; done) | (simp; omega))).trans (by go_simp); have k1 : w2.cell? ⟨w.heap.size + 1 + 1, 1, none⟩ = some (.slice none 0 0) := (b2.cell (p := ⟨w.heap.size + 1 + 1, 1, none⟩) (by first | omega | (simp; done) | (simp; omega))).trans (by go_simp); have f0 : w2.frozen? ⟨w.heap.size + 1 + 1, 1, none⟩ = false := (b2.frozen (p := ⟨w.heap.size + 1 + 1, 1, none⟩) (by first | omega | (simp; done) | (simp; omega))).trans (by go_simp); have k2 : w2.cell? ⟨w.heap.size + 1, 0, none⟩ = some (.int .i64 0) := (b2.cell (p := ⟨w.heap.size + 1, 0, none⟩) (by first | omega | (simp; done) | (simp; omega))).trans (by go_simp); have k3 : w2.cell? ⟨w.heap.size + 1, 1, none⟩ = some (.slice none 0 0) := (b2.cell (p := ⟨w.heap.size + 1, 1, none⟩) (by first | omega | (simp; done) | (simp; omega))).trans (by go_simp); have f2 : w2.frozen? ⟨w.heap.size + 1, 0, none⟩ = false := (b2.frozen (p := ⟨w.heap.size + 1, 0, none⟩) (by first | omega | (simp; done) | (simp; omega))).trans (by go_simp); have f3 : w2.frozen? ⟨w.heap.size + 1, 1, none⟩ = false := (b2.frozen (p := ⟨w.heap.size + 1, 1, none⟩) (by first | omega | (simp; done) | (simp; omega))).trans (by go_simp); have H2 := Lib.hid h2; clear h2)
  refine bodyPost_ret (v := .agg #[.int .i64 n, .slice A' k c']) (by simp [results, Try.results27, go_sem, *]) rfl ⟨A', c', rfl, ?_, ?_⟩
  · have h3 := H2.out
    simp at h3
    refine own_base (B := w.heap.size + 1 + 1 + 1) ?_ (by omega)
    repeat (refine own_set ?_ _ _ (by simp))
    exact h3
  · exact (by repeat (first | exact Below.refl _ _ | refine below_step (by assumption) (by first | omega | (simp; done) | (simp; omega)) ?_ | refine below_drewN ?_ _ | refine Below.drew ?_ | refine Below.setCell ?_ (by first | omega | (simp; done) | (simp; omega)) _ | refine Below.alloc ?_ (by first | omega | (simp; done) | (simp; omega)) _))

set_option maxRecDepth 100000 in
set_option maxHeartbeats 1000000 in
theorem eqLinkS_same (es : List GL) (A B : Option Addr) (n ca cb : Nat) (w : World) (hn : es.length = n) (hm : n ≤ maxLen) (ha : LinkAt w A es) (hb : LinkAt w B es) :
    Calls Try.prog 67 #[.slice A n ca, .slice B n cb] w fun e w' => e = .returned (.bool true) ∧ Below w.heap.size w w' := by
  unfold maxLen at hm
  have HA := Lib.hid ha
  have HB := Lib.hid hb
  have HL := Lib.hid hn
  clear ha hb hn
  have hne : ((n : Int) != (n : Int)) = false := by simp
  go_enter Try.func67, Try.ntmps67
  go_wp2
  go_loopw [5] (fun i wr => ∃ k : Nat, k ≤ n ∧ i = .int .i64 k ∧ Below w.heap.size w wr) (fun i _ => n - (intOf i).toNat)
  case atStart => exact ⟨0, Nat.zero_le _, rfl, (by repeat (first | exact Below.refl _ _ | refine below_drewN ?_ _ | refine Below.drew ?_))⟩
  case round =>
    obtain ⟨k, hk, rfl, hbw⟩ := hrel
    by_cases hlt : k < n
    · have hl := HL.out
      obtain ⟨g, o, rfl, hg, hc⟩ := HA.out (by omega)
      obtain ⟨g', o', rfl, hg', hc'⟩ := HB.out (by omega)
      have hc1 := hc k (by omega)
      have hd1 := hc' k (by omega)
      obtain ⟨e, he⟩ : ∃ e, e = es[k]'(by omega) := ⟨_, rfl⟩
      rw [← he] at hc1 hd1
      obtain ⟨c0, c1, c2, c3⟩ := hc1
      obtain ⟨d0, d1, d2, d3⟩ := hd1
      have k0 := (hbw.cell (p := ⟨g, o + k * 4, none⟩) hg).trans c0
      have k1 := (hbw.cell (p := ⟨g, o + k * 4 + 1, none⟩) hg).trans c1
      have k2 := (hbw.cell (p := ⟨g, o + k * 4 + 2, none⟩) hg).trans c2
      have k3 := (hbw.cell (p := ⟨g, o + k * 4 + 3, none⟩) hg).trans c3
      have l0 := (hbw.cell (p := ⟨g', o' + k * 4, none⟩) hg').trans d0
      have l1 := (hbw.cell (p := ⟨g', o' + k * 4 + 1, none⟩) hg').trans d1
      have l2 := (hbw.cell (p := ⟨g', o' + k * 4 + 2, none⟩) hg').trans d2
      have l3 := (hbw.cell (p := ⟨g', o' + k * 4 + 3, none⟩) hg').trans d3
      have hq := eqLink_any e
      unfold GL.val at hq
      have HQ := Lib.hid hq
      clear hc hc' c0 c1 c2 c3 d0 d1 d2 d3 he hl hq
      go_wp2
      go_region_with (go_at_call 88; refine (HQ.out _).mono ?_; rintro x w2 ⟨rfl, b2⟩)
      all_goals
        have hbw2 : Below w.heap.size w w2 := hbw.drew.trans (Below.mono b2 hbw.size)
        go_wp2
        go_roundw
        case rel => exact ⟨k + 1, by omega, by go_num, hbw2⟩
        case measure => simp [intOf]; omega
    · go_wp2
      go_ret
      exact ⟨rfl, hbw⟩

set_option maxRecDepth 100000 in
set_option maxHeartbeats 1000000 in
theorem eqSimple_same (n : Int) (es : List GL) (A B : Option Addr) (k ca cb : Nat) (w : World) (hn : es.length = k) (hm : k ≤ maxLen) (ha : LinkAt w A es) (hb : LinkAt w B es) :
    Calls Try.prog 29 #[grV n A k ca, grV n B k cb] w fun e w' => e = .returned (.bool true) ∧ Below w.heap.size w w' := by
  unfold grV
  have hne : ((n : Int) != n) = false := by simp
  go_enter Try.func29, Try.ntmps29
  go_wp2_with (go_at_call 67; refine (eqLinkS_same es A B k ca cb _ hn hm (ha.below (by repeat (first | exact Below.refl _ _ | refine below_step (by assumption) (by first | omega | (simp; done) | (simp; omega)) ?_ | refine below_drewN ?_ _ | refine Below.drew ?_ | refine Below.setCell ?_ (by first | omega | (simp; done) | (simp; omega)) _ | refine Below.alloc ?_ (by first | omega | (simp; done) | (simp; omega)) _))) (hb.below (by repeat (first | exact Below.refl _ _ | refine below_step (by assumption) (by first | omega | (simp; done) | (simp; omega)) ?_ | refine below_drewN ?_ _ | refine Below.drew ?_ | refine Below.setCell ?_ (by first | omega | (simp; done) | (simp; omega)) _ | refine Below.alloc ?_ (by first | omega | (simp; done) | (simp; omega)) _)))).mono ?_; rintro x w2 ⟨rfl, b2⟩)
  go_ret
  exact ⟨rfl, (by repeat (first | exact Below.refl _ _ | refine below_step (by assumption) (by first | omega | (simp; done) | (simp; omega)) ?_ | refine below_drewN ?_ _ | refine Below.drew ?_ | refine Below.setCell ?_ (by first | omega | (simp; done) | (simp; omega)) _ | refine Below.alloc ?_ (by first | omega | (simp; done) | (simp; omega)) _))⟩

end Go.Proofs.Yteppmlepbfjnpaa

namespace Go.Proofs.Yteppmlepbfjnpaa
open Go.RowKit
set_option linter.unusedVariables false
set_option linter.unusedSimpArgs false

def okE (n : Int) (e : GE) : Bool := decide (0 ≤ e.u ∧ e.u < n) && decide (0 ≤ e.v ∧ e.v < n) && decide (-1000000 < e.c ∧ e.c < 1000000)
def okG (n : Int) (es : List GE) : Bool := decide (0 ≤ n ∧ n ≤ 8 ∧ es.length ≤ 80) && es.all (okE n)

theorem all_take_of (es : List GE) (p : GE → Bool) (k : Nat) (h : k < es.length) (ha : (es.take k).all p = true) (hp : p es[k] = true) : (es.take (k + 1)).all p = true := by
  rw [List.take_add_one, List.getElem?_eq_getElem h, List.all_append, ha]; simpa using hp
theorem all_not_of (es : List GE) (p : GE → Bool) (k : Nat) (h : k < es.length) (hp : p es[k] = false) : es.all p = false := by
  rw [List.all_eq_false]; exact ⟨es[k], List.getElem_mem _, by simp [hp]⟩
theorem okG_not (n : Int) (es : List GE) (k : Nat) (h : k < es.length) (hp : okE n es[k] = false) : okG n es = false := by
  unfold okG; rw [all_not_of es _ k h hp, Bool.and_false]
theorem okG_big (n : Int) (es : List GE) (h : ¬ (0 ≤ n ∧ n ≤ 8 ∧ es.length ≤ 80)) : okG n es = false := by
  unfold okG; rw [decide_eq_false h, Bool.false_and]
theorem okG_all (n : Int) (es : List GE) (h : 0 ≤ n ∧ n ≤ 8 ∧ es.length ≤ 80) (ha : (es.take es.length).all (okE n) = true) : okG n es = true := by
  rw [List.take_of_length_le (Nat.le_refl _)] at ha
  unfold okG; rw [decide_eq_true h, ha]; rfl
theorem ret_b {a b : Bool} (h : a = b) : Ending.returned (.bool a) = .returned (.bool b) := by rw [h]

set_option maxRecDepth 100000 in
set_option maxHeartbeats 1000000 in
theorem hasNode_any (n : Int) (A : Option Addr) (k c : Nat) (i : Int) (w : World) :
    Calls Try.prog 48 #[grV n A k c, .int .i64 i] w fun e w' => e = .returned (.bool (decide (0 ≤ i ∧ i < n))) ∧ Below w.heap.size w w' := by
  unfold grV
  by_cases h1 : 0 ≤ i
  · by_cases h2 : i < n
    all_goals
      go_enter Try.func48, Try.ntmps48
      go_wp2
      go_ret
      exact ⟨ret_b (by simp [h1, h2]), (by repeat (first | exact Below.refl _ _ | refine below_step (by assumption) (by first | omega | (simp; done) | (simp; omega)) ?_ | refine below_drewN ?_ _ | refine Below.drew ?_ | refine Below.setCell ?_ (by first | omega | (simp; done) | (simp; omega)) _ | refine Below.alloc ?_ (by first | omega | (simp; done) | (simp; omega)) _))⟩
  · go_enter Try.func48, Try.ntmps48
    go_wp2
    go_ret
    exact ⟨ret_b (by simp; intro; omega), (by repeat (first | exact Below.refl _ _ | refine below_step (by assumption) (by first | omega | (simp; done) | (simp; omega)) ?_ | refine below_drewN ?_ _ | refine Below.drew ?_ | refine Below.setCell ?_ (by first | omega | (simp; done) | (simp; omega)) _ | refine Below.alloc ?_ (by first | omega | (simp; done) | (simp; omega)) _))⟩

set_option maxRecDepth 100000 in
set_option maxHeartbeats 2000000 in
theorem spec_GraphOk (n : Int) (es : List GE) (A : Option Addr) (k c : Nat) (w : World) (hn : es.length = k) (hm : k ≤ 1048576) (hr : EdgeAt w A es) :
    Calls Try.prog 102 #[grV n A k c] w fun e w' => e = .returned (.bool (okG n es)) ∧ Below w.heap.size w w' := by
  unfold grV
  have HR := Lib.hid hr
  have HL := Lib.hid hn
  clear hr hn
  obtain ⟨b, hb⟩ : ∃ b, b = (decide ((0 : Int) ≤ n) && decide (n ≤ 8)) := ⟨_, rfl⟩
  have h0 := l01In_any n 0 8
  rw [← hb] at h0
  have H0 := Lib.hid h0
  have HB := Lib.hid hb
  clear h0 hb
  cases b with
  | false =>
    go_enter Try.func102, Try.ntmps102
    go_wp2_with (go_at_call 65; refine (H0.out _).mono ?_; rintro x w2 ⟨rfl, rfl⟩)
    go_ret
    exact ⟨ret_b (okG_big n es (by have := HB.out; simp at this; omega)).symm, (by repeat (first | exact Below.refl _ _ | refine below_step (by assumption) (by first | omega | (simp; done) | (simp; omega)) ?_ | refine below_drewN ?_ _ | refine Below.drew ?_ | refine Below.setCell ?_ (by first | omega | (simp; done) | (simp; omega)) _ | refine Below.alloc ?_ (by first | omega | (simp; done) | (simp; omega)) _))⟩
  | true =>
    by_cases h80 : k ≤ 80
    · have hk80 : ¬ ((80 : Int) < k) := by omega
      have hn8 : 0 ≤ n ∧ n ≤ 8 := by have := HB.out; simpa using this.symm
      go_enter Try.func102, Try.ntmps102
      go_wp2_with (go_at_call 65; refine (H0.out _).mono ?_; rintro x w2 ⟨rfl, rfl⟩)
      go_loopw [18] (fun i wr => ∃ j : Nat, j ≤ k ∧ i = .int .i64 j ∧ (es.take j).all (okE n) = true ∧ wr.cell? ⟨w.heap.size, 0, none⟩ = some (.int .i64 n) ∧ Below w.heap.size w wr ∧ w.heap.size < wr.heap.size) (fun i _ => k - (intOf i).toNat)
      case atStart => exact ⟨0, Nat.zero_le _, rfl, rfl, by go_simp, (by repeat (first | exact Below.refl _ _ | refine below_step (by assumption) (by first | omega | (simp; done) | (simp; omega)) ?_ | refine below_drewN ?_ _ | refine Below.drew ?_ | refine Below.setCell ?_ (by first | omega | (simp; done) | (simp; omega)) _ | refine Below.alloc ?_ (by first | omega | (simp; done) | (simp; omega)) _)), by simp⟩
      case round =>
        obtain ⟨j, hj, rfl, hall, hcn, hbw, hsz⟩ := hrel
        have HA := Lib.hid hall
        clear hall
        by_cases hlt : j < k
        · have hl := HL.out
          obtain ⟨g, o, rfl, hg, hc⟩ := HR.out (by omega)
          have hc1 := hc j (by omega)
          have HK1 := Lib.hid (all_take_of es (okE n) j (by omega) HA.out)
          have HK2 := Lib.hid (okG_not n es j (by omega))
          obtain ⟨e, he⟩ : ∃ e, e = es[j]'(by omega) := ⟨_, rfl⟩
          rw [← he] at hc1 HK1 HK2
          obtain ⟨c0, c1, c2⟩ := hc1
          have k0 := (hbw.cell (p := ⟨g, o + j * 3, none⟩) hg).trans c0
          have k1 := (hbw.cell (p := ⟨g, o + j * 3 + 1, none⟩) hg).trans c1
          have k2 := (hbw.cell (p := ⟨g, o + j * 3 + 2, none⟩) hg).trans c2
          have ng : (w.heap.size = wr.heap.size) = False := eq_false (by omega)
          have ng2 : (wr.heap.size = w.heap.size) = False := eq_false (by omega)
          clear hc c0 c1 c2 he hl
          obtain ⟨u, v, c⟩ := e
          dsimp only at k0 k1 k2
          obtain ⟨bu, hbu⟩ : ∃ b, b = (decide ((0 : Int) ≤ u) && decide (u ≤ n - 1)) := ⟨_, rfl⟩
          obtain ⟨bv, hbv⟩ : ∃ b, b = (decide ((0 : Int) ≤ v) && decide (v ≤ n - 1)) := ⟨_, rfl⟩
          obtain ⟨bc, hbc⟩ : ∃ b, b = (decide ((-999999 : Int) ≤ c) && decide (c ≤ 999999)) := ⟨_, rfl⟩
          have hcu := l01In_any u 0 (n - 1)
          have hcv := l01In_any v 0 (n - 1)
          have hcc := l01In_any c (-999999) 999999
          rw [← hbu] at hcu
          rw [← hbv] at hcv
          rw [← hbc] at hcc
          have HU := Lib.hid hcu
          have HV := Lib.hid hcv
          have HC := Lib.hid hcc
          have hok : okE n ⟨u, v, c⟩ = (bu && bv && bc) := by
            rw [hbu, hbv, hbc]; unfold okE
            congr 1
            · congr 1
              · rw [Bool.eq_iff_iff]; simp; omega
              · rw [Bool.eq_iff_iff]; simp; omega
            · rw [Bool.eq_iff_iff]; simp; omega
          rw [hok] at HK1 HK2
          clear hcu hcv hcc hbu hbv hbc hok
          cases bu with
          | false =>
            go_wp2_with (first | (go_at_call_of 65 (Value.int .i64 u); refine (HU.out _).mono ?_; rintro x w2 ⟨rfl, rfl⟩))
            go_ret
            exact ⟨ret_b (HK2.out rfl).symm, (by repeat (first | exact Below.refl _ _ | refine below_step (by assumption) (by first | omega | (simp; done) | (simp; omega)) ?_ | refine below_drewN ?_ _ | refine Below.drew ?_ | refine Below.setCell ?_ (by first | omega | (simp; done) | (simp; omega)) _ | refine Below.alloc ?_ (by first | omega | (simp; done) | (simp; omega)) _))⟩
          | true =>
            cases bv with
            | false =>
              go_wp2_with (first | (go_at_call_of 65 (Value.int .i64 u); refine (HU.out _).mono ?_; rintro x w2 ⟨rfl, rfl⟩) | (go_at_call_of 65 (Value.int .i64 v); refine (HV.out _).mono ?_; rintro x w2 ⟨rfl, rfl⟩))
              go_ret
              exact ⟨ret_b (HK2.out rfl).symm, (by repeat (first | exact Below.refl _ _ | refine below_step (by assumption) (by first | omega | (simp; done) | (simp; omega)) ?_ | refine below_drewN ?_ _ | refine Below.drew ?_ | refine Below.setCell ?_ (by first | omega | (simp; done) | (simp; omega)) _ | refine Below.alloc ?_ (by first | omega | (simp; done) | (simp; omega)) _))⟩
            | true =>
              cases bc with
              | false =>
                go_wp2_with (first | (go_at_call_of 65 (Value.int .i64 u); refine (HU.out _).mono ?_; rintro x w2 ⟨rfl, rfl⟩) | (go_at_call_of 65 (Value.int .i64 v); refine (HV.out _).mono ?_; rintro x w2 ⟨rfl, rfl⟩) | (go_at_call_of 65 (Value.int .i64 c); refine (HC.out _).mono ?_; rintro x w2 ⟨rfl, rfl⟩))
                go_ret
                exact ⟨ret_b (HK2.out rfl).symm, (by repeat (first | exact Below.refl _ _ | refine below_step (by assumption) (by first | omega | (simp; done) | (simp; omega)) ?_ | refine below_drewN ?_ _ | refine Below.drew ?_ | refine Below.setCell ?_ (by first | omega | (simp; done) | (simp; omega)) _ | refine Below.alloc ?_ (by first | omega | (simp; done) | (simp; omega)) _))⟩
              | true =>
                go_wp2_with (first | (go_at_call_of 65 (Value.int .i64 u); refine (HU.out _).mono ?_; rintro x w2 ⟨rfl, rfl⟩) | (go_at_call_of 65 (Value.int .i64 v); refine (HV.out _).mono ?_; rintro x w2 ⟨rfl, rfl⟩) | (go_at_call_of 65 (Value.int .i64 c); refine (HC.out _).mono ?_; rintro x w2 ⟨rfl, rfl⟩))
                go_roundw
                case rel => exact ⟨j + 1, by omega, by go_num, HK1.out rfl, by go_simp, (by repeat (first | exact Below.refl _ _ | refine below_step (by assumption) (by first | omega | (simp; done) | (simp; omega)) ?_ | refine below_drewN ?_ _ | refine Below.drew ?_ | refine Below.setCell ?_ (by first | omega | (simp; done) | (simp; omega)) _ | refine Below.alloc ?_ (by first | omega | (simp; done) | (simp; omega)) _)), by simp; omega⟩
                case measure => simp [intOf]; omega
        · go_wp2_with fail
          go_ret
          have hl := HL.out
          exact ⟨ret_b (okG_all n es (by omega) (by have := HA.out; rw [show j = es.length from by omega] at this; exact this)).symm, (by repeat (first | exact Below.refl _ _ | refine below_step (by assumption) (by first | omega | (simp; done) | (simp; omega)) ?_ | refine below_drewN ?_ _ | refine Below.drew ?_ | refine Below.setCell ?_ (by first | omega | (simp; done) | (simp; omega)) _ | refine Below.alloc ?_ (by first | omega | (simp; done) | (simp; omega)) _))⟩
    · have hk80 : ((80 : Int) < k) := by omega
      go_enter Try.func102, Try.ntmps102
      go_wp2_with (go_at_call 65; refine (H0.out _).mono ?_; rintro x w2 ⟨rfl, rfl⟩)
      go_ret
      exact ⟨ret_b (okG_big n es (by have := HL.out; omega)).symm, (by repeat (first | exact Below.refl _ _ | refine below_step (by assumption) (by first | omega | (simp; done) | (simp; omega)) ?_ | refine below_drewN ?_ _ | refine Below.drew ?_ | refine Below.setCell ?_ (by first | omega | (simp; done) | (simp; omega)) _ | refine Below.alloc ?_ (by first | omega | (simp; done) | (simp; omega)) _))⟩

end Go.Proofs.Yteppmlepbfjnpaa

namespace Go.Proofs.Yteppmlepbfjnpaa
open Go.RowKit
set_option linter.unusedVariables false
set_option linter.unusedSimpArgs false

def okL (n : Int) (e : GL) : Bool := decide (0 ≤ e.f ∧ e.f < n) && decide (0 ≤ e.t ∧ e.t < n) && okI e.l e.h
def okS (n : Int) (es : List GL) : Bool := decide (1 ≤ n ∧ n ≤ 8 ∧ es.length ≤ 40) && es.all (okL n)
theorem allL_take_of (es : List GL) (p : GL → Bool) (k : Nat) (h : k < es.length) (ha : (es.take k).all p = true) (hp : p es[k] = true) : (es.take (k + 1)).all p = true := by
  rw [List.take_add_one, List.getElem?_eq_getElem h, List.all_append, ha]; simpa using hp
theorem okS_not (n : Int) (es : List GL) (k : Nat) (h : k < es.length) (hp : okL n es[k] = false) : okS n es = false := by
  have : es.all (okL n) = false := by rw [List.all_eq_false]; exact ⟨es[k], List.getElem_mem _, by simp [hp]⟩
  unfold okS; rw [this, Bool.and_false]
theorem okS_big (n : Int) (es : List GL) (h : ¬ (1 ≤ n ∧ n ≤ 8 ∧ es.length ≤ 40)) : okS n es = false := by
  unfold okS; rw [decide_eq_false h, Bool.false_and]
theorem okS_all (n : Int) (es : List GL) (h : 1 ≤ n ∧ n ≤ 8 ∧ es.length ≤ 40) (ha : (es.take es.length).all (okL n) = true) : okS n es = true := by
  rw [List.take_of_length_le (Nat.le_refl _)] at ha
  unfold okS; rw [decide_eq_true h, ha]; rfl
theorem okS_rng {n : Int} {es : List GL} (h : okS n es = true) : 1 ≤ n ∧ n ≤ 8 ∧ es.length ≤ 40 := by
  unfold okS at h
  rw [Bool.and_eq_true] at h
  exact of_decide_eq_true h.1
theorem okS_link {n : Int} {es : List GL} (h : okS n es = true) {e : GL} (he : e ∈ es) : (0 ≤ e.f ∧ e.f < n) ∧ (0 ≤ e.t ∧ e.t < n) ∧ okI e.l e.h = true := by
  unfold okS at h
  rw [Bool.and_eq_true, List.all_eq_true] at h
  have := h.2 e he
  unfold okL at this
  rw [Bool.and_eq_true, Bool.and_eq_true] at this
  exact ⟨of_decide_eq_true this.1.1, of_decide_eq_true this.1.2, this.2⟩

set_option maxRecDepth 100000 in
set_option maxHeartbeats 2000000 in
theorem spec_SimpleOk (n : Int) (es : List GL) (A : Option Addr) (k c : Nat) (w : World) (hn : es.length = k) (hm : k ≤ 1048576) (hr : LinkAt w A es) :
    Calls Try.prog 64 #[grV n A k c] w fun e w' => e = .returned (.bool (okS n es)) ∧ Below w.heap.size w w' := by
  unfold grV
  have HR := Lib.hid hr
  have HL := Lib.hid hn
  clear hr hn
  obtain ⟨b, hb⟩ : ∃ b, b = (decide ((1 : Int) ≤ n) && decide (n ≤ 8)) := ⟨_, rfl⟩
  have h0 := l01In_any n 1 8
  rw [← hb] at h0
  have H0 := Lib.hid h0
  have HB := Lib.hid hb
  clear h0 hb
  cases b with
  | false =>
    go_enter Try.func64, Try.ntmps64
    go_wp2_with (go_at_call 65; refine (H0.out _).mono ?_; rintro x w2 ⟨rfl, rfl⟩)
    go_ret
    exact ⟨ret_b (okS_big n es (by have := HB.out; simp at this; omega)).symm, (by repeat (first | exact Below.refl _ _ | refine below_step (by assumption) (by first | omega | (simp; done) | (simp; omega)) ?_ | refine below_drewN ?_ _ | refine Below.drew ?_ | refine Below.setCell ?_ (by first | omega | (simp; done) | (simp; omega)) _ | refine Below.alloc ?_ (by first | omega | (simp; done) | (simp; omega)) _))⟩
  | true =>
    by_cases h40 : k ≤ 40
    · have hk40 : ¬ ((40 : Int) < k) := by omega
      have hn8 : 1 ≤ n ∧ n ≤ 8 := by have := HB.out; simpa using this.symm
      go_enter Try.func64, Try.ntmps64
      go_wp2_with (go_at_call 65; refine (H0.out _).mono ?_; rintro x w2 ⟨rfl, rfl⟩)
      go_loopw [18] (fun i wr => ∃ j : Nat, j ≤ k ∧ i = .int .i64 j ∧ (es.take j).all (okL n) = true ∧ wr.cell? ⟨w.heap.size, 0, none⟩ = some (.int .i64 n) ∧ Below w.heap.size w wr ∧ w.heap.size < wr.heap.size) (fun i _ => k - (intOf i).toNat)
      case atStart => exact ⟨0, Nat.zero_le _, rfl, rfl, by go_simp, (by repeat (first | exact Below.refl _ _ | refine below_step (by assumption) (by first | omega | (simp; done) | (simp; omega)) ?_ | refine below_drewN ?_ _ | refine Below.drew ?_ | refine Below.setCell ?_ (by first | omega | (simp; done) | (simp; omega)) _ | refine Below.alloc ?_ (by first | omega | (simp; done) | (simp; omega)) _)), by simp⟩
      case round =>
        obtain ⟨j, hj, rfl, hall, hcn, hbw, hsz⟩ := hrel
        have HA := Lib.hid hall
        clear hall
        by_cases hlt : j < k
        · have hl := HL.out
          obtain ⟨g, o, rfl, hg, hc⟩ := HR.out (by omega)
          have hc1 := hc j (by omega)
          have HK1 := Lib.hid (allL_take_of es (okL n) j (by omega) HA.out)
          have HK2 := Lib.hid (okS_not n es j (by omega))
          obtain ⟨e, he⟩ : ∃ e, e = es[j]'(by omega) := ⟨_, rfl⟩
          rw [← he] at hc1 HK1 HK2
          obtain ⟨c0, c1, c2, c3⟩ := hc1
          have k0 := (hbw.cell (p := ⟨g, o + j * 4, none⟩) hg).trans c0
          have k1 := (hbw.cell (p := ⟨g, o + j * 4 + 1, none⟩) hg).trans c1
          have k2 := (hbw.cell (p := ⟨g, o + j * 4 + 2, none⟩) hg).trans c2
          have k3 := (hbw.cell (p := ⟨g, o + j * 4 + 3, none⟩) hg).trans c3
          have ng : (w.heap.size = wr.heap.size) = False := eq_false (by omega)
          have ng2 : (wr.heap.size = w.heap.size) = False := eq_false (by omega)
          clear hc c0 c1 c2 c3 he hl
          obtain ⟨u, v, lo, hi⟩ := e
          dsimp only at k0 k1 k2 k3
          obtain ⟨bu, hbu⟩ : ∃ b, b = (decide ((0 : Int) ≤ u) && decide (u ≤ n - 1)) := ⟨_, rfl⟩
          obtain ⟨bv, hbv⟩ : ∃ b, b = (decide ((0 : Int) ≤ v) && decide (v ≤ n - 1)) := ⟨_, rfl⟩
          obtain ⟨bc, hbc⟩ : ∃ b, b = okI lo hi := ⟨_, rfl⟩
          have hcu := l01In_any u 0 (n - 1)
          have hcv := l01In_any v 0 (n - 1)
          have hcc := spec_IntervalOk lo hi
          unfold ivV at hcc
          rw [← hbu] at hcu
          rw [← hbv] at hcv
          rw [← hbc] at hcc
          have HU := Lib.hid hcu
          have HV := Lib.hid hcv
          have HC := Lib.hid hcc
          have hok : okL n ⟨u, v, lo, hi⟩ = (bu && bv && bc) := by
            rw [hbu, hbv, hbc]; unfold okL
            congr 1
            congr 1
            · rw [Bool.eq_iff_iff]; simp; omega
            · rw [Bool.eq_iff_iff]; simp; omega
          rw [hok] at HK1 HK2
          clear hcu hcv hcc hbu hbv hbc hok
          cases bu with
          | false =>
            go_wp2_with (first | (go_at_call_of 65 (Value.int .i64 u); refine (HU.out _).mono ?_; rintro x w2 ⟨rfl, rfl⟩))
            go_ret
            exact ⟨ret_b (HK2.out rfl).symm, (by repeat (first | exact Below.refl _ _ | refine below_step (by assumption) (by first | omega | (simp; done) | (simp; omega)) ?_ | refine below_drewN ?_ _ | refine Below.drew ?_ | refine Below.setCell ?_ (by first | omega | (simp; done) | (simp; omega)) _ | refine Below.alloc ?_ (by first | omega | (simp; done) | (simp; omega)) _))⟩
          | true =>
            cases bv with
            | false =>
              go_wp2_with (first | (go_at_call_of 65 (Value.int .i64 u); refine (HU.out _).mono ?_; rintro x w2 ⟨rfl, rfl⟩) | (go_at_call_of 65 (Value.int .i64 v); refine (HV.out _).mono ?_; rintro x w2 ⟨rfl, rfl⟩))
              go_ret
              exact ⟨ret_b (HK2.out rfl).symm, (by repeat (first | exact Below.refl _ _ | refine below_step (by assumption) (by first | omega | (simp; done) | (simp; omega)) ?_ | refine below_drewN ?_ _ | refine Below.drew ?_ | refine Below.setCell ?_ (by first | omega | (simp; done) | (simp; omega)) _ | refine Below.alloc ?_ (by first | omega | (simp; done) | (simp; omega)) _))⟩
            | true =>
              cases bc with
              | false =>
                go_wp2_with (first | (go_at_call_of 65 (Value.int .i64 u); refine (HU.out _).mono ?_; rintro x w2 ⟨rfl, rfl⟩) | (go_at_call_of 65 (Value.int .i64 v); refine (HV.out _).mono ?_; rintro x w2 ⟨rfl, rfl⟩) | (go_at_call 86; refine (HC.out _).mono ?_; rintro x w3 ⟨rfl, rfl⟩))
                go_ret
                exact ⟨ret_b (HK2.out rfl).symm, (by repeat (first | exact Below.refl _ _ | refine below_step (by assumption) (by first | omega | (simp; done) | (simp; omega)) ?_ | refine below_drewN ?_ _ | refine Below.drew ?_ | refine Below.setCell ?_ (by first | omega | (simp; done) | (simp; omega)) _ | refine Below.alloc ?_ (by first | omega | (simp; done) | (simp; omega)) _))⟩
              | true =>
                go_wp2_with (first | (go_at_call_of 65 (Value.int .i64 u); refine (HU.out _).mono ?_; rintro x w2 ⟨rfl, rfl⟩) | (go_at_call_of 65 (Value.int .i64 v); refine (HV.out _).mono ?_; rintro x w2 ⟨rfl, rfl⟩) | (go_at_call 86; refine (HC.out _).mono ?_; rintro x w3 ⟨rfl, rfl⟩))
                go_roundw
                case rel => exact ⟨j + 1, by omega, by go_num, HK1.out rfl, by first | assumption | go_simp, (by repeat (first | exact Below.refl _ _ | refine below_step (by assumption) (by first | omega | (simp; done) | (simp; omega)) ?_ | refine below_drewN ?_ _ | refine Below.drew ?_ | refine Below.setCell ?_ (by first | omega | (simp; done) | (simp; omega)) _ | refine Below.alloc ?_ (by first | omega | (simp; done) | (simp; omega)) _)), (by first | omega | (simp; done) | (simp; omega))⟩
                case measure => simp [intOf]; omega
        · go_wp2_with fail
          go_ret
          have hl := HL.out
          exact ⟨ret_b (okS_all n es (by omega) (by have := HA.out; rw [show j = es.length from by omega] at this; exact this)).symm, (by repeat (first | exact Below.refl _ _ | refine below_step (by assumption) (by first | omega | (simp; done) | (simp; omega)) ?_ | refine below_drewN ?_ _ | refine Below.drew ?_ | refine Below.setCell ?_ (by first | omega | (simp; done) | (simp; omega)) _ | refine Below.alloc ?_ (by first | omega | (simp; done) | (simp; omega)) _))⟩
    · have hk40 : ((40 : Int) < k) := by omega
      go_enter Try.func64, Try.ntmps64
      go_wp2_with (go_at_call 65; refine (H0.out _).mono ?_; rintro x w2 ⟨rfl, rfl⟩)
      go_ret
      exact ⟨ret_b (okS_big n es (by have := HL.out; omega)).symm, (by repeat (first | exact Below.refl _ _ | refine below_step (by assumption) (by first | omega | (simp; done) | (simp; omega)) ?_ | refine below_drewN ?_ _ | refine Below.drew ?_ | refine Below.setCell ?_ (by first | omega | (simp; done) | (simp; omega)) _ | refine Below.alloc ?_ (by first | omega | (simp; done) | (simp; omega)) _))⟩

end Go.Proofs.Yteppmlepbfjnpaa
