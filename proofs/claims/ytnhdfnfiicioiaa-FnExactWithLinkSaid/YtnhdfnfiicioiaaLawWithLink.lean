/-
  laws.FnExactWithLink HOLDS: whatever the arguments, impl.WithLink answers as spec.WithLink does, the arguments read as they did, and the answer's memory is its own. No condition.
-/
import Derived.Test.YtnhdfnfiicioiaaRows
import Derived.Test.YtnhdfnfiicioiaaFrame
import Derived.Test.YtnhdfnfiicioiaaBdLkM
import Derived.Test.YtnhdfnfiicioiaaBdIvOk
import Derived.Test.YtnhdfnfiicioiaaSmL
import Derived.Test.YtnhdfnfiicioiaaImS
import Derived.Test.YtnhdfnfiicioiaaNwL
import Derived.Deep.RegionHeld3
import Derived.Deep.CutRange
import Derived.ProofKit
import Derived.Lib.SmallJoins
namespace Go.Proofs.Ytnhdfnfiicioiaa
open Go.RowKit Go.ChangeShapes Go.WideShapes Go.ChangeAt Go.WideMaps Go.WideElems
set_option linter.unusedVariables false
set_option linter.unusedSimpArgs false

theorem own_to {w : World} {B e n s lo hi : Nat} {v : Value} {xs : List Value} (h : w.ownsRow B e s v n xs) (hl : ∀ q, v.ownBlock = some q → lo < q ∧ q < hi) : w.ownsRow (lo + 1) e s v n xs := by
  refine ⟨h.1, ?_⟩
  rcases h.2 with h2 | ⟨g, cap, cur, h1, h2, h3⟩
  · exact .inl h2
  · subst h1
    have := (hl g rfl).1
    exact .inr ⟨g, cap, cur, rfl, by omega, h3⟩
theorem own_off {v v' : Value} {a b c d : Nat} (h : ∀ q, v.ownBlock = some q → a < q ∧ q < b) (h' : ∀ q, v'.ownBlock = some q → c < q ∧ q < d) (hd : b ≤ c + 1 ∨ d ≤ a + 1 := by omega) : v.ownBlock = none ∨ v.ownBlock ≠ v'.ownBlock := by
  cases hb : v.ownBlock with
  | none => exact .inl rfl
  | some q =>
    refine .inr fun e => ?_
    have h1 := h q hb
    have h2 := h' q e.symm
    omega

theorem cell_new (x : World) (cs : Array Value) (T : TypeId) (j : Nat) (v : Value) (h : cs[j]? = some v) : (x.alloc (.cells cs T)).cell? ⟨x.heap.size, j, none⟩ = some v := by
  have := heap_alloc_new x (.cells cs T)
  dsimp only [World.cell?]
  rw [this]
  exact h
theorem frozen_new (x : World) (cs : Array Value) (T : TypeId) (j : Nat) : (x.alloc (.cells cs T)).frozen? ⟨x.heap.size, j, none⟩ = false := by
  have := heap_alloc_new x (.cells cs T)
  dsimp only [World.frozen?]
  rw [this]
  simp
theorem cell_off {w : World} {b q c o : Nat} {x v : Value} (h : w.cell? ⟨b, q, none⟩ = some v) (hne : b ≠ c) : (w.setCell ⟨c, o, none⟩ x).cell? ⟨b, q, none⟩ = some v :=
  (World.cell?_of_block (a := ⟨b, q, none⟩) (Below.heap_setCell _ _ _ _ hne)).trans h
theorem WlEnd.con {n : Int} {es : List GL} {e0 : GL} {w : World} {f : FuncId} {args : Array Value} {t0 : Int} {ts : List GL} {ok : Bool} {m : Nat} (h1 : t0 = wlN n es e0) (h2 : ts = wlE n es e0) (h3 : ok = wlR n es e0) (hm : m = ts.length) (h : Calls Try.prog f args w fun e w' => WlEnd n es e0 w e w') :
    Calls Try.prog f args w fun e w' => ∃ (B : Option Addr) (cb bs : Nat), e = .returned (.tuple #[.agg #[.int .i64 t0, .slice B m cb], .bool ok]) ∧ bs = w.heap.size ∧ w'.ownsRow bs 42 4 (.slice B m cb) m (cellsL ts) ∧ (∀ q, (Value.slice B m cb).ownBlock = some q → bs ≤ q ∧ q < w'.heap.size) ∧ Below w.heap.size w w' :=
  h.mono fun e w' ⟨A, k, c, e1, e2, e3, e4⟩ => by
    subst h1 h2 h3 hm e2
    exact ⟨A, c, _, e1, rfl, e3, fun q hq => e3.lt q hq, e4⟩

set_option maxRecDepth 100000 in
set_option maxHeartbeats 16000000 in
theorem FnExactWithLink_walk (n : Int) (es : List GL) (A : Option Addr) (k c : Nat) (u v x y : Int) (w : World) (wn : (Lit.int .i64 n).wf = true) (hn : es.length = k) (hm : k ≤ maxLen) (hw : ∀ e ∈ es, e.wf) (hr : LinkAt w A es) :
    Calls Try.prog 14 #[grV n A k c, .agg #[.int .i64 u, .int .i64 v, .int .i64 x, .int .i64 y]] w fun e w' => e = .returned (.bool true) ∧ Below w.heap.size w w' := by
  have HZ := Lib.hid (szSimple_any n A k c · hm)
  have HR := Lib.hid hr
  have HL := Lib.hid hn
  clear hr hn
  by_cases h : k ≤ 1048576
  · rw [if_pos h] at HZ
    have hlt : ¬ ((1048576 : Int) - k < 0) := by omega
    have HTO := Lib.hid (fun W h' => toSimple_any n es A k c W HL.out h h')
    have HEG := Lib.hid (fun A1 A2 c1 c2 W h1 h2 => eqSimple_same n es A1 A2 k c1 c2 W HL.out hm h1 h2)
    obtain ⟨t0, ht0⟩ : ∃ t, t = wlN n es ⟨u, v, x, y⟩ := ⟨_, rfl⟩
    obtain ⟨ts, hts⟩ : ∃ t, t = wlE n es ⟨u, v, x, y⟩ := ⟨_, rfl⟩
    obtain ⟨ok, hok⟩ : ∃ t, t = wlR n es ⟨u, v, x, y⟩ := ⟨_, rfl⟩
    obtain ⟨m, hml⟩ : ∃ t, t = ts.length := ⟨_, rfl⟩
    have hm64 : m ≤ 64 := by rw [hml, hts]; have := wlE_len n es ⟨u, v, x, y⟩; omega
    have HSP := Lib.hid (fun A' c' W h' => WlEnd.con ht0 hts hok hml (spec_WithLink n es ⟨u, v, x, y⟩ A' k c' W HL.out h h'))
    have HIM := Lib.hid (fun A' c' W h' => WlEnd.con ht0 hts hok hml (impl_WithLink n es ⟨u, v, x, y⟩ A' k c' W HL.out h h'))
    have HEQ := Lib.hid (fun D E c1 c2 W h1 h2 => eqSimple_same t0 ts D E m c1 c2 W hml.symm (by unfold maxLen; omega) h1 h2)
    have HTE := Lib.hid (fun W => toLink_any ⟨u, v, x, y⟩ W)
    have hoo : (ok != ok) = false := by simp
    clear ht0 hts hok hml
    unfold grV at HZ HSP HIM HTO HEQ HEG ⊢
    simp only [GL.val] at HTE HSP HIM
    have t1 : ¬ ((1 : Int) + 4 * (k : Int) < 0) := by omega
    have t2 : ¬ ((1 : Int) + 4 * (m : Int) < 0) := by omega
    have t3 : (((1 : Int) + 4 * (m : Int)) != (1 : Int) + 4 * (m : Int)) = false := by simp
    go_enter Try.func14, Try.ntmps14
    go_wp2_with fail
    refine (HZ.out _).mono ?_
    rintro e w1 ⟨rfl, b1⟩
    have c0_w1 : w1.cell? ⟨w.heap.size, 0, none⟩ = some (.int .i64 n) := (b1.cell (p := ⟨w.heap.size, 0, none⟩) (by first | omega | (simp; done) | (simp; omega))).trans (by first | assumption | go_simp)
    have c1_w1 : w1.cell? ⟨w.heap.size, 1, none⟩ = some (.slice A k c) := (b1.cell (p := ⟨w.heap.size, 1, none⟩) (by first | omega | (simp; done) | (simp; omega))).trans (by first | assumption | go_simp)
    have s0_w1 : w.heap.size < w1.heap.size := Nat.lt_of_lt_of_le (by first | omega | (simp; done) | (simp; omega)) b1.size
    have B_w1 : Below w.heap.size w w1 := (by repeat (first | exact Below.refl _ _ | refine below_step (by assumption) (by first | omega | (simp; done) | (simp; omega)) ?_ | refine below_drewN ?_ _ | refine Below.drew ?_ | refine Below.setCell ?_ (by first | omega | (simp; done) | (simp; omega)) _ | refine Below.alloc ?_ (by first | omega | (simp; done) | (simp; omega)) _))
    have c2_w1 : w1.cell? ⟨w.heap.size + 1, 0, none⟩ = some (.int .i64 u) := (b1.cell (p := ⟨w.heap.size + 1, 0, none⟩) (by first | omega | (simp; done) | (simp; omega))).trans (by first | assumption | go_simp)
    have c3_w1 : w1.cell? ⟨w.heap.size + 1, 1, none⟩ = some (.int .i64 v) := (b1.cell (p := ⟨w.heap.size + 1, 1, none⟩) (by first | omega | (simp; done) | (simp; omega))).trans (by first | assumption | go_simp)
    have c4_w1 : w1.cell? ⟨w.heap.size + 1, 2, none⟩ = some (.int .i64 x) := (b1.cell (p := ⟨w.heap.size + 1, 2, none⟩) (by first | omega | (simp; done) | (simp; omega))).trans (by first | assumption | go_simp)
    have c5_w1 : w1.cell? ⟨w.heap.size + 1, 3, none⟩ = some (.int .i64 y) := (b1.cell (p := ⟨w.heap.size + 1, 3, none⟩) (by first | omega | (simp; done) | (simp; omega))).trans (by first | assumption | go_simp)
    have s1_w1 : w.heap.size + 1 < w1.heap.size := Nat.lt_of_lt_of_le (by first | omega | (simp; done) | (simp; omega)) b1.size
    clear b1
    have sw1 := s1_w1
    go_wp2_with fail
    go_cut [6, 7] from 21 to 28 (fun p b wc => ∃ (B : Nat) (D : Option Addr) (cd : Nat), p = Value.pointer (some ⟨B, 0, none⟩) ∧ b = Value.bool ok ∧ w1.heap.size ≤ B ∧ B < wc.heap.size ∧ wc.cell? ⟨B, 0, none⟩ = some (.int .i64 t0) ∧ wc.cell? ⟨B, 1, none⟩ = some (.slice D m cd) ∧ wc.ownsRow w1.heap.size 42 4 (.slice D m cd) m (cellsL ts) ∧ (∀ q, (Value.slice D m cd).ownBlock = some q → q < wc.heap.size ∧ q ≠ B) ∧ Below w1.heap.size w1 wc)
    case first =>
      go_region_held3 (fun W => W.cell? ⟨w.heap.size, 0, none⟩ = some (.int .i64 n) ∧ W.cell? ⟨w.heap.size, 1, none⟩ = some (.slice A k c) ∧ W.cell? ⟨w.heap.size + 1, 0, none⟩ = some (.int .i64 u) ∧ W.cell? ⟨w.heap.size + 1, 1, none⟩ = some (.int .i64 v) ∧ W.cell? ⟨w.heap.size + 1, 2, none⟩ = some (.int .i64 x) ∧ W.cell? ⟨w.heap.size + 1, 3, none⟩ = some (.int .i64 y)) (first | (go_keep; done) | ((try dsimp only); refine ⟨?_, ?_, ?_, ?_, ?_, ?_⟩ <;> first | assumption | ((repeat (refine cell_off ?_ (by omega))); assumption) | (go_keep; done) | go_simp | (trace_state; fail))) (first | (go_at_call 29; refine (HTO.out _ (HR.out.below (by repeat (first | exact Below.refl _ _ | refine below_step (by assumption) (by first | omega | (simp; done) | (simp; omega)) ?_ | refine below_drewN ?_ _ | refine Below.drew ?_ | refine Below.setCell ?_ (by first | omega | (simp; done) | (simp; omega)) _ | refine Below.alloc ?_ (by first | omega | (simp; done) | (simp; omega)) _)))).mono ?_; rintro e x2 ⟨A2, c2, rfl, h2, y2⟩; have c0_x2 : x2.cell? ⟨w.heap.size, 0, none⟩ = some (.int .i64 n) := (y2.cell (p := ⟨w.heap.size, 0, none⟩) (by first | omega | (simp; done) | (simp; omega))).trans (by first | assumption | go_simp); have c1_x2 : x2.cell? ⟨w.heap.size, 1, none⟩ = some (.slice A k c) := (y2.cell (p := ⟨w.heap.size, 1, none⟩) (by first | omega | (simp; done) | (simp; omega))).trans (by first | assumption | go_simp); have c2_x2 : x2.cell? ⟨w.heap.size + 1, 0, none⟩ = some (.int .i64 u) := (y2.cell (p := ⟨w.heap.size + 1, 0, none⟩) (by first | omega | (simp; done) | (simp; omega))).trans (by first | assumption | go_simp); have c3_x2 : x2.cell? ⟨w.heap.size + 1, 1, none⟩ = some (.int .i64 v) := (y2.cell (p := ⟨w.heap.size + 1, 1, none⟩) (by first | omega | (simp; done) | (simp; omega))).trans (by first | assumption | go_simp); have c4_x2 : x2.cell? ⟨w.heap.size + 1, 2, none⟩ = some (.int .i64 x) := (y2.cell (p := ⟨w.heap.size + 1, 2, none⟩) (by first | omega | (simp; done) | (simp; omega))).trans (by first | assumption | go_simp); have c5_x2 : x2.cell? ⟨w.heap.size + 1, 3, none⟩ = some (.int .i64 y) := (y2.cell (p := ⟨w.heap.size + 1, 3, none⟩) (by first | omega | (simp; done) | (simp; omega))).trans (by first | assumption | go_simp); have s0_x2 : w.heap.size < x2.heap.size := Nat.lt_of_lt_of_le (by first | omega | (simp; done) | (simp; omega)) y2.size; have s1_x2 : w.heap.size + 1 < x2.heap.size := Nat.lt_of_lt_of_le (by first | omega | (simp; done) | (simp; omega)) y2.size; have qy2 := y2.size; (try simp at qy2); (try (refine cut2 (p := x2.cell? ⟨w1.heap.size, 0, none⟩ = some (.int .i64 0)) ?_ ?_; refine (y2.cell (p := ⟨w1.heap.size, 0, none⟩) ?_).trans ?_; (focus (first | omega | (simp; done) | (simp; omega))); (focus (first | assumption | exact cell_new _ _ _ _ _ rfl | exact cell_new w1 _ _ _ _ rfl | (go_simp; done))); intro uu)); (try (refine cut2 (p := x2.frozen? ⟨w1.heap.size, 0, none⟩ = false) ?_ ?_; refine (y2.frozen (p := ⟨w1.heap.size, 0, none⟩) ?_).trans ?_; (focus (first | omega | (simp; done) | (simp; omega))); (focus (first | assumption | exact frozen_new _ _ _ _ | exact frozen_new w1 _ _ _ | (go_simp; done))); intro uu)); (try (refine cut2 (p := x2.cell? ⟨w1.heap.size, 1, none⟩ = some (.slice none 0 0)) ?_ ?_; refine (y2.cell (p := ⟨w1.heap.size, 1, none⟩) ?_).trans ?_; (focus (first | omega | (simp; done) | (simp; omega))); (focus (first | assumption | exact cell_new _ _ _ _ _ rfl | exact cell_new w1 _ _ _ _ rfl | (go_simp; done))); intro uu)); (try (refine cut2 (p := x2.frozen? ⟨w1.heap.size, 1, none⟩ = false) ?_ ?_; refine (y2.frozen (p := ⟨w1.heap.size, 1, none⟩) ?_).trans ?_; (focus (first | omega | (simp; done) | (simp; omega))); (focus (first | assumption | exact frozen_new _ _ _ _ | exact frozen_new w1 _ _ _ | (go_simp; done))); intro uu)); have R2 : LinkAt x2 A2 es := own_link h2) | (go_at_call 50; refine (HTE.out _).mono ?_; rintro e x3 ⟨rfl, y3⟩; have c0_x3 : x3.cell? ⟨w.heap.size, 0, none⟩ = some (.int .i64 n) := (y3.cell (p := ⟨w.heap.size, 0, none⟩) (by first | omega | (simp; done) | (simp; omega))).trans (by first | assumption | go_simp); have c1_x3 : x3.cell? ⟨w.heap.size, 1, none⟩ = some (.slice A k c) := (y3.cell (p := ⟨w.heap.size, 1, none⟩) (by first | omega | (simp; done) | (simp; omega))).trans (by first | assumption | go_simp); have c2_x3 : x3.cell? ⟨w.heap.size + 1, 0, none⟩ = some (.int .i64 u) := (y3.cell (p := ⟨w.heap.size + 1, 0, none⟩) (by first | omega | (simp; done) | (simp; omega))).trans (by first | assumption | go_simp); have c3_x3 : x3.cell? ⟨w.heap.size + 1, 1, none⟩ = some (.int .i64 v) := (y3.cell (p := ⟨w.heap.size + 1, 1, none⟩) (by first | omega | (simp; done) | (simp; omega))).trans (by first | assumption | go_simp); have c4_x3 : x3.cell? ⟨w.heap.size + 1, 2, none⟩ = some (.int .i64 x) := (y3.cell (p := ⟨w.heap.size + 1, 2, none⟩) (by first | omega | (simp; done) | (simp; omega))).trans (by first | assumption | go_simp); have c5_x3 : x3.cell? ⟨w.heap.size + 1, 3, none⟩ = some (.int .i64 y) := (y3.cell (p := ⟨w.heap.size + 1, 3, none⟩) (by first | omega | (simp; done) | (simp; omega))).trans (by first | assumption | go_simp); have s0_x3 : w.heap.size < x3.heap.size := Nat.lt_of_lt_of_le (by first | omega | (simp; done) | (simp; omega)) y3.size; have s1_x3 : w.heap.size + 1 < x3.heap.size := Nat.lt_of_lt_of_le (by first | omega | (simp; done) | (simp; omega)) y3.size; have qy3 := y3.size; (try simp at qy3); (try (refine cut2 (p := x3.cell? ⟨w1.heap.size, 0, none⟩ = some (.int .i64 0)) ?_ ?_; refine (y3.cell (p := ⟨w1.heap.size, 0, none⟩) ?_).trans ?_; (focus (first | omega | (simp; done) | (simp; omega))); (focus (first | assumption | exact cell_new _ _ _ _ _ rfl | exact cell_new w1 _ _ _ _ rfl | (go_simp; done))); intro uu)); (try (refine cut2 (p := x3.frozen? ⟨w1.heap.size, 0, none⟩ = false) ?_ ?_; refine (y3.frozen (p := ⟨w1.heap.size, 0, none⟩) ?_).trans ?_; (focus (first | omega | (simp; done) | (simp; omega))); (focus (first | assumption | exact frozen_new _ _ _ _ | exact frozen_new w1 _ _ _ | (go_simp; done))); intro uu)); (try (refine cut2 (p := x3.cell? ⟨w1.heap.size, 1, none⟩ = some (.slice none 0 0)) ?_ ?_; refine (y3.cell (p := ⟨w1.heap.size, 1, none⟩) ?_).trans ?_; (focus (first | omega | (simp; done) | (simp; omega))); (focus (first | assumption | exact cell_new _ _ _ _ _ rfl | exact cell_new w1 _ _ _ _ rfl | (go_simp; done))); intro uu)); (try (refine cut2 (p := x3.frozen? ⟨w1.heap.size, 1, none⟩ = false) ?_ ?_; refine (y3.frozen (p := ⟨w1.heap.size, 1, none⟩) ?_).trans ?_; (focus (first | omega | (simp; done) | (simp; omega))); (focus (first | assumption | exact frozen_new _ _ _ _ | exact frozen_new w1 _ _ _ | (go_simp; done))); intro uu)); (try (refine cut2 (p := x3.cell? ⟨x2.heap.size, 0, none⟩ = some (.int .i64 0)) ?_ ?_; refine (y3.cell (p := ⟨x2.heap.size, 0, none⟩) ?_).trans ?_; (focus (first | omega | (simp; done) | (simp; omega))); (focus (first | assumption | exact cell_new _ _ _ _ _ rfl | exact cell_new x2 _ _ _ _ rfl | (go_simp; done))); intro uu)); (try (refine cut2 (p := x3.frozen? ⟨x2.heap.size, 0, none⟩ = false) ?_ ?_; refine (y3.frozen (p := ⟨x2.heap.size, 0, none⟩) ?_).trans ?_; (focus (first | omega | (simp; done) | (simp; omega))); (focus (first | assumption | exact frozen_new _ _ _ _ | exact frozen_new x2 _ _ _ | (go_simp; done))); intro uu)); (try (refine cut2 (p := x3.cell? ⟨x2.heap.size, 1, none⟩ = some (.slice none 0 0)) ?_ ?_; refine (y3.cell (p := ⟨x2.heap.size, 1, none⟩) ?_).trans ?_; (focus (first | omega | (simp; done) | (simp; omega))); (focus (first | assumption | exact cell_new _ _ _ _ _ rfl | exact cell_new x2 _ _ _ _ rfl | (go_simp; done))); intro uu)); (try (refine cut2 (p := x3.frozen? ⟨x2.heap.size, 1, none⟩ = false) ?_ ?_; refine (y3.frozen (p := ⟨x2.heap.size, 1, none⟩) ?_).trans ?_; (focus (first | omega | (simp; done) | (simp; omega))); (focus (first | assumption | exact frozen_new _ _ _ _ | exact frozen_new x2 _ _ _ | (go_simp; done))); intro uu)); have R3 : LinkAt x3 A2 es := LinkAt.below (w := x2) R2 (by repeat (first | exact Below.refl _ _ | refine below_step (by assumption) (by first | omega | (simp; done) | (simp; omega)) ?_ | refine below_drewN ?_ _ | refine Below.drew ?_ | refine Below.setCell ?_ (by first | omega | (simp; done) | (simp; omega)) _ | refine Below.alloc ?_ (by first | omega | (simp; done) | (simp; omega)) _))) | (go_at_call 49; refine (HSP.out A2 c2 _ (LinkAt.below (w := x3) R3 (by repeat (first | exact Below.refl _ _ | refine below_step (by assumption) (by first | omega | (simp; done) | (simp; omega)) ?_ | refine below_drewN ?_ _ | refine Below.drew ?_ | refine Below.setCell ?_ (by first | omega | (simp; done) | (simp; omega)) _ | refine Below.alloc ?_ (by first | omega | (simp; done) | (simp; omega)) _)))).mono ?_; rintro e x4 ⟨D4, c4x, bs, rfl, hbs, h4, lt4, y4⟩; (try simp at hbs); have c0_x4 : x4.cell? ⟨w.heap.size, 0, none⟩ = some (.int .i64 n) := (y4.cell (p := ⟨w.heap.size, 0, none⟩) (by first | omega | (simp; done) | (simp; omega))).trans (by first | assumption | go_simp); have c1_x4 : x4.cell? ⟨w.heap.size, 1, none⟩ = some (.slice A k c) := (y4.cell (p := ⟨w.heap.size, 1, none⟩) (by first | omega | (simp; done) | (simp; omega))).trans (by first | assumption | go_simp); have c2_x4 : x4.cell? ⟨w.heap.size + 1, 0, none⟩ = some (.int .i64 u) := (y4.cell (p := ⟨w.heap.size + 1, 0, none⟩) (by first | omega | (simp; done) | (simp; omega))).trans (by first | assumption | go_simp); have c3_x4 : x4.cell? ⟨w.heap.size + 1, 1, none⟩ = some (.int .i64 v) := (y4.cell (p := ⟨w.heap.size + 1, 1, none⟩) (by first | omega | (simp; done) | (simp; omega))).trans (by first | assumption | go_simp); have c4_x4 : x4.cell? ⟨w.heap.size + 1, 2, none⟩ = some (.int .i64 x) := (y4.cell (p := ⟨w.heap.size + 1, 2, none⟩) (by first | omega | (simp; done) | (simp; omega))).trans (by first | assumption | go_simp); have c5_x4 : x4.cell? ⟨w.heap.size + 1, 3, none⟩ = some (.int .i64 y) := (y4.cell (p := ⟨w.heap.size + 1, 3, none⟩) (by first | omega | (simp; done) | (simp; omega))).trans (by first | assumption | go_simp); have s0_x4 : w.heap.size < x4.heap.size := Nat.lt_of_lt_of_le (by first | omega | (simp; done) | (simp; omega)) y4.size; have s1_x4 : w.heap.size + 1 < x4.heap.size := Nat.lt_of_lt_of_le (by first | omega | (simp; done) | (simp; omega)) y4.size; have qy4 := y4.size; (try simp at qy4); (try (refine cut2 (p := x4.cell? ⟨w1.heap.size, 0, none⟩ = some (.int .i64 0)) ?_ ?_; refine (y4.cell (p := ⟨w1.heap.size, 0, none⟩) ?_).trans ?_; (focus (first | omega | (simp; done) | (simp; omega))); (focus (first | assumption | exact cell_new _ _ _ _ _ rfl | exact cell_new w1 _ _ _ _ rfl | (go_simp; done))); intro uu)); (try (refine cut2 (p := x4.frozen? ⟨w1.heap.size, 0, none⟩ = false) ?_ ?_; refine (y4.frozen (p := ⟨w1.heap.size, 0, none⟩) ?_).trans ?_; (focus (first | omega | (simp; done) | (simp; omega))); (focus (first | assumption | exact frozen_new _ _ _ _ | exact frozen_new w1 _ _ _ | (go_simp; done))); intro uu)); (try (refine cut2 (p := x4.cell? ⟨w1.heap.size, 1, none⟩ = some (.slice none 0 0)) ?_ ?_; refine (y4.cell (p := ⟨w1.heap.size, 1, none⟩) ?_).trans ?_; (focus (first | omega | (simp; done) | (simp; omega))); (focus (first | assumption | exact cell_new _ _ _ _ _ rfl | exact cell_new w1 _ _ _ _ rfl | (go_simp; done))); intro uu)); (try (refine cut2 (p := x4.frozen? ⟨w1.heap.size, 1, none⟩ = false) ?_ ?_; refine (y4.frozen (p := ⟨w1.heap.size, 1, none⟩) ?_).trans ?_; (focus (first | omega | (simp; done) | (simp; omega))); (focus (first | assumption | exact frozen_new _ _ _ _ | exact frozen_new w1 _ _ _ | (go_simp; done))); intro uu)); (try (refine cut2 (p := x4.cell? ⟨x2.heap.size, 0, none⟩ = some (.int .i64 0)) ?_ ?_; refine (y4.cell (p := ⟨x2.heap.size, 0, none⟩) ?_).trans ?_; (focus (first | omega | (simp; done) | (simp; omega))); (focus (first | assumption | exact cell_new _ _ _ _ _ rfl | exact cell_new x2 _ _ _ _ rfl | (go_simp; done))); intro uu)); (try (refine cut2 (p := x4.frozen? ⟨x2.heap.size, 0, none⟩ = false) ?_ ?_; refine (y4.frozen (p := ⟨x2.heap.size, 0, none⟩) ?_).trans ?_; (focus (first | omega | (simp; done) | (simp; omega))); (focus (first | assumption | exact frozen_new _ _ _ _ | exact frozen_new x2 _ _ _ | (go_simp; done))); intro uu)); (try (refine cut2 (p := x4.cell? ⟨x2.heap.size, 1, none⟩ = some (.slice none 0 0)) ?_ ?_; refine (y4.cell (p := ⟨x2.heap.size, 1, none⟩) ?_).trans ?_; (focus (first | omega | (simp; done) | (simp; omega))); (focus (first | assumption | exact cell_new _ _ _ _ _ rfl | exact cell_new x2 _ _ _ _ rfl | (go_simp; done))); intro uu)); (try (refine cut2 (p := x4.frozen? ⟨x2.heap.size, 1, none⟩ = false) ?_ ?_; refine (y4.frozen (p := ⟨x2.heap.size, 1, none⟩) ?_).trans ?_; (focus (first | omega | (simp; done) | (simp; omega))); (focus (first | assumption | exact frozen_new _ _ _ _ | exact frozen_new x2 _ _ _ | (go_simp; done))); intro uu)); (try (refine cut2 (p := x4.cell? ⟨x3.heap.size, 0, none⟩ = some (.int .i64 0)) ?_ ?_; refine (y4.cell (p := ⟨x3.heap.size, 0, none⟩) ?_).trans ?_; (focus (first | omega | (simp; done) | (simp; omega))); (focus (first | assumption | exact cell_new _ _ _ _ _ rfl | exact cell_new x3 _ _ _ _ rfl | (go_simp; done))); intro uu)); (try (refine cut2 (p := x4.frozen? ⟨x3.heap.size, 0, none⟩ = false) ?_ ?_; refine (y4.frozen (p := ⟨x3.heap.size, 0, none⟩) ?_).trans ?_; (focus (first | omega | (simp; done) | (simp; omega))); (focus (first | assumption | exact frozen_new _ _ _ _ | exact frozen_new x3 _ _ _ | (go_simp; done))); intro uu)); (try (refine cut2 (p := x4.cell? ⟨x3.heap.size, 1, none⟩ = some (.slice none 0 0)) ?_ ?_; refine (y4.cell (p := ⟨x3.heap.size, 1, none⟩) ?_).trans ?_; (focus (first | omega | (simp; done) | (simp; omega))); (focus (first | assumption | exact cell_new _ _ _ _ _ rfl | exact cell_new x3 _ _ _ _ rfl | (go_simp; done))); intro uu)); (try (refine cut2 (p := x4.frozen? ⟨x3.heap.size, 1, none⟩ = false) ?_ ?_; refine (y4.frozen (p := ⟨x3.heap.size, 1, none⟩) ?_).trans ?_; (focus (first | omega | (simp; done) | (simp; omega))); (focus (first | assumption | exact frozen_new _ _ _ _ | exact frozen_new x3 _ _ _ | (go_simp; done))); intro uu))))
      all_goals go_wp2_with fail
      all_goals (go_meet; refine ⟨_, D4, c4x, rfl, rfl, ?_, ?_, ?_, ?_, ?_, ?_, ?_⟩)
      all_goals (first | assumption | omega | (simp; done) | (simp; omega) | (go_simp; done) | ((intro q hq; have := lt4 q hq; refine ⟨?_, ?_⟩ <;> first | omega | (simp; omega)); done) | ((first | exact own_base (own_below h4 ((Below.refl _ _).alloc (Nat.le_refl _) _)) (by omega) | exact own_base (own_set (own_set h4 _ _ (by dsimp only; omega)) _ _ (by dsimp only; omega)) (by omega)); done) | ((repeat (first | exact Below.refl _ _ | refine below_step (by assumption) (by first | omega | (simp; done) | (simp; omega)) ?_ | refine below_drewN ?_ _ | refine Below.drew ?_ | refine Below.setCell ?_ (by first | omega | (simp; done) | (simp; omega)) _ | refine Below.alloc ?_ (by first | omega | (simp; done) | (simp; omega)) _)); done))
    case rest =>
      obtain ⟨w3, hww⟩ : ∃ W, W = wc := ⟨_, rfl⟩
      rw [← hww] at hcut ⊢
      clear hww wc
      obtain ⟨b6, D3, d3, rfl, rfl, hlo, hhi, e0, e1, oR, ltR, bR⟩ := hcut
      have c0_w3 : w3.cell? ⟨w.heap.size, 0, none⟩ = some (.int .i64 n) := (bR.cell (p := ⟨w.heap.size, 0, none⟩) (by dsimp only; omega)).trans c0_w1
      have c1_w3 : w3.cell? ⟨w.heap.size, 1, none⟩ = some (.slice A k c) := (bR.cell (p := ⟨w.heap.size, 1, none⟩) (by dsimp only; omega)).trans c1_w1
      have c2_w3 : w3.cell? ⟨w.heap.size + 1, 0, none⟩ = some (.int .i64 u) := (bR.cell (p := ⟨w.heap.size + 1, 0, none⟩) (by dsimp only; omega)).trans c2_w1
      have c3_w3 : w3.cell? ⟨w.heap.size + 1, 1, none⟩ = some (.int .i64 v) := (bR.cell (p := ⟨w.heap.size + 1, 1, none⟩) (by dsimp only; omega)).trans c3_w1
      have c4_w3 : w3.cell? ⟨w.heap.size + 1, 2, none⟩ = some (.int .i64 x) := (bR.cell (p := ⟨w.heap.size + 1, 2, none⟩) (by dsimp only; omega)).trans c4_w1
      have c5_w3 : w3.cell? ⟨w.heap.size + 1, 3, none⟩ = some (.int .i64 y) := (bR.cell (p := ⟨w.heap.size + 1, 3, none⟩) (by dsimp only; omega)).trans c5_w1
      have s0_w3 : w.heap.size < w3.heap.size := Nat.lt_of_lt_of_le s0_w1 bR.size
      have s1_w3 : w.heap.size + 1 < w3.heap.size := Nat.lt_of_lt_of_le s1_w1 bR.size
      have u_b6_0 : w.heap.size < b6 := by omega
      have u_b6_1 : w.heap.size + 1 < b6 := by omega
      have B_w3 : Below w.heap.size w w3 := B_w1.trans (bR.mono B_w1.size)
      have c6_w3 := e0
      have c7_w3 := e1
      have s2_w3 := hhi
      have oD_w3 := Lib.hid oR
      have ltD_ := ltR
      have loD_ := oR.lt
      clear c0_w1 c1_w1 c2_w1 c3_w1 c4_w1 c5_w1 s0_w1 s1_w1  bR e0 e1 hhi oR ltR
      obtain ⟨x1, hx1⟩ : ∃ e, e = w3.heap.size := ⟨_, rfl⟩
      have ltD : ∀ p, (Value.slice D3 m d3).ownBlock = some p → w.heap.size < p ∧ p < x1 := fun p hp => by have := ltD_ p hp; have := loD_ p hp; omega
      have x1s : b6 < x1 := by omega
      clear ltD_ loD_ hlo
      go_wp2_with fail
      refine (HTO.out _ (HR.out.below B_w3)).mono ?_
      rintro e w4 ⟨A4, c4, rfl, h4, b4b⟩
      have lt4 := h4.lt
      have lx4 : ∀ p, (Value.slice A4 k c4).ownBlock = some p → x1 - 1 < p ∧ p < w4.heap.size := fun p hp => by have := lt4 p hp; omega
      have x1a : x1 ≤ w4.heap.size := by rw [hx1]; exact b4b.size
      have g4 := Lib.hid h4
      clear h4 hx1 lt4
      have c0_w4 : w4.cell? ⟨w.heap.size, 0, none⟩ = some (.int .i64 n) := (b4b.cell (p := ⟨w.heap.size, 0, none⟩) (by dsimp only; omega)).trans c0_w3
      have c1_w4 : w4.cell? ⟨w.heap.size, 1, none⟩ = some (.slice A k c) := (b4b.cell (p := ⟨w.heap.size, 1, none⟩) (by dsimp only; omega)).trans c1_w3
      have c2_w4 : w4.cell? ⟨w.heap.size + 1, 0, none⟩ = some (.int .i64 u) := (b4b.cell (p := ⟨w.heap.size + 1, 0, none⟩) (by dsimp only; omega)).trans c2_w3
      have c3_w4 : w4.cell? ⟨w.heap.size + 1, 1, none⟩ = some (.int .i64 v) := (b4b.cell (p := ⟨w.heap.size + 1, 1, none⟩) (by dsimp only; omega)).trans c3_w3
      have c4_w4 : w4.cell? ⟨w.heap.size + 1, 2, none⟩ = some (.int .i64 x) := (b4b.cell (p := ⟨w.heap.size + 1, 2, none⟩) (by dsimp only; omega)).trans c4_w3
      have c5_w4 : w4.cell? ⟨w.heap.size + 1, 3, none⟩ = some (.int .i64 y) := (b4b.cell (p := ⟨w.heap.size + 1, 3, none⟩) (by dsimp only; omega)).trans c5_w3
      have c6_w4 : w4.cell? ⟨b6, 0, none⟩ = some (.int .i64 t0) := (b4b.cell (p := ⟨b6, 0, none⟩) (by dsimp only; omega)).trans c6_w3
      have c7_w4 : w4.cell? ⟨b6, 1, none⟩ = some (.slice D3 m d3) := (b4b.cell (p := ⟨b6, 1, none⟩) (by dsimp only; omega)).trans c7_w3
      have s0_w4 : w.heap.size < w4.heap.size := Nat.lt_of_lt_of_le s0_w3 b4b.size
      have s1_w4 : w.heap.size + 1 < w4.heap.size := Nat.lt_of_lt_of_le s1_w3 b4b.size
      have s2_w4 : b6 < w4.heap.size := Nat.lt_of_lt_of_le s2_w3 b4b.size
      have B_w4 : Below w.heap.size w w4 := B_w3.trans (b4b.mono B_w3.size)
      have oD_w4 := Lib.hid (own_below oD_w3.out b4b)
      clear c0_w3 c1_w3 c2_w3 c3_w3 c4_w3 c5_w3 c6_w3 c7_w3 s0_w3 s1_w3 s2_w3 oD_w3 b4b
      have oX_w4 := g4
      clear g4
      obtain ⟨b8, hb8⟩ : ∃ b, b = w4.heap.size := ⟨_, rfl⟩
      obtain ⟨wb, hwb⟩ : ∃ W, W = w4.alloc (.cells #[.int .i64 n, .slice A4 k c4] 25) := ⟨_, rfl⟩
      have ba : Below w4.heap.size w4 wb := by rw [hwb]; exact (Below.refl _ _).alloc (Nat.le_refl _) _
      have u_b8_0 : w.heap.size < b8 := by omega
      have u_b8_1 : w.heap.size + 1 < b8 := by omega
      have u_b8_2 : b6 < b8 := by omega
      have z_wb : wb.heap.size = b8 + 1 := by rw [hwb, hb8]; simp
      have ltX : ∀ p, (Value.slice A4 k c4).ownBlock = some p → x1 - 1 < p ∧ p < b8 := fun p hp => by have := lx4 p hp; omega
      have x1b : x1 ≤ b8 := by omega
      clear lx4 x1a
      have c8_wb : wb.cell? ⟨b8, 0, none⟩ = some (.int .i64 n) := by rw [hwb, hb8]; go_simp
      have c9_wb : wb.cell? ⟨b8, 1, none⟩ = some (.slice A4 k c4) := by rw [hwb, hb8]; go_simp
      have s3_wb : b8 < wb.heap.size := by omega
      go_upto_region 7 with (fail)
      rw [← hwb]
      try rw [← hb8]
      have c0_wb : wb.cell? ⟨w.heap.size, 0, none⟩ = some (.int .i64 n) := (ba.cell (p := ⟨w.heap.size, 0, none⟩) (by dsimp only; omega)).trans c0_w4
      have c1_wb : wb.cell? ⟨w.heap.size, 1, none⟩ = some (.slice A k c) := (ba.cell (p := ⟨w.heap.size, 1, none⟩) (by dsimp only; omega)).trans c1_w4
      have c2_wb : wb.cell? ⟨w.heap.size + 1, 0, none⟩ = some (.int .i64 u) := (ba.cell (p := ⟨w.heap.size + 1, 0, none⟩) (by dsimp only; omega)).trans c2_w4
      have c3_wb : wb.cell? ⟨w.heap.size + 1, 1, none⟩ = some (.int .i64 v) := (ba.cell (p := ⟨w.heap.size + 1, 1, none⟩) (by dsimp only; omega)).trans c3_w4
      have c4_wb : wb.cell? ⟨w.heap.size + 1, 2, none⟩ = some (.int .i64 x) := (ba.cell (p := ⟨w.heap.size + 1, 2, none⟩) (by dsimp only; omega)).trans c4_w4
      have c5_wb : wb.cell? ⟨w.heap.size + 1, 3, none⟩ = some (.int .i64 y) := (ba.cell (p := ⟨w.heap.size + 1, 3, none⟩) (by dsimp only; omega)).trans c5_w4
      have c6_wb : wb.cell? ⟨b6, 0, none⟩ = some (.int .i64 t0) := (ba.cell (p := ⟨b6, 0, none⟩) (by dsimp only; omega)).trans c6_w4
      have c7_wb : wb.cell? ⟨b6, 1, none⟩ = some (.slice D3 m d3) := (ba.cell (p := ⟨b6, 1, none⟩) (by dsimp only; omega)).trans c7_w4
      have s0_wb : w.heap.size < wb.heap.size := Nat.lt_of_lt_of_le s0_w4 ba.size
      have s1_wb : w.heap.size + 1 < wb.heap.size := Nat.lt_of_lt_of_le s1_w4 ba.size
      have s2_wb : b6 < wb.heap.size := Nat.lt_of_lt_of_le s2_w4 ba.size
      have B_wb : Below w.heap.size w wb := B_w4.trans (ba.mono B_w4.size)
      have oD_wb := Lib.hid (own_below oD_w4.out ba)
      have oX_wb := Lib.hid (own_below oX_w4.out ba)
      clear c0_w4 c1_w4 c2_w4 c3_w4 c4_w4 c5_w4 c6_w4 c7_w4 s0_w4 s1_w4 s2_w4 oD_w4 oX_w4 ba
      clear hb8 hwb
      have HZ7 := Lib.hid z_wb
      clear z_wb
      go_wp2_with fail
      go_cut [9, 10] from 31 to 37 (fun p b wc => ∃ (B : Nat) (D : Option Addr) (cd : Nat), p = Value.pointer (some ⟨B, 0, none⟩) ∧ b = Value.bool ok ∧ wb.heap.size ≤ B ∧ B < wc.heap.size ∧ wc.cell? ⟨B, 0, none⟩ = some (.int .i64 t0) ∧ wc.cell? ⟨B, 1, none⟩ = some (.slice D m cd) ∧ wc.ownsRow wb.heap.size 42 4 (.slice D m cd) m (cellsL ts) ∧ (∀ q, (Value.slice D m cd).ownBlock = some q → q < wc.heap.size ∧ q ≠ B) ∧ Below wb.heap.size wb wc)
      case first =>
        go_region_held3 (fun W => W.cell? ⟨w.heap.size, 0, none⟩ = some (.int .i64 n) ∧ W.cell? ⟨w.heap.size, 1, none⟩ = some (.slice A k c) ∧ W.cell? ⟨w.heap.size + 1, 0, none⟩ = some (.int .i64 u) ∧ W.cell? ⟨w.heap.size + 1, 1, none⟩ = some (.int .i64 v) ∧ W.cell? ⟨w.heap.size + 1, 2, none⟩ = some (.int .i64 x) ∧ W.cell? ⟨w.heap.size + 1, 3, none⟩ = some (.int .i64 y) ∧ W.cell? ⟨b6, 0, none⟩ = some (.int .i64 t0) ∧ W.cell? ⟨b6, 1, none⟩ = some (.slice D3 m d3) ∧ W.cell? ⟨b8, 0, none⟩ = some (.int .i64 n) ∧ W.cell? ⟨b8, 1, none⟩ = some (.slice A4 k c4)) (first | (go_keep; done) | ((try dsimp only); refine ⟨?_, ?_, ?_, ?_, ?_, ?_, ?_, ?_, ?_, ?_⟩ <;> first | assumption | ((repeat (refine cell_off ?_ (by omega))); assumption) | (go_keep; done) | go_simp | (trace_state; fail))) (first | (go_at_call 50; refine (HTE.out _).mono ?_; rintro e x3 ⟨rfl, y3⟩; have c0_x3 : x3.cell? ⟨w.heap.size, 0, none⟩ = some (.int .i64 n) := (y3.cell (p := ⟨w.heap.size, 0, none⟩) (by first | omega | (simp; done) | (simp; omega))).trans (by first | assumption | go_simp); have c1_x3 : x3.cell? ⟨w.heap.size, 1, none⟩ = some (.slice A k c) := (y3.cell (p := ⟨w.heap.size, 1, none⟩) (by first | omega | (simp; done) | (simp; omega))).trans (by first | assumption | go_simp); have c2_x3 : x3.cell? ⟨w.heap.size + 1, 0, none⟩ = some (.int .i64 u) := (y3.cell (p := ⟨w.heap.size + 1, 0, none⟩) (by first | omega | (simp; done) | (simp; omega))).trans (by first | assumption | go_simp); have c3_x3 : x3.cell? ⟨w.heap.size + 1, 1, none⟩ = some (.int .i64 v) := (y3.cell (p := ⟨w.heap.size + 1, 1, none⟩) (by first | omega | (simp; done) | (simp; omega))).trans (by first | assumption | go_simp); have c4_x3 : x3.cell? ⟨w.heap.size + 1, 2, none⟩ = some (.int .i64 x) := (y3.cell (p := ⟨w.heap.size + 1, 2, none⟩) (by first | omega | (simp; done) | (simp; omega))).trans (by first | assumption | go_simp); have c5_x3 : x3.cell? ⟨w.heap.size + 1, 3, none⟩ = some (.int .i64 y) := (y3.cell (p := ⟨w.heap.size + 1, 3, none⟩) (by first | omega | (simp; done) | (simp; omega))).trans (by first | assumption | go_simp); have c6_x3 : x3.cell? ⟨b6, 0, none⟩ = some (.int .i64 t0) := (y3.cell (p := ⟨b6, 0, none⟩) (by first | omega | (simp; done) | (simp; omega))).trans (by first | assumption | go_simp); have c7_x3 : x3.cell? ⟨b6, 1, none⟩ = some (.slice D3 m d3) := (y3.cell (p := ⟨b6, 1, none⟩) (by first | omega | (simp; done) | (simp; omega))).trans (by first | assumption | go_simp); have c8_x3 : x3.cell? ⟨b8, 0, none⟩ = some (.int .i64 n) := (y3.cell (p := ⟨b8, 0, none⟩) (by first | omega | (simp; done) | (simp; omega))).trans (by first | assumption | go_simp); have c9_x3 : x3.cell? ⟨b8, 1, none⟩ = some (.slice A4 k c4) := (y3.cell (p := ⟨b8, 1, none⟩) (by first | omega | (simp; done) | (simp; omega))).trans (by first | assumption | go_simp); have s0_x3 : w.heap.size < x3.heap.size := Nat.lt_of_lt_of_le (by first | omega | (simp; done) | (simp; omega)) y3.size; have s1_x3 : w.heap.size + 1 < x3.heap.size := Nat.lt_of_lt_of_le (by first | omega | (simp; done) | (simp; omega)) y3.size; have s2_x3 : b6 < x3.heap.size := Nat.lt_of_lt_of_le (by first | omega | (simp; done) | (simp; omega)) y3.size; have s3_x3 : b8 < x3.heap.size := Nat.lt_of_lt_of_le (by first | omega | (simp; done) | (simp; omega)) y3.size; have qy3 := y3.size; (try simp at qy3); (try (refine cut2 (p := x3.cell? ⟨wb.heap.size, 0, none⟩ = some (.int .i64 0)) ?_ ?_; refine (y3.cell (p := ⟨wb.heap.size, 0, none⟩) ?_).trans ?_; (focus (first | omega | (simp; done) | (simp; omega))); (focus (first | assumption | exact cell_new _ _ _ _ _ rfl | exact cell_new wb _ _ _ _ rfl | (go_simp; done))); intro uu)); (try (refine cut2 (p := x3.frozen? ⟨wb.heap.size, 0, none⟩ = false) ?_ ?_; refine (y3.frozen (p := ⟨wb.heap.size, 0, none⟩) ?_).trans ?_; (focus (first | omega | (simp; done) | (simp; omega))); (focus (first | assumption | exact frozen_new _ _ _ _ | exact frozen_new wb _ _ _ | (go_simp; done))); intro uu)); (try (refine cut2 (p := x3.cell? ⟨wb.heap.size, 1, none⟩ = some (.slice none 0 0)) ?_ ?_; refine (y3.cell (p := ⟨wb.heap.size, 1, none⟩) ?_).trans ?_; (focus (first | omega | (simp; done) | (simp; omega))); (focus (first | assumption | exact cell_new _ _ _ _ _ rfl | exact cell_new wb _ _ _ _ rfl | (go_simp; done))); intro uu)); (try (refine cut2 (p := x3.frozen? ⟨wb.heap.size, 1, none⟩ = false) ?_ ?_; refine (y3.frozen (p := ⟨wb.heap.size, 1, none⟩) ?_).trans ?_; (focus (first | omega | (simp; done) | (simp; omega))); (focus (first | assumption | exact frozen_new _ _ _ _ | exact frozen_new wb _ _ _ | (go_simp; done))); intro uu)); have R3 : LinkAt x3 A4 es := LinkAt.below (w := wb) (own_link oX_wb.out) (by repeat (first | exact Below.refl _ _ | refine below_step (by assumption) (by first | omega | (simp; done) | (simp; omega)) ?_ | refine below_drewN ?_ _ | refine Below.drew ?_ | refine Below.setCell ?_ (by first | omega | (simp; done) | (simp; omega)) _ | refine Below.alloc ?_ (by first | omega | (simp; done) | (simp; omega)) _))) | (go_at_call 26; refine (HIM.out A4 c4 _ (LinkAt.below (w := x3) R3 (by repeat (first | exact Below.refl _ _ | refine below_step (by assumption) (by first | omega | (simp; done) | (simp; omega)) ?_ | refine below_drewN ?_ _ | refine Below.drew ?_ | refine Below.setCell ?_ (by first | omega | (simp; done) | (simp; omega)) _ | refine Below.alloc ?_ (by first | omega | (simp; done) | (simp; omega)) _)))).mono ?_; rintro e x4 ⟨D4, c4x, bs, rfl, hbs, h4, lt4, y4⟩; (try simp at hbs); have c0_x4 : x4.cell? ⟨w.heap.size, 0, none⟩ = some (.int .i64 n) := (y4.cell (p := ⟨w.heap.size, 0, none⟩) (by first | omega | (simp; done) | (simp; omega))).trans (by first | assumption | go_simp); have c1_x4 : x4.cell? ⟨w.heap.size, 1, none⟩ = some (.slice A k c) := (y4.cell (p := ⟨w.heap.size, 1, none⟩) (by first | omega | (simp; done) | (simp; omega))).trans (by first | assumption | go_simp); have c2_x4 : x4.cell? ⟨w.heap.size + 1, 0, none⟩ = some (.int .i64 u) := (y4.cell (p := ⟨w.heap.size + 1, 0, none⟩) (by first | omega | (simp; done) | (simp; omega))).trans (by first | assumption | go_simp); have c3_x4 : x4.cell? ⟨w.heap.size + 1, 1, none⟩ = some (.int .i64 v) := (y4.cell (p := ⟨w.heap.size + 1, 1, none⟩) (by first | omega | (simp; done) | (simp; omega))).trans (by first | assumption | go_simp); have c4_x4 : x4.cell? ⟨w.heap.size + 1, 2, none⟩ = some (.int .i64 x) := (y4.cell (p := ⟨w.heap.size + 1, 2, none⟩) (by first | omega | (simp; done) | (simp; omega))).trans (by first | assumption | go_simp); have c5_x4 : x4.cell? ⟨w.heap.size + 1, 3, none⟩ = some (.int .i64 y) := (y4.cell (p := ⟨w.heap.size + 1, 3, none⟩) (by first | omega | (simp; done) | (simp; omega))).trans (by first | assumption | go_simp); have c6_x4 : x4.cell? ⟨b6, 0, none⟩ = some (.int .i64 t0) := (y4.cell (p := ⟨b6, 0, none⟩) (by first | omega | (simp; done) | (simp; omega))).trans (by first | assumption | go_simp); have c7_x4 : x4.cell? ⟨b6, 1, none⟩ = some (.slice D3 m d3) := (y4.cell (p := ⟨b6, 1, none⟩) (by first | omega | (simp; done) | (simp; omega))).trans (by first | assumption | go_simp); have c8_x4 : x4.cell? ⟨b8, 0, none⟩ = some (.int .i64 n) := (y4.cell (p := ⟨b8, 0, none⟩) (by first | omega | (simp; done) | (simp; omega))).trans (by first | assumption | go_simp); have c9_x4 : x4.cell? ⟨b8, 1, none⟩ = some (.slice A4 k c4) := (y4.cell (p := ⟨b8, 1, none⟩) (by first | omega | (simp; done) | (simp; omega))).trans (by first | assumption | go_simp); have s0_x4 : w.heap.size < x4.heap.size := Nat.lt_of_lt_of_le (by first | omega | (simp; done) | (simp; omega)) y4.size; have s1_x4 : w.heap.size + 1 < x4.heap.size := Nat.lt_of_lt_of_le (by first | omega | (simp; done) | (simp; omega)) y4.size; have s2_x4 : b6 < x4.heap.size := Nat.lt_of_lt_of_le (by first | omega | (simp; done) | (simp; omega)) y4.size; have s3_x4 : b8 < x4.heap.size := Nat.lt_of_lt_of_le (by first | omega | (simp; done) | (simp; omega)) y4.size; have qy4 := y4.size; (try simp at qy4); (try (refine cut2 (p := x4.cell? ⟨wb.heap.size, 0, none⟩ = some (.int .i64 0)) ?_ ?_; refine (y4.cell (p := ⟨wb.heap.size, 0, none⟩) ?_).trans ?_; (focus (first | omega | (simp; done) | (simp; omega))); (focus (first | assumption | exact cell_new _ _ _ _ _ rfl | exact cell_new wb _ _ _ _ rfl | (go_simp; done))); intro uu)); (try (refine cut2 (p := x4.frozen? ⟨wb.heap.size, 0, none⟩ = false) ?_ ?_; refine (y4.frozen (p := ⟨wb.heap.size, 0, none⟩) ?_).trans ?_; (focus (first | omega | (simp; done) | (simp; omega))); (focus (first | assumption | exact frozen_new _ _ _ _ | exact frozen_new wb _ _ _ | (go_simp; done))); intro uu)); (try (refine cut2 (p := x4.cell? ⟨wb.heap.size, 1, none⟩ = some (.slice none 0 0)) ?_ ?_; refine (y4.cell (p := ⟨wb.heap.size, 1, none⟩) ?_).trans ?_; (focus (first | omega | (simp; done) | (simp; omega))); (focus (first | assumption | exact cell_new _ _ _ _ _ rfl | exact cell_new wb _ _ _ _ rfl | (go_simp; done))); intro uu)); (try (refine cut2 (p := x4.frozen? ⟨wb.heap.size, 1, none⟩ = false) ?_ ?_; refine (y4.frozen (p := ⟨wb.heap.size, 1, none⟩) ?_).trans ?_; (focus (first | omega | (simp; done) | (simp; omega))); (focus (first | assumption | exact frozen_new _ _ _ _ | exact frozen_new wb _ _ _ | (go_simp; done))); intro uu)); (try (refine cut2 (p := x4.cell? ⟨x3.heap.size, 0, none⟩ = some (.int .i64 0)) ?_ ?_; refine (y4.cell (p := ⟨x3.heap.size, 0, none⟩) ?_).trans ?_; (focus (first | omega | (simp; done) | (simp; omega))); (focus (first | assumption | exact cell_new _ _ _ _ _ rfl | exact cell_new x3 _ _ _ _ rfl | (go_simp; done))); intro uu)); (try (refine cut2 (p := x4.frozen? ⟨x3.heap.size, 0, none⟩ = false) ?_ ?_; refine (y4.frozen (p := ⟨x3.heap.size, 0, none⟩) ?_).trans ?_; (focus (first | omega | (simp; done) | (simp; omega))); (focus (first | assumption | exact frozen_new _ _ _ _ | exact frozen_new x3 _ _ _ | (go_simp; done))); intro uu)); (try (refine cut2 (p := x4.cell? ⟨x3.heap.size, 1, none⟩ = some (.slice none 0 0)) ?_ ?_; refine (y4.cell (p := ⟨x3.heap.size, 1, none⟩) ?_).trans ?_; (focus (first | omega | (simp; done) | (simp; omega))); (focus (first | assumption | exact cell_new _ _ _ _ _ rfl | exact cell_new x3 _ _ _ _ rfl | (go_simp; done))); intro uu)); (try (refine cut2 (p := x4.frozen? ⟨x3.heap.size, 1, none⟩ = false) ?_ ?_; refine (y4.frozen (p := ⟨x3.heap.size, 1, none⟩) ?_).trans ?_; (focus (first | omega | (simp; done) | (simp; omega))); (focus (first | assumption | exact frozen_new _ _ _ _ | exact frozen_new x3 _ _ _ | (go_simp; done))); intro uu))))
        all_goals go_wp2_with fail
        all_goals (go_meet; refine ⟨_, D4, c4x, rfl, rfl, ?_, ?_, ?_, ?_, ?_, ?_, ?_⟩)
        all_goals (first | assumption | omega | (simp; done) | (simp; omega) | (go_simp; done) | ((intro q hq; have := lt4 q hq; refine ⟨?_, ?_⟩ <;> first | omega | (simp; omega)); done) | ((first | exact own_base (own_below h4 ((Below.refl _ _).alloc (Nat.le_refl _) _)) (by omega) | exact own_base (own_set (own_set h4 _ _ (by dsimp only; omega)) _ _ (by dsimp only; omega)) (by omega)); done) | ((repeat (first | exact Below.refl _ _ | refine below_step (by assumption) (by first | omega | (simp; done) | (simp; omega)) ?_ | refine below_drewN ?_ _ | refine Below.drew ?_ | refine Below.setCell ?_ (by first | omega | (simp; done) | (simp; omega)) _ | refine Below.alloc ?_ (by first | omega | (simp; done) | (simp; omega)) _)); done))
      case rest =>
        obtain ⟨w5, hww⟩ : ∃ W, W = wc := ⟨_, rfl⟩
        rw [← hww] at hcut ⊢
        clear hww wc
        obtain ⟨b9, D5, d5, rfl, rfl, hlo, hhi, e0, e1, oR, ltR, bR⟩ := hcut
        have z7 := HZ7.out
        have c0_w5 : w5.cell? ⟨w.heap.size, 0, none⟩ = some (.int .i64 n) := (bR.cell (p := ⟨w.heap.size, 0, none⟩) (by dsimp only; omega)).trans c0_wb
        have c1_w5 : w5.cell? ⟨w.heap.size, 1, none⟩ = some (.slice A k c) := (bR.cell (p := ⟨w.heap.size, 1, none⟩) (by dsimp only; omega)).trans c1_wb
        have c2_w5 : w5.cell? ⟨w.heap.size + 1, 0, none⟩ = some (.int .i64 u) := (bR.cell (p := ⟨w.heap.size + 1, 0, none⟩) (by dsimp only; omega)).trans c2_wb
        have c3_w5 : w5.cell? ⟨w.heap.size + 1, 1, none⟩ = some (.int .i64 v) := (bR.cell (p := ⟨w.heap.size + 1, 1, none⟩) (by dsimp only; omega)).trans c3_wb
        have c4_w5 : w5.cell? ⟨w.heap.size + 1, 2, none⟩ = some (.int .i64 x) := (bR.cell (p := ⟨w.heap.size + 1, 2, none⟩) (by dsimp only; omega)).trans c4_wb
        have c5_w5 : w5.cell? ⟨w.heap.size + 1, 3, none⟩ = some (.int .i64 y) := (bR.cell (p := ⟨w.heap.size + 1, 3, none⟩) (by dsimp only; omega)).trans c5_wb
        have c6_w5 : w5.cell? ⟨b6, 0, none⟩ = some (.int .i64 t0) := (bR.cell (p := ⟨b6, 0, none⟩) (by dsimp only; omega)).trans c6_wb
        have c7_w5 : w5.cell? ⟨b6, 1, none⟩ = some (.slice D3 m d3) := (bR.cell (p := ⟨b6, 1, none⟩) (by dsimp only; omega)).trans c7_wb
        have c8_w5 : w5.cell? ⟨b8, 0, none⟩ = some (.int .i64 n) := (bR.cell (p := ⟨b8, 0, none⟩) (by dsimp only; omega)).trans c8_wb
        have c9_w5 : w5.cell? ⟨b8, 1, none⟩ = some (.slice A4 k c4) := (bR.cell (p := ⟨b8, 1, none⟩) (by dsimp only; omega)).trans c9_wb
        have s0_w5 : w.heap.size < w5.heap.size := Nat.lt_of_lt_of_le s0_wb bR.size
        have s1_w5 : w.heap.size + 1 < w5.heap.size := Nat.lt_of_lt_of_le s1_wb bR.size
        have s2_w5 : b6 < w5.heap.size := Nat.lt_of_lt_of_le s2_wb bR.size
        have s3_w5 : b8 < w5.heap.size := Nat.lt_of_lt_of_le s3_wb bR.size
        have u_b9_0 : w.heap.size < b9 := by omega
        have u_b9_1 : w.heap.size + 1 < b9 := by omega
        have u_b9_2 : b6 < b9 := by omega
        have u_b9_3 : b8 < b9 := by omega
        have B_w5 : Below w.heap.size w w5 := B_wb.trans (bR.mono B_wb.size)
        have oD_w5 := Lib.hid (own_below oD_wb.out bR)
        have oX_w5 := Lib.hid (own_below oX_wb.out bR)
        have c10_w5 := e0
        have c11_w5 := e1
        have s4_w5 := hhi
        have oY_w5 := Lib.hid oR
        have ltY_ := ltR
        have loY_ := oR.lt
        clear c0_wb c1_wb c2_wb c3_wb c4_wb c5_wb c6_wb c7_wb c8_wb c9_wb s0_wb s1_wb s2_wb s3_wb oD_wb oX_wb bR e0 e1 hhi oR ltR
        obtain ⟨x2, hx2⟩ : ∃ e, e = w5.heap.size := ⟨_, rfl⟩
        have ltY : ∀ p, (Value.slice D5 m d5).ownBlock = some p → b8 < p ∧ p < x2 := fun p hp => by have := ltY_ p hp; have := loY_ p hp; omega
        have ltY3 : ∀ p, (Value.slice D5 m d5).ownBlock = some p → b8 < p ∧ p < x2 ∧ p ≠ b9 := fun p hp => by have := ltY_ p hp; have := loY_ p hp; omega
        clear ltY_ loY_ hlo z7 HZ7 hx2
        go_wp2_with fail
        refine (HEQ.out D5 D3 d5 d3 _ (own_link oY_w5.out) (own_link oD_w5.out)).mono ?_
        rintro e w6 ⟨rfl, b6b⟩
        have c0_w6 : w6.cell? ⟨w.heap.size, 0, none⟩ = some (.int .i64 n) := (b6b.cell (p := ⟨w.heap.size, 0, none⟩) (by dsimp only; omega)).trans c0_w5
        have c1_w6 : w6.cell? ⟨w.heap.size, 1, none⟩ = some (.slice A k c) := (b6b.cell (p := ⟨w.heap.size, 1, none⟩) (by dsimp only; omega)).trans c1_w5
        have c2_w6 : w6.cell? ⟨w.heap.size + 1, 0, none⟩ = some (.int .i64 u) := (b6b.cell (p := ⟨w.heap.size + 1, 0, none⟩) (by dsimp only; omega)).trans c2_w5
        have c3_w6 : w6.cell? ⟨w.heap.size + 1, 1, none⟩ = some (.int .i64 v) := (b6b.cell (p := ⟨w.heap.size + 1, 1, none⟩) (by dsimp only; omega)).trans c3_w5
        have c4_w6 : w6.cell? ⟨w.heap.size + 1, 2, none⟩ = some (.int .i64 x) := (b6b.cell (p := ⟨w.heap.size + 1, 2, none⟩) (by dsimp only; omega)).trans c4_w5
        have c5_w6 : w6.cell? ⟨w.heap.size + 1, 3, none⟩ = some (.int .i64 y) := (b6b.cell (p := ⟨w.heap.size + 1, 3, none⟩) (by dsimp only; omega)).trans c5_w5
        have c6_w6 : w6.cell? ⟨b6, 0, none⟩ = some (.int .i64 t0) := (b6b.cell (p := ⟨b6, 0, none⟩) (by dsimp only; omega)).trans c6_w5
        have c7_w6 : w6.cell? ⟨b6, 1, none⟩ = some (.slice D3 m d3) := (b6b.cell (p := ⟨b6, 1, none⟩) (by dsimp only; omega)).trans c7_w5
        have c8_w6 : w6.cell? ⟨b8, 0, none⟩ = some (.int .i64 n) := (b6b.cell (p := ⟨b8, 0, none⟩) (by dsimp only; omega)).trans c8_w5
        have c9_w6 : w6.cell? ⟨b8, 1, none⟩ = some (.slice A4 k c4) := (b6b.cell (p := ⟨b8, 1, none⟩) (by dsimp only; omega)).trans c9_w5
        have c10_w6 : w6.cell? ⟨b9, 0, none⟩ = some (.int .i64 t0) := (b6b.cell (p := ⟨b9, 0, none⟩) (by dsimp only; omega)).trans c10_w5
        have c11_w6 : w6.cell? ⟨b9, 1, none⟩ = some (.slice D5 m d5) := (b6b.cell (p := ⟨b9, 1, none⟩) (by dsimp only; omega)).trans c11_w5
        have s0_w6 : w.heap.size < w6.heap.size := Nat.lt_of_lt_of_le s0_w5 b6b.size
        have s1_w6 : w.heap.size + 1 < w6.heap.size := Nat.lt_of_lt_of_le s1_w5 b6b.size
        have s2_w6 : b6 < w6.heap.size := Nat.lt_of_lt_of_le s2_w5 b6b.size
        have s3_w6 : b8 < w6.heap.size := Nat.lt_of_lt_of_le s3_w5 b6b.size
        have s4_w6 : b9 < w6.heap.size := Nat.lt_of_lt_of_le s4_w5 b6b.size
        have B_w6 : Below w.heap.size w w6 := B_w5.trans (b6b.mono B_w5.size)
        have oD_w6 := Lib.hid (own_below oD_w5.out b6b)
        have oX_w6 := Lib.hid (own_below oX_w5.out b6b)
        have oY_w6 := Lib.hid (own_below oY_w5.out b6b)
        clear c0_w5 c1_w5 c2_w5 c3_w5 c4_w5 c5_w5 c6_w5 c7_w5 c8_w5 c9_w5 c10_w5 c11_w5 s0_w5 s1_w5 s2_w5 s3_w5 s4_w5 oD_w5 oX_w5 oY_w5 b6b
        go_wp2_with fail
        go_region_held3 (fun W => W.cell? ⟨w.heap.size, 0, none⟩ = some (.int .i64 n) ∧ W.cell? ⟨w.heap.size, 1, none⟩ = some (.slice A k c) ∧ W.cell? ⟨b8, 0, none⟩ = some (.int .i64 n) ∧ W.cell? ⟨b8, 1, none⟩ = some (.slice A4 k c4)) (first | go_keep | (dsimp only; refine ⟨?_, ?_, ?_, ?_⟩ <;> first | assumption | go_keep | go_simp)) (first | (go_at_call 29; refine (HTO.out _ (HR.out.below (by repeat (first | exact Below.refl _ _ | refine below_step (by assumption) (by first | omega | (simp; done) | (simp; omega)) ?_ | refine below_drewN ?_ _ | refine Below.drew ?_ | refine Below.setCell ?_ (by first | omega | (simp; done) | (simp; omega)) _ | refine Below.alloc ?_ (by first | omega | (simp; done) | (simp; omega)) _)))).mono ?_; rintro e w7 ⟨A7, c7, rfl, h7, b7b⟩; have c0_w7 : w7.cell? ⟨w.heap.size, 0, none⟩ = some (.int .i64 n) := (b7b.cell (p := ⟨w.heap.size, 0, none⟩) (by first | omega | (simp; done) | (simp; omega))).trans (by first | assumption | go_simp); have c1_w7 : w7.cell? ⟨w.heap.size, 1, none⟩ = some (.slice A k c) := (b7b.cell (p := ⟨w.heap.size, 1, none⟩) (by first | omega | (simp; done) | (simp; omega))).trans (by first | assumption | go_simp); have c2_w7 : w7.cell? ⟨w.heap.size + 1, 0, none⟩ = some (.int .i64 u) := (b7b.cell (p := ⟨w.heap.size + 1, 0, none⟩) (by first | omega | (simp; done) | (simp; omega))).trans (by first | assumption | go_simp); have c3_w7 : w7.cell? ⟨w.heap.size + 1, 1, none⟩ = some (.int .i64 v) := (b7b.cell (p := ⟨w.heap.size + 1, 1, none⟩) (by first | omega | (simp; done) | (simp; omega))).trans (by first | assumption | go_simp); have c4_w7 : w7.cell? ⟨w.heap.size + 1, 2, none⟩ = some (.int .i64 x) := (b7b.cell (p := ⟨w.heap.size + 1, 2, none⟩) (by first | omega | (simp; done) | (simp; omega))).trans (by first | assumption | go_simp); have c5_w7 : w7.cell? ⟨w.heap.size + 1, 3, none⟩ = some (.int .i64 y) := (b7b.cell (p := ⟨w.heap.size + 1, 3, none⟩) (by first | omega | (simp; done) | (simp; omega))).trans (by first | assumption | go_simp); have c6_w7 : w7.cell? ⟨b6, 0, none⟩ = some (.int .i64 t0) := (b7b.cell (p := ⟨b6, 0, none⟩) (by first | omega | (simp; done) | (simp; omega))).trans (by first | assumption | go_simp); have c7_w7 : w7.cell? ⟨b6, 1, none⟩ = some (.slice D3 m d3) := (b7b.cell (p := ⟨b6, 1, none⟩) (by first | omega | (simp; done) | (simp; omega))).trans (by first | assumption | go_simp); have c8_w7 : w7.cell? ⟨b8, 0, none⟩ = some (.int .i64 n) := (b7b.cell (p := ⟨b8, 0, none⟩) (by first | omega | (simp; done) | (simp; omega))).trans (by first | assumption | go_simp); have c9_w7 : w7.cell? ⟨b8, 1, none⟩ = some (.slice A4 k c4) := (b7b.cell (p := ⟨b8, 1, none⟩) (by first | omega | (simp; done) | (simp; omega))).trans (by first | assumption | go_simp); have c10_w7 : w7.cell? ⟨b9, 0, none⟩ = some (.int .i64 t0) := (b7b.cell (p := ⟨b9, 0, none⟩) (by first | omega | (simp; done) | (simp; omega))).trans (by first | assumption | go_simp); have c11_w7 : w7.cell? ⟨b9, 1, none⟩ = some (.slice D5 m d5) := (b7b.cell (p := ⟨b9, 1, none⟩) (by first | omega | (simp; done) | (simp; omega))).trans (by first | assumption | go_simp); have s0_w7 : w.heap.size < w7.heap.size := Nat.lt_of_lt_of_le (by first | omega | (simp; done) | (simp; omega)) b7b.size; have s1_w7 : w.heap.size + 1 < w7.heap.size := Nat.lt_of_lt_of_le (by first | omega | (simp; done) | (simp; omega)) b7b.size; have s2_w7 : b6 < w7.heap.size := Nat.lt_of_lt_of_le (by first | omega | (simp; done) | (simp; omega)) b7b.size; have s3_w7 : b8 < w7.heap.size := Nat.lt_of_lt_of_le (by first | omega | (simp; done) | (simp; omega)) b7b.size; have s4_w7 : b9 < w7.heap.size := Nat.lt_of_lt_of_le (by first | omega | (simp; done) | (simp; omega)) b7b.size; have q7 : w6.heap.size ≤ w7.heap.size := b7b.size; have E7 : LinkAt w7 A7 es := own_link h7; have F7 : LinkAt w7 A4 es := LinkAt.below (w := _) (by exact LinkAt.of_heap (own_link oX_w6.out) rfl) b7b) | (go_at_call 30; refine (HEG.out A4 A7 c4 c7 _ (by exact F7.of_heap rfl) (by exact E7.of_heap rfl)).mono ?_; rintro e w8 ⟨rfl, b8b⟩; have c0_w8 : w8.cell? ⟨w.heap.size, 0, none⟩ = some (.int .i64 n) := (b8b.cell (p := ⟨w.heap.size, 0, none⟩) (by first | omega | (simp; done) | (simp; omega))).trans (by first | assumption | go_simp); have c1_w8 : w8.cell? ⟨w.heap.size, 1, none⟩ = some (.slice A k c) := (b8b.cell (p := ⟨w.heap.size, 1, none⟩) (by first | omega | (simp; done) | (simp; omega))).trans (by first | assumption | go_simp); have c2_w8 : w8.cell? ⟨w.heap.size + 1, 0, none⟩ = some (.int .i64 u) := (b8b.cell (p := ⟨w.heap.size + 1, 0, none⟩) (by first | omega | (simp; done) | (simp; omega))).trans (by first | assumption | go_simp); have c3_w8 : w8.cell? ⟨w.heap.size + 1, 1, none⟩ = some (.int .i64 v) := (b8b.cell (p := ⟨w.heap.size + 1, 1, none⟩) (by first | omega | (simp; done) | (simp; omega))).trans (by first | assumption | go_simp); have c4_w8 : w8.cell? ⟨w.heap.size + 1, 2, none⟩ = some (.int .i64 x) := (b8b.cell (p := ⟨w.heap.size + 1, 2, none⟩) (by first | omega | (simp; done) | (simp; omega))).trans (by first | assumption | go_simp); have c5_w8 : w8.cell? ⟨w.heap.size + 1, 3, none⟩ = some (.int .i64 y) := (b8b.cell (p := ⟨w.heap.size + 1, 3, none⟩) (by first | omega | (simp; done) | (simp; omega))).trans (by first | assumption | go_simp); have c6_w8 : w8.cell? ⟨b6, 0, none⟩ = some (.int .i64 t0) := (b8b.cell (p := ⟨b6, 0, none⟩) (by first | omega | (simp; done) | (simp; omega))).trans (by first | assumption | go_simp); have c7_w8 : w8.cell? ⟨b6, 1, none⟩ = some (.slice D3 m d3) := (b8b.cell (p := ⟨b6, 1, none⟩) (by first | omega | (simp; done) | (simp; omega))).trans (by first | assumption | go_simp); have c8_w8 : w8.cell? ⟨b8, 0, none⟩ = some (.int .i64 n) := (b8b.cell (p := ⟨b8, 0, none⟩) (by first | omega | (simp; done) | (simp; omega))).trans (by first | assumption | go_simp); have c9_w8 : w8.cell? ⟨b8, 1, none⟩ = some (.slice A4 k c4) := (b8b.cell (p := ⟨b8, 1, none⟩) (by first | omega | (simp; done) | (simp; omega))).trans (by first | assumption | go_simp); have c10_w8 : w8.cell? ⟨b9, 0, none⟩ = some (.int .i64 t0) := (b8b.cell (p := ⟨b9, 0, none⟩) (by first | omega | (simp; done) | (simp; omega))).trans (by first | assumption | go_simp); have c11_w8 : w8.cell? ⟨b9, 1, none⟩ = some (.slice D5 m d5) := (b8b.cell (p := ⟨b9, 1, none⟩) (by first | omega | (simp; done) | (simp; omega))).trans (by first | assumption | go_simp); have s0_w8 : w.heap.size < w8.heap.size := Nat.lt_of_lt_of_le (by first | omega | (simp; done) | (simp; omega)) b8b.size; have s1_w8 : w.heap.size + 1 < w8.heap.size := Nat.lt_of_lt_of_le (by first | omega | (simp; done) | (simp; omega)) b8b.size; have s2_w8 : b6 < w8.heap.size := Nat.lt_of_lt_of_le (by first | omega | (simp; done) | (simp; omega)) b8b.size; have s3_w8 : b8 < w8.heap.size := Nat.lt_of_lt_of_le (by first | omega | (simp; done) | (simp; omega)) b8b.size; have s4_w8 : b9 < w8.heap.size := Nat.lt_of_lt_of_le (by first | omega | (simp; done) | (simp; omega)) b8b.size))
        all_goals
          have U8 : Below w6.heap.size w6 w8 := (by repeat (first | exact Below.refl _ _ | refine below_step (by assumption) (by first | omega | (simp; done) | (simp; omega)) ?_ | refine below_drewN ?_ _ | refine Below.drew ?_ | refine Below.setCell ?_ (by first | omega | (simp; done) | (simp; omega)) _ | refine Below.alloc ?_ (by first | omega | (simp; done) | (simp; omega)) _))
          have oD_w8 := Lib.hid (own_below oD_w6.out U8)
          have oX_w8 := Lib.hid (own_below oX_w6.out U8)
          have oY_w8 := Lib.hid (own_below oY_w6.out U8)
          have B_w8 : Below w.heap.size w w8 := B_w6.trans (U8.mono B_w6.size)
          clear b7b b8b h7 E7 F7 U8 oD_w6 oX_w6 oY_w6 c0_w6 c1_w6 c2_w6 c3_w6 c4_w6 c5_w6 c6_w6 c7_w6 c8_w6 c9_w6 c10_w6 c11_w6 s0_w6 s1_w6 s2_w6 s3_w6 s4_w6 c0_w7 c1_w7 c2_w7 c3_w7 c4_w7 c5_w7 c6_w7 c7_w7 c8_w7 c9_w7 c10_w7 c11_w7 s0_w7 s1_w7 s2_w7 s3_w7 s4_w7
          have hmk := markSimple_any n A4 k c4 _ 1 (cellsL es) w8 (by omega) (own_to oX_w8.out ltX)
          rw [show ((1 : Nat) : Int) = 1 from rfl] at hmk
          unfold grV at hmk
          have HMK := Lib.hid hmk
          clear hmk
          go_wp2_with fail
          refine (HMK.out).mono ?_
          rintro e w9 ⟨rfl, _, hg9⟩
          have bm : Below w8.heap.size w8 (w8.alloc (.cells #[.int .i64 n, .slice A4 k c4] 25)) := (Below.refl _ _).alloc (Nat.le_refl _) _
          have c0_w9 := grown_cell hg9 (b := w.heap.size) (o := 0) (v := .int .i64 n) ((bm.cell (p := ⟨w.heap.size, 0, none⟩) (by dsimp only; omega)).trans c0_w8) (fun h => by have := ltX _ h; omega)
          have c1_w9 := grown_cell hg9 (b := w.heap.size) (o := 1) (v := .slice A k c) ((bm.cell (p := ⟨w.heap.size, 1, none⟩) (by dsimp only; omega)).trans c1_w8) (fun h => by have := ltX _ h; omega)
          have c2_w9 := grown_cell hg9 (b := w.heap.size + 1) (o := 0) (v := .int .i64 u) ((bm.cell (p := ⟨w.heap.size + 1, 0, none⟩) (by dsimp only; omega)).trans c2_w8) (fun h => by have := ltX _ h; omega)
          have c3_w9 := grown_cell hg9 (b := w.heap.size + 1) (o := 1) (v := .int .i64 v) ((bm.cell (p := ⟨w.heap.size + 1, 1, none⟩) (by dsimp only; omega)).trans c3_w8) (fun h => by have := ltX _ h; omega)
          have c4_w9 := grown_cell hg9 (b := w.heap.size + 1) (o := 2) (v := .int .i64 x) ((bm.cell (p := ⟨w.heap.size + 1, 2, none⟩) (by dsimp only; omega)).trans c4_w8) (fun h => by have := ltX _ h; omega)
          have c5_w9 := grown_cell hg9 (b := w.heap.size + 1) (o := 3) (v := .int .i64 y) ((bm.cell (p := ⟨w.heap.size + 1, 3, none⟩) (by dsimp only; omega)).trans c5_w8) (fun h => by have := ltX _ h; omega)
          have c6_w9 := grown_cell hg9 (b := b6) (o := 0) (v := .int .i64 t0) ((bm.cell (p := ⟨b6, 0, none⟩) (by dsimp only; omega)).trans c6_w8) (fun h => by have := ltX _ h; omega)
          have c7_w9 := grown_cell hg9 (b := b6) (o := 1) (v := .slice D3 m d3) ((bm.cell (p := ⟨b6, 1, none⟩) (by dsimp only; omega)).trans c7_w8) (fun h => by have := ltX _ h; omega)
          have c8_w9 := grown_cell hg9 (b := b8) (o := 0) (v := .int .i64 n) ((bm.cell (p := ⟨b8, 0, none⟩) (by dsimp only; omega)).trans c8_w8) (fun h => by have := ltX _ h; omega)
          have c9_w9 := grown_cell hg9 (b := b8) (o := 1) (v := .slice A4 k c4) ((bm.cell (p := ⟨b8, 1, none⟩) (by dsimp only; omega)).trans c9_w8) (fun h => by have := ltX _ h; omega)
          have c10_w9 := grown_cell hg9 (b := b9) (o := 0) (v := .int .i64 t0) ((bm.cell (p := ⟨b9, 0, none⟩) (by dsimp only; omega)).trans c10_w8) (fun h => by have := ltX _ h; omega)
          have c11_w9 := grown_cell hg9 (b := b9) (o := 1) (v := .slice D5 m d5) ((bm.cell (p := ⟨b9, 1, none⟩) (by dsimp only; omega)).trans c11_w8) (fun h => by have := ltX _ h; omega)
          have s0_w9 : w.heap.size < w9.heap.size := Nat.lt_of_lt_of_le s0_w8 (Nat.le_trans bm.size hg9.size)
          have s1_w9 : w.heap.size + 1 < w9.heap.size := Nat.lt_of_lt_of_le s1_w8 (Nat.le_trans bm.size hg9.size)
          have s2_w9 : b6 < w9.heap.size := Nat.lt_of_lt_of_le s2_w8 (Nat.le_trans bm.size hg9.size)
          have s3_w9 : b8 < w9.heap.size := Nat.lt_of_lt_of_le s3_w8 (Nat.le_trans bm.size hg9.size)
          have s4_w9 : b9 < w9.heap.size := Nat.lt_of_lt_of_le s4_w8 (Nat.le_trans bm.size hg9.size)
          have B_w9 : Below w.heap.size w w9 := (B_w8.trans (bm.mono B_w8.size)).grown hg9 (Nat.le_trans B_w8.size bm.size) (fun q hq => by have := ltX q hq; omega)
          have oD_w9 := Lib.hid ((own_below oD_w8.out bm).kept hg9 (own_off ltD ltX))
          have oY_w9 := Lib.hid ((own_below oY_w8.out bm).kept hg9 (own_off ltY ltX))
          clear bm hg9 HMK oX_w8
          clear c0_w8 c1_w8 c2_w8 c3_w8 c4_w8 c5_w8 c6_w8 c7_w8 c8_w8 c9_w8 c10_w8 c11_w8 s0_w8 s1_w8 s2_w8 s3_w8 s4_w8 oD_w8 oY_w8 
          go_wp2_with fail
          refine (HEQ.out D5 D3 d5 d3 _ (own_link oY_w9.out) (own_link oD_w9.out)).mono ?_
          rintro e w10 ⟨rfl, b10⟩
          have c0_w10 : w10.cell? ⟨w.heap.size, 0, none⟩ = some (.int .i64 n) := (b10.cell (p := ⟨w.heap.size, 0, none⟩) (by dsimp only; omega)).trans c0_w9
          have c1_w10 : w10.cell? ⟨w.heap.size, 1, none⟩ = some (.slice A k c) := (b10.cell (p := ⟨w.heap.size, 1, none⟩) (by dsimp only; omega)).trans c1_w9
          have c2_w10 : w10.cell? ⟨w.heap.size + 1, 0, none⟩ = some (.int .i64 u) := (b10.cell (p := ⟨w.heap.size + 1, 0, none⟩) (by dsimp only; omega)).trans c2_w9
          have c3_w10 : w10.cell? ⟨w.heap.size + 1, 1, none⟩ = some (.int .i64 v) := (b10.cell (p := ⟨w.heap.size + 1, 1, none⟩) (by dsimp only; omega)).trans c3_w9
          have c4_w10 : w10.cell? ⟨w.heap.size + 1, 2, none⟩ = some (.int .i64 x) := (b10.cell (p := ⟨w.heap.size + 1, 2, none⟩) (by dsimp only; omega)).trans c4_w9
          have c5_w10 : w10.cell? ⟨w.heap.size + 1, 3, none⟩ = some (.int .i64 y) := (b10.cell (p := ⟨w.heap.size + 1, 3, none⟩) (by dsimp only; omega)).trans c5_w9
          have c6_w10 : w10.cell? ⟨b6, 0, none⟩ = some (.int .i64 t0) := (b10.cell (p := ⟨b6, 0, none⟩) (by dsimp only; omega)).trans c6_w9
          have c7_w10 : w10.cell? ⟨b6, 1, none⟩ = some (.slice D3 m d3) := (b10.cell (p := ⟨b6, 1, none⟩) (by dsimp only; omega)).trans c7_w9
          have c8_w10 : w10.cell? ⟨b8, 0, none⟩ = some (.int .i64 n) := (b10.cell (p := ⟨b8, 0, none⟩) (by dsimp only; omega)).trans c8_w9
          have c9_w10 : w10.cell? ⟨b8, 1, none⟩ = some (.slice A4 k c4) := (b10.cell (p := ⟨b8, 1, none⟩) (by dsimp only; omega)).trans c9_w9
          have c10_w10 : w10.cell? ⟨b9, 0, none⟩ = some (.int .i64 t0) := (b10.cell (p := ⟨b9, 0, none⟩) (by dsimp only; omega)).trans c10_w9
          have c11_w10 : w10.cell? ⟨b9, 1, none⟩ = some (.slice D5 m d5) := (b10.cell (p := ⟨b9, 1, none⟩) (by dsimp only; omega)).trans c11_w9
          have s0_w10 : w.heap.size < w10.heap.size := Nat.lt_of_lt_of_le s0_w9 b10.size
          have s1_w10 : w.heap.size + 1 < w10.heap.size := Nat.lt_of_lt_of_le s1_w9 b10.size
          have s2_w10 : b6 < w10.heap.size := Nat.lt_of_lt_of_le s2_w9 b10.size
          have s3_w10 : b8 < w10.heap.size := Nat.lt_of_lt_of_le s3_w9 b10.size
          have s4_w10 : b9 < w10.heap.size := Nat.lt_of_lt_of_le s4_w9 b10.size
          have B_w10 : Below w.heap.size w w10 := B_w9.trans (b10.mono B_w9.size)
          have oD_w10 := Lib.hid (own_below oD_w9.out b10)
          have oY_w10 := Lib.hid (own_below oY_w9.out b10)
          clear c0_w9 c1_w9 c2_w9 c3_w9 c4_w9 c5_w9 c6_w9 c7_w9 c8_w9 c9_w9 c10_w9 c11_w9 s0_w9 s1_w9 s2_w9 s3_w9 s4_w9 oD_w9 oY_w9 b10
          have hmk := markSimple_any t0 D5 m d5 _ 1 (cellsL ts) w10 (by omega) (own_to oY_w10.out ltY)
          rw [show ((1 : Nat) : Int) = 1 from rfl] at hmk
          unfold grV at hmk
          have HMK := Lib.hid hmk
          clear hmk
          go_wp2_with fail
          refine (HMK.out).mono ?_
          rintro e w11 ⟨rfl, oY, hg11⟩
          have bm : Below w10.heap.size w10 (w10.alloc (.cells #[.int .i64 t0, .slice D5 m d5] 25)) := (Below.refl _ _).alloc (Nat.le_refl _) _
          have c0_w11 := grown_cell hg11 (b := w.heap.size) (o := 0) (v := .int .i64 n) ((bm.cell (p := ⟨w.heap.size, 0, none⟩) (by dsimp only; omega)).trans c0_w10) (fun h => by have := ltY3 _ h; omega)
          have c1_w11 := grown_cell hg11 (b := w.heap.size) (o := 1) (v := .slice A k c) ((bm.cell (p := ⟨w.heap.size, 1, none⟩) (by dsimp only; omega)).trans c1_w10) (fun h => by have := ltY3 _ h; omega)
          have c2_w11 := grown_cell hg11 (b := w.heap.size + 1) (o := 0) (v := .int .i64 u) ((bm.cell (p := ⟨w.heap.size + 1, 0, none⟩) (by dsimp only; omega)).trans c2_w10) (fun h => by have := ltY3 _ h; omega)
          have c3_w11 := grown_cell hg11 (b := w.heap.size + 1) (o := 1) (v := .int .i64 v) ((bm.cell (p := ⟨w.heap.size + 1, 1, none⟩) (by dsimp only; omega)).trans c3_w10) (fun h => by have := ltY3 _ h; omega)
          have c4_w11 := grown_cell hg11 (b := w.heap.size + 1) (o := 2) (v := .int .i64 x) ((bm.cell (p := ⟨w.heap.size + 1, 2, none⟩) (by dsimp only; omega)).trans c4_w10) (fun h => by have := ltY3 _ h; omega)
          have c5_w11 := grown_cell hg11 (b := w.heap.size + 1) (o := 3) (v := .int .i64 y) ((bm.cell (p := ⟨w.heap.size + 1, 3, none⟩) (by dsimp only; omega)).trans c5_w10) (fun h => by have := ltY3 _ h; omega)
          have c6_w11 := grown_cell hg11 (b := b6) (o := 0) (v := .int .i64 t0) ((bm.cell (p := ⟨b6, 0, none⟩) (by dsimp only; omega)).trans c6_w10) (fun h => by have := ltY3 _ h; omega)
          have c7_w11 := grown_cell hg11 (b := b6) (o := 1) (v := .slice D3 m d3) ((bm.cell (p := ⟨b6, 1, none⟩) (by dsimp only; omega)).trans c7_w10) (fun h => by have := ltY3 _ h; omega)
          have c8_w11 := grown_cell hg11 (b := b8) (o := 0) (v := .int .i64 n) ((bm.cell (p := ⟨b8, 0, none⟩) (by dsimp only; omega)).trans c8_w10) (fun h => by have := ltY3 _ h; omega)
          have c9_w11 := grown_cell hg11 (b := b8) (o := 1) (v := .slice A4 k c4) ((bm.cell (p := ⟨b8, 1, none⟩) (by dsimp only; omega)).trans c9_w10) (fun h => by have := ltY3 _ h; omega)
          have c10_w11 := grown_cell hg11 (b := b9) (o := 0) (v := .int .i64 t0) ((bm.cell (p := ⟨b9, 0, none⟩) (by dsimp only; omega)).trans c10_w10) (fun h => by have := ltY3 _ h; omega)
          have c11_w11 := grown_cell hg11 (b := b9) (o := 1) (v := .slice D5 m d5) ((bm.cell (p := ⟨b9, 1, none⟩) (by dsimp only; omega)).trans c11_w10) (fun h => by have := ltY3 _ h; omega)
          have s0_w11 : w.heap.size < w11.heap.size := Nat.lt_of_lt_of_le s0_w10 (Nat.le_trans bm.size hg11.size)
          have s1_w11 : w.heap.size + 1 < w11.heap.size := Nat.lt_of_lt_of_le s1_w10 (Nat.le_trans bm.size hg11.size)
          have s2_w11 : b6 < w11.heap.size := Nat.lt_of_lt_of_le s2_w10 (Nat.le_trans bm.size hg11.size)
          have s3_w11 : b8 < w11.heap.size := Nat.lt_of_lt_of_le s3_w10 (Nat.le_trans bm.size hg11.size)
          have s4_w11 : b9 < w11.heap.size := Nat.lt_of_lt_of_le s4_w10 (Nat.le_trans bm.size hg11.size)
          have B_w11 : Below w.heap.size w w11 := (B_w10.trans (bm.mono B_w10.size)).grown hg11 (Nat.le_trans B_w10.size bm.size) (fun q hq => by have := ltY q hq; omega)
          have oD_w11 := Lib.hid ((own_below oD_w10.out bm).kept hg11 (own_off ltD ltY))
          have oY_w11 := Lib.hid oY
          clear bm hg11 HMK oY
          clear c0_w10 c1_w10 c2_w10 c3_w10 c4_w10 c5_w10 c6_w10 c7_w10 c8_w10 c9_w10 c10_w10 c11_w10 s0_w10 s1_w10 s2_w10 s3_w10 s4_w10 oD_w10 oY_w10 
          have hhd := fun (W : World) h => heldSimple_any t0 D5 m d5 1 W (by omega) h
          rw [show ((1 : Nat) : Int) = 1 from rfl] at hhd
          unfold grV at hhd
          have HHD := Lib.hid hhd
          clear hhd
          go_wp2_with fail
          refine (HHD.out _ (own_row4 oY_w11.out)).mono ?_
          rintro e w12 ⟨rfl, b12⟩
          have c0_w12 : w12.cell? ⟨w.heap.size, 0, none⟩ = some (.int .i64 n) := (b12.cell (p := ⟨w.heap.size, 0, none⟩) (by dsimp only; omega)).trans c0_w11
          have c1_w12 : w12.cell? ⟨w.heap.size, 1, none⟩ = some (.slice A k c) := (b12.cell (p := ⟨w.heap.size, 1, none⟩) (by dsimp only; omega)).trans c1_w11
          have c2_w12 : w12.cell? ⟨w.heap.size + 1, 0, none⟩ = some (.int .i64 u) := (b12.cell (p := ⟨w.heap.size + 1, 0, none⟩) (by dsimp only; omega)).trans c2_w11
          have c3_w12 : w12.cell? ⟨w.heap.size + 1, 1, none⟩ = some (.int .i64 v) := (b12.cell (p := ⟨w.heap.size + 1, 1, none⟩) (by dsimp only; omega)).trans c3_w11
          have c4_w12 : w12.cell? ⟨w.heap.size + 1, 2, none⟩ = some (.int .i64 x) := (b12.cell (p := ⟨w.heap.size + 1, 2, none⟩) (by dsimp only; omega)).trans c4_w11
          have c5_w12 : w12.cell? ⟨w.heap.size + 1, 3, none⟩ = some (.int .i64 y) := (b12.cell (p := ⟨w.heap.size + 1, 3, none⟩) (by dsimp only; omega)).trans c5_w11
          have c6_w12 : w12.cell? ⟨b6, 0, none⟩ = some (.int .i64 t0) := (b12.cell (p := ⟨b6, 0, none⟩) (by dsimp only; omega)).trans c6_w11
          have c7_w12 : w12.cell? ⟨b6, 1, none⟩ = some (.slice D3 m d3) := (b12.cell (p := ⟨b6, 1, none⟩) (by dsimp only; omega)).trans c7_w11
          have c8_w12 : w12.cell? ⟨b8, 0, none⟩ = some (.int .i64 n) := (b12.cell (p := ⟨b8, 0, none⟩) (by dsimp only; omega)).trans c8_w11
          have c9_w12 : w12.cell? ⟨b8, 1, none⟩ = some (.slice A4 k c4) := (b12.cell (p := ⟨b8, 1, none⟩) (by dsimp only; omega)).trans c9_w11
          have c10_w12 : w12.cell? ⟨b9, 0, none⟩ = some (.int .i64 t0) := (b12.cell (p := ⟨b9, 0, none⟩) (by dsimp only; omega)).trans c10_w11
          have c11_w12 : w12.cell? ⟨b9, 1, none⟩ = some (.slice D5 m d5) := (b12.cell (p := ⟨b9, 1, none⟩) (by dsimp only; omega)).trans c11_w11
          have s0_w12 : w.heap.size < w12.heap.size := Nat.lt_of_lt_of_le s0_w11 b12.size
          have s1_w12 : w.heap.size + 1 < w12.heap.size := Nat.lt_of_lt_of_le s1_w11 b12.size
          have s2_w12 : b6 < w12.heap.size := Nat.lt_of_lt_of_le s2_w11 b12.size
          have s3_w12 : b8 < w12.heap.size := Nat.lt_of_lt_of_le s3_w11 b12.size
          have s4_w12 : b9 < w12.heap.size := Nat.lt_of_lt_of_le s4_w11 b12.size
          have B_w12 : Below w.heap.size w w12 := B_w11.trans (b12.mono B_w11.size)
          have oD_w12 := Lib.hid (own_below oD_w11.out b12)
          have oY_w12 := Lib.hid (own_below oY_w11.out b12)
          clear c0_w11 c1_w11 c2_w11 c3_w11 c4_w11 c5_w11 c6_w11 c7_w11 c8_w11 c9_w11 c10_w11 c11_w11 s0_w11 s1_w11 s2_w11 s3_w11 s4_w11 oD_w11 oY_w11 b12
          go_wp2_with fail
          go_cut [14, 15] from 79 to 86 (fun p b wc => ∃ (B : Nat) (D : Option Addr) (cd : Nat), p = Value.pointer (some ⟨B, 0, none⟩) ∧ b = Value.bool ok ∧ w12.heap.size ≤ B ∧ B < wc.heap.size ∧ wc.cell? ⟨B, 0, none⟩ = some (.int .i64 t0) ∧ wc.cell? ⟨B, 1, none⟩ = some (.slice D m cd) ∧ wc.ownsRow w12.heap.size 42 4 (.slice D m cd) m (cellsL ts) ∧ (∀ q, (Value.slice D m cd).ownBlock = some q → q < wc.heap.size ∧ q ≠ B) ∧ Below w12.heap.size w12 wc)
          case first =>
            go_region_held3 (fun W => W.cell? ⟨w.heap.size, 0, none⟩ = some (.int .i64 n) ∧ W.cell? ⟨w.heap.size, 1, none⟩ = some (.slice A k c) ∧ W.cell? ⟨w.heap.size + 1, 0, none⟩ = some (.int .i64 u) ∧ W.cell? ⟨w.heap.size + 1, 1, none⟩ = some (.int .i64 v) ∧ W.cell? ⟨w.heap.size + 1, 2, none⟩ = some (.int .i64 x) ∧ W.cell? ⟨w.heap.size + 1, 3, none⟩ = some (.int .i64 y) ∧ W.cell? ⟨b6, 0, none⟩ = some (.int .i64 t0) ∧ W.cell? ⟨b6, 1, none⟩ = some (.slice D3 m d3) ∧ W.cell? ⟨b8, 0, none⟩ = some (.int .i64 n) ∧ W.cell? ⟨b8, 1, none⟩ = some (.slice A4 k c4) ∧ W.cell? ⟨b9, 0, none⟩ = some (.int .i64 t0) ∧ W.cell? ⟨b9, 1, none⟩ = some (.slice D5 m d5)) (first | (go_keep; done) | ((try dsimp only); refine ⟨?_, ?_, ?_, ?_, ?_, ?_, ?_, ?_, ?_, ?_, ?_, ?_⟩ <;> first | assumption | ((repeat (refine cell_off ?_ (by omega))); assumption) | (go_keep; done) | go_simp | (trace_state; fail))) (first | (go_at_call 29; refine (HTO.out _ (HR.out.below (by repeat (first | exact Below.refl _ _ | refine below_step (by assumption) (by first | omega | (simp; done) | (simp; omega)) ?_ | refine below_drewN ?_ _ | refine Below.drew ?_ | refine Below.setCell ?_ (by first | omega | (simp; done) | (simp; omega)) _ | refine Below.alloc ?_ (by first | omega | (simp; done) | (simp; omega)) _)))).mono ?_; rintro e x2 ⟨A2, c2, rfl, h2, y2⟩; have c0_x2 : x2.cell? ⟨w.heap.size, 0, none⟩ = some (.int .i64 n) := (y2.cell (p := ⟨w.heap.size, 0, none⟩) (by first | omega | (simp; done) | (simp; omega))).trans (by first | assumption | go_simp); have c1_x2 : x2.cell? ⟨w.heap.size, 1, none⟩ = some (.slice A k c) := (y2.cell (p := ⟨w.heap.size, 1, none⟩) (by first | omega | (simp; done) | (simp; omega))).trans (by first | assumption | go_simp); have c2_x2 : x2.cell? ⟨w.heap.size + 1, 0, none⟩ = some (.int .i64 u) := (y2.cell (p := ⟨w.heap.size + 1, 0, none⟩) (by first | omega | (simp; done) | (simp; omega))).trans (by first | assumption | go_simp); have c3_x2 : x2.cell? ⟨w.heap.size + 1, 1, none⟩ = some (.int .i64 v) := (y2.cell (p := ⟨w.heap.size + 1, 1, none⟩) (by first | omega | (simp; done) | (simp; omega))).trans (by first | assumption | go_simp); have c4_x2 : x2.cell? ⟨w.heap.size + 1, 2, none⟩ = some (.int .i64 x) := (y2.cell (p := ⟨w.heap.size + 1, 2, none⟩) (by first | omega | (simp; done) | (simp; omega))).trans (by first | assumption | go_simp); have c5_x2 : x2.cell? ⟨w.heap.size + 1, 3, none⟩ = some (.int .i64 y) := (y2.cell (p := ⟨w.heap.size + 1, 3, none⟩) (by first | omega | (simp; done) | (simp; omega))).trans (by first | assumption | go_simp); have c6_x2 : x2.cell? ⟨b6, 0, none⟩ = some (.int .i64 t0) := (y2.cell (p := ⟨b6, 0, none⟩) (by first | omega | (simp; done) | (simp; omega))).trans (by first | assumption | go_simp); have c7_x2 : x2.cell? ⟨b6, 1, none⟩ = some (.slice D3 m d3) := (y2.cell (p := ⟨b6, 1, none⟩) (by first | omega | (simp; done) | (simp; omega))).trans (by first | assumption | go_simp); have c8_x2 : x2.cell? ⟨b8, 0, none⟩ = some (.int .i64 n) := (y2.cell (p := ⟨b8, 0, none⟩) (by first | omega | (simp; done) | (simp; omega))).trans (by first | assumption | go_simp); have c9_x2 : x2.cell? ⟨b8, 1, none⟩ = some (.slice A4 k c4) := (y2.cell (p := ⟨b8, 1, none⟩) (by first | omega | (simp; done) | (simp; omega))).trans (by first | assumption | go_simp); have c10_x2 : x2.cell? ⟨b9, 0, none⟩ = some (.int .i64 t0) := (y2.cell (p := ⟨b9, 0, none⟩) (by first | omega | (simp; done) | (simp; omega))).trans (by first | assumption | go_simp); have c11_x2 : x2.cell? ⟨b9, 1, none⟩ = some (.slice D5 m d5) := (y2.cell (p := ⟨b9, 1, none⟩) (by first | omega | (simp; done) | (simp; omega))).trans (by first | assumption | go_simp); have s0_x2 : w.heap.size < x2.heap.size := Nat.lt_of_lt_of_le (by first | omega | (simp; done) | (simp; omega)) y2.size; have s1_x2 : w.heap.size + 1 < x2.heap.size := Nat.lt_of_lt_of_le (by first | omega | (simp; done) | (simp; omega)) y2.size; have s2_x2 : b6 < x2.heap.size := Nat.lt_of_lt_of_le (by first | omega | (simp; done) | (simp; omega)) y2.size; have s3_x2 : b8 < x2.heap.size := Nat.lt_of_lt_of_le (by first | omega | (simp; done) | (simp; omega)) y2.size; have s4_x2 : b9 < x2.heap.size := Nat.lt_of_lt_of_le (by first | omega | (simp; done) | (simp; omega)) y2.size; have qy2 := y2.size; (try simp at qy2); (try (refine cut2 (p := x2.cell? ⟨w12.heap.size, 0, none⟩ = some (.int .i64 0)) ?_ ?_; refine (y2.cell (p := ⟨w12.heap.size, 0, none⟩) ?_).trans ?_; (focus (first | omega | (simp; done) | (simp; omega))); (focus (first | assumption | exact cell_new _ _ _ _ _ rfl | exact cell_new w12 _ _ _ _ rfl | (go_simp; done))); intro uu)); (try (refine cut2 (p := x2.frozen? ⟨w12.heap.size, 0, none⟩ = false) ?_ ?_; refine (y2.frozen (p := ⟨w12.heap.size, 0, none⟩) ?_).trans ?_; (focus (first | omega | (simp; done) | (simp; omega))); (focus (first | assumption | exact frozen_new _ _ _ _ | exact frozen_new w12 _ _ _ | (go_simp; done))); intro uu)); (try (refine cut2 (p := x2.cell? ⟨w12.heap.size, 1, none⟩ = some (.slice none 0 0)) ?_ ?_; refine (y2.cell (p := ⟨w12.heap.size, 1, none⟩) ?_).trans ?_; (focus (first | omega | (simp; done) | (simp; omega))); (focus (first | assumption | exact cell_new _ _ _ _ _ rfl | exact cell_new w12 _ _ _ _ rfl | (go_simp; done))); intro uu)); (try (refine cut2 (p := x2.frozen? ⟨w12.heap.size, 1, none⟩ = false) ?_ ?_; refine (y2.frozen (p := ⟨w12.heap.size, 1, none⟩) ?_).trans ?_; (focus (first | omega | (simp; done) | (simp; omega))); (focus (first | assumption | exact frozen_new _ _ _ _ | exact frozen_new w12 _ _ _ | (go_simp; done))); intro uu)); have R2 : LinkAt x2 A2 es := own_link h2) | (go_at_call 50; refine (HTE.out _).mono ?_; rintro e x3 ⟨rfl, y3⟩; have c0_x3 : x3.cell? ⟨w.heap.size, 0, none⟩ = some (.int .i64 n) := (y3.cell (p := ⟨w.heap.size, 0, none⟩) (by first | omega | (simp; done) | (simp; omega))).trans (by first | assumption | go_simp); have c1_x3 : x3.cell? ⟨w.heap.size, 1, none⟩ = some (.slice A k c) := (y3.cell (p := ⟨w.heap.size, 1, none⟩) (by first | omega | (simp; done) | (simp; omega))).trans (by first | assumption | go_simp); have c2_x3 : x3.cell? ⟨w.heap.size + 1, 0, none⟩ = some (.int .i64 u) := (y3.cell (p := ⟨w.heap.size + 1, 0, none⟩) (by first | omega | (simp; done) | (simp; omega))).trans (by first | assumption | go_simp); have c3_x3 : x3.cell? ⟨w.heap.size + 1, 1, none⟩ = some (.int .i64 v) := (y3.cell (p := ⟨w.heap.size + 1, 1, none⟩) (by first | omega | (simp; done) | (simp; omega))).trans (by first | assumption | go_simp); have c4_x3 : x3.cell? ⟨w.heap.size + 1, 2, none⟩ = some (.int .i64 x) := (y3.cell (p := ⟨w.heap.size + 1, 2, none⟩) (by first | omega | (simp; done) | (simp; omega))).trans (by first | assumption | go_simp); have c5_x3 : x3.cell? ⟨w.heap.size + 1, 3, none⟩ = some (.int .i64 y) := (y3.cell (p := ⟨w.heap.size + 1, 3, none⟩) (by first | omega | (simp; done) | (simp; omega))).trans (by first | assumption | go_simp); have c6_x3 : x3.cell? ⟨b6, 0, none⟩ = some (.int .i64 t0) := (y3.cell (p := ⟨b6, 0, none⟩) (by first | omega | (simp; done) | (simp; omega))).trans (by first | assumption | go_simp); have c7_x3 : x3.cell? ⟨b6, 1, none⟩ = some (.slice D3 m d3) := (y3.cell (p := ⟨b6, 1, none⟩) (by first | omega | (simp; done) | (simp; omega))).trans (by first | assumption | go_simp); have c8_x3 : x3.cell? ⟨b8, 0, none⟩ = some (.int .i64 n) := (y3.cell (p := ⟨b8, 0, none⟩) (by first | omega | (simp; done) | (simp; omega))).trans (by first | assumption | go_simp); have c9_x3 : x3.cell? ⟨b8, 1, none⟩ = some (.slice A4 k c4) := (y3.cell (p := ⟨b8, 1, none⟩) (by first | omega | (simp; done) | (simp; omega))).trans (by first | assumption | go_simp); have c10_x3 : x3.cell? ⟨b9, 0, none⟩ = some (.int .i64 t0) := (y3.cell (p := ⟨b9, 0, none⟩) (by first | omega | (simp; done) | (simp; omega))).trans (by first | assumption | go_simp); have c11_x3 : x3.cell? ⟨b9, 1, none⟩ = some (.slice D5 m d5) := (y3.cell (p := ⟨b9, 1, none⟩) (by first | omega | (simp; done) | (simp; omega))).trans (by first | assumption | go_simp); have s0_x3 : w.heap.size < x3.heap.size := Nat.lt_of_lt_of_le (by first | omega | (simp; done) | (simp; omega)) y3.size; have s1_x3 : w.heap.size + 1 < x3.heap.size := Nat.lt_of_lt_of_le (by first | omega | (simp; done) | (simp; omega)) y3.size; have s2_x3 : b6 < x3.heap.size := Nat.lt_of_lt_of_le (by first | omega | (simp; done) | (simp; omega)) y3.size; have s3_x3 : b8 < x3.heap.size := Nat.lt_of_lt_of_le (by first | omega | (simp; done) | (simp; omega)) y3.size; have s4_x3 : b9 < x3.heap.size := Nat.lt_of_lt_of_le (by first | omega | (simp; done) | (simp; omega)) y3.size; have qy3 := y3.size; (try simp at qy3); (try (refine cut2 (p := x3.cell? ⟨w12.heap.size, 0, none⟩ = some (.int .i64 0)) ?_ ?_; refine (y3.cell (p := ⟨w12.heap.size, 0, none⟩) ?_).trans ?_; (focus (first | omega | (simp; done) | (simp; omega))); (focus (first | assumption | exact cell_new _ _ _ _ _ rfl | exact cell_new w12 _ _ _ _ rfl | (go_simp; done))); intro uu)); (try (refine cut2 (p := x3.frozen? ⟨w12.heap.size, 0, none⟩ = false) ?_ ?_; refine (y3.frozen (p := ⟨w12.heap.size, 0, none⟩) ?_).trans ?_; (focus (first | omega | (simp; done) | (simp; omega))); (focus (first | assumption | exact frozen_new _ _ _ _ | exact frozen_new w12 _ _ _ | (go_simp; done))); intro uu)); (try (refine cut2 (p := x3.cell? ⟨w12.heap.size, 1, none⟩ = some (.slice none 0 0)) ?_ ?_; refine (y3.cell (p := ⟨w12.heap.size, 1, none⟩) ?_).trans ?_; (focus (first | omega | (simp; done) | (simp; omega))); (focus (first | assumption | exact cell_new _ _ _ _ _ rfl | exact cell_new w12 _ _ _ _ rfl | (go_simp; done))); intro uu)); (try (refine cut2 (p := x3.frozen? ⟨w12.heap.size, 1, none⟩ = false) ?_ ?_; refine (y3.frozen (p := ⟨w12.heap.size, 1, none⟩) ?_).trans ?_; (focus (first | omega | (simp; done) | (simp; omega))); (focus (first | assumption | exact frozen_new _ _ _ _ | exact frozen_new w12 _ _ _ | (go_simp; done))); intro uu)); (try (refine cut2 (p := x3.cell? ⟨x2.heap.size, 0, none⟩ = some (.int .i64 0)) ?_ ?_; refine (y3.cell (p := ⟨x2.heap.size, 0, none⟩) ?_).trans ?_; (focus (first | omega | (simp; done) | (simp; omega))); (focus (first | assumption | exact cell_new _ _ _ _ _ rfl | exact cell_new x2 _ _ _ _ rfl | (go_simp; done))); intro uu)); (try (refine cut2 (p := x3.frozen? ⟨x2.heap.size, 0, none⟩ = false) ?_ ?_; refine (y3.frozen (p := ⟨x2.heap.size, 0, none⟩) ?_).trans ?_; (focus (first | omega | (simp; done) | (simp; omega))); (focus (first | assumption | exact frozen_new _ _ _ _ | exact frozen_new x2 _ _ _ | (go_simp; done))); intro uu)); (try (refine cut2 (p := x3.cell? ⟨x2.heap.size, 1, none⟩ = some (.slice none 0 0)) ?_ ?_; refine (y3.cell (p := ⟨x2.heap.size, 1, none⟩) ?_).trans ?_; (focus (first | omega | (simp; done) | (simp; omega))); (focus (first | assumption | exact cell_new _ _ _ _ _ rfl | exact cell_new x2 _ _ _ _ rfl | (go_simp; done))); intro uu)); (try (refine cut2 (p := x3.frozen? ⟨x2.heap.size, 1, none⟩ = false) ?_ ?_; refine (y3.frozen (p := ⟨x2.heap.size, 1, none⟩) ?_).trans ?_; (focus (first | omega | (simp; done) | (simp; omega))); (focus (first | assumption | exact frozen_new _ _ _ _ | exact frozen_new x2 _ _ _ | (go_simp; done))); intro uu)); have R3 : LinkAt x3 A2 es := LinkAt.below (w := x2) R2 (by repeat (first | exact Below.refl _ _ | refine below_step (by assumption) (by first | omega | (simp; done) | (simp; omega)) ?_ | refine below_drewN ?_ _ | refine Below.drew ?_ | refine Below.setCell ?_ (by first | omega | (simp; done) | (simp; omega)) _ | refine Below.alloc ?_ (by first | omega | (simp; done) | (simp; omega)) _))) | (go_at_call 26; refine (HIM.out A2 c2 _ (LinkAt.below (w := x3) R3 (by repeat (first | exact Below.refl _ _ | refine below_step (by assumption) (by first | omega | (simp; done) | (simp; omega)) ?_ | refine below_drewN ?_ _ | refine Below.drew ?_ | refine Below.setCell ?_ (by first | omega | (simp; done) | (simp; omega)) _ | refine Below.alloc ?_ (by first | omega | (simp; done) | (simp; omega)) _)))).mono ?_; rintro e x4 ⟨D4, c4x, bs, rfl, hbs, h4, lt4, y4⟩; (try simp at hbs); have c0_x4 : x4.cell? ⟨w.heap.size, 0, none⟩ = some (.int .i64 n) := (y4.cell (p := ⟨w.heap.size, 0, none⟩) (by first | omega | (simp; done) | (simp; omega))).trans (by first | assumption | go_simp); have c1_x4 : x4.cell? ⟨w.heap.size, 1, none⟩ = some (.slice A k c) := (y4.cell (p := ⟨w.heap.size, 1, none⟩) (by first | omega | (simp; done) | (simp; omega))).trans (by first | assumption | go_simp); have c2_x4 : x4.cell? ⟨w.heap.size + 1, 0, none⟩ = some (.int .i64 u) := (y4.cell (p := ⟨w.heap.size + 1, 0, none⟩) (by first | omega | (simp; done) | (simp; omega))).trans (by first | assumption | go_simp); have c3_x4 : x4.cell? ⟨w.heap.size + 1, 1, none⟩ = some (.int .i64 v) := (y4.cell (p := ⟨w.heap.size + 1, 1, none⟩) (by first | omega | (simp; done) | (simp; omega))).trans (by first | assumption | go_simp); have c4_x4 : x4.cell? ⟨w.heap.size + 1, 2, none⟩ = some (.int .i64 x) := (y4.cell (p := ⟨w.heap.size + 1, 2, none⟩) (by first | omega | (simp; done) | (simp; omega))).trans (by first | assumption | go_simp); have c5_x4 : x4.cell? ⟨w.heap.size + 1, 3, none⟩ = some (.int .i64 y) := (y4.cell (p := ⟨w.heap.size + 1, 3, none⟩) (by first | omega | (simp; done) | (simp; omega))).trans (by first | assumption | go_simp); have c6_x4 : x4.cell? ⟨b6, 0, none⟩ = some (.int .i64 t0) := (y4.cell (p := ⟨b6, 0, none⟩) (by first | omega | (simp; done) | (simp; omega))).trans (by first | assumption | go_simp); have c7_x4 : x4.cell? ⟨b6, 1, none⟩ = some (.slice D3 m d3) := (y4.cell (p := ⟨b6, 1, none⟩) (by first | omega | (simp; done) | (simp; omega))).trans (by first | assumption | go_simp); have c8_x4 : x4.cell? ⟨b8, 0, none⟩ = some (.int .i64 n) := (y4.cell (p := ⟨b8, 0, none⟩) (by first | omega | (simp; done) | (simp; omega))).trans (by first | assumption | go_simp); have c9_x4 : x4.cell? ⟨b8, 1, none⟩ = some (.slice A4 k c4) := (y4.cell (p := ⟨b8, 1, none⟩) (by first | omega | (simp; done) | (simp; omega))).trans (by first | assumption | go_simp); have c10_x4 : x4.cell? ⟨b9, 0, none⟩ = some (.int .i64 t0) := (y4.cell (p := ⟨b9, 0, none⟩) (by first | omega | (simp; done) | (simp; omega))).trans (by first | assumption | go_simp); have c11_x4 : x4.cell? ⟨b9, 1, none⟩ = some (.slice D5 m d5) := (y4.cell (p := ⟨b9, 1, none⟩) (by first | omega | (simp; done) | (simp; omega))).trans (by first | assumption | go_simp); have s0_x4 : w.heap.size < x4.heap.size := Nat.lt_of_lt_of_le (by first | omega | (simp; done) | (simp; omega)) y4.size; have s1_x4 : w.heap.size + 1 < x4.heap.size := Nat.lt_of_lt_of_le (by first | omega | (simp; done) | (simp; omega)) y4.size; have s2_x4 : b6 < x4.heap.size := Nat.lt_of_lt_of_le (by first | omega | (simp; done) | (simp; omega)) y4.size; have s3_x4 : b8 < x4.heap.size := Nat.lt_of_lt_of_le (by first | omega | (simp; done) | (simp; omega)) y4.size; have s4_x4 : b9 < x4.heap.size := Nat.lt_of_lt_of_le (by first | omega | (simp; done) | (simp; omega)) y4.size; have qy4 := y4.size; (try simp at qy4); (try (refine cut2 (p := x4.cell? ⟨w12.heap.size, 0, none⟩ = some (.int .i64 0)) ?_ ?_; refine (y4.cell (p := ⟨w12.heap.size, 0, none⟩) ?_).trans ?_; (focus (first | omega | (simp; done) | (simp; omega))); (focus (first | assumption | exact cell_new _ _ _ _ _ rfl | exact cell_new w12 _ _ _ _ rfl | (go_simp; done))); intro uu)); (try (refine cut2 (p := x4.frozen? ⟨w12.heap.size, 0, none⟩ = false) ?_ ?_; refine (y4.frozen (p := ⟨w12.heap.size, 0, none⟩) ?_).trans ?_; (focus (first | omega | (simp; done) | (simp; omega))); (focus (first | assumption | exact frozen_new _ _ _ _ | exact frozen_new w12 _ _ _ | (go_simp; done))); intro uu)); (try (refine cut2 (p := x4.cell? ⟨w12.heap.size, 1, none⟩ = some (.slice none 0 0)) ?_ ?_; refine (y4.cell (p := ⟨w12.heap.size, 1, none⟩) ?_).trans ?_; (focus (first | omega | (simp; done) | (simp; omega))); (focus (first | assumption | exact cell_new _ _ _ _ _ rfl | exact cell_new w12 _ _ _ _ rfl | (go_simp; done))); intro uu)); (try (refine cut2 (p := x4.frozen? ⟨w12.heap.size, 1, none⟩ = false) ?_ ?_; refine (y4.frozen (p := ⟨w12.heap.size, 1, none⟩) ?_).trans ?_; (focus (first | omega | (simp; done) | (simp; omega))); (focus (first | assumption | exact frozen_new _ _ _ _ | exact frozen_new w12 _ _ _ | (go_simp; done))); intro uu)); (try (refine cut2 (p := x4.cell? ⟨x2.heap.size, 0, none⟩ = some (.int .i64 0)) ?_ ?_; refine (y4.cell (p := ⟨x2.heap.size, 0, none⟩) ?_).trans ?_; (focus (first | omega | (simp; done) | (simp; omega))); (focus (first | assumption | exact cell_new _ _ _ _ _ rfl | exact cell_new x2 _ _ _ _ rfl | (go_simp; done))); intro uu)); (try (refine cut2 (p := x4.frozen? ⟨x2.heap.size, 0, none⟩ = false) ?_ ?_; refine (y4.frozen (p := ⟨x2.heap.size, 0, none⟩) ?_).trans ?_; (focus (first | omega | (simp; done) | (simp; omega))); (focus (first | assumption | exact frozen_new _ _ _ _ | exact frozen_new x2 _ _ _ | (go_simp; done))); intro uu)); (try (refine cut2 (p := x4.cell? ⟨x2.heap.size, 1, none⟩ = some (.slice none 0 0)) ?_ ?_; refine (y4.cell (p := ⟨x2.heap.size, 1, none⟩) ?_).trans ?_; (focus (first | omega | (simp; done) | (simp; omega))); (focus (first | assumption | exact cell_new _ _ _ _ _ rfl | exact cell_new x2 _ _ _ _ rfl | (go_simp; done))); intro uu)); (try (refine cut2 (p := x4.frozen? ⟨x2.heap.size, 1, none⟩ = false) ?_ ?_; refine (y4.frozen (p := ⟨x2.heap.size, 1, none⟩) ?_).trans ?_; (focus (first | omega | (simp; done) | (simp; omega))); (focus (first | assumption | exact frozen_new _ _ _ _ | exact frozen_new x2 _ _ _ | (go_simp; done))); intro uu)); (try (refine cut2 (p := x4.cell? ⟨x3.heap.size, 0, none⟩ = some (.int .i64 0)) ?_ ?_; refine (y4.cell (p := ⟨x3.heap.size, 0, none⟩) ?_).trans ?_; (focus (first | omega | (simp; done) | (simp; omega))); (focus (first | assumption | exact cell_new _ _ _ _ _ rfl | exact cell_new x3 _ _ _ _ rfl | (go_simp; done))); intro uu)); (try (refine cut2 (p := x4.frozen? ⟨x3.heap.size, 0, none⟩ = false) ?_ ?_; refine (y4.frozen (p := ⟨x3.heap.size, 0, none⟩) ?_).trans ?_; (focus (first | omega | (simp; done) | (simp; omega))); (focus (first | assumption | exact frozen_new _ _ _ _ | exact frozen_new x3 _ _ _ | (go_simp; done))); intro uu)); (try (refine cut2 (p := x4.cell? ⟨x3.heap.size, 1, none⟩ = some (.slice none 0 0)) ?_ ?_; refine (y4.cell (p := ⟨x3.heap.size, 1, none⟩) ?_).trans ?_; (focus (first | omega | (simp; done) | (simp; omega))); (focus (first | assumption | exact cell_new _ _ _ _ _ rfl | exact cell_new x3 _ _ _ _ rfl | (go_simp; done))); intro uu)); (try (refine cut2 (p := x4.frozen? ⟨x3.heap.size, 1, none⟩ = false) ?_ ?_; refine (y4.frozen (p := ⟨x3.heap.size, 1, none⟩) ?_).trans ?_; (focus (first | omega | (simp; done) | (simp; omega))); (focus (first | assumption | exact frozen_new _ _ _ _ | exact frozen_new x3 _ _ _ | (go_simp; done))); intro uu))))
            all_goals go_wp2_with fail
            all_goals (go_meet; refine ⟨_, D4, c4x, rfl, rfl, ?_, ?_, ?_, ?_, ?_, ?_, ?_⟩)
            all_goals (first | assumption | omega | (simp; done) | (simp; omega) | (go_simp; done) | ((intro q hq; have := lt4 q hq; refine ⟨?_, ?_⟩ <;> first | omega | (simp; omega)); done) | ((first | exact own_base (own_below h4 ((Below.refl _ _).alloc (Nat.le_refl _) _)) (by omega) | exact own_base (own_set (own_set h4 _ _ (by dsimp only; omega)) _ _ (by dsimp only; omega)) (by omega)); done) | ((repeat (first | exact Below.refl _ _ | refine below_step (by assumption) (by first | omega | (simp; done) | (simp; omega)) ?_ | refine below_drewN ?_ _ | refine Below.drew ?_ | refine Below.setCell ?_ (by first | omega | (simp; done) | (simp; omega)) _ | refine Below.alloc ?_ (by first | omega | (simp; done) | (simp; omega)) _)); done))
          case rest =>
            obtain ⟨w14, hww⟩ : ∃ W, W = wc := ⟨_, rfl⟩
            rw [← hww] at hcut ⊢
            clear hww wc
            obtain ⟨b14, D14, d14, rfl, rfl, hlo, hhi, e0, e1, oR, ltR, bR⟩ := hcut
            have c0_w14 : w14.cell? ⟨w.heap.size, 0, none⟩ = some (.int .i64 n) := (bR.cell (p := ⟨w.heap.size, 0, none⟩) (by dsimp only; omega)).trans c0_w12
            have c1_w14 : w14.cell? ⟨w.heap.size, 1, none⟩ = some (.slice A k c) := (bR.cell (p := ⟨w.heap.size, 1, none⟩) (by dsimp only; omega)).trans c1_w12
            have c2_w14 : w14.cell? ⟨w.heap.size + 1, 0, none⟩ = some (.int .i64 u) := (bR.cell (p := ⟨w.heap.size + 1, 0, none⟩) (by dsimp only; omega)).trans c2_w12
            have c3_w14 : w14.cell? ⟨w.heap.size + 1, 1, none⟩ = some (.int .i64 v) := (bR.cell (p := ⟨w.heap.size + 1, 1, none⟩) (by dsimp only; omega)).trans c3_w12
            have c4_w14 : w14.cell? ⟨w.heap.size + 1, 2, none⟩ = some (.int .i64 x) := (bR.cell (p := ⟨w.heap.size + 1, 2, none⟩) (by dsimp only; omega)).trans c4_w12
            have c5_w14 : w14.cell? ⟨w.heap.size + 1, 3, none⟩ = some (.int .i64 y) := (bR.cell (p := ⟨w.heap.size + 1, 3, none⟩) (by dsimp only; omega)).trans c5_w12
            have c6_w14 : w14.cell? ⟨b6, 0, none⟩ = some (.int .i64 t0) := (bR.cell (p := ⟨b6, 0, none⟩) (by dsimp only; omega)).trans c6_w12
            have c7_w14 : w14.cell? ⟨b6, 1, none⟩ = some (.slice D3 m d3) := (bR.cell (p := ⟨b6, 1, none⟩) (by dsimp only; omega)).trans c7_w12
            have c8_w14 : w14.cell? ⟨b8, 0, none⟩ = some (.int .i64 n) := (bR.cell (p := ⟨b8, 0, none⟩) (by dsimp only; omega)).trans c8_w12
            have c9_w14 : w14.cell? ⟨b8, 1, none⟩ = some (.slice A4 k c4) := (bR.cell (p := ⟨b8, 1, none⟩) (by dsimp only; omega)).trans c9_w12
            have c10_w14 : w14.cell? ⟨b9, 0, none⟩ = some (.int .i64 t0) := (bR.cell (p := ⟨b9, 0, none⟩) (by dsimp only; omega)).trans c10_w12
            have c11_w14 : w14.cell? ⟨b9, 1, none⟩ = some (.slice D5 m d5) := (bR.cell (p := ⟨b9, 1, none⟩) (by dsimp only; omega)).trans c11_w12
            have s0_w14 : w.heap.size < w14.heap.size := Nat.lt_of_lt_of_le s0_w12 bR.size
            have s1_w14 : w.heap.size + 1 < w14.heap.size := Nat.lt_of_lt_of_le s1_w12 bR.size
            have s2_w14 : b6 < w14.heap.size := Nat.lt_of_lt_of_le s2_w12 bR.size
            have s3_w14 : b8 < w14.heap.size := Nat.lt_of_lt_of_le s3_w12 bR.size
            have s4_w14 : b9 < w14.heap.size := Nat.lt_of_lt_of_le s4_w12 bR.size
            have u_b14_0 : w.heap.size < b14 := by omega
            have u_b14_1 : w.heap.size + 1 < b14 := by omega
            have u_b14_2 : b6 < b14 := by omega
            have u_b14_3 : b8 < b14 := by omega
            have u_b14_4 : b9 < b14 := by omega
            have B_w14 : Below w.heap.size w w14 := B_w12.trans (bR.mono B_w12.size)
            have oD_w14 := Lib.hid (own_below oD_w12.out bR)
            have oY_w14 := Lib.hid (own_below oY_w12.out bR)
            have c12_w14 := e0
            have c13_w14 := e1
            have s5_w14 := hhi
            have oZ_w14 := Lib.hid oR
            have ltZ_ := ltR
            have loZ_ := oR.lt
            clear c0_w12 c1_w12 c2_w12 c3_w12 c4_w12 c5_w12 c6_w12 c7_w12 c8_w12 c9_w12 c10_w12 c11_w12 s0_w12 s1_w12 s2_w12 s3_w12 s4_w12 oD_w12 oY_w12 bR e0 e1 hhi oR ltR
            clear ltZ_ loZ_ hlo
            go_wp2_with fail
            refine (HEQ.out D14 D3 d14 d3 _ (own_link oZ_w14.out) (own_link oD_w14.out)).mono ?_
            rintro e w15 ⟨rfl, b15⟩
            have c0_w15 : w15.cell? ⟨w.heap.size, 0, none⟩ = some (.int .i64 n) := (b15.cell (p := ⟨w.heap.size, 0, none⟩) (by dsimp only; omega)).trans c0_w14
            have c1_w15 : w15.cell? ⟨w.heap.size, 1, none⟩ = some (.slice A k c) := (b15.cell (p := ⟨w.heap.size, 1, none⟩) (by dsimp only; omega)).trans c1_w14
            have c2_w15 : w15.cell? ⟨w.heap.size + 1, 0, none⟩ = some (.int .i64 u) := (b15.cell (p := ⟨w.heap.size + 1, 0, none⟩) (by dsimp only; omega)).trans c2_w14
            have c3_w15 : w15.cell? ⟨w.heap.size + 1, 1, none⟩ = some (.int .i64 v) := (b15.cell (p := ⟨w.heap.size + 1, 1, none⟩) (by dsimp only; omega)).trans c3_w14
            have c4_w15 : w15.cell? ⟨w.heap.size + 1, 2, none⟩ = some (.int .i64 x) := (b15.cell (p := ⟨w.heap.size + 1, 2, none⟩) (by dsimp only; omega)).trans c4_w14
            have c5_w15 : w15.cell? ⟨w.heap.size + 1, 3, none⟩ = some (.int .i64 y) := (b15.cell (p := ⟨w.heap.size + 1, 3, none⟩) (by dsimp only; omega)).trans c5_w14
            have c6_w15 : w15.cell? ⟨b6, 0, none⟩ = some (.int .i64 t0) := (b15.cell (p := ⟨b6, 0, none⟩) (by dsimp only; omega)).trans c6_w14
            have c7_w15 : w15.cell? ⟨b6, 1, none⟩ = some (.slice D3 m d3) := (b15.cell (p := ⟨b6, 1, none⟩) (by dsimp only; omega)).trans c7_w14
            have c8_w15 : w15.cell? ⟨b8, 0, none⟩ = some (.int .i64 n) := (b15.cell (p := ⟨b8, 0, none⟩) (by dsimp only; omega)).trans c8_w14
            have c9_w15 : w15.cell? ⟨b8, 1, none⟩ = some (.slice A4 k c4) := (b15.cell (p := ⟨b8, 1, none⟩) (by dsimp only; omega)).trans c9_w14
            have c10_w15 : w15.cell? ⟨b9, 0, none⟩ = some (.int .i64 t0) := (b15.cell (p := ⟨b9, 0, none⟩) (by dsimp only; omega)).trans c10_w14
            have c11_w15 : w15.cell? ⟨b9, 1, none⟩ = some (.slice D5 m d5) := (b15.cell (p := ⟨b9, 1, none⟩) (by dsimp only; omega)).trans c11_w14
            have c12_w15 : w15.cell? ⟨b14, 0, none⟩ = some (.int .i64 t0) := (b15.cell (p := ⟨b14, 0, none⟩) (by dsimp only; omega)).trans c12_w14
            have c13_w15 : w15.cell? ⟨b14, 1, none⟩ = some (.slice D14 m d14) := (b15.cell (p := ⟨b14, 1, none⟩) (by dsimp only; omega)).trans c13_w14
            have s0_w15 : w.heap.size < w15.heap.size := Nat.lt_of_lt_of_le s0_w14 b15.size
            have s1_w15 : w.heap.size + 1 < w15.heap.size := Nat.lt_of_lt_of_le s1_w14 b15.size
            have s2_w15 : b6 < w15.heap.size := Nat.lt_of_lt_of_le s2_w14 b15.size
            have s3_w15 : b8 < w15.heap.size := Nat.lt_of_lt_of_le s3_w14 b15.size
            have s4_w15 : b9 < w15.heap.size := Nat.lt_of_lt_of_le s4_w14 b15.size
            have s5_w15 : b14 < w15.heap.size := Nat.lt_of_lt_of_le s5_w14 b15.size
            have B_w15 : Below w.heap.size w w15 := B_w14.trans (b15.mono B_w14.size)
            have oD_w15 := Lib.hid (own_below oD_w14.out b15)
            have oY_w15 := Lib.hid (own_below oY_w14.out b15)
            have oZ_w15 := Lib.hid (own_below oZ_w14.out b15)
            clear c0_w14 c1_w14 c2_w14 c3_w14 c4_w14 c5_w14 c6_w14 c7_w14 c8_w14 c9_w14 c10_w14 c11_w14 c12_w14 c13_w14 s0_w14 s1_w14 s2_w14 s3_w14 s4_w14 s5_w14 oD_w14 oY_w14 oZ_w14 b15
            go_wp2_with fail
            refine (HHD.out _ (own_row4 oY_w15.out)).mono ?_
            rintro e w16 ⟨rfl, b16⟩
            have B_w16 : Below w.heap.size w w16 := B_w15.trans (b16.mono B_w15.size)
            go_wp2_with fail
            go_ret
            exact ⟨rfl, B_w16⟩
  · rw [if_neg h] at HZ
    go_enter Try.func14, Try.ntmps14
    unfold grV at HZ
    unfold grV
    go_wp2_with fail
    refine (HZ.out _).mono ?_
    rintro e w1 ⟨rfl, b1⟩
    go_wp2_with fail
    go_ret
    exact ⟨rfl, (by repeat (first | exact Below.refl _ _ | refine below_step (by assumption) (by first | omega | (simp; done) | (simp; omega)) ?_ | refine below_drewN ?_ _ | refine Below.drew ?_ | refine Below.setCell ?_ (by first | omega | (simp; done) | (simp; omega)) _ | refine Below.alloc ?_ (by first | omega | (simp; done) | (simp; omega)) _))⟩

/-! ### FnExactWithLink: the row -/

set_option maxRecDepth 100000 in
theorem FnExactWithLink_lifted (os : Os) (started : os.Started) (H : Type) (enc : TypeId × Value → H) :
    ReturnsInHanded {} Try.checked os 14 .any (Rows.fnExactWithLinkSpec.pre6 enc Try.prog Try.f14 Rows.fnExactWithLinkRow.domain false) (Rows.fnExactWithLinkSpec.post enc Try.prog Try.f14 false true false false) := by
  refine returnsInHanded_of_change (C := Try.checked) (by kernel_rfl) started (by kernel_rfl) Try.func14
    (ChangeSpec.witness6 (enc := enc) (C := Try.checked) false ⟨#[], #[.agg #[.int .i64 0, .slice none 0 0], .agg #[.int .i64 0, .int .i64 0, .int .i64 0, .int .i64 0]], []⟩ 8 (by kernel_rfl) (by kernel_rfl) (by kernel_rfl) (by kernel_rfl)) ?_
  intro W base args ds gs before hval0 hW hcnd _
  have hval : ∀ (j : Nat) t v, Try.f14.params[j]? = some t → args[j]? = some v → Value.okWide Try.prog W .any base t v := hval0
  have hW2 := hW
  obtain ⟨p, q, hA0, hV, hpq, hfz, hnd⟩ := hW2
  have hA : DataW.TrodAll enc Try.prog W 0 (fun _ => true) true Try.f14.params.toList args.toList ds p := hA0
  rw [Try.params14] at hA hval
  obtain ⟨v0, v1, d0, d1, p0, p1, hargs, hds, hp, h0, h1⟩ := trodAll_two hA
  obtain ⟨hgs, hq⟩ := trodVars_none hV
  subst hargs
  subst hds
  subst hgs
  obtain ⟨n0, A0, k0, c0, es0, rfl, wn0, hl0, hm0, hw0, hr0⟩ := open_simple (hval 0 47 v0 rfl rfl) h0
  obtain ⟨e1, rfl, _⟩ := open_link (hval 1 67 v1 rfl rfl) h1
  obtain ⟨a1, a2, a3, a4⟩ := e1
  unfold GL.val at *
  refine (FnExactWithLink_walk n0 es0 A0 k0 c0 a1 a2 a3 a4 W wn0 hl0 hm0 hw0 hr0).mono fun e W2 ⟨he, hb⟩ => ?_
  subst he
  exact ⟨_, rfl, law_post (by kernel_rfl) (by rw [Try.params14]; decide +kernel) (by kernel_rfl) Try.underlying4 rfl ⟨rfl, rfl, rfl⟩ hW hb⟩

theorem FnExactWithLink_holds : Rows.FnExactWithLinkSaid :=
  OpenClaim.holds_of_wide 14 Try.f14 rfl rfl rfl rfl rfl rfl rfl ⟨rfl, rfl, rfl, rfl, rfl⟩ rfl rfl rfl rfl rfl (by kernel_rfl) Try.func14 (by kernel_rfl)
    (of_decide_eq_true (by kernel_rfl)) (by unfold Func.isWrapper; first | (rw [if_pos (by decide +kernel)]; kernel_rfl) | (rw [if_neg (by decide +kernel)]; exact ⟨rfl, rfl⟩))
    (fun os started H enc _ => FnExactWithLink_lifted os started H enc)

end Go.Proofs.Ytnhdfnfiicioiaa

