/-
  GRAPHS: an edge as three cells, a slice of edges that is read, a graph that comes in.
-/
import Derived.Test.YtdjaiijgdflopaaProg
import Derived.Test.YtdjaiijgdflopaaMark
import Derived.Deep.Slices
import Derived.Deep.Strs
import Derived.ProofKit
import Derived.Lib.SmallJoins
import Derived.Lib.Hide
namespace Go.Proofs.Ytdjaiijgdflopaa
open Go.RowKit Go.ChangeShapes Go.WideShapes Go.ChangeAt Go.WideMaps Go.WideElems
set_option linter.unusedVariables false
set_option linter.unusedSimpArgs false

theorem below_step {w a b : World} (h : Below a.heap.size a b) (hs : w.heap.size ≤ a.heap.size) (h0 : Below w.heap.size w a) : Below w.heap.size w b := h0.trans (h.mono hs)

structure GE where
  u : Int
  v : Int
  c : Int
def GE.val (e : GE) : Value := .agg #[.int .i64 e.u, .int .i64 e.v, .int .i64 e.c]
def GE.cells (e : GE) : List Value := [.int .i64 e.u, .int .i64 e.v, .int .i64 e.c]
def GE.wf (e : GE) : Prop := (Lit.int .i64 e.u).wf = true ∧ (Lit.int .i64 e.v).wf = true ∧ (Lit.int .i64 e.c).wf = true
def cellsE (es : List GE) : List Value := es.flatMap GE.cells
def grV (n : Int) (A : Option Addr) (k c : Nat) : Value := .agg #[.int .i64 n, .slice A k c]

theorem cellsE_length (es : List GE) : (cellsE es).length = es.length * 3 := by
  induction es with
  | nil => rfl
  | cons e es ih => simp [cellsE, GE.cells] at ih ⊢; omega
theorem cellsE_append (a b : List GE) : cellsE (a ++ b) = cellsE a ++ cellsE b := by simp [cellsE]

/-- The slice at A holds the edges es, three cells each. -/
def EdgeAt (w : World) (A : Option Addr) (es : List GE) : Prop :=
  0 < es.length → ∃ g o, A = some ⟨g, o, none⟩ ∧ g < w.heap.size ∧ ∀ j (h : j < es.length),
    w.cell? ⟨g, o + j * 3, none⟩ = some (.int .i64 es[j].u) ∧ w.cell? ⟨g, o + j * 3 + 1, none⟩ = some (.int .i64 es[j].v) ∧ w.cell? ⟨g, o + j * 3 + 2, none⟩ = some (.int .i64 es[j].c)

theorem EdgeAt.below {w w' : World} {A : Option Addr} {es : List GE} (h : EdgeAt w A es) (hb : Below w.heap.size w w') : EdgeAt w' A es := by
  intro hx
  obtain ⟨g, o, hA, hg, hc⟩ := h hx
  have := hb.size
  exact ⟨g, o, hA, by omega, fun j hj => ⟨(hb.cell (p := ⟨g, o + j * 3, none⟩) hg).trans (hc j hj).1, (hb.cell (p := ⟨g, o + j * 3 + 1, none⟩) hg).trans (hc j hj).2.1, (hb.cell (p := ⟨g, o + j * 3 + 2, none⟩) hg).trans (hc j hj).2.2⟩⟩

theorem EdgeAt.of_heap {w w' : World} {A : Option Addr} {es : List GE} (h : EdgeAt w A es) (hb : w'.heap = w.heap) : EdgeAt w' A es := by
  intro hx
  obtain ⟨g, o, hA, hg, hc⟩ := h hx
  refine ⟨g, o, hA, by rw [hb]; exact hg, fun j hj => ⟨?_, ?_, ?_⟩⟩
  · exact (World.cell?_of_block (by rw [hb])).trans (hc j hj).1
  · exact (World.cell?_of_block (by rw [hb])).trans (hc j hj).2.1
  · exact (World.cell?_of_block (by rw [hb])).trans (hc j hj).2.2

theorem getE (es : List GE) : ∀ (j : Nat) (h : j < es.length), (cellsE es)[j * 3]? = some (.int .i64 es[j].u) ∧ (cellsE es)[j * 3 + 1]? = some (.int .i64 es[j].v) ∧ (cellsE es)[j * 3 + 2]? = some (.int .i64 es[j].c) := by
  induction es with
  | nil => intro j h; simp at h
  | cons e es ih =>
    intro j h
    have e1 : cellsE (e :: es) = .int .i64 e.u :: .int .i64 e.v :: .int .i64 e.c :: cellsE es := rfl
    match j with
    | 0 => simp [e1]
    | j + 1 =>
      have := ih j (by simpa using h)
      rw [show (j + 1) * 3 = j * 3 + 1 + 1 + 1 from by omega, e1]
      simpa using this

/-- An owned slice of edges is one that can be read. -/
theorem ownE_form {w : World} {B e n : Nat} {v : Value} {es : List GE} (h : w.ownsRow B e 3 v n (cellsE es)) : ∃ A c, v = .slice A n c ∧ es.length = n ∧ EdgeAt w A es := by
  have hl : es.length = n := by
    have := h.1
    rw [cellsE_length] at this
    omega
  rcases h.2 with ⟨rfl, hn⟩ | ⟨g, cap, cur, rfl, hB, hg, _, _, hs, ht⟩
  · subst hn
    exact ⟨none, 0, rfl, hl, fun hx => by omega⟩
  · refine ⟨some ⟨g, 0, none⟩, cap, rfl, hl, fun hx => ⟨g, 0, rfl, (Array.getElem?_eq_some_iff.1 hg).1, fun j hj => ?_⟩⟩
    have hc := getE es j hj
    have ha := h.cellAt
    rw [Nat.zero_add, ha (j * 3) (by omega), ha (j * 3 + 1) (by omega), ha (j * 3 + 2) (by omega)]
    exact hc

theorem cells_ledge : Try.prog.cellsOf 64 = 3 := by kernel_rfl
theorem cells_iedge : Try.prog.cellsOf 35 = 3 := by kernel_rfl
theorem cells_graph : Try.prog.cellsOf 57 = 2 := by kernel_rfl

theorem choose_edges {p : Nat → GE → Prop} : ∀ {n : Nat}, (∀ i, i < n → ∃ e, p i e) → ∃ es : List GE, es.length = n ∧ ∀ i (h : i < es.length), p i es[i] := by
  intro n
  induction n with
  | zero => exact fun _ => ⟨[], rfl, fun i h => by simp at h⟩
  | succ n ih =>
    intro hq
    obtain ⟨es, h1, h2⟩ := ih (fun i hi => hq i (by omega))
    obtain ⟨e, he⟩ := hq n (by omega)
    refine ⟨es ++ [e], by simp [h1], fun i hi => ?_⟩
    by_cases hlt : i < es.length
    · rw [List.getElem_append_left hlt]; exact h2 i hlt
    · have : i = es.length := by simp at hi; omega
      subst this
      simpa [h1] using he

/-- A slice of edges that comes in, nil or not. -/
theorem edges_in {H : Type} {enc : TypeId × Value → H} {W : World} {fuel n c : Nat} {A : Option Addr} {x : DataW H × List MemPlace}
    (hf : DataW.trod enc Try.prog W 0 (fun _ => true) true fuel 55 [Value.slice A n c] = some x) :
    ∃ es : List GE, es.length = n ∧ n ≤ maxLen ∧ (∀ e ∈ es, e.wf) ∧ EdgeAt W A es := by
  rcases Deep.open_slice Try.underlying55 hf with ⟨hcs, _⟩ | ⟨a, len, cap, m, k, D, Pl, hcs, _, hl, hm, hmm, rfl, hx⟩
  · simp at hcs
    obtain ⟨rfl, rfl, rfl⟩ := hcs
    exact ⟨[], rfl, Nat.zero_le _, by simp, fun h => by simp at h⟩
  · simp at hcs
    obtain ⟨rfl, rfl, rfl⟩ := hcs
    simp at hmm
    subst hmm
    have each : ∀ i, i < n → ∃ e : GE, e.wf ∧ W.cell? (a.add (i * 3)) = some (.int .i64 e.u) ∧ W.cell? (a.add (i * 3 + 1)) = some (.int .i64 e.v) ∧ W.cell? (a.add (i * 3 + 2)) = some (.int .i64 e.c) := by
      intro i hi
      obtain ⟨cs', h1, h2⟩ := hx i (by omega)
      rw [cells_ledge] at h1
      obtain ⟨_, hlen, hcell⟩ := World.cells?_some h1
      match cs', hlen with
      | [c0, c1, c2], _ =>
        obtain ⟨y0, y1, y2, q, _, _, g0, g1, g2⟩ := Deep.trod_struct3 Try.underlying64 h2
        have ci : Try.prog.cellsOf 3 = 1 := by kernel_rfl
        simp [ci] at g0 g1 g2
        obtain ⟨z0, e0, _, w0⟩ := DataW.trod_int Try.underlying3 g0
        obtain ⟨z1, e1, _, w1⟩ := DataW.trod_int Try.underlying3 g1
        obtain ⟨z2, e2, _, w2⟩ := DataW.trod_int Try.underlying3 g2
        simp at e0 e1 e2
        subst e0 e1 e2
        have k0 := hcell 0 (by omega)
        have k1 := hcell 1 (by omega)
        have k2 := hcell 2 (by omega)
        rw [Deep.add_add] at k0 k1 k2
        exact ⟨⟨z0, z1, z2⟩, ⟨w0, w1, w2⟩, by simpa using k0, by simpa using k1, by simpa using k2⟩
    obtain ⟨es, he, hp⟩ := choose_edges each
    refine ⟨es, he, by omega, ?_, fun hpos => ?_⟩
    · intro e hm
      obtain ⟨i, hi, rfl⟩ := List.getElem_of_mem hm
      exact (hp i hi).1
    · obtain ⟨b, off, spot⟩ := a
      have h0 := (hp 0 hpos).2.1
      have hspot : spot = none := by simpa [Addr.add] using World.cell?_spot h0
      subst hspot
      refine ⟨b, off, rfl, ?_, fun j hj => ?_⟩
      · rcases Nat.lt_or_ge b W.heap.size with hlt | hge
        · exact hlt
        · have : W.heap[b]? = none := Array.getElem?_eq_none hge
          simp [Addr.add, World.cell?, this] at h0
      · have h := (hp j hj).2
        rw [add_plain, add_plain, add_plain] at h
        exact h

set_option maxRecDepth 100000 in
/-- A graph that comes in. -/
theorem open_graph {H : Type} {enc : TypeId × Value → H} {W : World} {r : Reach} {b : Nat} {v : Value} {d : DataW H} {p : List MemPlace}
    (hv : Value.okWide Try.prog W r b 57 v) (h : DataW.Trod enc Try.prog W 0 (fun _ => true) true 57 v d p) :
    ∃ (n : Int) (A : Option Addr) (k c : Nat) (es : List GE), v = grV n A k c ∧ (Lit.int .i64 n).wf = true ∧ es.length = k ∧ k ≤ maxLen ∧ (∀ e ∈ es, e.wf) ∧ EdgeAt W A es := by
  obtain ⟨c0, c1, y0, y1, m, rfl, rfl, rfl, hy0, hy1⟩ := Go.Joins.open_agg2 Try.underlying57 (by kernel_rfl) cells_graph hv h
  obtain ⟨a, e0, hx0, wa⟩ := DataW.trod_int Try.underlying3 hy0
  simp at e0
  subst e0
  have hsl : ∃ A k c, c1 = .slice A k c := by
    rcases Deep.open_slice Try.underlying55 hy1 with ⟨hcs, _⟩ | ⟨a, len, cap, m, k, D, Pl, hcs, _⟩
    · simp at hcs; exact ⟨_, _, _, hcs⟩
    · simp at hcs; exact ⟨_, _, _, hcs⟩
  obtain ⟨A, k, c, rfl⟩ := hsl
  obtain ⟨es, h1, h2, h3, h4⟩ := edges_in hy1
  exact ⟨a, A, k, c, es, rfl, wa, h1, h2, h3, h4⟩

end Go.Proofs.Ytdjaiijgdflopaa
