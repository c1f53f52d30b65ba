/-
  SHOWS: a node as three cells with a label that is read, a tie as five cells, slices of both that are read, a show that comes in.
  SHOWS: memory of a show of its own: the nodes' row, the labels' rows, the ties' row, no two of them the same.
  PLAIN: the arithmetic of bounds and intervals.
  WALKS of the functions over intervals and bounds: spec's and impl's.
-/
import Derived.Test.YtgnehihnkkoneaaBdDig
import Derived.Lib.SmallJoins
import Derived.Test.YtgnehihnkkoneaaProg
import Derived.WalkKit
import Derived.WalkSpells
import Derived.WalkLawsBesides
import Derived.Deep.QuietTactic
import Derived.Deep.RegionWith
import Derived.Deep.RegionHeld3
import Derived.BigQuiet
import Derived.Lib.Hide
import Derived.Below
namespace Go.Proofs.Ytgnehihnkkoneaa
open Go.RowKit Go.ChangeShapes Go.WideShapes Go.ChangeAt Go.WideMaps Go.WideElems
set_option linter.unusedVariables false
set_option linter.unusedSimpArgs false

structure GN where
  name : ByteArray
  lab : List Int
  wat : Int
structure GT where
  u : Int
  v : Int
  lo : Int
  hi : Int
  fr : Bool
structure GS where
  ns : List GN
  ts : List GT
  h : Int
def GT.val (e : GT) : Value := .agg #[.int .i64 e.u, .int .i64 e.v, .int .i64 e.lo, .int .i64 e.hi, .bool e.fr]
def GT.cells (e : GT) : List Value := [.int .i64 e.u, .int .i64 e.v, .int .i64 e.lo, .int .i64 e.hi, .bool e.fr]
def GT.wf (e : GT) : Prop := (Lit.int .i64 e.u).wf = true ∧ (Lit.int .i64 e.v).wf = true ∧ (Lit.int .i64 e.lo).wf = true ∧ (Lit.int .i64 e.hi).wf = true
def GN.wf (e : GN) : Prop := e.name.size ≤ maxLen ∧ e.lab.length ≤ maxLen ∧ (∀ y ∈ e.lab, (Lit.int .i64 y).wf = true) ∧ (Lit.int .i64 e.wat).wf = true
def cellsT (es : List GT) : List Value := es.flatMap GT.cells
theorem cellsT_length (es : List GT) : (cellsT es).length = es.length * 5 := by
  induction es with
  | nil => rfl
  | cons e es ih => simp [cellsT, GT.cells] at ih ⊢; omega
theorem cellsT_append (a b : List GT) : cellsT (a ++ b) = cellsT a ++ cellsT b := by simp [cellsT]
def ndV (L : Option Addr) (c : Nat) (e : GN) : Value := .agg #[.string e.name, .slice L e.lab.length c, .int .i64 e.wat]
def shV (A : Option Addr) (k c : Nat) (B : Option Addr) (m d : Nat) (h : Int) : Value := .agg #[.slice A k c, .slice B m d, .int .i64 h]

/-- The slice at A holds the ties es, five cells each. -/
def TieAt (w : World) (A : Option Addr) (es : List GT) : Prop :=
  0 < es.length → ∃ g o, A = some ⟨g, o, none⟩ ∧ g < w.heap.size ∧ ∀ j (h : j < es.length),
    w.cell? ⟨g, o + j * 5, none⟩ = some (.int .i64 es[j].u) ∧ w.cell? ⟨g, o + j * 5 + 1, none⟩ = some (.int .i64 es[j].v) ∧ w.cell? ⟨g, o + j * 5 + 2, none⟩ = some (.int .i64 es[j].lo) ∧ w.cell? ⟨g, o + j * 5 + 3, none⟩ = some (.int .i64 es[j].hi) ∧ w.cell? ⟨g, o + j * 5 + 4, none⟩ = some (.bool es[j].fr)
theorem TieAt.below {w w' : World} {A : Option Addr} {es : List GT} (h : TieAt w A es) (hb : Below w.heap.size w w') : TieAt w' A es := by
  intro hx
  obtain ⟨g, o, hA, hg, hc⟩ := h hx
  have := hb.size
  exact ⟨g, o, hA, by omega, fun j hj => ⟨(hb.cell (p := ⟨g, o + j * 5, none⟩) hg).trans (hc j hj).1, (hb.cell (p := ⟨g, o + j * 5 + 1, none⟩) hg).trans (hc j hj).2.1, (hb.cell (p := ⟨g, o + j * 5 + 2, none⟩) hg).trans (hc j hj).2.2.1, (hb.cell (p := ⟨g, o + j * 5 + 3, none⟩) hg).trans (hc j hj).2.2.2.1, (hb.cell (p := ⟨g, o + j * 5 + 4, none⟩) hg).trans (hc j hj).2.2.2.2⟩⟩
theorem getT (es : List GT) : ∀ (j : Nat) (h : j < es.length), (cellsT es)[j * 5]? = some (.int .i64 es[j].u) ∧ (cellsT es)[j * 5 + 1]? = some (.int .i64 es[j].v) ∧ (cellsT es)[j * 5 + 2]? = some (.int .i64 es[j].lo) ∧ (cellsT es)[j * 5 + 3]? = some (.int .i64 es[j].hi) ∧ (cellsT es)[j * 5 + 4]? = some (.bool es[j].fr) := by
  induction es with
  | nil => intro j h; simp at h
  | cons e es ih =>
    intro j h
    have e1 : cellsT (e :: es) = .int .i64 e.u :: .int .i64 e.v :: .int .i64 e.lo :: .int .i64 e.hi :: .bool e.fr :: cellsT es := rfl
    match j with
    | 0 => simp [e1]
    | j + 1 =>
      have := ih j (by simpa using h)
      rw [show (j + 1) * 5 = j * 5 + 1 + 1 + 1 + 1 + 1 from by omega, e1]
      simpa using this
/-- An owned slice of ties is one that can be read. -/
theorem ownT_form {w : World} {B e n : Nat} {v : Value} {es : List GT} (h : w.ownsRow B e 5 v n (cellsT es)) : ∃ A c, v = .slice A n c ∧ es.length = n ∧ TieAt w A es := by
  have hl : es.length = n := by
    have := h.1
    rw [cellsT_length] at this
    omega
  rcases h.2 with ⟨rfl, hn⟩ | ⟨g, cap, cur, rfl, hB, hg, _, _, hs, ht⟩
  · subst hn
    exact ⟨none, 0, rfl, hl, fun hx => by omega⟩
  · refine ⟨some ⟨g, 0, none⟩, cap, rfl, hl, fun hx => ⟨g, 0, rfl, (Array.getElem?_eq_some_iff.1 hg).1, fun j hj => ?_⟩⟩
    have hc := getT es j hj
    have ha := h.cellAt
    rw [Nat.zero_add, ha (j * 5) (by omega), ha (j * 5 + 1) (by omega), ha (j * 5 + 2) (by omega), ha (j * 5 + 3) (by omega), ha (j * 5 + 4) (by omega)]
    exact hc

/-- The three cells of a node, its label where it is read. -/
def NodeAt (w : World) (g p : Nat) (e : GN) : Prop :=
  w.cell? ⟨g, p, none⟩ = some (.string e.name) ∧ w.cell? ⟨g, p + 2, none⟩ = some (.int .i64 e.wat) ∧ ∃ L c, w.cell? ⟨g, p + 1, none⟩ = some (.slice L e.lab.length c) ∧ RowAt w L (e.lab.map intV)
def NodesAt (w : World) (A : Option Addr) (ns : List GN) : Prop :=
  0 < ns.length → ∃ g o, A = some ⟨g, o, none⟩ ∧ g < w.heap.size ∧ ∀ j (h : j < ns.length), NodeAt w g (o + j * 3) ns[j]
theorem NodeAt.below {w w' : World} {g p : Nat} {e : GN} (h : NodeAt w g p e) (hg : g < w.heap.size) (hb : Below w.heap.size w w') : NodeAt w' g p e := by
  obtain ⟨h0, h2, L, c, h1, hr⟩ := h
  exact ⟨(hb.cell (p := ⟨g, p, none⟩) hg).trans h0, (hb.cell (p := ⟨g, p + 2, none⟩) hg).trans h2, L, c, (hb.cell (p := ⟨g, p + 1, none⟩) hg).trans h1, hr.below hb⟩
theorem NodesAt.below {w w' : World} {A : Option Addr} {ns : List GN} (h : NodesAt w A ns) (hb : Below w.heap.size w w') : NodesAt w' A ns := by
  intro hx
  obtain ⟨g, o, hA, hg, hc⟩ := h hx
  have := hb.size
  exact ⟨g, o, hA, by omega, fun j hj => (hc j hj).below hg hb⟩
structure ShowAt (w : World) (s : GS) (A : Option Addr) (k : Nat) (B : Option Addr) (m : Nat) : Prop where
  ln : s.ns.length = k
  lt : s.ts.length = m
  nodes : NodesAt w A s.ns
  ties : TieAt w B s.ts
theorem ShowAt.below {w w' : World} {s : GS} {A B : Option Addr} {k m : Nat} (h : ShowAt w s A k B m) (hb : Below w.heap.size w w') : ShowAt w' s A k B m :=
  ⟨h.ln, h.lt, h.nodes.below hb, h.ties.below hb⟩

theorem cells_lnode : Try.prog.cellsOf 24 = 3 := by kernel_rfl
theorem cells_ltie : Try.prog.cellsOf 80 = 5 := by kernel_rfl
theorem cells_lshow : Try.prog.cellsOf 34 = 3 := by kernel_rfl

theorem choose_all {T : Type} {p : Nat → T → Prop} : ∀ {n : Nat}, (∀ i, i < n → ∃ e, p i e) → ∃ es : List T, es.length = n ∧ ∀ i (h : i < es.length), p i es[i] := by
  intro n
  induction n with
  | zero => exact fun _ => ⟨[], rfl, fun i h => by simp at h⟩
  | succ n ih =>
    intro hq
    obtain ⟨es, h1, h2⟩ := ih (fun i hi => hq i (by omega))
    obtain ⟨e, he⟩ := hq n (by omega)
    refine ⟨es ++ [e], by simp [h1], fun i hi => ?_⟩
    by_cases hlt : i < es.length
    · rw [List.getElem_append_left hlt]; exact h2 i hlt
    · have : i = es.length := by simp at hi; omega
      subst this
      simpa [h1] using he

/-- The five fields of a tie's cells that are trodden. -/
theorem trod_tie {H : Type} {enc : TypeId × Value → H} {W : World} {base : Nat} {spare : Nat → Bool} {held : Bool} {fuel : Nat} {c0 c1 c2 c3 c4 : Value} {x : DataW H × List MemPlace}
    (h : DataW.trod enc Try.prog W base spare held fuel 80 [c0, c1, c2, c3, c4] = some x) :
    ∃ e : GT, e.wf ∧ c0 = .int .i64 e.u ∧ c1 = .int .i64 e.v ∧ c2 = .int .i64 e.lo ∧ c3 = .int .i64 e.hi ∧ c4 = .bool e.fr := by
  obtain ⟨xs, q, _, _, hl, hlen, hf⟩ := DataW.trod_struct Try.underlying80 h
  have ci : Try.prog.cellsOf 3 = 1 := by kernel_rfl
  have cb : Try.prog.cellsOf 4 = 1 := by kernel_rfl
  match xs, hlen with
  | [y0, y1, y2, y3, y4], _ =>
    have g0 := hf 0 _ rfl
    have g1 := hf 1 _ rfl
    have g2 := hf 2 _ rfl
    have g3 := hf 3 _ rfl
    have g4 := hf 4 _ rfl
    simp [ci, cb] at g0 g1 g2 g3 g4
    obtain ⟨z0, e0, _, w0⟩ := DataW.trod_int Try.underlying3 g0
    obtain ⟨z1, e1, _, w1⟩ := DataW.trod_int Try.underlying3 g1
    obtain ⟨z2, e2, _, w2⟩ := DataW.trod_int Try.underlying3 g2
    obtain ⟨z3, e3, _, w3⟩ := DataW.trod_int Try.underlying3 g3
    obtain ⟨z4, e4, _⟩ := DataW.trod_bool Try.underlying4 g4
    simp at e0 e1 e2 e3 e4
    subst e0 e1 e2 e3 e4
    exact ⟨⟨z0, z1, z2, z3, z4⟩, ⟨w0, w1, w2, w3⟩, rfl, rfl, rfl, rfl, rfl⟩
/-- The cells of a node that are trodden. -/
theorem trod_node {H : Type} {enc : TypeId × Value → H} {W : World} {fuel : Nat} {c0 c1 c2 : Value} {x : DataW H × List MemPlace}
    (h : DataW.trod enc Try.prog W 0 (fun _ => true) true fuel 24 [c0, c1, c2] = some x) :
    ∃ (e : GN) (L : Option Addr) (c : Nat), e.wf ∧ c0 = .string e.name ∧ c1 = .slice L e.lab.length c ∧ c2 = .int .i64 e.wat ∧ RowAt W L (e.lab.map intV) := by
  obtain ⟨y0, y1, y2, q, _, _, g0, g1, g2⟩ := Deep.trod_struct3 Try.underlying24 h
  have ci : Try.prog.cellsOf 3 = 1 := by kernel_rfl
  have cs : Try.prog.cellsOf 9 = 1 := by kernel_rfl
  have cl : Try.prog.cellsOf 22 = 1 := by kernel_rfl
  simp [ci, cs, cl] at g0 g1 g2
  obtain ⟨z0, e0, _, w0⟩ := DataW.trod_string Try.underlying9 g0
  obtain ⟨z2, e2, _, w2⟩ := DataW.trod_int Try.underlying3 g2
  have hsl : ∃ A k c, c1 = .slice A k c := by
    rcases Deep.open_slice Try.underlying22 g1 with ⟨hcs, _⟩ | ⟨a, len, cap, m, k, D, Pl, hcs, _⟩
    · simp at hcs; exact ⟨_, _, _, hcs⟩
    · simp at hcs; exact ⟨_, _, _, hcs⟩
  obtain ⟨L, k, c, rfl⟩ := hsl
  obtain ⟨zs, h1, h2, h3, h4⟩ := ints_in Try.underlying22 Try.underlying3 ci (by simpa [Value.cells] using g1)
  simp at e0 e2
  subst e0 e2 h1
  exact ⟨⟨z0, zs, z2⟩, L, c, ⟨w0, h2, h3, w2⟩, rfl, rfl, rfl, h4⟩

theorem spot_of {W : World} {b off : Nat} {v : Value} (h : W.cell? ⟨b, off, none⟩ = some v) : b < W.heap.size := by
  rcases Nat.lt_or_ge b W.heap.size with hlt | hge
  · exact hlt
  · have : W.heap[b]? = none := Array.getElem?_eq_none hge
    simp [World.cell?, this] at h

/-- A slice of ties that comes in, nil or not. -/
theorem ties_in {H : Type} {enc : TypeId × Value → H} {W : World} {fuel n c : Nat} {A : Option Addr} {x : DataW H × List MemPlace}
    (hf : DataW.trod enc Try.prog W 0 (fun _ => true) true fuel 32 [Value.slice A n c] = some x) :
    ∃ es : List GT, es.length = n ∧ n ≤ maxLen ∧ (∀ e ∈ es, e.wf) ∧ TieAt W A es := by
  rcases Deep.open_slice Try.underlying32 hf with ⟨hcs, _⟩ | ⟨a, len, cap, m, k, D, Pl, hcs, _, hl, hm, hmm, rfl, hx⟩
  · simp at hcs
    obtain ⟨rfl, rfl, rfl⟩ := hcs
    exact ⟨[], rfl, Nat.zero_le _, by simp, fun h => by simp at h⟩
  · simp at hcs
    obtain ⟨rfl, rfl, rfl⟩ := hcs
    simp at hmm
    subst hmm
    have each : ∀ i, i < n → ∃ e : GT, e.wf ∧ W.cell? (a.add (i * 5)) = some (.int .i64 e.u) ∧ W.cell? (a.add (i * 5 + 1)) = some (.int .i64 e.v) ∧ W.cell? (a.add (i * 5 + 2)) = some (.int .i64 e.lo) ∧ W.cell? (a.add (i * 5 + 3)) = some (.int .i64 e.hi) ∧ W.cell? (a.add (i * 5 + 4)) = some (.bool e.fr) := by
      intro i hi
      obtain ⟨cs', h1, h2⟩ := hx i (by omega)
      rw [cells_ltie] at h1
      obtain ⟨_, hlen, hcell⟩ := World.cells?_some h1
      match cs', hlen with
      | [c0, c1, c2, c3, c4], _ =>
        obtain ⟨e, hw, rfl, rfl, rfl, rfl, rfl⟩ := trod_tie h2
        have k0 := hcell 0 (by omega)
        have k1 := hcell 1 (by omega)
        have k2 := hcell 2 (by omega)
        have k3 := hcell 3 (by omega)
        have k4 := hcell 4 (by omega)
        rw [Deep.add_add] at k0 k1 k2 k3 k4
        exact ⟨e, hw, by simpa using k0, by simpa using k1, by simpa using k2, by simpa using k3, by simpa using k4⟩
    obtain ⟨es, he, hp⟩ := choose_all each
    refine ⟨es, he, by omega, ?_, fun hpos => ?_⟩
    · intro e hm
      obtain ⟨i, hi, rfl⟩ := List.getElem_of_mem hm
      exact (hp i hi).1
    · obtain ⟨b, off, spot⟩ := a
      have h0 := (hp 0 hpos).2.1
      have hspot : spot = none := by simpa [Addr.add] using World.cell?_spot h0
      subst hspot
      refine ⟨b, off, rfl, spot_of (by simpa [Addr.add] using h0), fun j hj => ?_⟩
      have h := (hp j hj).2
      rw [add_plain, add_plain, add_plain, add_plain, add_plain] at h
      exact h
/-- A slice of nodes that comes in, nil or not. -/
theorem nodes_in {H : Type} {enc : TypeId × Value → H} {W : World} {fuel n c : Nat} {A : Option Addr} {x : DataW H × List MemPlace}
    (hf : DataW.trod enc Try.prog W 0 (fun _ => true) true fuel 31 [Value.slice A n c] = some x) :
    ∃ es : List GN, es.length = n ∧ n ≤ maxLen ∧ (∀ e ∈ es, e.wf) ∧ NodesAt W A es := by
  rcases Deep.open_slice Try.underlying31 hf with ⟨hcs, _⟩ | ⟨a, len, cap, m, k, D, Pl, hcs, _, hl, hm, hmm, rfl, hx⟩
  · simp at hcs
    obtain ⟨rfl, rfl, rfl⟩ := hcs
    exact ⟨[], rfl, Nat.zero_le _, by simp, fun h => by simp at h⟩
  · simp at hcs
    obtain ⟨rfl, rfl, rfl⟩ := hcs
    simp at hmm
    subst hmm
    have each : ∀ i, i < n → ∃ e : GN, e.wf ∧ W.cell? (a.add (i * 3)) = some (.string e.name) ∧ W.cell? (a.add (i * 3 + 2)) = some (.int .i64 e.wat) ∧ ∃ L c, W.cell? (a.add (i * 3 + 1)) = some (.slice L e.lab.length c) ∧ RowAt W L (e.lab.map intV) := by
      intro i hi
      obtain ⟨cs', h1, h2⟩ := hx i (by omega)
      rw [cells_lnode] at h1
      obtain ⟨_, hlen, hcell⟩ := World.cells?_some h1
      match cs', hlen with
      | [c0, c1, c2], _ =>
        obtain ⟨e, L, c, hw, rfl, rfl, rfl, hr⟩ := trod_node h2
        have k0 := hcell 0 (by omega)
        have k1 := hcell 1 (by omega)
        have k2 := hcell 2 (by omega)
        rw [Deep.add_add] at k0 k1 k2
        exact ⟨e, hw, by simpa using k0, by simpa using k2, L, c, by simpa using k1, hr⟩
    obtain ⟨es, he, hp⟩ := choose_all each
    refine ⟨es, he, by omega, ?_, fun hpos => ?_⟩
    · intro e hm
      obtain ⟨i, hi, rfl⟩ := List.getElem_of_mem hm
      exact (hp i hi).1
    · obtain ⟨b, off, spot⟩ := a
      have h0 := (hp 0 hpos).2.1
      have hspot : spot = none := by simpa [Addr.add] using World.cell?_spot h0
      subst hspot
      refine ⟨b, off, rfl, spot_of (by simpa [Addr.add] using h0), fun j hj => ?_⟩
      obtain ⟨h1, h2, L, c, h3, h4⟩ := (hp j hj).2
      rw [add_plain] at h1 h2 h3
      exact ⟨h1, h2, L, c, h3, h4⟩

set_option maxRecDepth 100000 in
/-- A node that comes in. -/
theorem open_node {H : Type} {enc : TypeId × Value → H} {W : World} {r : Reach} {b : Nat} {v : Value} {d : DataW H} {p : List MemPlace}
    (hv : Value.okWide Try.prog W r b 24 v) (h : DataW.Trod enc Try.prog W 0 (fun _ => true) true 24 v d p) :
    ∃ (e : GN) (L : Option Addr) (c : Nat), v = ndV L c e ∧ e.wf ∧ RowAt W L (e.lab.map intV) := by
  obtain ⟨cs, rfl, hsz⟩ := okWide_struct Try.underlying24 hv
  rw [cells_lnode] at hsz
  obtain ⟨fuel, hf⟩ := h
  have hl : cs.toList.length = 3 := by simpa using hsz
  match hm : cs.toList, hl with
  | [c0, c1, c2], _ =>
    have hc : (Value.agg cs).cells.toList = [c0, c1, c2] := by simpa [Value.cells] using hm
    rw [hc] at hf
    obtain ⟨e, L, c, hw, rfl, rfl, rfl, hr⟩ := trod_node hf
    refine ⟨e, L, c, ?_, hw, hr⟩
    have : cs = #[.string e.name, .slice L e.lab.length c, .int .i64 e.wat] := by rw [← Array.toList_inj]; exact hm
    rw [this]; rfl

set_option maxRecDepth 100000 in
/-- A show that comes in. -/
theorem open_show {H : Type} {enc : TypeId × Value → H} {W : World} {r : Reach} {b : Nat} {v : Value} {d : DataW H} {p : List MemPlace}
    (hv : Value.okWide Try.prog W r b 34 v) (h : DataW.Trod enc Try.prog W 0 (fun _ => true) true 34 v d p) :
    ∃ (s : GS) (A : Option Addr) (k c : Nat) (B : Option Addr) (m d' : Nat), v = shV A k c B m d' s.h ∧ (Lit.int .i64 s.h).wf = true ∧ k ≤ maxLen ∧ m ≤ maxLen ∧ (∀ e ∈ s.ns, e.wf) ∧ (∀ e ∈ s.ts, e.wf) ∧ ShowAt W s A k B m := by
  obtain ⟨c0, c1, c2, y0, y1, y2, q, rfl, rfl, rfl, hy0, hy1, hy2⟩ := Go.Joins.open_agg3 Try.underlying34 (by kernel_rfl) cells_lshow hv h
  obtain ⟨a, e0, hx0, wa⟩ := DataW.trod_int Try.underlying3 hy2
  simp at e0
  subst e0
  have hs0 : ∃ A k c, c0 = .slice A k c := by
    rcases Deep.open_slice Try.underlying31 hy0 with ⟨hcs, _⟩ | ⟨a, len, cap, m, k, D, Pl, hcs, _⟩
    · simp at hcs; exact ⟨_, _, _, hcs⟩
    · simp at hcs; exact ⟨_, _, _, hcs⟩
  have hs1 : ∃ A k c, c1 = .slice A k c := by
    rcases Deep.open_slice Try.underlying32 hy1 with ⟨hcs, _⟩ | ⟨a, len, cap, m, k, D, Pl, hcs, _⟩
    · simp at hcs; exact ⟨_, _, _, hcs⟩
    · simp at hcs; exact ⟨_, _, _, hcs⟩
  obtain ⟨A, k, c, rfl⟩ := hs0
  obtain ⟨B, m, d', rfl⟩ := hs1
  obtain ⟨ns, h1, h2, h3, h4⟩ := nodes_in hy0
  obtain ⟨ts, g1, g2, g3, g4⟩ := ties_in hy1
  exact ⟨⟨ns, ts, a⟩, A, k, c, B, m, d', rfl, wa, h2, g2, h3, g3, ⟨h1, g1, h4, g4⟩⟩

end Go.Proofs.Ytgnehihnkkoneaa

namespace Go.Proofs.Ytgnehihnkkoneaa
open Go.RowKit
set_option linter.unusedVariables false
set_option linter.unusedSimpArgs false

def gN0 : GN := ⟨ByteArray.empty, [], 0⟩
/-- The lengths of the first labels, together. -/
def slJ (ns : List GN) : Nat → Nat
  | 0 => 0
  | j + 1 => slJ ns j + (ns[j]?.getD gN0).lab.length
theorem slJ_at (ns : List GN) {j : Nat} (h : j < ns.length) : slJ ns (j + 1) = slJ ns j + ns[j].lab.length := by
  conv => lhs; unfold slJ
  rw [List.getElem?_eq_getElem h]; rfl
/-- What the measure lets through. -/
structure ShB (s : GS) : Prop where
  ns : s.ns.length ≤ 1048576
  ts : s.ts.length ≤ 1048576
  each : ∀ e ∈ s.ns, e.name.size ≤ 1048576 ∧ e.lab.length ≤ 1048576
  sum : slJ s.ns s.ns.length ≤ 1048576
/-- A node with the place of its label. -/
structure NL where
  e : GN
  L : Option Addr
  c : Nat
def NL.V (z : NL) : Value := .slice z.L z.e.lab.length z.c
def NL.val (z : NL) : Value := ndV z.L z.c z.e
def NL.cells (z : NL) : List Value := [.string z.e.name, z.V, .int .i64 z.e.wat]
def cellsZ (zs : List NL) : List Value := zs.flatMap NL.cells
def nodesZ (zs : List NL) : List GN := zs.map NL.e
theorem cellsZ_length (zs : List NL) : (cellsZ zs).length = zs.length * 3 := by
  induction zs with
  | nil => rfl
  | cons e es ih => simp [cellsZ, NL.cells] at ih ⊢; omega
theorem cellsZ_append (a b : List NL) : cellsZ (a ++ b) = cellsZ a ++ cellsZ b := by simp [cellsZ]
theorem getZ (zs : List NL) : ∀ (j : Nat) (h : j < zs.length), (cellsZ zs)[j * 3]? = some (.string zs[j].e.name) ∧ (cellsZ zs)[j * 3 + 1]? = some zs[j].V ∧ (cellsZ zs)[j * 3 + 2]? = some (.int .i64 zs[j].e.wat) := by
  induction zs with
  | nil => intro j h; simp at h
  | cons e es ih =>
    intro j h
    have e1 : cellsZ (e :: es) = .string e.e.name :: e.V :: .int .i64 e.e.wat :: cellsZ es := rfl
    match j with
    | 0 => simp [e1]
    | j + 1 =>
      have := ih j (by simpa using h)
      rw [show (j + 1) * 3 = j * 3 + 1 + 1 + 1 from by omega, e1]
      simpa using this
theorem own_formZ {w : World} {B e s n : Nat} {v : Value} {xs : List Value} (h : w.ownsRow B e s v n xs) : ∃ A c, v = .slice A n c := by
  rcases h.2 with ⟨rfl, rfl⟩ | ⟨g, cap, cur, rfl, _⟩
  · exact ⟨_, _, rfl⟩
  · exact ⟨_, _, rfl⟩
theorem own_baseZ {w : World} {B B' e n s : Nat} {v : Value} {xs : List Value} (h : w.ownsRow B e s v n xs) (hb : B' ≤ B) : w.ownsRow B' e s v n xs := own_base h hb

/-- The nodes' memory: blocks from lo on and below hi. -/
structure OwnN (w : World) (lo hi : Nat) (v : Value) (zs : List NL) : Prop where
  row : w.ownsRow lo 27 3 v zs.length (cellsZ zs)
  lab : ∀ z ∈ zs, w.ownsRow lo 3 1 z.V z.e.lab.length (z.e.lab.map intV)
  sep : ∀ z ∈ zs, ∀ b, z.V.ownBlock = some b → v.ownBlock ≠ some b ∧ b < hi
  dist : zs.Pairwise (fun a b => ∀ q, a.V.ownBlock = some q → b.V.ownBlock ≠ some q)
  le : ∀ b, v.ownBlock = some b → b < hi
theorem OwnN.below {w w' : World} {lo hi : Nat} {v : Value} {zs : List NL} (h : OwnN w lo hi v zs) (hb : Below w.heap.size w w') : OwnN w' lo hi v zs :=
  ⟨own_below h.row hb, fun z hz => own_below (h.lab z hz) hb, h.sep, h.dist, h.le⟩
theorem OwnN.set {w : World} {lo hi : Nat} {v : Value} {zs : List NL} (h : OwnN w lo hi v zs) (p : Addr) (u : Value) (hp : p.block < lo) : OwnN (w.setCell p u) lo hi v zs :=
  ⟨own_set h.row _ _ hp, fun z hz => own_set (h.lab z hz) _ _ hp, h.sep, h.dist, h.le⟩
theorem OwnN.base {w : World} {lo lo' hi hi' : Nat} {v : Value} {zs : List NL} (h : OwnN w lo hi v zs) (hl : lo' ≤ lo) (hh : hi ≤ hi') : OwnN w lo' hi' v zs :=
  ⟨own_base h.row hl, fun z hz => own_base (h.lab z hz) hl, fun z hz b hb => ⟨(h.sep z hz b hb).1, by have := (h.sep z hz b hb).2; omega⟩, h.dist, fun b hb => by have := h.le b hb; omega⟩
theorem OwnN.at_ {w : World} {lo hi n c : Nat} {A : Option Addr} {zs : List NL} (h : OwnN w lo hi (.slice A n c) zs) : NodesAt w A (nodesZ zs) := by
  intro hx
  have hz : 0 < zs.length := by simpa [nodesZ] using hx
  obtain ⟨g, cap, hv, hg, hl⟩ := h.row.form hz
  injection hv with hv1 hv2 hv3
  subst hv1 hv2
  refine ⟨g, 0, rfl, hl, fun j hj => ?_⟩
  have hj2 : j < zs.length := by simpa [nodesZ] using hj
  obtain ⟨c0, c1, c2⟩ := getZ zs j hj2
  have ha := h.row.cellAt
  have hlab := own_row (h.lab zs[j] (List.getElem_mem _))
  have he : (nodesZ zs)[j] = zs[j].e := by simp [nodesZ]
  unfold NodeAt
  rw [he, Nat.zero_add]
  exact ⟨(ha (j * 3) (by omega)).trans c0, (ha (j * 3 + 2) (by omega)).trans c2, zs[j].L, zs[j].c, (ha (j * 3 + 1) (by omega)).trans c1, hlab⟩
/-- A show's memory. -/
structure OwnS (w : World) (lo hi : Nat) (s : GS) (A : Option Addr) (k c : Nat) (B : Option Addr) (m d : Nat) (zs : List NL) : Prop where
  es : nodesZ zs = s.ns
  ln : s.ns.length = k
  lt : s.ts.length = m
  nodes : OwnN w lo hi (.slice A k c) zs
  ties : w.ownsRow lo 73 5 (.slice B m d) m (cellsT s.ts)
  tsep : ∀ b, (Value.slice B m d).ownBlock = some b → (Value.slice A k c).ownBlock ≠ some b ∧ (∀ z ∈ zs, z.V.ownBlock ≠ some b) ∧ b < hi
theorem OwnS.below {w w' : World} {lo hi : Nat} {s : GS} {A B : Option Addr} {k c m d : Nat} {zs : List NL} (h : OwnS w lo hi s A k c B m d zs) (hb : Below w.heap.size w w') : OwnS w' lo hi s A k c B m d zs :=
  ⟨h.es, h.ln, h.lt, h.nodes.below hb, own_below h.ties hb, h.tsep⟩
theorem OwnS.set {w : World} {lo hi : Nat} {s : GS} {A B : Option Addr} {k c m d : Nat} {zs : List NL} (h : OwnS w lo hi s A k c B m d zs) (p : Addr) (u : Value) (hp : p.block < lo) : OwnS (w.setCell p u) lo hi s A k c B m d zs :=
  ⟨h.es, h.ln, h.lt, h.nodes.set p u hp, own_set h.ties _ _ hp, h.tsep⟩
theorem OwnS.base {w : World} {lo lo' hi hi' : Nat} {s : GS} {A B : Option Addr} {k c m d : Nat} {zs : List NL} (h : OwnS w lo hi s A k c B m d zs) (hl : lo' ≤ lo) (hh : hi ≤ hi') : OwnS w lo' hi' s A k c B m d zs :=
  ⟨h.es, h.ln, h.lt, h.nodes.base hl hh, own_base h.ties hl, fun b hb => ⟨(h.tsep b hb).1, (h.tsep b hb).2.1, by have := (h.tsep b hb).2.2; omega⟩⟩
theorem OwnS.at_ {w : World} {lo hi : Nat} {s : GS} {A B : Option Addr} {k c m d : Nat} {zs : List NL} (h : OwnS w lo hi s A k c B m d zs) : ShowAt w s A k B m := by
  obtain ⟨_, _, hv, _, ht⟩ := ownT_form h.ties
  injection hv with hv _ _
  subst hv
  refine ⟨h.ln, h.lt, ?_, ht⟩
  rw [← h.es]
  exact h.nodes.at_
/-- Nothing changes but in the blocks from lo on and below hi, and in new ones. -/
structure Within (lo hi : Nat) (w w' : World) : Prop where
  os : w'.os = w.os
  tape : w'.tape = w.tape
  output : w'.output = w.output
  size : w.heap.size ≤ w'.heap.size
  block : ∀ k, k < w.heap.size → (k < lo ∨ hi ≤ k) → w'.heap[k]? = w.heap[k]?
theorem Within.refl (lo hi : Nat) (w : World) : Within lo hi w w := ⟨rfl, rfl, rfl, Nat.le_refl _, fun _ _ _ => rfl⟩
theorem Within.trans {lo hi : Nat} {a b c : World} (h : Within lo hi a b) (g : Within lo hi b c) : Within lo hi a c :=
  ⟨g.os.trans h.os, g.tape.trans h.tape, g.output.trans h.output, Nat.le_trans h.size g.size, fun k hk hx => (g.block k (Nat.lt_of_lt_of_le hk h.size) hx).trans (h.block k hk hx)⟩
theorem Within.of_below {lo hi : Nat} {w w' : World} (h : Below w.heap.size w w') : Within lo hi w w' := ⟨h.os, h.tape, h.output, h.size, fun k hk _ => h.block k hk⟩
theorem Within.below {lo hi : Nat} {w w' : World} (h : Within lo hi w w') (hl : lo ≤ w.heap.size) : Below lo w w' := ⟨h.os, h.tape, h.output, h.size, fun k hk => h.block k (by omega) (.inl hk)⟩
theorem Within.grown {lo hi : Nat} {w w' : World} {row : Option Nat} (h : w.grownBy w' row) (hr : ∀ b, row = some b → lo ≤ b ∧ b < hi) : Within lo hi w w' :=
  ⟨h.os, h.tape, h.output, h.size, fun k hk hx => h.block k hk (fun e => by have := hr k e.symm; omega)⟩
/-- Nothing changes in the old blocks that P names. -/
structure Keep (P : Nat → Prop) (w w' : World) : Prop where
  os : w'.os = w.os
  tape : w'.tape = w.tape
  output : w'.output = w.output
  size : w.heap.size ≤ w'.heap.size
  block : ∀ k, k < w.heap.size → P k → w'.heap[k]? = w.heap[k]?
theorem Keep.refl (P : Nat → Prop) (w : World) : Keep P w w := ⟨rfl, rfl, rfl, Nat.le_refl _, fun _ _ _ => rfl⟩
theorem Keep.trans {P : Nat → Prop} {a b c : World} (h : Keep P a b) (g : Keep P b c) : Keep P a c :=
  ⟨g.os.trans h.os, g.tape.trans h.tape, g.output.trans h.output, Nat.le_trans h.size g.size, fun k hk hx => (g.block k (Nat.lt_of_lt_of_le hk h.size) hx).trans (h.block k hk hx)⟩
theorem Keep.mono {P Q : Nat → Prop} {a b : World} (h : Keep P a b) (hq : ∀ k, Q k → P k) : Keep Q a b := ⟨h.os, h.tape, h.output, h.size, fun k hk hx => h.block k hk (hq k hx)⟩
theorem Keep.of_below {P : Nat → Prop} {w w' : World} (h : Below w.heap.size w w') : Keep P w w' := ⟨h.os, h.tape, h.output, h.size, fun k hk _ => h.block k hk⟩
theorem Keep.grown {P : Nat → Prop} {w w' : World} {row : Option Nat} (h : w.grownBy w' row) (hr : ∀ b, row = some b → ¬ P b) : Keep P w w' :=
  ⟨h.os, h.tape, h.output, h.size, fun k hk hx => h.block k hk (fun e => hr k e.symm hx)⟩
theorem Keep.own {P : Nat → Prop} {w w' : World} {B e s n : Nat} {v : Value} {xs : List Value} (k : Keep P w w') (h : w.ownsRow B e s v n xs) (hp : ∀ b, v.ownBlock = some b → P b) : w'.ownsRow B e s v n xs := by
  rcases h.2 with ⟨hv, hn⟩ | ⟨g, cap, cur, hv, hB, hg, hr⟩
  · exact ⟨h.1, .inl ⟨hv, hn⟩⟩
  · subst hv
    exact ⟨h.1, .inr ⟨g, cap, cur, rfl, hB, (k.block g (Array.getElem?_eq_some_iff.1 hg).1 (hp g rfl)).trans hg, hr⟩⟩
theorem Keep.within {lo hi : Nat} {w w' : World} (h : Keep (fun k => k < lo ∨ hi ≤ k) w w') : Within lo hi w w' := ⟨h.os, h.tape, h.output, h.size, h.block⟩

end Go.Proofs.Ytgnehihnkkoneaa

namespace Go.Proofs.Ytgnehihnkkoneaa
set_option linter.unusedVariables false
set_option linter.unusedSimpArgs false

def okI (l h : Int) : Bool := decide (-1000000 ≤ l ∧ l ≤ h ∧ h ≤ 1000000 ∧ l ≠ 1000000 ∧ h ≠ -1000000)
theorem okI_of {l h : Int} (k : okI l h = true) : -1000000 ≤ l ∧ l ≤ h ∧ h ≤ 1000000 ∧ l ≠ 1000000 ∧ h ≠ -1000000 := of_decide_eq_true k

def clampI (n : Int) : Int := if n < -1000000 then -1000000 else if 1000000 < n then 1000000 else n
def addI (a b : Int) : Int := if 1000000 ≤ a ∨ 1000000 ≤ b then 1000000 else if a ≤ -1000000 ∨ b ≤ -1000000 then -1000000 else clampI (a + b)
def lowI (a b : Int) : Int := if a ≤ -1000000 ∨ b ≤ -1000000 then -1000000 else addI a b
def inI (l h n : Int) : Bool := okI l h && decide ((l = -1000000 ∨ l ≤ n) ∧ (h = 1000000 ∨ n ≤ h))
def ivV (l h : Int) : Value := .agg #[.int .i64 l, .int .i64 h]
/-- An interval, or the zero value. -/
def orZ (b : Bool) (l h : Int) : Value := if b then ivV l h else ivV 0 0
theorem clampI_rng (n : Int) : -1000000 ≤ clampI n ∧ clampI n ≤ 1000000 := by unfold clampI; split <;> (try split) <;> omega
theorem addI_rng (a b : Int) : -1000000 ≤ addI a b ∧ addI a b ≤ 1000000 := by
  unfold addI
  split
  · omega
  · split
    · omega
    · exact clampI_rng _
theorem lowI_rng (a b : Int) : -1000000 ≤ lowI a b ∧ lowI a b ≤ 1000000 := by
  unfold lowI
  split
  · omega
  · exact addI_rng a b
theorem lowI_addI {a b : Int} (ha : a < 1000000) (hb : b < 1000000) : lowI a b = addI a b := by
  unfold lowI addI
  by_cases h : a ≤ -1000000 ∨ b ≤ -1000000
  · rw [if_pos h, if_neg (by omega), if_pos h]
  · rw [if_neg h]

end Go.Proofs.Ytgnehihnkkoneaa

namespace Go.Proofs.Ytgnehihnkkoneaa
open Go.RowKit
set_option linter.unusedVariables false
set_option linter.unusedSimpArgs false

theorem bool_ans {a b : Bool} (h : a = true ↔ b = true) : Ending.returned (Value.bool a) = .returned (.bool b) := by rw [Bool.eq_iff_iff.2 h]
theorem int_ans {a b : Int} (h : a = b) : Ending.returned (Value.int .i64 a) = .returned (.int .i64 b) := by rw [h]
theorem iv_ans {a b c d : Int} (h : a = c) (k : b = d) : Ending.returned (Value.agg #[.int .i64 a, .int .i64 b]) = .returned (ivV c d) := by rw [h, k]; rfl
theorem below_one {w : World} (o : Obj) : Below w.heap.size w (w.alloc o) := (Below.refl _ w).alloc (Nat.le_refl _) o

end Go.Proofs.Ytgnehihnkkoneaa
