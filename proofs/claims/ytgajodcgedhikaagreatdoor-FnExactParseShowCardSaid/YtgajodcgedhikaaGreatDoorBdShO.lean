/-
  SHOWS: memory of a show of its own: the nodes' row, the labels' rows, the ties' row, no two of them the same.
  PLAIN: the arithmetic of bounds and intervals.
  WALKS of the functions over intervals and bounds: spec's and impl's.
-/
import Derived.Test.YtgajodcgedhikaaGreatDoorBdDig
import Derived.Test.YtgajodcgedhikaaGreatDoorProg
import Derived.WalkKit
import Derived.WalkSpells
import Derived.WalkLawsBesides
import Derived.Deep.QuietTactic
import Derived.Deep.RegionWith
import Derived.Deep.RegionHeld3
import Derived.BigQuiet
import Derived.Lib.Hide
import Derived.Below
namespace Go.Proofs.YtgajodcgedhikaaGreatDoor
open Go.RowKit
set_option linter.unusedVariables false
set_option linter.unusedSimpArgs false

def gN0 : GN := ⟨ByteArray.empty, [], 0⟩
/-- The lengths of the first labels, together. -/
def slJ (ns : List GN) : Nat → Nat
  | 0 => 0
  | j + 1 => slJ ns j + (ns[j]?.getD gN0).lab.length
theorem slJ_at (ns : List GN) {j : Nat} (h : j < ns.length) : slJ ns (j + 1) = slJ ns j + ns[j].lab.length := by
  conv => lhs; unfold slJ
  rw [List.getElem?_eq_getElem h]; rfl
/-- What the measure lets through. -/
structure ShB (s : GS) : Prop where
  ns : s.ns.length ≤ 1048576
  ts : s.ts.length ≤ 1048576
  each : ∀ e ∈ s.ns, e.name.size ≤ 1048576 ∧ e.lab.length ≤ 1048576
  sum : slJ s.ns s.ns.length ≤ 1048576
/-- A node with the place of its label. -/
structure NL where
  e : GN
  L : Option Addr
  c : Nat
def NL.V (z : NL) : Value := .slice z.L z.e.lab.length z.c
def NL.val (z : NL) : Value := ndV z.L z.c z.e
def NL.cells (z : NL) : List Value := [.string z.e.name, z.V, .int .i64 z.e.wat]
def cellsZ (zs : List NL) : List Value := zs.flatMap NL.cells
def nodesZ (zs : List NL) : List GN := zs.map NL.e
theorem cellsZ_length (zs : List NL) : (cellsZ zs).length = zs.length * 3 := by
  induction zs with
  | nil => rfl
  | cons e es ih => simp [cellsZ, NL.cells] at ih ⊢; omega
theorem cellsZ_append (a b : List NL) : cellsZ (a ++ b) = cellsZ a ++ cellsZ b := by simp [cellsZ]
theorem getZ (zs : List NL) : ∀ (j : Nat) (h : j < zs.length), (cellsZ zs)[j * 3]? = some (.string zs[j].e.name) ∧ (cellsZ zs)[j * 3 + 1]? = some zs[j].V ∧ (cellsZ zs)[j * 3 + 2]? = some (.int .i64 zs[j].e.wat) := by
  induction zs with
  | nil => intro j h; simp at h
  | cons e es ih =>
    intro j h
    have e1 : cellsZ (e :: es) = .string e.e.name :: e.V :: .int .i64 e.e.wat :: cellsZ es := rfl
    match j with
    | 0 => simp [e1]
    | j + 1 =>
      have := ih j (by simpa using h)
      rw [show (j + 1) * 3 = j * 3 + 1 + 1 + 1 from by omega, e1]
      simpa using this
theorem own_formZ {w : World} {B e s n : Nat} {v : Value} {xs : List Value} (h : w.ownsRow B e s v n xs) : ∃ A c, v = .slice A n c := by
  rcases h.2 with ⟨rfl, rfl⟩ | ⟨g, cap, cur, rfl, _⟩
  · exact ⟨_, _, rfl⟩
  · exact ⟨_, _, rfl⟩
theorem own_baseZ {w : World} {B B' e n s : Nat} {v : Value} {xs : List Value} (h : w.ownsRow B e s v n xs) (hb : B' ≤ B) : w.ownsRow B' e s v n xs := own_base h hb

/-- The nodes' memory: blocks from lo on and below hi. -/
structure OwnN (w : World) (lo hi : Nat) (v : Value) (zs : List NL) : Prop where
  row : w.ownsRow lo 38 3 v zs.length (cellsZ zs)
  lab : ∀ z ∈ zs, w.ownsRow lo 3 1 z.V z.e.lab.length (z.e.lab.map intV)
  sep : ∀ z ∈ zs, ∀ b, z.V.ownBlock = some b → v.ownBlock ≠ some b ∧ b < hi
  dist : zs.Pairwise (fun a b => ∀ q, a.V.ownBlock = some q → b.V.ownBlock ≠ some q)
  le : ∀ b, v.ownBlock = some b → b < hi
theorem OwnN.below {w w' : World} {lo hi : Nat} {v : Value} {zs : List NL} (h : OwnN w lo hi v zs) (hb : Below w.heap.size w w') : OwnN w' lo hi v zs :=
  ⟨own_below h.row hb, fun z hz => own_below (h.lab z hz) hb, h.sep, h.dist, h.le⟩
theorem OwnN.set {w : World} {lo hi : Nat} {v : Value} {zs : List NL} (h : OwnN w lo hi v zs) (p : Addr) (u : Value) (hp : p.block < lo) : OwnN (w.setCell p u) lo hi v zs :=
  ⟨own_set h.row _ _ hp, fun z hz => own_set (h.lab z hz) _ _ hp, h.sep, h.dist, h.le⟩
theorem OwnN.base {w : World} {lo lo' hi hi' : Nat} {v : Value} {zs : List NL} (h : OwnN w lo hi v zs) (hl : lo' ≤ lo) (hh : hi ≤ hi') : OwnN w lo' hi' v zs :=
  ⟨own_base h.row hl, fun z hz => own_base (h.lab z hz) hl, fun z hz b hb => ⟨(h.sep z hz b hb).1, by have := (h.sep z hz b hb).2; omega⟩, h.dist, fun b hb => by have := h.le b hb; omega⟩
theorem OwnN.at_ {w : World} {lo hi n c : Nat} {A : Option Addr} {zs : List NL} (h : OwnN w lo hi (.slice A n c) zs) : NodesAt w A (nodesZ zs) := by
  intro hx
  have hz : 0 < zs.length := by simpa [nodesZ] using hx
  obtain ⟨g, cap, hv, hg, hl⟩ := h.row.form hz
  injection hv with hv1 hv2 hv3
  subst hv1 hv2
  refine ⟨g, 0, rfl, hl, fun j hj => ?_⟩
  have hj2 : j < zs.length := by simpa [nodesZ] using hj
  obtain ⟨c0, c1, c2⟩ := getZ zs j hj2
  have ha := h.row.cellAt
  have hlab := own_row (h.lab zs[j] (List.getElem_mem _))
  have he : (nodesZ zs)[j] = zs[j].e := by simp [nodesZ]
  unfold NodeAt
  rw [he, Nat.zero_add]
  exact ⟨(ha (j * 3) (by omega)).trans c0, (ha (j * 3 + 2) (by omega)).trans c2, zs[j].L, zs[j].c, (ha (j * 3 + 1) (by omega)).trans c1, hlab⟩
/-- A show's memory. -/
structure OwnS (w : World) (lo hi : Nat) (s : GS) (A : Option Addr) (k c : Nat) (B : Option Addr) (m d : Nat) (zs : List NL) : Prop where
  es : nodesZ zs = s.ns
  ln : s.ns.length = k
  lt : s.ts.length = m
  nodes : OwnN w lo hi (.slice A k c) zs
  ties : w.ownsRow lo 42 5 (.slice B m d) m (cellsT s.ts)
  tsep : ∀ b, (Value.slice B m d).ownBlock = some b → (Value.slice A k c).ownBlock ≠ some b ∧ (∀ z ∈ zs, z.V.ownBlock ≠ some b) ∧ b < hi
theorem OwnS.below {w w' : World} {lo hi : Nat} {s : GS} {A B : Option Addr} {k c m d : Nat} {zs : List NL} (h : OwnS w lo hi s A k c B m d zs) (hb : Below w.heap.size w w') : OwnS w' lo hi s A k c B m d zs :=
  ⟨h.es, h.ln, h.lt, h.nodes.below hb, own_below h.ties hb, h.tsep⟩
theorem OwnS.set {w : World} {lo hi : Nat} {s : GS} {A B : Option Addr} {k c m d : Nat} {zs : List NL} (h : OwnS w lo hi s A k c B m d zs) (p : Addr) (u : Value) (hp : p.block < lo) : OwnS (w.setCell p u) lo hi s A k c B m d zs :=
  ⟨h.es, h.ln, h.lt, h.nodes.set p u hp, own_set h.ties _ _ hp, h.tsep⟩
theorem OwnS.base {w : World} {lo lo' hi hi' : Nat} {s : GS} {A B : Option Addr} {k c m d : Nat} {zs : List NL} (h : OwnS w lo hi s A k c B m d zs) (hl : lo' ≤ lo) (hh : hi ≤ hi') : OwnS w lo' hi' s A k c B m d zs :=
  ⟨h.es, h.ln, h.lt, h.nodes.base hl hh, own_base h.ties hl, fun b hb => ⟨(h.tsep b hb).1, (h.tsep b hb).2.1, by have := (h.tsep b hb).2.2; omega⟩⟩
theorem OwnS.at_ {w : World} {lo hi : Nat} {s : GS} {A B : Option Addr} {k c m d : Nat} {zs : List NL} (h : OwnS w lo hi s A k c B m d zs) : ShowAt w s A k B m := by
  obtain ⟨_, _, hv, _, ht⟩ := ownT_form h.ties
  injection hv with hv _ _
  subst hv
  refine ⟨h.ln, h.lt, ?_, ht⟩
  rw [← h.es]
  exact h.nodes.at_
/-- Nothing changes but in the blocks from lo on and below hi, and in new ones. -/
structure Within (lo hi : Nat) (w w' : World) : Prop where
  os : w'.os = w.os
  tape : w'.tape = w.tape
  output : w'.output = w.output
  size : w.heap.size ≤ w'.heap.size
  block : ∀ k, k < w.heap.size → (k < lo ∨ hi ≤ k) → w'.heap[k]? = w.heap[k]?
theorem Within.refl (lo hi : Nat) (w : World) : Within lo hi w w := ⟨rfl, rfl, rfl, Nat.le_refl _, fun _ _ _ => rfl⟩
theorem Within.trans {lo hi : Nat} {a b c : World} (h : Within lo hi a b) (g : Within lo hi b c) : Within lo hi a c :=
  ⟨g.os.trans h.os, g.tape.trans h.tape, g.output.trans h.output, Nat.le_trans h.size g.size, fun k hk hx => (g.block k (Nat.lt_of_lt_of_le hk h.size) hx).trans (h.block k hk hx)⟩
theorem Within.of_below {lo hi : Nat} {w w' : World} (h : Below w.heap.size w w') : Within lo hi w w' := ⟨h.os, h.tape, h.output, h.size, fun k hk _ => h.block k hk⟩
theorem Within.below {lo hi : Nat} {w w' : World} (h : Within lo hi w w') (hl : lo ≤ w.heap.size) : Below lo w w' := ⟨h.os, h.tape, h.output, h.size, fun k hk => h.block k (by omega) (.inl hk)⟩
theorem Within.grown {lo hi : Nat} {w w' : World} {row : Option Nat} (h : w.grownBy w' row) (hr : ∀ b, row = some b → lo ≤ b ∧ b < hi) : Within lo hi w w' :=
  ⟨h.os, h.tape, h.output, h.size, fun k hk hx => h.block k hk (fun e => by have := hr k e.symm; omega)⟩
/-- Nothing changes in the old blocks that P names. -/
structure Keep (P : Nat → Prop) (w w' : World) : Prop where
  os : w'.os = w.os
  tape : w'.tape = w.tape
  output : w'.output = w.output
  size : w.heap.size ≤ w'.heap.size
  block : ∀ k, k < w.heap.size → P k → w'.heap[k]? = w.heap[k]?
theorem Keep.refl (P : Nat → Prop) (w : World) : Keep P w w := ⟨rfl, rfl, rfl, Nat.le_refl _, fun _ _ _ => rfl⟩
theorem Keep.trans {P : Nat → Prop} {a b c : World} (h : Keep P a b) (g : Keep P b c) : Keep P a c :=
  ⟨g.os.trans h.os, g.tape.trans h.tape, g.output.trans h.output, Nat.le_trans h.size g.size, fun k hk hx => (g.block k (Nat.lt_of_lt_of_le hk h.size) hx).trans (h.block k hk hx)⟩
theorem Keep.mono {P Q : Nat → Prop} {a b : World} (h : Keep P a b) (hq : ∀ k, Q k → P k) : Keep Q a b := ⟨h.os, h.tape, h.output, h.size, fun k hk hx => h.block k hk (hq k hx)⟩
theorem Keep.of_below {P : Nat → Prop} {w w' : World} (h : Below w.heap.size w w') : Keep P w w' := ⟨h.os, h.tape, h.output, h.size, fun k hk _ => h.block k hk⟩
theorem Keep.grown {P : Nat → Prop} {w w' : World} {row : Option Nat} (h : w.grownBy w' row) (hr : ∀ b, row = some b → ¬ P b) : Keep P w w' :=
  ⟨h.os, h.tape, h.output, h.size, fun k hk hx => h.block k hk (fun e => hr k e.symm hx)⟩
theorem Keep.own {P : Nat → Prop} {w w' : World} {B e s n : Nat} {v : Value} {xs : List Value} (k : Keep P w w') (h : w.ownsRow B e s v n xs) (hp : ∀ b, v.ownBlock = some b → P b) : w'.ownsRow B e s v n xs := by
  rcases h.2 with ⟨hv, hn⟩ | ⟨g, cap, cur, hv, hB, hg, hr⟩
  · exact ⟨h.1, .inl ⟨hv, hn⟩⟩
  · subst hv
    exact ⟨h.1, .inr ⟨g, cap, cur, rfl, hB, (k.block g (Array.getElem?_eq_some_iff.1 hg).1 (hp g rfl)).trans hg, hr⟩⟩
theorem Keep.within {lo hi : Nat} {w w' : World} (h : Keep (fun k => k < lo ∨ hi ≤ k) w w') : Within lo hi w w' := ⟨h.os, h.tape, h.output, h.size, h.block⟩

end Go.Proofs.YtgajodcgedhikaaGreatDoor

namespace Go.Proofs.YtgajodcgedhikaaGreatDoor
set_option linter.unusedVariables false
set_option linter.unusedSimpArgs false

def okI (l h : Int) : Bool := decide (-1000000 ≤ l ∧ l ≤ h ∧ h ≤ 1000000 ∧ l ≠ 1000000 ∧ h ≠ -1000000)
theorem okI_of {l h : Int} (k : okI l h = true) : -1000000 ≤ l ∧ l ≤ h ∧ h ≤ 1000000 ∧ l ≠ 1000000 ∧ h ≠ -1000000 := of_decide_eq_true k

def clampI (n : Int) : Int := if n < -1000000 then -1000000 else if 1000000 < n then 1000000 else n
def addI (a b : Int) : Int := if 1000000 ≤ a ∨ 1000000 ≤ b then 1000000 else if a ≤ -1000000 ∨ b ≤ -1000000 then -1000000 else clampI (a + b)
def lowI (a b : Int) : Int := if a ≤ -1000000 ∨ b ≤ -1000000 then -1000000 else addI a b
def inI (l h n : Int) : Bool := okI l h && decide ((l = -1000000 ∨ l ≤ n) ∧ (h = 1000000 ∨ n ≤ h))
def ivV (l h : Int) : Value := .agg #[.int .i64 l, .int .i64 h]
/-- An interval, or the zero value. -/
def orZ (b : Bool) (l h : Int) : Value := if b then ivV l h else ivV 0 0
theorem clampI_rng (n : Int) : -1000000 ≤ clampI n ∧ clampI n ≤ 1000000 := by unfold clampI; split <;> (try split) <;> omega
theorem addI_rng (a b : Int) : -1000000 ≤ addI a b ∧ addI a b ≤ 1000000 := by
  unfold addI
  split
  · omega
  · split
    · omega
    · exact clampI_rng _
theorem lowI_rng (a b : Int) : -1000000 ≤ lowI a b ∧ lowI a b ≤ 1000000 := by
  unfold lowI
  split
  · omega
  · exact addI_rng a b
theorem lowI_addI {a b : Int} (ha : a < 1000000) (hb : b < 1000000) : lowI a b = addI a b := by
  unfold lowI addI
  by_cases h : a ≤ -1000000 ∨ b ≤ -1000000
  · rw [if_pos h, if_neg (by omega), if_pos h]
  · rw [if_neg h]

end Go.Proofs.YtgajodcgedhikaaGreatDoor

namespace Go.Proofs.YtgajodcgedhikaaGreatDoor
open Go.RowKit
set_option linter.unusedVariables false
set_option linter.unusedSimpArgs false

theorem bool_ans {a b : Bool} (h : a = true ↔ b = true) : Ending.returned (Value.bool a) = .returned (.bool b) := by rw [Bool.eq_iff_iff.2 h]
theorem int_ans {a b : Int} (h : a = b) : Ending.returned (Value.int .i64 a) = .returned (.int .i64 b) := by rw [h]
theorem iv_ans {a b c d : Int} (h : a = c) (k : b = d) : Ending.returned (Value.agg #[.int .i64 a, .int .i64 b]) = .returned (ivV c d) := by rw [h, k]; rfl
theorem below_one {w : World} (o : Obj) : Below w.heap.size w (w.alloc o) := (Below.refl _ w).alloc (Nat.le_refl _) o

end Go.Proofs.YtgajodcgedhikaaGreatDoor
