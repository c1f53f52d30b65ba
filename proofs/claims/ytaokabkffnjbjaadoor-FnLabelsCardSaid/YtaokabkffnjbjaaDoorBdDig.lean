/-
  WALKS over the text utilities that scan a string: spec.IsDigits, impl.isDigit, impl.IsDigits, spec.IsName, impl.isLetter, impl.IsName, spec.l01In.
  WALKS of the laws' own helpers over slices of strings: markText, eqStringS, markStringS, heldStringS, toStringS, szStringS.
  GRAPHS: an edge as three cells, a slice of edges that is read, a graph that comes in.
  WALKS of the laws' helpers over edges and graphs: toEdge, toEdgeS, toGraph, szEdgeS, szGraph, eqEdge, eqEdgeS, eqGraph.
  WALKS over slices of edges: toEdgeS, eqEdgeS; toGraph, eqGraph.
  WALKS over slices of edges: eqEdgeS; toGraph, eqGraph.
  PLAIN: labels and values.
  PLAIN: the arithmetic of bounds and intervals.
  WALKS of the functions over intervals and bounds: spec's and impl's.
  WALKS of eqGraph, hasNode, spec.GraphOk and impl.GraphOk: a graph that is one.
  WALKS of the laws' helpers over slices of ints: toIntS, eqIntS, markIntS, heldIntS; a slice of ints that comes in.
  WALKS of spec.l07Prop, spec.LabelOk, spec.ValuesOk, spec.CountValues, spec.l07Has, spec.ImpliesLabel.
-/
import Derived.Test.YtaokabkffnjbjaaDoorProg
import Derived.WalkKit
import Derived.WalkSpells
import Derived.WalkLawsBesides
import Derived.Lib.OthersKept
import Derived.Lib.Hide
import Derived.Lib.Strings
import Derived.Deep.QuietTactic
import Derived.Deep.RegionWith
import Derived.BigQuiet
import Derived.Laws.Rows
import Derived.Laws.OwnMore
import Derived.Deep.Onto
import Derived.Deep.AppendLies
import Derived.Deep.Slices
import Derived.Deep.Strs
import Derived.ProofKit
import Derived.Lib.SmallJoins
import Derived.Deep.RegionHeld3
import Derived.Below
import Derived.ChangeSlices
namespace Go.Proofs.YtaokabkffnjbjaaDoor
open Go.RowKit
set_option linter.unusedVariables false
set_option linter.unusedSimpArgs false

def isDig (c : UInt8) : Bool := decide (48 ≤ c.toNat) && decide (c.toNat ≤ 57)
def isLet (c : UInt8) : Bool := decide (97 ≤ c.toNat) && decide (c.toNat ≤ 122)
def digitsB (l : List UInt8) : Bool := !l.isEmpty && l.all isDig

theorem take_snoc (s : ByteArray) (k : Nat) (h : k < s.size) : s.data.toList.take (k + 1) = s.data.toList.take k ++ [s[k]] := by
  rw [List.take_succ_eq_append_getElem (by simpa using h)]; rfl

theorem ret_bool {a b : Bool} (h : a = b) : Ending.returned (.bool a) = .returned (.bool b) := by rw [h]

theorem digits_all (s : ByteArray) (h : (s.data.toList.take s.size).all isDig = true) : digitsB s.data.toList = decide (0 < s.size) := by
  have e : s.data.toList.take s.size = s.data.toList := List.take_of_length_le (by simp)
  rw [e] at h
  unfold digitsB
  rw [h, Bool.and_true]
  have : s.data.toList.length = s.size := by simp
  cases hl : s.data.toList with
  | nil => rw [hl] at this; simp at this; simp [← this]
  | cons a t => rw [hl] at this; simp at this; simp [← this]

theorem empty_not (s : ByteArray) : (!s.toList.isEmpty) = decide (0 < s.size) := by
  rw [Lib.toList_data]
  have : s.data.toList.length = s.size := by simp
  cases hl : s.data.toList with
  | nil => rw [hl] at this; simp at this; simp [← this]
  | cons a t => rw [hl] at this; simp at this; simp [← this]

theorem digits_not (s : ByteArray) (k : Nat) (h : k < s.size) (hc : isDig s[k] = false) : digitsB s.data.toList = false := by
  have : s.data.toList.all isDig = false := by
    rw [List.all_eq_false]
    refine ⟨s[k], ?_, by simp [hc]⟩
    have : s[k] = s.data.toList[k]'(by simpa using h) := rfl
    rw [this]; exact List.getElem_mem _
  unfold digitsB; rw [this, Bool.and_false]

set_option maxRecDepth 100000 in
set_option maxHeartbeats 400000 in
theorem spec_IsDigits (s : ByteArray) (w : World) (hs : s.size ≤ maxLen) :
    Calls Tryd.prog 51 #[.string s] w fun e w' => e = .returned (.bool (digitsB s.data.toList)) ∧ w = w' := by
  unfold maxLen at hs
  go_enter Tryd.func51, Tryd.ntmps51
  go_wp2
  go_loop [3] (fun i => ∃ k : Nat, k ≤ s.size ∧ i = .int .i64 k ∧ (s.data.toList.take k).all isDig = true) (fun i => s.size - (intOf i).toNat)
  case atStart => exact ⟨0, Nat.zero_le _, rfl, rfl⟩
  case round =>
    obtain ⟨k, hk, rfl, ha⟩ := hrel
    have HA := Lib.hid ha
    clear ha
    by_cases hlt : k < s.size
    · go_wp2
      · go_ret
        have h1 : (s[k].toNat : Int) < 48 ∨ 57 < (s[k].toNat : Int) := by assumption
        exact ⟨ret_bool (digits_not s k hlt (by unfold isDig; simp; omega)).symm, rfl⟩
      · go_round
        case rel =>
          have h1 : 48 ≤ (s[k].toNat : Int) ∧ (s[k].toNat : Int) ≤ 57 := by assumption
          have h2 : isDig s[k] = true := by unfold isDig; simp; omega
          exact ⟨k + 1, by omega, by go_num, by rw [take_snoc s k hlt, List.all_append, HA.out]; simp [h2]⟩
        case measure => simp [intOf]; omega
      · go_ret
        have h1 : (s[k].toNat : Int) < 48 := by assumption
        exact ⟨ret_bool (digits_not s k hlt (by unfold isDig; simp; omega)).symm, rfl⟩
    · go_wp2
      go_ret
      have : k = s.size := by omega
      subst this
      exact ⟨ret_bool (by rw [digits_all s HA.out]), rfl⟩

set_option maxRecDepth 100000 in
set_option maxHeartbeats 400000 in
theorem l01In_any (n lo hi : Int) (w : World) :
    Calls Tryd.prog 40 #[.int .i64 n, .int .i64 lo, .int .i64 hi] w fun e w' => e = .returned (.bool (decide (lo ≤ n) && decide (n ≤ hi))) ∧ w = w' := by
  by_cases h1 : lo ≤ n
  · by_cases h2 : n ≤ hi
    all_goals
      go_enter Tryd.func40, Tryd.ntmps40
      go_wp2
      go_ret
      exact ⟨ret_bool (by simp [h1, h2]), rfl⟩
  · go_enter Tryd.func40, Tryd.ntmps40
    go_wp2
    go_ret
    exact ⟨ret_bool (by rw [decide_eq_false (Int.not_le.2 h1), Bool.false_and]), rfl⟩

theorem width_pos (s : ByteArray) (pos : Nat) (h : pos < s.size) : 1 ≤ (Utf8.decode s pos).2 := by
  by_cases ha : (s[pos]'h).toNat < 128
  · rw [decode_ascii s pos h ha]; exact Nat.le_refl _
  · exact (decode_high s pos h (by omega)).2

/-- What a rune at hand says of the byte at hand: a rune below 128 is the byte, and it is one byte wide. -/
theorem rune_low (s : ByteArray) (pos : Nat) (h : pos < s.size) (hr : (Utf8.decode s pos).1 < 128) : (Utf8.decode s pos).1 = s[pos].toNat ∧ (Utf8.decode s pos).2 = 1 := by
  by_cases ha : (s[pos]'h).toNat < 128
  · rw [decode_ascii s pos h ha]; exact ⟨rfl, rfl⟩
  · have := (decode_high s pos h (by omega)).1; omega

theorem rune_dig (s : ByteArray) (pos : Nat) (h : pos < s.size) : (decide ((48 : Int) ≤ ((Utf8.decode s pos).1 : Int)) && decide (((Utf8.decode s pos).1 : Int) ≤ 57)) = isDig s[pos] := by
  unfold isDig
  by_cases ha : (s[pos]'h).toNat < 128
  · rw [decode_ascii s pos h ha]; simp only
    rw [Bool.eq_iff_iff]; simp; omega
  · have := (decode_high s pos h (by omega)).1
    rw [Bool.eq_iff_iff]; simp; omega

theorem rune_let (s : ByteArray) (pos : Nat) (h : pos < s.size) : (decide ((97 : Int) ≤ ((Utf8.decode s pos).1 : Int)) && decide (((Utf8.decode s pos).1 : Int) ≤ 122)) = isLet s[pos] := by
  unfold isLet
  by_cases ha : (s[pos]'h).toNat < 128
  · rw [decode_ascii s pos h ha]; simp only
    rw [Bool.eq_iff_iff]; simp; omega
  · have := (decode_high s pos h (by omega)).1
    rw [Bool.eq_iff_iff]; simp; omega

theorem dig_width (s : ByteArray) (pos : Nat) (h : pos < s.size) (hd : isDig s[pos] = true) : (Utf8.decode s pos).2 = 1 := by
  unfold isDig at hd
  rw [decode_ascii s pos h (by simp at hd; omega)]

theorem let_width (s : ByteArray) (pos : Nat) (h : pos < s.size) (hd : isLet s[pos] = true) : (Utf8.decode s pos).2 = 1 := by
  unfold isLet at hd
  rw [decode_ascii s pos h (by simp at hd; omega)]

/-! ### Names -/

def nameGo : Nat → List UInt8 → Bool
  | _, [] => true
  | i, c :: t => (isLet c || (decide (0 < i) && isDig c)) && nameGo (i + 1) t
/-- What stands at place i of a name. -/
def nameAt (i : Nat) (c : UInt8) : Bool := isLet c || (decide (0 < i) && isDig c)
def nameB (l : List UInt8) : Bool := decide (1 ≤ l.length) && decide (l.length ≤ 8) && nameGo 0 l

theorem nameGo_snoc (l : List UInt8) : ∀ (i : Nat) (c : UInt8), nameGo i (l ++ [c]) = (nameGo i l && nameAt (i + l.length) c) := by
  induction l with
  | nil => intro i c; simp [nameGo, nameAt]
  | cons a t ih => intro i c; simp [nameGo, ih, Bool.and_assoc]; congr 2; simp [Nat.add_assoc, Nat.add_comm 1]

theorem nameGo_take (s : ByteArray) (k : Nat) (h : k < s.size) : nameGo 0 (s.data.toList.take (k + 1)) = (nameGo 0 (s.data.toList.take k) && nameAt k s[k]) := by
  rw [take_snoc s k h, nameGo_snoc]
  congr 2
  simp; omega

theorem nameGo_false (l : List UInt8) (i k : Nat) (h : nameGo i (l.take k) = false) : nameGo i l = false := by
  induction l generalizing i k with
  | nil => simp at h; exact h
  | cons a t ih =>
    cases k with
    | zero => simp [nameGo] at h
    | succ k =>
      simp only [List.take_succ_cons, nameGo, Bool.and_eq_false_iff] at h ⊢
      exact h.imp id (ih (i + 1) k)

theorem name_not (s : ByteArray) (k : Nat) (h : k < s.size) (hc : nameAt k s[k] = false) : nameGo 0 s.data.toList = false :=
  nameGo_false _ 0 (k + 1) (by rw [nameGo_take s k h, hc, Bool.and_false])

theorem name_all (s : ByteArray) (h : nameGo 0 (s.data.toList.take s.size) = true) : nameB s.data.toList = (decide (1 ≤ (s.size : Int)) && decide ((s.size : Int) ≤ 8)) := by
  have e : s.data.toList.take s.size = s.data.toList := List.take_of_length_le (by simp)
  rw [e] at h
  unfold nameB
  rw [h, Bool.and_true]
  rw [Bool.eq_iff_iff]; simp; omega

theorem nameB_not {l : List UInt8} (h : nameGo 0 l = false) : nameB l = false := by unfold nameB; rw [h, Bool.and_false]

end Go.Proofs.YtaokabkffnjbjaaDoor

namespace Go.Proofs.YtaokabkffnjbjaaDoor
open Go.RowKit
set_option linter.unusedVariables false
set_option linter.unusedSimpArgs false

/-! ### markText -/

def markGo : Nat → Nat → List UInt8 → List UInt8
  | 0, _, out => out
  | f + 1, k, out => if k = 0 then out else markGo f (k / 10) (UInt8.ofNat (48 + k % 10) :: out)
def markB (k : Nat) : ByteArray := ⟨(109 :: markGo k k []).toArray⟩

theorem markGo_fuel : ∀ (f k : Nat) (out : List UInt8), k ≤ f → markGo f k out = markGo k k out := by
  intro f
  induction f using Nat.strongRecOn with
  | _ f ih =>
    intro k out h
    match f, k with
    | 0, 0 => rfl
    | f + 1, 0 => simp [markGo]
    | f + 1, k + 1 =>
      have hd : (k + 1) / 10 ≤ k := by omega
      simp only [markGo, Nat.add_one_ne_zero, if_false]
      rw [ih f (by omega) ((k + 1) / 10) _ (by omega)]
      by_cases hk : k < f + 1
      · rw [ih k hk ((k + 1) / 10) _ hd]
      · omega
theorem markGo_step (k : Nat) (out : List UInt8) (h : 0 < k) : markGo k k out = markGo (k / 10) (k / 10) (UInt8.ofNat (48 + k % 10) :: out) := by
  obtain ⟨m, rfl⟩ : ∃ m, k = m + 1 := ⟨k - 1, by omega⟩
  rw [markGo, if_neg (by omega), markGo_fuel m _ _ (by omega)]

/-- A byte as a string. -/
def byteB (c : Nat) : ByteArray := ⟨#[UInt8.ofNat c]⟩
theorem byteB_size (c : Nat) : (byteB c).size = 1 := rfl
theorem byteB_append (c : Nat) (x : ByteArray) : (byteB c ++ x).data.toList = UInt8.ofNat c :: x.data.toList := by
  simp [byteB]
theorem conv_one (w : World) (c : Nat) (h1 : c < 256) :
    (convert 22 9 (.slice (some ⟨w.heap.size, 0, none⟩) 1 1)).run Tryd.prog (w.alloc (.cells #[.int .u8 c] 5)) = .ok (.string (byteB c)) (w.alloc (.cells #[.int .u8 c] 5)) := by
  have h := run_convert_bytes_back (w.alloc (.cells #[.int .u8 c] 5)) 22 9 5 ⟨w.heap.size, 0, none⟩ 1 [UInt8.ofNat c] Tryd.underlying22 Tryd.underlying5 Tryd.underlying9 (by
    intro j hj
    match j, hj with
    | 0, _ =>
      refine (cell_one_new w _ _ 0 _ rfl).trans ?_
      have : (UInt8.ofNat c).toNat = c := by simp; omega
      simp [this])
  exact h

theorem conv_at (c : Nat) (h1 : c < 256) (w : World) (g : Nat) (hc : w.cell? ⟨g, 0, none⟩ = some (.int .u8 c)) :
    (convert 22 9 (.slice (some ⟨g, 0, none⟩) 1 1)).run Tryd.prog w = .ok (.string (byteB c)) w := by
  have h := run_convert_bytes_back w 22 9 5 ⟨g, 0, none⟩ 1 [UInt8.ofNat c] Tryd.underlying22 Tryd.underlying5 Tryd.underlying9 (by
    intro j hj
    match j, hj with
    | 0, _ =>
      refine hc.trans ?_
      have : (UInt8.ofNat c).toNat = c := by simp; omega
      simp [this])
  exact h

/-! ### Slices of strings that are read -/

/-- The slice at A (nil, or an address in the heap) holds the values xs, one cell each. -/
def RowAt (w : World) (A : Option Addr) (xs : List Value) : Prop :=
  0 < xs.length → ∃ g o, A = some ⟨g, o, none⟩ ∧ g < w.heap.size ∧ ∀ j (h : j < xs.length), w.cell? ⟨g, o + j, none⟩ = some xs[j]

theorem RowAt.below {w w' : World} {A : Option Addr} {xs : List Value} (h : RowAt w A xs) (hb : Below w.heap.size w w') : RowAt w' A xs := by
  intro hx
  obtain ⟨g, o, hA, hg, hc⟩ := h hx
  have := hb.size
  exact ⟨g, o, hA, by omega, fun j hj => (hb.cell (p := ⟨g, o + j, none⟩) hg).trans (hc j hj)⟩

theorem RowAt.of_heap {w w' : World} {A : Option Addr} {xs : List Value} (h : RowAt w A xs) (hb : w'.heap = w.heap) : RowAt w' A xs := by
  intro hx
  obtain ⟨g, o, hA, hg, hc⟩ := h hx
  exact ⟨g, o, hA, by rw [hb]; exact hg, fun j hj => (World.cell?_of_block (a := ⟨g, o + j, none⟩) (by rw [hb])).trans (hc j hj)⟩

/-- An owned slice is one, and what it looks like. -/
theorem own_form {w : World} {B e n : Nat} {v : Value} {xs : List Value} (h : w.ownsRow B e 1 v n xs) : ∃ A c, v = .slice A n c ∧ xs.length = n ∧ RowAt w A xs := by
  have hl : xs.length = n := by simpa using h.1
  rcases Nat.eq_zero_or_pos n with h0 | h0
  · rcases h.2 with ⟨rfl, hn⟩ | ⟨g, cap, cur, rfl, _⟩
    · subst hn
      exact ⟨none, 0, rfl, hl, fun hx => by omega⟩
    · exact ⟨some ⟨g, 0, none⟩, cap, rfl, hl, fun hx => by omega⟩
  · obtain ⟨g, cap, rfl, hb, hg⟩ := h.form h0
    refine ⟨some ⟨g, 0, none⟩, cap, rfl, hl, fun _ => ⟨g, 0, rfl, hg, fun j hj => ?_⟩⟩
    rw [Nat.zero_add, h.cellAt j (by omega)]
    exact List.getElem?_eq_getElem hj

/-! ### Marks -/

def marks (k n : Nat) : List Value := (List.range n).map fun i => Value.string (markB (k + i))
theorem marks_length (k n : Nat) : (marks k n).length = n := by simp [marks]
theorem marks_at (k n j : Nat) (h : j < (marks k n).length) : (marks k n)[j] = .string (markB (k + j)) := by simp [marks]
theorem marks_step (k j : Nat) (xs : List Value) (h : j < xs.length) : (marks k j ++ xs.drop j).set j (.string (markB (k + j))) = marks k (j + 1) ++ xs.drop (j + 1) := by
  have e : marks k (j + 1) = marks k j ++ [.string (markB (k + j))] := by simp [marks, List.range_succ]
  have h1 : (marks k j).length = j := marks_length k j
  rw [e, List.set_append, if_neg (by omega), h1, Nat.sub_self, List.append_assoc, List.drop_eq_getElem_cons h]
  rfl

theorem below_grown {w w1 w2 : World} {row : Option Nat} (hg : w.grownBy w1 row) (hb : Below w1.heap.size w1 w2) : w.grownBy w2 row :=
  ⟨hb.os.trans hg.os, hb.tape.trans hg.tape, hb.output.trans hg.output, Nat.le_trans hg.size hb.size, fun k hk hr => (hb.block k (Nat.lt_of_lt_of_le hk hg.size)).trans (hg.block k hk hr)⟩
theorem grown_trans {w w1 w2 : World} {row : Option Nat} (hg : w.grownBy w1 row) (hb : w1.grownBy w2 row) : w.grownBy w2 row :=
  ⟨hb.os.trans hg.os, hb.tape.trans hg.tape, hb.output.trans hg.output, Nat.le_trans hg.size hb.size, fun k hk hr => (hb.block k (Nat.lt_of_lt_of_le hk hg.size) hr).trans (hg.block k hk hr)⟩
theorem own_below {w w' : World} {B e n s : Nat} {v : Value} {xs : List Value} (h : w.ownsRow B e s v n xs) (hb : Below w.heap.size w w') : w'.ownsRow B e s v n xs :=
  h.kept (row := none) ⟨hb.os, hb.tape, hb.output, hb.size, fun k hk _ => hb.block k hk⟩ (by
    rcases h.2 with ⟨rfl, _⟩ | ⟨g, cap, cur, rfl, _⟩
    · exact .inl rfl
    · exact .inr (by simp [Value.ownBlock]))

end Go.Proofs.YtaokabkffnjbjaaDoor

namespace Go.Proofs.YtaokabkffnjbjaaDoor
open Go.RowKit Go.ChangeShapes Go.WideShapes Go.ChangeAt Go.WideMaps Go.WideElems
set_option linter.unusedVariables false
set_option linter.unusedSimpArgs false

theorem below_step {w a b : World} (h : Below a.heap.size a b) (hs : w.heap.size ≤ a.heap.size) (h0 : Below w.heap.size w a) : Below w.heap.size w b := h0.trans (h.mono hs)

structure GE where
  u : Int
  v : Int
  c : Int
def GE.val (e : GE) : Value := .agg #[.int .i64 e.u, .int .i64 e.v, .int .i64 e.c]
def GE.cells (e : GE) : List Value := [.int .i64 e.u, .int .i64 e.v, .int .i64 e.c]
def GE.wf (e : GE) : Prop := (Lit.int .i64 e.u).wf = true ∧ (Lit.int .i64 e.v).wf = true ∧ (Lit.int .i64 e.c).wf = true
def cellsE (es : List GE) : List Value := es.flatMap GE.cells
def grV (n : Int) (A : Option Addr) (k c : Nat) : Value := .agg #[.int .i64 n, .slice A k c]

theorem cellsE_length (es : List GE) : (cellsE es).length = es.length * 3 := by
  induction es with
  | nil => rfl
  | cons e es ih => simp [cellsE, GE.cells] at ih ⊢; omega
theorem cellsE_append (a b : List GE) : cellsE (a ++ b) = cellsE a ++ cellsE b := by simp [cellsE]

/-- The slice at A holds the edges es, three cells each. -/
def EdgeAt (w : World) (A : Option Addr) (es : List GE) : Prop :=
  0 < es.length → ∃ g o, A = some ⟨g, o, none⟩ ∧ g < w.heap.size ∧ ∀ j (h : j < es.length),
    w.cell? ⟨g, o + j * 3, none⟩ = some (.int .i64 es[j].u) ∧ w.cell? ⟨g, o + j * 3 + 1, none⟩ = some (.int .i64 es[j].v) ∧ w.cell? ⟨g, o + j * 3 + 2, none⟩ = some (.int .i64 es[j].c)

theorem EdgeAt.below {w w' : World} {A : Option Addr} {es : List GE} (h : EdgeAt w A es) (hb : Below w.heap.size w w') : EdgeAt w' A es := by
  intro hx
  obtain ⟨g, o, hA, hg, hc⟩ := h hx
  have := hb.size
  exact ⟨g, o, hA, by omega, fun j hj => ⟨(hb.cell (p := ⟨g, o + j * 3, none⟩) hg).trans (hc j hj).1, (hb.cell (p := ⟨g, o + j * 3 + 1, none⟩) hg).trans (hc j hj).2.1, (hb.cell (p := ⟨g, o + j * 3 + 2, none⟩) hg).trans (hc j hj).2.2⟩⟩

theorem EdgeAt.of_heap {w w' : World} {A : Option Addr} {es : List GE} (h : EdgeAt w A es) (hb : w'.heap = w.heap) : EdgeAt w' A es := by
  intro hx
  obtain ⟨g, o, hA, hg, hc⟩ := h hx
  refine ⟨g, o, hA, by rw [hb]; exact hg, fun j hj => ⟨?_, ?_, ?_⟩⟩
  · exact (World.cell?_of_block (by rw [hb])).trans (hc j hj).1
  · exact (World.cell?_of_block (by rw [hb])).trans (hc j hj).2.1
  · exact (World.cell?_of_block (by rw [hb])).trans (hc j hj).2.2

theorem getE (es : List GE) : ∀ (j : Nat) (h : j < es.length), (cellsE es)[j * 3]? = some (.int .i64 es[j].u) ∧ (cellsE es)[j * 3 + 1]? = some (.int .i64 es[j].v) ∧ (cellsE es)[j * 3 + 2]? = some (.int .i64 es[j].c) := by
  induction es with
  | nil => intro j h; simp at h
  | cons e es ih =>
    intro j h
    have e1 : cellsE (e :: es) = .int .i64 e.u :: .int .i64 e.v :: .int .i64 e.c :: cellsE es := rfl
    match j with
    | 0 => simp [e1]
    | j + 1 =>
      have := ih j (by simpa using h)
      rw [show (j + 1) * 3 = j * 3 + 1 + 1 + 1 from by omega, e1]
      simpa using this

/-- An owned slice of edges is one that can be read. -/
theorem ownE_form {w : World} {B e n : Nat} {v : Value} {es : List GE} (h : w.ownsRow B e 3 v n (cellsE es)) : ∃ A c, v = .slice A n c ∧ es.length = n ∧ EdgeAt w A es := by
  have hl : es.length = n := by
    have := h.1
    rw [cellsE_length] at this
    omega
  rcases h.2 with ⟨rfl, hn⟩ | ⟨g, cap, cur, rfl, hB, hg, _, _, hs, ht⟩
  · subst hn
    exact ⟨none, 0, rfl, hl, fun hx => by omega⟩
  · refine ⟨some ⟨g, 0, none⟩, cap, rfl, hl, fun hx => ⟨g, 0, rfl, (Array.getElem?_eq_some_iff.1 hg).1, fun j hj => ?_⟩⟩
    have hc := getE es j hj
    have ha := h.cellAt
    rw [Nat.zero_add, ha (j * 3) (by omega), ha (j * 3 + 1) (by omega), ha (j * 3 + 2) (by omega)]
    exact hc

theorem choose_edges {p : Nat → GE → Prop} : ∀ {n : Nat}, (∀ i, i < n → ∃ e, p i e) → ∃ es : List GE, es.length = n ∧ ∀ i (h : i < es.length), p i es[i] := by
  intro n
  induction n with
  | zero => exact fun _ => ⟨[], rfl, fun i h => by simp at h⟩
  | succ n ih =>
    intro hq
    obtain ⟨es, h1, h2⟩ := ih (fun i hi => hq i (by omega))
    obtain ⟨e, he⟩ := hq n (by omega)
    refine ⟨es ++ [e], by simp [h1], fun i hi => ?_⟩
    by_cases hlt : i < es.length
    · rw [List.getElem_append_left hlt]; exact h2 i hlt
    · have : i = es.length := by simp at hi; omega
      subst this
      simpa [h1] using he

end Go.Proofs.YtaokabkffnjbjaaDoor

namespace Go.Proofs.YtaokabkffnjbjaaDoor
open Go.RowKit
set_option linter.unusedVariables false
set_option linter.unusedSimpArgs false

end Go.Proofs.YtaokabkffnjbjaaDoor

namespace Go.Proofs.YtaokabkffnjbjaaDoor
open Go.RowKit
set_option linter.unusedVariables false
set_option linter.unusedSimpArgs false

theorem put3 (xs : List Value) (k : Nat) (es : List GE) (e : GE) (hl : k * 3 + 3 ≤ xs.length) (hk : xs.take (k * 3) = cellsE (es.take k)) (he : es[k]? = some e) :
    (((xs.set (k * 3) (.int .i64 e.u)).set (k * 3 + 1) (.int .i64 e.v)).set (k * 3 + 2) (.int .i64 e.c)).take ((k + 1) * 3) = cellsE (es.take (k + 1)) := by
  have hes : es.take (k + 1) = es.take k ++ [e] := by
    rw [List.take_add_one, he]; rfl
  have hx : xs = xs.take (k * 3) ++ xs.drop (k * 3) := (List.take_append_drop _ _).symm
  obtain ⟨a, b, c, r, hr⟩ : ∃ a b c r, xs.drop (k * 3) = a :: b :: c :: r := by
    have hd : (xs.drop (k * 3)).length = xs.length - k * 3 := List.length_drop ..
    match h : xs.drop (k * 3) with
    | [] => rw [h] at hd; simp at hd; omega
    | [_] => rw [h] at hd; simp at hd; omega
    | [_, _] => rw [h] at hd; simp at hd; omega
    | a :: b :: c :: r => exact ⟨a, b, c, r, rfl⟩
  have hp : (xs.take (k * 3)).length = k * 3 := by simp; omega
  rw [hx, hr]
  rw [List.set_append_right _ _ (by omega), List.set_append_right _ _ (by omega), List.set_append_right _ _ (by omega), hp]
  rw [show k * 3 - k * 3 = 0 from by omega, show k * 3 + 1 - k * 3 = 1 from by omega, show k * 3 + 2 - k * 3 = 2 from by omega]
  rw [List.take_append, hp, List.take_of_length_le (by omega), show (k + 1) * 3 - k * 3 = 3 from by omega, hes, cellsE_append, hk]
  rfl

theorem set3_length (xs : List Value) (i j k : Nat) (a b c : Value) : (((xs.set i a).set j b).set k c).length = xs.length := by simp

end Go.Proofs.YtaokabkffnjbjaaDoor

namespace Go.Proofs.YtaokabkffnjbjaaDoor
open Go.RowKit
set_option linter.unusedVariables false
set_option linter.unusedSimpArgs false

theorem setCell_grown (w : World) (p : Addr) (u : Value) : w.grownBy (w.setCell p u) (some p.block) :=
  ⟨rfl, rfl, rfl, by simp, fun k _ hk => heap_setCell_other w p k u (fun e => hk (by simp [e]))⟩
theorem own_base {w : World} {B B' e n s : Nat} {v : Value} {xs : List Value} (h : w.ownsRow B e s v n xs) (hb : B' ≤ B) : w.ownsRow B' e s v n xs := by
  refine ⟨h.1, ?_⟩
  rcases h.2 with h2 | ⟨g, cap, cur, h1, h2, h3⟩
  · exact .inl h2
  · exact .inr ⟨g, cap, cur, h1, by omega, h3⟩
theorem own_set {w : World} {B e n s : Nat} {v : Value} {xs : List Value} (h : w.ownsRow B e s v n xs) (p : Addr) (u : Value) (hp : p.block < B) : (w.setCell p u).ownsRow B e s v n xs :=
  h.kept (setCell_grown w p u) (by
    cases hb : v.ownBlock with
    | none => exact .inl rfl
    | some g => exact .inr (fun e => by have := (h.lt g hb).1; injection e with e; omega))

end Go.Proofs.YtaokabkffnjbjaaDoor

namespace Go.Proofs.YtaokabkffnjbjaaDoor
open Go.RowKit
set_option linter.unusedVariables false
set_option linter.unusedSimpArgs false

/-- A literal. -/
def litB (x : Int) : Bool := decide (x ≠ 0) && (decide (-3 ≤ x) && decide (x ≤ 3))
def absI (x : Int) : Int := if x < 0 then -x else x
theorem litB_of {x : Int} (h : litB x = true) : x ≠ 0 ∧ -3 ≤ x ∧ x ≤ 3 := by
  unfold litB at h
  rw [Bool.and_eq_true, Bool.and_eq_true] at h
  exact ⟨of_decide_eq_true h.1, of_decide_eq_true h.2.1, of_decide_eq_true h.2.2⟩
theorem litB_abs {x : Int} (h : litB x = true) : 1 ≤ absI x ∧ absI x ≤ 3 := by
  have := litB_of h
  unfold absI; split <;> omega
/-- The element is a literal, its proposition above that of the one before it. -/
def labS (l : List Int) (j : Nat) (x : Int) : Bool := litB x && (decide (j = 0) || decide (absI (l[j - 1]?.getD 0) < absI x))
def labJ (l : List Int) : Nat → Bool
  | 0 => true
  | j + 1 => labJ l j && labS l j (l[j]?.getD 0)
def labR (l : List Int) : Bool := labJ l l.length
theorem labJ_no {l : List Int} {j : Nat} (h : labJ l j = false) : ∀ {m : Nat}, j ≤ m → labJ l m = false
  | 0, hm => by obtain rfl : j = 0 := by omega
                exact h
  | m + 1, hm => by
    by_cases e : j = m + 1
    · subst e; exact h
    · unfold labJ; rw [labJ_no h (show j ≤ m by omega), Bool.false_and]
theorem labJ_next {l : List Int} {j : Nat} : labJ l (j + 1) = (labJ l j && labS l j (l[j]?.getD 0)) := rfl
theorem labJ_lit {l : List Int} : ∀ {m j : Nat}, labJ l m = true → j < m → litB (l[j]?.getD 0) = true
  | 0, j, _, h => by omega
  | m + 1, j, h, hj => by
    unfold labJ at h
    rw [Bool.and_eq_true] at h
    by_cases e : j = m
    · subst e; unfold labS at h; rw [Bool.and_eq_true] at h; exact h.2.1
    · exact labJ_lit h.1 (by omega)
theorem labJ_asc {l : List Int} : ∀ {m j : Nat}, labJ l m = true → j < m → (j : Int) + 1 ≤ absI (l[j]?.getD 0)
  | 0, j, _, h => by omega
  | m + 1, j, h, hj => by
    have hl := labJ_lit h hj
    have hab := litB_abs hl
    unfold labJ at h
    rw [Bool.and_eq_true] at h
    by_cases e : j = m
    · subst e
      rcases Nat.eq_zero_or_pos j with h0 | h0
      · subst h0; omega
      · have hs := h.2
        unfold labS at hs
        rw [Bool.and_eq_true, Bool.or_eq_true, decide_eq_true_eq, decide_eq_true_eq] at hs
        have := labJ_asc h.1 (show j - 1 < j by omega)
        rcases hs.2 with h1 | h1
        · omega
        · omega
    · exact labJ_asc h.1 (by omega)
theorem labR_len {l : List Int} (h : labR l = true) : l.length ≤ 3 := by
  unfold labR at h
  rcases Nat.eq_zero_or_pos l.length with h0 | h0
  · omega
  · have a := labJ_asc h (show l.length - 1 < l.length by omega)
    have b := (litB_abs (labJ_lit h (show l.length - 1 < l.length by omega))).2
    omega
theorem labR_lit {l : List Int} (h : labR l = true) {x : Int} (hx : x ∈ l) : litB x = true := by
  obtain ⟨j, hj, rfl⟩ := List.getElem_of_mem hx
  have := labJ_lit h hj
  rwa [List.getElem?_eq_getElem hj] at this
def valB (x : Int) : Bool := decide (-1 ≤ x) && decide (x ≤ 1)
def valR (v : List Int) : Bool := v.all valB && decide (v.length = 3)
theorem valR_ok {v : List Int} (h : valR v = true) : v.length = 3 ∧ ∀ x ∈ v, -1 ≤ x ∧ x ≤ 1 := by
  unfold valR at h
  rw [Bool.and_eq_true, List.all_eq_true] at h
  refine ⟨of_decide_eq_true h.2, fun x hx => ?_⟩
  have := h.1 x hx
  unfold valB at this
  rw [Bool.and_eq_true] at this
  exact ⟨of_decide_eq_true this.1, of_decide_eq_true this.2⟩
theorem allV_take_of (v : List Int) (k : Nat) (h : k < v.length) (ha : (v.take k).all valB = true) (hp : valB v[k] = true) : (v.take (k + 1)).all valB = true := by
  rw [List.take_add_one, List.getElem?_eq_getElem h, List.all_append, ha]; simpa using hp
theorem valR_not {v : List Int} {k : Nat} (h : k < v.length) (hp : valB v[k] = false) : valR v = false := by
  have : v.all valB = false := by rw [List.all_eq_false]; exact ⟨v[k], List.getElem_mem _, by simp [hp]⟩
  unfold valR; rw [this, Bool.false_and]
theorem valR_all {v : List Int} (ha : (v.take v.length).all valB = true) : valR v = decide (v.length = 3) := by
  rw [List.take_of_length_le (Nat.le_refl _)] at ha
  unfold valR; rw [ha, Bool.true_and]
/-- The state of a literal under values. -/
def litV (v : List Int) (x : Int) : Int := if x < 0 then -(v[(absI x - 1).toNat]?.getD 0) else v[(absI x - 1).toNat]?.getD 0
def stJ (l v : List Int) : Nat → Int
  | 0 => 1
  | j + 1 => min (stJ l v j) (litV v (l[j]?.getD 0))
def stR (l v : List Int) : Int := if labR l && valR v then stJ l v l.length else -1
theorem litV_rng {v : List Int} (h : valR v = true) {x : Int} (hx : litB x = true) : -1 ≤ litV v x ∧ litV v x ≤ 1 := by
  obtain ⟨h1, h2⟩ := valR_ok h
  have hab := litB_abs hx
  have hm : ∃ y, v[(absI x - 1).toNat]? = some y ∧ y ∈ v := ⟨_, List.getElem?_eq_getElem (by omega), List.getElem_mem _⟩
  obtain ⟨y, hy, hym⟩ := hm
  have := h2 y hym
  unfold litV
  rw [hy]
  simp only [Option.getD_some]
  split <;> omega
theorem stJ_rng {l v : List Int} (hv : valR v = true) : ∀ {j : Nat}, labJ l j = true → -1 ≤ stJ l v j ∧ stJ l v j ≤ 1
  | 0, _ => by simp [stJ]
  | j + 1, h => by
    have hl := labJ_lit h (show j < j + 1 by omega)
    have hr := litV_rng hv hl
    unfold labJ at h
    rw [Bool.and_eq_true] at h
    have := stJ_rng hv h.1
    unfold stJ
    omega
def hasR (l : List Int) (n : Int) : Bool := l.any (fun x => decide (x = n))
theorem hasR_at {l : List Int} {n : Int} {j : Nat} (hj : j < l.length) (h : l[j] = n) : hasR l n = true := by
  unfold hasR; rw [List.any_eq_true]; exact ⟨l[j], List.getElem_mem _, by simp [h]⟩
theorem hasR_none {l : List Int} {n : Int} (h : (l.take l.length).any (fun x => decide (x = n)) = false) : hasR l n = false := by
  rw [List.take_of_length_le (Nat.le_refl _)] at h; exact h
theorem anyH_take {l : List Int} {n : Int} {j : Nat} (hj : j < l.length) (ha : (l.take j).any (fun x => decide (x = n)) = false) (hx : l[j] ≠ n) : (l.take (j + 1)).any (fun x => decide (x = n)) = false := by
  rw [List.take_add_one, List.getElem?_eq_getElem hj, List.any_append, ha]; simpa using hx
def impR (a b : List Int) : Bool := (labR a && labR b) && b.all (hasR a)
theorem allI2_take_of (a b : List Int) (k : Nat) (h : k < b.length) (ha : (b.take k).all (hasR a) = true) (hp : hasR a b[k] = true) : (b.take (k + 1)).all (hasR a) = true := by
  rw [List.take_add_one, List.getElem?_eq_getElem h, List.all_append, ha]; simpa using hp
theorem impR_not {a b : List Int} {k : Nat} (h : k < b.length) (hp : hasR a b[k] = false) : impR a b = false := by
  have : b.all (hasR a) = false := by rw [List.all_eq_false]; exact ⟨b[k], List.getElem_mem _, by simp [hp]⟩
  unfold impR; rw [this, Bool.and_false]
def woR (l : List Int) (p : Int) : List Int := l.filter (fun x => decide (x ≠ p) && decide (x ≠ IntKind.i64.wrap (-p)))
theorem wo_next {l : List Int} {p : Int} {j : Nat} {x : Int} (h : l[j]? = some x) : woR (l.take (j + 1)) p = woR (l.take j) p ++ (if x ≠ p ∧ x ≠ IntKind.i64.wrap (-p) then [x] else []) := by
  unfold woR
  rw [List.take_add_one, h, List.filter_append]
  congr 1
  by_cases e : x ≠ p ∧ x ≠ IntKind.i64.wrap (-p)
  · rw [if_pos e]; simp [e.1, e.2]
  · rw [if_neg e]
    simp
    intro h1; exact Classical.byContradiction fun h2 => e ⟨h1, h2⟩
theorem wo_len (l : List Int) (p : Int) (j : Nat) : (woR (l.take j) p).length ≤ j := by
  unfold woR
  have h1 := List.length_filter_le (fun x => decide (x ≠ p) && decide (x ≠ IntKind.i64.wrap (-p))) (l.take j)
  rw [List.length_take] at h1
  omega
def czR (v : List Int) : Int := ((v.filter (fun x => decide (x = 0))).length : Nat)
theorem cz_next {ts : List Int} {j : Nat} {x : Int} (h : ts[j]? = some x) : czR (ts.take (j + 1)) = czR (ts.take j) + (if x = 0 then 1 else 0) := by
  unfold czR
  rw [List.take_add_one, h, List.filter_append]
  by_cases e : x = 0
  · simp [e]
  · simp [e]
theorem cz_le (ts : List Int) (j : Nat) : 0 ≤ czR (ts.take j) ∧ czR (ts.take j) ≤ j := by
  unfold czR
  have h1 := List.length_filter_le (fun x : Int => decide (x = 0)) (ts.take j)
  rw [List.length_take] at h1
  omega
/-- The label that joins two. -/
def jnP (a b : List Int) (p : Nat) : Option (List Int) :=
  if hasR a p || hasR b p then (if hasR a (-(p : Int)) || hasR b (-(p : Int)) then none else some [(p : Int)]) else (if hasR a (-(p : Int)) || hasR b (-(p : Int)) then some [-(p : Int)] else some [])
def jnJ (a b : List Int) : Nat → Option (List Int)
  | 0 => some []
  | j + 1 => match jnJ a b j with | some o => (match jnP a b (j + 1) with | some q => some (o ++ q) | none => none) | none => none
def jnR (a b : List Int) : List Int × Bool := if labR a && labR b then (match jnJ a b 3 with | some o => (o, true) | none => ([], false)) else ([], false)
theorem jnJ_none {a b : List Int} {j : Nat} (h : jnJ a b j = none) : ∀ {m : Nat}, j ≤ m → jnJ a b m = none
  | 0, hm => by obtain rfl : j = 0 := by omega
                exact h
  | m + 1, hm => by
    by_cases e : j = m + 1
    · subst e; exact h
    · unfold jnJ; rw [jnJ_none h (show j ≤ m by omega)]
theorem jnP_len {a b : List Int} {p : Nat} {q : List Int} (h : jnP a b p = some q) : q.length ≤ 1 := by
  unfold jnP at h
  split at h <;> split at h <;> first | (injection h with h; subst h; simp) | cases h
theorem jnJ_len {a b : List Int} : ∀ {j : Nat} {o : List Int}, jnJ a b j = some o → o.length ≤ j
  | 0, o, h => by unfold jnJ at h; injection h with h; subst h; simp
  | j + 1, o, h => by
    unfold jnJ at h
    split at h
    · next o1 h1 =>
      split at h
      · next q hq =>
        injection h with h
        subst h
        have := jnJ_len h1
        have := jnP_len hq
        rw [List.length_append]; omega
      · cases h
    · cases h
theorem jnR_len (a b : List Int) : (jnR a b).1.length ≤ 3 := by
  unfold jnR
  split
  · split
    · next o ho => exact jnJ_len ho
    · simp
  · simp

end Go.Proofs.YtaokabkffnjbjaaDoor

namespace Go.Proofs.YtaokabkffnjbjaaDoor
set_option linter.unusedVariables false
set_option linter.unusedSimpArgs false

def okI (l h : Int) : Bool := decide (-1000000 ≤ l ∧ l ≤ h ∧ h ≤ 1000000 ∧ l ≠ 1000000 ∧ h ≠ -1000000)
theorem okI_of {l h : Int} (k : okI l h = true) : -1000000 ≤ l ∧ l ≤ h ∧ h ≤ 1000000 ∧ l ≠ 1000000 ∧ h ≠ -1000000 := of_decide_eq_true k

def clampI (n : Int) : Int := if n < -1000000 then -1000000 else if 1000000 < n then 1000000 else n
def addI (a b : Int) : Int := if 1000000 ≤ a ∨ 1000000 ≤ b then 1000000 else if a ≤ -1000000 ∨ b ≤ -1000000 then -1000000 else clampI (a + b)
def lowI (a b : Int) : Int := if a ≤ -1000000 ∨ b ≤ -1000000 then -1000000 else addI a b
def inI (l h n : Int) : Bool := okI l h && decide ((l = -1000000 ∨ l ≤ n) ∧ (h = 1000000 ∨ n ≤ h))
def ivV (l h : Int) : Value := .agg #[.int .i64 l, .int .i64 h]
/-- An interval, or the zero value. -/
def orZ (b : Bool) (l h : Int) : Value := if b then ivV l h else ivV 0 0
theorem clampI_rng (n : Int) : -1000000 ≤ clampI n ∧ clampI n ≤ 1000000 := by unfold clampI; split <;> (try split) <;> omega
theorem addI_rng (a b : Int) : -1000000 ≤ addI a b ∧ addI a b ≤ 1000000 := by
  unfold addI
  split
  · omega
  · split
    · omega
    · exact clampI_rng _
theorem lowI_rng (a b : Int) : -1000000 ≤ lowI a b ∧ lowI a b ≤ 1000000 := by
  unfold lowI
  split
  · omega
  · exact addI_rng a b
theorem lowI_addI {a b : Int} (ha : a < 1000000) (hb : b < 1000000) : lowI a b = addI a b := by
  unfold lowI addI
  by_cases h : a ≤ -1000000 ∨ b ≤ -1000000
  · rw [if_pos h, if_neg (by omega), if_pos h]
  · rw [if_neg h]

end Go.Proofs.YtaokabkffnjbjaaDoor

namespace Go.Proofs.YtaokabkffnjbjaaDoor
open Go.RowKit
set_option linter.unusedVariables false
set_option linter.unusedSimpArgs false

theorem bool_ans {a b : Bool} (h : a = true ↔ b = true) : Ending.returned (Value.bool a) = .returned (.bool b) := by rw [Bool.eq_iff_iff.2 h]
theorem int_ans {a b : Int} (h : a = b) : Ending.returned (Value.int .i64 a) = .returned (.int .i64 b) := by rw [h]
theorem iv_ans {a b c d : Int} (h : a = c) (k : b = d) : Ending.returned (Value.agg #[.int .i64 a, .int .i64 b]) = .returned (ivV c d) := by rw [h, k]; rfl
theorem below_one {w : World} (o : Obj) : Below w.heap.size w (w.alloc o) := (Below.refl _ w).alloc (Nat.le_refl _) o

end Go.Proofs.YtaokabkffnjbjaaDoor

namespace Go.Proofs.YtaokabkffnjbjaaDoor
open Go.RowKit
set_option linter.unusedVariables false
set_option linter.unusedSimpArgs false

def okE (n : Int) (e : GE) : Bool := decide (0 ≤ e.u ∧ e.u < n) && decide (0 ≤ e.v ∧ e.v < n) && decide (-1000000 < e.c ∧ e.c < 1000000)
def okG (n : Int) (es : List GE) : Bool := decide (0 ≤ n ∧ n ≤ 8 ∧ es.length ≤ 80) && es.all (okE n)

theorem all_take_of (es : List GE) (p : GE → Bool) (k : Nat) (h : k < es.length) (ha : (es.take k).all p = true) (hp : p es[k] = true) : (es.take (k + 1)).all p = true := by
  rw [List.take_add_one, List.getElem?_eq_getElem h, List.all_append, ha]; simpa using hp
theorem all_not_of (es : List GE) (p : GE → Bool) (k : Nat) (h : k < es.length) (hp : p es[k] = false) : es.all p = false := by
  rw [List.all_eq_false]; exact ⟨es[k], List.getElem_mem _, by simp [hp]⟩
theorem okG_not (n : Int) (es : List GE) (k : Nat) (h : k < es.length) (hp : okE n es[k] = false) : okG n es = false := by
  unfold okG; rw [all_not_of es _ k h hp, Bool.and_false]
theorem okG_big (n : Int) (es : List GE) (h : ¬ (0 ≤ n ∧ n ≤ 8 ∧ es.length ≤ 80)) : okG n es = false := by
  unfold okG; rw [decide_eq_false h, Bool.false_and]
theorem okG_all (n : Int) (es : List GE) (h : 0 ≤ n ∧ n ≤ 8 ∧ es.length ≤ 80) (ha : (es.take es.length).all (okE n) = true) : okG n es = true := by
  rw [List.take_of_length_le (Nat.le_refl _)] at ha
  unfold okG; rw [decide_eq_true h, ha]; rfl
theorem ret_b {a b : Bool} (h : a = b) : Ending.returned (.bool a) = .returned (.bool b) := by rw [h]

end Go.Proofs.YtaokabkffnjbjaaDoor

namespace Go.Proofs.YtaokabkffnjbjaaDoor
open Go.RowKit Go.ChangeShapes Go.WideShapes Go.ChangeAt Go.WideMaps Go.WideElems
set_option linter.unusedVariables false
set_option linter.unusedSimpArgs false

def intV (z : Int) : Value := .int .i64 z
theorem intV_eq (z : Int) : intV z = .int .i64 z := rfl
theorem cells_int1 : Tryd.prog.cellsOf 3 = 1 := by kernel_rfl
theorem Tryd.info3 : (Tryd.prog.info? 3).map (fun i => (i.zero, i.size, i.bytes)) = some (some (.int .i64 0), 1, 8) := by kernel_rfl

/-- A slice of ints that comes in, nil or not: the ints it reads as, and where they lie. -/
theorem ints_in {H : Type} {enc : TypeId × Value → H} {P : Program} {W : World} {t e : TypeId} {fuel n c : Nat} {A : Option Addr} {x : DataW H × List MemPlace}
    (ht : P.underlying t = some (.slice e)) (he : P.underlying e = some (.int .i64)) (hc : P.cellsOf e = 1)
    (hf : DataW.trod enc P W 0 (fun _ => true) true fuel t (Value.slice A n c).cells.toList = some x) :
    ∃ zs : List Int, zs.length = n ∧ n ≤ maxLen ∧ (∀ y ∈ zs, (Lit.int .i64 y).wf = true) ∧ RowAt W A (zs.map intV) := by
  rcases Go.ChangeShapes.open_ints ht he hc hf with ⟨hcs, _⟩ | ⟨a, len, cap, ss, hcs, _, hl, hm, hz, _, hcell, hws⟩
  · simp [Value.cells] at hcs
    obtain ⟨rfl, rfl, rfl⟩ := hcs
    exact ⟨[], rfl, Nat.zero_le _, by simp, fun h => by simp at h⟩
  · simp [Value.cells] at hcs
    obtain ⟨rfl, rfl, rfl⟩ := hcs
    have hlen : ss.length = c := by simpa using hz
    refine ⟨ss.take n, by simp; omega, by omega, fun y hy => hws y (List.mem_of_mem_take hy), fun hp => ?_⟩
    have hp2 : 0 < n := by
      simp at hp
      omega
    have h0 := hcell 0 (by omega)
    obtain ⟨b, off, spot⟩ := a
    have hspot : spot = none := by simpa [Addr.add] using World.cell?_spot h0
    subst hspot
    refine ⟨b, off, rfl, ?_, fun j hj => ?_⟩
    · rcases Nat.lt_or_ge b W.heap.size with hlt | hge
      · exact hlt
      · have : W.heap[b]? = none := Array.getElem?_eq_none hge
        simp [Addr.add, World.cell?, this] at h0
    · have hj2 : j < n ∧ j < ss.length := by
        simp at hj
        omega
      rw [← Go.WideShapes.add_plain, hcell j hj2.2, List.getElem_map, List.getElem_take, List.getD_eq_getElem?_getD, List.getElem?_eq_getElem hj2.2]
      rfl

theorem put_int (xs : List Value) (z : Value) (n k : Nat) (u : Value) (hx : xs[k]? = some u) (hn : xs.length = n) (hk : k < n) :
    (xs.take k ++ List.replicate (n - k) z).set k u = xs.take (k + 1) ++ List.replicate (n - (k + 1)) z := by
  have h1 : (xs.take k).length = k := by simp; omega
  have e : n - k = (n - (k + 1)) + 1 := by omega
  rw [List.set_append_right _ _ (by omega), h1, Nat.sub_self, e, List.replicate_succ, List.set_cons_zero, List.take_add_one, hx]
  simp

set_option maxRecDepth 100000 in
set_option maxHeartbeats 400000 in
theorem toIntS_any (zs : List Int) (A : Option Addr) (n c : Nat) (w : World) (hn : zs.length = n) (hm : n ≤ 1099511627776) (hr : RowAt w A (zs.map intV)) :
    Calls Tryd.prog 17 #[.slice A n c] w fun e w' => ∃ v, e = .returned v ∧ w'.ownsRow w.heap.size 3 1 v n (zs.map intV) ∧ Below w.heap.size w w' := by
  obtain ⟨i0, hi, hz0, hz1, hz2⟩ := info_parts Tryd.info3
  have hb2 : i0.bytes * n ≤ 281474976710656 := by rw [hz2]; omega
  have HR := Lib.hid hr
  have HL := Lib.hid hn
  clear hr hn
  go_enter Tryd.func17, Tryd.ntmps17
  go_wp2_with (refine wpList_make_full _ rfl _ _ 23 rfl w.heap.size 3 i0 (.int .i64 0) 1 Tryd.underlying23 hi hz0 hz1 .i64 .i64 _ _ n rfl rfl rfl rfl hb2 (by unfold maxLen; omega) (Nat.le_refl _) ?_)
  intro w1 h1 g1
  rw [toList_madeCells_one] at h1
  have b1 : Below w.heap.size w w1 := (Below.refl _ w).grown g1 (Nat.le_refl _) (fun k hk => by cases hk)
  clear g1
  go_wp2
  go_loopw [4] (fun i wr => ∃ k : Nat, k ≤ n ∧ i = .int .i64 k ∧ wr.ownsRow w.heap.size 3 1 (.slice (some ⟨w.heap.size, 0, none⟩) n n) n ((zs.map intV).take k ++ List.replicate (n - k) (.int .i64 0)) ∧ Below w.heap.size w wr) (fun i _ => n - (intOf i).toNat)
  case atStart => exact ⟨0, Nat.zero_le _, rfl, by simpa using h1, b1⟩
  case round =>
    obtain ⟨k, hk, rfl, hown, hbw⟩ := hrel
    by_cases hlt : k < n
    · have hl := HL.out
      obtain ⟨g, o, rfl, hg, hc⟩ := HR.out (by simp; omega)
      obtain ⟨x, h1, hx2⟩ : ∃ x : Int, wr.cell? ⟨g, o + k, none⟩ = some (.int .i64 x) ∧ Hid ((zs.map intV)[k]? = some (.int .i64 x)) :=
        ⟨zs[k]'(by omega), (hbw.cell (p := ⟨g, o + k, none⟩) hg).trans ((hc k (by simp; omega)).trans (by rw [List.getElem_map]; rfl)), Lib.hid (by rw [List.getElem?_map, List.getElem?_eq_getElem (by omega)]; rfl)⟩
      have hcell := hown.cellAt k (by omega)
      obtain ⟨y, hy⟩ : ∃ y, wr.cell? ⟨w.heap.size, k, none⟩ = some y := by
        rw [hcell]
        exact ⟨_, List.getElem?_eq_getElem (by simp; omega)⟩
      have hfz := hown.frozenAt k
      have HST := Lib.hid (hown.stored k (.int .i64 x))
      clear hc hl hcell hown
      go_wp2
      go_roundw
      case rel =>
        refine ⟨k + 1, by omega, by go_num, ?_, hbw.setCell (Nat.le_refl _) _⟩
        have h2 := HST.out.1
        rw [put_int (zs.map intV) (.int .i64 0) n k _ hx2.out (by have := HL.out; simp; omega) hlt] at h2
        exact h2
      case measure => simp [intOf]; omega
    · go_wp2
      go_ret
      have hkn : k = n := by omega
      subst hkn
      refine ⟨_, rfl, ?_, hbw⟩
      have hl := HL.out
      simpa [List.take_of_length_le, hl] using hown

set_option maxRecDepth 100000 in
set_option maxHeartbeats 400000 in
theorem eqIntS_same (zs : List Int) (A B : Option Addr) (n ca cb : Nat) (w : World) (hn : zs.length = n) (hm : n ≤ maxLen) (ha : RowAt w A (zs.map intV)) (hb : RowAt w B (zs.map intV)) :
    Calls Tryd.prog 18 #[.slice A n ca, .slice B n cb] w fun e w' => e = .returned (.bool true) ∧ ∃ q, w' = w.drewN q := by
  unfold maxLen at hm
  have HA := Lib.hid ha
  have HB := Lib.hid hb
  have HL := Lib.hid hn
  clear ha hb hn
  have hne : ((n : Int) != (n : Int)) = false := by simp
  go_enter Tryd.func18, Tryd.ntmps18
  go_wp2
  go_loopw [5] (fun i wr => ∃ k : Nat, k ≤ n ∧ i = .int .i64 k ∧ ∃ q, wr = w.drewN q) (fun i _ => n - (intOf i).toNat)
  case atStart => exact ⟨0, Nat.zero_le _, rfl, 0, rfl⟩
  case round =>
    obtain ⟨k, hk, rfl, q, rfl⟩ := hrel
    by_cases hlt : k < n
    · have hl := HL.out
      obtain ⟨g, o, rfl, hg, hc⟩ := HA.out (by simp; omega)
      obtain ⟨g', o', rfl, hg', hc'⟩ := HB.out (by simp; omega)
      obtain ⟨x, h1, h2⟩ : ∃ x : Int, w.cell? ⟨g, o + k, none⟩ = some (.int .i64 x) ∧ w.cell? ⟨g', o' + k, none⟩ = some (.int .i64 x) :=
        ⟨zs[k]'(by omega), (hc k (by simp; omega)).trans (by rw [List.getElem_map]; rfl), (hc' k (by simp; omega)).trans (by rw [List.getElem_map]; rfl)⟩
      clear hc hc' hl
      have hxx : ((x : Int) != x) = false := by simp
      go_wp2
      go_quiet (fail)
      go_wp2
      go_roundw
      case rel => exact ⟨k + 1, by omega, by go_num, q + nq, rfl⟩
      case measure => simp [intOf]; omega
    · go_wp2
      go_ret
      exact ⟨rfl, q, rfl⟩

def imarks (k n : Nat) : List Value := (List.range n).map fun i => intV ((k + i : Nat) : Int)
theorem imarks_length (k n : Nat) : (imarks k n).length = n := by simp [imarks]
theorem imarks_at (k n j : Nat) (h : j < (imarks k n).length) : (imarks k n)[j] = .int .i64 ((k + j : Nat) : Int) := by simp [imarks, intV]
theorem imarks_step (k j : Nat) (xs : List Value) (h : j < xs.length) : (imarks k j ++ xs.drop j).set j (.int .i64 ((k + j : Nat) : Int)) = imarks k (j + 1) ++ xs.drop (j + 1) := by
  have e : imarks k (j + 1) = imarks k j ++ [.int .i64 ((k + j : Nat) : Int)] := by simp [imarks, List.range_succ, intV]
  have h1 : (imarks k j).length = j := imarks_length k j
  rw [e, List.set_append, if_neg (by omega), h1, Nat.sub_self, List.append_assoc, List.drop_eq_getElem_cons h]
  rfl

set_option maxRecDepth 100000 in
set_option maxHeartbeats 400000 in
theorem markIntS_any (A : Option Addr) (n c B k : Nat) (xs : List Value) (w : World) (hk : 0 < k) (hn : k + n ≤ 1099511627776) (hown : w.ownsRow B 3 1 (.slice A n c) n xs) :
    Calls Tryd.prog 20 #[.slice A n c, .int .i64 k] w fun e w' => e = .returned (.int .i64 ((k : Int) + n)) ∧ w'.ownsRow B 3 1 (.slice A n c) n (imarks k n) ∧ w.grownBy w' (Value.slice A n c).ownBlock := by
  have HO := Lib.hid hown
  have hl0 : xs.length = n := by simpa using hown.1
  have HL := Lib.hid hl0
  clear hown hl0
  go_enter Tryd.func20, Tryd.ntmps20
  go_wp2
  go_loopw [1, 5] (fun kk i wr => ∃ j : Nat, j ≤ n ∧ i = .int .i64 j ∧ kk = .int .i64 ((k : Int) + j) ∧ wr.ownsRow B 3 1 (.slice A n c) n (imarks k j ++ xs.drop j) ∧ w.grownBy wr (Value.slice A n c).ownBlock) (fun _ i _ => n - (intOf i).toNat)
  case atStart => exact ⟨0, Nat.zero_le _, rfl, by simp, by simpa [imarks] using HO.out, World.grownBy.refl _ _⟩
  case round =>
    obtain ⟨j, hj, rfl, rfl, hown, hgr⟩ := hrel
    by_cases hlt : j < n
    · obtain ⟨g, cap, hA, hBg, hg⟩ := hown.form (by omega)
      obtain ⟨rfl, rfl⟩ : A = some ⟨g, 0, none⟩ ∧ c = cap := by simpa using hA
      clear hA
      have hcell := hown.cellAt j (by omega)
      obtain ⟨y, hy⟩ : ∃ y, wr.cell? ⟨g, j, none⟩ = some y := by
        rw [hcell]
        have hl := HL.out
        exact ⟨_, List.getElem?_eq_getElem (by simp [imarks_length]; omega)⟩
      have hfz := hown.frozenAt j
      have HS := Lib.hid (hown.stored j (.int .i64 ((k + j : Nat) : Int)))
      have HG := Lib.hid hgr
      clear hown hgr hcell
      go_wp2
      go_roundw
      case rel =>
        have hl := HL.out
        have h1 := HS.out.1
        rw [imarks_step k j xs (by omega)] at h1
        refine ⟨j + 1, by omega, by go_num, by rw [show ((j + 1 : Nat) : Int) = (j : Int) + 1 from by omega, Int.add_assoc], h1, ?_⟩
        exact grown_trans HG.out HS.out.2
      case measure => simp [intOf]; omega
    · go_wp2
      go_ret
      have hjn : j = n := by omega
      subst hjn
      have hl := HL.out
      refine ⟨rfl, ?_, hgr⟩
      simpa [← hl] using hown

set_option maxRecDepth 100000 in
set_option maxHeartbeats 400000 in
theorem heldIntS_any (A : Option Addr) (n c k : Nat) (w : World) (hk : 0 < k) (hn : k + n ≤ 1099511627776) (hrow : RowAt w A (imarks k n)) :
    Calls Tryd.prog 21 #[.slice A n c, .int .i64 k] w fun e w' => e = .returned (.int .i64 ((k : Int) + n)) ∧ w' = w := by
  have HO := Lib.hid hrow
  clear hrow
  go_enter Tryd.func21, Tryd.ntmps21
  go_wp2
  go_loop [1, 5] (fun kk i => ∃ j : Nat, j ≤ n ∧ i = .int .i64 j ∧ kk = .int .i64 ((k : Int) + j)) (fun _ i => n - (intOf i).toNat)
  case atStart => exact ⟨0, Nat.zero_le _, rfl, by simp⟩
  case round =>
    obtain ⟨j, hj, rfl, rfl⟩ := hrel
    by_cases hlt : j < n
    · obtain ⟨g, o, rfl, hg, hc⟩ := HO.out (by rw [imarks_length]; omega)
      have hc1 := (hc j (by rw [imarks_length]; omega)).trans (by rw [imarks_at])
      clear hc
      rw [show ((k + j : Nat) : Int) = (k : Int) + j from by omega] at hc1
      have hxx : (((k : Int) + j) != ((k : Int) + j)) = false := by simp
      go_wp2
      go_round
      case rel => exact ⟨j + 1, by omega, by go_num, by rw [show ((j + 1 : Nat) : Int) = (j : Int) + 1 from by omega, Int.add_assoc]⟩
      case measure => simp [intOf]; omega
    · go_wp2
      go_ret
      have hjn : j = n := by omega
      subst hjn
      exact ⟨rfl, rfl⟩

theorem own_row {w : World} {B e n c : Nat} {A : Option Addr} {xs : List Value} (h : w.ownsRow B e 1 (.slice A n c) n xs) : RowAt w A xs := by
  obtain ⟨A', c', hv, _, hr⟩ := own_form h
  injection hv with hA
  rw [hA]; exact hr

end Go.Proofs.YtaokabkffnjbjaaDoor

namespace Go.Proofs.YtaokabkffnjbjaaDoor
open Go.RowKit
set_option linter.unusedVariables false
set_option linter.unusedSimpArgs false

theorem row_getB {w : World} {A : Option Addr} {zs : List Int} (h : RowAt w A (zs.map intV)) {q : Nat} (hq : q < zs.length) : ∃ g o, A = some ⟨g, o, none⟩ ∧ g < w.heap.size ∧ w.cell? ⟨g, o + q, none⟩ = some (.int .i64 zs[q]) := by
  obtain ⟨g, o, hA, hg, hc⟩ := h (by simp; omega)
  refine ⟨g, o, hA, hg, ?_⟩
  have := hc q (by simp; omega)
  simpa [intV] using this
set_option maxRecDepth 100000 in
set_option maxHeartbeats 4000000 in
theorem prop_any (x : Int) (h : -3 ≤ x ∧ x ≤ 3) (w : World) : Calls Tryd.prog 36 #[.int .i64 x] w fun e w' => e = .returned (.int .i64 (absI x)) ∧ w = w' := by
  by_cases h0 : x < 0
  · go_enter Tryd.func36, Tryd.ntmps36
    go_wp2
    go_ret
    exact ⟨int_ans (by unfold absI; rw [if_pos (by omega)]), rfl⟩
  · go_enter Tryd.func36, Tryd.ntmps36
    go_wp2
    go_ret
    exact ⟨int_ans (by unfold absI; rw [if_neg (by omega)]), rfl⟩

set_option maxRecDepth 100000 in
set_option maxHeartbeats 4000000 in
theorem spec_LabelOk (l : List Int) (A : Option Addr) (k c : Nat) (w : World) (hl : l.length = k) (hm : k ≤ 1048576) (hr : RowAt w A (l.map intV)) : Calls Tryd.prog 34 #[.slice A k c] w fun e w' => e = .returned (.bool (labR l)) ∧ w = w' := by
  have HR := Lib.hid hr
  have HL := Lib.hid hl
  clear hr hl
  go_enter Tryd.func34, Tryd.ntmps34
  go_wp2_with fail
  go_loopw [7] (fun i wr => ∃ j : Nat, j ≤ k ∧ i = .int .i64 j ∧ labJ l j = true ∧ wr = w) (fun i _ => k - (intOf i).toNat)
  case atStart => exact ⟨0, Nat.zero_le _, rfl, rfl, rfl⟩
  case round =>
    obtain ⟨j, hj, rfl, hall, hw⟩ := hrel
    obtain rfl : w = wr := hw.symm
    have HA := Lib.hid hall
    clear hall hw
    by_cases hlt : j < k
    · have hjl : ((j : Int) < (k : Int)) := by omega
      obtain ⟨g, o, rfl, hg, hc⟩ := row_getB HR.out (q := j) (by have := HL.out; omega)
      obtain ⟨x, hx⟩ : ∃ x, x = l[j]'(by have := HL.out; omega) := ⟨_, rfl⟩
      have hxd : l[j]?.getD 0 = x := by rw [hx, List.getElem?_eq_getElem (by have := HL.out; omega)]; rfl
      rw [← hx] at hc
      have HXD := Lib.hid hxd
      have HNO := Lib.hid (fun (h : labS l j x = false) => show labR l = false from by unfold labR; exact labJ_no (j := j + 1) (by rw [labJ_next, hxd, h, Bool.and_false]) (by have := HL.out; omega))
      have HYES := Lib.hid (fun (h : labS l j x = true) => show labJ l (j + 1) = true from by rw [labJ_next, hxd, h, HA.out]; rfl)
      clear hx hxd
      have h0 := l01In_any x (-3) 3
      obtain ⟨bi, hbi⟩ : ∃ b, b = (decide (-3 ≤ x) && decide (x ≤ 3)) := ⟨_, rfl⟩
      rw [← hbi] at h0
      have H0 := Lib.hid h0
      have HBI := Lib.hid hbi
      clear h0 hbi
      by_cases hx0 : x = 0
      · have hxb : (x == 0) = true := by simp [hx0]
        have HV := Lib.hid (HNO.out (by unfold labS litB; rw [decide_eq_false (by omega)]; rfl))
        clear hx0
        go_wp2_with fail
        go_ret
        exact ⟨ret_b HV.out.symm, rfl⟩
      · have hxb : (x == 0) = false := by simp [hx0]
        have HX0 := Lib.hid hx0
        clear hx0
        cases bi with
        | false =>
          have HV := Lib.hid (HNO.out (by unfold labS litB; rw [← HBI.out, Bool.and_false, Bool.false_and]))
          go_wp2_with fail
          refine (H0.out _).mono ?_
          rintro e w2 ⟨rfl, rfl⟩
          go_wp2_with fail
          go_ret
          exact ⟨ret_b HV.out.symm, rfl⟩
        | true =>
          have hlit : litB x = true := by unfold litB; rw [← HBI.out, decide_eq_true HX0.out]; rfl
          have hx3 : -3 ≤ x ∧ x ≤ 3 := by have := litB_of hlit; omega
          have HLT := Lib.hid hlit
          clear hlit
          by_cases hj0 : j = 0
          · have hjn : ¬ ((0 : Int) < (j : Int)) := by omega
            have HV := Lib.hid (HYES.out (by unfold labS; rw [HLT.out, decide_eq_true hj0]; rfl))
            clear hj0
            go_wp2_with fail
            refine (H0.out _).mono ?_
            rintro e w2 ⟨rfl, rfl⟩
            go_wp2_with fail
            go_roundw
            case rel => exact ⟨j + 1, by omega, by go_num, HV.out, by first | rfl | trivial⟩
            case measure => simp [intOf]; omega
          · have hjn : ((0 : Int) < (j : Int)) := by omega
            obtain ⟨q, hq⟩ : ∃ q : Nat, j = q + 1 := ⟨j - 1, by omega⟩
            have hjq : (j : Int) - 1 = (q : Int) := by omega
            have iq0 : (0 : Int) ≤ (q : Int) := by omega
            have iq1 : (q : Int) < (k : Int) := by omega
            obtain ⟨g2, o2, hT2, hg2, hc2⟩ := row_getB HR.out (q := q) (by have := HL.out; omega)
            injection hT2 with hT2
            injection hT2 with h4 h5
            subst h4 h5
            obtain ⟨y, hy⟩ : ∃ y, y = l[q]'(by have := HL.out; omega) := ⟨_, rfl⟩
            have hyd : l[j - 1]?.getD 0 = y := by rw [hy, show j - 1 = q by omega, List.getElem?_eq_getElem (by have := HL.out; omega)]; rfl
            rw [← hy] at hc2
            have hly : litB y = true := by rw [← hyd]; exact labJ_lit HA.out (by omega)
            have hy3 : -3 ≤ y ∧ y ≤ 3 := by have := litB_of hly; omega
            have ha : labS l j x = decide (absI y < absI x) := by unfold labS; rw [HLT.out, hyd, decide_eq_false hj0]; rfl
            have hpy := prop_any y hy3
            have hpx := prop_any x hx3
            obtain ⟨p, hp⟩ : ∃ p, p = absI y := ⟨_, rfl⟩
            obtain ⟨r, hr⟩ : ∃ r, r = absI x := ⟨_, rfl⟩
            rw [← hp] at hpy ha
            rw [← hr] at hpx ha
            have HPY := Lib.hid hpy
            have HPX := Lib.hid hpx
            have HAS := Lib.hid ha
            clear hy hyd hly ha hpy hpx hp hr hq hj0
            by_cases hpr : p < r
            · have hge : ¬ (r ≤ p) := by omega
              have HV := Lib.hid (HYES.out (by rw [HAS.out]; exact decide_eq_true hpr))
              go_wp2_with fail
              refine (H0.out _).mono ?_
              rintro e w2 ⟨rfl, rfl⟩
              go_wp2_with fail
              refine (HPY.out _).mono ?_
              rintro e w3 ⟨rfl, rfl⟩
              go_wp2_with fail
              refine (HPX.out _).mono ?_
              rintro e w4 ⟨rfl, rfl⟩
              go_wp2_with fail
              go_roundw
              case rel => exact ⟨j + 1, by omega, by go_num, HV.out, by first | rfl | trivial⟩
              case measure => simp [intOf]; omega
            · have hge : r ≤ p := by omega
              have HV := Lib.hid (HNO.out (by rw [HAS.out]; exact decide_eq_false hpr))
              go_wp2_with fail
              refine (H0.out _).mono ?_
              rintro e w2 ⟨rfl, rfl⟩
              go_wp2_with fail
              refine (HPY.out _).mono ?_
              rintro e w3 ⟨rfl, rfl⟩
              go_wp2_with fail
              refine (HPX.out _).mono ?_
              rintro e w4 ⟨rfl, rfl⟩
              go_wp2_with fail
              go_ret
              exact ⟨ret_b HV.out.symm, rfl⟩
    · have hjl : ¬ ((j : Int) < (k : Int)) := by omega
      go_wp2_with fail
      go_ret
      exact ⟨ret_b (by unfold labR; have := HA.out; rw [show j = l.length from by have := HL.out; omega] at this; exact this.symm), rfl⟩

end Go.Proofs.YtaokabkffnjbjaaDoor
