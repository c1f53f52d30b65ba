/-
  WALKS over the text utilities that scan a string: spec.IsDigits, impl.isDigit, impl.IsDigits, spec.IsName, impl.isLetter, impl.IsName, spec.l01In.
  WALKS of the laws' own helpers over slices of strings: markText, eqStringS, markStringS, heldStringS, toStringS, szStringS.
  GRAPHS: an edge as three cells, a slice of edges that is read, a graph that comes in.
  LINKS: a link as four cells, a slice of links that is read, a network that comes in.
  PLAIN: the arithmetic of bounds and intervals.
  WALKS of the functions over intervals and bounds: spec's and impl's.
-/
import Derived.Test.YteppmlepbfjnpaaProg
import Derived.WalkKit
import Derived.WalkSpells
import Derived.WalkLawsBesides
import Derived.Lib.OthersKept
import Derived.Lib.Hide
import Derived.Lib.Strings
import Derived.Deep.QuietTactic
import Derived.Deep.RegionWith
import Derived.BigQuiet
import Derived.Laws.Rows
import Derived.Laws.OwnMore
import Derived.Deep.Onto
import Derived.Deep.AppendLies
import Derived.Deep.Slices
import Derived.Deep.Strs
import Derived.ProofKit
import Derived.Lib.SmallJoins
import Derived.Deep.RegionHeld3
import Derived.Below
namespace Go.Proofs.Yteppmlepbfjnpaa
open Go.RowKit
set_option linter.unusedVariables false
set_option linter.unusedSimpArgs false

def isDig (c : UInt8) : Bool := decide (48 ≤ c.toNat) && decide (c.toNat ≤ 57)
def isLet (c : UInt8) : Bool := decide (97 ≤ c.toNat) && decide (c.toNat ≤ 122)
def digitsB (l : List UInt8) : Bool := !l.isEmpty && l.all isDig

theorem take_snoc (s : ByteArray) (k : Nat) (h : k < s.size) : s.data.toList.take (k + 1) = s.data.toList.take k ++ [s[k]] := by
  rw [List.take_succ_eq_append_getElem (by simpa using h)]; rfl

theorem ret_bool {a b : Bool} (h : a = b) : Ending.returned (.bool a) = .returned (.bool b) := by rw [h]

theorem digits_all (s : ByteArray) (h : (s.data.toList.take s.size).all isDig = true) : digitsB s.data.toList = decide (0 < s.size) := by
  have e : s.data.toList.take s.size = s.data.toList := List.take_of_length_le (by simp)
  rw [e] at h
  unfold digitsB
  rw [h, Bool.and_true]
  have : s.data.toList.length = s.size := by simp
  cases hl : s.data.toList with
  | nil => rw [hl] at this; simp at this; simp [← this]
  | cons a t => rw [hl] at this; simp at this; simp [← this]

theorem empty_not (s : ByteArray) : (!s.toList.isEmpty) = decide (0 < s.size) := by
  rw [Lib.toList_data]
  have : s.data.toList.length = s.size := by simp
  cases hl : s.data.toList with
  | nil => rw [hl] at this; simp at this; simp [← this]
  | cons a t => rw [hl] at this; simp at this; simp [← this]

theorem digits_not (s : ByteArray) (k : Nat) (h : k < s.size) (hc : isDig s[k] = false) : digitsB s.data.toList = false := by
  have : s.data.toList.all isDig = false := by
    rw [List.all_eq_false]
    refine ⟨s[k], ?_, by simp [hc]⟩
    have : s[k] = s.data.toList[k]'(by simpa using h) := rfl
    rw [this]; exact List.getElem_mem _
  unfold digitsB; rw [this, Bool.and_false]

set_option maxRecDepth 100000 in
set_option maxHeartbeats 400000 in
theorem l01In_any (n lo hi : Int) (w : World) :
    Calls Try.prog 65 #[.int .i64 n, .int .i64 lo, .int .i64 hi] w fun e w' => e = .returned (.bool (decide (lo ≤ n) && decide (n ≤ hi))) ∧ w = w' := by
  by_cases h1 : lo ≤ n
  · by_cases h2 : n ≤ hi
    all_goals
      go_enter Try.func65, Try.ntmps65
      go_wp2
      go_ret
      exact ⟨ret_bool (by simp [h1, h2]), rfl⟩
  · go_enter Try.func65, Try.ntmps65
    go_wp2
    go_ret
    exact ⟨ret_bool (by rw [decide_eq_false (Int.not_le.2 h1), Bool.false_and]), rfl⟩

theorem width_pos (s : ByteArray) (pos : Nat) (h : pos < s.size) : 1 ≤ (Utf8.decode s pos).2 := by
  by_cases ha : (s[pos]'h).toNat < 128
  · rw [decode_ascii s pos h ha]; exact Nat.le_refl _
  · exact (decode_high s pos h (by omega)).2

/-- What a rune at hand says of the byte at hand: a rune below 128 is the byte, and it is one byte wide. -/
theorem rune_low (s : ByteArray) (pos : Nat) (h : pos < s.size) (hr : (Utf8.decode s pos).1 < 128) : (Utf8.decode s pos).1 = s[pos].toNat ∧ (Utf8.decode s pos).2 = 1 := by
  by_cases ha : (s[pos]'h).toNat < 128
  · rw [decode_ascii s pos h ha]; exact ⟨rfl, rfl⟩
  · have := (decode_high s pos h (by omega)).1; omega

theorem rune_dig (s : ByteArray) (pos : Nat) (h : pos < s.size) : (decide ((48 : Int) ≤ ((Utf8.decode s pos).1 : Int)) && decide (((Utf8.decode s pos).1 : Int) ≤ 57)) = isDig s[pos] := by
  unfold isDig
  by_cases ha : (s[pos]'h).toNat < 128
  · rw [decode_ascii s pos h ha]; simp only
    rw [Bool.eq_iff_iff]; simp; omega
  · have := (decode_high s pos h (by omega)).1
    rw [Bool.eq_iff_iff]; simp; omega

theorem rune_let (s : ByteArray) (pos : Nat) (h : pos < s.size) : (decide ((97 : Int) ≤ ((Utf8.decode s pos).1 : Int)) && decide (((Utf8.decode s pos).1 : Int) ≤ 122)) = isLet s[pos] := by
  unfold isLet
  by_cases ha : (s[pos]'h).toNat < 128
  · rw [decode_ascii s pos h ha]; simp only
    rw [Bool.eq_iff_iff]; simp; omega
  · have := (decode_high s pos h (by omega)).1
    rw [Bool.eq_iff_iff]; simp; omega

theorem dig_width (s : ByteArray) (pos : Nat) (h : pos < s.size) (hd : isDig s[pos] = true) : (Utf8.decode s pos).2 = 1 := by
  unfold isDig at hd
  rw [decode_ascii s pos h (by simp at hd; omega)]

theorem let_width (s : ByteArray) (pos : Nat) (h : pos < s.size) (hd : isLet s[pos] = true) : (Utf8.decode s pos).2 = 1 := by
  unfold isLet at hd
  rw [decode_ascii s pos h (by simp at hd; omega)]

/-! ### Names -/

def nameGo : Nat → List UInt8 → Bool
  | _, [] => true
  | i, c :: t => (isLet c || (decide (0 < i) && isDig c)) && nameGo (i + 1) t
/-- What stands at place i of a name. -/
def nameAt (i : Nat) (c : UInt8) : Bool := isLet c || (decide (0 < i) && isDig c)
def nameB (l : List UInt8) : Bool := decide (1 ≤ l.length) && decide (l.length ≤ 8) && nameGo 0 l

theorem nameGo_snoc (l : List UInt8) : ∀ (i : Nat) (c : UInt8), nameGo i (l ++ [c]) = (nameGo i l && nameAt (i + l.length) c) := by
  induction l with
  | nil => intro i c; simp [nameGo, nameAt]
  | cons a t ih => intro i c; simp [nameGo, ih, Bool.and_assoc]; congr 2; simp [Nat.add_assoc, Nat.add_comm 1]

theorem nameGo_take (s : ByteArray) (k : Nat) (h : k < s.size) : nameGo 0 (s.data.toList.take (k + 1)) = (nameGo 0 (s.data.toList.take k) && nameAt k s[k]) := by
  rw [take_snoc s k h, nameGo_snoc]
  congr 2
  simp; omega

theorem nameGo_false (l : List UInt8) (i k : Nat) (h : nameGo i (l.take k) = false) : nameGo i l = false := by
  induction l generalizing i k with
  | nil => simp at h; exact h
  | cons a t ih =>
    cases k with
    | zero => simp [nameGo] at h
    | succ k =>
      simp only [List.take_succ_cons, nameGo, Bool.and_eq_false_iff] at h ⊢
      exact h.imp id (ih (i + 1) k)

theorem name_not (s : ByteArray) (k : Nat) (h : k < s.size) (hc : nameAt k s[k] = false) : nameGo 0 s.data.toList = false :=
  nameGo_false _ 0 (k + 1) (by rw [nameGo_take s k h, hc, Bool.and_false])

theorem name_all (s : ByteArray) (h : nameGo 0 (s.data.toList.take s.size) = true) : nameB s.data.toList = (decide (1 ≤ (s.size : Int)) && decide ((s.size : Int) ≤ 8)) := by
  have e : s.data.toList.take s.size = s.data.toList := List.take_of_length_le (by simp)
  rw [e] at h
  unfold nameB
  rw [h, Bool.and_true]
  rw [Bool.eq_iff_iff]; simp; omega

theorem nameB_not {l : List UInt8} (h : nameGo 0 l = false) : nameB l = false := by unfold nameB; rw [h, Bool.and_false]

end Go.Proofs.Yteppmlepbfjnpaa

namespace Go.Proofs.Yteppmlepbfjnpaa
open Go.RowKit
set_option linter.unusedVariables false
set_option linter.unusedSimpArgs false

/-! ### markText -/

def markGo : Nat → Nat → List UInt8 → List UInt8
  | 0, _, out => out
  | f + 1, k, out => if k = 0 then out else markGo f (k / 10) (UInt8.ofNat (48 + k % 10) :: out)
def markB (k : Nat) : ByteArray := ⟨(109 :: markGo k k []).toArray⟩

theorem markGo_fuel : ∀ (f k : Nat) (out : List UInt8), k ≤ f → markGo f k out = markGo k k out := by
  intro f
  induction f using Nat.strongRecOn with
  | _ f ih =>
    intro k out h
    match f, k with
    | 0, 0 => rfl
    | f + 1, 0 => simp [markGo]
    | f + 1, k + 1 =>
      have hd : (k + 1) / 10 ≤ k := by omega
      simp only [markGo, Nat.add_one_ne_zero, if_false]
      rw [ih f (by omega) ((k + 1) / 10) _ (by omega)]
      by_cases hk : k < f + 1
      · rw [ih k hk ((k + 1) / 10) _ hd]
      · omega
theorem markGo_step (k : Nat) (out : List UInt8) (h : 0 < k) : markGo k k out = markGo (k / 10) (k / 10) (UInt8.ofNat (48 + k % 10) :: out) := by
  obtain ⟨m, rfl⟩ : ∃ m, k = m + 1 := ⟨k - 1, by omega⟩
  rw [markGo, if_neg (by omega), markGo_fuel m _ _ (by omega)]

/-- A byte as a string. -/
def byteB (c : Nat) : ByteArray := ⟨#[UInt8.ofNat c]⟩
theorem byteB_size (c : Nat) : (byteB c).size = 1 := rfl
theorem byteB_append (c : Nat) (x : ByteArray) : (byteB c ++ x).data.toList = UInt8.ofNat c :: x.data.toList := by
  simp [byteB]
theorem conv_one (w : World) (c : Nat) (h1 : c < 256) :
    (convert 22 9 (.slice (some ⟨w.heap.size, 0, none⟩) 1 1)).run Try.prog (w.alloc (.cells #[.int .u8 c] 5)) = .ok (.string (byteB c)) (w.alloc (.cells #[.int .u8 c] 5)) := by
  have h := run_convert_bytes_back (w.alloc (.cells #[.int .u8 c] 5)) 22 9 5 ⟨w.heap.size, 0, none⟩ 1 [UInt8.ofNat c] Try.underlying22 Try.underlying5 Try.underlying9 (by
    intro j hj
    match j, hj with
    | 0, _ =>
      refine (cell_one_new w _ _ 0 _ rfl).trans ?_
      have : (UInt8.ofNat c).toNat = c := by simp; omega
      simp [this])
  exact h

theorem conv_at (c : Nat) (h1 : c < 256) (w : World) (g : Nat) (hc : w.cell? ⟨g, 0, none⟩ = some (.int .u8 c)) :
    (convert 22 9 (.slice (some ⟨g, 0, none⟩) 1 1)).run Try.prog w = .ok (.string (byteB c)) w := by
  have h := run_convert_bytes_back w 22 9 5 ⟨g, 0, none⟩ 1 [UInt8.ofNat c] Try.underlying22 Try.underlying5 Try.underlying9 (by
    intro j hj
    match j, hj with
    | 0, _ =>
      refine hc.trans ?_
      have : (UInt8.ofNat c).toNat = c := by simp; omega
      simp [this])
  exact h

/-! ### Slices of strings that are read -/

/-- The slice at A (nil, or an address in the heap) holds the values xs, one cell each. -/
def RowAt (w : World) (A : Option Addr) (xs : List Value) : Prop :=
  0 < xs.length → ∃ g o, A = some ⟨g, o, none⟩ ∧ g < w.heap.size ∧ ∀ j (h : j < xs.length), w.cell? ⟨g, o + j, none⟩ = some xs[j]

theorem RowAt.below {w w' : World} {A : Option Addr} {xs : List Value} (h : RowAt w A xs) (hb : Below w.heap.size w w') : RowAt w' A xs := by
  intro hx
  obtain ⟨g, o, hA, hg, hc⟩ := h hx
  have := hb.size
  exact ⟨g, o, hA, by omega, fun j hj => (hb.cell (p := ⟨g, o + j, none⟩) hg).trans (hc j hj)⟩

theorem RowAt.of_heap {w w' : World} {A : Option Addr} {xs : List Value} (h : RowAt w A xs) (hb : w'.heap = w.heap) : RowAt w' A xs := by
  intro hx
  obtain ⟨g, o, hA, hg, hc⟩ := h hx
  exact ⟨g, o, hA, by rw [hb]; exact hg, fun j hj => (World.cell?_of_block (a := ⟨g, o + j, none⟩) (by rw [hb])).trans (hc j hj)⟩

/-- An owned slice is one, and what it looks like. -/
theorem own_form {w : World} {B e n : Nat} {v : Value} {xs : List Value} (h : w.ownsRow B e 1 v n xs) : ∃ A c, v = .slice A n c ∧ xs.length = n ∧ RowAt w A xs := by
  have hl : xs.length = n := by simpa using h.1
  rcases Nat.eq_zero_or_pos n with h0 | h0
  · rcases h.2 with ⟨rfl, hn⟩ | ⟨g, cap, cur, rfl, _⟩
    · subst hn
      exact ⟨none, 0, rfl, hl, fun hx => by omega⟩
    · exact ⟨some ⟨g, 0, none⟩, cap, rfl, hl, fun hx => by omega⟩
  · obtain ⟨g, cap, rfl, hb, hg⟩ := h.form h0
    refine ⟨some ⟨g, 0, none⟩, cap, rfl, hl, fun _ => ⟨g, 0, rfl, hg, fun j hj => ?_⟩⟩
    rw [Nat.zero_add, h.cellAt j (by omega)]
    exact List.getElem?_eq_getElem hj

/-! ### Marks -/

def marks (k n : Nat) : List Value := (List.range n).map fun i => Value.string (markB (k + i))
theorem marks_length (k n : Nat) : (marks k n).length = n := by simp [marks]
theorem marks_at (k n j : Nat) (h : j < (marks k n).length) : (marks k n)[j] = .string (markB (k + j)) := by simp [marks]
theorem marks_step (k j : Nat) (xs : List Value) (h : j < xs.length) : (marks k j ++ xs.drop j).set j (.string (markB (k + j))) = marks k (j + 1) ++ xs.drop (j + 1) := by
  have e : marks k (j + 1) = marks k j ++ [.string (markB (k + j))] := by simp [marks, List.range_succ]
  have h1 : (marks k j).length = j := marks_length k j
  rw [e, List.set_append, if_neg (by omega), h1, Nat.sub_self, List.append_assoc, List.drop_eq_getElem_cons h]
  rfl

theorem below_grown {w w1 w2 : World} {row : Option Nat} (hg : w.grownBy w1 row) (hb : Below w1.heap.size w1 w2) : w.grownBy w2 row :=
  ⟨hb.os.trans hg.os, hb.tape.trans hg.tape, hb.output.trans hg.output, Nat.le_trans hg.size hb.size, fun k hk hr => (hb.block k (Nat.lt_of_lt_of_le hk hg.size)).trans (hg.block k hk hr)⟩
theorem grown_trans {w w1 w2 : World} {row : Option Nat} (hg : w.grownBy w1 row) (hb : w1.grownBy w2 row) : w.grownBy w2 row :=
  ⟨hb.os.trans hg.os, hb.tape.trans hg.tape, hb.output.trans hg.output, Nat.le_trans hg.size hb.size, fun k hk hr => (hb.block k (Nat.lt_of_lt_of_le hk hg.size) hr).trans (hg.block k hk hr)⟩
theorem own_below {w w' : World} {B e n s : Nat} {v : Value} {xs : List Value} (h : w.ownsRow B e s v n xs) (hb : Below w.heap.size w w') : w'.ownsRow B e s v n xs :=
  h.kept (row := none) ⟨hb.os, hb.tape, hb.output, hb.size, fun k hk _ => hb.block k hk⟩ (by
    rcases h.2 with ⟨rfl, _⟩ | ⟨g, cap, cur, rfl, _⟩
    · exact .inl rfl
    · exact .inr (by simp [Value.ownBlock]))

end Go.Proofs.Yteppmlepbfjnpaa

namespace Go.Proofs.Yteppmlepbfjnpaa
open Go.RowKit Go.ChangeShapes Go.WideShapes Go.ChangeAt Go.WideMaps Go.WideElems
set_option linter.unusedVariables false
set_option linter.unusedSimpArgs false

theorem below_step {w a b : World} (h : Below a.heap.size a b) (hs : w.heap.size ≤ a.heap.size) (h0 : Below w.heap.size w a) : Below w.heap.size w b := h0.trans (h.mono hs)

structure GE where
  u : Int
  v : Int
  c : Int
def GE.val (e : GE) : Value := .agg #[.int .i64 e.u, .int .i64 e.v, .int .i64 e.c]
def GE.cells (e : GE) : List Value := [.int .i64 e.u, .int .i64 e.v, .int .i64 e.c]
def GE.wf (e : GE) : Prop := (Lit.int .i64 e.u).wf = true ∧ (Lit.int .i64 e.v).wf = true ∧ (Lit.int .i64 e.c).wf = true
def cellsE (es : List GE) : List Value := es.flatMap GE.cells
def grV (n : Int) (A : Option Addr) (k c : Nat) : Value := .agg #[.int .i64 n, .slice A k c]

theorem cellsE_length (es : List GE) : (cellsE es).length = es.length * 3 := by
  induction es with
  | nil => rfl
  | cons e es ih => simp [cellsE, GE.cells] at ih ⊢; omega
theorem cellsE_append (a b : List GE) : cellsE (a ++ b) = cellsE a ++ cellsE b := by simp [cellsE]

/-- The slice at A holds the edges es, three cells each. -/
def EdgeAt (w : World) (A : Option Addr) (es : List GE) : Prop :=
  0 < es.length → ∃ g o, A = some ⟨g, o, none⟩ ∧ g < w.heap.size ∧ ∀ j (h : j < es.length),
    w.cell? ⟨g, o + j * 3, none⟩ = some (.int .i64 es[j].u) ∧ w.cell? ⟨g, o + j * 3 + 1, none⟩ = some (.int .i64 es[j].v) ∧ w.cell? ⟨g, o + j * 3 + 2, none⟩ = some (.int .i64 es[j].c)

theorem EdgeAt.below {w w' : World} {A : Option Addr} {es : List GE} (h : EdgeAt w A es) (hb : Below w.heap.size w w') : EdgeAt w' A es := by
  intro hx
  obtain ⟨g, o, hA, hg, hc⟩ := h hx
  have := hb.size
  exact ⟨g, o, hA, by omega, fun j hj => ⟨(hb.cell (p := ⟨g, o + j * 3, none⟩) hg).trans (hc j hj).1, (hb.cell (p := ⟨g, o + j * 3 + 1, none⟩) hg).trans (hc j hj).2.1, (hb.cell (p := ⟨g, o + j * 3 + 2, none⟩) hg).trans (hc j hj).2.2⟩⟩

theorem EdgeAt.of_heap {w w' : World} {A : Option Addr} {es : List GE} (h : EdgeAt w A es) (hb : w'.heap = w.heap) : EdgeAt w' A es := by
  intro hx
  obtain ⟨g, o, hA, hg, hc⟩ := h hx
  refine ⟨g, o, hA, by rw [hb]; exact hg, fun j hj => ⟨?_, ?_, ?_⟩⟩
  · exact (World.cell?_of_block (by rw [hb])).trans (hc j hj).1
  · exact (World.cell?_of_block (by rw [hb])).trans (hc j hj).2.1
  · exact (World.cell?_of_block (by rw [hb])).trans (hc j hj).2.2

theorem getE (es : List GE) : ∀ (j : Nat) (h : j < es.length), (cellsE es)[j * 3]? = some (.int .i64 es[j].u) ∧ (cellsE es)[j * 3 + 1]? = some (.int .i64 es[j].v) ∧ (cellsE es)[j * 3 + 2]? = some (.int .i64 es[j].c) := by
  induction es with
  | nil => intro j h; simp at h
  | cons e es ih =>
    intro j h
    have e1 : cellsE (e :: es) = .int .i64 e.u :: .int .i64 e.v :: .int .i64 e.c :: cellsE es := rfl
    match j with
    | 0 => simp [e1]
    | j + 1 =>
      have := ih j (by simpa using h)
      rw [show (j + 1) * 3 = j * 3 + 1 + 1 + 1 from by omega, e1]
      simpa using this

/-- An owned slice of edges is one that can be read. -/
theorem ownE_form {w : World} {B e n : Nat} {v : Value} {es : List GE} (h : w.ownsRow B e 3 v n (cellsE es)) : ∃ A c, v = .slice A n c ∧ es.length = n ∧ EdgeAt w A es := by
  have hl : es.length = n := by
    have := h.1
    rw [cellsE_length] at this
    omega
  rcases h.2 with ⟨rfl, hn⟩ | ⟨g, cap, cur, rfl, hB, hg, _, _, hs, ht⟩
  · subst hn
    exact ⟨none, 0, rfl, hl, fun hx => by omega⟩
  · refine ⟨some ⟨g, 0, none⟩, cap, rfl, hl, fun hx => ⟨g, 0, rfl, (Array.getElem?_eq_some_iff.1 hg).1, fun j hj => ?_⟩⟩
    have hc := getE es j hj
    have ha := h.cellAt
    rw [Nat.zero_add, ha (j * 3) (by omega), ha (j * 3 + 1) (by omega), ha (j * 3 + 2) (by omega)]
    exact hc

theorem choose_edges {p : Nat → GE → Prop} : ∀ {n : Nat}, (∀ i, i < n → ∃ e, p i e) → ∃ es : List GE, es.length = n ∧ ∀ i (h : i < es.length), p i es[i] := by
  intro n
  induction n with
  | zero => exact fun _ => ⟨[], rfl, fun i h => by simp at h⟩
  | succ n ih =>
    intro hq
    obtain ⟨es, h1, h2⟩ := ih (fun i hi => hq i (by omega))
    obtain ⟨e, he⟩ := hq n (by omega)
    refine ⟨es ++ [e], by simp [h1], fun i hi => ?_⟩
    by_cases hlt : i < es.length
    · rw [List.getElem_append_left hlt]; exact h2 i hlt
    · have : i = es.length := by simp at hi; omega
      subst this
      simpa [h1] using he

end Go.Proofs.Yteppmlepbfjnpaa

namespace Go.Proofs.Yteppmlepbfjnpaa
open Go.RowKit Go.ChangeShapes Go.WideShapes Go.ChangeAt Go.WideMaps Go.WideElems
set_option linter.unusedVariables false
set_option linter.unusedSimpArgs false

structure GL where
  f : Int
  t : Int
  l : Int
  h : Int
def GL.val (e : GL) : Value := .agg #[.int .i64 e.f, .int .i64 e.t, .int .i64 e.l, .int .i64 e.h]
def GL.cells (e : GL) : List Value := [.int .i64 e.f, .int .i64 e.t, .int .i64 e.l, .int .i64 e.h]
def GL.wf (e : GL) : Prop := (Lit.int .i64 e.f).wf = true ∧ (Lit.int .i64 e.t).wf = true ∧ (Lit.int .i64 e.l).wf = true ∧ (Lit.int .i64 e.h).wf = true
def cellsL (es : List GL) : List Value := es.flatMap GL.cells

theorem cellsL_length (es : List GL) : (cellsL es).length = es.length * 4 := by
  induction es with
  | nil => rfl
  | cons e es ih => simp [cellsL, GL.cells] at ih ⊢; omega
theorem cellsL_append (a b : List GL) : cellsL (a ++ b) = cellsL a ++ cellsL b := by simp [cellsL]

/-- The slice at A holds the links es, four cells each. -/
def LinkAt (w : World) (A : Option Addr) (es : List GL) : Prop :=
  0 < es.length → ∃ g o, A = some ⟨g, o, none⟩ ∧ g < w.heap.size ∧ ∀ j (h : j < es.length),
    w.cell? ⟨g, o + j * 4, none⟩ = some (.int .i64 es[j].f) ∧ w.cell? ⟨g, o + j * 4 + 1, none⟩ = some (.int .i64 es[j].t) ∧ w.cell? ⟨g, o + j * 4 + 2, none⟩ = some (.int .i64 es[j].l) ∧ w.cell? ⟨g, o + j * 4 + 3, none⟩ = some (.int .i64 es[j].h)

theorem LinkAt.below {w w' : World} {A : Option Addr} {es : List GL} (h : LinkAt w A es) (hb : Below w.heap.size w w') : LinkAt w' A es := by
  intro hx
  obtain ⟨g, o, hA, hg, hc⟩ := h hx
  have := hb.size
  exact ⟨g, o, hA, by omega, fun j hj => ⟨(hb.cell (p := ⟨g, o + j * 4, none⟩) hg).trans (hc j hj).1, (hb.cell (p := ⟨g, o + j * 4 + 1, none⟩) hg).trans (hc j hj).2.1, (hb.cell (p := ⟨g, o + j * 4 + 2, none⟩) hg).trans (hc j hj).2.2.1, (hb.cell (p := ⟨g, o + j * 4 + 3, none⟩) hg).trans (hc j hj).2.2.2⟩⟩

theorem LinkAt.of_heap {w w' : World} {A : Option Addr} {es : List GL} (h : LinkAt w A es) (hb : w'.heap = w.heap) : LinkAt w' A es := by
  intro hx
  obtain ⟨g, o, hA, hg, hc⟩ := h hx
  refine ⟨g, o, hA, by rw [hb]; exact hg, fun j hj => ⟨?_, ?_, ?_, ?_⟩⟩
  · exact (World.cell?_of_block (by rw [hb])).trans (hc j hj).1
  · exact (World.cell?_of_block (by rw [hb])).trans (hc j hj).2.1
  · exact (World.cell?_of_block (by rw [hb])).trans (hc j hj).2.2.1
  · exact (World.cell?_of_block (by rw [hb])).trans (hc j hj).2.2.2

theorem getL (es : List GL) : ∀ (j : Nat) (h : j < es.length), (cellsL es)[j * 4]? = some (.int .i64 es[j].f) ∧ (cellsL es)[j * 4 + 1]? = some (.int .i64 es[j].t) ∧ (cellsL es)[j * 4 + 2]? = some (.int .i64 es[j].l) ∧ (cellsL es)[j * 4 + 3]? = some (.int .i64 es[j].h) := by
  induction es with
  | nil => intro j h; simp at h
  | cons e es ih =>
    intro j h
    have e1 : cellsL (e :: es) = .int .i64 e.f :: .int .i64 e.t :: .int .i64 e.l :: .int .i64 e.h :: cellsL es := rfl
    match j with
    | 0 => simp [e1]
    | j + 1 =>
      have := ih j (by simpa using h)
      rw [show (j + 1) * 4 = j * 4 + 1 + 1 + 1 + 1 from by omega, e1]
      simpa using this

/-- An owned slice of links is one that can be read. -/
theorem ownL_form {w : World} {B e n : Nat} {v : Value} {es : List GL} (h : w.ownsRow B e 4 v n (cellsL es)) : ∃ A c, v = .slice A n c ∧ es.length = n ∧ LinkAt w A es := by
  have hl : es.length = n := by
    have := h.1
    rw [cellsL_length] at this
    omega
  rcases h.2 with ⟨rfl, hn⟩ | ⟨g, cap, cur, rfl, hB, hg, _, _, hs, ht⟩
  · subst hn
    exact ⟨none, 0, rfl, hl, fun hx => by omega⟩
  · refine ⟨some ⟨g, 0, none⟩, cap, rfl, hl, fun hx => ⟨g, 0, rfl, (Array.getElem?_eq_some_iff.1 hg).1, fun j hj => ?_⟩⟩
    have hc := getL es j hj
    have ha := h.cellAt
    rw [Nat.zero_add, ha (j * 4) (by omega), ha (j * 4 + 1) (by omega), ha (j * 4 + 2) (by omega), ha (j * 4 + 3) (by omega)]
    exact hc
theorem own_link {W : World} {B t k c : Nat} {A : Option Addr} {es : List GL} (h : W.ownsRow B t 4 (.slice A k c) k (cellsL es)) : LinkAt W A es := by
  obtain ⟨_, _, hv, _, hE⟩ := ownL_form h
  injection hv with hv
  rw [hv]; exact hE

theorem cells_llink : Try.prog.cellsOf 116 = 4 := by kernel_rfl
theorem cells_livl : Try.prog.cellsOf 114 = 2 := by kernel_rfl
theorem cells_simple : Try.prog.cellsOf 46 = 2 := by kernel_rfl

theorem choose_links {p : Nat → GL → Prop} : ∀ {n : Nat}, (∀ i, i < n → ∃ e, p i e) → ∃ es : List GL, es.length = n ∧ ∀ i (h : i < es.length), p i es[i] := by
  intro n
  induction n with
  | zero => exact fun _ => ⟨[], rfl, fun i h => by simp at h⟩
  | succ n ih =>
    intro hq
    obtain ⟨es, h1, h2⟩ := ih (fun i hi => hq i (by omega))
    obtain ⟨e, he⟩ := hq n (by omega)
    refine ⟨es ++ [e], by simp [h1], fun i hi => ?_⟩
    by_cases hlt : i < es.length
    · rw [List.getElem_append_left hlt]; exact h2 i hlt
    · have : i = es.length := by simp at hi; omega
      subst this
      simpa [h1] using he

/-- The four ints of a link's cells that are trodden. -/
theorem trod_link {H : Type} {enc : TypeId × Value → H} {W : World} {base : Nat} {spare : Nat → Bool} {held : Bool} {fuel : Nat} {c0 c1 c2 c3 : Value} {x : DataW H × List MemPlace}
    (h : DataW.trod enc Try.prog W base spare held fuel 116 [c0, c1, c2, c3] = some x) :
    ∃ e : GL, e.wf ∧ c0 = .int .i64 e.f ∧ c1 = .int .i64 e.t ∧ c2 = .int .i64 e.l ∧ c3 = .int .i64 e.h := by
  obtain ⟨y0, y1, y2, q, _, _, g0, g1, g2⟩ := Deep.trod_struct3 Try.underlying116 h
  have ci : Try.prog.cellsOf 3 = 1 := by kernel_rfl
  have cv := cells_livl
  simp [ci, cv] at g0 g1 g2
  obtain ⟨z0, e0, _, w0⟩ := DataW.trod_int Try.underlying3 g0
  obtain ⟨z1, e1, _, w1⟩ := DataW.trod_int Try.underlying3 g1
  obtain ⟨y3, y4, q2, _, _, g3, g4⟩ := trod_struct2 Try.underlying114 g2
  simp [ci] at g3 g4
  obtain ⟨z2, e2, _, w2⟩ := DataW.trod_int Try.underlying3 g3
  obtain ⟨z3, e3, _, w3⟩ := DataW.trod_int Try.underlying3 g4
  simp at e0 e1 e2 e3
  subst e0 e1 e2 e3
  exact ⟨⟨z0, z1, z2, z3⟩, ⟨w0, w1, w2, w3⟩, rfl, rfl, rfl, rfl⟩

/-- A slice of links that comes in, nil or not. -/
theorem links_in {H : Type} {enc : TypeId × Value → H} {W : World} {fuel n c : Nat} {A : Option Addr} {x : DataW H × List MemPlace}
    (hf : DataW.trod enc Try.prog W 0 (fun _ => true) true fuel 44 [Value.slice A n c] = some x) :
    ∃ es : List GL, es.length = n ∧ n ≤ maxLen ∧ (∀ e ∈ es, e.wf) ∧ LinkAt W A es := by
  rcases Deep.open_slice Try.underlying44 hf with ⟨hcs, _⟩ | ⟨a, len, cap, m, k, D, Pl, hcs, _, hl, hm, hmm, rfl, hx⟩
  · simp at hcs
    obtain ⟨rfl, rfl, rfl⟩ := hcs
    exact ⟨[], rfl, Nat.zero_le _, by simp, fun h => by simp at h⟩
  · simp at hcs
    obtain ⟨rfl, rfl, rfl⟩ := hcs
    simp at hmm
    subst hmm
    have each : ∀ i, i < n → ∃ e : GL, e.wf ∧ W.cell? (a.add (i * 4)) = some (.int .i64 e.f) ∧ W.cell? (a.add (i * 4 + 1)) = some (.int .i64 e.t) ∧ W.cell? (a.add (i * 4 + 2)) = some (.int .i64 e.l) ∧ W.cell? (a.add (i * 4 + 3)) = some (.int .i64 e.h) := by
      intro i hi
      obtain ⟨cs', h1, h2⟩ := hx i (by omega)
      rw [cells_llink] at h1
      obtain ⟨_, hlen, hcell⟩ := World.cells?_some h1
      match cs', hlen with
      | [c0, c1, c2, c3], _ =>
        obtain ⟨e, hw, rfl, rfl, rfl, rfl⟩ := trod_link h2
        have k0 := hcell 0 (by omega)
        have k1 := hcell 1 (by omega)
        have k2 := hcell 2 (by omega)
        have k3 := hcell 3 (by omega)
        rw [Deep.add_add] at k0 k1 k2 k3
        exact ⟨e, hw, by simpa using k0, by simpa using k1, by simpa using k2, by simpa using k3⟩
    obtain ⟨es, he, hp⟩ := choose_links each
    refine ⟨es, he, by omega, ?_, fun hpos => ?_⟩
    · intro e hm
      obtain ⟨i, hi, rfl⟩ := List.getElem_of_mem hm
      exact (hp i hi).1
    · obtain ⟨b, off, spot⟩ := a
      have h0 := (hp 0 hpos).2.1
      have hspot : spot = none := by simpa [Addr.add] using World.cell?_spot h0
      subst hspot
      refine ⟨b, off, rfl, ?_, fun j hj => ?_⟩
      · rcases Nat.lt_or_ge b W.heap.size with hlt | hge
        · exact hlt
        · have : W.heap[b]? = none := Array.getElem?_eq_none hge
          simp [Addr.add, World.cell?, this] at h0
      · have h := (hp j hj).2
        rw [add_plain, add_plain, add_plain, add_plain] at h
        exact h

set_option maxRecDepth 100000 in
/-- A network that comes in. -/
theorem open_simple {H : Type} {enc : TypeId × Value → H} {W : World} {r : Reach} {b : Nat} {v : Value} {d : DataW H} {p : List MemPlace}
    (hv : Value.okWide Try.prog W r b 46 v) (h : DataW.Trod enc Try.prog W 0 (fun _ => true) true 46 v d p) :
    ∃ (n : Int) (A : Option Addr) (k c : Nat) (es : List GL), v = grV n A k c ∧ (Lit.int .i64 n).wf = true ∧ es.length = k ∧ k ≤ maxLen ∧ (∀ e ∈ es, e.wf) ∧ LinkAt W A es := by
  obtain ⟨c0, c1, y0, y1, m, rfl, rfl, rfl, hy0, hy1⟩ := Go.Joins.open_agg2 Try.underlying46 (by kernel_rfl) cells_simple hv h
  obtain ⟨a, e0, hx0, wa⟩ := DataW.trod_int Try.underlying3 hy0
  simp at e0
  subst e0
  have hsl : ∃ A k c, c1 = .slice A k c := by
    rcases Deep.open_slice Try.underlying44 hy1 with ⟨hcs, _⟩ | ⟨a, len, cap, m, k, D, Pl, hcs, _⟩
    · simp at hcs; exact ⟨_, _, _, hcs⟩
    · simp at hcs; exact ⟨_, _, _, hcs⟩
  obtain ⟨A, k, c, rfl⟩ := hsl
  obtain ⟨es, h1, h2, h3, h4⟩ := links_in hy1
  exact ⟨a, A, k, c, es, rfl, wa, h1, h2, h3, h4⟩

set_option maxRecDepth 100000 in
/-- A link that comes in. -/
theorem open_link {H : Type} {enc : TypeId × Value → H} {W : World} {r : Reach} {b : Nat} {v : Value} {d : DataW H} {p : List MemPlace} {base : Nat} {spare : Nat → Bool} {held : Bool}
    (hv : Value.okWide Try.prog W r b 116 v) (h : DataW.Trod enc Try.prog W base spare held 116 v d p) : ∃ e : GL, v = e.val ∧ e.wf := by
  obtain ⟨cs, rfl, hsz⟩ := okWide_struct Try.underlying116 hv
  rw [cells_llink] at hsz
  obtain ⟨fuel, hf⟩ := h
  have hl : cs.toList.length = 4 := by simpa using hsz
  match hm : cs.toList, hl with
  | [c0, c1, c2, c3], _ =>
    have hc : (Value.agg cs).cells.toList = [c0, c1, c2, c3] := by simpa [Value.cells] using hm
    rw [hc] at hf
    obtain ⟨e, hw, rfl, rfl, rfl, rfl⟩ := trod_link hf
    refine ⟨e, ?_, hw⟩
    have : cs = #[.int .i64 e.f, .int .i64 e.t, .int .i64 e.l, .int .i64 e.h] := by rw [← Array.toList_inj]; exact hm
    rw [this]; rfl

end Go.Proofs.Yteppmlepbfjnpaa

namespace Go.Proofs.Yteppmlepbfjnpaa
set_option linter.unusedVariables false
set_option linter.unusedSimpArgs false

def okI (l h : Int) : Bool := decide (-1000000 ≤ l ∧ l ≤ h ∧ h ≤ 1000000 ∧ l ≠ 1000000 ∧ h ≠ -1000000)
theorem okI_of {l h : Int} (k : okI l h = true) : -1000000 ≤ l ∧ l ≤ h ∧ h ≤ 1000000 ∧ l ≠ 1000000 ∧ h ≠ -1000000 := of_decide_eq_true k

def clampI (n : Int) : Int := if n < -1000000 then -1000000 else if 1000000 < n then 1000000 else n
def addI (a b : Int) : Int := if 1000000 ≤ a ∨ 1000000 ≤ b then 1000000 else if a ≤ -1000000 ∨ b ≤ -1000000 then -1000000 else clampI (a + b)
def lowI (a b : Int) : Int := if a ≤ -1000000 ∨ b ≤ -1000000 then -1000000 else addI a b
def inI (l h n : Int) : Bool := okI l h && decide ((l = -1000000 ∨ l ≤ n) ∧ (h = 1000000 ∨ n ≤ h))
def ivV (l h : Int) : Value := .agg #[.int .i64 l, .int .i64 h]
/-- An interval, or the zero value. -/
def orZ (b : Bool) (l h : Int) : Value := if b then ivV l h else ivV 0 0
theorem clampI_rng (n : Int) : -1000000 ≤ clampI n ∧ clampI n ≤ 1000000 := by unfold clampI; split <;> (try split) <;> omega
theorem addI_rng (a b : Int) : -1000000 ≤ addI a b ∧ addI a b ≤ 1000000 := by
  unfold addI
  split
  · omega
  · split
    · omega
    · exact clampI_rng _
theorem lowI_rng (a b : Int) : -1000000 ≤ lowI a b ∧ lowI a b ≤ 1000000 := by
  unfold lowI
  split
  · omega
  · exact addI_rng a b
theorem lowI_addI {a b : Int} (ha : a < 1000000) (hb : b < 1000000) : lowI a b = addI a b := by
  unfold lowI addI
  by_cases h : a ≤ -1000000 ∨ b ≤ -1000000
  · rw [if_pos h, if_neg (by omega), if_pos h]
  · rw [if_neg h]

end Go.Proofs.Yteppmlepbfjnpaa

namespace Go.Proofs.Yteppmlepbfjnpaa
open Go.RowKit
set_option linter.unusedVariables false
set_option linter.unusedSimpArgs false

theorem bool_ans {a b : Bool} (h : a = true ↔ b = true) : Ending.returned (Value.bool a) = .returned (.bool b) := by rw [Bool.eq_iff_iff.2 h]
theorem int_ans {a b : Int} (h : a = b) : Ending.returned (Value.int .i64 a) = .returned (.int .i64 b) := by rw [h]
theorem iv_ans {a b c d : Int} (h : a = c) (k : b = d) : Ending.returned (Value.agg #[.int .i64 a, .int .i64 b]) = .returned (ivV c d) := by rw [h, k]; rfl
theorem below_one {w : World} (o : Obj) : Below w.heap.size w (w.alloc o) := (Below.refl _ w).alloc (Nat.le_refl _) o

set_option maxRecDepth 100000 in
set_option maxHeartbeats 400000 in
theorem spec_ClampBound (n : Int) (w : World) :
    Calls Try.prog 106 #[.int .i64 n] w fun e w' => e = .returned (.int .i64 (clampI n)) ∧ w = w' := by
  go_enter Try.func106, Try.ntmps106
  go_wp2
  all_goals (go_ret; exact ⟨int_ans (by unfold clampI; (repeat' split) <;> omega), rfl⟩)

set_option maxRecDepth 100000 in
set_option maxHeartbeats 400000 in
theorem impl_ClampBound (n : Int) (w : World) :
    Calls Try.prog 85 #[.int .i64 n] w fun e w' => e = .returned (.int .i64 (clampI n)) ∧ w = w' := by
  go_enter Try.func85, Try.ntmps85
  go_wp2
  all_goals (go_ret; exact ⟨int_ans (by unfold clampI; (repeat' split) <;> omega), rfl⟩)

set_option maxRecDepth 100000 in
set_option maxHeartbeats 400000 in
theorem spec_IntervalOk (l h : Int) (w : World) :
    Calls Try.prog 86 #[ivV l h] w fun e w' => e = .returned (.bool (okI l h)) ∧ w' = w.alloc (.cells #[.int .i64 l, .int .i64 h] 29) := by
  unfold ivV
  go_enter Try.func86, Try.ntmps86
  by_cases hl : l = 1000000
  · subst hl
    go_wp2
    all_goals (go_ret; exact ⟨bool_ans (by simp [okI]), rfl⟩)
  · go_wp2
    all_goals (go_ret; exact ⟨bool_ans (by simp [okI]; omega), rfl⟩)

set_option maxRecDepth 100000 in
set_option maxHeartbeats 400000 in
theorem impl_clamped (l h : Int) (w : World) :
    Calls Try.prog 84 #[ivV l h] w fun e w' => e = .returned (ivV (clampI l) (clampI h)) ∧ w' = ((w.alloc (.cells #[.int .i64 l, .int .i64 h] 29)).alloc (.cells #[.int .i64 (clampI l), .int .i64 (clampI h)] 29)).drew := by
  unfold ivV
  go_enter Try.func84, Try.ntmps84
  go_wp2
  go_region_held3 (fun w' => w'.cell? ⟨w.heap.size, 0, none⟩ = some (.int .i64 l) ∧ w'.cell? ⟨w.heap.size, 1, none⟩ = some (.int .i64 h)) (go_keep) (first | (go_at_call 85; refine (impl_ClampBound _ _).mono ?_; rintro e w1 ⟨rfl, rfl⟩))
  all_goals (go_wp2; refine bodyPost_ret (v := .agg #[.int .i64 (clampI l), .int .i64 (clampI h)]) (by simp [results, Try.results84, go_sem]) rfl ⟨rfl, rfl⟩)

end Go.Proofs.Yteppmlepbfjnpaa
