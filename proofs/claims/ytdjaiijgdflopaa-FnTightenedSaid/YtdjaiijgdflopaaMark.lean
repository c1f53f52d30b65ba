/-
  WALKS of the laws' own helpers over slices of strings: markText, eqStringS, markStringS, heldStringS, toStringS, szStringS.
-/
import Derived.Test.YtdjaiijgdflopaaProg
import Derived.Test.YtdjaiijgdflopaaDig
import Derived.WalkKit
import Derived.WalkSpells
import Derived.WalkLawsBesides
import Derived.Deep.QuietTactic
import Derived.Deep.RegionWith
import Derived.BigQuiet
import Derived.Lib.Hide
import Derived.Laws.Rows
import Derived.Laws.OwnMore
import Derived.Deep.Onto
import Derived.Deep.AppendLies
namespace Go.Proofs.Ytdjaiijgdflopaa
open Go.RowKit
set_option linter.unusedVariables false
set_option linter.unusedSimpArgs false

/-! ### markText -/

def markGo : Nat → Nat → List UInt8 → List UInt8
  | 0, _, out => out
  | f + 1, k, out => if k = 0 then out else markGo f (k / 10) (UInt8.ofNat (48 + k % 10) :: out)
def markB (k : Nat) : ByteArray := ⟨(109 :: markGo k k []).toArray⟩

theorem markGo_fuel : ∀ (f k : Nat) (out : List UInt8), k ≤ f → markGo f k out = markGo k k out := by
  intro f
  induction f using Nat.strongRecOn with
  | _ f ih =>
    intro k out h
    match f, k with
    | 0, 0 => rfl
    | f + 1, 0 => simp [markGo]
    | f + 1, k + 1 =>
      have hd : (k + 1) / 10 ≤ k := by omega
      simp only [markGo, Nat.add_one_ne_zero, if_false]
      rw [ih f (by omega) ((k + 1) / 10) _ (by omega)]
      by_cases hk : k < f + 1
      · rw [ih k hk ((k + 1) / 10) _ hd]
      · omega
theorem markGo_step (k : Nat) (out : List UInt8) (h : 0 < k) : markGo k k out = markGo (k / 10) (k / 10) (UInt8.ofNat (48 + k % 10) :: out) := by
  obtain ⟨m, rfl⟩ : ∃ m, k = m + 1 := ⟨k - 1, by omega⟩
  rw [markGo, if_neg (by omega), markGo_fuel m _ _ (by omega)]

/-- A byte as a string. -/
def byteB (c : Nat) : ByteArray := ⟨#[UInt8.ofNat c]⟩
theorem byteB_size (c : Nat) : (byteB c).size = 1 := rfl
theorem byteB_append (c : Nat) (x : ByteArray) : (byteB c ++ x).data.toList = UInt8.ofNat c :: x.data.toList := by
  simp [byteB]
theorem conv_one (w : World) (c : Nat) (h1 : c < 256) :
    (convert 22 9 (.slice (some ⟨w.heap.size, 0, none⟩) 1 1)).run Try.prog (w.alloc (.cells #[.int .u8 c] 5)) = .ok (.string (byteB c)) (w.alloc (.cells #[.int .u8 c] 5)) := by
  have h := run_convert_bytes_back (w.alloc (.cells #[.int .u8 c] 5)) 22 9 5 ⟨w.heap.size, 0, none⟩ 1 [UInt8.ofNat c] Try.underlying22 Try.underlying5 Try.underlying9 (by
    intro j hj
    match j, hj with
    | 0, _ =>
      refine (cell_one_new w _ _ 0 _ rfl).trans ?_
      have : (UInt8.ofNat c).toNat = c := by simp; omega
      simp [this])
  exact h

theorem conv_at (c : Nat) (h1 : c < 256) (w : World) (g : Nat) (hc : w.cell? ⟨g, 0, none⟩ = some (.int .u8 c)) :
    (convert 22 9 (.slice (some ⟨g, 0, none⟩) 1 1)).run Try.prog w = .ok (.string (byteB c)) w := by
  have h := run_convert_bytes_back w 22 9 5 ⟨g, 0, none⟩ 1 [UInt8.ofNat c] Try.underlying22 Try.underlying5 Try.underlying9 (by
    intro j hj
    match j, hj with
    | 0, _ =>
      refine hc.trans ?_
      have : (UInt8.ofNat c).toNat = c := by simp; omega
      simp [this])
  exact h

/-! ### Slices of strings that are read -/

/-- The slice at A (nil, or an address in the heap) holds the values xs, one cell each. -/
def RowAt (w : World) (A : Option Addr) (xs : List Value) : Prop :=
  0 < xs.length → ∃ g o, A = some ⟨g, o, none⟩ ∧ g < w.heap.size ∧ ∀ j (h : j < xs.length), w.cell? ⟨g, o + j, none⟩ = some xs[j]

theorem RowAt.below {w w' : World} {A : Option Addr} {xs : List Value} (h : RowAt w A xs) (hb : Below w.heap.size w w') : RowAt w' A xs := by
  intro hx
  obtain ⟨g, o, hA, hg, hc⟩ := h hx
  have := hb.size
  exact ⟨g, o, hA, by omega, fun j hj => (hb.cell (p := ⟨g, o + j, none⟩) hg).trans (hc j hj)⟩

theorem RowAt.of_heap {w w' : World} {A : Option Addr} {xs : List Value} (h : RowAt w A xs) (hb : w'.heap = w.heap) : RowAt w' A xs := by
  intro hx
  obtain ⟨g, o, hA, hg, hc⟩ := h hx
  exact ⟨g, o, hA, by rw [hb]; exact hg, fun j hj => (World.cell?_of_block (a := ⟨g, o + j, none⟩) (by rw [hb])).trans (hc j hj)⟩

/-- An owned slice is one, and what it looks like. -/
theorem own_form {w : World} {B e n : Nat} {v : Value} {xs : List Value} (h : w.ownsRow B e 1 v n xs) : ∃ A c, v = .slice A n c ∧ xs.length = n ∧ RowAt w A xs := by
  have hl : xs.length = n := by simpa using h.1
  rcases Nat.eq_zero_or_pos n with h0 | h0
  · rcases h.2 with ⟨rfl, hn⟩ | ⟨g, cap, cur, rfl, _⟩
    · subst hn
      exact ⟨none, 0, rfl, hl, fun hx => by omega⟩
    · exact ⟨some ⟨g, 0, none⟩, cap, rfl, hl, fun hx => by omega⟩
  · obtain ⟨g, cap, rfl, hb, hg⟩ := h.form h0
    refine ⟨some ⟨g, 0, none⟩, cap, rfl, hl, fun _ => ⟨g, 0, rfl, hg, fun j hj => ?_⟩⟩
    rw [Nat.zero_add, h.cellAt j (by omega)]
    exact List.getElem?_eq_getElem hj

/-! ### Marks -/

def marks (k n : Nat) : List Value := (List.range n).map fun i => Value.string (markB (k + i))
theorem marks_length (k n : Nat) : (marks k n).length = n := by simp [marks]
theorem marks_at (k n j : Nat) (h : j < (marks k n).length) : (marks k n)[j] = .string (markB (k + j)) := by simp [marks]
theorem marks_step (k j : Nat) (xs : List Value) (h : j < xs.length) : (marks k j ++ xs.drop j).set j (.string (markB (k + j))) = marks k (j + 1) ++ xs.drop (j + 1) := by
  have e : marks k (j + 1) = marks k j ++ [.string (markB (k + j))] := by simp [marks, List.range_succ]
  have h1 : (marks k j).length = j := marks_length k j
  rw [e, List.set_append, if_neg (by omega), h1, Nat.sub_self, List.append_assoc, List.drop_eq_getElem_cons h]
  rfl

theorem below_grown {w w1 w2 : World} {row : Option Nat} (hg : w.grownBy w1 row) (hb : Below w1.heap.size w1 w2) : w.grownBy w2 row :=
  ⟨hb.os.trans hg.os, hb.tape.trans hg.tape, hb.output.trans hg.output, Nat.le_trans hg.size hb.size, fun k hk hr => (hb.block k (Nat.lt_of_lt_of_le hk hg.size)).trans (hg.block k hk hr)⟩
theorem grown_trans {w w1 w2 : World} {row : Option Nat} (hg : w.grownBy w1 row) (hb : w1.grownBy w2 row) : w.grownBy w2 row :=
  ⟨hb.os.trans hg.os, hb.tape.trans hg.tape, hb.output.trans hg.output, Nat.le_trans hg.size hb.size, fun k hk hr => (hb.block k (Nat.lt_of_lt_of_le hk hg.size) hr).trans (hg.block k hk hr)⟩
theorem own_below {w w' : World} {B e n s : Nat} {v : Value} {xs : List Value} (h : w.ownsRow B e s v n xs) (hb : Below w.heap.size w w') : w'.ownsRow B e s v n xs :=
  h.kept (row := none) ⟨hb.os, hb.tape, hb.output, hb.size, fun k hk _ => hb.block k hk⟩ (by
    rcases h.2 with ⟨rfl, _⟩ | ⟨g, cap, cur, rfl, _⟩
    · exact .inl rfl
    · exact .inr (by simp [Value.ownBlock]))

end Go.Proofs.Ytdjaiijgdflopaa
