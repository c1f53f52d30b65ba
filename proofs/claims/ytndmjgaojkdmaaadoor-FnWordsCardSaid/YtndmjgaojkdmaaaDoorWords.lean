/-
  PLAIN: parts that are cut at one byte and joined by it give the string back.
-/
import Derived.Test.YtndmjgaojkdmaaaDoorSplit
import Derived.Test.YtndmjgaojkdmaaaDoorJoin
import Derived.Test.YtndmjgaojkdmaaaDoorLines
import Derived.Lib.Strings
namespace Go.Proofs.YtndmjgaojkdmaaaDoor
open Go.RowKit
set_option linter.unusedVariables false
set_option linter.unusedSimpArgs false

theorem joinTo_append (l r : List ByteArray) (sep : ByteArray) : ∀ k, k ≤ l.length → joinTo (l ++ r) sep k = joinTo l sep k := by
  intro k
  induction k with
  | zero => intro _; rfl
  | succ k ih =>
    intro h
    rw [joinTo, joinTo, ih (by omega)]
    have : (l ++ r).getD k ⟨#[]⟩ = l.getD k ⟨#[]⟩ := by
      rw [List.getD_eq_getElem?_getD, List.getD_eq_getElem?_getD, List.getElem?_append_left (by omega)]
    rw [this]
theorem joinB_snoc (l : List ByteArray) (x sep : ByteArray) : joinB (l ++ [x]) sep = (if 0 < l.length then joinB l sep ++ sep else joinB l sep) ++ x := by
  have h1 : (l ++ [x]).length = l.length + 1 := by simp
  have h2 : (l ++ [x]).getD l.length ⟨#[]⟩ = x := by simp
  unfold joinB
  rw [h1, joinTo, joinTo_append l [x] sep l.length (Nat.le_refl _), h2]

theorem split_first (s sp : ByteArray) (k : Nat) : (splitTo s sp k).1.length = 0 → (splitTo s sp k).2 = 0 := by
  induction k with
  | zero => intro _; rfl
  | succ k ih =>
    unfold splitTo
    split
    · split
      · simp
      · exact ih
    · exact ih

theorem join_splitTo (s : ByteArray) (c : UInt8) (k : Nat) (hk : k ≤ s.size) (x : ByteArray) :
    (joinB ((splitTo s ⟨#[c]⟩ k).1 ++ [x]) ⟨#[c]⟩).data.toList = s.data.toList.take (splitTo s ⟨#[c]⟩ k).2 ++ x.data.toList := by
  induction k generalizing x with
  | zero => simp [splitTo, joinB, joinTo]
  | succ k ih =>
    have hlt : k < s.size := hk
    cases hc : isSep ⟨#[c]⟩ s[k] with
    | true =>
      rw [splitTo_sep s _ k hlt hc]
      have hsc : s[k] = c := by
        unfold isSep at hc
        simpa using hc
      have hf := (splitTo_le s ⟨#[c]⟩ k).1
      rw [joinB_snoc, if_pos (by simp)]
      simp only [ByteArray.data_append, Array.toList_append]
      rw [ih (by omega)]
      have e1 : (s.extract (splitTo s ⟨#[c]⟩ k).2 k).data.toList = (s.data.toList.drop (splitTo s ⟨#[c]⟩ k).2).take (k - (splitTo s ⟨#[c]⟩ k).2) := Lib.extract_data s _ _
      have e2 : s.data.toList.take (splitTo s ⟨#[c]⟩ k).2 ++ (s.data.toList.drop (splitTo s ⟨#[c]⟩ k).2).take (k - (splitTo s ⟨#[c]⟩ k).2) = s.data.toList.take k := by
        have := List.take_append_drop (splitTo s ⟨#[c]⟩ k).2 (s.data.toList.take k)
        rw [List.take_take, Nat.min_eq_left hf, List.drop_take] at this
        exact this
      rw [e1, e2, take_snoc s k hlt, hsc]
    | false =>
      rw [splitTo_not s _ k hlt hc]
      exact ih (by omega) x

theorem join_split (s : ByteArray) (c : UInt8) : joinB (split s ⟨#[c]⟩) ⟨#[c]⟩ = s := by
  apply ByteArray.ext; apply Array.toList_inj.1
  unfold split
  rw [join_splitTo s c s.size (Nat.le_refl _)]
  have e1 : (s.extract (splitTo s ⟨#[c]⟩ s.size).2 s.size).data.toList = (s.data.toList.drop (splitTo s ⟨#[c]⟩ s.size).2).take (s.size - (splitTo s ⟨#[c]⟩ s.size).2) := Lib.extract_data s _ _
  have e3 : (s.data.toList.drop (splitTo s ⟨#[c]⟩ s.size).2).take (s.size - (splitTo s ⟨#[c]⟩ s.size).2) = s.data.toList.drop (splitTo s ⟨#[c]⟩ s.size).2 := List.take_of_length_le (by simp)
  rw [e1, e3, List.take_append_drop]

theorem split_sizes (s sp : ByteArray) : ∀ x ∈ split s sp, x.size ≤ s.size := by
  have h : ∀ k, ∀ x ∈ (splitTo s sp k).1, x.size ≤ s.size := by
    intro k
    induction k with
    | zero => intro x hx; simp [splitTo] at hx
    | succ k ih =>
      unfold splitTo
      split
      · split
        · intro x hx
          simp at hx
          rcases hx with hx | rfl
          · exact ih x hx
          · rw [ByteArray.size_extract]; omega
        · exact ih
      · exact ih
  intro x hx
  unfold split at hx
  rw [List.mem_append] at hx
  rcases hx with hx | hx
  · exact h _ x hx
  · rw [List.mem_singleton] at hx
    rw [hx, ByteArray.size_extract]; omega

theorem name_x1 : nameB (⟨#[120, 49]⟩ : ByteArray).data.toList = true := by decide
theorem digits_0 : digitsB (⟨#[48]⟩ : ByteArray).data.toList = true := by decide
theorem lines_ab : (lines ⟨#[97, 10, 98, 10]⟩).length = 2 := by decide +kernel

end Go.Proofs.YtndmjgaojkdmaaaDoor
