/-
  WALKS over the text utilities that scan a string: spec.IsDigits, impl.isDigit, impl.IsDigits, spec.IsName, impl.isLetter, impl.IsName, spec.l01In.
-/
import Derived.Test.YtdjaiijgdflopaaProg
import Derived.WalkKit
import Derived.WalkSpells
import Derived.WalkLawsBesides
import Derived.Lib.OthersKept
import Derived.Lib.Hide
import Derived.Lib.Strings
namespace Go.Proofs.Ytdjaiijgdflopaa
open Go.RowKit
set_option linter.unusedVariables false
set_option linter.unusedSimpArgs false

def isDig (c : UInt8) : Bool := decide (48 ≤ c.toNat) && decide (c.toNat ≤ 57)
def isLet (c : UInt8) : Bool := decide (97 ≤ c.toNat) && decide (c.toNat ≤ 122)
def digitsB (l : List UInt8) : Bool := !l.isEmpty && l.all isDig

theorem take_snoc (s : ByteArray) (k : Nat) (h : k < s.size) : s.data.toList.take (k + 1) = s.data.toList.take k ++ [s[k]] := by
  rw [List.take_succ_eq_append_getElem (by simpa using h)]; rfl

theorem ret_bool {a b : Bool} (h : a = b) : Ending.returned (.bool a) = .returned (.bool b) := by rw [h]

theorem digits_all (s : ByteArray) (h : (s.data.toList.take s.size).all isDig = true) : digitsB s.data.toList = decide (0 < s.size) := by
  have e : s.data.toList.take s.size = s.data.toList := List.take_of_length_le (by simp)
  rw [e] at h
  unfold digitsB
  rw [h, Bool.and_true]
  have : s.data.toList.length = s.size := by simp
  cases hl : s.data.toList with
  | nil => rw [hl] at this; simp at this; simp [← this]
  | cons a t => rw [hl] at this; simp at this; simp [← this]

theorem empty_not (s : ByteArray) : (!s.toList.isEmpty) = decide (0 < s.size) := by
  rw [Lib.toList_data]
  have : s.data.toList.length = s.size := by simp
  cases hl : s.data.toList with
  | nil => rw [hl] at this; simp at this; simp [← this]
  | cons a t => rw [hl] at this; simp at this; simp [← this]

theorem digits_not (s : ByteArray) (k : Nat) (h : k < s.size) (hc : isDig s[k] = false) : digitsB s.data.toList = false := by
  have : s.data.toList.all isDig = false := by
    rw [List.all_eq_false]
    refine ⟨s[k], ?_, by simp [hc]⟩
    have : s[k] = s.data.toList[k]'(by simpa using h) := rfl
    rw [this]; exact List.getElem_mem _
  unfold digitsB; rw [this, Bool.and_false]

set_option maxRecDepth 100000 in
set_option maxHeartbeats 400000 in
theorem l01In_any (n lo hi : Int) (w : World) :
    Calls Try.prog 72 #[.int .i64 n, .int .i64 lo, .int .i64 hi] w fun e w' => e = .returned (.bool (decide (lo ≤ n) && decide (n ≤ hi))) ∧ w = w' := by
  by_cases h1 : lo ≤ n
  · by_cases h2 : n ≤ hi
    all_goals
      go_enter Try.func72, Try.ntmps72
      go_wp2
      go_ret
      exact ⟨ret_bool (by simp [h1, h2]), rfl⟩
  · go_enter Try.func72, Try.ntmps72
    go_wp2
    go_ret
    exact ⟨ret_bool (by rw [decide_eq_false (Int.not_le.2 h1), Bool.false_and]), rfl⟩

theorem width_pos (s : ByteArray) (pos : Nat) (h : pos < s.size) : 1 ≤ (Utf8.decode s pos).2 := by
  by_cases ha : (s[pos]'h).toNat < 128
  · rw [decode_ascii s pos h ha]; exact Nat.le_refl _
  · exact (decode_high s pos h (by omega)).2

/-- What a rune at hand says of the byte at hand: a rune below 128 is the byte, and it is one byte wide. -/
theorem rune_low (s : ByteArray) (pos : Nat) (h : pos < s.size) (hr : (Utf8.decode s pos).1 < 128) : (Utf8.decode s pos).1 = s[pos].toNat ∧ (Utf8.decode s pos).2 = 1 := by
  by_cases ha : (s[pos]'h).toNat < 128
  · rw [decode_ascii s pos h ha]; exact ⟨rfl, rfl⟩
  · have := (decode_high s pos h (by omega)).1; omega

theorem rune_dig (s : ByteArray) (pos : Nat) (h : pos < s.size) : (decide ((48 : Int) ≤ ((Utf8.decode s pos).1 : Int)) && decide (((Utf8.decode s pos).1 : Int) ≤ 57)) = isDig s[pos] := by
  unfold isDig
  by_cases ha : (s[pos]'h).toNat < 128
  · rw [decode_ascii s pos h ha]; simp only
    rw [Bool.eq_iff_iff]; simp; omega
  · have := (decode_high s pos h (by omega)).1
    rw [Bool.eq_iff_iff]; simp; omega

theorem rune_let (s : ByteArray) (pos : Nat) (h : pos < s.size) : (decide ((97 : Int) ≤ ((Utf8.decode s pos).1 : Int)) && decide (((Utf8.decode s pos).1 : Int) ≤ 122)) = isLet s[pos] := by
  unfold isLet
  by_cases ha : (s[pos]'h).toNat < 128
  · rw [decode_ascii s pos h ha]; simp only
    rw [Bool.eq_iff_iff]; simp; omega
  · have := (decode_high s pos h (by omega)).1
    rw [Bool.eq_iff_iff]; simp; omega

theorem dig_width (s : ByteArray) (pos : Nat) (h : pos < s.size) (hd : isDig s[pos] = true) : (Utf8.decode s pos).2 = 1 := by
  unfold isDig at hd
  rw [decode_ascii s pos h (by simp at hd; omega)]

theorem let_width (s : ByteArray) (pos : Nat) (h : pos < s.size) (hd : isLet s[pos] = true) : (Utf8.decode s pos).2 = 1 := by
  unfold isLet at hd
  rw [decode_ascii s pos h (by simp at hd; omega)]

/-! ### Names -/

def nameGo : Nat → List UInt8 → Bool
  | _, [] => true
  | i, c :: t => (isLet c || (decide (0 < i) && isDig c)) && nameGo (i + 1) t
/-- What stands at place i of a name. -/
def nameAt (i : Nat) (c : UInt8) : Bool := isLet c || (decide (0 < i) && isDig c)
def nameB (l : List UInt8) : Bool := decide (1 ≤ l.length) && decide (l.length ≤ 8) && nameGo 0 l

theorem nameGo_snoc (l : List UInt8) : ∀ (i : Nat) (c : UInt8), nameGo i (l ++ [c]) = (nameGo i l && nameAt (i + l.length) c) := by
  induction l with
  | nil => intro i c; simp [nameGo, nameAt]
  | cons a t ih => intro i c; simp [nameGo, ih, Bool.and_assoc]; congr 2; simp [Nat.add_assoc, Nat.add_comm 1]

theorem nameGo_take (s : ByteArray) (k : Nat) (h : k < s.size) : nameGo 0 (s.data.toList.take (k + 1)) = (nameGo 0 (s.data.toList.take k) && nameAt k s[k]) := by
  rw [take_snoc s k h, nameGo_snoc]
  congr 2
  simp; omega

theorem nameGo_false (l : List UInt8) (i k : Nat) (h : nameGo i (l.take k) = false) : nameGo i l = false := by
  induction l generalizing i k with
  | nil => simp at h; exact h
  | cons a t ih =>
    cases k with
    | zero => simp [nameGo] at h
    | succ k =>
      simp only [List.take_succ_cons, nameGo, Bool.and_eq_false_iff] at h ⊢
      exact h.imp id (ih (i + 1) k)

theorem name_not (s : ByteArray) (k : Nat) (h : k < s.size) (hc : nameAt k s[k] = false) : nameGo 0 s.data.toList = false :=
  nameGo_false _ 0 (k + 1) (by rw [nameGo_take s k h, hc, Bool.and_false])

theorem name_all (s : ByteArray) (h : nameGo 0 (s.data.toList.take s.size) = true) : nameB s.data.toList = (decide (1 ≤ (s.size : Int)) && decide ((s.size : Int) ≤ 8)) := by
  have e : s.data.toList.take s.size = s.data.toList := List.take_of_length_le (by simp)
  rw [e] at h
  unfold nameB
  rw [h, Bool.and_true]
  rw [Bool.eq_iff_iff]; simp; omega

theorem nameB_not {l : List UInt8} (h : nameGo 0 l = false) : nameB l = false := by unfold nameB; rw [h, Bool.and_false]

end Go.Proofs.Ytdjaiijgdflopaa
