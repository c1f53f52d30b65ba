/-
  WALKS over the text utilities that scan a string: spec.IsDigits, impl.isDigit, impl.IsDigits, spec.IsName, impl.isLetter, impl.IsName, spec.l01In.
-/
import Derived.Test.YtndmjgaojkdmaaaProg
import Derived.WalkKit
import Derived.WalkSpells
import Derived.WalkLawsBesides
import Derived.Lib.OthersKept
import Derived.Lib.Hide
import Derived.Lib.Strings
namespace Go.Proofs.Ytndmjgaojkdmaaa
open Go.RowKit
set_option linter.unusedVariables false
set_option linter.unusedSimpArgs false

def isDig (c : UInt8) : Bool := decide (48 ≤ c.toNat) && decide (c.toNat ≤ 57)
def isLet (c : UInt8) : Bool := decide (97 ≤ c.toNat) && decide (c.toNat ≤ 122)
def digitsB (l : List UInt8) : Bool := !l.isEmpty && l.all isDig

theorem take_snoc (s : ByteArray) (k : Nat) (h : k < s.size) : s.data.toList.take (k + 1) = s.data.toList.take k ++ [s[k]] := by
  rw [List.take_succ_eq_append_getElem (by simpa using h)]; rfl

theorem ret_bool {a b : Bool} (h : a = b) : Ending.returned (.bool a) = .returned (.bool b) := by rw [h]

theorem digits_all (s : ByteArray) (h : (s.data.toList.take s.size).all isDig = true) : digitsB s.data.toList = decide (0 < s.size) := by
  have e : s.data.toList.take s.size = s.data.toList := List.take_of_length_le (by simp)
  rw [e] at h
  unfold digitsB
  rw [h, Bool.and_true]
  have : s.data.toList.length = s.size := by simp
  cases hl : s.data.toList with
  | nil => rw [hl] at this; simp at this; simp [← this]
  | cons a t => rw [hl] at this; simp at this; simp [← this]

theorem empty_not (s : ByteArray) : (!s.toList.isEmpty) = decide (0 < s.size) := by
  rw [Lib.toList_data]
  have : s.data.toList.length = s.size := by simp
  cases hl : s.data.toList with
  | nil => rw [hl] at this; simp at this; simp [← this]
  | cons a t => rw [hl] at this; simp at this; simp [← this]

theorem digits_not (s : ByteArray) (k : Nat) (h : k < s.size) (hc : isDig s[k] = false) : digitsB s.data.toList = false := by
  have : s.data.toList.all isDig = false := by
    rw [List.all_eq_false]
    refine ⟨s[k], ?_, by simp [hc]⟩
    have : s[k] = s.data.toList[k]'(by simpa using h) := rfl
    rw [this]; exact List.getElem_mem _
  unfold digitsB; rw [this, Bool.and_false]

set_option maxHeartbeats 400000 in
theorem spec_IsDigits (s : ByteArray) (w : World) (hs : s.size ≤ maxLen) :
    Calls Try.prog 9 #[.string s] w fun e w' => e = .returned (.bool (digitsB s.data.toList)) ∧ w = w' := by
  unfold maxLen at hs
  go_enter Try.func9, Try.ntmps9
  go_wp2
  go_loop [3] (fun i => ∃ k : Nat, k ≤ s.size ∧ i = .int .i64 k ∧ (s.data.toList.take k).all isDig = true) (fun i => s.size - (intOf i).toNat)
  case atStart => exact ⟨0, Nat.zero_le _, rfl, rfl⟩
  case round =>
    obtain ⟨k, hk, rfl, ha⟩ := hrel
    have HA := Lib.hid ha
    clear ha
    by_cases hlt : k < s.size
    · go_wp2
      · go_ret
        have h1 : (s[k].toNat : Int) < 48 ∨ 57 < (s[k].toNat : Int) := by assumption
        exact ⟨ret_bool (digits_not s k hlt (by unfold isDig; simp; omega)).symm, rfl⟩
      · go_round
        case rel =>
          have h1 : 48 ≤ (s[k].toNat : Int) ∧ (s[k].toNat : Int) ≤ 57 := by assumption
          have h2 : isDig s[k] = true := by unfold isDig; simp; omega
          exact ⟨k + 1, by omega, by go_num, by rw [take_snoc s k hlt, List.all_append, HA.out]; simp [h2]⟩
        case measure => simp [intOf]; omega
      · go_ret
        have h1 : (s[k].toNat : Int) < 48 := by assumption
        exact ⟨ret_bool (digits_not s k hlt (by unfold isDig; simp; omega)).symm, rfl⟩
    · go_wp2
      go_ret
      have : k = s.size := by omega
      subst this
      exact ⟨ret_bool (by rw [digits_all s HA.out]), rfl⟩

set_option maxHeartbeats 400000 in
theorem isDigit_any (r : Int) (w : World) :
    Calls Try.prog 26 #[.int .i32 r] w fun e w' => e = .returned (.bool (decide (48 ≤ r) && decide (r ≤ 57))) ∧ w = w' := by
  by_cases h1 : 48 ≤ r
  · by_cases h2 : r ≤ 57
    all_goals
      go_enter Try.func26, Try.ntmps26
      go_wp2
      go_ret
      exact ⟨ret_bool (by simp [h1, h2]), rfl⟩
  · go_enter Try.func26, Try.ntmps26
    go_wp2
    go_ret
    exact ⟨ret_bool (by rw [decide_eq_false (Int.not_le.2 h1), Bool.false_and]), rfl⟩

set_option maxHeartbeats 400000 in
theorem isLetter_any (r : Int) (w : World) :
    Calls Try.prog 28 #[.int .i32 r] w fun e w' => e = .returned (.bool (decide (97 ≤ r) && decide (r ≤ 122))) ∧ w = w' := by
  by_cases h1 : 97 ≤ r
  · by_cases h2 : r ≤ 122
    all_goals
      go_enter Try.func28, Try.ntmps28
      go_wp2
      go_ret
      exact ⟨ret_bool (by simp [h1, h2]), rfl⟩
  · go_enter Try.func28, Try.ntmps28
    go_wp2
    go_ret
    exact ⟨ret_bool (by rw [decide_eq_false (Int.not_le.2 h1), Bool.false_and]), rfl⟩

set_option maxHeartbeats 400000 in
theorem l01In_any (n lo hi : Int) (w : World) :
    Calls Try.prog 27 #[.int .i64 n, .int .i64 lo, .int .i64 hi] w fun e w' => e = .returned (.bool (decide (lo ≤ n) && decide (n ≤ hi))) ∧ w = w' := by
  by_cases h1 : lo ≤ n
  · by_cases h2 : n ≤ hi
    all_goals
      go_enter Try.func27, Try.ntmps27
      go_wp2
      go_ret
      exact ⟨ret_bool (by simp [h1, h2]), rfl⟩
  · go_enter Try.func27, Try.ntmps27
    go_wp2
    go_ret
    exact ⟨ret_bool (by rw [decide_eq_false (Int.not_le.2 h1), Bool.false_and]), rfl⟩

theorem width_pos (s : ByteArray) (pos : Nat) (h : pos < s.size) : 1 ≤ (Utf8.decode s pos).2 := by
  by_cases ha : (s[pos]'h).toNat < 128
  · rw [decode_ascii s pos h ha]; exact Nat.le_refl _
  · exact (decode_high s pos h (by omega)).2

/-- What a rune at hand says of the byte at hand: a rune below 128 is the byte, and it is one byte wide. -/
theorem rune_low (s : ByteArray) (pos : Nat) (h : pos < s.size) (hr : (Utf8.decode s pos).1 < 128) : (Utf8.decode s pos).1 = s[pos].toNat ∧ (Utf8.decode s pos).2 = 1 := by
  by_cases ha : (s[pos]'h).toNat < 128
  · rw [decode_ascii s pos h ha]; exact ⟨rfl, rfl⟩
  · have := (decode_high s pos h (by omega)).1; omega

theorem rune_dig (s : ByteArray) (pos : Nat) (h : pos < s.size) : (decide ((48 : Int) ≤ ((Utf8.decode s pos).1 : Int)) && decide (((Utf8.decode s pos).1 : Int) ≤ 57)) = isDig s[pos] := by
  unfold isDig
  by_cases ha : (s[pos]'h).toNat < 128
  · rw [decode_ascii s pos h ha]; simp only
    rw [Bool.eq_iff_iff]; simp; omega
  · have := (decode_high s pos h (by omega)).1
    rw [Bool.eq_iff_iff]; simp; omega

theorem rune_let (s : ByteArray) (pos : Nat) (h : pos < s.size) : (decide ((97 : Int) ≤ ((Utf8.decode s pos).1 : Int)) && decide (((Utf8.decode s pos).1 : Int) ≤ 122)) = isLet s[pos] := by
  unfold isLet
  by_cases ha : (s[pos]'h).toNat < 128
  · rw [decode_ascii s pos h ha]; simp only
    rw [Bool.eq_iff_iff]; simp; omega
  · have := (decode_high s pos h (by omega)).1
    rw [Bool.eq_iff_iff]; simp; omega

theorem dig_width (s : ByteArray) (pos : Nat) (h : pos < s.size) (hd : isDig s[pos] = true) : (Utf8.decode s pos).2 = 1 := by
  unfold isDig at hd
  rw [decode_ascii s pos h (by simp at hd; omega)]

theorem let_width (s : ByteArray) (pos : Nat) (h : pos < s.size) (hd : isLet s[pos] = true) : (Utf8.decode s pos).2 = 1 := by
  unfold isLet at hd
  rw [decode_ascii s pos h (by simp at hd; omega)]

set_option maxHeartbeats 400000 in
theorem impl_IsDigits (s : ByteArray) (w : World) (hs : s.size ≤ maxLen) :
    Calls Try.prog 10 #[.string s] w fun e w' => e = .returned (.bool (digitsB s.data.toList)) ∧ Below w.heap.size w w' := by
  unfold maxLen at hs
  go_enter Try.func10, Try.ntmps10
  go_wp2
  go_loopw [] (fun wr => ∃ pos : Nat, pos ≤ s.size ∧ wr.heap[w.heap.size]? = some (.stringIter s pos) ∧ Below w.heap.size w wr ∧ (s.data.toList.take pos).all isDig = true) (fun wr => s.size - wr.iterPos w.heap.size)
  case atStart =>
    exact ⟨0, Nat.zero_le _, World.iter_heap w s 0, (Below.refl _ w).alloc (Nat.le_refl _) _, rfl⟩
  case round =>
    obtain ⟨pos, hp, hit, hbw, ha⟩ := hrel
    have HA := Lib.hid ha
    clear ha
    have hsz : w.heap.size < wr.heap.size := (Array.getElem?_eq_some_iff.1 hit).1
    by_cases hlt : pos < s.size
    · have hnx : ∀ ty, (Instr.next (.pointer (some ⟨w.heap.size, 0, none⟩)) true ty).run Try.prog wr = _ := fun ty => Lib.run_next_any_at wr w.heap.size s pos ty hit hlt
      have hwd := width_pos s pos hlt
      have hbw2 := Lib.below_iterAt hbw (k := w.heap.size) (by omega) s (pos + (Utf8.decode s pos).2)
      have hit2 := Lib.hid (Lib.iterAt_heap wr w.heap.size s pos (pos + (Utf8.decode s pos).2) hit)
      have HD := Lib.hid (rune_dig s pos hlt)
      cases hc : isDig s[pos] with
      | true =>
        have HW := Lib.hid (dig_width s pos hlt hc)
        have HC := Lib.hid hc
        clear hc
        go_wp2_with (go_at_call 26; refine (isDigit_any _ _).mono ?_; rintro e w' ⟨rfl, rfl⟩; rw [HD.out, HC.out])
        go_roundw
        case rel =>
          exact ⟨pos + 1, by omega, HW.out ▸ hit2.out, hbw2, by rw [take_snoc s pos hlt, List.all_append, HA.out]; simp [HC.out]⟩
        case measure =>
          simp only [World.iterPos, HW.out, Lib.iterAt_heap wr w.heap.size s pos (pos + 1) hit, hit]
          omega
      | false =>
        have HC := Lib.hid hc
        clear hc
        go_wp2_with (go_at_call 26; refine (isDigit_any _ _).mono ?_; rintro e w' ⟨rfl, rfl⟩; rw [HD.out, HC.out])
        go_ret
        exact ⟨ret_bool (digits_not s pos hlt HC.out).symm, hbw2⟩
    · have hnx : ∀ ty, (Instr.next (.pointer (some ⟨w.heap.size, 0, none⟩)) true ty).run Try.prog wr = _ := fun ty => Lib.run_next_end_at wr w.heap.size s pos ty hit hlt
      go_wp2
      go_ret
      have : pos = s.size := by omega
      subst this
      exact ⟨ret_bool (by rw [digits_all s HA.out, empty_not]), hbw⟩

/-! ### Names -/

def nameGo : Nat → List UInt8 → Bool
  | _, [] => true
  | i, c :: t => (isLet c || (decide (0 < i) && isDig c)) && nameGo (i + 1) t
/-- What stands at place i of a name. -/
def nameAt (i : Nat) (c : UInt8) : Bool := isLet c || (decide (0 < i) && isDig c)
def nameB (l : List UInt8) : Bool := decide (1 ≤ l.length) && decide (l.length ≤ 8) && nameGo 0 l

theorem nameGo_snoc (l : List UInt8) : ∀ (i : Nat) (c : UInt8), nameGo i (l ++ [c]) = (nameGo i l && nameAt (i + l.length) c) := by
  induction l with
  | nil => intro i c; simp [nameGo, nameAt]
  | cons a t ih => intro i c; simp [nameGo, ih, Bool.and_assoc]; congr 2; simp [Nat.add_assoc, Nat.add_comm 1]

theorem nameGo_take (s : ByteArray) (k : Nat) (h : k < s.size) : nameGo 0 (s.data.toList.take (k + 1)) = (nameGo 0 (s.data.toList.take k) && nameAt k s[k]) := by
  rw [take_snoc s k h, nameGo_snoc]
  congr 2
  simp; omega

theorem nameGo_false (l : List UInt8) (i k : Nat) (h : nameGo i (l.take k) = false) : nameGo i l = false := by
  induction l generalizing i k with
  | nil => simp at h; exact h
  | cons a t ih =>
    cases k with
    | zero => simp [nameGo] at h
    | succ k =>
      simp only [List.take_succ_cons, nameGo, Bool.and_eq_false_iff] at h ⊢
      exact h.imp id (ih (i + 1) k)

theorem name_not (s : ByteArray) (k : Nat) (h : k < s.size) (hc : nameAt k s[k] = false) : nameGo 0 s.data.toList = false :=
  nameGo_false _ 0 (k + 1) (by rw [nameGo_take s k h, hc, Bool.and_false])

theorem name_all (s : ByteArray) (h : nameGo 0 (s.data.toList.take s.size) = true) : nameB s.data.toList = (decide (1 ≤ (s.size : Int)) && decide ((s.size : Int) ≤ 8)) := by
  have e : s.data.toList.take s.size = s.data.toList := List.take_of_length_le (by simp)
  rw [e] at h
  unfold nameB
  rw [h, Bool.and_true]
  rw [Bool.eq_iff_iff]; simp; omega

theorem nameB_not {l : List UInt8} (h : nameGo 0 l = false) : nameB l = false := by unfold nameB; rw [h, Bool.and_false]

set_option maxHeartbeats 400000 in
theorem spec_IsName (s : ByteArray) (w : World) (hs : s.size ≤ maxLen) :
    Calls Try.prog 11 #[.string s] w fun e w' => e = .returned (.bool (nameB s.data.toList)) ∧ w = w' := by
  unfold maxLen at hs
  go_enter Try.func11, Try.ntmps11
  go_wp2
  go_loop [3] (fun i => ∃ k : Nat, k ≤ s.size ∧ i = .int .i64 k ∧ nameGo 0 (s.data.toList.take k) = true) (fun i => s.size - (intOf i).toNat)
  case atStart => exact ⟨0, Nat.zero_le _, rfl, rfl⟩
  case round =>
    obtain ⟨k, hk, rfl, ha⟩ := hrel
    have HA := Lib.hid ha
    clear ha
    by_cases hlt : k < s.size
    · have hcase : (97 ≤ (s[k].toNat : Int) ∧ (s[k].toNat : Int) ≤ 122) ∨ (0 < k ∧ 48 ≤ (s[k].toNat : Int) ∧ (s[k].toNat : Int) ≤ 57) ∨ (k = 0 ∧ (s[k].toNat : Int) < 97) ∨ (k = 0 ∧ 122 < (s[k].toNat : Int)) ∨ (0 < k ∧ (s[k].toNat : Int) < 48) ∨ (0 < k ∧ 57 < (s[k].toNat : Int) ∧ (s[k].toNat : Int) < 97) ∨ (0 < k ∧ 122 < (s[k].toNat : Int)) := by omega
      rcases hcase with ⟨h1, h2⟩ | ⟨h0, h1, h2⟩ | ⟨h0, h1⟩ | ⟨h0, h1⟩ | ⟨h0, h1⟩ | ⟨h0, h1, h2⟩ | ⟨h0, h1⟩
      · go_wp2
        go_round
        case rel =>
          have hn : nameAt k s[k] = true := by unfold nameAt isLet; simp; omega
          exact ⟨k + 1, by omega, by go_num, by rw [nameGo_take s k hlt, HA.out, hn]; rfl⟩
        case measure => simp [intOf]; omega
      · have hb : ((k : Int) == 0) = false := by simp; omega
        go_wp2
        go_round
        case rel =>
          have hn : nameAt k s[k] = true := by unfold nameAt isDig; simp; omega
          exact ⟨k + 1, by omega, by go_num, by rw [nameGo_take s k hlt, HA.out, hn]; rfl⟩
        case measure => simp [intOf]; omega
      all_goals
        have hn : nameAt k s[k] = false := by unfold nameAt isDig isLet; simp; omega
        have HN := Lib.hid (nameB_not (name_not s k hlt hn))
        clear hn
      · subst h0
        go_wp2
        go_ret
        exact ⟨ret_bool HN.out.symm, rfl⟩
      · subst h0
        have hq : (!decide ((s[0].toNat : Int) ≤ 122)) = true := by simp; omega
        go_wp2
        go_ret
        exact ⟨ret_bool HN.out.symm, rfl⟩
      · have hb : ((k : Int) == 0) = false := by simp; omega
        go_wp2
        go_ret
        exact ⟨ret_bool HN.out.symm, rfl⟩
      · have hb : ((k : Int) == 0) = false := by simp; omega
        go_wp2
        go_ret
        exact ⟨ret_bool HN.out.symm, rfl⟩
      · have hb : ((k : Int) == 0) = false := by simp; omega
        have hq : (!decide ((s[k].toNat : Int) ≤ 122)) = true := by simp; omega
        have hq2 : (57 : Int) < (s[k].toNat : Int) := by omega
        go_wp2
        go_ret
        exact ⟨ret_bool HN.out.symm, rfl⟩
    · go_wp2_with (go_at_call 27; refine (l01In_any _ _ _ _).mono ?_; rintro e w' ⟨rfl, rfl⟩)
      go_ret
      have : k = s.size := by omega
      subst this
      exact ⟨ret_bool (by rw [name_all s HA.out]), rfl⟩

set_option maxHeartbeats 400000 in
theorem impl_IsName (s : ByteArray) (w : World) (hs : s.size ≤ maxLen) :
    Calls Try.prog 12 #[.string s] w fun e w' => e = .returned (.bool (nameB s.data.toList)) ∧ Below w.heap.size w w' := by
  unfold maxLen at hs
  by_cases h1 : 1 ≤ s.size
  · by_cases h8 : s.size ≤ 8
    · go_enter Try.func12, Try.ntmps12
      go_wp2
      go_loopw [] (fun wr => ∃ pos : Nat, pos ≤ s.size ∧ wr.heap[w.heap.size]? = some (.stringIter s pos) ∧ Below w.heap.size w wr ∧ nameGo 0 (s.data.toList.take pos) = true) (fun wr => s.size - wr.iterPos w.heap.size)
      case atStart =>
        exact ⟨0, Nat.zero_le _, World.iter_heap w s 0, (Below.refl _ w).alloc (Nat.le_refl _) _, rfl⟩
      case round =>
        obtain ⟨pos, hp, hit, hbw, ha⟩ := hrel
        have HA := Lib.hid ha
        clear ha
        have hsz : w.heap.size < wr.heap.size := (Array.getElem?_eq_some_iff.1 hit).1
        by_cases hlt : pos < s.size
        · have hnx : ∀ ty, (Instr.next (.pointer (some ⟨w.heap.size, 0, none⟩)) true ty).run Try.prog wr = _ := fun ty => Lib.run_next_any_at wr w.heap.size s pos ty hit hlt
          have hbw2 := Lib.below_iterAt hbw (k := w.heap.size) (by omega) s (pos + (Utf8.decode s pos).2)
          have hit2 := Lib.hid (Lib.iterAt_heap wr w.heap.size s pos (pos + (Utf8.decode s pos).2) hit)
          have HD := Lib.hid (rune_dig s pos hlt)
          have HL := Lib.hid (rune_let s pos hlt)
          have hsplit : (isLet s[pos] = true) ∨ (isLet s[pos] = false ∧ 0 < pos ∧ isDig s[pos] = true) ∨ (isLet s[pos] = false ∧ pos = 0) ∨ (isLet s[pos] = false ∧ 0 < pos ∧ isDig s[pos] = false) := by
            cases isLet s[pos] <;> cases isDig s[pos] <;> simp <;> omega
          rcases hsplit with hl | ⟨hl, h0, hd⟩ | ⟨hl, h0⟩ | ⟨hl, h0, hd⟩
          · have HC := Lib.hid hl
            have HW := Lib.hid (let_width s pos hlt hl)
            clear hl
            go_wp2_with (go_at_call 28; refine (isLetter_any _ _).mono ?_; rintro e w' ⟨rfl, rfl⟩; rw [HL.out, HC.out])
            go_roundw
            case rel =>
              exact ⟨pos + 1, by omega, HW.out ▸ hit2.out, hbw2, by rw [nameGo_take s pos hlt, HA.out]; simp [nameAt, HC.out]⟩
            case measure =>
              simp only [World.iterPos, HW.out, Lib.iterAt_heap wr w.heap.size s pos (pos + 1) hit, hit]
              omega
          · have HC := Lib.hid hl
            have HE := Lib.hid hd
            have HW := Lib.hid (dig_width s pos hlt hd)
            clear hl hd
            have hb : ((pos : Int) == 0) = false := by simp; omega
            go_wp2_with (first | (go_at_call 28; refine (isLetter_any _ _).mono ?_; rintro e w' ⟨rfl, rfl⟩; rw [HL.out, HC.out]) | (go_at_call 26; refine (isDigit_any _ _).mono ?_; rintro e w' ⟨rfl, rfl⟩; rw [HD.out, HE.out]))
            go_roundw
            case rel =>
              exact ⟨pos + 1, by omega, HW.out ▸ hit2.out, hbw2, by rw [nameGo_take s pos hlt, HA.out]; simp [nameAt, HE.out, h0]⟩
            case measure =>
              simp only [World.iterPos, HW.out, Lib.iterAt_heap wr w.heap.size s pos (pos + 1) hit, hit]
              omega
          · have HC := Lib.hid hl
            have HN := Lib.hid (nameB_not (name_not s pos hlt (by unfold nameAt; rw [hl]; simp [h0])))
            clear hl
            subst h0
            go_wp2_with (go_at_call 28; refine (isLetter_any _ _).mono ?_; rintro e w' ⟨rfl, rfl⟩; rw [HL.out, HC.out])
            go_ret
            exact ⟨ret_bool HN.out.symm, by simpa using hbw2⟩
          · have HC := Lib.hid hl
            have HE := Lib.hid hd
            have HN := Lib.hid (nameB_not (name_not s pos hlt (by unfold nameAt; rw [hl, hd]; simp)))
            clear hl hd
            have hb : ((pos : Int) == 0) = false := by simp; omega
            go_wp2_with (first | (go_at_call 28; refine (isLetter_any _ _).mono ?_; rintro e w' ⟨rfl, rfl⟩; rw [HL.out, HC.out]) | (go_at_call 26; refine (isDigit_any _ _).mono ?_; rintro e w' ⟨rfl, rfl⟩; rw [HD.out, HE.out]))
            go_ret
            exact ⟨ret_bool HN.out.symm, hbw2⟩
        · have hnx : ∀ ty, (Instr.next (.pointer (some ⟨w.heap.size, 0, none⟩)) true ty).run Try.prog wr = _ := fun ty => Lib.run_next_end_at wr w.heap.size s pos ty hit hlt
          go_wp2
          go_ret
          have : pos = s.size := by omega
          subst this
          exact ⟨ret_bool (by rw [name_all s HA.out]; simp; omega), hbw⟩
    · go_enter Try.func12, Try.ntmps12
      go_wp2
      go_ret
      exact ⟨ret_bool (by unfold nameB; simp [h8]), Below.refl _ _⟩
  · go_enter Try.func12, Try.ntmps12
    go_wp2
    go_ret
    exact ⟨ret_bool (by unfold nameB; simp [h1]), Below.refl _ _⟩

end Go.Proofs.Ytndmjgaojkdmaaa
