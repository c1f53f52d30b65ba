/-
  WALKS over the text utilities that scan a string: spec.IsDigits, impl.isDigit, impl.IsDigits, spec.IsName, impl.isLetter, impl.IsName, spec.l01In.
  WALKS of the laws' own helpers over slices of strings: markText, eqStringS, markStringS, heldStringS, toStringS, szStringS.
  GRAPHS: an edge as three cells, a slice of edges that is read, a graph that comes in.
  WALKS of the laws' helpers over edges and graphs: toEdge, toEdgeS, toGraph, szEdgeS, szGraph, eqEdge, eqEdgeS, eqGraph.
  WALKS over slices of edges: toEdgeS, eqEdgeS; toGraph, eqGraph.
  WALKS over slices of edges: eqEdgeS; toGraph, eqGraph.
  WALKS of the laws' helpers over slices of ints: toIntS, eqIntS, markIntS, heldIntS; a slice of ints that comes in.
  SHOWS: a node as three cells with a label that is read, a tie as five cells, slices of both that are read, a show that comes in.
-/
import Derived.Test.YtgajodcgedhikaaGreatDoorProg
import Derived.WalkKit
import Derived.WalkSpells
import Derived.WalkLawsBesides
import Derived.Lib.OthersKept
import Derived.Lib.Hide
import Derived.Lib.Strings
import Derived.Deep.QuietTactic
import Derived.Deep.RegionWith
import Derived.BigQuiet
import Derived.Laws.Rows
import Derived.Laws.OwnMore
import Derived.Deep.Onto
import Derived.Deep.AppendLies
import Derived.Deep.Slices
import Derived.Deep.Strs
import Derived.ProofKit
import Derived.Lib.SmallJoins
import Derived.Deep.RegionHeld3
import Derived.ChangeSlices
namespace Go.Proofs.YtgajodcgedhikaaGreatDoor
open Go.RowKit
set_option linter.unusedVariables false
set_option linter.unusedSimpArgs false

def isDig (c : UInt8) : Bool := decide (48 ≤ c.toNat) && decide (c.toNat ≤ 57)
def isLet (c : UInt8) : Bool := decide (97 ≤ c.toNat) && decide (c.toNat ≤ 122)
def digitsB (l : List UInt8) : Bool := !l.isEmpty && l.all isDig

theorem take_snoc (s : ByteArray) (k : Nat) (h : k < s.size) : s.data.toList.take (k + 1) = s.data.toList.take k ++ [s[k]] := by
  rw [List.take_succ_eq_append_getElem (by simpa using h)]; rfl

theorem ret_bool {a b : Bool} (h : a = b) : Ending.returned (.bool a) = .returned (.bool b) := by rw [h]

theorem digits_all (s : ByteArray) (h : (s.data.toList.take s.size).all isDig = true) : digitsB s.data.toList = decide (0 < s.size) := by
  have e : s.data.toList.take s.size = s.data.toList := List.take_of_length_le (by simp)
  rw [e] at h
  unfold digitsB
  rw [h, Bool.and_true]
  have : s.data.toList.length = s.size := by simp
  cases hl : s.data.toList with
  | nil => rw [hl] at this; simp at this; simp [← this]
  | cons a t => rw [hl] at this; simp at this; simp [← this]

theorem empty_not (s : ByteArray) : (!s.toList.isEmpty) = decide (0 < s.size) := by
  rw [Lib.toList_data]
  have : s.data.toList.length = s.size := by simp
  cases hl : s.data.toList with
  | nil => rw [hl] at this; simp at this; simp [← this]
  | cons a t => rw [hl] at this; simp at this; simp [← this]

theorem digits_not (s : ByteArray) (k : Nat) (h : k < s.size) (hc : isDig s[k] = false) : digitsB s.data.toList = false := by
  have : s.data.toList.all isDig = false := by
    rw [List.all_eq_false]
    refine ⟨s[k], ?_, by simp [hc]⟩
    have : s[k] = s.data.toList[k]'(by simpa using h) := rfl
    rw [this]; exact List.getElem_mem _
  unfold digitsB; rw [this, Bool.and_false]

set_option maxRecDepth 100000 in
set_option maxHeartbeats 400000 in
theorem spec_IsDigits (s : ByteArray) (w : World) (hs : s.size ≤ maxLen) :
    Calls Tryz.prog 26 #[.string s] w fun e w' => e = .returned (.bool (digitsB s.data.toList)) ∧ w = w' := by
  unfold maxLen at hs
  go_enter Tryz.func26, Tryz.ntmps26
  go_wp2
  go_loop [3] (fun i => ∃ k : Nat, k ≤ s.size ∧ i = .int .i64 k ∧ (s.data.toList.take k).all isDig = true) (fun i => s.size - (intOf i).toNat)
  case atStart => exact ⟨0, Nat.zero_le _, rfl, rfl⟩
  case round =>
    obtain ⟨k, hk, rfl, ha⟩ := hrel
    have HA := Lib.hid ha
    clear ha
    by_cases hlt : k < s.size
    · go_wp2
      · go_ret
        have h1 : (s[k].toNat : Int) < 48 ∨ 57 < (s[k].toNat : Int) := by assumption
        exact ⟨ret_bool (digits_not s k hlt (by unfold isDig; simp; omega)).symm, rfl⟩
      · go_round
        case rel =>
          have h1 : 48 ≤ (s[k].toNat : Int) ∧ (s[k].toNat : Int) ≤ 57 := by assumption
          have h2 : isDig s[k] = true := by unfold isDig; simp; omega
          exact ⟨k + 1, by omega, by go_num, by rw [take_snoc s k hlt, List.all_append, HA.out]; simp [h2]⟩
        case measure => simp [intOf]; omega
      · go_ret
        have h1 : (s[k].toNat : Int) < 48 := by assumption
        exact ⟨ret_bool (digits_not s k hlt (by unfold isDig; simp; omega)).symm, rfl⟩
    · go_wp2
      go_ret
      have : k = s.size := by omega
      subst this
      exact ⟨ret_bool (by rw [digits_all s HA.out]), rfl⟩

set_option maxRecDepth 100000 in
set_option maxHeartbeats 400000 in
theorem isDigit_any (r : Int) (w : World) :
    Calls Tryz.prog 94 #[.int .i32 r] w fun e w' => e = .returned (.bool (decide (48 ≤ r) && decide (r ≤ 57))) ∧ w = w' := by
  by_cases h1 : 48 ≤ r
  · by_cases h2 : r ≤ 57
    all_goals
      go_enter Tryz.func94, Tryz.ntmps94
      go_wp2
      go_ret
      exact ⟨ret_bool (by simp [h1, h2]), rfl⟩
  · go_enter Tryz.func94, Tryz.ntmps94
    go_wp2
    go_ret
    exact ⟨ret_bool (by rw [decide_eq_false (Int.not_le.2 h1), Bool.false_and]), rfl⟩

set_option maxRecDepth 100000 in
set_option maxHeartbeats 400000 in
theorem isLetter_any (r : Int) (w : World) :
    Calls Tryz.prog 93 #[.int .i32 r] w fun e w' => e = .returned (.bool (decide (97 ≤ r) && decide (r ≤ 122))) ∧ w = w' := by
  by_cases h1 : 97 ≤ r
  · by_cases h2 : r ≤ 122
    all_goals
      go_enter Tryz.func93, Tryz.ntmps93
      go_wp2
      go_ret
      exact ⟨ret_bool (by simp [h1, h2]), rfl⟩
  · go_enter Tryz.func93, Tryz.ntmps93
    go_wp2
    go_ret
    exact ⟨ret_bool (by rw [decide_eq_false (Int.not_le.2 h1), Bool.false_and]), rfl⟩

set_option maxRecDepth 100000 in
set_option maxHeartbeats 400000 in
theorem l01In_any (n lo hi : Int) (w : World) :
    Calls Tryz.prog 31 #[.int .i64 n, .int .i64 lo, .int .i64 hi] w fun e w' => e = .returned (.bool (decide (lo ≤ n) && decide (n ≤ hi))) ∧ w = w' := by
  by_cases h1 : lo ≤ n
  · by_cases h2 : n ≤ hi
    all_goals
      go_enter Tryz.func31, Tryz.ntmps31
      go_wp2
      go_ret
      exact ⟨ret_bool (by simp [h1, h2]), rfl⟩
  · go_enter Tryz.func31, Tryz.ntmps31
    go_wp2
    go_ret
    exact ⟨ret_bool (by rw [decide_eq_false (Int.not_le.2 h1), Bool.false_and]), rfl⟩

theorem width_pos (s : ByteArray) (pos : Nat) (h : pos < s.size) : 1 ≤ (Utf8.decode s pos).2 := by
  by_cases ha : (s[pos]'h).toNat < 128
  · rw [decode_ascii s pos h ha]; exact Nat.le_refl _
  · exact (decode_high s pos h (by omega)).2

/-- What a rune at hand says of the byte at hand: a rune below 128 is the byte, and it is one byte wide. -/
theorem rune_low (s : ByteArray) (pos : Nat) (h : pos < s.size) (hr : (Utf8.decode s pos).1 < 128) : (Utf8.decode s pos).1 = s[pos].toNat ∧ (Utf8.decode s pos).2 = 1 := by
  by_cases ha : (s[pos]'h).toNat < 128
  · rw [decode_ascii s pos h ha]; exact ⟨rfl, rfl⟩
  · have := (decode_high s pos h (by omega)).1; omega

theorem rune_dig (s : ByteArray) (pos : Nat) (h : pos < s.size) : (decide ((48 : Int) ≤ ((Utf8.decode s pos).1 : Int)) && decide (((Utf8.decode s pos).1 : Int) ≤ 57)) = isDig s[pos] := by
  unfold isDig
  by_cases ha : (s[pos]'h).toNat < 128
  · rw [decode_ascii s pos h ha]; simp only
    rw [Bool.eq_iff_iff]; simp; omega
  · have := (decode_high s pos h (by omega)).1
    rw [Bool.eq_iff_iff]; simp; omega

theorem rune_let (s : ByteArray) (pos : Nat) (h : pos < s.size) : (decide ((97 : Int) ≤ ((Utf8.decode s pos).1 : Int)) && decide (((Utf8.decode s pos).1 : Int) ≤ 122)) = isLet s[pos] := by
  unfold isLet
  by_cases ha : (s[pos]'h).toNat < 128
  · rw [decode_ascii s pos h ha]; simp only
    rw [Bool.eq_iff_iff]; simp; omega
  · have := (decode_high s pos h (by omega)).1
    rw [Bool.eq_iff_iff]; simp; omega

theorem dig_width (s : ByteArray) (pos : Nat) (h : pos < s.size) (hd : isDig s[pos] = true) : (Utf8.decode s pos).2 = 1 := by
  unfold isDig at hd
  rw [decode_ascii s pos h (by simp at hd; omega)]

theorem let_width (s : ByteArray) (pos : Nat) (h : pos < s.size) (hd : isLet s[pos] = true) : (Utf8.decode s pos).2 = 1 := by
  unfold isLet at hd
  rw [decode_ascii s pos h (by simp at hd; omega)]

/-! ### Names -/

def nameGo : Nat → List UInt8 → Bool
  | _, [] => true
  | i, c :: t => (isLet c || (decide (0 < i) && isDig c)) && nameGo (i + 1) t
/-- What stands at place i of a name. -/
def nameAt (i : Nat) (c : UInt8) : Bool := isLet c || (decide (0 < i) && isDig c)
def nameB (l : List UInt8) : Bool := decide (1 ≤ l.length) && decide (l.length ≤ 8) && nameGo 0 l

theorem nameGo_snoc (l : List UInt8) : ∀ (i : Nat) (c : UInt8), nameGo i (l ++ [c]) = (nameGo i l && nameAt (i + l.length) c) := by
  induction l with
  | nil => intro i c; simp [nameGo, nameAt]
  | cons a t ih => intro i c; simp [nameGo, ih, Bool.and_assoc]; congr 2; simp [Nat.add_assoc, Nat.add_comm 1]

theorem nameGo_take (s : ByteArray) (k : Nat) (h : k < s.size) : nameGo 0 (s.data.toList.take (k + 1)) = (nameGo 0 (s.data.toList.take k) && nameAt k s[k]) := by
  rw [take_snoc s k h, nameGo_snoc]
  congr 2
  simp; omega

theorem nameGo_false (l : List UInt8) (i k : Nat) (h : nameGo i (l.take k) = false) : nameGo i l = false := by
  induction l generalizing i k with
  | nil => simp at h; exact h
  | cons a t ih =>
    cases k with
    | zero => simp [nameGo] at h
    | succ k =>
      simp only [List.take_succ_cons, nameGo, Bool.and_eq_false_iff] at h ⊢
      exact h.imp id (ih (i + 1) k)

theorem name_not (s : ByteArray) (k : Nat) (h : k < s.size) (hc : nameAt k s[k] = false) : nameGo 0 s.data.toList = false :=
  nameGo_false _ 0 (k + 1) (by rw [nameGo_take s k h, hc, Bool.and_false])

theorem name_all (s : ByteArray) (h : nameGo 0 (s.data.toList.take s.size) = true) : nameB s.data.toList = (decide (1 ≤ (s.size : Int)) && decide ((s.size : Int) ≤ 8)) := by
  have e : s.data.toList.take s.size = s.data.toList := List.take_of_length_le (by simp)
  rw [e] at h
  unfold nameB
  rw [h, Bool.and_true]
  rw [Bool.eq_iff_iff]; simp; omega

theorem nameB_not {l : List UInt8} (h : nameGo 0 l = false) : nameB l = false := by unfold nameB; rw [h, Bool.and_false]

set_option maxRecDepth 100000 in
set_option maxHeartbeats 400000 in
theorem spec_IsName (s : ByteArray) (w : World) (hs : s.size ≤ maxLen) :
    Calls Tryz.prog 73 #[.string s] w fun e w' => e = .returned (.bool (nameB s.data.toList)) ∧ w = w' := by
  unfold maxLen at hs
  go_enter Tryz.func73, Tryz.ntmps73
  go_wp2
  go_loop [3] (fun i => ∃ k : Nat, k ≤ s.size ∧ i = .int .i64 k ∧ nameGo 0 (s.data.toList.take k) = true) (fun i => s.size - (intOf i).toNat)
  case atStart => exact ⟨0, Nat.zero_le _, rfl, rfl⟩
  case round =>
    obtain ⟨k, hk, rfl, ha⟩ := hrel
    have HA := Lib.hid ha
    clear ha
    by_cases hlt : k < s.size
    · have hcase : (97 ≤ (s[k].toNat : Int) ∧ (s[k].toNat : Int) ≤ 122) ∨ (0 < k ∧ 48 ≤ (s[k].toNat : Int) ∧ (s[k].toNat : Int) ≤ 57) ∨ (k = 0 ∧ (s[k].toNat : Int) < 97) ∨ (k = 0 ∧ 122 < (s[k].toNat : Int)) ∨ (0 < k ∧ (s[k].toNat : Int) < 48) ∨ (0 < k ∧ 57 < (s[k].toNat : Int) ∧ (s[k].toNat : Int) < 97) ∨ (0 < k ∧ 122 < (s[k].toNat : Int)) := by omega
      rcases hcase with ⟨h1, h2⟩ | ⟨h0, h1, h2⟩ | ⟨h0, h1⟩ | ⟨h0, h1⟩ | ⟨h0, h1⟩ | ⟨h0, h1, h2⟩ | ⟨h0, h1⟩
      · go_wp2
        go_round
        case rel =>
          have hn : nameAt k s[k] = true := by unfold nameAt isLet; simp; omega
          exact ⟨k + 1, by omega, by go_num, by rw [nameGo_take s k hlt, HA.out, hn]; rfl⟩
        case measure => simp [intOf]; omega
      · have hb : ((k : Int) == 0) = false := by simp; omega
        go_wp2
        go_round
        case rel =>
          have hn : nameAt k s[k] = true := by unfold nameAt isDig; simp; omega
          exact ⟨k + 1, by omega, by go_num, by rw [nameGo_take s k hlt, HA.out, hn]; rfl⟩
        case measure => simp [intOf]; omega
      all_goals
        have hn : nameAt k s[k] = false := by unfold nameAt isDig isLet; simp; omega
        have HN := Lib.hid (nameB_not (name_not s k hlt hn))
        clear hn
      · subst h0
        go_wp2
        go_ret
        exact ⟨ret_bool HN.out.symm, rfl⟩
      · subst h0
        have hq : (!decide ((s[0].toNat : Int) ≤ 122)) = true := by simp; omega
        go_wp2
        go_ret
        exact ⟨ret_bool HN.out.symm, rfl⟩
      · have hb : ((k : Int) == 0) = false := by simp; omega
        go_wp2
        go_ret
        exact ⟨ret_bool HN.out.symm, rfl⟩
      · have hb : ((k : Int) == 0) = false := by simp; omega
        go_wp2
        go_ret
        exact ⟨ret_bool HN.out.symm, rfl⟩
      · have hb : ((k : Int) == 0) = false := by simp; omega
        have hq : (!decide ((s[k].toNat : Int) ≤ 122)) = true := by simp; omega
        have hq2 : (57 : Int) < (s[k].toNat : Int) := by omega
        go_wp2
        go_ret
        exact ⟨ret_bool HN.out.symm, rfl⟩
    · go_wp2_with (go_at_call 31; refine (l01In_any _ _ _ _).mono ?_; rintro e w' ⟨rfl, rfl⟩)
      go_ret
      have : k = s.size := by omega
      subst this
      exact ⟨ret_bool (by rw [name_all s HA.out]), rfl⟩

set_option maxRecDepth 100000 in
set_option maxHeartbeats 400000 in
theorem impl_IsName (s : ByteArray) (w : World) (hs : s.size ≤ maxLen) :
    Calls Tryz.prog 78 #[.string s] w fun e w' => e = .returned (.bool (nameB s.data.toList)) ∧ Below w.heap.size w w' := by
  unfold maxLen at hs
  by_cases h1 : 1 ≤ s.size
  · by_cases h8 : s.size ≤ 8
    · go_enter Tryz.func78, Tryz.ntmps78
      go_wp2
      go_loopw [] (fun wr => ∃ pos : Nat, pos ≤ s.size ∧ wr.heap[w.heap.size]? = some (.stringIter s pos) ∧ Below w.heap.size w wr ∧ nameGo 0 (s.data.toList.take pos) = true) (fun wr => s.size - wr.iterPos w.heap.size)
      case atStart =>
        exact ⟨0, Nat.zero_le _, World.iter_heap w s 0, (Below.refl _ w).alloc (Nat.le_refl _) _, rfl⟩
      case round =>
        obtain ⟨pos, hp, hit, hbw, ha⟩ := hrel
        have HA := Lib.hid ha
        clear ha
        have hsz : w.heap.size < wr.heap.size := (Array.getElem?_eq_some_iff.1 hit).1
        by_cases hlt : pos < s.size
        · have hnx : ∀ ty, (Instr.next (.pointer (some ⟨w.heap.size, 0, none⟩)) true ty).run Tryz.prog wr = _ := fun ty => Lib.run_next_any_at wr w.heap.size s pos ty hit hlt
          have hbw2 := Lib.below_iterAt hbw (k := w.heap.size) (by omega) s (pos + (Utf8.decode s pos).2)
          have hit2 := Lib.hid (Lib.iterAt_heap wr w.heap.size s pos (pos + (Utf8.decode s pos).2) hit)
          have HD := Lib.hid (rune_dig s pos hlt)
          have HL := Lib.hid (rune_let s pos hlt)
          have hsplit : (isLet s[pos] = true) ∨ (isLet s[pos] = false ∧ 0 < pos ∧ isDig s[pos] = true) ∨ (isLet s[pos] = false ∧ pos = 0) ∨ (isLet s[pos] = false ∧ 0 < pos ∧ isDig s[pos] = false) := by
            cases isLet s[pos] <;> cases isDig s[pos] <;> simp <;> omega
          rcases hsplit with hl | ⟨hl, h0, hd⟩ | ⟨hl, h0⟩ | ⟨hl, h0, hd⟩
          · have HC := Lib.hid hl
            have HW := Lib.hid (let_width s pos hlt hl)
            clear hl
            go_wp2_with (go_at_call 93; refine (isLetter_any _ _).mono ?_; rintro e w' ⟨rfl, rfl⟩; rw [HL.out, HC.out])
            go_roundw
            case rel =>
              exact ⟨pos + 1, by omega, HW.out ▸ hit2.out, hbw2, by rw [nameGo_take s pos hlt, HA.out]; simp [nameAt, HC.out]⟩
            case measure =>
              simp only [World.iterPos, HW.out, Lib.iterAt_heap wr w.heap.size s pos (pos + 1) hit, hit]
              omega
          · have HC := Lib.hid hl
            have HE := Lib.hid hd
            have HW := Lib.hid (dig_width s pos hlt hd)
            clear hl hd
            have hb : ((pos : Int) == 0) = false := by simp; omega
            go_wp2_with (first | (go_at_call 93; refine (isLetter_any _ _).mono ?_; rintro e w' ⟨rfl, rfl⟩; rw [HL.out, HC.out]) | (go_at_call 94; refine (isDigit_any _ _).mono ?_; rintro e w' ⟨rfl, rfl⟩; rw [HD.out, HE.out]))
            go_roundw
            case rel =>
              exact ⟨pos + 1, by omega, HW.out ▸ hit2.out, hbw2, by rw [nameGo_take s pos hlt, HA.out]; simp [nameAt, HE.out, h0]⟩
            case measure =>
              simp only [World.iterPos, HW.out, Lib.iterAt_heap wr w.heap.size s pos (pos + 1) hit, hit]
              omega
          · have HC := Lib.hid hl
            have HN := Lib.hid (nameB_not (name_not s pos hlt (by unfold nameAt; rw [hl]; simp [h0])))
            clear hl
            subst h0
            go_wp2_with (go_at_call 93; refine (isLetter_any _ _).mono ?_; rintro e w' ⟨rfl, rfl⟩; rw [HL.out, HC.out])
            go_ret
            exact ⟨ret_bool HN.out.symm, by simpa using hbw2⟩
          · have HC := Lib.hid hl
            have HE := Lib.hid hd
            have HN := Lib.hid (nameB_not (name_not s pos hlt (by unfold nameAt; rw [hl, hd]; simp)))
            clear hl hd
            have hb : ((pos : Int) == 0) = false := by simp; omega
            go_wp2_with (first | (go_at_call 93; refine (isLetter_any _ _).mono ?_; rintro e w' ⟨rfl, rfl⟩; rw [HL.out, HC.out]) | (go_at_call 94; refine (isDigit_any _ _).mono ?_; rintro e w' ⟨rfl, rfl⟩; rw [HD.out, HE.out]))
            go_ret
            exact ⟨ret_bool HN.out.symm, hbw2⟩
        · have hnx : ∀ ty, (Instr.next (.pointer (some ⟨w.heap.size, 0, none⟩)) true ty).run Tryz.prog wr = _ := fun ty => Lib.run_next_end_at wr w.heap.size s pos ty hit hlt
          go_wp2
          go_ret
          have : pos = s.size := by omega
          subst this
          exact ⟨ret_bool (by rw [name_all s HA.out]; simp; omega), hbw⟩
    · go_enter Tryz.func78, Tryz.ntmps78
      go_wp2
      go_ret
      exact ⟨ret_bool (by unfold nameB; simp [h8]), Below.refl _ _⟩
  · go_enter Tryz.func78, Tryz.ntmps78
    go_wp2
    go_ret
    exact ⟨ret_bool (by unfold nameB; simp [h1]), Below.refl _ _⟩

end Go.Proofs.YtgajodcgedhikaaGreatDoor

namespace Go.Proofs.YtgajodcgedhikaaGreatDoor
open Go.RowKit
set_option linter.unusedVariables false
set_option linter.unusedSimpArgs false

/-! ### markText -/

def markGo : Nat → Nat → List UInt8 → List UInt8
  | 0, _, out => out
  | f + 1, k, out => if k = 0 then out else markGo f (k / 10) (UInt8.ofNat (48 + k % 10) :: out)
def markB (k : Nat) : ByteArray := ⟨(109 :: markGo k k []).toArray⟩

theorem markGo_fuel : ∀ (f k : Nat) (out : List UInt8), k ≤ f → markGo f k out = markGo k k out := by
  intro f
  induction f using Nat.strongRecOn with
  | _ f ih =>
    intro k out h
    match f, k with
    | 0, 0 => rfl
    | f + 1, 0 => simp [markGo]
    | f + 1, k + 1 =>
      have hd : (k + 1) / 10 ≤ k := by omega
      simp only [markGo, Nat.add_one_ne_zero, if_false]
      rw [ih f (by omega) ((k + 1) / 10) _ (by omega)]
      by_cases hk : k < f + 1
      · rw [ih k hk ((k + 1) / 10) _ hd]
      · omega
theorem markGo_step (k : Nat) (out : List UInt8) (h : 0 < k) : markGo k k out = markGo (k / 10) (k / 10) (UInt8.ofNat (48 + k % 10) :: out) := by
  obtain ⟨m, rfl⟩ : ∃ m, k = m + 1 := ⟨k - 1, by omega⟩
  rw [markGo, if_neg (by omega), markGo_fuel m _ _ (by omega)]

/-- A byte as a string. -/
def byteB (c : Nat) : ByteArray := ⟨#[UInt8.ofNat c]⟩
theorem byteB_size (c : Nat) : (byteB c).size = 1 := rfl
theorem byteB_append (c : Nat) (x : ByteArray) : (byteB c ++ x).data.toList = UInt8.ofNat c :: x.data.toList := by
  simp [byteB]
theorem conv_one (w : World) (c : Nat) (h1 : c < 256) :
    (convert 76 9 (.slice (some ⟨w.heap.size, 0, none⟩) 1 1)).run Tryz.prog (w.alloc (.cells #[.int .u8 c] 5)) = .ok (.string (byteB c)) (w.alloc (.cells #[.int .u8 c] 5)) := by
  have h := run_convert_bytes_back (w.alloc (.cells #[.int .u8 c] 5)) 76 9 5 ⟨w.heap.size, 0, none⟩ 1 [UInt8.ofNat c] Tryz.underlying76 Tryz.underlying5 Tryz.underlying9 (by
    intro j hj
    match j, hj with
    | 0, _ =>
      refine (cell_one_new w _ _ 0 _ rfl).trans ?_
      have : (UInt8.ofNat c).toNat = c := by simp; omega
      simp [this])
  exact h

theorem conv_at (c : Nat) (h1 : c < 256) (w : World) (g : Nat) (hc : w.cell? ⟨g, 0, none⟩ = some (.int .u8 c)) :
    (convert 76 9 (.slice (some ⟨g, 0, none⟩) 1 1)).run Tryz.prog w = .ok (.string (byteB c)) w := by
  have h := run_convert_bytes_back w 76 9 5 ⟨g, 0, none⟩ 1 [UInt8.ofNat c] Tryz.underlying76 Tryz.underlying5 Tryz.underlying9 (by
    intro j hj
    match j, hj with
    | 0, _ =>
      refine hc.trans ?_
      have : (UInt8.ofNat c).toNat = c := by simp; omega
      simp [this])
  exact h

set_option maxRecDepth 100000 in
set_option maxHeartbeats 400000 in
theorem markText_any (k : Nat) (w : World) (hk : 0 < k) (hk2 : k ≤ 1099511627776) :
    Calls Tryz.prog 46 #[.int .i64 k] w fun e w' => e = .returned (.string (markB k)) ∧ Below w.heap.size w w' := by
  go_enter Tryz.func46, Tryz.ntmps46
  go_wp2
  go_loopw [0, 3] (fun i o wr => ∃ (n : Nat) (x : ByteArray), i = .int .i64 n ∧ o = .string x ∧ x.size + n ≤ k ∧ markGo n n x.data.toList = markGo k k [] ∧ Below w.heap.size w wr) (fun i _ _ => (intOf i).toNat)
  case atStart => exact ⟨k, ⟨#[]⟩, rfl, rfl, by simp [ByteArray.size], rfl, Below.refl _ _⟩
  case round =>
    obtain ⟨n, x, rfl, rfl, hx, hm, hbw⟩ := hrel
    have HM := Lib.hid hm
    clear hm
    by_cases hn : 0 < n
    · have hcv := conv_one wr (48 + n % 10) (by omega)
      have ec : ((48 + n % 10 : Nat) : Int) = 48 + (n : Int) % 10 := by omega
      rw [ec] at hcv
      clear ec
      have hbs : (byteB (48 + n % 10)).size ≤ 1 := Nat.le_refl _
      have ed : ((n : Int) / 10) = ((n / 10 : Nat) : Int) := by omega
      have HD := Lib.hid ed
      clear ed
      go_wp2
      go_roundw
      case rel =>
        refine ⟨n / 10, byteB (48 + n % 10) ++ x, by rw [HD.out], rfl, ?_, ?_, hbw.alloc hbw.size _⟩
        · rw [ByteArray.size_append]; omega
        · rw [byteB_append, ← HM.out, markGo_step n _ hn]
      case measure => simp [intOf]; omega
    · have hn0 : n = 0 := by omega
      subst hn0
      have hxs : x.size ≤ 9223372036854775806 := by omega
      go_wp2
      go_ret
      refine ⟨?_, hbw⟩
      have h1 := HM.out
      simp [markGo] at h1
      have : (⟨#[109]⟩ : ByteArray) ++ x = markB k := by
        apply ByteArray.ext
        apply Array.toList_inj.1
        unfold markB
        simp [h1]
      rw [this]; rfl

/-! ### Slices of strings that are read -/

/-- The slice at A (nil, or an address in the heap) holds the values xs, one cell each. -/
def RowAt (w : World) (A : Option Addr) (xs : List Value) : Prop :=
  0 < xs.length → ∃ g o, A = some ⟨g, o, none⟩ ∧ g < w.heap.size ∧ ∀ j (h : j < xs.length), w.cell? ⟨g, o + j, none⟩ = some xs[j]

theorem RowAt.below {w w' : World} {A : Option Addr} {xs : List Value} (h : RowAt w A xs) (hb : Below w.heap.size w w') : RowAt w' A xs := by
  intro hx
  obtain ⟨g, o, hA, hg, hc⟩ := h hx
  have := hb.size
  exact ⟨g, o, hA, by omega, fun j hj => (hb.cell (p := ⟨g, o + j, none⟩) hg).trans (hc j hj)⟩

theorem RowAt.of_heap {w w' : World} {A : Option Addr} {xs : List Value} (h : RowAt w A xs) (hb : w'.heap = w.heap) : RowAt w' A xs := by
  intro hx
  obtain ⟨g, o, hA, hg, hc⟩ := h hx
  exact ⟨g, o, hA, by rw [hb]; exact hg, fun j hj => (World.cell?_of_block (a := ⟨g, o + j, none⟩) (by rw [hb])).trans (hc j hj)⟩

/-- An owned slice is one, and what it looks like. -/
theorem own_form {w : World} {B e n : Nat} {v : Value} {xs : List Value} (h : w.ownsRow B e 1 v n xs) : ∃ A c, v = .slice A n c ∧ xs.length = n ∧ RowAt w A xs := by
  have hl : xs.length = n := by simpa using h.1
  rcases Nat.eq_zero_or_pos n with h0 | h0
  · rcases h.2 with ⟨rfl, hn⟩ | ⟨g, cap, cur, rfl, _⟩
    · subst hn
      exact ⟨none, 0, rfl, hl, fun hx => by omega⟩
    · exact ⟨some ⟨g, 0, none⟩, cap, rfl, hl, fun hx => by omega⟩
  · obtain ⟨g, cap, rfl, hb, hg⟩ := h.form h0
    refine ⟨some ⟨g, 0, none⟩, cap, rfl, hl, fun _ => ⟨g, 0, rfl, hg, fun j hj => ?_⟩⟩
    rw [Nat.zero_add, h.cellAt j (by omega)]
    exact List.getElem?_eq_getElem hj

/-! ### Marks -/

def marks (k n : Nat) : List Value := (List.range n).map fun i => Value.string (markB (k + i))
theorem marks_length (k n : Nat) : (marks k n).length = n := by simp [marks]
theorem marks_at (k n j : Nat) (h : j < (marks k n).length) : (marks k n)[j] = .string (markB (k + j)) := by simp [marks]
theorem marks_step (k j : Nat) (xs : List Value) (h : j < xs.length) : (marks k j ++ xs.drop j).set j (.string (markB (k + j))) = marks k (j + 1) ++ xs.drop (j + 1) := by
  have e : marks k (j + 1) = marks k j ++ [.string (markB (k + j))] := by simp [marks, List.range_succ]
  have h1 : (marks k j).length = j := marks_length k j
  rw [e, List.set_append, if_neg (by omega), h1, Nat.sub_self, List.append_assoc, List.drop_eq_getElem_cons h]
  rfl

theorem below_grown {w w1 w2 : World} {row : Option Nat} (hg : w.grownBy w1 row) (hb : Below w1.heap.size w1 w2) : w.grownBy w2 row :=
  ⟨hb.os.trans hg.os, hb.tape.trans hg.tape, hb.output.trans hg.output, Nat.le_trans hg.size hb.size, fun k hk hr => (hb.block k (Nat.lt_of_lt_of_le hk hg.size)).trans (hg.block k hk hr)⟩
theorem grown_trans {w w1 w2 : World} {row : Option Nat} (hg : w.grownBy w1 row) (hb : w1.grownBy w2 row) : w.grownBy w2 row :=
  ⟨hb.os.trans hg.os, hb.tape.trans hg.tape, hb.output.trans hg.output, Nat.le_trans hg.size hb.size, fun k hk hr => (hb.block k (Nat.lt_of_lt_of_le hk hg.size) hr).trans (hg.block k hk hr)⟩
theorem own_below {w w' : World} {B e n s : Nat} {v : Value} {xs : List Value} (h : w.ownsRow B e s v n xs) (hb : Below w.heap.size w w') : w'.ownsRow B e s v n xs :=
  h.kept (row := none) ⟨hb.os, hb.tape, hb.output, hb.size, fun k hk _ => hb.block k hk⟩ (by
    rcases h.2 with ⟨rfl, _⟩ | ⟨g, cap, cur, rfl, _⟩
    · exact .inl rfl
    · exact .inr (by simp [Value.ownBlock]))

end Go.Proofs.YtgajodcgedhikaaGreatDoor

namespace Go.Proofs.YtgajodcgedhikaaGreatDoor
open Go.RowKit Go.ChangeShapes Go.WideShapes Go.ChangeAt Go.WideMaps Go.WideElems
set_option linter.unusedVariables false
set_option linter.unusedSimpArgs false

theorem below_step {w a b : World} (h : Below a.heap.size a b) (hs : w.heap.size ≤ a.heap.size) (h0 : Below w.heap.size w a) : Below w.heap.size w b := h0.trans (h.mono hs)

structure GE where
  u : Int
  v : Int
  c : Int
def GE.val (e : GE) : Value := .agg #[.int .i64 e.u, .int .i64 e.v, .int .i64 e.c]
def GE.cells (e : GE) : List Value := [.int .i64 e.u, .int .i64 e.v, .int .i64 e.c]
def GE.wf (e : GE) : Prop := (Lit.int .i64 e.u).wf = true ∧ (Lit.int .i64 e.v).wf = true ∧ (Lit.int .i64 e.c).wf = true
def cellsE (es : List GE) : List Value := es.flatMap GE.cells
def grV (n : Int) (A : Option Addr) (k c : Nat) : Value := .agg #[.int .i64 n, .slice A k c]

theorem cellsE_length (es : List GE) : (cellsE es).length = es.length * 3 := by
  induction es with
  | nil => rfl
  | cons e es ih => simp [cellsE, GE.cells] at ih ⊢; omega
theorem cellsE_append (a b : List GE) : cellsE (a ++ b) = cellsE a ++ cellsE b := by simp [cellsE]

/-- The slice at A holds the edges es, three cells each. -/
def EdgeAt (w : World) (A : Option Addr) (es : List GE) : Prop :=
  0 < es.length → ∃ g o, A = some ⟨g, o, none⟩ ∧ g < w.heap.size ∧ ∀ j (h : j < es.length),
    w.cell? ⟨g, o + j * 3, none⟩ = some (.int .i64 es[j].u) ∧ w.cell? ⟨g, o + j * 3 + 1, none⟩ = some (.int .i64 es[j].v) ∧ w.cell? ⟨g, o + j * 3 + 2, none⟩ = some (.int .i64 es[j].c)

theorem EdgeAt.below {w w' : World} {A : Option Addr} {es : List GE} (h : EdgeAt w A es) (hb : Below w.heap.size w w') : EdgeAt w' A es := by
  intro hx
  obtain ⟨g, o, hA, hg, hc⟩ := h hx
  have := hb.size
  exact ⟨g, o, hA, by omega, fun j hj => ⟨(hb.cell (p := ⟨g, o + j * 3, none⟩) hg).trans (hc j hj).1, (hb.cell (p := ⟨g, o + j * 3 + 1, none⟩) hg).trans (hc j hj).2.1, (hb.cell (p := ⟨g, o + j * 3 + 2, none⟩) hg).trans (hc j hj).2.2⟩⟩

theorem EdgeAt.of_heap {w w' : World} {A : Option Addr} {es : List GE} (h : EdgeAt w A es) (hb : w'.heap = w.heap) : EdgeAt w' A es := by
  intro hx
  obtain ⟨g, o, hA, hg, hc⟩ := h hx
  refine ⟨g, o, hA, by rw [hb]; exact hg, fun j hj => ⟨?_, ?_, ?_⟩⟩
  · exact (World.cell?_of_block (by rw [hb])).trans (hc j hj).1
  · exact (World.cell?_of_block (by rw [hb])).trans (hc j hj).2.1
  · exact (World.cell?_of_block (by rw [hb])).trans (hc j hj).2.2

theorem getE (es : List GE) : ∀ (j : Nat) (h : j < es.length), (cellsE es)[j * 3]? = some (.int .i64 es[j].u) ∧ (cellsE es)[j * 3 + 1]? = some (.int .i64 es[j].v) ∧ (cellsE es)[j * 3 + 2]? = some (.int .i64 es[j].c) := by
  induction es with
  | nil => intro j h; simp at h
  | cons e es ih =>
    intro j h
    have e1 : cellsE (e :: es) = .int .i64 e.u :: .int .i64 e.v :: .int .i64 e.c :: cellsE es := rfl
    match j with
    | 0 => simp [e1]
    | j + 1 =>
      have := ih j (by simpa using h)
      rw [show (j + 1) * 3 = j * 3 + 1 + 1 + 1 from by omega, e1]
      simpa using this

/-- An owned slice of edges is one that can be read. -/
theorem ownE_form {w : World} {B e n : Nat} {v : Value} {es : List GE} (h : w.ownsRow B e 3 v n (cellsE es)) : ∃ A c, v = .slice A n c ∧ es.length = n ∧ EdgeAt w A es := by
  have hl : es.length = n := by
    have := h.1
    rw [cellsE_length] at this
    omega
  rcases h.2 with ⟨rfl, hn⟩ | ⟨g, cap, cur, rfl, hB, hg, _, _, hs, ht⟩
  · subst hn
    exact ⟨none, 0, rfl, hl, fun hx => by omega⟩
  · refine ⟨some ⟨g, 0, none⟩, cap, rfl, hl, fun hx => ⟨g, 0, rfl, (Array.getElem?_eq_some_iff.1 hg).1, fun j hj => ?_⟩⟩
    have hc := getE es j hj
    have ha := h.cellAt
    rw [Nat.zero_add, ha (j * 3) (by omega), ha (j * 3 + 1) (by omega), ha (j * 3 + 2) (by omega)]
    exact hc

theorem choose_edges {p : Nat → GE → Prop} : ∀ {n : Nat}, (∀ i, i < n → ∃ e, p i e) → ∃ es : List GE, es.length = n ∧ ∀ i (h : i < es.length), p i es[i] := by
  intro n
  induction n with
  | zero => exact fun _ => ⟨[], rfl, fun i h => by simp at h⟩
  | succ n ih =>
    intro hq
    obtain ⟨es, h1, h2⟩ := ih (fun i hi => hq i (by omega))
    obtain ⟨e, he⟩ := hq n (by omega)
    refine ⟨es ++ [e], by simp [h1], fun i hi => ?_⟩
    by_cases hlt : i < es.length
    · rw [List.getElem_append_left hlt]; exact h2 i hlt
    · have : i = es.length := by simp at hi; omega
      subst this
      simpa [h1] using he

end Go.Proofs.YtgajodcgedhikaaGreatDoor

namespace Go.Proofs.YtgajodcgedhikaaGreatDoor
open Go.RowKit
set_option linter.unusedVariables false
set_option linter.unusedSimpArgs false

end Go.Proofs.YtgajodcgedhikaaGreatDoor

namespace Go.Proofs.YtgajodcgedhikaaGreatDoor
open Go.RowKit
set_option linter.unusedVariables false
set_option linter.unusedSimpArgs false

theorem put3 (xs : List Value) (k : Nat) (es : List GE) (e : GE) (hl : k * 3 + 3 ≤ xs.length) (hk : xs.take (k * 3) = cellsE (es.take k)) (he : es[k]? = some e) :
    (((xs.set (k * 3) (.int .i64 e.u)).set (k * 3 + 1) (.int .i64 e.v)).set (k * 3 + 2) (.int .i64 e.c)).take ((k + 1) * 3) = cellsE (es.take (k + 1)) := by
  have hes : es.take (k + 1) = es.take k ++ [e] := by
    rw [List.take_add_one, he]; rfl
  have hx : xs = xs.take (k * 3) ++ xs.drop (k * 3) := (List.take_append_drop _ _).symm
  obtain ⟨a, b, c, r, hr⟩ : ∃ a b c r, xs.drop (k * 3) = a :: b :: c :: r := by
    have hd : (xs.drop (k * 3)).length = xs.length - k * 3 := List.length_drop ..
    match h : xs.drop (k * 3) with
    | [] => rw [h] at hd; simp at hd; omega
    | [_] => rw [h] at hd; simp at hd; omega
    | [_, _] => rw [h] at hd; simp at hd; omega
    | a :: b :: c :: r => exact ⟨a, b, c, r, rfl⟩
  have hp : (xs.take (k * 3)).length = k * 3 := by simp; omega
  rw [hx, hr]
  rw [List.set_append_right _ _ (by omega), List.set_append_right _ _ (by omega), List.set_append_right _ _ (by omega), hp]
  rw [show k * 3 - k * 3 = 0 from by omega, show k * 3 + 1 - k * 3 = 1 from by omega, show k * 3 + 2 - k * 3 = 2 from by omega]
  rw [List.take_append, hp, List.take_of_length_le (by omega), show (k + 1) * 3 - k * 3 = 3 from by omega, hes, cellsE_append, hk]
  rfl

theorem set3_length (xs : List Value) (i j k : Nat) (a b c : Value) : (((xs.set i a).set j b).set k c).length = xs.length := by simp

end Go.Proofs.YtgajodcgedhikaaGreatDoor

namespace Go.Proofs.YtgajodcgedhikaaGreatDoor
open Go.RowKit
set_option linter.unusedVariables false
set_option linter.unusedSimpArgs false

theorem setCell_grown (w : World) (p : Addr) (u : Value) : w.grownBy (w.setCell p u) (some p.block) :=
  ⟨rfl, rfl, rfl, by simp, fun k _ hk => heap_setCell_other w p k u (fun e => hk (by simp [e]))⟩
theorem own_base {w : World} {B B' e n s : Nat} {v : Value} {xs : List Value} (h : w.ownsRow B e s v n xs) (hb : B' ≤ B) : w.ownsRow B' e s v n xs := by
  refine ⟨h.1, ?_⟩
  rcases h.2 with h2 | ⟨g, cap, cur, h1, h2, h3⟩
  · exact .inl h2
  · exact .inr ⟨g, cap, cur, h1, by omega, h3⟩
theorem own_set {w : World} {B e n s : Nat} {v : Value} {xs : List Value} (h : w.ownsRow B e s v n xs) (p : Addr) (u : Value) (hp : p.block < B) : (w.setCell p u).ownsRow B e s v n xs :=
  h.kept (setCell_grown w p u) (by
    cases hb : v.ownBlock with
    | none => exact .inl rfl
    | some g => exact .inr (fun e => by have := (h.lt g hb).1; injection e with e; omega))

end Go.Proofs.YtgajodcgedhikaaGreatDoor

namespace Go.Proofs.YtgajodcgedhikaaGreatDoor
open Go.RowKit Go.ChangeShapes Go.WideShapes Go.ChangeAt Go.WideMaps Go.WideElems
set_option linter.unusedVariables false
set_option linter.unusedSimpArgs false

def intV (z : Int) : Value := .int .i64 z
theorem intV_eq (z : Int) : intV z = .int .i64 z := rfl
theorem cells_int1 : Tryz.prog.cellsOf 3 = 1 := by kernel_rfl
theorem Tryz.info3 : (Tryz.prog.info? 3).map (fun i => (i.zero, i.size, i.bytes)) = some (some (.int .i64 0), 1, 8) := by kernel_rfl

/-- A slice of ints that comes in, nil or not: the ints it reads as, and where they lie. -/
theorem ints_in {H : Type} {enc : TypeId × Value → H} {P : Program} {W : World} {t e : TypeId} {fuel n c : Nat} {A : Option Addr} {x : DataW H × List MemPlace}
    (ht : P.underlying t = some (.slice e)) (he : P.underlying e = some (.int .i64)) (hc : P.cellsOf e = 1)
    (hf : DataW.trod enc P W 0 (fun _ => true) true fuel t (Value.slice A n c).cells.toList = some x) :
    ∃ zs : List Int, zs.length = n ∧ n ≤ maxLen ∧ (∀ y ∈ zs, (Lit.int .i64 y).wf = true) ∧ RowAt W A (zs.map intV) := by
  rcases Go.ChangeShapes.open_ints ht he hc hf with ⟨hcs, _⟩ | ⟨a, len, cap, ss, hcs, _, hl, hm, hz, _, hcell, hws⟩
  · simp [Value.cells] at hcs
    obtain ⟨rfl, rfl, rfl⟩ := hcs
    exact ⟨[], rfl, Nat.zero_le _, by simp, fun h => by simp at h⟩
  · simp [Value.cells] at hcs
    obtain ⟨rfl, rfl, rfl⟩ := hcs
    have hlen : ss.length = c := by simpa using hz
    refine ⟨ss.take n, by simp; omega, by omega, fun y hy => hws y (List.mem_of_mem_take hy), fun hp => ?_⟩
    have hp2 : 0 < n := by
      simp at hp
      omega
    have h0 := hcell 0 (by omega)
    obtain ⟨b, off, spot⟩ := a
    have hspot : spot = none := by simpa [Addr.add] using World.cell?_spot h0
    subst hspot
    refine ⟨b, off, rfl, ?_, fun j hj => ?_⟩
    · rcases Nat.lt_or_ge b W.heap.size with hlt | hge
      · exact hlt
      · have : W.heap[b]? = none := Array.getElem?_eq_none hge
        simp [Addr.add, World.cell?, this] at h0
    · have hj2 : j < n ∧ j < ss.length := by
        simp at hj
        omega
      rw [← Go.WideShapes.add_plain, hcell j hj2.2, List.getElem_map, List.getElem_take, List.getD_eq_getElem?_getD, List.getElem?_eq_getElem hj2.2]
      rfl

theorem put_int (xs : List Value) (z : Value) (n k : Nat) (u : Value) (hx : xs[k]? = some u) (hn : xs.length = n) (hk : k < n) :
    (xs.take k ++ List.replicate (n - k) z).set k u = xs.take (k + 1) ++ List.replicate (n - (k + 1)) z := by
  have h1 : (xs.take k).length = k := by simp; omega
  have e : n - k = (n - (k + 1)) + 1 := by omega
  rw [List.set_append_right _ _ (by omega), h1, Nat.sub_self, e, List.replicate_succ, List.set_cons_zero, List.take_add_one, hx]
  simp

set_option maxRecDepth 100000 in
set_option maxHeartbeats 400000 in
theorem eqIntS_same (zs : List Int) (A B : Option Addr) (n ca cb : Nat) (w : World) (hn : zs.length = n) (hm : n ≤ maxLen) (ha : RowAt w A (zs.map intV)) (hb : RowAt w B (zs.map intV)) :
    Calls Tryz.prog 72 #[.slice A n ca, .slice B n cb] w fun e w' => e = .returned (.bool true) ∧ ∃ q, w' = w.drewN q := by
  unfold maxLen at hm
  have HA := Lib.hid ha
  have HB := Lib.hid hb
  have HL := Lib.hid hn
  clear ha hb hn
  have hne : ((n : Int) != (n : Int)) = false := by simp
  go_enter Tryz.func72, Tryz.ntmps72
  go_wp2
  go_loopw [5] (fun i wr => ∃ k : Nat, k ≤ n ∧ i = .int .i64 k ∧ ∃ q, wr = w.drewN q) (fun i _ => n - (intOf i).toNat)
  case atStart => exact ⟨0, Nat.zero_le _, rfl, 0, rfl⟩
  case round =>
    obtain ⟨k, hk, rfl, q, rfl⟩ := hrel
    by_cases hlt : k < n
    · have hl := HL.out
      obtain ⟨g, o, rfl, hg, hc⟩ := HA.out (by simp; omega)
      obtain ⟨g', o', rfl, hg', hc'⟩ := HB.out (by simp; omega)
      obtain ⟨x, h1, h2⟩ : ∃ x : Int, w.cell? ⟨g, o + k, none⟩ = some (.int .i64 x) ∧ w.cell? ⟨g', o' + k, none⟩ = some (.int .i64 x) :=
        ⟨zs[k]'(by omega), (hc k (by simp; omega)).trans (by rw [List.getElem_map]; rfl), (hc' k (by simp; omega)).trans (by rw [List.getElem_map]; rfl)⟩
      clear hc hc' hl
      have hxx : ((x : Int) != x) = false := by simp
      go_wp2
      go_quiet (fail)
      go_wp2
      go_roundw
      case rel => exact ⟨k + 1, by omega, by go_num, q + nq, rfl⟩
      case measure => simp [intOf]; omega
    · go_wp2
      go_ret
      exact ⟨rfl, q, rfl⟩

def imarks (k n : Nat) : List Value := (List.range n).map fun i => intV ((k + i : Nat) : Int)
theorem imarks_length (k n : Nat) : (imarks k n).length = n := by simp [imarks]
theorem imarks_at (k n j : Nat) (h : j < (imarks k n).length) : (imarks k n)[j] = .int .i64 ((k + j : Nat) : Int) := by simp [imarks, intV]
theorem imarks_step (k j : Nat) (xs : List Value) (h : j < xs.length) : (imarks k j ++ xs.drop j).set j (.int .i64 ((k + j : Nat) : Int)) = imarks k (j + 1) ++ xs.drop (j + 1) := by
  have e : imarks k (j + 1) = imarks k j ++ [.int .i64 ((k + j : Nat) : Int)] := by simp [imarks, List.range_succ, intV]
  have h1 : (imarks k j).length = j := imarks_length k j
  rw [e, List.set_append, if_neg (by omega), h1, Nat.sub_self, List.append_assoc, List.drop_eq_getElem_cons h]
  rfl

set_option maxRecDepth 100000 in
set_option maxHeartbeats 400000 in
theorem markIntS_any (A : Option Addr) (n c B k : Nat) (xs : List Value) (w : World) (hk : 0 < k) (hn : k + n ≤ 1099511627776) (hown : w.ownsRow B 3 1 (.slice A n c) n xs) :
    Calls Tryz.prog 47 #[.slice A n c, .int .i64 k] w fun e w' => e = .returned (.int .i64 ((k : Int) + n)) ∧ w'.ownsRow B 3 1 (.slice A n c) n (imarks k n) ∧ w.grownBy w' (Value.slice A n c).ownBlock := by
  have HO := Lib.hid hown
  have hl0 : xs.length = n := by simpa using hown.1
  have HL := Lib.hid hl0
  clear hown hl0
  go_enter Tryz.func47, Tryz.ntmps47
  go_wp2
  go_loopw [1, 5] (fun kk i wr => ∃ j : Nat, j ≤ n ∧ i = .int .i64 j ∧ kk = .int .i64 ((k : Int) + j) ∧ wr.ownsRow B 3 1 (.slice A n c) n (imarks k j ++ xs.drop j) ∧ w.grownBy wr (Value.slice A n c).ownBlock) (fun _ i _ => n - (intOf i).toNat)
  case atStart => exact ⟨0, Nat.zero_le _, rfl, by simp, by simpa [imarks] using HO.out, World.grownBy.refl _ _⟩
  case round =>
    obtain ⟨j, hj, rfl, rfl, hown, hgr⟩ := hrel
    by_cases hlt : j < n
    · obtain ⟨g, cap, hA, hBg, hg⟩ := hown.form (by omega)
      obtain ⟨rfl, rfl⟩ : A = some ⟨g, 0, none⟩ ∧ c = cap := by simpa using hA
      clear hA
      have hcell := hown.cellAt j (by omega)
      obtain ⟨y, hy⟩ : ∃ y, wr.cell? ⟨g, j, none⟩ = some y := by
        rw [hcell]
        have hl := HL.out
        exact ⟨_, List.getElem?_eq_getElem (by simp [imarks_length]; omega)⟩
      have hfz := hown.frozenAt j
      have HS := Lib.hid (hown.stored j (.int .i64 ((k + j : Nat) : Int)))
      have HG := Lib.hid hgr
      clear hown hgr hcell
      go_wp2
      go_roundw
      case rel =>
        have hl := HL.out
        have h1 := HS.out.1
        rw [imarks_step k j xs (by omega)] at h1
        refine ⟨j + 1, by omega, by go_num, by rw [show ((j + 1 : Nat) : Int) = (j : Int) + 1 from by omega, Int.add_assoc], h1, ?_⟩
        exact grown_trans HG.out HS.out.2
      case measure => simp [intOf]; omega
    · go_wp2
      go_ret
      have hjn : j = n := by omega
      subst hjn
      have hl := HL.out
      refine ⟨rfl, ?_, hgr⟩
      simpa [← hl] using hown

set_option maxRecDepth 100000 in
set_option maxHeartbeats 400000 in
theorem heldIntS_any (A : Option Addr) (n c k : Nat) (w : World) (hk : 0 < k) (hn : k + n ≤ 1099511627776) (hrow : RowAt w A (imarks k n)) :
    Calls Tryz.prog 48 #[.slice A n c, .int .i64 k] w fun e w' => e = .returned (.int .i64 ((k : Int) + n)) ∧ w' = w := by
  have HO := Lib.hid hrow
  clear hrow
  go_enter Tryz.func48, Tryz.ntmps48
  go_wp2
  go_loop [1, 5] (fun kk i => ∃ j : Nat, j ≤ n ∧ i = .int .i64 j ∧ kk = .int .i64 ((k : Int) + j)) (fun _ i => n - (intOf i).toNat)
  case atStart => exact ⟨0, Nat.zero_le _, rfl, by simp⟩
  case round =>
    obtain ⟨j, hj, rfl, rfl⟩ := hrel
    by_cases hlt : j < n
    · obtain ⟨g, o, rfl, hg, hc⟩ := HO.out (by rw [imarks_length]; omega)
      have hc1 := (hc j (by rw [imarks_length]; omega)).trans (by rw [imarks_at])
      clear hc
      rw [show ((k + j : Nat) : Int) = (k : Int) + j from by omega] at hc1
      have hxx : (((k : Int) + j) != ((k : Int) + j)) = false := by simp
      go_wp2
      go_round
      case rel => exact ⟨j + 1, by omega, by go_num, by rw [show ((j + 1 : Nat) : Int) = (j : Int) + 1 from by omega, Int.add_assoc]⟩
      case measure => simp [intOf]; omega
    · go_wp2
      go_ret
      have hjn : j = n := by omega
      subst hjn
      exact ⟨rfl, rfl⟩

theorem own_row {w : World} {B e n c : Nat} {A : Option Addr} {xs : List Value} (h : w.ownsRow B e 1 (.slice A n c) n xs) : RowAt w A xs := by
  obtain ⟨A', c', hv, _, hr⟩ := own_form h
  injection hv with hA
  rw [hA]; exact hr

end Go.Proofs.YtgajodcgedhikaaGreatDoor

namespace Go.Proofs.YtgajodcgedhikaaGreatDoor
open Go.RowKit Go.ChangeShapes Go.WideShapes Go.ChangeAt Go.WideMaps Go.WideElems
set_option linter.unusedVariables false
set_option linter.unusedSimpArgs false

structure GN where
  name : ByteArray
  lab : List Int
  wat : Int
structure GT where
  u : Int
  v : Int
  lo : Int
  hi : Int
  fr : Bool
structure GS where
  ns : List GN
  ts : List GT
  h : Int
def GT.val (e : GT) : Value := .agg #[.int .i64 e.u, .int .i64 e.v, .int .i64 e.lo, .int .i64 e.hi, .bool e.fr]
def GT.cells (e : GT) : List Value := [.int .i64 e.u, .int .i64 e.v, .int .i64 e.lo, .int .i64 e.hi, .bool e.fr]
def GT.wf (e : GT) : Prop := (Lit.int .i64 e.u).wf = true ∧ (Lit.int .i64 e.v).wf = true ∧ (Lit.int .i64 e.lo).wf = true ∧ (Lit.int .i64 e.hi).wf = true
def GN.wf (e : GN) : Prop := e.name.size ≤ maxLen ∧ e.lab.length ≤ maxLen ∧ (∀ y ∈ e.lab, (Lit.int .i64 y).wf = true) ∧ (Lit.int .i64 e.wat).wf = true
def cellsT (es : List GT) : List Value := es.flatMap GT.cells
theorem cellsT_length (es : List GT) : (cellsT es).length = es.length * 5 := by
  induction es with
  | nil => rfl
  | cons e es ih => simp [cellsT, GT.cells] at ih ⊢; omega
theorem cellsT_append (a b : List GT) : cellsT (a ++ b) = cellsT a ++ cellsT b := by simp [cellsT]
def ndV (L : Option Addr) (c : Nat) (e : GN) : Value := .agg #[.string e.name, .slice L e.lab.length c, .int .i64 e.wat]
def shV (A : Option Addr) (k c : Nat) (B : Option Addr) (m d : Nat) (h : Int) : Value := .agg #[.slice A k c, .slice B m d, .int .i64 h]

/-- The slice at A holds the ties es, five cells each. -/
def TieAt (w : World) (A : Option Addr) (es : List GT) : Prop :=
  0 < es.length → ∃ g o, A = some ⟨g, o, none⟩ ∧ g < w.heap.size ∧ ∀ j (h : j < es.length),
    w.cell? ⟨g, o + j * 5, none⟩ = some (.int .i64 es[j].u) ∧ w.cell? ⟨g, o + j * 5 + 1, none⟩ = some (.int .i64 es[j].v) ∧ w.cell? ⟨g, o + j * 5 + 2, none⟩ = some (.int .i64 es[j].lo) ∧ w.cell? ⟨g, o + j * 5 + 3, none⟩ = some (.int .i64 es[j].hi) ∧ w.cell? ⟨g, o + j * 5 + 4, none⟩ = some (.bool es[j].fr)
theorem TieAt.below {w w' : World} {A : Option Addr} {es : List GT} (h : TieAt w A es) (hb : Below w.heap.size w w') : TieAt w' A es := by
  intro hx
  obtain ⟨g, o, hA, hg, hc⟩ := h hx
  have := hb.size
  exact ⟨g, o, hA, by omega, fun j hj => ⟨(hb.cell (p := ⟨g, o + j * 5, none⟩) hg).trans (hc j hj).1, (hb.cell (p := ⟨g, o + j * 5 + 1, none⟩) hg).trans (hc j hj).2.1, (hb.cell (p := ⟨g, o + j * 5 + 2, none⟩) hg).trans (hc j hj).2.2.1, (hb.cell (p := ⟨g, o + j * 5 + 3, none⟩) hg).trans (hc j hj).2.2.2.1, (hb.cell (p := ⟨g, o + j * 5 + 4, none⟩) hg).trans (hc j hj).2.2.2.2⟩⟩
theorem getT (es : List GT) : ∀ (j : Nat) (h : j < es.length), (cellsT es)[j * 5]? = some (.int .i64 es[j].u) ∧ (cellsT es)[j * 5 + 1]? = some (.int .i64 es[j].v) ∧ (cellsT es)[j * 5 + 2]? = some (.int .i64 es[j].lo) ∧ (cellsT es)[j * 5 + 3]? = some (.int .i64 es[j].hi) ∧ (cellsT es)[j * 5 + 4]? = some (.bool es[j].fr) := by
  induction es with
  | nil => intro j h; simp at h
  | cons e es ih =>
    intro j h
    have e1 : cellsT (e :: es) = .int .i64 e.u :: .int .i64 e.v :: .int .i64 e.lo :: .int .i64 e.hi :: .bool e.fr :: cellsT es := rfl
    match j with
    | 0 => simp [e1]
    | j + 1 =>
      have := ih j (by simpa using h)
      rw [show (j + 1) * 5 = j * 5 + 1 + 1 + 1 + 1 + 1 from by omega, e1]
      simpa using this
/-- An owned slice of ties is one that can be read. -/
theorem ownT_form {w : World} {B e n : Nat} {v : Value} {es : List GT} (h : w.ownsRow B e 5 v n (cellsT es)) : ∃ A c, v = .slice A n c ∧ es.length = n ∧ TieAt w A es := by
  have hl : es.length = n := by
    have := h.1
    rw [cellsT_length] at this
    omega
  rcases h.2 with ⟨rfl, hn⟩ | ⟨g, cap, cur, rfl, hB, hg, _, _, hs, ht⟩
  · subst hn
    exact ⟨none, 0, rfl, hl, fun hx => by omega⟩
  · refine ⟨some ⟨g, 0, none⟩, cap, rfl, hl, fun hx => ⟨g, 0, rfl, (Array.getElem?_eq_some_iff.1 hg).1, fun j hj => ?_⟩⟩
    have hc := getT es j hj
    have ha := h.cellAt
    rw [Nat.zero_add, ha (j * 5) (by omega), ha (j * 5 + 1) (by omega), ha (j * 5 + 2) (by omega), ha (j * 5 + 3) (by omega), ha (j * 5 + 4) (by omega)]
    exact hc

/-- The three cells of a node, its label where it is read. -/
def NodeAt (w : World) (g p : Nat) (e : GN) : Prop :=
  w.cell? ⟨g, p, none⟩ = some (.string e.name) ∧ w.cell? ⟨g, p + 2, none⟩ = some (.int .i64 e.wat) ∧ ∃ L c, w.cell? ⟨g, p + 1, none⟩ = some (.slice L e.lab.length c) ∧ RowAt w L (e.lab.map intV)
def NodesAt (w : World) (A : Option Addr) (ns : List GN) : Prop :=
  0 < ns.length → ∃ g o, A = some ⟨g, o, none⟩ ∧ g < w.heap.size ∧ ∀ j (h : j < ns.length), NodeAt w g (o + j * 3) ns[j]
theorem NodeAt.below {w w' : World} {g p : Nat} {e : GN} (h : NodeAt w g p e) (hg : g < w.heap.size) (hb : Below w.heap.size w w') : NodeAt w' g p e := by
  obtain ⟨h0, h2, L, c, h1, hr⟩ := h
  exact ⟨(hb.cell (p := ⟨g, p, none⟩) hg).trans h0, (hb.cell (p := ⟨g, p + 2, none⟩) hg).trans h2, L, c, (hb.cell (p := ⟨g, p + 1, none⟩) hg).trans h1, hr.below hb⟩
theorem NodesAt.below {w w' : World} {A : Option Addr} {ns : List GN} (h : NodesAt w A ns) (hb : Below w.heap.size w w') : NodesAt w' A ns := by
  intro hx
  obtain ⟨g, o, hA, hg, hc⟩ := h hx
  have := hb.size
  exact ⟨g, o, hA, by omega, fun j hj => (hc j hj).below hg hb⟩
structure ShowAt (w : World) (s : GS) (A : Option Addr) (k : Nat) (B : Option Addr) (m : Nat) : Prop where
  ln : s.ns.length = k
  lt : s.ts.length = m
  nodes : NodesAt w A s.ns
  ties : TieAt w B s.ts
theorem ShowAt.below {w w' : World} {s : GS} {A B : Option Addr} {k m : Nat} (h : ShowAt w s A k B m) (hb : Below w.heap.size w w') : ShowAt w' s A k B m :=
  ⟨h.ln, h.lt, h.nodes.below hb, h.ties.below hb⟩

theorem choose_all {T : Type} {p : Nat → T → Prop} : ∀ {n : Nat}, (∀ i, i < n → ∃ e, p i e) → ∃ es : List T, es.length = n ∧ ∀ i (h : i < es.length), p i es[i] := by
  intro n
  induction n with
  | zero => exact fun _ => ⟨[], rfl, fun i h => by simp at h⟩
  | succ n ih =>
    intro hq
    obtain ⟨es, h1, h2⟩ := ih (fun i hi => hq i (by omega))
    obtain ⟨e, he⟩ := hq n (by omega)
    refine ⟨es ++ [e], by simp [h1], fun i hi => ?_⟩
    by_cases hlt : i < es.length
    · rw [List.getElem_append_left hlt]; exact h2 i hlt
    · have : i = es.length := by simp at hi; omega
      subst this
      simpa [h1] using he

theorem spot_of {W : World} {b off : Nat} {v : Value} (h : W.cell? ⟨b, off, none⟩ = some v) : b < W.heap.size := by
  rcases Nat.lt_or_ge b W.heap.size with hlt | hge
  · exact hlt
  · have : W.heap[b]? = none := Array.getElem?_eq_none hge
    simp [World.cell?, this] at h

end Go.Proofs.YtgajodcgedhikaaGreatDoor
