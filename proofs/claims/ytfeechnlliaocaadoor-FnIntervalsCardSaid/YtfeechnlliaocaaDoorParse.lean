/-
  PLAIN: what the text of an int is, and that strconv.Atoi reads it back.
-/
import Derived.Test.YtfeechnlliaocaaDoorDig
import Derived.Test.YtfeechnlliaocaaDoorNum
import Derived.Lib.AtoiAll
import Derived.Lib.AtoiAllCases
namespace Go.Proofs.YtfeechnlliaocaaDoor
open Go.RowKit
set_option linter.unusedVariables false
set_option linter.unusedSimpArgs false

def valFrom (a : Nat) (l : List UInt8) : Nat := l.foldl (fun a c => a * 10 + (c.toNat - 48)) a
theorem valFrom_cons (a : Nat) (c : UInt8) (l : List UInt8) : valFrom a (c :: l) = valFrom (a * 10 + (c.toNat - 48)) l := by unfold valFrom; rw [List.foldl_cons]
theorem valFrom_snoc (a : Nat) (c : UInt8) (l : List UInt8) : valFrom a (l ++ [c]) = valFrom a l * 10 + (c.toNat - 48) := by unfold valFrom; rw [List.foldl_append, List.foldl_cons, List.foldl_nil]
theorem valFrom_le (l : List UInt8) : ∀ a, a ≤ valFrom a l := by
  induction l with
  | nil => intro a; exact Nat.le_refl _
  | cons c l ih => intro a; rw [valFrom_cons]; have := ih (a * 10 + (c.toNat - 48)); omega
theorem valFrom_take (a : Nat) (l : List UInt8) (k : Nat) : valFrom a (l.take k) ≤ valFrom a l := by
  have h := valFrom_le (l.drop k) (valFrom a (l.take k))
  have e : valFrom (valFrom a (l.take k)) (l.drop k) = valFrom a l := by
    unfold valFrom
    rw [← List.foldl_append, List.take_append_drop]
  omega

def AllDig (l : List UInt8) : Prop := ∀ c ∈ l, 48 ≤ c.toNat ∧ c.toNat ≤ 57
theorem parse_val : ∀ (l : List UInt8) (a : Nat), AllDig l → valFrom a l < 18446744073709551616 → Lib.parseUint10 a l = .ok (valFrom a l) := by
  intro l
  induction l with
  | nil => intro a _ _; rfl
  | cons c l ih =>
    intro a hd hv
    have hc := hd c (by simp)
    have h1 := valFrom_le l (a * 10 + (c.toNat - 48))
    rw [valFrom_cons] at hv
    unfold Lib.parseUint10
    rw [if_pos hc, if_neg (by omega), if_neg (by omega), ih _ (fun x hx => hd x (by simp [hx])) hv, valFrom_cons]

theorem dec_val (u : Nat) : valFrom 0 (Lib.decDigits u) = u := by
  induction u using Nat.strongRecOn with
  | _ u ih =>
    rw [Lib.decDigits]
    by_cases h : u < 10
    · rw [dif_pos h]
      have : (UInt8.ofNat (48 + u)).toNat = 48 + u := by simp; omega
      simp only [valFrom, List.foldl_cons, List.foldl_nil, this]
      omega
    · rw [dif_neg h, valFrom_snoc, ih (u / 10) (by omega)]
      have : (UInt8.ofNat (48 + u % 10)).toNat = 48 + u % 10 := by simp; omega
      rw [this]
      omega
theorem dec_digits (u : Nat) : AllDig (Lib.decDigits u) := by
  induction u using Nat.strongRecOn with
  | _ u ih =>
    rw [Lib.decDigits]
    by_cases h : u < 10
    · rw [dif_pos h]
      intro c hc
      have : (UInt8.ofNat (48 + u)).toNat = 48 + u := by simp; omega
      rw [List.mem_singleton.1 hc, this]; omega
    · rw [dif_neg h]
      intro c hc
      rw [List.mem_append] at hc
      rcases hc with hc | hc
      · exact ih (u / 10) (by omega) c hc
      · have : (UInt8.ofNat (48 + u % 10)).toNat = 48 + u % 10 := by simp; omega
        rw [List.mem_singleton.1 hc, this]; omega
theorem dec_ne (u : Nat) : Lib.decDigits u ≠ [] := by
  rw [Lib.decDigits]
  split <;> simp
theorem dec_len : ∀ (k u : Nat), u < 10 ^ (k + 1) → (Lib.decDigits u).length ≤ k + 1 := by
  intro k
  induction k with
  | zero => intro u h; rw [Lib.decDigits, dif_pos (by omega)]; simp
  | succ k ih =>
    intro u h
    rw [Lib.decDigits]
    by_cases h2 : u < 10
    · rw [dif_pos h2]; simp
    · rw [dif_neg h2]
      have := ih (u / 10) (by rw [Nat.pow_succ] at h; omega)
      simp; omega
theorem dec_len19 (u : Nat) (h : u ≤ 9223372036854775808) : (Lib.decDigits u).length ≤ 19 := dec_len 18 u (by
  have : (10 : Nat) ^ (18 + 1) = 10000000000000000000 := by decide
  omega)

theorem dec_parse (u : Nat) (h : u < 18446744073709551616) : Lib.parseMag (Lib.decDigits u) = .ok u := by
  unfold Lib.parseMag
  rw [if_neg (dec_ne u), parse_val _ 0 (dec_digits u) (by rw [dec_val]; exact h), dec_val]

/-- strconv.Atoi reads the text of an int back. -/
theorem atoi_itoa (n : Int) (h0 : -9223372036854775808 ≤ n) (h1 : n ≤ 9223372036854775807) : Lib.atoiAll (Lib.itoa n) = .ok n := by
  by_cases h : 0 ≤ n
  · obtain ⟨u, rfl⟩ : ∃ u : Nat, n = u := ⟨n.toNat, by omega⟩
    rw [Lib.itoa_nonneg]
    have hp := dec_parse u (by omega)
    have hd := dec_digits u
    cases hl : Lib.decDigits u with
    | nil => exact absurd hl (dec_ne u)
    | cons c r =>
      have hc := hd c (by rw [hl]; simp)
      rw [Lib.atoiAll_plain c r (by omega) (by omega), ← hl, hp]
      unfold Lib.signless
      simp only
      rw [if_neg (by omega)]
  · obtain ⟨u, rfl⟩ : ∃ u : Nat, n = -(u : Int) := ⟨n.natAbs, by omega⟩
    rw [Lib.itoa_neg u (by omega), Lib.atoiAll_minus, dec_parse u (by omega)]
    unfold Lib.signed
    simp only
    rw [if_neg (by omega)]

/-- The int whose text s is. -/
def parseOf (s : ByteArray) : Option Int :=
  match Lib.atoiAll s.data.toList with
  | .ok v => if Lib.itoa v = s.data.toList then some v else none
  | _ => none
theorem parse_some {s : ByteArray} {v : Int} (h : parseOf s = some v) : numB v = s ∧ Lib.atoiAll s.data.toList = .ok v ∧ -9223372036854775808 ≤ v ∧ v ≤ 9223372036854775807 := by
  unfold parseOf at h
  split at h
  · rename_i v' hv
    split at h
    · rename_i hi
      obtain rfl := Option.some.inj h
      refine ⟨?_, hv, Lib.atoiAll_bounds hv⟩
      apply ByteArray.ext; apply Array.toList_inj.1
      simpa [numB] using hi
    · cases h
  · cases h
theorem parse_numB (n : Int) (h0 : -9223372036854775808 ≤ n) (h1 : n ≤ 9223372036854775807) : parseOf (numB n) = some n := by
  unfold parseOf
  have e : (numB n).data.toList = Lib.itoa n := by simp [numB]
  rw [e, atoi_itoa n h0 h1]
  simp
theorem parse_none {s : ByteArray} (h : parseOf s = none) (n : Int) (h0 : -9223372036854775808 ≤ n) (h1 : n ≤ 9223372036854775807) : numB n ≠ s := by
  rintro rfl
  rw [parse_numB n h0 h1] at h
  cases h

end Go.Proofs.YtfeechnlliaocaaDoor
