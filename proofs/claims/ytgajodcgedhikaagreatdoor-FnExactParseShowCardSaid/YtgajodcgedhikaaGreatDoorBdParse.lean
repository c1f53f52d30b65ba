/-
  PLAIN: what the text of an int is, and that strconv.Atoi reads it back.
  WALKS of impl.ParseInt and spec.ParseInt.
  WALK of spec.ParseInt.
  WALKS of spec.SplitLines and impl.SplitLines.
  PLAIN: parts that are cut at one byte and joined by it give the string back.
  WALK of spec.ParseLabel.
  PLAIN: shows as text: what is written of a show, and what is read of a text.
  PLAIN: a text that is put together of parts without the separator is split into these parts.
  PLAIN: the mathematics of FnLabels: the labels that are drawn (27 of them), their states under the eight full values, and what joining does to them.
  PLAIN: what is written of a label that is drawn is read again.
-/
import Derived.Test.YtgajodcgedhikaaGreatDoorBdDig
import Derived.Test.YtgajodcgedhikaaGreatDoorBdNum
import Derived.Lib.AtoiAll
import Derived.Lib.AtoiAllCases
import Derived.Deep.QuietTactic
import Derived.BigQuiet
import Derived.Lib.IndexBytes
import Derived.Test.YtgajodcgedhikaaGreatDoorProg
import Derived.Lib.Strings
import Derived.Deep.AppendLies
import Derived.Deep.CutRange
import Derived.Test.YtgajodcgedhikaaGreatDoorBdShB
import Derived.Test.YtgajodcgedhikaaGreatDoorBdIvOk
namespace Go.Proofs.YtgajodcgedhikaaGreatDoor
open Go.RowKit
set_option linter.unusedVariables false
set_option linter.unusedSimpArgs false

def valFrom (a : Nat) (l : List UInt8) : Nat := l.foldl (fun a c => a * 10 + (c.toNat - 48)) a
theorem valFrom_cons (a : Nat) (c : UInt8) (l : List UInt8) : valFrom a (c :: l) = valFrom (a * 10 + (c.toNat - 48)) l := by unfold valFrom; rw [List.foldl_cons]
theorem valFrom_snoc (a : Nat) (c : UInt8) (l : List UInt8) : valFrom a (l ++ [c]) = valFrom a l * 10 + (c.toNat - 48) := by unfold valFrom; rw [List.foldl_append, List.foldl_cons, List.foldl_nil]
theorem valFrom_le (l : List UInt8) : ∀ a, a ≤ valFrom a l := by
  induction l with
  | nil => intro a; exact Nat.le_refl _
  | cons c l ih => intro a; rw [valFrom_cons]; have := ih (a * 10 + (c.toNat - 48)); omega
theorem valFrom_take (a : Nat) (l : List UInt8) (k : Nat) : valFrom a (l.take k) ≤ valFrom a l := by
  have h := valFrom_le (l.drop k) (valFrom a (l.take k))
  have e : valFrom (valFrom a (l.take k)) (l.drop k) = valFrom a l := by
    unfold valFrom
    rw [← List.foldl_append, List.take_append_drop]
  omega

def AllDig (l : List UInt8) : Prop := ∀ c ∈ l, 48 ≤ c.toNat ∧ c.toNat ≤ 57
theorem parse_val : ∀ (l : List UInt8) (a : Nat), AllDig l → valFrom a l < 18446744073709551616 → Lib.parseUint10 a l = .ok (valFrom a l) := by
  intro l
  induction l with
  | nil => intro a _ _; rfl
  | cons c l ih =>
    intro a hd hv
    have hc := hd c (by simp)
    have h1 := valFrom_le l (a * 10 + (c.toNat - 48))
    rw [valFrom_cons] at hv
    unfold Lib.parseUint10
    rw [if_pos hc, if_neg (by omega), if_neg (by omega), ih _ (fun x hx => hd x (by simp [hx])) hv, valFrom_cons]

theorem dec_val (u : Nat) : valFrom 0 (Lib.decDigits u) = u := by
  induction u using Nat.strongRecOn with
  | _ u ih =>
    rw [Lib.decDigits]
    by_cases h : u < 10
    · rw [dif_pos h]
      have : (UInt8.ofNat (48 + u)).toNat = 48 + u := by simp; omega
      simp only [valFrom, List.foldl_cons, List.foldl_nil, this]
      omega
    · rw [dif_neg h, valFrom_snoc, ih (u / 10) (by omega)]
      have : (UInt8.ofNat (48 + u % 10)).toNat = 48 + u % 10 := by simp; omega
      rw [this]
      omega
theorem dec_digits (u : Nat) : AllDig (Lib.decDigits u) := by
  induction u using Nat.strongRecOn with
  | _ u ih =>
    rw [Lib.decDigits]
    by_cases h : u < 10
    · rw [dif_pos h]
      intro c hc
      have : (UInt8.ofNat (48 + u)).toNat = 48 + u := by simp; omega
      rw [List.mem_singleton.1 hc, this]; omega
    · rw [dif_neg h]
      intro c hc
      rw [List.mem_append] at hc
      rcases hc with hc | hc
      · exact ih (u / 10) (by omega) c hc
      · have : (UInt8.ofNat (48 + u % 10)).toNat = 48 + u % 10 := by simp; omega
        rw [List.mem_singleton.1 hc, this]; omega
theorem dec_ne (u : Nat) : Lib.decDigits u ≠ [] := by
  rw [Lib.decDigits]
  split <;> simp
theorem dec_len : ∀ (k u : Nat), u < 10 ^ (k + 1) → (Lib.decDigits u).length ≤ k + 1 := by
  intro k
  induction k with
  | zero => intro u h; rw [Lib.decDigits, dif_pos (by omega)]; simp
  | succ k ih =>
    intro u h
    rw [Lib.decDigits]
    by_cases h2 : u < 10
    · rw [dif_pos h2]; simp
    · rw [dif_neg h2]
      have := ih (u / 10) (by rw [Nat.pow_succ] at h; omega)
      simp; omega
theorem dec_len19 (u : Nat) (h : u ≤ 9223372036854775808) : (Lib.decDigits u).length ≤ 19 := dec_len 18 u (by
  have : (10 : Nat) ^ (18 + 1) = 10000000000000000000 := by decide
  omega)

theorem dec_parse (u : Nat) (h : u < 18446744073709551616) : Lib.parseMag (Lib.decDigits u) = .ok u := by
  unfold Lib.parseMag
  rw [if_neg (dec_ne u), parse_val _ 0 (dec_digits u) (by rw [dec_val]; exact h), dec_val]

/-- strconv.Atoi reads the text of an int back. -/
theorem atoi_itoa (n : Int) (h0 : -9223372036854775808 ≤ n) (h1 : n ≤ 9223372036854775807) : Lib.atoiAll (Lib.itoa n) = .ok n := by
  by_cases h : 0 ≤ n
  · obtain ⟨u, rfl⟩ : ∃ u : Nat, n = u := ⟨n.toNat, by omega⟩
    rw [Lib.itoa_nonneg]
    have hp := dec_parse u (by omega)
    have hd := dec_digits u
    cases hl : Lib.decDigits u with
    | nil => exact absurd hl (dec_ne u)
    | cons c r =>
      have hc := hd c (by rw [hl]; simp)
      rw [Lib.atoiAll_plain c r (by omega) (by omega), ← hl, hp]
      unfold Lib.signless
      simp only
      rw [if_neg (by omega)]
  · obtain ⟨u, rfl⟩ : ∃ u : Nat, n = -(u : Int) := ⟨n.natAbs, by omega⟩
    rw [Lib.itoa_neg u (by omega), Lib.atoiAll_minus, dec_parse u (by omega)]
    unfold Lib.signed
    simp only
    rw [if_neg (by omega)]

/-- The int whose text s is. -/
def parseOf (s : ByteArray) : Option Int :=
  match Lib.atoiAll s.data.toList with
  | .ok v => if Lib.itoa v = s.data.toList then some v else none
  | _ => none
theorem parse_some {s : ByteArray} {v : Int} (h : parseOf s = some v) : numB v = s ∧ Lib.atoiAll s.data.toList = .ok v ∧ -9223372036854775808 ≤ v ∧ v ≤ 9223372036854775807 := by
  unfold parseOf at h
  split at h
  · rename_i v' hv
    split at h
    · rename_i hi
      obtain rfl := Option.some.inj h
      refine ⟨?_, hv, Lib.atoiAll_bounds hv⟩
      apply ByteArray.ext; apply Array.toList_inj.1
      simpa [numB] using hi
    · cases h
  · cases h
theorem parse_numB (n : Int) (h0 : -9223372036854775808 ≤ n) (h1 : n ≤ 9223372036854775807) : parseOf (numB n) = some n := by
  unfold parseOf
  have e : (numB n).data.toList = Lib.itoa n := by simp [numB]
  rw [e, atoi_itoa n h0 h1]
  simp
theorem parse_none {s : ByteArray} (h : parseOf s = none) (n : Int) (h0 : -9223372036854775808 ≤ n) (h1 : n ≤ 9223372036854775807) : numB n ≠ s := by
  rintro rfl
  rw [parse_numB n h0 h1] at h
  cases h

end Go.Proofs.YtgajodcgedhikaaGreatDoor

namespace Go.Proofs.YtgajodcgedhikaaGreatDoor
open Go.RowKit
set_option linter.unusedVariables false
set_option linter.unusedSimpArgs false

/-- The two sentinels of strconv's hold error values. -/
def Errs (w : World) : Prop := (∃ tp p, w.var? Tryz.prog "strconv.ErrSyntax" = some #[.iface tp p]) ∧ (∃ tp p, w.var? Tryz.prog "strconv.ErrRange" = some #[.iface tp p])
theorem Errs.kept {w w' : World} (h : Errs w) (hb : Below w.heap.size w w') : Errs w' := by
  obtain ⟨⟨tp, p, h1⟩, tq, q, h2⟩ := h
  exact ⟨⟨tp, p, var_kept hb h1⟩, tq, q, var_kept hb h2⟩

theorem below_bytes {w w' : World} {e : TypeId} (h : w' = w ∨ ∃ t, w' = Lib.bytesWorld w e t) : Below w.heap.size w w' := by
  rcases h with rfl | ⟨t, rfl⟩
  · exact Below.refl _ _
  · exact Lib.bytesWorld_below _ _ _

set_option maxRecDepth 100000 in
set_option maxHeartbeats 400000 in
theorem impl_ParseInt (s : ByteArray) (w : World) (hs : s.size ≤ 1048576) (ht : Pow10 w) (he : Errs w) :
    Calls Tryz.prog 74 #[.string s] w fun e w' => e = .returned (.tuple #[.int .i64 ((parseOf s).getD 0), .bool (parseOf s).isSome]) ∧ Below w.heap.size w w' := by
  have HT := Lib.hid ht
  have HE := Lib.hid he
  clear ht he
  cases ha : Lib.atoiAll s.data.toList with
  | ok v =>
    have hbd := Lib.atoiAll_bounds ha
    have HA := Lib.hid (strconv_Atoi_ok s (by omega) v ha w)
    by_cases hi : Lib.itoa v = s.data.toList
    · have hp : parseOf s = some v := by unfold parseOf; rw [ha]; simp [hi]
      have hx : (!(numB v).toList == s.toList) = false := by
        rw [Lib.toList_data, Lib.toList_data]
        simp [numB, hi]
      rw [hp]
      clear ha hi hp
      go_enter Tryz.func74, Tryz.ntmps74
      go_wp2_with fail
      refine HA.out.mono ?_
      rintro e w1 ⟨rfl, hw⟩
      have b1 := below_bytes hw
      clear hw
      go_wp2_with fail
      refine (impl_FormatInt v w1 hbd.1 hbd.2 (var_kept b1 HT.out)).mono ?_
      rintro e w2 ⟨rfl, b2⟩
      have B2 : Below w.heap.size w w2 := b1.trans (b2.mono b1.size)
      clear b1 b2
      go_wp2
      go_ret2
      exact ⟨rfl, B2⟩
    · have hp : parseOf s = none := by unfold parseOf; rw [ha]; simp [hi]
      have hx : (!(numB v).toList == s.toList) = true := by
        rw [Lib.toList_data, Lib.toList_data]
        simp [numB, hi]
      rw [hp]
      clear ha hi hp
      go_enter Tryz.func74, Tryz.ntmps74
      go_wp2_with fail
      refine HA.out.mono ?_
      rintro e w1 ⟨rfl, hw⟩
      have b1 := below_bytes hw
      clear hw
      go_wp2_with fail
      refine (impl_FormatInt v w1 hbd.1 hbd.2 (var_kept b1 HT.out)).mono ?_
      rintro e w2 ⟨rfl, b2⟩
      have B2 : Below w.heap.size w w2 := b1.trans (b2.mono b1.size)
      clear b1 b2
      go_wp2
      go_ret2
      exact ⟨rfl, B2⟩
  | _ =>
    have hp : parseOf s = none := by unfold parseOf; rw [ha]
    obtain ⟨⟨tp, p, h1⟩, tq, q, h2⟩ := HE.out
    have HA := Lib.hid (strconv_Atoi_err s (by omega) (fun v hv => by rw [ha] at hv; cases hv) tp tq p q w h1 h2)
    rw [hp]
    clear ha hp h1 h2 HE HT
    go_enter Tryz.func74, Tryz.ntmps74
    go_wp2_with fail
    refine HA.out.mono ?_
    rintro e w1 ⟨v, N, rfl, b1⟩
    go_wp2
    go_ret2
    exact ⟨rfl, b1⟩

end Go.Proofs.YtgajodcgedhikaaGreatDoor

namespace Go.Proofs.YtgajodcgedhikaaGreatDoor
open Go.RowKit
set_option linter.unusedVariables false
set_option linter.unusedSimpArgs false

/-- What the digits' text T tells of the int whose text s is: sign 1 or -1, and the greatest magnitude. -/
def Tells (s T : ByteArray) (neg : Bool) : Prop :=
  ∀ v, parseOf s = some v → ∃ u : Nat, T.data.toList = Lib.decDigits u ∧ v = (if neg then -(u : Int) else (u : Int)) ∧ u ≤ (if neg then 9223372036854775808 else 9223372036854775807)

theorem digits_dec (u : Nat) : digitsB (Lib.decDigits u) = true := by
  unfold digitsB
  have h1 : (Lib.decDigits u).isEmpty = false := by
    cases h : Lib.decDigits u with
    | nil => exact absurd h (dec_ne u)
    | cons a b => rfl
  rw [h1]
  simp only [Bool.not_false, Bool.true_and, List.all_eq_true]
  intro c hc
  have := dec_digits u c hc
  unfold isDig
  simp; omega

theorem digits_at {T : ByteArray} (h : digitsB T.data.toList = true) (k : Nat) (hk : k < T.size) : 48 ≤ T[k].toNat ∧ T[k].toNat ≤ 57 := by
  unfold digitsB at h
  simp only [Bool.and_eq_true, List.all_eq_true] at h
  have := h.2 T[k] (List.getElem_mem (l := T.data.toList) (n := k) (by simpa using hk))
  unfold isDig at this
  simp at this
  exact this

/-- The value of the first k digits. -/
def valTo (T : ByteArray) (k : Nat) : Nat := valFrom 0 (T.data.toList.take k)
theorem valTo_zero (T : ByteArray) : valTo T 0 = 0 := by unfold valTo valFrom; simp
theorem valTo_succ (T : ByteArray) (k : Nat) (hk : k < T.size) : valTo T (k + 1) = valTo T k * 10 + (T[k].toNat - 48) := by
  unfold valTo; rw [take_snoc T k hk, valFrom_snoc]
theorem valTo_all (T : ByteArray) : valTo T T.size = valFrom 0 T.data.toList := by
  unfold valTo; rw [List.take_of_length_le (by simp)]
theorem valTo_le (T : ByteArray) (k : Nat) : valTo T k ≤ valFrom 0 T.data.toList := valFrom_take 0 _ k

theorem none_digits {s T : ByteArray} {neg : Bool} (h : Tells s T neg) (hd : digitsB T.data.toList = false) : parseOf s = none := by
  cases hp : parseOf s with
  | none => rfl
  | some v =>
    obtain ⟨u, hu, _⟩ := h v hp
    rw [hu, digits_dec] at hd; cases hd
theorem none_long {s T : ByteArray} {neg : Bool} (h : Tells s T neg) (hd : 19 < T.size) : parseOf s = none := by
  cases hp : parseOf s with
  | none => rfl
  | some v =>
    obtain ⟨u, hu, _, hb⟩ := h v hp
    have h1 := dec_len19 u (by split at hb <;> omega)
    rw [← hu] at h1
    simp at h1
    omega
theorem none_big {s T : ByteArray} {neg : Bool} (h : Tells s T neg) (k : Nat) (hd : 9223372036854775808 < valTo T k) : parseOf s = none := by
  cases hp : parseOf s with
  | none => rfl
  | some v =>
    obtain ⟨u, hu, _, hb⟩ := h v hp
    have h1 := valTo_le T k
    rw [hu, dec_val] at h1
    split at hb <;> omega
theorem none_edge {s T : ByteArray} (h : Tells s T false) (hd : valTo T T.size = 9223372036854775808) : parseOf s = none := by
  cases hp : parseOf s with
  | none => rfl
  | some v =>
    obtain ⟨u, hu, _, hb⟩ := h v hp
    rw [valTo_all, hu, dec_val] at hd
    simp at hb
    omega
theorem tells_val {s T : ByteArray} {neg : Bool} (h : Tells s T neg) {v : Int} (hp : parseOf s = some v) : v = (if neg then -(valTo T T.size : Int) else (valTo T T.size : Int)) := by
  obtain ⟨u, hu, hv, _⟩ := h v hp
  rw [valTo_all, hu, dec_val]
  exact hv

theorem tells_pos (s : ByteArray) (h : s.size = 0 ∨ ∃ h0 : 0 < s.size, s[0].toNat ≠ 45) : Tells s s false := by
  intro v hv
  obtain ⟨hn, _, h0, h1⟩ := parse_some hv
  have hl : s.data.toList = Lib.itoa v := by rw [← hn]; simp [numB]
  by_cases hneg : 0 ≤ v
  · obtain ⟨u, rfl⟩ : ∃ u : Nat, v = u := ⟨v.toNat, by omega⟩
    exact ⟨u, by rw [hl, Lib.itoa_nonneg], by simp, by simp; omega⟩
  · exfalso
    obtain ⟨u, rfl⟩ : ∃ u : Nat, v = -(u : Int) := ⟨v.natAbs, by omega⟩
    rw [Lib.itoa_neg u (by omega)] at hl
    have hlen : s.data.toList.length = s.size := by simp
    rcases h with h | ⟨h, h2⟩
    · rw [hl, h] at hlen; simp at hlen
    · apply h2
      have e : s[0] = s.data.toList[0]'(by rw [hlen]; exact h) := rfl
      rw [e]
      simp [hl]
theorem tells_neg (s : ByteArray) (h : 0 < s.size) (h2 : s[0].toNat = 45) : Tells s (s.extract 1 s.size) true := by
  intro v hv
  obtain ⟨hn, _, h0, h1⟩ := parse_some hv
  have hl : s.data.toList = Lib.itoa v := by rw [← hn]; simp [numB]
  have hlen : s.data.toList.length = s.size := by simp
  by_cases hneg : 0 ≤ v
  · exfalso
    obtain ⟨u, rfl⟩ : ∃ u : Nat, v = u := ⟨v.toNat, by omega⟩
    rw [Lib.itoa_nonneg] at hl
    have e : s[0] = s.data.toList[0]'(by rw [hlen]; exact h) := rfl
    have := dec_digits u s[0] (by rw [← hl, e]; exact List.getElem_mem _)
    omega
  · obtain ⟨u, rfl⟩ : ∃ u : Nat, v = -(u : Int) := ⟨v.natAbs, by omega⟩
    rw [Lib.itoa_neg u (by omega)] at hl
    refine ⟨u, ?_, by simp, by simp; omega⟩
    rw [Lib.extract_to_end, hl]
    rfl

theorem tdiv_cut (c : Int) (h2 : c ≤ 57) : (-9223372036854775808 + (c - 48)).tdiv 10 = -((9223372036854775808 - (c - 48)) / 10) := by
  rw [show (-9223372036854775808 + (c - 48)) = -(9223372036854775808 - (c - 48)) from by omega, Int.neg_tdiv, Int.tdiv_eq_ediv_of_nonneg (by omega)]
theorem over_cut {a c : Int} (h1 : 48 ≤ c) (h2 : c ≤ 57) (h : a < (-9223372036854775808 + (c - 48)).tdiv 10) : 9223372036854775808 < -a * 10 + (c - 48) := by
  rw [tdiv_cut c h2] at h; omega
theorem under_cut {a c : Int} (h1 : 48 ≤ c) (h2 : c ≤ 57) (h : (-9223372036854775808 + (c - 48)).tdiv 10 ≤ a) : -9223372036854775808 ≤ a * 10 - (c - 48) := by
  rw [tdiv_cut c h2] at h; omega
theorem wraps_cut {a c : Int} (h1 : 48 ≤ c) (h2 : c ≤ 57) (h0 : a ≤ 0) (h : -9223372036854775808 ≤ a * 10 - (c - 48)) : wrap64 (wrap64 (a * 10) - (c - 48)) = a * 10 - (c - 48) := by
  rw [IntWalk.wrap64_in (a * 10) (by omega), IntWalk.wrap64_in _ (by omega)]

/-- The text's last test: the int that was read, written out again. -/
theorem last_no {s T : ByteArray} {neg : Bool} (h : Tells s T neg) (r : Int) (hr : r = (if neg then -(valTo T T.size : Int) else (valTo T T.size : Int))) (hne : numB r ≠ s) : parseOf s = none := by
  cases hp : parseOf s with
  | none => rfl
  | some v =>
    have := tells_val h hp
    rw [← hr] at this
    exact absurd (by rw [← this]; exact (parse_some hp).1) hne
theorem same_text {r : Int} {s : ByteArray} (h : numB r = s) : (!(numB r).toList == s.toList) = false := by rw [h]; simp
theorem other_text {r : Int} {s : ByteArray} (h : numB r ≠ s) : (!(numB r).toList == s.toList) = true := by
  simp only [Bool.not_eq_true', beq_eq_false_iff_ne, ne_eq]
  rw [Lib.toList_data, Lib.toList_data]
  intro e
  exact h (by apply ByteArray.ext; apply Array.toList_inj.1; exact e)

set_option maxRecDepth 100000 in
set_option maxHeartbeats 1000000 in
theorem spec_ParseInt_pos (s : ByteArray) (w : World) (hs : s.size ≤ 1048576) (hneg : s.size = 0 ∨ ∃ h0 : 0 < s.size, s[0].toNat ≠ 45) :
    Calls Tryz.prog 11 #[.string s] w fun e w' => e = .returned (.tuple #[.int .i64 ((parseOf s).getD 0), .bool (parseOf s).isSome]) ∧ Below w.heap.size w w' := by
  have HTL := Lib.hid (tells_pos s hneg)
  cases hd : digitsB s.data.toList with
  | false =>
    have HN := Lib.hid (none_digits HTL.out hd)
    have HD := Lib.hid hd
    clear hd
    rw [HN.out]
    rcases hneg with h0 | ⟨h0, h45⟩
    · go_enter Tryz.func11, Tryz.ntmps11
      go_wp2_with fail
      refine (spec_IsDigits s w (by unfold maxLen; omega)).mono ?_
      rintro e w1 ⟨rfl, rfl⟩
      rw [HD.out]
      go_wp2
      go_ret2
      exact ⟨rfl, Below.refl _ _⟩
    · have hb : ((s[0].toNat : Int) == 45) = false := by simp; omega
      clear h45
      go_enter Tryz.func11, Tryz.ntmps11
      go_wp2_with fail
      refine (spec_IsDigits s w (by unfold maxLen; omega)).mono ?_
      rintro e w1 ⟨rfl, rfl⟩
      rw [HD.out]
      go_wp2
      go_ret2
      exact ⟨rfl, Below.refl _ _⟩
  | true =>
    have HD := Lib.hid hd
    have h0 : 0 < s.size := by
      rcases Nat.eq_zero_or_pos s.size with h | h
      · exfalso
        have : s.data.toList = [] := List.eq_nil_of_length_eq_zero (by simpa using h)
        rw [this] at hd; cases hd
      · exact h
    have h45 : s[0].toNat ≠ 45 := by
      have := digits_at hd 0 h0
      omega
    have hb : ((s[0].toNat : Int) == 45) = false := by simp; omega
    clear h45 hd hneg
    by_cases hl : s.size ≤ 19
    · go_enter Tryz.func11, Tryz.ntmps11
      go_wp2_with fail
      refine (spec_IsDigits s w (by unfold maxLen; omega)).mono ?_
      rintro e w1 ⟨rfl, rfl⟩
      rw [HD.out]
      go_wp2
      go_loop [6, 7] (fun n i => ∃ (k : Nat) (a : Int), k ≤ s.size ∧ i = .int .i64 k ∧ n = .int .i64 a ∧ Hid (a = -(valTo s k : Int)) ∧ a ≤ 0 ∧ -9223372036854775808 ≤ a) (fun _ i => s.size - (intOf i).toNat)
      case atStart => exact ⟨0, 0, Nat.zero_le _, rfl, rfl, Lib.hid (by rw [valTo_zero]; rfl), by omega, by omega⟩
      case round =>
        obtain ⟨k, a, hk, rfl, rfl, HA, ha0, ha1⟩ := hrel
        by_cases hlt : k < s.size
        · have hc := digits_at HD.out k hlt
          have hc1 : 48 ≤ (s[k].toNat : Int) := by omega
          have hc2 : (s[k].toNat : Int) ≤ 57 := by omega
          have HV := Lib.hid (valTo_succ s k hlt)
          clear hc
          go_wp2
          · have hov : a < (-9223372036854775808 + ((s[k].toNat : Int) - 48)).tdiv 10 := by assumption
            have h9 := over_cut hc1 hc2 hov
            have HN := none_big HTL.out (k + 1) (by have := HV.out; have := HA.out; omega)
            go_ret2
            exact ⟨by rw [HN]; rfl, Below.refl _ _⟩
          · have hun : (-9223372036854775808 + ((s[k].toNat : Int) - 48)).tdiv 10 ≤ a := by assumption
            have h9 := under_cut hc1 hc2 hun
            have h10 := wraps_cut hc1 hc2 ha0 h9
            go_round
            case rel => exact ⟨k + 1, a * 10 - ((s[k].toNat : Int) - 48), by omega, by go_num, by rw [h10], Lib.hid (by have := HV.out; have := HA.out; omega), by omega, h9⟩
            case measure => simp [intOf]; omega
        · have hks : k = s.size := by omega
          have hra : Hid ((-a) = (if false then -(valTo s s.size : Int) else (valTo s s.size : Int))) := Lib.hid (by have := HA.out; rw [hks] at this; simp; omega)
          by_cases hed : a = -9223372036854775808
          · have HN := Lib.hid (none_edge HTL.out (by have := HA.out; rw [hks] at this; omega))
            have hq : (a == -9223372036854775808) = true := by simp [hed]
            clear hed
            go_wp2
            go_ret2
            exact ⟨by rw [HN.out]; rfl, Below.refl _ _⟩
          · have hq : (a == -9223372036854775808) = false := by simp [hed]
            have hlo : -9223372036854775807 ≤ a := by omega
            clear hed
            by_cases htx : numB (-a) = s
            · have hsame := same_text htx
              have HP := Lib.hid (htx ▸ parse_numB (-a) (by omega) (by omega))
              clear htx
              go_wp2_with fail
              refine (spec_FormatInt (-a) _ (by omega) (by omega)).mono ?_
              rintro e w2 ⟨rfl, b2⟩
              go_wp2
              go_ret2
              exact ⟨by rw [HP.out]; rfl, b2⟩
            · have hoth := other_text htx
              have HN := Lib.hid (last_no HTL.out (-a) hra.out htx)
              clear htx
              go_wp2_with fail
              refine (spec_FormatInt (-a) _ (by omega) (by omega)).mono ?_
              rintro e w2 ⟨rfl, b2⟩
              go_wp2
              go_ret2
              exact ⟨by rw [HN.out]; rfl, b2⟩
    · have HN := Lib.hid (none_long HTL.out (by omega))
      rw [HN.out]
      go_enter Tryz.func11, Tryz.ntmps11
      go_wp2_with fail
      refine (spec_IsDigits s w (by unfold maxLen; omega)).mono ?_
      rintro e w1 ⟨rfl, rfl⟩
      rw [HD.out]
      go_wp2
      go_ret2
      exact ⟨rfl, Below.refl _ _⟩

set_option maxRecDepth 100000 in
set_option maxHeartbeats 1000000 in
theorem spec_ParseInt_neg (s : ByteArray) (w : World) (hs : s.size ≤ 1048576) (h0 : 0 < s.size) (h45 : s[0].toNat = 45) :
    Calls Tryz.prog 11 #[.string s] w fun e w' => e = .returned (.tuple #[.int .i64 ((parseOf s).getD 0), .bool (parseOf s).isSome]) ∧ Below w.heap.size w w' := by
  have htl := tells_neg s h0 h45
  have hb : ((s[0].toNat : Int) == 45) = true := by rw [h45]; rfl
  obtain ⟨t, htt⟩ : ∃ t, t = s.extract 1 s.size := ⟨_, rfl⟩
  rw [← htt] at htl
  have hts : t.size ≤ 1048576 := by rw [htt, ByteArray.size_extract]; omega
  have HTT := Lib.hid htt
  have HTL := Lib.hid htl
  clear htt htl h45
  cases hd : digitsB t.data.toList with
  | false =>
    have HN := Lib.hid (none_digits HTL.out hd)
    have HD := Lib.hid hd
    clear hd
    rw [HN.out]
    go_enter Tryz.func11, Tryz.ntmps11
    go_wp2_with fail
    rw [← HTT.out]
    refine (spec_IsDigits t w (by unfold maxLen; omega)).mono ?_
    rintro e w1 ⟨rfl, rfl⟩
    rw [HD.out]
    go_wp2
    go_ret2
    exact ⟨rfl, Below.refl _ _⟩
  | true =>
    have HD := Lib.hid hd
    clear hd
    by_cases hl : t.size ≤ 19
    · go_enter Tryz.func11, Tryz.ntmps11
      go_wp2_with fail
      rw [← HTT.out]
      refine (spec_IsDigits t w (by unfold maxLen; omega)).mono ?_
      rintro e w1 ⟨rfl, rfl⟩
      rw [HD.out]
      go_wp2
      go_loop [6, 7] (fun n i => ∃ (k : Nat) (a : Int), k ≤ t.size ∧ i = .int .i64 k ∧ n = .int .i64 a ∧ Hid (a = -(valTo t k : Int)) ∧ a ≤ 0 ∧ -9223372036854775808 ≤ a) (fun _ i => t.size - (intOf i).toNat)
      case atStart => exact ⟨0, 0, Nat.zero_le _, rfl, rfl, Lib.hid (by rw [valTo_zero]; rfl), by omega, by omega⟩
      case round =>
        obtain ⟨k, a, hk, rfl, rfl, HA, ha0, ha1⟩ := hrel
        by_cases hlt : k < t.size
        · have hc := digits_at HD.out k hlt
          have hc1 : 48 ≤ (t[k].toNat : Int) := by omega
          have hc2 : (t[k].toNat : Int) ≤ 57 := by omega
          have HV := Lib.hid (valTo_succ t k hlt)
          clear hc
          go_wp2
          · have hov : a < (-9223372036854775808 + ((t[k].toNat : Int) - 48)).tdiv 10 := by assumption
            have h9 := over_cut hc1 hc2 hov
            have HN := none_big HTL.out (k + 1) (by have := HV.out; have := HA.out; omega)
            go_ret2
            exact ⟨by rw [HN]; rfl, Below.refl _ _⟩
          · have hun : (-9223372036854775808 + ((t[k].toNat : Int) - 48)).tdiv 10 ≤ a := by assumption
            have h9 := under_cut hc1 hc2 hun
            have h10 := wraps_cut hc1 hc2 ha0 h9
            go_round
            case rel => exact ⟨k + 1, a * 10 - ((t[k].toNat : Int) - 48), by omega, by go_num, by rw [h10], Lib.hid (by have := HV.out; have := HA.out; omega), by omega, h9⟩
            case measure => simp [intOf]; omega
        · have hks : k = t.size := by omega
          have hra : Hid (a = (if true then -(valTo t t.size : Int) else (valTo t t.size : Int))) := Lib.hid (by have := HA.out; rw [hks] at this; simp; omega)
          by_cases htx : numB a = s
          · have hsame := same_text htx
            have HP := Lib.hid (htx ▸ parse_numB a (by omega) (by omega))
            clear htx
            go_wp2_with fail
            refine (spec_FormatInt a _ (by omega) (by omega)).mono ?_
            rintro e w2 ⟨rfl, b2⟩
            go_wp2
            go_ret2
            exact ⟨by rw [HP.out]; rfl, b2⟩
          · have hoth := other_text htx
            have HN := Lib.hid (last_no HTL.out a hra.out htx)
            clear htx
            go_wp2_with fail
            refine (spec_FormatInt a _ (by omega) (by omega)).mono ?_
            rintro e w2 ⟨rfl, b2⟩
            go_wp2
            go_ret2
            exact ⟨by rw [HN.out]; rfl, b2⟩
    · have HN := Lib.hid (none_long HTL.out (by omega))
      rw [HN.out]
      go_enter Tryz.func11, Tryz.ntmps11
      go_wp2_with fail
      rw [← HTT.out]
      refine (spec_IsDigits t w (by unfold maxLen; omega)).mono ?_
      rintro e w1 ⟨rfl, rfl⟩
      rw [HD.out]
      go_wp2
      go_ret2
      exact ⟨rfl, Below.refl _ _⟩

theorem spec_ParseInt (s : ByteArray) (w : World) (hs : s.size ≤ 1048576) :
    Calls Tryz.prog 11 #[.string s] w fun e w' => e = .returned (.tuple #[.int .i64 ((parseOf s).getD 0), .bool (parseOf s).isSome]) ∧ Below w.heap.size w w' := by
  by_cases h0 : 0 < s.size
  · by_cases h45 : s[0].toNat = 45
    · exact spec_ParseInt_neg s w hs h0 h45
    · exact spec_ParseInt_pos s w hs (.inr ⟨h0, h45⟩)
  · exact spec_ParseInt_pos s w hs (.inl (by omega))

end Go.Proofs.YtgajodcgedhikaaGreatDoor

namespace Go.Proofs.YtgajodcgedhikaaGreatDoor
open Go.RowKit
set_option linter.unusedVariables false
set_option linter.unusedSimpArgs false

def lines (s : ByteArray) : List ByteArray :=
  if (s.extract (splitTo s ⟨#[10]⟩ s.size).2 s.size).size = 0 then (splitTo s ⟨#[10]⟩ s.size).1 else split s ⟨#[10]⟩

/-- An owned slice of one element or more: its form, its cells, its heads. -/
theorem own_cut {w : World} {B e n : Nat} {v : Value} {xs : List Value} (h : w.ownsRow B e 1 v n xs) (hn : 0 < n) :
    ∃ g c, v = .slice (some ⟨g, 0, none⟩) n c ∧ n ≤ c ∧ (∀ m, m ≤ n → w.ownsRow B e 1 (.slice (some ⟨g, 0, none⟩) m c) m (xs.take m)) ∧ ∀ j, j < n → w.cell? ⟨g, j, none⟩ = xs[j]? := by
  have hl : xs.length = n := by simpa using h.1
  obtain ⟨g', cap', hv', _, _⟩ := h.form hn
  have hcells : ∀ j, j < n → w.cell? ⟨g', j, none⟩ = xs[j]? := by
    subst hv'
    exact fun j hj => h.cellAt j (by omega)
  rcases h.2 with ⟨_, h0⟩ | ⟨g, cap, cur, hv, hb, hg, hnc, hcm, hcs, ht⟩
  · omega
  · rw [hv] at hv'
    injection hv' with h1 h2 h3
    obtain rfl : g = g' := by injection h1 with h1; injection h1
    refine ⟨g, cap, hv, hnc, fun m hm => ⟨by simp; omega, .inr ⟨g, cap, cur, rfl, hb, hg, by omega, hcm, hcs, ?_⟩⟩, hcells⟩
    rw [← ht, List.take_take]
    congr 1
    omega

set_option maxRecDepth 100000 in
set_option maxHeartbeats 400000 in
theorem spec_SplitLines (s : ByteArray) (w : World) (hs : s.size ≤ 1048576) :
    Calls Tryz.prog 9 #[.string s] w fun e w' => ∃ v, e = .returned v ∧ w'.ownsRow w.heap.size 9 1 v (lines s).length ((lines s).map Value.string) ∧ Below w.heap.size w w' := by
  obtain ⟨P, hP⟩ : ∃ P, P = (splitTo s ⟨#[10]⟩ s.size).1 := ⟨_, rfl⟩
  obtain ⟨x, hx⟩ : ∃ x, x = s.extract (splitTo s ⟨#[10]⟩ s.size).2 s.size := ⟨_, rfl⟩
  have hsp : split s ⟨#[10]⟩ = P ++ [x] := by rw [hP, hx]; rfl
  have hli : lines s = if x.size = 0 then P else P ++ [x] := by unfold lines; rw [hsp, hx, hP]
  have hl := split_len s ⟨#[10]⟩
  rw [hsp] at hl
  have hm : P.length ≤ 1048576 := by simp at hl; omega
  have HS := Lib.hid hsp
  have HLI := Lib.hid hli
  clear hsp hli hl hP hx
  obtain ⟨m, hm2⟩ : ∃ m, m = P.length := ⟨_, rfl⟩
  have HM := Lib.hid hm2
  have hm3 : m ≤ 1048576 := by omega
  clear hm hm2
  by_cases hxe : x.size = 0
  · have hxl : x.toList = [] := by
      rw [Lib.toList_data]
      have : x.data.toList.length = 0 := by simpa using hxe
      exact List.eq_nil_of_length_eq_zero this
    rw [if_pos hxe] at HLI
    have HXL := Lib.hid hxl
    clear hxe hxl
    go_enter Tryz.func9, Tryz.ntmps9
    go_wp2_with fail
    refine (spec_SplitAny s ⟨#[10]⟩ w hs (by decide)).mono ?_
    rintro e w1 ⟨v, rfl, h1, b1⟩
    rw [HS.out, List.length_append, ← HM.out] at h1
    obtain ⟨g, cap, hv, hn, hcut, hcells⟩ := own_cut h1 (by simp)
    subst hv
    have hcell := hcells m (by simp)
    have hcell2 : w1.cell? ⟨g, m, none⟩ = some (.string x) := by
      rw [hcell, List.map_append, List.getElem?_append_right (by simp [HM.out])]
      simp [HM.out]
    have H1 := Lib.hid (hcut m (by simp))
    clear h1 hcut hcells hcell
    have hemp : x.toList.isEmpty = true := by rw [HXL.out]; rfl
    simp only [List.length_singleton] at hn ⊢
    go_wp2
    go_ret
    refine ⟨_, rfl, ?_, b1⟩
    have h2 := H1.out
    rw [HLI.out, ← HM.out]
    rw [List.map_append, List.take_append_of_le_length (by simp [HM.out]), List.take_of_length_le (by simp [HM.out])] at h2
    exact h2
  · rw [if_neg hxe] at HLI
    have hxl : x.toList.isEmpty = false := by
      rw [Lib.toList_data]
      cases hh : x.data.toList with
      | nil =>
        have : x.data.toList.length = x.size := by simp
        rw [hh] at this
        exact absurd this.symm hxe
      | cons a t => rfl
    have HXL := Lib.hid hxl
    clear hxe hxl
    go_enter Tryz.func9, Tryz.ntmps9
    go_wp2_with fail
    refine (spec_SplitAny s ⟨#[10]⟩ w hs (by decide)).mono ?_
    rintro e w1 ⟨v, rfl, h1, b1⟩
    rw [HS.out, List.length_append, ← HM.out] at h1
    obtain ⟨g, cap, hv, hn, hcut, hcells⟩ := own_cut h1 (by simp)
    subst hv
    have hcell := hcells m (by simp)
    have hcell2 : w1.cell? ⟨g, m, none⟩ = some (.string x) := by
      rw [hcell, List.map_append, List.getElem?_append_right (by simp [HM.out])]
      simp [HM.out]
    have H1 := Lib.hid h1
    clear h1 hcut hcells hcell
    have hemp := HXL.out
    go_wp2
    go_ret
    refine ⟨_, rfl, ?_, b1⟩
    have h2 := H1.out
    rw [HLI.out, List.length_append, ← HM.out]
    exact h2

set_option maxRecDepth 100000 in
set_option maxHeartbeats 400000 in
theorem impl_SplitLines (s : ByteArray) (w : World) (hs : s.size ≤ 1048576) :
    Calls Tryz.prog 16 #[.string s] w fun e w' => ∃ v, e = .returned v ∧ w'.ownsRow w.heap.size 9 1 v (lines s).length ((lines s).map Value.string) ∧ Below w.heap.size w w' := by
  obtain ⟨P, hP⟩ : ∃ P, P = (splitTo s ⟨#[10]⟩ s.size).1 := ⟨_, rfl⟩
  obtain ⟨x, hx⟩ : ∃ x, x = s.extract (splitTo s ⟨#[10]⟩ s.size).2 s.size := ⟨_, rfl⟩
  have hsp : split s ⟨#[10]⟩ = P ++ [x] := by rw [hP, hx]; rfl
  have hli : lines s = if x.size = 0 then P else P ++ [x] := by unfold lines; rw [hsp, hx, hP]
  have hl := split_len s ⟨#[10]⟩
  rw [hsp] at hl
  have hm : P.length ≤ 1048576 := by simp at hl; omega
  have HS := Lib.hid hsp
  have HLI := Lib.hid hli
  clear hsp hli hl hP hx
  obtain ⟨m, hm2⟩ : ∃ m, m = P.length := ⟨_, rfl⟩
  have HM := Lib.hid hm2
  have hm3 : m ≤ 1048576 := by omega
  clear hm hm2
  by_cases hxe : x.size = 0
  · have hxl : x.toList = [] := by
      rw [Lib.toList_data]
      have : x.data.toList.length = 0 := by simpa using hxe
      exact List.eq_nil_of_length_eq_zero this
    rw [if_pos hxe] at HLI
    have HXL := Lib.hid hxl
    clear hxe hxl
    go_enter Tryz.func16, Tryz.ntmps16
    go_wp2_with fail
    refine (impl_SplitAny s ⟨#[10]⟩ w hs (by decide)).mono ?_
    rintro e w1 ⟨v, rfl, h1, b1⟩
    rw [HS.out, List.length_append, ← HM.out] at h1
    obtain ⟨g, cap, hv, hn, hcut, hcells⟩ := own_cut h1 (by simp)
    subst hv
    have hcell := hcells m (by simp)
    have hcell2 : w1.cell? ⟨g, m, none⟩ = some (.string x) := by
      rw [hcell, List.map_append, List.getElem?_append_right (by simp [HM.out])]
      simp [HM.out]
    have H1 := Lib.hid (hcut m (by simp))
    clear h1 hcut hcells hcell
    have hemp : x.toList.isEmpty = true := by rw [HXL.out]; rfl
    simp only [List.length_singleton] at hn ⊢
    go_wp2
    go_ret
    refine ⟨_, rfl, ?_, b1⟩
    have h2 := H1.out
    rw [HLI.out, ← HM.out]
    rw [List.map_append, List.take_append_of_le_length (by simp [HM.out]), List.take_of_length_le (by simp [HM.out])] at h2
    exact h2
  · rw [if_neg hxe] at HLI
    have hxl : x.toList.isEmpty = false := by
      rw [Lib.toList_data]
      cases hh : x.data.toList with
      | nil =>
        have : x.data.toList.length = x.size := by simp
        rw [hh] at this
        exact absurd this.symm hxe
      | cons a t => rfl
    have HXL := Lib.hid hxl
    clear hxe hxl
    go_enter Tryz.func16, Tryz.ntmps16
    go_wp2_with fail
    refine (impl_SplitAny s ⟨#[10]⟩ w hs (by decide)).mono ?_
    rintro e w1 ⟨v, rfl, h1, b1⟩
    rw [HS.out, List.length_append, ← HM.out] at h1
    obtain ⟨g, cap, hv, hn, hcut, hcells⟩ := own_cut h1 (by simp)
    subst hv
    have hcell := hcells m (by simp)
    have hcell2 : w1.cell? ⟨g, m, none⟩ = some (.string x) := by
      rw [hcell, List.map_append, List.getElem?_append_right (by simp [HM.out])]
      simp [HM.out]
    have H1 := Lib.hid h1
    clear h1 hcut hcells hcell
    have hemp := HXL.out
    go_wp2
    go_ret
    refine ⟨_, rfl, ?_, b1⟩
    have h2 := H1.out
    rw [HLI.out, List.length_append, ← HM.out]
    exact h2

end Go.Proofs.YtgajodcgedhikaaGreatDoor

namespace Go.Proofs.YtgajodcgedhikaaGreatDoor
open Go.RowKit
set_option linter.unusedVariables false
set_option linter.unusedSimpArgs false

theorem joinTo_append (l r : List ByteArray) (sep : ByteArray) : ∀ k, k ≤ l.length → joinTo (l ++ r) sep k = joinTo l sep k := by
  intro k
  induction k with
  | zero => intro _; rfl
  | succ k ih =>
    intro h
    rw [joinTo, joinTo, ih (by omega)]
    have : (l ++ r).getD k ⟨#[]⟩ = l.getD k ⟨#[]⟩ := by
      rw [List.getD_eq_getElem?_getD, List.getD_eq_getElem?_getD, List.getElem?_append_left (by omega)]
    rw [this]
theorem joinB_snoc (l : List ByteArray) (x sep : ByteArray) : joinB (l ++ [x]) sep = (if 0 < l.length then joinB l sep ++ sep else joinB l sep) ++ x := by
  have h1 : (l ++ [x]).length = l.length + 1 := by simp
  have h2 : (l ++ [x]).getD l.length ⟨#[]⟩ = x := by simp
  unfold joinB
  rw [h1, joinTo, joinTo_append l [x] sep l.length (Nat.le_refl _), h2]

theorem split_first (s sp : ByteArray) (k : Nat) : (splitTo s sp k).1.length = 0 → (splitTo s sp k).2 = 0 := by
  induction k with
  | zero => intro _; rfl
  | succ k ih =>
    unfold splitTo
    split
    · split
      · simp
      · exact ih
    · exact ih

theorem join_splitTo (s : ByteArray) (c : UInt8) (k : Nat) (hk : k ≤ s.size) (x : ByteArray) :
    (joinB ((splitTo s ⟨#[c]⟩ k).1 ++ [x]) ⟨#[c]⟩).data.toList = s.data.toList.take (splitTo s ⟨#[c]⟩ k).2 ++ x.data.toList := by
  induction k generalizing x with
  | zero => simp [splitTo, joinB, joinTo]
  | succ k ih =>
    have hlt : k < s.size := hk
    cases hc : isSep ⟨#[c]⟩ s[k] with
    | true =>
      rw [splitTo_sep s _ k hlt hc]
      have hsc : s[k] = c := by
        unfold isSep at hc
        simpa using hc
      have hf := (splitTo_le s ⟨#[c]⟩ k).1
      rw [joinB_snoc, if_pos (by simp)]
      simp only [ByteArray.data_append, Array.toList_append]
      rw [ih (by omega)]
      have e1 : (s.extract (splitTo s ⟨#[c]⟩ k).2 k).data.toList = (s.data.toList.drop (splitTo s ⟨#[c]⟩ k).2).take (k - (splitTo s ⟨#[c]⟩ k).2) := Lib.extract_data s _ _
      have e2 : s.data.toList.take (splitTo s ⟨#[c]⟩ k).2 ++ (s.data.toList.drop (splitTo s ⟨#[c]⟩ k).2).take (k - (splitTo s ⟨#[c]⟩ k).2) = s.data.toList.take k := by
        have := List.take_append_drop (splitTo s ⟨#[c]⟩ k).2 (s.data.toList.take k)
        rw [List.take_take, Nat.min_eq_left hf, List.drop_take] at this
        exact this
      rw [e1, e2, take_snoc s k hlt, hsc]
    | false =>
      rw [splitTo_not s _ k hlt hc]
      exact ih (by omega) x

theorem join_split (s : ByteArray) (c : UInt8) : joinB (split s ⟨#[c]⟩) ⟨#[c]⟩ = s := by
  apply ByteArray.ext; apply Array.toList_inj.1
  unfold split
  rw [join_splitTo s c s.size (Nat.le_refl _)]
  have e1 : (s.extract (splitTo s ⟨#[c]⟩ s.size).2 s.size).data.toList = (s.data.toList.drop (splitTo s ⟨#[c]⟩ s.size).2).take (s.size - (splitTo s ⟨#[c]⟩ s.size).2) := Lib.extract_data s _ _
  have e3 : (s.data.toList.drop (splitTo s ⟨#[c]⟩ s.size).2).take (s.size - (splitTo s ⟨#[c]⟩ s.size).2) = s.data.toList.drop (splitTo s ⟨#[c]⟩ s.size).2 := List.take_of_length_le (by simp)
  rw [e1, e3, List.take_append_drop]

theorem split_sizes (s sp : ByteArray) : ∀ x ∈ split s sp, x.size ≤ s.size := by
  have h : ∀ k, ∀ x ∈ (splitTo s sp k).1, x.size ≤ s.size := by
    intro k
    induction k with
    | zero => intro x hx; simp [splitTo] at hx
    | succ k ih =>
      unfold splitTo
      split
      · split
        · intro x hx
          simp at hx
          rcases hx with hx | rfl
          · exact ih x hx
          · rw [ByteArray.size_extract]; omega
        · exact ih
      · exact ih
  intro x hx
  unfold split at hx
  rw [List.mem_append] at hx
  rcases hx with hx | hx
  · exact h _ x hx
  · rw [List.mem_singleton] at hx
    rw [hx, ByteArray.size_extract]; omega

theorem name_x1 : nameB (⟨#[120, 49]⟩ : ByteArray).data.toList = true := by decide
theorem digits_0 : digitsB (⟨#[48]⟩ : ByteArray).data.toList = true := by decide
theorem lines_ab : (lines ⟨#[97, 10, 98, 10]⟩).length = 2 := by decide +kernel

end Go.Proofs.YtgajodcgedhikaaGreatDoor

namespace Go.Proofs.YtgajodcgedhikaaGreatDoor
open Go.RowKit
set_option linter.unusedVariables false
set_option linter.unusedSimpArgs false

/-- Does the word begin with the sign of negation? -/
def negB (s : ByteArray) : Bool := decide (0 < s.size) && decide ((s.data.toList[0]?.getD 0).toNat = 33)
def stripB (s : ByteArray) : ByteArray := if negB s then s.extract 1 s.size else s
/-- The number that a word without sign names. -/
def wordN (t : ByteArray) : Option Int := if 2 ≤ t.size ∧ (t.data.toList[0]?.getD 0).toNat = 112 then (match parseOf (t.extract 1 t.size) with | some n => if 1 ≤ n ∧ n ≤ 3 then some n else none | none => none) else none
def parW (s : ByteArray) : Option Int := match wordN (stripB s) with | some n => some (if negB s then -n else n) | none => none
def parJ (ws : List ByteArray) : Nat → Option (List Int)
  | 0 => some []
  | j + 1 => match parJ ws j with | some o => (match parW (ws[j]?.getD ⟨#[]⟩) with | some x => some (o ++ [x]) | none => none) | none => none
def parL (s : ByteArray) : List Int × Bool := if s = ⟨#[45]⟩ then ([], true) else match parJ (split s ⟨#[38]⟩) (split s ⟨#[38]⟩).length with
  | some o => if labR o = true ∧ fmtL o = s then (o, true) else ([], false)
  | none => ([], false)
theorem parJ_none {ws : List ByteArray} {j : Nat} (h : parJ ws j = none) : ∀ {m : Nat}, j ≤ m → parJ ws m = none
  | 0, hm => by obtain rfl : j = 0 := by omega
                exact h
  | m + 1, hm => by
    by_cases e : j = m + 1
    · subst e; exact h
    · unfold parJ; rw [parJ_none h (show j ≤ m by omega)]
theorem parJ_len {ws : List ByteArray} : ∀ {j : Nat} {o : List Int}, parJ ws j = some o → o.length = j
  | 0, o, h => by simp [parJ] at h; subst h; rfl
  | j + 1, o, h => by
    unfold parJ at h
    cases h1 : parJ ws j with
    | none => rw [h1] at h; simp at h
    | some o1 =>
      rw [h1] at h
      cases h2 : parW (ws[j]?.getD ⟨#[]⟩) with
      | none => rw [h2] at h; simp at h
      | some x => rw [h2] at h; simp at h; subst h; simp [parJ_len h1]
theorem parJ_next {ws : List ByteArray} {j : Nat} {o : List Int} {s : ByteArray} {x : Int} (h : parJ ws j = some o) (hs : ws[j]? = some s) (hx : parW s = some x) : parJ ws (j + 1) = some (o ++ [x]) := by
  unfold parJ; rw [h, hs]; simp only [Option.getD_some]; rw [hx]
theorem parJ_stop {ws : List ByteArray} {j : Nat} {o : List Int} {s : ByteArray} (h : parJ ws j = some o) (hs : ws[j]? = some s) (hx : parW s = none) : parJ ws (j + 1) = none := by
  unfold parJ; rw [h, hs]; simp only [Option.getD_some]; rw [hx]
theorem parL_none {s : ByteArray} (h : ¬ s = ⟨#[45]⟩) {j : Nat} (hj : j ≤ (split s ⟨#[38]⟩).length) (hp : parJ (split s ⟨#[38]⟩) j = none) : parL s = ([], false) := by
  unfold parL; rw [if_neg h, parJ_none hp hj]
theorem parL_some {s : ByteArray} (h : ¬ s = ⟨#[45]⟩) {o : List Int} (hp : parJ (split s ⟨#[38]⟩) (split s ⟨#[38]⟩).length = some o) : parL s = if labR o = true ∧ fmtL o = s then (o, true) else ([], false) := by
  unfold parL; rw [if_neg h, hp]
theorem byte0 {s : ByteArray} (h : 0 < s.size) : s.data.toList[0]?.getD 0 = s[0] := by
  rw [List.getElem?_eq_getElem (by simpa using h)]; rfl
theorem neg_no0 {s : ByteArray} (h : ¬ 0 < s.size) : negB s = false := by unfold negB; simp [h]
theorem neg_is {s : ByteArray} (h : 0 < s.size) : negB s = decide (s[0].toNat = 33) := by unfold negB; rw [byte0 h]; simp [h]
theorem word_short {t : ByteArray} (h : ¬ 2 ≤ t.size) : wordN t = none := by unfold wordN; rw [if_neg (fun e => h e.1)]
theorem word_other {t : ByteArray} (h : 2 ≤ t.size) (h2 : ¬ t[0].toNat = 112) : wordN t = none := by unfold wordN; rw [byte0 (by omega), if_neg (fun e => h2 e.2)]
theorem word_is {t : ByteArray} (h : 2 ≤ t.size) (h2 : t[0].toNat = 112) : wordN t = match parseOf (t.extract 1 t.size) with | some n => if 1 ≤ n ∧ n ≤ 3 then some n else none | none => none := by unfold wordN; rw [byte0 (by omega), if_pos ⟨h, h2⟩]

end Go.Proofs.YtgajodcgedhikaaGreatDoor

namespace Go.Proofs.YtgajodcgedhikaaGreatDoor
open Go.RowKit
set_option linter.unusedVariables false
set_option linter.unusedSimpArgs false

def bSp : ByteArray := ⟨#[32]⟩
def bNl : ByteArray := ⟨#[10]⟩
def nmAt (ns : List GN) (v : Int) : ByteArray := (ns[v.toNat]?.getD gN0).name
/-- The line of a tie. -/
def tieW (ns : List GN) (t : GT) : ByteArray := ((((((((if t.fr then (⟨#[102, 114, 101, 101, 32]⟩ : ByteArray) else ⟨#[116, 105, 101, 32]⟩) ++ nmAt ns t.u) ++ bSp) ++ nmAt ns t.v) ++ bSp) ++ numB t.lo) ++ bSp) ++ numB t.hi)
def ftiR (s : GS) (i : Int) : ByteArray := if shR s && (decide (0 ≤ i) && decide (i ≤ (s.ts.length : Int) - 1)) then tieW s.ns (s.ts[i.toNat]?.getD gT0) else ⟨#[]⟩
/-- What is written behind out for a node. -/
def nodS (out : ByteArray) (e : GN) : ByteArray :=
  (if e.wat = 0 then (((out ++ ⟨#[110, 111, 100, 101, 32]⟩) ++ e.name) ++ bSp) ++ fmtL e.lab else (((((out ++ ⟨#[110, 111, 100, 101, 32]⟩) ++ e.name) ++ bSp) ++ fmtL e.lab) ++ ⟨#[32, 119, 97, 116, 99, 104, 32]⟩) ++ numB e.wat) ++ bNl
def horW (h : Int) : ByteArray := ((⟨#[104, 111, 114, 105, 122, 111, 110, 32]⟩ : ByteArray) ++ numB h) ++ bNl
def nodJ (s : GS) : Nat → ByteArray
  | 0 => horW s.h
  | j + 1 => nodS (nodJ s j) (s.ns[j]?.getD gN0)
def tieJ (s : GS) : Nat → ByteArray
  | 0 => nodJ s s.ns.length
  | j + 1 => (tieJ s j ++ tieW s.ns (s.ts[j]?.getD gT0)) ++ bNl
/-- The text of a show. -/
def fmtS (s : GS) : ByteArray := if shR s then tieJ s s.ts.length else ⟨#[]⟩
def gS0 : GS := ⟨[], [], 0⟩
def wAt (w : List ByteArray) (i : Nat) : ByteArray := w[i]?.getD ⟨#[]⟩
/-- The node of a line's words. -/
def lnN (w : List ByteArray) : Option GN := if w.length = 3 ∨ w.length = 5 then (if (parL (wAt w 2)).2 then some ⟨wAt w 1, (parL (wAt w 2)).1, if w.length = 5 then (parseOf (wAt w 4)).getD 0 else 0⟩ else none) else none
/-- The tie of a line's words. -/
def lnT (ns : List GN) (w : List ByteArray) : Option GT := if w.length = 5 then (match parseOf (wAt w 3), parseOf (wAt w 4) with | some a, some b => some ⟨namR ns (wAt w 1), namR ns (wAt w 2), a, b, decide (wAt w 0 = ⟨#[102, 114, 101, 101]⟩)⟩ | _, _ => none) else none
def lnR (s : GS) (i : Nat) (w : List ByteArray) : Option GS :=
  if i = 0 ∧ wAt w 0 = ⟨#[104, 111, 114, 105, 122, 111, 110]⟩ ∧ w.length = 2 then (match parseOf (wAt w 1) with | some n => some { s with h := n } | none => none)
  else if wAt w 0 = ⟨#[110, 111, 100, 101]⟩ ∧ s.ns.length < 7 then (match lnN w with | some e => some { s with ns := s.ns ++ [e] } | none => none)
  else if (wAt w 0 = ⟨#[116, 105, 101]⟩ ∨ wAt w 0 = ⟨#[102, 114, 101, 101]⟩) ∧ s.ts.length < 14 then (match lnT s.ns w with | some t => some { s with ts := s.ts ++ [t] } | none => none)
  else none
def psJ (ls : List ByteArray) : Nat → Option GS
  | 0 => some gS0
  | j + 1 => match psJ ls j with | some s => lnR s j (split (ls[j]?.getD ⟨#[]⟩) bSp) | none => none
/-- The show that is read of a text. -/
def psR (t : ByteArray) : GS × Bool := match psJ (lines t) (lines t).length with
  | some s => if shR s = true ∧ fmtS s = t then (s, true) else (gS0, false)
  | none => (gS0, false)
theorem psJ_next {ls : List ByteArray} {j : Nat} {s : GS} {l : ByteArray} (h : psJ ls j = some s) (hl : ls[j]? = some l) : psJ ls (j + 1) = lnR s j (split l bSp) := by
  conv => lhs; unfold psJ
  rw [h, hl]; rfl
theorem psJ_none {ls : List ByteArray} {j : Nat} (h : psJ ls j = none) : ∀ {m : Nat}, j ≤ m → psJ ls m = none
  | 0, hm => by obtain rfl : j = 0 := by omega
                exact h
  | m + 1, hm => by
    by_cases e : j = m + 1
    · subst e; exact h
    · unfold psJ; rw [psJ_none h (show j ≤ m by omega)]
theorem psR_none {t : ByteArray} {j : Nat} (hj : j ≤ (lines t).length) (h : psJ (lines t) j = none) : psR t = (gS0, false) := by
  unfold psR; rw [psJ_none h hj]
theorem psR_some {t : ByteArray} {s : GS} (h : psJ (lines t) (lines t).length = some s) : psR t = if shR s = true ∧ fmtS s = t then (s, true) else (gS0, false) := by
  unfold psR; rw [h]
/-- The parts of what is written of times. -/
def ftJ (ns : List GN) (ts : List Int) : Nat → List ByteArray
  | 0 => []
  | j + 1 => ftJ ns ts j ++ (if ts[j]?.getD 0 = -1 then [] else [((ns[j]?.getD gN0).name ++ ⟨#[64]⟩) ++ numB (ts[j]?.getD 0)])
def ftmR (s : GS) (ts : List Int) : ByteArray := if shR s && decide (ts.length = s.ns.length) then (if (ftJ s.ns ts ts.length).length = 0 then ⟨#[45]⟩ else joinB (ftJ s.ns ts ts.length) bSp) else ⟨#[]⟩

end Go.Proofs.YtgajodcgedhikaaGreatDoor

namespace Go.Proofs.YtgajodcgedhikaaGreatDoor
open Go.RowKit
set_option linter.unusedVariables false
set_option linter.unusedSimpArgs false

abbrev BL := List UInt8
/-- One byte of a text that is split at c. -/
def spS (c : UInt8) (p : List BL × BL) (x : UInt8) : List BL × BL := if x = c then (p.1 ++ [p.2], []) else (p.1, p.2 ++ [x])
def spF (c : UInt8) (p : List BL × BL) (l : BL) : List BL × BL := l.foldl (spS c) p
theorem spF_append (c : UInt8) (p : List BL × BL) (a b : BL) : spF c p (a ++ b) = spF c (spF c p a) b := List.foldl_append ..
theorem spF_free {c : UInt8} : ∀ {w : BL} {A : List BL} {b : BL}, (∀ x ∈ w, x ≠ c) → spF c (A, b) w = (A, b ++ w)
  | [], A, b, _ => by simp [spF]
  | x :: w, A, b, h => by
    have hx : x ≠ c := h x (List.mem_cons_self ..)
    have := spF_free (c := c) (w := w) (A := A) (b := b ++ [x]) (fun y hy => h y (List.mem_cons_of_mem _ hy))
    show spF c (spS c (A, b) x) w = _
    unfold spS
    rw [if_neg hx, this, List.append_assoc]; rfl
theorem spF_sep (c : UInt8) (A : List BL) (b : BL) : spF c (A, b) [c] = (A ++ [b], []) := by
  show spS c (A, b) c = _
  unfold spS
  rw [if_pos rfl]
theorem spF_part {c : UInt8} {w : BL} {A : List BL} {b : BL} (h : ∀ x ∈ w, x ≠ c) : spF c (A, b) (w ++ [c]) = (A ++ [b ++ w], []) := by
  rw [spF_append, spF_free h, spF_sep]
/-- Parts, each with the separator behind it. -/
def catL (c : UInt8) (ws : List BL) : BL := ws.flatMap (fun w => w ++ [c])
theorem spF_cat {c : UInt8} : ∀ {ws : List BL} {A : List BL}, (∀ w ∈ ws, ∀ x ∈ w, x ≠ c) → spF c (A, []) (catL c ws) = (A ++ ws, [])
  | [], A, _ => by simp [spF, catL]
  | w :: ws, A, h => by
    have e : catL c (w :: ws) = (w ++ [c]) ++ catL c ws := by simp [catL]
    rw [e, spF_append, spF_part (h w (List.mem_cons_self ..)), List.nil_append, spF_cat (fun v hv => h v (List.mem_cons_of_mem _ hv)), List.append_assoc]
    rfl
theorem isSep_one (c x : UInt8) : isSep ⟨#[c]⟩ x = decide (x = c) := by
  unfold isSep
  show [c].contains x = _
  rw [Bool.eq_iff_iff, List.contains_iff_mem, decide_eq_true_eq, List.mem_singleton]
theorem ext_take (s : ByteArray) (p k : Nat) (hk : k ≤ s.size) : (s.extract p k).data.toList = (s.data.toList.take k).drop p := by
  rw [ByteArray.data_extract, Array.toList_extract, List.extract_eq_take_drop, List.drop_take]
/-- Splitting by places is splitting byte by byte. -/
theorem splitTo_spF (s : ByteArray) (c : UInt8) : ∀ k, k ≤ s.size → spF c ([], []) (s.data.toList.take k) = ((splitTo s ⟨#[c]⟩ k).1.map (·.data.toList), (s.extract (splitTo s ⟨#[c]⟩ k).2 k).data.toList)
  | 0, _ => by simp [spF, splitTo]
  | k + 1, hk => by
    have ih := splitTo_spF s c k (by omega)
    have hlt : k < s.size := by omega
    have hle := (splitTo_le s ⟨#[c]⟩ k).1
    rw [take_snoc s k hlt, spF_append, ih]
    by_cases h : s[k] = c
    · have hs : isSep ⟨#[c]⟩ s[k] = true := by rw [isSep_one]; exact decide_eq_true h
      rw [splitTo_sep s _ k hlt hs, h, spF_sep]
      simp [ByteArray.data_extract]
    · have hs : isSep ⟨#[c]⟩ s[k] = false := by rw [isSep_one]; exact decide_eq_false h
      rw [splitTo_not s _ k hlt hs, spF_free (fun x hx => by simp at hx; rw [hx]; exact h)]
      congr 1
      rw [ext_take s _ k (by omega), ext_take s _ (k + 1) hk, take_snoc s k hlt, List.drop_append_of_le_length (by rw [List.length_take]; simp; omega)]
theorem split_spF (s : ByteArray) (c : UInt8) : (split s ⟨#[c]⟩).map (·.data.toList) = (spF c ([], []) s.data.toList).1 ++ [(spF c ([], []) s.data.toList).2] := by
  have h := splitTo_spF s c s.size (Nat.le_refl _)
  rw [List.take_of_length_le (by simp)] at h
  rw [h]
  unfold split
  rw [List.map_append]; rfl
theorem bytes_inj {a b : ByteArray} (h : a.data.toList = b.data.toList) : a = b := by
  apply ByteArray.ext; apply Array.toList_inj.1; exact h
theorem map_inj : ∀ {a b : List ByteArray}, a.map (·.data.toList) = b.map (·.data.toList) → a = b
  | [], [], _ => rfl
  | [], _ :: _, h => by simp at h
  | _ :: _, [], h => by simp at h
  | x :: a, y :: b, h => by
    simp only [List.map_cons, List.cons.injEq] at h
    rw [bytes_inj h.1, map_inj h.2]
/-- A text is split as it is put together. -/
theorem split_of {s : ByteArray} {c : UInt8} {A : List ByteArray} {b : ByteArray} (h : spF c ([], []) s.data.toList = (A.map (·.data.toList), b.data.toList)) : split s ⟨#[c]⟩ = A ++ [b] := by
  apply map_inj
  rw [split_spF, h, List.map_append]; rfl
theorem lines_of {s : ByteArray} {A : List ByteArray} (h : spF 10 ([], []) s.data.toList = (A.map (·.data.toList), [])) : lines s = A := by
  have h1 := splitTo_spF s 10 s.size (Nat.le_refl _)
  rw [List.take_of_length_le (by simp), h] at h1
  injection h1 with h2 h3
  have hz : (s.extract (splitTo s ⟨#[10]⟩ s.size).2 s.size).size = 0 := by
    have : (s.extract (splitTo s ⟨#[10]⟩ s.size).2 s.size).data.toList.length = 0 := by rw [← h3]; rfl
    simpa using this
  unfold lines
  rw [if_pos hz]
  exact (map_inj h2).symm

end Go.Proofs.YtgajodcgedhikaaGreatDoor

namespace Go.Proofs.YtgajodcgedhikaaGreatDoor
open Go.RowKit
set_option linter.unusedVariables false

/-- What a draw adds for proposition p. -/
def optL (s : Nat) (p : Int) : List Int := match s with
  | 0 => [p]
  | 1 => [-p]
  | _ => []
/-- The label of three draws. -/
def drL (s t u : Nat) : List Int := optL s 1 ++ optL t 2 ++ optL u 3
/-- The values that the number n names, bit by bit. -/
def bitV (n : Nat) : Int := if n % 2 = 1 then -1 else 1
def vsN (n : Nat) : List Int := [bitV n, bitV (n / 2), bitV (n / 4)]
def all3 (p : Nat → Bool) : Bool := p 0 && p 1 && p 2
theorem all3_of {p : Nat → Bool} (h : all3 p = true) {s : Nat} (hs : s ≤ 2) : p s = true := by
  unfold all3 at h
  rw [Bool.and_eq_true, Bool.and_eq_true] at h
  obtain e | e | e : s = 0 ∨ s = 1 ∨ s = 2 := by omega
  · rw [e]; exact h.1.1
  · rw [e]; exact h.1.2
  · rw [e]; exact h.2
def all8 (p : Nat → Bool) : Bool := p 0 && p 1 && p 2 && p 3 && p 4 && p 5 && p 6 && p 7
theorem all8_of {p : Nat → Bool} (h : all8 p = true) {n : Nat} (hn : n < 8) : p n = true := by
  unfold all8 at h
  simp only [Bool.and_eq_true] at h
  obtain ⟨⟨⟨⟨⟨⟨⟨h0, h1⟩, h2⟩, h3⟩, h4⟩, h5⟩, h6⟩, h7⟩ := h
  obtain e | e | e | e | e | e | e | e : n = 0 ∨ n = 1 ∨ n = 2 ∨ n = 3 ∨ n = 4 ∨ n = 5 ∨ n = 6 ∨ n = 7 := by omega
  all_goals (rw [e]; assumption)
theorem drL_lab {s t u : Nat} (hs : s ≤ 2) (ht : t ≤ 2) (hu : u ≤ 2) : labR (drL s t u) = true := by
  have h : all3 (fun s => all3 fun t => all3 fun u => labR (drL s t u)) = true := by decide
  exact all3_of (all3_of (all3_of h hs) ht) hu
theorem drL_imp {s t u : Nat} (hs : s ≤ 2) (ht : t ≤ 2) (hu : u ≤ 2) : impR (drL s t u) (drL s t u) = true := by
  have h : all3 (fun s => all3 fun t => all3 fun u => impR (drL s t u) (drL s t u)) = true := by decide
  exact all3_of (all3_of (all3_of h hs) ht) hu
/-- Under full values both labels hold exactly if they can be joined and what they join to holds. -/
def bothB (a b v : List Int) : Bool := (decide (stR a v = 1) && decide (stR b v = 1)) == ((jnR a b).2 && decide (stR (jnR a b).1 v = 1))
def bothS (s : Nat) : Bool := all3 fun t => all3 fun u => all3 fun s' => all3 fun t' => all3 fun u' => all8 fun n => bothB (drL s t u) (drL s' t' u') (vsN n)
set_option maxRecDepth 100000 in
set_option maxHeartbeats 16000000 in
theorem both0 : bothS 0 = true := by decide +kernel
set_option maxRecDepth 100000 in
set_option maxHeartbeats 16000000 in
theorem both1 : bothS 1 = true := by decide +kernel
set_option maxRecDepth 100000 in
set_option maxHeartbeats 16000000 in
theorem both2 : bothS 2 = true := by decide +kernel
theorem drL_both {s t u s' t' u' n : Nat} (hs : s ≤ 2) (ht : t ≤ 2) (hu : u ≤ 2) (hs' : s' ≤ 2) (ht' : t' ≤ 2) (hu' : u' ≤ 2) (hn : n < 8) :
    (decide (stR (drL s t u) (vsN n) = 1) && decide (stR (drL s' t' u') (vsN n) = 1)) = ((jnR (drL s t u) (drL s' t' u')).2 && decide (stR (jnR (drL s t u) (drL s' t' u')).1 (vsN n) = 1)) := by
  have h : all3 bothS = true := by
    unfold all3
    rw [both0, both1, both2]; rfl
  have h1 := all8_of (all3_of (all3_of (all3_of (all3_of (all3_of (all3_of h hs) ht) hu) hs') ht') hu') hn
  unfold bothB at h1
  exact eq_of_beq h1
theorem vsN_val {n : Nat} (hn : n < 8) : valR (vsN n) = true := by
  have h : all8 (fun n => valR (vsN n)) = true := by decide
  exact all8_of h hn
theorem vsN_cz {n : Nat} (hn : n < 8) : czR (vsN n) = 0 := by
  have h : all8 (fun n => decide (czR (vsN n) = 0)) = true := by decide
  have := all8_of h hn
  exact of_decide_eq_true this
theorem nil_state : stR [] [0, 0, 0] = 1 := by decide
theorem wo_all (l : List Int) (p : Int) : (woR l p).length ≤ l.length := by
  have h := wo_len l p l.length
  rwa [List.take_of_length_le (Nat.le_refl _)] at h

end Go.Proofs.YtgajodcgedhikaaGreatDoor

namespace Go.Proofs.YtgajodcgedhikaaGreatDoor
open Go.RowKit
set_option linter.unusedVariables false
def readB3 (s : Nat) : Bool := all3 fun t => all3 fun u => decide (parL (fmtL (drL s t u)) = (drL s t u, true))
set_option maxRecDepth 100000 in
set_option maxHeartbeats 16000000 in
theorem read0 : readB3 0 = true := by decide +kernel
set_option maxRecDepth 100000 in
set_option maxHeartbeats 16000000 in
theorem read1 : readB3 1 = true := by decide +kernel
set_option maxRecDepth 100000 in
set_option maxHeartbeats 16000000 in
theorem read2 : readB3 2 = true := by decide +kernel
theorem drL_read {s t u : Nat} (hs : s ≤ 2) (ht : t ≤ 2) (hu : u ≤ 2) : parL (fmtL (drL s t u)) = (drL s t u, true) := by
  have h : all3 readB3 = true := by
    unfold all3
    rw [read0, read1, read2]; rfl
  have h1 := all3_of (all3_of (all3_of h hs) ht) hu
  exact of_decide_eq_true h1
theorem drL_size {s t u : Nat} (hs : s ≤ 2) (ht : t ≤ 2) (hu : u ≤ 2) : (fmtL (drL s t u)).size ≤ 11 := by
  have h : all3 (fun s => all3 fun t => all3 fun u => decide ((fmtL (drL s t u)).size ≤ 11)) = true := by decide +kernel
  have h1 := all3_of (all3_of (all3_of h hs) ht) hu
  exact of_decide_eq_true h1

end Go.Proofs.YtgajodcgedhikaaGreatDoor
