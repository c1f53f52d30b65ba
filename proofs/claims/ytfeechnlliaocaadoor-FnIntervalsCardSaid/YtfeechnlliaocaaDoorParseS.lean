/-
  WALK of spec.ParseInt.
-/
import Derived.Test.YtfeechnlliaocaaDoorParseW
import Derived.Lib.IndexBytes
namespace Go.Proofs.YtfeechnlliaocaaDoor
open Go.RowKit
set_option linter.unusedVariables false
set_option linter.unusedSimpArgs false

/-- What the digits' text T tells of the int whose text s is: sign 1 or -1, and the greatest magnitude. -/
def Tells (s T : ByteArray) (neg : Bool) : Prop :=
  ∀ v, parseOf s = some v → ∃ u : Nat, T.data.toList = Lib.decDigits u ∧ v = (if neg then -(u : Int) else (u : Int)) ∧ u ≤ (if neg then 9223372036854775808 else 9223372036854775807)

theorem digits_dec (u : Nat) : digitsB (Lib.decDigits u) = true := by
  unfold digitsB
  have h1 : (Lib.decDigits u).isEmpty = false := by
    cases h : Lib.decDigits u with
    | nil => exact absurd h (dec_ne u)
    | cons a b => rfl
  rw [h1]
  simp only [Bool.not_false, Bool.true_and, List.all_eq_true]
  intro c hc
  have := dec_digits u c hc
  unfold isDig
  simp; omega

theorem digits_at {T : ByteArray} (h : digitsB T.data.toList = true) (k : Nat) (hk : k < T.size) : 48 ≤ T[k].toNat ∧ T[k].toNat ≤ 57 := by
  unfold digitsB at h
  simp only [Bool.and_eq_true, List.all_eq_true] at h
  have := h.2 T[k] (List.getElem_mem (l := T.data.toList) (n := k) (by simpa using hk))
  unfold isDig at this
  simp at this
  exact this

/-- The value of the first k digits. -/
def valTo (T : ByteArray) (k : Nat) : Nat := valFrom 0 (T.data.toList.take k)
theorem valTo_zero (T : ByteArray) : valTo T 0 = 0 := by unfold valTo valFrom; simp
theorem valTo_succ (T : ByteArray) (k : Nat) (hk : k < T.size) : valTo T (k + 1) = valTo T k * 10 + (T[k].toNat - 48) := by
  unfold valTo; rw [take_snoc T k hk, valFrom_snoc]
theorem valTo_all (T : ByteArray) : valTo T T.size = valFrom 0 T.data.toList := by
  unfold valTo; rw [List.take_of_length_le (by simp)]
theorem valTo_le (T : ByteArray) (k : Nat) : valTo T k ≤ valFrom 0 T.data.toList := valFrom_take 0 _ k

theorem none_digits {s T : ByteArray} {neg : Bool} (h : Tells s T neg) (hd : digitsB T.data.toList = false) : parseOf s = none := by
  cases hp : parseOf s with
  | none => rfl
  | some v =>
    obtain ⟨u, hu, _⟩ := h v hp
    rw [hu, digits_dec] at hd; cases hd
theorem none_long {s T : ByteArray} {neg : Bool} (h : Tells s T neg) (hd : 19 < T.size) : parseOf s = none := by
  cases hp : parseOf s with
  | none => rfl
  | some v =>
    obtain ⟨u, hu, _, hb⟩ := h v hp
    have h1 := dec_len19 u (by split at hb <;> omega)
    rw [← hu] at h1
    simp at h1
    omega
theorem none_big {s T : ByteArray} {neg : Bool} (h : Tells s T neg) (k : Nat) (hd : 9223372036854775808 < valTo T k) : parseOf s = none := by
  cases hp : parseOf s with
  | none => rfl
  | some v =>
    obtain ⟨u, hu, _, hb⟩ := h v hp
    have h1 := valTo_le T k
    rw [hu, dec_val] at h1
    split at hb <;> omega
theorem none_edge {s T : ByteArray} (h : Tells s T false) (hd : valTo T T.size = 9223372036854775808) : parseOf s = none := by
  cases hp : parseOf s with
  | none => rfl
  | some v =>
    obtain ⟨u, hu, _, hb⟩ := h v hp
    rw [valTo_all, hu, dec_val] at hd
    simp at hb
    omega
theorem tells_val {s T : ByteArray} {neg : Bool} (h : Tells s T neg) {v : Int} (hp : parseOf s = some v) : v = (if neg then -(valTo T T.size : Int) else (valTo T T.size : Int)) := by
  obtain ⟨u, hu, hv, _⟩ := h v hp
  rw [valTo_all, hu, dec_val]
  exact hv

theorem tells_pos (s : ByteArray) (h : s.size = 0 ∨ ∃ h0 : 0 < s.size, s[0].toNat ≠ 45) : Tells s s false := by
  intro v hv
  obtain ⟨hn, _, h0, h1⟩ := parse_some hv
  have hl : s.data.toList = Lib.itoa v := by rw [← hn]; simp [numB]
  by_cases hneg : 0 ≤ v
  · obtain ⟨u, rfl⟩ : ∃ u : Nat, v = u := ⟨v.toNat, by omega⟩
    exact ⟨u, by rw [hl, Lib.itoa_nonneg], by simp, by simp; omega⟩
  · exfalso
    obtain ⟨u, rfl⟩ : ∃ u : Nat, v = -(u : Int) := ⟨v.natAbs, by omega⟩
    rw [Lib.itoa_neg u (by omega)] at hl
    have hlen : s.data.toList.length = s.size := by simp
    rcases h with h | ⟨h, h2⟩
    · rw [hl, h] at hlen; simp at hlen
    · apply h2
      have e : s[0] = s.data.toList[0]'(by rw [hlen]; exact h) := rfl
      rw [e]
      simp [hl]
theorem tells_neg (s : ByteArray) (h : 0 < s.size) (h2 : s[0].toNat = 45) : Tells s (s.extract 1 s.size) true := by
  intro v hv
  obtain ⟨hn, _, h0, h1⟩ := parse_some hv
  have hl : s.data.toList = Lib.itoa v := by rw [← hn]; simp [numB]
  have hlen : s.data.toList.length = s.size := by simp
  by_cases hneg : 0 ≤ v
  · exfalso
    obtain ⟨u, rfl⟩ : ∃ u : Nat, v = u := ⟨v.toNat, by omega⟩
    rw [Lib.itoa_nonneg] at hl
    have e : s[0] = s.data.toList[0]'(by rw [hlen]; exact h) := rfl
    have := dec_digits u s[0] (by rw [← hl, e]; exact List.getElem_mem _)
    omega
  · obtain ⟨u, rfl⟩ : ∃ u : Nat, v = -(u : Int) := ⟨v.natAbs, by omega⟩
    rw [Lib.itoa_neg u (by omega)] at hl
    refine ⟨u, ?_, by simp, by simp; omega⟩
    rw [Lib.extract_to_end, hl]
    rfl

theorem tdiv_cut (c : Int) (h2 : c ≤ 57) : (-9223372036854775808 + (c - 48)).tdiv 10 = -((9223372036854775808 - (c - 48)) / 10) := by
  rw [show (-9223372036854775808 + (c - 48)) = -(9223372036854775808 - (c - 48)) from by omega, Int.neg_tdiv, Int.tdiv_eq_ediv_of_nonneg (by omega)]
theorem over_cut {a c : Int} (h1 : 48 ≤ c) (h2 : c ≤ 57) (h : a < (-9223372036854775808 + (c - 48)).tdiv 10) : 9223372036854775808 < -a * 10 + (c - 48) := by
  rw [tdiv_cut c h2] at h; omega
theorem under_cut {a c : Int} (h1 : 48 ≤ c) (h2 : c ≤ 57) (h : (-9223372036854775808 + (c - 48)).tdiv 10 ≤ a) : -9223372036854775808 ≤ a * 10 - (c - 48) := by
  rw [tdiv_cut c h2] at h; omega
theorem wraps_cut {a c : Int} (h1 : 48 ≤ c) (h2 : c ≤ 57) (h0 : a ≤ 0) (h : -9223372036854775808 ≤ a * 10 - (c - 48)) : wrap64 (wrap64 (a * 10) - (c - 48)) = a * 10 - (c - 48) := by
  rw [IntWalk.wrap64_in (a * 10) (by omega), IntWalk.wrap64_in _ (by omega)]

/-- The text's last test: the int that was read, written out again. -/
theorem last_no {s T : ByteArray} {neg : Bool} (h : Tells s T neg) (r : Int) (hr : r = (if neg then -(valTo T T.size : Int) else (valTo T T.size : Int))) (hne : numB r ≠ s) : parseOf s = none := by
  cases hp : parseOf s with
  | none => rfl
  | some v =>
    have := tells_val h hp
    rw [← hr] at this
    exact absurd (by rw [← this]; exact (parse_some hp).1) hne
theorem same_text {r : Int} {s : ByteArray} (h : numB r = s) : (!(numB r).toList == s.toList) = false := by rw [h]; simp
theorem other_text {r : Int} {s : ByteArray} (h : numB r ≠ s) : (!(numB r).toList == s.toList) = true := by
  simp only [Bool.not_eq_true', beq_eq_false_iff_ne, ne_eq]
  rw [Lib.toList_data, Lib.toList_data]
  intro e
  exact h (by apply ByteArray.ext; apply Array.toList_inj.1; exact e)

set_option maxRecDepth 100000 in
set_option maxHeartbeats 1000000 in
theorem spec_ParseInt_pos (s : ByteArray) (w : World) (hs : s.size ≤ 1048576) (hneg : s.size = 0 ∨ ∃ h0 : 0 < s.size, s[0].toNat ≠ 45) :
    Calls Tryd.prog 45 #[.string s] w fun e w' => e = .returned (.tuple #[.int .i64 ((parseOf s).getD 0), .bool (parseOf s).isSome]) ∧ Below w.heap.size w w' := by
  have HTL := Lib.hid (tells_pos s hneg)
  cases hd : digitsB s.data.toList with
  | false =>
    have HN := Lib.hid (none_digits HTL.out hd)
    have HD := Lib.hid hd
    clear hd
    rw [HN.out]
    rcases hneg with h0 | ⟨h0, h45⟩
    · go_enter Tryd.func45, Tryd.ntmps45
      go_wp2_with fail
      refine (spec_IsDigits s w (by unfold maxLen; omega)).mono ?_
      rintro e w1 ⟨rfl, rfl⟩
      rw [HD.out]
      go_wp2
      go_ret2
      exact ⟨rfl, Below.refl _ _⟩
    · have hb : ((s[0].toNat : Int) == 45) = false := by simp; omega
      clear h45
      go_enter Tryd.func45, Tryd.ntmps45
      go_wp2_with fail
      refine (spec_IsDigits s w (by unfold maxLen; omega)).mono ?_
      rintro e w1 ⟨rfl, rfl⟩
      rw [HD.out]
      go_wp2
      go_ret2
      exact ⟨rfl, Below.refl _ _⟩
  | true =>
    have HD := Lib.hid hd
    have h0 : 0 < s.size := by
      rcases Nat.eq_zero_or_pos s.size with h | h
      · exfalso
        have : s.data.toList = [] := List.eq_nil_of_length_eq_zero (by simpa using h)
        rw [this] at hd; cases hd
      · exact h
    have h45 : s[0].toNat ≠ 45 := by
      have := digits_at hd 0 h0
      omega
    have hb : ((s[0].toNat : Int) == 45) = false := by simp; omega
    clear h45 hd hneg
    by_cases hl : s.size ≤ 19
    · go_enter Tryd.func45, Tryd.ntmps45
      go_wp2_with fail
      refine (spec_IsDigits s w (by unfold maxLen; omega)).mono ?_
      rintro e w1 ⟨rfl, rfl⟩
      rw [HD.out]
      go_wp2
      go_loop [6, 7] (fun n i => ∃ (k : Nat) (a : Int), k ≤ s.size ∧ i = .int .i64 k ∧ n = .int .i64 a ∧ Hid (a = -(valTo s k : Int)) ∧ a ≤ 0 ∧ -9223372036854775808 ≤ a) (fun _ i => s.size - (intOf i).toNat)
      case atStart => exact ⟨0, 0, Nat.zero_le _, rfl, rfl, Lib.hid (by rw [valTo_zero]; rfl), by omega, by omega⟩
      case round =>
        obtain ⟨k, a, hk, rfl, rfl, HA, ha0, ha1⟩ := hrel
        by_cases hlt : k < s.size
        · have hc := digits_at HD.out k hlt
          have hc1 : 48 ≤ (s[k].toNat : Int) := by omega
          have hc2 : (s[k].toNat : Int) ≤ 57 := by omega
          have HV := Lib.hid (valTo_succ s k hlt)
          clear hc
          go_wp2
          · have hov : a < (-9223372036854775808 + ((s[k].toNat : Int) - 48)).tdiv 10 := by assumption
            have h9 := over_cut hc1 hc2 hov
            have HN := none_big HTL.out (k + 1) (by have := HV.out; have := HA.out; omega)
            go_ret2
            exact ⟨by rw [HN]; rfl, Below.refl _ _⟩
          · have hun : (-9223372036854775808 + ((s[k].toNat : Int) - 48)).tdiv 10 ≤ a := by assumption
            have h9 := under_cut hc1 hc2 hun
            have h10 := wraps_cut hc1 hc2 ha0 h9
            go_round
            case rel => exact ⟨k + 1, a * 10 - ((s[k].toNat : Int) - 48), by omega, by go_num, by rw [h10], Lib.hid (by have := HV.out; have := HA.out; omega), by omega, h9⟩
            case measure => simp [intOf]; omega
        · have hks : k = s.size := by omega
          have hra : Hid ((-a) = (if false then -(valTo s s.size : Int) else (valTo s s.size : Int))) := Lib.hid (by have := HA.out; rw [hks] at this; simp; omega)
          by_cases hed : a = -9223372036854775808
          · have HN := Lib.hid (none_edge HTL.out (by have := HA.out; rw [hks] at this; omega))
            have hq : (a == -9223372036854775808) = true := by simp [hed]
            clear hed
            go_wp2
            go_ret2
            exact ⟨by rw [HN.out]; rfl, Below.refl _ _⟩
          · have hq : (a == -9223372036854775808) = false := by simp [hed]
            have hlo : -9223372036854775807 ≤ a := by omega
            clear hed
            by_cases htx : numB (-a) = s
            · have hsame := same_text htx
              have HP := Lib.hid (htx ▸ parse_numB (-a) (by omega) (by omega))
              clear htx
              go_wp2_with fail
              refine (spec_FormatInt (-a) _ (by omega) (by omega)).mono ?_
              rintro e w2 ⟨rfl, b2⟩
              go_wp2
              go_ret2
              exact ⟨by rw [HP.out]; rfl, b2⟩
            · have hoth := other_text htx
              have HN := Lib.hid (last_no HTL.out (-a) hra.out htx)
              clear htx
              go_wp2_with fail
              refine (spec_FormatInt (-a) _ (by omega) (by omega)).mono ?_
              rintro e w2 ⟨rfl, b2⟩
              go_wp2
              go_ret2
              exact ⟨by rw [HN.out]; rfl, b2⟩
    · have HN := Lib.hid (none_long HTL.out (by omega))
      rw [HN.out]
      go_enter Tryd.func45, Tryd.ntmps45
      go_wp2_with fail
      refine (spec_IsDigits s w (by unfold maxLen; omega)).mono ?_
      rintro e w1 ⟨rfl, rfl⟩
      rw [HD.out]
      go_wp2
      go_ret2
      exact ⟨rfl, Below.refl _ _⟩

set_option maxRecDepth 100000 in
set_option maxHeartbeats 1000000 in
theorem spec_ParseInt_neg (s : ByteArray) (w : World) (hs : s.size ≤ 1048576) (h0 : 0 < s.size) (h45 : s[0].toNat = 45) :
    Calls Tryd.prog 45 #[.string s] w fun e w' => e = .returned (.tuple #[.int .i64 ((parseOf s).getD 0), .bool (parseOf s).isSome]) ∧ Below w.heap.size w w' := by
  have htl := tells_neg s h0 h45
  have hb : ((s[0].toNat : Int) == 45) = true := by rw [h45]; rfl
  obtain ⟨t, htt⟩ : ∃ t, t = s.extract 1 s.size := ⟨_, rfl⟩
  rw [← htt] at htl
  have hts : t.size ≤ 1048576 := by rw [htt, ByteArray.size_extract]; omega
  have HTT := Lib.hid htt
  have HTL := Lib.hid htl
  clear htt htl h45
  cases hd : digitsB t.data.toList with
  | false =>
    have HN := Lib.hid (none_digits HTL.out hd)
    have HD := Lib.hid hd
    clear hd
    rw [HN.out]
    go_enter Tryd.func45, Tryd.ntmps45
    go_wp2_with fail
    rw [← HTT.out]
    refine (spec_IsDigits t w (by unfold maxLen; omega)).mono ?_
    rintro e w1 ⟨rfl, rfl⟩
    rw [HD.out]
    go_wp2
    go_ret2
    exact ⟨rfl, Below.refl _ _⟩
  | true =>
    have HD := Lib.hid hd
    clear hd
    by_cases hl : t.size ≤ 19
    · go_enter Tryd.func45, Tryd.ntmps45
      go_wp2_with fail
      rw [← HTT.out]
      refine (spec_IsDigits t w (by unfold maxLen; omega)).mono ?_
      rintro e w1 ⟨rfl, rfl⟩
      rw [HD.out]
      go_wp2
      go_loop [6, 7] (fun n i => ∃ (k : Nat) (a : Int), k ≤ t.size ∧ i = .int .i64 k ∧ n = .int .i64 a ∧ Hid (a = -(valTo t k : Int)) ∧ a ≤ 0 ∧ -9223372036854775808 ≤ a) (fun _ i => t.size - (intOf i).toNat)
      case atStart => exact ⟨0, 0, Nat.zero_le _, rfl, rfl, Lib.hid (by rw [valTo_zero]; rfl), by omega, by omega⟩
      case round =>
        obtain ⟨k, a, hk, rfl, rfl, HA, ha0, ha1⟩ := hrel
        by_cases hlt : k < t.size
        · have hc := digits_at HD.out k hlt
          have hc1 : 48 ≤ (t[k].toNat : Int) := by omega
          have hc2 : (t[k].toNat : Int) ≤ 57 := by omega
          have HV := Lib.hid (valTo_succ t k hlt)
          clear hc
          go_wp2
          · have hov : a < (-9223372036854775808 + ((t[k].toNat : Int) - 48)).tdiv 10 := by assumption
            have h9 := over_cut hc1 hc2 hov
            have HN := none_big HTL.out (k + 1) (by have := HV.out; have := HA.out; omega)
            go_ret2
            exact ⟨by rw [HN]; rfl, Below.refl _ _⟩
          · have hun : (-9223372036854775808 + ((t[k].toNat : Int) - 48)).tdiv 10 ≤ a := by assumption
            have h9 := under_cut hc1 hc2 hun
            have h10 := wraps_cut hc1 hc2 ha0 h9
            go_round
            case rel => exact ⟨k + 1, a * 10 - ((t[k].toNat : Int) - 48), by omega, by go_num, by rw [h10], Lib.hid (by have := HV.out; have := HA.out; omega), by omega, h9⟩
            case measure => simp [intOf]; omega
        · have hks : k = t.size := by omega
          have hra : Hid (a = (if true then -(valTo t t.size : Int) else (valTo t t.size : Int))) := Lib.hid (by have := HA.out; rw [hks] at this; simp; omega)
          by_cases htx : numB a = s
          · have hsame := same_text htx
            have HP := Lib.hid (htx ▸ parse_numB a (by omega) (by omega))
            clear htx
            go_wp2_with fail
            refine (spec_FormatInt a _ (by omega) (by omega)).mono ?_
            rintro e w2 ⟨rfl, b2⟩
            go_wp2
            go_ret2
            exact ⟨by rw [HP.out]; rfl, b2⟩
          · have hoth := other_text htx
            have HN := Lib.hid (last_no HTL.out a hra.out htx)
            clear htx
            go_wp2_with fail
            refine (spec_FormatInt a _ (by omega) (by omega)).mono ?_
            rintro e w2 ⟨rfl, b2⟩
            go_wp2
            go_ret2
            exact ⟨by rw [HN.out]; rfl, b2⟩
    · have HN := Lib.hid (none_long HTL.out (by omega))
      rw [HN.out]
      go_enter Tryd.func45, Tryd.ntmps45
      go_wp2_with fail
      rw [← HTT.out]
      refine (spec_IsDigits t w (by unfold maxLen; omega)).mono ?_
      rintro e w1 ⟨rfl, rfl⟩
      rw [HD.out]
      go_wp2
      go_ret2
      exact ⟨rfl, Below.refl _ _⟩

theorem spec_ParseInt (s : ByteArray) (w : World) (hs : s.size ≤ 1048576) :
    Calls Tryd.prog 45 #[.string s] w fun e w' => e = .returned (.tuple #[.int .i64 ((parseOf s).getD 0), .bool (parseOf s).isSome]) ∧ Below w.heap.size w w' := by
  by_cases h0 : 0 < s.size
  · by_cases h45 : s[0].toNat = 45
    · exact spec_ParseInt_neg s w hs h0 h45
    · exact spec_ParseInt_pos s w hs (.inr ⟨h0, h45⟩)
  · exact spec_ParseInt_pos s w hs (.inl (by omega))

end Go.Proofs.YtfeechnlliaocaaDoor
