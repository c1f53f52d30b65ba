/-
  WALKS of spec.l07State, spec.LabelState.
  WALK of spec.WithoutLiteral.
  WALK of spec.JoinLabels.
  WALKS of slices.Min and slices.Max at []int.
  WALKS of the program: literals, LabelOk, ValuesOk, CountValues, ImpliesLabel.
  WALKS of the program: a literal's state, LabelState.
  WALK of impl.WithoutLiteral.
-/
import Derived.Test.YtaokabkffnjbjaaDoorBdDig
import Derived.Deep.AppendLies
import Derived.Deep.CutRange
namespace Go.Proofs.YtaokabkffnjbjaaDoor
open Go.RowKit
set_option linter.unusedVariables false
set_option linter.unusedSimpArgs false

end Go.Proofs.YtaokabkffnjbjaaDoor

namespace Go.Proofs.YtaokabkffnjbjaaDoor
open Go.RowKit
set_option linter.unusedVariables false
set_option linter.unusedSimpArgs false

end Go.Proofs.YtaokabkffnjbjaaDoor

namespace Go.Proofs.YtaokabkffnjbjaaDoor
open Go.RowKit
set_option linter.unusedVariables false
set_option linter.unusedSimpArgs false

end Go.Proofs.YtaokabkffnjbjaaDoor

namespace Go.Proofs.YtaokabkffnjbjaaDoor
open Go.RowKit
set_option linter.unusedVariables false
set_option linter.unusedSimpArgs false
/-- The least and the greatest of the first elements. -/
def minL (ts : List Int) : Nat → Int
  | 0 => ts[0]?.getD 0
  | j + 1 => if ts[j + 1]?.getD 0 < minL ts j then ts[j + 1]?.getD 0 else minL ts j
def maxL (ts : List Int) : Nat → Int
  | 0 => ts[0]?.getD 0
  | j + 1 => if maxL ts j < ts[j + 1]?.getD 0 then ts[j + 1]?.getD 0 else maxL ts j
theorem minL_iff (ts : List Int) (b : Int) : ∀ j, b ≤ minL ts j ↔ ∀ i, i ≤ j → b ≤ ts[i]?.getD 0
  | 0 => ⟨fun h i hi => by obtain rfl : i = 0 := by omega
                           exact h, fun h => h 0 (Nat.le_refl _)⟩
  | j + 1 => by
    have ih := minL_iff ts b j
    unfold minL
    constructor
    · intro h i hi
      have h1 : b ≤ minL ts j ∧ b ≤ ts[j + 1]?.getD 0 := by split at h <;> omega
      by_cases e : i = j + 1
      · subst e; exact h1.2
      · exact ih.1 h1.1 i (by omega)
    · intro h
      have h1 := ih.2 (fun i hi => h i (by omega))
      have h2 := h (j + 1) (Nat.le_refl _)
      split <;> omega
theorem maxL_iff (ts : List Int) (b : Int) : ∀ j, maxL ts j < b ↔ ∀ i, i ≤ j → ts[i]?.getD 0 < b
  | 0 => ⟨fun h i hi => by obtain rfl : i = 0 := by omega
                           exact h, fun h => h 0 (Nat.le_refl _)⟩
  | j + 1 => by
    have ih := maxL_iff ts b j
    unfold maxL
    constructor
    · intro h i hi
      have h1 : maxL ts j < b ∧ ts[j + 1]?.getD 0 < b := by split at h <;> omega
      by_cases e : i = j + 1
      · subst e; exact h1.2
      · exact ih.1 h1.1 i (by omega)
    · intro h
      have h1 := ih.2 (fun i hi => h i (by omega))
      have h2 := h (j + 1) (Nat.le_refl _)
      split <;> omega

set_option maxRecDepth 100000 in
set_option maxHeartbeats 4000000 in
theorem slices_Min_int (ts : List Int) (T : Option Addr) (m d : Nat) (w : World) (hl : ts.length = m) (h0 : 0 < m) (h8 : m ≤ 8) (ht : RowAt w T (ts.map intV)) :
    Calls Tryd.prog 32 #[.slice T m d] w fun e w' => e = .returned (.int .i64 (minL ts (m - 1))) ∧ w' = w := by
  have HT := Lib.hid ht
  have HL := Lib.hid hl
  obtain ⟨g, o, rfl, hg, hc⟩ := row_getB ht (q := 0) (by omega)
  rw [Nat.add_zero] at hc
  obtain ⟨x0, hx0⟩ : ∃ x, x = ts[0]'(by omega) := ⟨_, rfl⟩
  rw [← hx0] at hc
  have HX0 := Lib.hid (show minL ts 0 = x0 from by unfold minL; rw [hx0, List.getElem?_eq_getElem (by omega)]; rfl)
  clear hx0 hl ht
  have hlt : ¬ ((m : Int) < 1) := by omega
  go_enter Tryd.func32, Tryd.ntmps32
  go_wp2_with fail
  go_loopw [4, 3] (fun ii q wr => ∃ (j : Nat) (x : Int), j + 1 ≤ m ∧ ii = .int .i64 ((j : Int) + 1) ∧ q = .int .i64 x ∧ x = minL ts j ∧ wr = w) (fun ii _ _ => m - (intOf ii).toNat)
  case atStart => exact ⟨0, x0, by omega, rfl, rfl, HX0.out.symm, rfl⟩
  case round =>
    obtain ⟨j, x, hj, rfl, rfl, hx, hw⟩ := hrel
    obtain rfl : w = wr := hw.symm
    have HX := Lib.hid hx
    clear hx hw
    by_cases hlt : j + 1 < m
    · obtain ⟨g2, o2, hT, hg2, hc2⟩ := row_getB HT.out (q := j + 1) (by have := HL.out; omega)
      injection hT with hT
      injection hT with h4 h5
      subst h4 h5
      obtain ⟨y, hy⟩ : ∃ y, y = ts[j + 1]'(by have := HL.out; omega) := ⟨_, rfl⟩
      rw [← hy] at hc2
      have HY := Lib.hid (show ts[j + 1]?.getD 0 = y from by rw [hy, List.getElem?_eq_getElem (by have := HL.out; omega)]; rfl)
      clear hy
      have hj1 : ((j : Int) + 1) < (m : Int) := by omega
      have hj0 : (0 : Int) ≤ (j : Int) + 1 := by omega
      have hjt : ((j : Int) + 1).toNat = j + 1 := by omega
      by_cases hyx : y < x
      · have HN := Lib.hid (show y = minL ts (j + 1) from by unfold minL; rw [HY.out, ← HX.out, if_pos hyx])
        go_wp2_with fail
        go_roundw
        case rel => exact ⟨j + 1, y, by omega, by first | go_num | (simp; done) | (congr 1; omega), by first | rfl | trivial, HN.out, by first | rfl | trivial⟩
        case measure => simp [intOf]; omega
      · have HN := Lib.hid (show x = minL ts (j + 1) from by unfold minL; rw [HY.out, ← HX.out, if_neg hyx])
        go_wp2_with fail
        go_roundw
        case rel => exact ⟨j + 1, x, by omega, by first | go_num | (simp; done) | (congr 1; omega), by first | rfl | trivial, HN.out, by first | rfl | trivial⟩
        case measure => simp [intOf]; omega
    · have hjm : ¬ ((j : Int) + 1 < (m : Int)) := by omega
      go_wp2_with fail
      go_ret
      exact ⟨int_ans (by rw [HX.out, show j = m - 1 from by omega]), rfl⟩

set_option maxRecDepth 100000 in
set_option maxHeartbeats 4000000 in
theorem slices_Max_int (ts : List Int) (T : Option Addr) (m d : Nat) (w : World) (hl : ts.length = m) (h0 : 0 < m) (h8 : m ≤ 8) (ht : RowAt w T (ts.map intV)) :
    Calls Tryd.prog 33 #[.slice T m d] w fun e w' => e = .returned (.int .i64 (maxL ts (m - 1))) ∧ w' = w := by
  have HT := Lib.hid ht
  have HL := Lib.hid hl
  obtain ⟨g, o, rfl, hg, hc⟩ := row_getB ht (q := 0) (by omega)
  rw [Nat.add_zero] at hc
  obtain ⟨x0, hx0⟩ : ∃ x, x = ts[0]'(by omega) := ⟨_, rfl⟩
  rw [← hx0] at hc
  have HX0 := Lib.hid (show maxL ts 0 = x0 from by unfold maxL; rw [hx0, List.getElem?_eq_getElem (by omega)]; rfl)
  clear hx0 hl ht
  have hlt : ¬ ((m : Int) < 1) := by omega
  go_enter Tryd.func33, Tryd.ntmps33
  go_wp2_with fail
  go_loopw [4, 3] (fun ii q wr => ∃ (j : Nat) (x : Int), j + 1 ≤ m ∧ ii = .int .i64 ((j : Int) + 1) ∧ q = .int .i64 x ∧ x = maxL ts j ∧ wr = w) (fun ii _ _ => m - (intOf ii).toNat)
  case atStart => exact ⟨0, x0, by omega, rfl, rfl, HX0.out.symm, rfl⟩
  case round =>
    obtain ⟨j, x, hj, rfl, rfl, hx, hw⟩ := hrel
    obtain rfl : w = wr := hw.symm
    have HX := Lib.hid hx
    clear hx hw
    by_cases hlt : j + 1 < m
    · obtain ⟨g2, o2, hT, hg2, hc2⟩ := row_getB HT.out (q := j + 1) (by have := HL.out; omega)
      injection hT with hT
      injection hT with h4 h5
      subst h4 h5
      obtain ⟨y, hy⟩ : ∃ y, y = ts[j + 1]'(by have := HL.out; omega) := ⟨_, rfl⟩
      rw [← hy] at hc2
      have HY := Lib.hid (show ts[j + 1]?.getD 0 = y from by rw [hy, List.getElem?_eq_getElem (by have := HL.out; omega)]; rfl)
      clear hy
      have hj1 : ((j : Int) + 1) < (m : Int) := by omega
      have hj0 : (0 : Int) ≤ (j : Int) + 1 := by omega
      have hjt : ((j : Int) + 1).toNat = j + 1 := by omega
      by_cases hyx : x < y
      · have HN := Lib.hid (show y = maxL ts (j + 1) from by unfold maxL; rw [HY.out, ← HX.out, if_pos hyx])
        go_wp2_with fail
        go_roundw
        case rel => exact ⟨j + 1, y, by omega, by first | go_num | (simp; done) | (congr 1; omega), by first | rfl | trivial, HN.out, by first | rfl | trivial⟩
        case measure => simp [intOf]; omega
      · have HN := Lib.hid (show x = maxL ts (j + 1) from by unfold maxL; rw [HY.out, ← HX.out, if_neg hyx])
        go_wp2_with fail
        go_roundw
        case rel => exact ⟨j + 1, x, by omega, by first | go_num | (simp; done) | (congr 1; omega), by first | rfl | trivial, HN.out, by first | rfl | trivial⟩
        case measure => simp [intOf]; omega
    · have hjm : ¬ ((j : Int) + 1 < (m : Int)) := by omega
      go_wp2_with fail
      go_ret
      exact ⟨int_ans (by rw [HX.out, show j = m - 1 from by omega]), rfl⟩

theorem val_form {v : List Int} (hl : v.length = 3) : valR v = (decide (-1 ≤ minL v 2) && decide (maxL v 2 ≤ 1)) := by
  unfold valR
  rw [decide_eq_true hl, Bool.and_true, Bool.eq_iff_iff, List.all_eq_true, Bool.and_eq_true, decide_eq_true_eq, decide_eq_true_eq, minL_iff, show maxL v 2 ≤ 1 ↔ maxL v 2 < 2 from by omega, maxL_iff]
  constructor
  · intro h
    have h3 : ∀ i, i ≤ 2 → -1 ≤ v[i]?.getD 0 ∧ v[i]?.getD 0 ≤ 1 := by
      intro i hi
      have h4 := h (v[i]'(by omega)) (List.getElem_mem _)
      unfold valB at h4
      rw [Bool.and_eq_true, decide_eq_true_eq, decide_eq_true_eq] at h4
      rw [List.getElem?_eq_getElem (by omega)]
      exact h4
    exact ⟨fun i hi => (h3 i hi).1, fun i hi => by have := (h3 i hi).2; omega⟩
  · rintro ⟨h2, h3⟩ x hx
    obtain ⟨i, hi, rfl⟩ := List.getElem_of_mem hx
    have h4 := h2 i (by omega)
    have h5 := h3 i (by omega)
    rw [List.getElem?_eq_getElem hi, Option.getD_some] at h4 h5
    unfold valB
    rw [decide_eq_true h4, decide_eq_true (by omega)]; rfl

end Go.Proofs.YtaokabkffnjbjaaDoor

namespace Go.Proofs.YtaokabkffnjbjaaDoor
open Go.RowKit
set_option linter.unusedVariables false
set_option linter.unusedSimpArgs false

set_option maxRecDepth 100000 in
set_option maxHeartbeats 4000000 in
theorem lit_lw (x : Int) (w : World) : Calls Tryd.prog 28 #[.int .i64 x] w fun e w' => e = .returned (.bool (litB x)) ∧ w = w' := by
  by_cases h1 : -3 ≤ x
  · by_cases h2 : x ≤ 3
    · by_cases h3 : x = 0
      · have h4 : (x != 0) = false := by simp [h3]
        have HV := Lib.hid (show litB x = false from by unfold litB; rw [decide_eq_false (by omega)]; rfl)
        clear h3
        go_enter Tryd.func28, Tryd.ntmps28
        go_wp2_with fail
        go_ret
        exact ⟨ret_b HV.out.symm, rfl⟩
      · have h4 : (x != 0) = true := by simp [h3]
        have HV := Lib.hid (show litB x = true from by unfold litB; rw [decide_eq_true h3, decide_eq_true h1, decide_eq_true h2]; rfl)
        clear h3
        go_enter Tryd.func28, Tryd.ntmps28
        go_wp2_with fail
        go_ret
        exact ⟨ret_b HV.out.symm, rfl⟩
    · have HV := Lib.hid (show litB x = false from by unfold litB; rw [decide_eq_false h2, Bool.and_false, Bool.and_false])
      go_enter Tryd.func28, Tryd.ntmps28
      go_wp2_with fail
      go_ret
      exact ⟨ret_b HV.out.symm, rfl⟩
  · have HV := Lib.hid (show litB x = false from by unfold litB; rw [decide_eq_false h1, Bool.false_and, Bool.and_false])
    go_enter Tryd.func28, Tryd.ntmps28
    go_wp2_with fail
    go_ret
    exact ⟨ret_b HV.out.symm, rfl⟩

set_option maxRecDepth 100000 in
set_option maxHeartbeats 4000000 in
theorem prop_lw (x : Int) (h : -3 ≤ x ∧ x ≤ 3) (w : World) : Calls Tryd.prog 29 #[.int .i64 x] w fun e w' => e = .returned (.int .i64 (absI x)) ∧ w = w' := by
  rcases Int.lt_trichotomy x 0 with h0 | h0 | h0
  · have h1 : x < -x := by omega
    have h2 : ¬ (-x < x) := by omega
    have h3 : x ≤ -x := by omega
    go_enter Tryd.func29, Tryd.ntmps29
    go_wp2
    go_ret
    exact ⟨int_ans (by unfold absI; first | omega | (split <;> omega)), rfl⟩
  · subst h0
    go_enter Tryd.func29, Tryd.ntmps29
    go_wp2
    go_ret
    exact ⟨int_ans (by unfold absI; first | omega | (split <;> omega)), rfl⟩
  · have h1 : -x < x := by omega
    have h2 : ¬ (x < -x) := by omega
    have h3 : ¬ (x ≤ -x) := by omega
    go_enter Tryd.func29, Tryd.ntmps29
    go_wp2
    go_ret
    exact ⟨int_ans (by unfold absI; first | omega | (split <;> omega)), rfl⟩

/-- The proposition of the literal before. -/
def lastP (l : List Int) : Nat → Int
  | 0 => 0
  | j + 1 => absI (l[j]?.getD 0)
theorem lab_last {l : List Int} {j : Nat} {x : Int} (h : litB x = true) : labS l j x = decide (lastP l j < absI x) := by
  have hab := litB_abs h
  unfold labS
  rw [h, Bool.true_and]
  cases j with
  | zero => rw [decide_eq_true rfl, Bool.true_or]; show true = decide ((0 : Int) < absI x); rw [decide_eq_true (by omega)]
  | succ j => rw [decide_eq_false (by omega), Bool.false_or]; rfl
theorem lastP_next {l : List Int} {j : Nat} : lastP l (j + 1) = absI (l[j]?.getD 0) := rfl

set_option maxRecDepth 100000 in
set_option maxHeartbeats 4000000 in
theorem impl_LabelOkB (l : List Int) (A : Option Addr) (k c : Nat) (w : World) (hl : l.length = k) (hm : k ≤ 2097152) (hr : RowAt w A (l.map intV)) : Calls Tryd.prog 9 #[.slice A k c] w fun e w' => e = .returned (.bool (labR l)) ∧ w = w' := by
  have HR := Lib.hid hr
  have HL := Lib.hid hl
  clear hr hl
  go_enter Tryd.func9, Tryd.ntmps9
  go_wp2_with fail
  go_loopw [9, 3] (fun i s wr => ∃ (j : Nat) (z : Int), j ≤ k ∧ i = .int .i64 j ∧ s = .int .i64 z ∧ z = lastP l j ∧ labJ l j = true ∧ wr = w) (fun i _ _ => k - (intOf i).toNat)
  case atStart => exact ⟨0, 0, Nat.zero_le _, rfl, rfl, rfl, rfl, rfl⟩
  case round =>
    obtain ⟨j, z, hj, rfl, rfl, hz, hall, hw⟩ := hrel
    obtain rfl : w = wr := hw.symm
    have HA := Lib.hid hall
    have HZ := Lib.hid hz
    clear hall hw hz
    by_cases hlt : j < k
    · have hjl : ((j : Int) < (k : Int)) := by omega
      obtain ⟨g, o, rfl, hg, hc⟩ := row_getB HR.out (q := j) (by have := HL.out; omega)
      obtain ⟨x, hx⟩ : ∃ x, x = l[j]'(by have := HL.out; omega) := ⟨_, rfl⟩
      have hxd : l[j]?.getD 0 = x := by rw [hx, List.getElem?_eq_getElem (by have := HL.out; omega)]; rfl
      rw [← hx] at hc
      have HNO := Lib.hid (fun (h : labS l j x = false) => show labR l = false from by unfold labR; exact labJ_no (j := j + 1) (by rw [labJ_next, hxd, h, Bool.and_false]) (by have := HL.out; omega))
      have HYES := Lib.hid (fun (h : labS l j x = true) => show labJ l (j + 1) = true from by rw [labJ_next, hxd, h, HA.out]; rfl)
      have hla := lastP_next (l := l) (j := j)
      rw [hxd] at hla
      have h0 := lit_lw x
      obtain ⟨b, hb⟩ : ∃ b, b = litB x := ⟨_, rfl⟩
      rw [← hb] at h0
      have H0 := Lib.hid h0
      have HB := Lib.hid hb.symm
      have HLA := Lib.hid hla
      clear hx hxd h0 hb hla
      cases b with
      | false =>
        have HV := Lib.hid (HNO.out (by unfold labS; rw [HB.out, Bool.false_and]))
        go_wp2_with fail
        refine (H0.out _).mono ?_
        rintro e w2 ⟨rfl, rfl⟩
        go_wp2_with fail
        go_ret
        exact ⟨ret_b HV.out.symm, rfl⟩
      | true =>
        have hx3 : -3 ≤ x ∧ x ≤ 3 := by have := litB_of HB.out; omega
        have ha := lab_last (l := l) (j := j) HB.out
        rw [← HZ.out] at ha
        have hpx := prop_lw x hx3
        obtain ⟨r, hr⟩ : ∃ r, r = absI x := ⟨_, rfl⟩
        rw [← hr] at hpx ha
        have HPX := Lib.hid hpx
        have HAS := Lib.hid ha
        have HRX := Lib.hid hr
        clear hpx ha hr
        by_cases hpr : z < r
        · have hge : ¬ (r ≤ z) := by omega
          have HV := Lib.hid (HYES.out (by rw [HAS.out]; exact decide_eq_true hpr))
          go_wp2_with fail
          refine (H0.out _).mono ?_
          rintro e w2 ⟨rfl, hw2⟩
          subst hw2
          go_wp2_with fail
          refine (HPX.out _).mono ?_
          rintro e w3 ⟨rfl, hw3⟩
          subst hw3
          go_wp2_with fail
          refine (HPX.out _).mono ?_
          rintro e w4 ⟨rfl, hw4⟩
          subst hw4
          go_wp2_with fail
          go_roundw
          case rel => exact ⟨j + 1, r, by omega, by go_num, rfl, by rw [HLA.out]; exact HRX.out, HV.out, by first | rfl | trivial⟩
          case measure => simp [intOf]; omega
        · have hge : r ≤ z := by omega
          have HV := Lib.hid (HNO.out (by rw [HAS.out]; exact decide_eq_false hpr))
          go_wp2_with fail
          refine (H0.out _).mono ?_
          rintro e w2 ⟨rfl, hw2⟩
          subst hw2
          go_wp2_with fail
          refine (HPX.out _).mono ?_
          rintro e w3 ⟨rfl, hw3⟩
          subst hw3
          go_wp2_with fail
          go_ret
          exact ⟨ret_b HV.out.symm, rfl⟩
    · have hjl : ¬ ((j : Int) < (k : Int)) := by omega
      go_wp2_with fail
      go_ret
      exact ⟨ret_b (by unfold labR; have := HA.out; rw [show j = l.length from by have := HL.out; omega] at this; exact this.symm), rfl⟩

theorem impl_LabelOk0 (l : List Int) (A : Option Addr) (k c : Nat) (w : World) (hl : l.length = k) (hm : k ≤ 1048576) (hr : RowAt w A (l.map intV)) : Calls Tryd.prog 9 #[.slice A k c] w fun e w' => e = .returned (.bool (labR l)) ∧ w = w' := impl_LabelOkB l A k c w hl (by omega) hr

set_option maxRecDepth 100000 in
set_option maxHeartbeats 4000000 in
theorem index_lw (n : Int) (l : List Int) (A : Option Addr) (k c : Nat) (w : World) (hl : l.length = k) (hm : k ≤ 1048576) (hr : RowAt w A (l.map intV)) : Calls Tryd.prog 57 #[.slice A k c, .int .i64 n] w fun e w' => ∃ r : Int, e = .returned (.int .i64 r) ∧ decide (0 ≤ r) = hasR l n ∧ w = w' := by
  have HR := Lib.hid hr
  have HL := Lib.hid hl
  clear hr hl
  go_enter Tryd.func57, Tryd.ntmps57
  go_wp2_with fail
  go_loopw [8] (fun i wr => ∃ j : Nat, j ≤ k ∧ i = .int .i64 j ∧ (l.take j).any (fun x => decide (x = n)) = false ∧ wr = w) (fun i _ => k - (intOf i).toNat)
  case atStart => exact ⟨0, Nat.zero_le _, rfl, rfl, rfl⟩
  case round =>
    obtain ⟨j, hj, rfl, hall, hw⟩ := hrel
    obtain rfl : w = wr := hw.symm
    have HA := Lib.hid hall
    clear hall hw
    by_cases hlt : j < k
    · have hjl : ((j : Int) < (k : Int)) := by omega
      obtain ⟨g, o, rfl, hg, hc⟩ := row_getB HR.out (q := j) (by have := HL.out; omega)
      have HK1 := Lib.hid (anyH_take (l := l) (n := n) (j := j) (by have := HL.out; omega) HA.out)
      have HK2 := Lib.hid (hasR_at (l := l) (n := n) (j := j) (by have := HL.out; omega))
      obtain ⟨x, hx⟩ : ∃ x, x = l[j]'(by have := HL.out; omega) := ⟨_, rfl⟩
      rw [← hx] at hc HK1 HK2
      clear hx
      by_cases hxn : x = n
      · have hxb : (n == x) = true := by simp [hxn]
        have HV := Lib.hid (HK2.out hxn)
        clear hxn
        go_wp2_with fail
        go_ret
        exact ⟨_, rfl, by rw [HV.out]; exact decide_eq_true (by omega), rfl⟩
      · have hxb : (n == x) = false := by rw [beq_eq_false_iff_ne]; exact fun h => hxn h.symm
        have HV := Lib.hid (HK1.out hxn)
        clear hxn
        go_wp2_with fail
        go_roundw
        case rel => exact ⟨j + 1, by omega, by go_num, HV.out, by first | rfl | trivial⟩
        case measure => simp [intOf]; omega
    · have hjl : ¬ ((j : Int) < (k : Int)) := by omega
      have HV := Lib.hid (hasR_none (n := n) (by have := HA.out; rw [show j = l.length from by have := HL.out; omega] at this; exact this))
      go_wp2_with fail
      go_ret
      exact ⟨_, rfl, by rw [HV.out]; rfl, rfl⟩

set_option maxRecDepth 100000 in
set_option maxHeartbeats 4000000 in
theorem contains_lw (n : Int) (l : List Int) (A : Option Addr) (k c : Nat) (w : World) (hl : l.length = k) (hm : k ≤ 1048576) (hr : RowAt w A (l.map intV)) : Calls Tryd.prog 50 #[.slice A k c, .int .i64 n] w fun e w' => e = .returned (.bool (hasR l n)) ∧ w = w' := by
  have H0 := Lib.hid (index_lw n l A k c w hl hm hr)
  clear hl hr
  go_enter Tryd.func50, Tryd.ntmps50
  go_wp2_with fail
  refine H0.out.mono ?_
  rintro e w2 ⟨r, rfl, h, hw2⟩
  subst hw2
  have HH := Lib.hid h
  clear h
  by_cases h0 : 0 ≤ r
  · go_wp2_with fail
    go_ret
    exact ⟨ret_b (by first | exact HH.out | (rw [← HH.out]; exact (decide_eq_true (by omega)).symm)), rfl⟩
  · go_wp2_with fail
    go_ret
    exact ⟨ret_b (by first | exact HH.out | (rw [← HH.out]; exact (decide_eq_false (by omega)).symm)), rfl⟩

set_option maxRecDepth 100000 in
set_option maxHeartbeats 4000000 in
theorem has_lw (n : Int) (l : List Int) (A : Option Addr) (k c : Nat) (w : World) (hl : l.length = k) (hm : k ≤ 1048576) (hr : RowAt w A (l.map intV)) : Calls Tryd.prog 30 #[.int .i64 n, .slice A k c] w fun e w' => e = .returned (.bool (hasR l n)) ∧ w = w' := by
  have H0 := Lib.hid (contains_lw n l A k c w hl hm hr)
  clear hl hr
  go_enter Tryd.func30, Tryd.ntmps30
  go_wp2_with fail
  refine H0.out.mono ?_
  rintro e w2 ⟨rfl, hw2⟩
  subst hw2
  go_wp2_with fail
  go_ret
  exact ⟨rfl, rfl⟩

set_option maxRecDepth 100000 in
set_option maxHeartbeats 4000000 in
theorem impl_ValuesOk0 (l : List Int) (A : Option Addr) (k c : Nat) (w : World) (hl : l.length = k) (hm : k ≤ 1048576) (hr : RowAt w A (l.map intV)) : Calls Tryd.prog 13 #[.slice A k c] w fun e w' => e = .returned (.bool (valR l)) ∧ w = w' := by
  by_cases hk : k = 3
  · have h1 := slices_Min_int l A k c w hl (by omega) (by omega) hr
    have h2 := slices_Max_int l A k c w hl (by omega) (by omega) hr
    have hv := val_form (v := l) (by omega)
    rw [show (2 : Nat) = k - 1 from by omega] at hv
    obtain ⟨x, hx⟩ : ∃ x, x = minL l (k - 1) := ⟨_, rfl⟩
    obtain ⟨y, hy⟩ : ∃ x, x = maxL l (k - 1) := ⟨_, rfl⟩
    rw [← hx] at h1 hv
    rw [← hy] at h2 hv
    have H1 := Lib.hid h1
    have H2 := Lib.hid h2
    have HV := Lib.hid hv
    clear h1 h2 hv hx hy hl hr
    have hk3 : ((k : Int) == 3) = true := by simp; omega
    clear hk
    by_cases hx : -1 ≤ x
    · by_cases hy : y ≤ 1
      · go_enter Tryd.func13, Tryd.ntmps13
        go_wp2_with fail
        refine H1.out.mono ?_
        rintro e w2 ⟨rfl, hw2⟩
        subst hw2
        go_wp2_with fail
        refine H2.out.mono ?_
        rintro e w3 ⟨rfl, hw3⟩
        subst hw3
        go_wp2_with fail
        go_ret
        exact ⟨ret_b (by rw [HV.out, decide_eq_true hx, decide_eq_true hy]; rfl), rfl⟩
      · go_enter Tryd.func13, Tryd.ntmps13
        go_wp2_with fail
        refine H1.out.mono ?_
        rintro e w2 ⟨rfl, hw2⟩
        subst hw2
        go_wp2_with fail
        refine H2.out.mono ?_
        rintro e w3 ⟨rfl, hw3⟩
        subst hw3
        go_wp2_with fail
        go_ret
        exact ⟨ret_b (by rw [HV.out, decide_eq_true hx, Bool.true_and]; first | done | (exact (decide_eq_false (by omega)).symm)), rfl⟩
    · go_enter Tryd.func13, Tryd.ntmps13
      go_wp2_with fail
      refine H1.out.mono ?_
      rintro e w2 ⟨rfl, hw2⟩
      subst hw2
      go_wp2_with fail
      go_ret
      exact ⟨ret_b (by rw [HV.out, decide_eq_false (by omega), Bool.false_and]), rfl⟩
  · have HV := Lib.hid (show valR l = false from by unfold valR; rw [decide_eq_false (by omega), Bool.and_false])
    have hk3 : ((k : Int) == 3) = false := by simp; omega
    clear hl hr hk
    go_enter Tryd.func13, Tryd.ntmps13
    go_wp2_with fail
    go_ret
    exact ⟨ret_b HV.out.symm, rfl⟩

set_option maxRecDepth 100000 in
set_option maxHeartbeats 4000000 in
theorem impl_CountValues0 (l : List Int) (A : Option Addr) (k c : Nat) (w : World) (hl : l.length = k) (hm : k ≤ 1048576) (hr : RowAt w A (l.map intV)) : Calls Tryd.prog 14 #[.slice A k c] w fun e w' => e = .returned (.int .i64 (czR l)) ∧ w = w' := by
  have HT := Lib.hid hr
  have HL := Lib.hid hl
  clear hr hl
  go_enter Tryd.func14, Tryd.ntmps14
  go_wp2_with fail
  go_loopw [8, 3] (fun i q wr => ∃ (j : Nat) (z : Int), j ≤ k ∧ i = .int .i64 j ∧ q = .int .i64 z ∧ z = czR (l.take j) ∧ wr = w) (fun i _ _ => k - (intOf i).toNat)
  case atStart => exact ⟨0, 0, Nat.zero_le _, rfl, rfl, rfl, rfl⟩
  case round =>
    obtain ⟨j, z, hj, rfl, rfl, hz, hw⟩ := hrel
    obtain rfl : w = wr := hw.symm
    have hzr := cz_le l j
    rw [← hz] at hzr
    have HZ := Lib.hid hz
    clear hz hw
    by_cases hlt : j < k
    · obtain ⟨g, o, rfl, hg, hc⟩ := row_getB HT.out (q := j) (by have := HL.out; omega)
      have hnx := cz_next (ts := l) (j := j) (List.getElem?_eq_getElem (by have := HL.out; omega))
      obtain ⟨y, hy⟩ : ∃ y, y = l[j]'(by have := HL.out; omega) := ⟨_, rfl⟩
      rw [← hy] at hc hnx
      have HX := Lib.hid hnx
      clear hnx hy
      by_cases hy1 : y = 0
      · have hyb : (y == 0) = true := by simp [hy1]
        have HY := Lib.hid hy1
        clear hy1
        go_wp2_with fail
        go_roundw
        case rel => exact ⟨j + 1, z + 1, by omega, by go_num, by first | rfl | (simp; done) | (congr 1; omega), by rw [HX.out, if_pos HY.out, HZ.out], by first | rfl | trivial⟩
        case measure => simp [intOf]; omega
      · have hyb : (y == 0) = false := by simp [hy1]
        have HY := Lib.hid hy1
        clear hy1
        go_wp2_with fail
        go_roundw
        case rel => exact ⟨j + 1, z, by omega, by go_num, by first | rfl | trivial, by rw [HX.out, if_neg HY.out, HZ.out, Int.add_zero], by first | rfl | trivial⟩
        case measure => simp [intOf]; omega
    · go_wp2_with fail
      go_ret
      exact ⟨int_ans (by rw [HZ.out, List.take_of_length_le (by have := HL.out; omega)]), rfl⟩

set_option maxRecDepth 100000 in
set_option maxHeartbeats 4000000 in
theorem impl_ImpliesLabel0 (a b : List Int) (A : Option Addr) (k c : Nat) (B : Option Addr) (m d : Nat) (w : World) (hl : a.length = k) (hm : k ≤ 1048576) (hlb : b.length = m) (hmb : m ≤ 1048576) (hr : RowAt w A (a.map intV)) (hrb : RowAt w B (b.map intV)) : Calls Tryd.prog 10 #[.slice A k c, .slice B m d] w fun e w' => e = .returned (.bool (impR a b)) ∧ w = w' := by
  have HOA := Lib.hid (impl_LabelOk0 a A k c w hl hm hr)
  have HOB := Lib.hid (impl_LabelOk0 b B m d w hlb hmb hrb)
  have HHA := Lib.hid (fun n => has_lw n a A k c w hl hm hr)
  have HR := Lib.hid hrb
  have HL := Lib.hid hlb
  clear hr hrb hl hlb
  obtain ⟨b1, hb1⟩ : ∃ x, x = labR a := ⟨_, rfl⟩
  obtain ⟨b2, hb2⟩ : ∃ x, x = labR b := ⟨_, rfl⟩
  rw [← hb1] at HOA
  rw [← hb2] at HOB
  have H1 := Lib.hid hb1.symm
  have H2 := Lib.hid hb2.symm
  clear hb1 hb2
  cases b1 with
  | false =>
    go_enter Tryd.func10, Tryd.ntmps10
    go_wp2_with fail
    refine HOA.out.mono ?_
    rintro e w1 ⟨rfl, rfl⟩
    go_wp2_with fail
    go_ret
    exact ⟨ret_b (by unfold impR; rw [H1.out]; rfl), rfl⟩
  | true =>
    cases b2 with
    | false =>
      go_enter Tryd.func10, Tryd.ntmps10
      go_wp2_with fail
      refine HOA.out.mono ?_
      rintro e w1 ⟨rfl, rfl⟩
      go_wp2_with fail
      refine HOB.out.mono ?_
      rintro e w1 ⟨rfl, rfl⟩
      go_wp2_with fail
      go_ret
      exact ⟨ret_b (by unfold impR; rw [H1.out, H2.out]; rfl), rfl⟩
    | true =>
      go_enter Tryd.func10, Tryd.ntmps10
      go_wp2_with fail
      refine HOA.out.mono ?_
      rintro e w1 ⟨rfl, hw1⟩
      subst hw1
      go_wp2_with fail
      refine HOB.out.mono ?_
      rintro e w1 ⟨rfl, hw1⟩
      subst hw1
      go_wp2_with fail
      go_loopw [17] (fun i wr => ∃ j : Nat, j ≤ m ∧ i = .int .i64 j ∧ (b.take j).all (hasR a) = true ∧ wr = w) (fun i _ => m - (intOf i).toNat)
      case atStart => exact ⟨0, Nat.zero_le _, rfl, rfl, rfl⟩
      case round =>
        obtain ⟨j, hj, rfl, hall, hw⟩ := hrel
        obtain rfl : w = wr := hw.symm
        have HA := Lib.hid hall
        clear hall hw
        by_cases hlt : j < m
        · have hjl : ((j : Int) < (m : Int)) := by omega
          obtain ⟨g, o, rfl, hg, hc⟩ := row_getB HR.out (q := j) (by have := HL.out; omega)
          have HK1 := Lib.hid (allI2_take_of a b j (by have := HL.out; omega) HA.out)
          have HK2 := Lib.hid (impR_not (a := a) (b := b) (k := j) (by have := HL.out; omega))
          obtain ⟨x, hx⟩ : ∃ x, x = b[j]'(by have := HL.out; omega) := ⟨_, rfl⟩
          rw [← hx] at hc HK1 HK2
          have hh := HHA.out x
          obtain ⟨t, ht⟩ : ∃ t, t = hasR a x := ⟨_, rfl⟩
          rw [← ht] at hh HK1 HK2
          have HH := Lib.hid hh
          clear hx ht hh
          cases t with
          | false =>
            go_wp2_with fail
            refine HH.out.mono ?_
            rintro e w1 ⟨rfl, rfl⟩
            go_wp2_with fail
            go_ret
            exact ⟨ret_b (HK2.out (by simp)).symm, rfl⟩
          | true =>
            go_wp2_with fail
            refine HH.out.mono ?_
            rintro e w1 ⟨rfl, hw1⟩
            subst hw1
            go_wp2_with fail
            go_roundw
            case rel => exact ⟨j + 1, by omega, by go_num, HK1.out (by simp), by first | rfl | trivial⟩
            case measure => simp [intOf]; omega
        · have hjl : ¬ ((j : Int) < (m : Int)) := by omega
          go_wp2_with fail
          go_ret
          exact ⟨ret_b (by unfold impR; rw [H1.out, H2.out]; have := HA.out; rw [List.take_of_length_le (by have := HL.out; omega)] at this; rw [this]; rfl), rfl⟩

theorem impl_LabelOk (l : List Int) (A : Option Addr) (k c : Nat) (w : World) (hl : l.length = k) (hm : k ≤ 1048576) (hr : RowAt w A (l.map intV)) : Calls Tryd.prog 9 #[.slice A k c] w fun e w' => e = .returned (.bool (labR l)) ∧ Below w.heap.size w w' :=
  (impl_LabelOk0 l A k c w hl hm hr).mono fun e w' ⟨h1, h2⟩ => ⟨h1, by subst h2; exact Below.refl _ _⟩

theorem impl_ValuesOk (l : List Int) (A : Option Addr) (k c : Nat) (w : World) (hl : l.length = k) (hm : k ≤ 1048576) (hr : RowAt w A (l.map intV)) : Calls Tryd.prog 13 #[.slice A k c] w fun e w' => e = .returned (.bool (valR l)) ∧ Below w.heap.size w w' :=
  (impl_ValuesOk0 l A k c w hl hm hr).mono fun e w' ⟨h1, h2⟩ => ⟨h1, by subst h2; exact Below.refl _ _⟩

theorem impl_CountValues (l : List Int) (A : Option Addr) (k c : Nat) (w : World) (hl : l.length = k) (hm : k ≤ 1048576) (hr : RowAt w A (l.map intV)) : Calls Tryd.prog 14 #[.slice A k c] w fun e w' => e = .returned (.int .i64 (czR l)) ∧ Below w.heap.size w w' :=
  (impl_CountValues0 l A k c w hl hm hr).mono fun e w' ⟨h1, h2⟩ => ⟨h1, by subst h2; exact Below.refl _ _⟩

theorem impl_ImpliesLabel (a b : List Int) (A : Option Addr) (k c : Nat) (B : Option Addr) (m d : Nat) (w : World) (hl : a.length = k) (hm : k ≤ 1048576) (hlb : b.length = m) (hmb : m ≤ 1048576) (hr : RowAt w A (a.map intV)) (hrb : RowAt w B (b.map intV)) : Calls Tryd.prog 10 #[.slice A k c, .slice B m d] w fun e w' => e = .returned (.bool (impR a b)) ∧ Below w.heap.size w w' :=
  (impl_ImpliesLabel0 a b A k c B m d w hl hm hlb hmb hr hrb).mono fun e w' ⟨h1, h2⟩ => ⟨h1, by subst h2; exact Below.refl _ _⟩

end Go.Proofs.YtaokabkffnjbjaaDoor

namespace Go.Proofs.YtaokabkffnjbjaaDoor
open Go.RowKit
set_option linter.unusedVariables false
set_option linter.unusedSimpArgs false

theorem litV_neg {v : List Int} {x : Int} (h : x < 0) : litV v x = -(litV v (-x)) := by
  unfold litV absI
  rw [if_pos h, if_pos h, if_neg (by omega), if_neg (by omega)]
set_option maxRecDepth 100000 in
set_option maxHeartbeats 4000000 in
theorem st_pos (x : Int) (l : List Int) (A : Option Addr) (k c : Nat) (w : World) (hx : 1 ≤ x ∧ x ≤ 3) (hl : l.length = k) (hv : valR l = true) (hr : RowAt w A (l.map intV)) : Calls Tryd.prog 31 #[.int .i64 x, .slice A k c] w fun e w' => e = .returned (.int .i64 (litV l x)) ∧ w = w' := by
  obtain ⟨h3, hrg⟩ := valR_ok hv
  obtain ⟨q, hq⟩ : ∃ q : Nat, x = (q : Int) + 1 := ⟨(x - 1).toNat, by omega⟩
  have hlv : litV l x = l[q]?.getD 0 := by unfold litV absI; rw [if_neg (by omega), if_neg (by omega), show (x - 1).toNat = q by omega]
  subst hq
  have hq3 : q < 3 := by omega
  obtain ⟨g2, o2, rfl, hg2, hc2⟩ := row_getB hr (q := q) (by omega)
  obtain ⟨y, hy⟩ : ∃ y, y = l[q]'(by omega) := ⟨_, rfl⟩
  rw [← hy] at hc2
  have hyd : l[q]?.getD 0 = y := by rw [hy, List.getElem?_eq_getElem (by omega)]; rfl
  rw [hyd] at hlv
  have HLV := Lib.hid hlv
  have hqq : (q : Int) + 1 - 1 = (q : Int) := by omega
  have iq0 : (0 : Int) ≤ (q : Int) := by omega
  have iq1 : (q : Int) < (k : Int) := by omega
  have hn : ¬ ((q : Int) + 1 < 0) := by omega
  clear hyd hlv hy hr hrg hv
  go_enter Tryd.func31, Tryd.ntmps31
  go_wp2_with fail
  go_ret
  exact ⟨int_ans HLV.out.symm, rfl⟩

set_option maxRecDepth 100000 in
set_option maxHeartbeats 4000000 in
theorem st_lw (x : Int) (l : List Int) (A : Option Addr) (k c : Nat) (w : World) (hx : litB x = true) (hl : l.length = k) (hv : valR l = true) (hr : RowAt w A (l.map intV)) : Calls Tryd.prog 31 #[.int .i64 x, .slice A k c] w fun e w' => e = .returned (.int .i64 (litV l x)) ∧ w = w' := by
  have h3 := litB_of hx
  by_cases h0 : x < 0
  · have hp := st_pos (-x) l A k c w (by omega) hl hv hr
    have hn := litV_neg (v := l) h0
    have hy : litB (-x) = true := by unfold litB; rw [decide_eq_true (by omega), decide_eq_true (by omega), decide_eq_true (by omega)]; rfl
    have hrg := litV_rng hv hy
    obtain ⟨y, hyy⟩ : ∃ y, y = litV l (-x) := ⟨_, rfl⟩
    rw [← hyy] at hp hn hrg
    have HP := Lib.hid hp
    have HN := Lib.hid hn
    clear hp hn hy hyy hx hl hv hr
    go_enter Tryd.func31, Tryd.ntmps31
    go_wp2_with fail
    refine HP.out.mono ?_
    rintro e w2 ⟨rfl, hw2⟩
    subst hw2
    go_wp2_with fail
    go_ret
    exact ⟨int_ans HN.out.symm, rfl⟩
  · exact st_pos x l A k c w (by omega) hl hv hr

theorem stN_next {l v : List Int} {j : Nat} : stJ l v (j + 1) = min (stJ l v j) (litV v (l[j]?.getD 0)) := rfl

set_option maxRecDepth 100000 in
set_option maxHeartbeats 4000000 in
theorem impl_LabelState0 (a b : List Int) (A : Option Addr) (k c : Nat) (B : Option Addr) (m d : Nat) (w : World) (hl : a.length = k) (hm : k ≤ 1048576) (hlb : b.length = m) (hmb : m ≤ 1048576) (hr : RowAt w A (a.map intV)) (hrb : RowAt w B (b.map intV)) : Calls Tryd.prog 12 #[.slice A k c, .slice B m d] w fun e w' => e = .returned (.int .i64 (stR a b)) ∧ w = w' := by
  have HOA := Lib.hid (impl_LabelOk0 a A k c w hl hm hr)
  have HOB := Lib.hid (impl_ValuesOk0 b B m d w hlb hmb hrb)
  have HSL := Lib.hid (fun x hx hv => st_lw x b B m d w hx hlb hv hrb)
  have HR := Lib.hid hr
  have HL := Lib.hid hl
  clear hr hrb hl hlb
  obtain ⟨b1, hb1⟩ : ∃ x, x = labR a := ⟨_, rfl⟩
  obtain ⟨b2, hb2⟩ : ∃ x, x = valR b := ⟨_, rfl⟩
  rw [← hb1] at HOA
  rw [← hb2] at HOB
  have H1 := Lib.hid hb1.symm
  have H2 := Lib.hid hb2.symm
  clear hb1 hb2
  cases b1 with
  | false =>
    go_enter Tryd.func12, Tryd.ntmps12
    go_wp2_with fail
    refine HOA.out.mono ?_
    rintro e w1 ⟨rfl, rfl⟩
    go_wp2_with fail
    go_ret
    exact ⟨int_ans (by unfold stR; rw [H1.out]; rfl), rfl⟩
  | true =>
    cases b2 with
    | false =>
      go_enter Tryd.func12, Tryd.ntmps12
      go_wp2_with fail
      refine HOA.out.mono ?_
      rintro e w1 ⟨rfl, hw1⟩
      subst hw1
      go_wp2_with fail
      refine HOB.out.mono ?_
      rintro e w1 ⟨rfl, rfl⟩
      go_wp2_with fail
      go_ret
      exact ⟨int_ans (by unfold stR; rw [H1.out, H2.out]; rfl), rfl⟩
    | true =>
      go_enter Tryd.func12, Tryd.ntmps12
      go_wp2_with fail
      refine HOA.out.mono ?_
      rintro e w1 ⟨rfl, hw1⟩
      subst hw1
      go_wp2_with fail
      refine HOB.out.mono ?_
      rintro e w1 ⟨rfl, hw1⟩
      subst hw1
      go_wp2_with fail
      go_loopw [18, 5] (fun i s wr => ∃ (j : Nat) (z : Int), j ≤ k ∧ i = .int .i64 j ∧ s = .int .i64 z ∧ z = stJ a b j ∧ wr = w) (fun i _ _ => k - (intOf i).toNat)
      case atStart => exact ⟨0, 1, Nat.zero_le _, rfl, rfl, rfl, rfl⟩
      case round =>
        obtain ⟨j, s, hj, rfl, rfl, hs, hw⟩ := hrel
        obtain rfl : w = wr := hw.symm
        clear hw
        by_cases hlt : j < k
        · have hjl : ((j : Int) < (k : Int)) := by omega
          obtain ⟨g, o, rfl, hg, hc⟩ := row_getB HR.out (q := j) (by have := HL.out; omega)
          obtain ⟨x, hx⟩ : ∃ x, x = a[j]'(by have := HL.out; omega) := ⟨_, rfl⟩
          have hxd : a[j]?.getD 0 = x := by rw [hx, List.getElem?_eq_getElem (by have := HL.out; omega)]; rfl
          rw [← hx] at hc
          have hlit : litB x = true := labR_lit H1.out (by rw [hx]; exact List.getElem_mem _)
          have hsr := stJ_rng (l := a) (v := b) H2.out (j := j) (by
            have h := H1.out
            unfold labR at h
            cases hh : labJ a j with
            | true => rfl
            | false => rw [labJ_no hh (by have := HL.out; omega)] at h; cases h)
          rw [← hs] at hsr
          have hnx := stN_next (l := a) (v := b) (j := j)
          rw [hxd, ← hs] at hnx
          have hpx := HSL.out x hlit H2.out
          have hyr := litV_rng H2.out hlit
          obtain ⟨u, hu⟩ : ∃ u, u = litV b x := ⟨_, rfl⟩
          rw [← hu] at hnx hpx hyr
          have HNX := Lib.hid hnx
          have HPX := Lib.hid hpx
          clear hx hxd hlit hnx hpx hu hs
          rcases Int.lt_trichotomy s u with h1 | h1 | h1
          all_goals
            go_wp2_with fail
            refine HPX.out.mono ?_
            rintro e w2 ⟨rfl, hw2⟩
            subst hw2
            go_wp2_with fail
            go_roundw
            case rel => exact ⟨j + 1, _, by omega, by go_num, rfl, by rw [HNX.out]; omega, by first | rfl | trivial⟩
            case measure => simp [intOf]; omega
        · have hjl : ¬ ((j : Int) < (k : Int)) := by omega
          have HS := Lib.hid hs
          clear hs
          go_wp2_with fail
          go_ret
          exact ⟨int_ans (by unfold stR; rw [H1.out, H2.out, HS.out, show j = a.length by have := HL.out; omega]; rfl), rfl⟩

theorem impl_LabelState (a b : List Int) (A : Option Addr) (k c : Nat) (B : Option Addr) (m d : Nat) (w : World) (hl : a.length = k) (hm : k ≤ 1048576) (hlb : b.length = m) (hmb : m ≤ 1048576) (hr : RowAt w A (a.map intV)) (hrb : RowAt w B (b.map intV)) : Calls Tryd.prog 12 #[.slice A k c, .slice B m d] w fun e w' => e = .returned (.int .i64 (stR a b)) ∧ Below w.heap.size w w' :=
  (impl_LabelState0 a b A k c B m d w hl hm hlb hmb hr hrb).mono fun e w' ⟨h1, h2⟩ => ⟨h1, by subst h2; exact Below.refl _ _⟩

end Go.Proofs.YtaokabkffnjbjaaDoor

namespace Go.Proofs.YtaokabkffnjbjaaDoor
open Go.RowKit
set_option linter.unusedVariables false
set_option linter.unusedSimpArgs false

theorem heap_newW (w : World) (o : Obj) (g : Nat) (h : g = w.heap.size) : (w.alloc o).heap[g]? = some o := by rw [h]; exact heap_alloc_new w o
theorem one_c1W (a : Int) : ∀ u ∈ [Value.int .i64 a], u.oneCell' = true := fun u hu => by simp at hu; subst hu; rfl

set_option maxRecDepth 100000 in
set_option maxHeartbeats 4000000 in
theorem impl_WithoutLiteral (p : Int) (l : List Int) (A : Option Addr) (k c : Nat) (w : World) (hl : l.length = k) (hm : k ≤ 1048576) (hr : RowAt w A (l.map intV)) (hp1 : -9223372036854775808 ≤ p) (hp2 : p ≤ 9223372036854775807) :
    Calls Tryd.prog 15 #[.slice A k c, .int .i64 p] w fun e w' => ∃ B q cb, e = .returned (.slice B q cb) ∧ q = (woR l p).length ∧ w'.ownsRow w.heap.size 3 1 (.slice B q cb) q ((woR l p).map intV) ∧ Below w.heap.size w w' := by
  obtain ⟨i1, hii, hy0, hy1, hy2⟩ := info_parts Tryd.info3
  have HR := Lib.hid hr
  have HL := Lib.hid hl
  clear hr hl
  obtain ⟨np, hnp⟩ : ∃ t, t = IntKind.i64.wrap (-p) := ⟨_, rfl⟩
  have HNP := Lib.hid hnp
  have hnw : IntKind.i64.wrap (-p) = np := hnp.symm
  clear hnp hp1 hp2
  go_enter Tryd.func15, Tryd.ntmps15
  go_wp2_with fail
  go_loopw [10, 5] (fun i s wr => ∃ (j q : Nat) (A2 : Option Addr) (d2 : Nat), j ≤ k ∧ i = .int .i64 j ∧ s = .slice A2 q d2 ∧ q = (woR (l.take j) p).length ∧ wr.ownsRow w.heap.size 3 1 (.slice A2 q d2) q ((woR (l.take j) p).map intV) ∧ Below w.heap.size w wr) (fun i _ _ => k - (intOf i).toNat)
  case atStart => exact ⟨0, 0, none, 0, Nat.zero_le _, rfl, rfl, rfl, World.ownsRow_nil _ _ _ _, Below.refl _ _⟩
  case round =>
    obtain ⟨j, q, A2, d2, hj, rfl, rfl, hq, hown, hb⟩ := hrel
    have OW := Lib.hid hown
    have HB := Lib.hid hb
    have HQ := Lib.hid hq
    have hqj : q ≤ j := by rw [hq]; exact wo_len l p j
    have hbs := hb.size
    clear hown hb hq
    by_cases hlt : j < k
    · have hjl : ((j : Int) < (k : Int)) := by omega
      obtain ⟨g, o, rfl, hg, hc⟩ := row_getB HR.out (q := j) (by have := HL.out; omega)
      have hnx := wo_next (l := l) (p := p) (j := j) (List.getElem?_eq_getElem (by have := HL.out; omega))
      obtain ⟨x, hx⟩ : ∃ x, x = l[j]'(by have := HL.out; omega) := ⟨_, rfl⟩
      rw [← hx] at hc hnx
      rw [← HNP.out] at hnx
      have HNX := Lib.hid hnx
      have x1 := (HB.out.cell (p := ⟨g, o + j, none⟩) hg).trans hc
      clear hc hnx hx
      by_cases hxp : x = p
      · have hx1 : (x != p) = false := by simp [hxp]
        have HE := Lib.hid (show woR (l.take (j + 1)) p = woR (l.take j) p from by rw [HNX.out, if_neg (by rintro ⟨h, _⟩; exact h hxp), List.append_nil])
        clear hxp
        go_wp2_with fail
        go_roundw
        case rel => exact ⟨j + 1, q, A2, d2, by omega, by go_num, rfl, by rw [HE.out]; exact HQ.out, by rw [HE.out]; exact OW.out, HB.out⟩
        case measure => simp [intOf]; omega
      · have hx1 : (x != p) = true := by simp [hxp]
        by_cases hxn : x = np
        · have hx2 : (x != np) = false := by simp [hxn]
          have HE := Lib.hid (show woR (l.take (j + 1)) p = woR (l.take j) p from by rw [HNX.out, if_neg (by rintro ⟨_, h⟩; exact h hxn), List.append_nil])
          clear hxp hxn
          go_wp2_with fail
          go_roundw
          case rel => exact ⟨j + 1, q, A2, d2, by omega, by go_num, rfl, by rw [HE.out]; exact HQ.out, by rw [HE.out]; exact OW.out, HB.out⟩
          case measure => simp [intOf]; omega
        · have hx2 : (x != np) = true := by simp [hxn]
          have HE := Lib.hid (show woR (l.take (j + 1)) p = woR (l.take j) p ++ [x] from by rw [HNX.out, if_pos ⟨hxp, hxn⟩])
          clear hxp hxn
          go_wp2_with (at_builtin; refine wpList_append_lies _ rfl _ _ 23 rfl (w.heap.size) 3 i1 (.int .i64 0) 1 8 Tryd.underlying23 hii hy0 hy1 hy2 rfl (by decide) _ _ _ rfl (OW.out.alloc _) ⟨_, 0, none⟩ 1 1 _ rfl rfl (World.news_of_block (heap_newW _ _ _ (by first | rfl | simp))) (one_c1W _) (by decide) (by unfold maxLen; omega) (by omega) (by simp; omega) _ rfl ?_)
          intro g3 cap w6 ho6 hg6 hat6 hl6
          go_wp2_with fail
          go_roundw
          case rel =>
            refine ⟨j + 1, q + 1, some ⟨g3, 0, none⟩, cap, by omega, by go_num, rfl, by rw [HE.out, List.length_append, ← HQ.out]; rfl, ?_, (HB.out.alloc hbs _).grown hg6 (by simp; omega) (fun r hr => (OW.out.lt r hr).1)⟩
            rw [HE.out]; simpa [intV] using ho6
          case measure => simp [intOf]; omega
    · have hjl : ¬ ((j : Int) < (k : Int)) := by omega
      go_wp2_with fail
      go_ret
      have ht : l.take j = l := List.take_of_length_le (by have := HL.out; omega)
      have h1 := HQ.out
      have h2 := OW.out
      rw [ht] at h1 h2
      exact ⟨A2, q, d2, rfl, h1, h2, HB.out⟩

end Go.Proofs.YtaokabkffnjbjaaDoor
