/-
  WALKS of spec.l07Prop, spec.LabelOk, spec.ValuesOk, spec.CountValues, spec.l07Has, spec.ImpliesLabel.
  WALKS of spec.l07State, spec.LabelState.
  WALK of spec.WithoutLiteral.
  WALK of spec.JoinLabels.
  WALKS of slices.Min and slices.Max at []int.
-/
import Derived.Test.YtaokabkffnjbjaaBdDig
import Derived.Deep.AppendLies
import Derived.Deep.CutRange
namespace Go.Proofs.Ytaokabkffnjbjaa
open Go.RowKit
set_option linter.unusedVariables false
set_option linter.unusedSimpArgs false

theorem row_getB {w : World} {A : Option Addr} {zs : List Int} (h : RowAt w A (zs.map intV)) {q : Nat} (hq : q < zs.length) : ∃ g o, A = some ⟨g, o, none⟩ ∧ g < w.heap.size ∧ w.cell? ⟨g, o + q, none⟩ = some (.int .i64 zs[q]) := by
  obtain ⟨g, o, hA, hg, hc⟩ := h (by simp; omega)
  refine ⟨g, o, hA, hg, ?_⟩
  have := hc q (by simp; omega)
  simpa [intV] using this
set_option maxRecDepth 100000 in
set_option maxHeartbeats 4000000 in
theorem prop_any (x : Int) (h : -3 ≤ x ∧ x ≤ 3) (w : World) : Calls Try.prog 29 #[.int .i64 x] w fun e w' => e = .returned (.int .i64 (absI x)) ∧ w = w' := by
  by_cases h0 : x < 0
  · go_enter Try.func29, Try.ntmps29
    go_wp2
    go_ret
    exact ⟨int_ans (by unfold absI; rw [if_pos (by omega)]), rfl⟩
  · go_enter Try.func29, Try.ntmps29
    go_wp2
    go_ret
    exact ⟨int_ans (by unfold absI; rw [if_neg (by omega)]), rfl⟩

set_option maxRecDepth 100000 in
set_option maxHeartbeats 4000000 in
theorem spec_LabelOk (l : List Int) (A : Option Addr) (k c : Nat) (w : World) (hl : l.length = k) (hm : k ≤ 1048576) (hr : RowAt w A (l.map intV)) : Calls Try.prog 10 #[.slice A k c] w fun e w' => e = .returned (.bool (labR l)) ∧ w = w' := by
  have HR := Lib.hid hr
  have HL := Lib.hid hl
  clear hr hl
  go_enter Try.func10, Try.ntmps10
  go_wp2_with fail
  go_loopw [7] (fun i wr => ∃ j : Nat, j ≤ k ∧ i = .int .i64 j ∧ labJ l j = true ∧ wr = w) (fun i _ => k - (intOf i).toNat)
  case atStart => exact ⟨0, Nat.zero_le _, rfl, rfl, rfl⟩
  case round =>
    obtain ⟨j, hj, rfl, hall, hw⟩ := hrel
    obtain rfl : w = wr := hw.symm
    have HA := Lib.hid hall
    clear hall hw
    by_cases hlt : j < k
    · have hjl : ((j : Int) < (k : Int)) := by omega
      obtain ⟨g, o, rfl, hg, hc⟩ := row_getB HR.out (q := j) (by have := HL.out; omega)
      obtain ⟨x, hx⟩ : ∃ x, x = l[j]'(by have := HL.out; omega) := ⟨_, rfl⟩
      have hxd : l[j]?.getD 0 = x := by rw [hx, List.getElem?_eq_getElem (by have := HL.out; omega)]; rfl
      rw [← hx] at hc
      have HXD := Lib.hid hxd
      have HNO := Lib.hid (fun (h : labS l j x = false) => show labR l = false from by unfold labR; exact labJ_no (j := j + 1) (by rw [labJ_next, hxd, h, Bool.and_false]) (by have := HL.out; omega))
      have HYES := Lib.hid (fun (h : labS l j x = true) => show labJ l (j + 1) = true from by rw [labJ_next, hxd, h, HA.out]; rfl)
      clear hx hxd
      have h0 := l01In_any x (-3) 3
      obtain ⟨bi, hbi⟩ : ∃ b, b = (decide (-3 ≤ x) && decide (x ≤ 3)) := ⟨_, rfl⟩
      rw [← hbi] at h0
      have H0 := Lib.hid h0
      have HBI := Lib.hid hbi
      clear h0 hbi
      by_cases hx0 : x = 0
      · have hxb : (x == 0) = true := by simp [hx0]
        have HV := Lib.hid (HNO.out (by unfold labS litB; rw [decide_eq_false (by omega)]; rfl))
        clear hx0
        go_wp2_with fail
        go_ret
        exact ⟨ret_b HV.out.symm, rfl⟩
      · have hxb : (x == 0) = false := by simp [hx0]
        have HX0 := Lib.hid hx0
        clear hx0
        cases bi with
        | false =>
          have HV := Lib.hid (HNO.out (by unfold labS litB; rw [← HBI.out, Bool.and_false, Bool.false_and]))
          go_wp2_with fail
          refine (H0.out _).mono ?_
          rintro e w2 ⟨rfl, rfl⟩
          go_wp2_with fail
          go_ret
          exact ⟨ret_b HV.out.symm, rfl⟩
        | true =>
          have hlit : litB x = true := by unfold litB; rw [← HBI.out, decide_eq_true HX0.out]; rfl
          have hx3 : -3 ≤ x ∧ x ≤ 3 := by have := litB_of hlit; omega
          have HLT := Lib.hid hlit
          clear hlit
          by_cases hj0 : j = 0
          · have hjn : ¬ ((0 : Int) < (j : Int)) := by omega
            have HV := Lib.hid (HYES.out (by unfold labS; rw [HLT.out, decide_eq_true hj0]; rfl))
            clear hj0
            go_wp2_with fail
            refine (H0.out _).mono ?_
            rintro e w2 ⟨rfl, rfl⟩
            go_wp2_with fail
            go_roundw
            case rel => exact ⟨j + 1, by omega, by go_num, HV.out, by first | rfl | trivial⟩
            case measure => simp [intOf]; omega
          · have hjn : ((0 : Int) < (j : Int)) := by omega
            obtain ⟨q, hq⟩ : ∃ q : Nat, j = q + 1 := ⟨j - 1, by omega⟩
            have hjq : (j : Int) - 1 = (q : Int) := by omega
            have iq0 : (0 : Int) ≤ (q : Int) := by omega
            have iq1 : (q : Int) < (k : Int) := by omega
            obtain ⟨g2, o2, hT2, hg2, hc2⟩ := row_getB HR.out (q := q) (by have := HL.out; omega)
            injection hT2 with hT2
            injection hT2 with h4 h5
            subst h4 h5
            obtain ⟨y, hy⟩ : ∃ y, y = l[q]'(by have := HL.out; omega) := ⟨_, rfl⟩
            have hyd : l[j - 1]?.getD 0 = y := by rw [hy, show j - 1 = q by omega, List.getElem?_eq_getElem (by have := HL.out; omega)]; rfl
            rw [← hy] at hc2
            have hly : litB y = true := by rw [← hyd]; exact labJ_lit HA.out (by omega)
            have hy3 : -3 ≤ y ∧ y ≤ 3 := by have := litB_of hly; omega
            have ha : labS l j x = decide (absI y < absI x) := by unfold labS; rw [HLT.out, hyd, decide_eq_false hj0]; rfl
            have hpy := prop_any y hy3
            have hpx := prop_any x hx3
            obtain ⟨p, hp⟩ : ∃ p, p = absI y := ⟨_, rfl⟩
            obtain ⟨r, hr⟩ : ∃ r, r = absI x := ⟨_, rfl⟩
            rw [← hp] at hpy ha
            rw [← hr] at hpx ha
            have HPY := Lib.hid hpy
            have HPX := Lib.hid hpx
            have HAS := Lib.hid ha
            clear hy hyd hly ha hpy hpx hp hr hq hj0
            by_cases hpr : p < r
            · have hge : ¬ (r ≤ p) := by omega
              have HV := Lib.hid (HYES.out (by rw [HAS.out]; exact decide_eq_true hpr))
              go_wp2_with fail
              refine (H0.out _).mono ?_
              rintro e w2 ⟨rfl, rfl⟩
              go_wp2_with fail
              refine (HPY.out _).mono ?_
              rintro e w3 ⟨rfl, rfl⟩
              go_wp2_with fail
              refine (HPX.out _).mono ?_
              rintro e w4 ⟨rfl, rfl⟩
              go_wp2_with fail
              go_roundw
              case rel => exact ⟨j + 1, by omega, by go_num, HV.out, by first | rfl | trivial⟩
              case measure => simp [intOf]; omega
            · have hge : r ≤ p := by omega
              have HV := Lib.hid (HNO.out (by rw [HAS.out]; exact decide_eq_false hpr))
              go_wp2_with fail
              refine (H0.out _).mono ?_
              rintro e w2 ⟨rfl, rfl⟩
              go_wp2_with fail
              refine (HPY.out _).mono ?_
              rintro e w3 ⟨rfl, rfl⟩
              go_wp2_with fail
              refine (HPX.out _).mono ?_
              rintro e w4 ⟨rfl, rfl⟩
              go_wp2_with fail
              go_ret
              exact ⟨ret_b HV.out.symm, rfl⟩
    · have hjl : ¬ ((j : Int) < (k : Int)) := by omega
      go_wp2_with fail
      go_ret
      exact ⟨ret_b (by unfold labR; have := HA.out; rw [show j = l.length from by have := HL.out; omega] at this; exact this.symm), rfl⟩

set_option maxRecDepth 100000 in
set_option maxHeartbeats 4000000 in
theorem spec_ValuesOk (l : List Int) (A : Option Addr) (k c : Nat) (w : World) (hl : l.length = k) (hm : k ≤ 1048576) (hr : RowAt w A (l.map intV)) : Calls Try.prog 14 #[.slice A k c] w fun e w' => e = .returned (.bool (valR l)) ∧ w = w' := by
  have HR := Lib.hid hr
  have HL := Lib.hid hl
  clear hr hl
  have hk3 : decide ((k : Int) = 3) = decide (l.length = 3) := by rw [Bool.eq_iff_iff]; have := HL.out; simp; omega
  have hk4 : ((k : Int) == 3) = decide (l.length = 3) := by rw [Bool.eq_iff_iff]; have := HL.out; simp; omega
  obtain ⟨b3, hb3⟩ : ∃ b, b = decide (l.length = 3) := ⟨_, rfl⟩
  rw [← hb3] at hk3 hk4
  have HB3 := Lib.hid hb3
  have HK4 := Lib.hid hk4
  clear hb3 hk3 hk4
  go_enter Try.func14, Try.ntmps14
  go_wp2_with fail
  go_loopw [7] (fun i wr => ∃ j : Nat, j ≤ k ∧ i = .int .i64 j ∧ (l.take j).all valB = true ∧ wr = w) (fun i _ => k - (intOf i).toNat)
  case atStart => exact ⟨0, Nat.zero_le _, rfl, rfl, rfl⟩
  case round =>
    obtain ⟨j, hj, rfl, hall, hw⟩ := hrel
    obtain rfl : w = wr := hw.symm
    have HA := Lib.hid hall
    clear hall hw
    by_cases hlt : j < k
    · have hjl : ((j : Int) < (k : Int)) := by omega
      obtain ⟨g, o, rfl, hg, hc⟩ := row_getB HR.out (q := j) (by have := HL.out; omega)
      have HK1 := Lib.hid (allV_take_of l j (by have := HL.out; omega) HA.out)
      have HK2 := Lib.hid (valR_not (v := l) (k := j) (by have := HL.out; omega))
      obtain ⟨x, hx⟩ : ∃ x, x = l[j]'(by have := HL.out; omega) := ⟨_, rfl⟩
      rw [← hx] at hc HK1 HK2
      have h0 := l01In_any x (-1) 1
      have hb : valB x = (decide (-1 ≤ x) && decide (x ≤ 1)) := rfl
      obtain ⟨b, hbb⟩ : ∃ b, b = valB x := ⟨_, rfl⟩
      rw [← hbb] at HK1 HK2
      rw [← hb, ← hbb] at h0
      have H0 := Lib.hid h0
      clear h0 hb hbb hx
      go_wp2_with fail
      refine (H0.out _).mono ?_
      rintro e w2 ⟨rfl, rfl⟩
      cases b with
      | false =>
        go_wp2_with fail
        go_ret
        exact ⟨ret_b (HK2.out (by simp)).symm, rfl⟩
      | true =>
        go_wp2_with fail
        go_roundw
        case rel => exact ⟨j + 1, by omega, by go_num, HK1.out (by simp), by first | rfl | trivial⟩
        case measure => simp [intOf]; omega
    · have hjl : ¬ ((j : Int) < (k : Int)) := by omega
      have hk5 := HK4.out
      go_wp2_with fail
      go_ret
      exact ⟨ret_b (by rw [valR_all (by have := HA.out; rw [show j = l.length from by have := HL.out; omega] at this; exact this)]; exact HB3.out), rfl⟩

set_option maxRecDepth 100000 in
set_option maxHeartbeats 4000000 in
theorem spec_CountValues (l : List Int) (A : Option Addr) (k c : Nat) (w : World) (hl : l.length = k) (hm : k ≤ 1048576) (hr : RowAt w A (l.map intV)) : Calls Try.prog 26 #[.slice A k c] w fun e w' => e = .returned (.int .i64 (czR l)) ∧ w = w' := by
  have HT := Lib.hid hr
  have HL := Lib.hid hl
  clear hr hl
  go_enter Try.func26, Try.ntmps26
  go_wp2_with fail
  go_loopw [8, 3] (fun i q wr => ∃ (j : Nat) (z : Int), j ≤ k ∧ i = .int .i64 j ∧ q = .int .i64 z ∧ z = czR (l.take j) ∧ wr = w) (fun i _ _ => k - (intOf i).toNat)
  case atStart => exact ⟨0, 0, Nat.zero_le _, rfl, rfl, rfl, rfl⟩
  case round =>
    obtain ⟨j, z, hj, rfl, rfl, hz, hw⟩ := hrel
    obtain rfl : w = wr := hw.symm
    have hzr := cz_le l j
    rw [← hz] at hzr
    have HZ := Lib.hid hz
    clear hz hw
    by_cases hlt : j < k
    · obtain ⟨g, o, rfl, hg, hc⟩ := row_getB HT.out (q := j) (by have := HL.out; omega)
      have hnx := cz_next (ts := l) (j := j) (List.getElem?_eq_getElem (by have := HL.out; omega))
      obtain ⟨y, hy⟩ : ∃ y, y = l[j]'(by have := HL.out; omega) := ⟨_, rfl⟩
      rw [← hy] at hc hnx
      have HX := Lib.hid hnx
      clear hnx hy
      by_cases hy1 : y = 0
      · have hyb : (y == 0) = true := by simp [hy1]
        have HY := Lib.hid hy1
        clear hy1
        go_wp2_with fail
        go_roundw
        case rel => exact ⟨j + 1, z + 1, by omega, by go_num, by first | rfl | (simp; done) | (congr 1; omega), by rw [HX.out, if_pos HY.out, HZ.out], by first | rfl | trivial⟩
        case measure => simp [intOf]; omega
      · have hyb : (y == 0) = false := by simp [hy1]
        have HY := Lib.hid hy1
        clear hy1
        go_wp2_with fail
        go_roundw
        case rel => exact ⟨j + 1, z, by omega, by go_num, by first | rfl | trivial, by rw [HX.out, if_neg HY.out, HZ.out, Int.add_zero], by first | rfl | trivial⟩
        case measure => simp [intOf]; omega
    · go_wp2_with fail
      go_ret
      exact ⟨int_ans (by rw [HZ.out, List.take_of_length_le (by have := HL.out; omega)]), rfl⟩

set_option maxRecDepth 100000 in
set_option maxHeartbeats 4000000 in
theorem has_any (n : Int) (l : List Int) (A : Option Addr) (k c : Nat) (w : World) (hl : l.length = k) (hm : k ≤ 1048576) (hr : RowAt w A (l.map intV)) : Calls Try.prog 36 #[.slice A k c, .int .i64 n] w fun e w' => e = .returned (.bool (hasR l n)) ∧ w = w' := by
  have HR := Lib.hid hr
  have HL := Lib.hid hl
  clear hr hl
  go_enter Try.func36, Try.ntmps36
  go_wp2_with fail
  go_loopw [9] (fun i wr => ∃ j : Nat, j ≤ k ∧ i = .int .i64 j ∧ (l.take j).any (fun x => decide (x = n)) = false ∧ wr = w) (fun i _ => k - (intOf i).toNat)
  case atStart => exact ⟨0, Nat.zero_le _, rfl, rfl, rfl⟩
  case round =>
    obtain ⟨j, hj, rfl, hall, hw⟩ := hrel
    obtain rfl : w = wr := hw.symm
    have HA := Lib.hid hall
    clear hall hw
    by_cases hlt : j < k
    · have hjl : ((j : Int) < (k : Int)) := by omega
      obtain ⟨g, o, rfl, hg, hc⟩ := row_getB HR.out (q := j) (by have := HL.out; omega)
      have HK1 := Lib.hid (anyH_take (l := l) (n := n) (j := j) (by have := HL.out; omega) HA.out)
      have HK2 := Lib.hid (hasR_at (l := l) (n := n) (j := j) (by have := HL.out; omega))
      obtain ⟨x, hx⟩ : ∃ x, x = l[j]'(by have := HL.out; omega) := ⟨_, rfl⟩
      rw [← hx] at hc HK1 HK2
      clear hx
      by_cases hxn : x = n
      · have hxb : (x == n) = true := by simp [hxn]
        have HV := Lib.hid (HK2.out hxn)
        clear hxn
        go_wp2_with fail
        go_ret
        exact ⟨ret_b HV.out.symm, rfl⟩
      · have hxb : (x == n) = false := by simp [hxn]
        have HV := Lib.hid (HK1.out hxn)
        clear hxn
        go_wp2_with fail
        go_roundw
        case rel => exact ⟨j + 1, by omega, by go_num, HV.out, by first | rfl | trivial⟩
        case measure => simp [intOf]; omega
    · have hjl : ¬ ((j : Int) < (k : Int)) := by omega
      go_wp2_with fail
      go_ret
      exact ⟨ret_b (hasR_none (by have := HA.out; rw [show j = l.length from by have := HL.out; omega] at this; exact this)).symm, rfl⟩

set_option maxRecDepth 100000 in
set_option maxHeartbeats 4000000 in
theorem spec_ImpliesLabel (a b : List Int) (A : Option Addr) (k c : Nat) (B : Option Addr) (m d : Nat) (w : World) (hl : a.length = k) (hm : k ≤ 1048576) (hlb : b.length = m) (hmb : m ≤ 1048576) (hr : RowAt w A (a.map intV)) (hrb : RowAt w B (b.map intV)) : Calls Try.prog 22 #[.slice A k c, .slice B m d] w fun e w' => e = .returned (.bool (impR a b)) ∧ w = w' := by
  have HOA := Lib.hid (spec_LabelOk a A k c w hl hm hr)
  have HOB := Lib.hid (spec_LabelOk b B m d w hlb hmb hrb)
  have HHA := Lib.hid (fun n => has_any n a A k c w hl hm hr)
  have HR := Lib.hid hrb
  have HL := Lib.hid hlb
  clear hr hrb hl hlb
  obtain ⟨b1, hb1⟩ : ∃ x, x = labR a := ⟨_, rfl⟩
  obtain ⟨b2, hb2⟩ : ∃ x, x = labR b := ⟨_, rfl⟩
  rw [← hb1] at HOA
  rw [← hb2] at HOB
  have H1 := Lib.hid hb1.symm
  have H2 := Lib.hid hb2.symm
  clear hb1 hb2
  cases b1 with
  | false =>
    go_enter Try.func22, Try.ntmps22
    go_wp2_with fail
    refine HOA.out.mono ?_
    rintro e w1 ⟨rfl, rfl⟩
    go_wp2_with fail
    go_ret
    exact ⟨ret_b (by unfold impR; rw [H1.out]; rfl), rfl⟩
  | true =>
    cases b2 with
    | false =>
      go_enter Try.func22, Try.ntmps22
      go_wp2_with fail
      refine HOA.out.mono ?_
      rintro e w1 ⟨rfl, rfl⟩
      go_wp2_with fail
      refine HOB.out.mono ?_
      rintro e w1 ⟨rfl, rfl⟩
      go_wp2_with fail
      go_ret
      exact ⟨ret_b (by unfold impR; rw [H1.out, H2.out]; rfl), rfl⟩
    | true =>
      go_enter Try.func22, Try.ntmps22
      go_wp2_with fail
      refine HOA.out.mono ?_
      rintro e w1 ⟨rfl, hw1⟩
      subst hw1
      go_wp2_with fail
      refine HOB.out.mono ?_
      rintro e w1 ⟨rfl, hw1⟩
      subst hw1
      go_wp2_with fail
      go_loopw [17] (fun i wr => ∃ j : Nat, j ≤ m ∧ i = .int .i64 j ∧ (b.take j).all (hasR a) = true ∧ wr = w) (fun i _ => m - (intOf i).toNat)
      case atStart => exact ⟨0, Nat.zero_le _, rfl, rfl, rfl⟩
      case round =>
        obtain ⟨j, hj, rfl, hall, hw⟩ := hrel
        obtain rfl : w = wr := hw.symm
        have HA := Lib.hid hall
        clear hall hw
        by_cases hlt : j < m
        · have hjl : ((j : Int) < (m : Int)) := by omega
          obtain ⟨g, o, rfl, hg, hc⟩ := row_getB HR.out (q := j) (by have := HL.out; omega)
          have HK1 := Lib.hid (allI2_take_of a b j (by have := HL.out; omega) HA.out)
          have HK2 := Lib.hid (impR_not (a := a) (b := b) (k := j) (by have := HL.out; omega))
          obtain ⟨x, hx⟩ : ∃ x, x = b[j]'(by have := HL.out; omega) := ⟨_, rfl⟩
          rw [← hx] at hc HK1 HK2
          have hh := HHA.out x
          obtain ⟨t, ht⟩ : ∃ t, t = hasR a x := ⟨_, rfl⟩
          rw [← ht] at hh HK1 HK2
          have HH := Lib.hid hh
          clear hx ht hh
          cases t with
          | false =>
            go_wp2_with fail
            refine HH.out.mono ?_
            rintro e w1 ⟨rfl, rfl⟩
            go_wp2_with fail
            go_ret
            exact ⟨ret_b (HK2.out (by simp)).symm, rfl⟩
          | true =>
            go_wp2_with fail
            refine HH.out.mono ?_
            rintro e w1 ⟨rfl, hw1⟩
            subst hw1
            go_wp2_with fail
            go_roundw
            case rel => exact ⟨j + 1, by omega, by go_num, HK1.out (by simp), by first | rfl | trivial⟩
            case measure => simp [intOf]; omega
        · have hjl : ¬ ((j : Int) < (m : Int)) := by omega
          go_wp2_with fail
          go_ret
          exact ⟨ret_b (by unfold impR; rw [H1.out, H2.out]; have := HA.out; rw [List.take_of_length_le (by have := HL.out; omega)] at this; rw [this]; rfl), rfl⟩

end Go.Proofs.Ytaokabkffnjbjaa

namespace Go.Proofs.Ytaokabkffnjbjaa
open Go.RowKit
set_option linter.unusedVariables false
set_option linter.unusedSimpArgs false

theorem stJ_next {l v : List Int} {j : Nat} : stJ l v (j + 1) = min (stJ l v j) (litV v (l[j]?.getD 0)) := rfl
set_option maxRecDepth 100000 in
set_option maxHeartbeats 4000000 in
theorem state_any (a b : List Int) (A : Option Addr) (k c : Nat) (B : Option Addr) (m d : Nat) (w : World) (hl : a.length = k) (hlb : b.length = m) (hr : RowAt w A (a.map intV)) (hrb : RowAt w B (b.map intV)) (ha : labR a = true) (hb : valR b = true) :
    Calls Try.prog 34 #[.slice A k c, .slice B m d] w fun e w' => e = .returned (.int .i64 (stJ a b a.length)) ∧ w = w' := by
  have HR := Lib.hid hr
  have HL := Lib.hid hl
  have HRB := Lib.hid hrb
  have HLB := Lib.hid hlb
  have HLA := Lib.hid ha
  have HVB := Lib.hid hb
  have hk3 : k ≤ 3 := by have := labR_len ha; omega
  have hm3 : m = 3 := by have := (valR_ok hb).1; omega
  have hm3' : (3 : Int) ≤ (m : Int) := by omega
  have HM3 := Lib.hid hm3
  clear hr hl hrb hlb ha hb hm3
  go_enter Try.func34, Try.ntmps34
  go_wp2_with fail
  go_loopw [11, 5] (fun i s wr => ∃ (j : Nat) (z : Int), j ≤ k ∧ i = .int .i64 j ∧ s = .int .i64 z ∧ z = stJ a b j ∧ wr = w) (fun i _ _ => k - (intOf i).toNat)
  case atStart => exact ⟨0, 1, Nat.zero_le _, rfl, rfl, rfl, rfl⟩
  case round =>
    obtain ⟨j, s, hj, rfl, rfl, hs, hw⟩ := hrel
    obtain rfl : w = wr := hw.symm
    clear hw
    by_cases hlt : j < k
    · have hjl : ((j : Int) < (k : Int)) := by omega
      obtain ⟨g, o, rfl, hg, hc⟩ := row_getB HR.out (q := j) (by have := HL.out; omega)
      obtain ⟨x, hx⟩ : ∃ x, x = a[j]'(by have := HL.out; omega) := ⟨_, rfl⟩
      have hxd : a[j]?.getD 0 = x := by rw [hx, List.getElem?_eq_getElem (by have := HL.out; omega)]; rfl
      rw [← hx] at hc
      have hlit : litB x = true := labR_lit HLA.out (by rw [hx]; exact List.getElem_mem _)
      have hx3 : -3 ≤ x ∧ x ≤ 3 := by have := litB_of hlit; omega
      have hab := litB_abs hlit
      have hsr := stJ_rng (l := a) (v := b) HVB.out (j := j) (by
        have h := HLA.out
        unfold labR at h
        cases hh : labJ a j with
        | true => rfl
        | false => rw [labJ_no hh (by have := HL.out; omega)] at h; cases h)
      rw [← hs] at hsr
      have hnx := stJ_next (l := a) (v := b) (j := j)
      rw [hxd, ← hs] at hnx
      have hpx := prop_any x hx3
      obtain ⟨q, hq⟩ : ∃ q : Nat, absI x = (q : Int) + 1 := ⟨(absI x - 1).toNat, by omega⟩
      have hlv : litV b x = if x < 0 then -(b[q]?.getD 0) else b[q]?.getD 0 := by unfold litV; rw [show (absI x - 1).toNat = q by omega]
      rw [hlv] at hnx
      rw [hq] at hpx
      have hq3 : q < 3 := by omega
      obtain ⟨g2, o2, rfl, hg2, hc2⟩ := row_getB HRB.out (q := q) (by have := HLB.out; have := HM3.out; omega)
      obtain ⟨y, hy⟩ : ∃ y, y = b[q]'(by have := HLB.out; have := HM3.out; omega) := ⟨_, rfl⟩
      rw [← hy] at hc2
      have hyr : -1 ≤ y ∧ y ≤ 1 := (valR_ok HVB.out).2 y (by rw [hy]; exact List.getElem_mem _)
      have hyd : b[q]?.getD 0 = y := by rw [hy, List.getElem?_eq_getElem (by have := HLB.out; have := HM3.out; omega)]; rfl
      rw [hyd] at hnx
      have HNX := Lib.hid hnx
      have HPX := Lib.hid hpx
      have hqq : (q : Int) + 1 - 1 = (q : Int) := by omega
      have iq0 : (0 : Int) ≤ (q : Int) := by omega
      have iq1 : (q : Int) < (m : Int) := by omega
      clear hx hxd hlit hab hnx hpx hq hlv hy hyd hs
      by_cases hx0 : x < 0
      · have HX0 := Lib.hid hx0
        obtain ⟨u, hu⟩ : ∃ u, u = -y := ⟨_, rfl⟩
        have hur : -1 ≤ u ∧ u ≤ 1 := by omega
        rcases Int.lt_trichotomy s u with h1 | h1 | h1
        all_goals
          have HV : Hid (stJ a b (j + 1) = min s (-y)) := Lib.hid (by rw [HNX.out, if_pos HX0.out])
          subst hu
          go_wp2_with fail
          refine (HPX.out _).mono ?_
          rintro e w2 ⟨rfl, hw2⟩
          subst hw2
          go_wp2_with fail
          go_roundw
          case rel => exact ⟨j + 1, _, by omega, by go_num, rfl, by rw [HV.out]; omega, by first | rfl | trivial⟩
          case measure => simp [intOf]; omega
      · have hx0' : ¬ (x < 0) := hx0
        have HX0 := Lib.hid hx0'
        rcases Int.lt_trichotomy s y with h1 | h1 | h1
        all_goals
          have HV : Hid (stJ a b (j + 1) = min s y) := Lib.hid (by rw [HNX.out, if_neg HX0.out])
          go_wp2_with fail
          refine (HPX.out _).mono ?_
          rintro e w2 ⟨rfl, hw2⟩
          subst hw2
          go_wp2_with fail
          go_roundw
          case rel => exact ⟨j + 1, _, by omega, by go_num, rfl, by rw [HV.out]; omega, by first | rfl | trivial⟩
          case measure => simp [intOf]; omega
    · have hjl : ¬ ((j : Int) < (k : Int)) := by omega
      have HS := Lib.hid hs
      clear hs
      go_wp2_with fail
      go_ret
      exact ⟨int_ans (by rw [HS.out, show j = a.length by have := HL.out; omega]), rfl⟩

set_option maxRecDepth 100000 in
set_option maxHeartbeats 4000000 in
theorem spec_LabelState (a b : List Int) (A : Option Addr) (k c : Nat) (B : Option Addr) (m d : Nat) (w : World) (hl : a.length = k) (hm : k ≤ 1048576) (hlb : b.length = m) (hmb : m ≤ 1048576) (hr : RowAt w A (a.map intV)) (hrb : RowAt w B (b.map intV)) : Calls Try.prog 16 #[.slice A k c, .slice B m d] w fun e w' => e = .returned (.int .i64 (stR a b)) ∧ w = w' := by
  have HOA := Lib.hid (spec_LabelOk a A k c w hl hm hr)
  have HOB := Lib.hid (spec_ValuesOk b B m d w hlb hmb hrb)
  have HST := Lib.hid (fun h1 h2 => state_any a b A k c B m d w hl hlb hr hrb h1 h2)
  clear hr hrb hl hlb
  obtain ⟨b1, hb1⟩ : ∃ x, x = labR a := ⟨_, rfl⟩
  obtain ⟨b2, hb2⟩ : ∃ x, x = valR b := ⟨_, rfl⟩
  rw [← hb1] at HOA HST
  rw [← hb2] at HOB HST
  have H1 := Lib.hid hb1.symm
  have H2 := Lib.hid hb2.symm
  clear hb1 hb2
  cases b1 with
  | false =>
    go_enter Try.func16, Try.ntmps16
    go_wp2_with fail
    refine HOA.out.mono ?_
    rintro e w1 ⟨rfl, rfl⟩
    go_wp2_with fail
    go_ret
    exact ⟨int_ans (by unfold stR; rw [H1.out]; rfl), rfl⟩
  | true =>
    cases b2 with
    | false =>
      go_enter Try.func16, Try.ntmps16
      go_wp2_with fail
      refine HOA.out.mono ?_
      rintro e w1 ⟨rfl, rfl⟩
      go_wp2_with fail
      refine HOB.out.mono ?_
      rintro e w1 ⟨rfl, rfl⟩
      go_wp2_with fail
      go_ret
      exact ⟨int_ans (by unfold stR; rw [H1.out, H2.out]; rfl), rfl⟩
    | true =>
      have HS2 := Lib.hid (HST.out rfl rfl)
      clear HST
      go_enter Try.func16, Try.ntmps16
      go_wp2_with fail
      refine HOA.out.mono ?_
      rintro e w1 ⟨rfl, hw1⟩
      subst hw1
      go_wp2_with fail
      refine HOB.out.mono ?_
      rintro e w1 ⟨rfl, hw1⟩
      subst hw1
      go_wp2_with fail
      refine HS2.out.mono ?_
      rintro e w1 ⟨rfl, rfl⟩
      go_wp2_with fail
      go_ret
      exact ⟨int_ans (by unfold stR; rw [H1.out, H2.out]; rfl), rfl⟩

end Go.Proofs.Ytaokabkffnjbjaa

namespace Go.Proofs.Ytaokabkffnjbjaa
open Go.RowKit
set_option linter.unusedVariables false
set_option linter.unusedSimpArgs false

theorem own_empB {W : World} {B s : Nat} {t : TypeId} (b : Nat) (hB : B ≤ b) (h : W.heap[b]? = some (.cells #[] t (0, 0))) : W.ownsRow B t s (.slice (some ⟨b, 0, none⟩) 0 0) 0 [] :=
  ⟨by simp, .inr ⟨b, 0, #[], rfl, hB, h, Nat.le_refl _, Nat.zero_le _, by simp, by simp⟩⟩
theorem heap_newB (w : World) (o : Obj) (g : Nat) (h : g = w.heap.size) : (w.alloc o).heap[g]? = some o := by rw [h]; exact heap_alloc_new w o
theorem one_c1B (a : Int) : ∀ u ∈ [Value.int .i64 a], u.oneCell' = true := fun u hu => by simp at hu; subst hu; rfl
set_option maxRecDepth 100000 in
set_option maxHeartbeats 4000000 in
theorem spec_WithoutLiteral (p : Int) (l : List Int) (A : Option Addr) (k c : Nat) (w : World) (hl : l.length = k) (hm : k ≤ 1048576) (hr : RowAt w A (l.map intV)) (hp1 : -9223372036854775808 ≤ p) (hp2 : p ≤ 9223372036854775807) :
    Calls Try.prog 24 #[.slice A k c, .int .i64 p] w fun e w' => ∃ B q cb, e = .returned (.slice B q cb) ∧ q = (woR l p).length ∧ w'.ownsRow w.heap.size 3 1 (.slice B q cb) q ((woR l p).map intV) ∧ Below w.heap.size w w' := by
  obtain ⟨i1, hii, hy0, hy1, hy2⟩ := info_parts Try.info3
  have HR := Lib.hid hr
  have HL := Lib.hid hl
  clear hr hl
  obtain ⟨np, hnp⟩ : ∃ t, t = IntKind.i64.wrap (-p) := ⟨_, rfl⟩
  have HNP := Lib.hid hnp
  have hnw : IntKind.i64.wrap (-p) = np := hnp.symm
  clear hnp hp1 hp2
  go_enter Try.func24, Try.ntmps24
  obtain ⟨wa, hwa⟩ : ∃ W, W = w.alloc (.cells #[] 3) := ⟨_, rfl⟩
  have ba : Below w.heap.size w wa := by rw [hwa]; exact (Below.refl _ _).alloc (Nat.le_refl _) _
  have OA : Hid (wa.ownsRow w.heap.size 3 1 (.slice (some ⟨w.heap.size, 0, none⟩) 0 0) 0 ((woR (l.take 0) p).map intV)) := Lib.hid (own_empB w.heap.size (Nat.le_refl _) (by rw [hwa]; exact heap_alloc_new _ _))
  have BA := Lib.hid ba
  go_upto_region 2 with (fail)
  rw [← hwa]
  clear hwa ba
  go_wp2_with fail
  go_loopw [11, 5] (fun i s wr => ∃ (j q : Nat) (A2 : Option Addr) (d2 : Nat), j ≤ k ∧ i = .int .i64 j ∧ s = .slice A2 q d2 ∧ q = (woR (l.take j) p).length ∧ wr.ownsRow w.heap.size 3 1 (.slice A2 q d2) q ((woR (l.take j) p).map intV) ∧ Below w.heap.size w wr) (fun i _ _ => k - (intOf i).toNat)
  case atStart => exact ⟨0, 0, _, _, Nat.zero_le _, rfl, rfl, rfl, OA.out, BA.out⟩
  case round =>
    obtain ⟨j, q, A2, d2, hj, rfl, rfl, hq, hown, hb⟩ := hrel
    have OW := Lib.hid hown
    have HB := Lib.hid hb
    have HQ := Lib.hid hq
    have hqj : q ≤ j := by rw [hq]; exact wo_len l p j
    have hbs := hb.size
    clear hown hb hq
    by_cases hlt : j < k
    · have hjl : ((j : Int) < (k : Int)) := by omega
      obtain ⟨g, o, rfl, hg, hc⟩ := row_getB HR.out (q := j) (by have := HL.out; omega)
      have hnx := wo_next (l := l) (p := p) (j := j) (List.getElem?_eq_getElem (by have := HL.out; omega))
      obtain ⟨x, hx⟩ : ∃ x, x = l[j]'(by have := HL.out; omega) := ⟨_, rfl⟩
      rw [← hx] at hc hnx
      rw [← HNP.out] at hnx
      have HNX := Lib.hid hnx
      have x1 := (HB.out.cell (p := ⟨g, o + j, none⟩) hg).trans hc
      clear hc hnx hx
      by_cases hxp : x = p
      · have hx1 : (x != p) = false := by simp [hxp]
        have HE := Lib.hid (show woR (l.take (j + 1)) p = woR (l.take j) p from by rw [HNX.out, if_neg (by rintro ⟨h, _⟩; exact h hxp), List.append_nil])
        clear hxp
        go_wp2_with fail
        go_roundw
        case rel => exact ⟨j + 1, q, A2, d2, by omega, by go_num, rfl, by rw [HE.out]; exact HQ.out, by rw [HE.out]; exact OW.out, HB.out⟩
        case measure => simp [intOf]; omega
      · have hx1 : (x != p) = true := by simp [hxp]
        by_cases hxn : x = np
        · have hx2 : (x != np) = false := by simp [hxn]
          have HE := Lib.hid (show woR (l.take (j + 1)) p = woR (l.take j) p from by rw [HNX.out, if_neg (by rintro ⟨_, h⟩; exact h hxn), List.append_nil])
          clear hxp hxn
          go_wp2_with fail
          go_roundw
          case rel => exact ⟨j + 1, q, A2, d2, by omega, by go_num, rfl, by rw [HE.out]; exact HQ.out, by rw [HE.out]; exact OW.out, HB.out⟩
          case measure => simp [intOf]; omega
        · have hx2 : (x != np) = true := by simp [hxn]
          have HE := Lib.hid (show woR (l.take (j + 1)) p = woR (l.take j) p ++ [x] from by rw [HNX.out, if_pos ⟨hxp, hxn⟩])
          clear hxp hxn
          go_wp2_with (at_builtin; refine wpList_append_lies _ rfl _ _ 22 rfl (w.heap.size) 3 i1 (.int .i64 0) 1 8 Try.underlying22 hii hy0 hy1 hy2 rfl (by decide) _ _ _ rfl (OW.out.alloc _) ⟨_, 0, none⟩ 1 1 _ rfl rfl (World.news_of_block (heap_newB _ _ _ (by first | rfl | simp))) (one_c1B _) (by decide) (by unfold maxLen; omega) (by omega) (by simp; omega) _ rfl ?_)
          intro g3 cap w6 ho6 hg6 hat6 hl6
          go_wp2_with fail
          go_roundw
          case rel =>
            refine ⟨j + 1, q + 1, some ⟨g3, 0, none⟩, cap, by omega, by go_num, rfl, by rw [HE.out, List.length_append, ← HQ.out]; rfl, ?_, (HB.out.alloc hbs _).grown hg6 (by simp; omega) (fun r hr => (OW.out.lt r hr).1)⟩
            rw [HE.out]; simpa [intV] using ho6
          case measure => simp [intOf]; omega
    · have hjl : ¬ ((j : Int) < (k : Int)) := by omega
      go_wp2_with fail
      go_ret
      have ht : l.take j = l := List.take_of_length_le (by have := HL.out; omega)
      have h1 := HQ.out
      have h2 := OW.out
      rw [ht] at h1 h2
      exact ⟨A2, q, d2, rfl, h1, h2, HB.out⟩

end Go.Proofs.Ytaokabkffnjbjaa

namespace Go.Proofs.Ytaokabkffnjbjaa
open Go.RowKit
set_option linter.unusedVariables false
set_option linter.unusedSimpArgs false

set_option maxRecDepth 100000 in
set_option maxHeartbeats 4000000 in
theorem spec_JoinLabels (a b : List Int) (A : Option Addr) (k c : Nat) (B : Option Addr) (m d : Nat) (w : World) (hl : a.length = k) (hm : k ≤ 1048576) (hlb : b.length = m) (hmb : m ≤ 1048576) (hr : RowAt w A (a.map intV)) (hrb : RowAt w B (b.map intV)) :
    Calls Try.prog 18 #[.slice A k c, .slice B m d] w fun e w' => ∃ C q cb, e = .returned (.tuple #[.slice C q cb, .bool (jnR a b).2]) ∧ q = (jnR a b).1.length ∧ w'.ownsRow w.heap.size 3 1 (.slice C q cb) q ((jnR a b).1.map intV) ∧ Below w.heap.size w w' := by
  obtain ⟨i1, hii, hy0, hy1, hy2⟩ := info_parts Try.info3
  have HOA := Lib.hid (spec_LabelOk a A k c w hl hm hr)
  have HOB := Lib.hid (spec_LabelOk b B m d w hlb hmb hrb)
  have HHA := Lib.hid (fun n W h => has_any n a A k c W hl hm h)
  have HHB := Lib.hid (fun n W h => has_any n b B m d W hlb hmb h)
  have HRA := Lib.hid hr
  have HRB := Lib.hid hrb
  clear hr hrb hl hlb
  obtain ⟨b1, hb1⟩ : ∃ x, x = labR a := ⟨_, rfl⟩
  obtain ⟨b2, hb2⟩ : ∃ x, x = labR b := ⟨_, rfl⟩
  rw [← hb1] at HOA
  rw [← hb2] at HOB
  have H11 := Lib.hid hb1.symm
  have H22 := Lib.hid hb2.symm
  clear hb1 hb2
  cases b1 with
  | false =>
    have HR0 := Lib.hid (show jnR a b = ([], false) from by unfold jnR; rw [H11.out]; rfl)
    go_enter Try.func18, Try.ntmps18
    go_wp2_with fail
    refine HOA.out.mono ?_
    rintro e w1 ⟨rfl, rfl⟩
    go_wp2_with fail
    refine bodyPost_ret (v := .tuple #[.slice none 0 0, .bool false]) (by simp [results, Try.results18, go_sem]) rfl ?_
    rw [HR0.out]
    exact ⟨none, 0, 0, rfl, rfl, World.ownsRow_nil _ _ _ _, Below.refl _ _⟩
  | true =>
    cases b2 with
    | false =>
      have HR0 := Lib.hid (show jnR a b = ([], false) from by unfold jnR; rw [H11.out, H22.out]; rfl)
      go_enter Try.func18, Try.ntmps18
      go_wp2_with fail
      refine HOA.out.mono ?_
      rintro e w1 ⟨rfl, rfl⟩
      go_wp2_with fail
      refine HOB.out.mono ?_
      rintro e w1 ⟨rfl, rfl⟩
      go_wp2_with fail
      refine bodyPost_ret (v := .tuple #[.slice none 0 0, .bool false]) (by simp [results, Try.results18, go_sem]) rfl ?_
      rw [HR0.out]
      exact ⟨none, 0, 0, rfl, rfl, World.ownsRow_nil _ _ _ _, Below.refl _ _⟩
    | true =>
      go_enter Try.func18, Try.ntmps18
      go_wp2_with fail
      refine HOA.out.mono ?_
      rintro e w1 ⟨rfl, hw1⟩
      subst hw1
      go_wp2_with fail
      refine HOB.out.mono ?_
      rintro e w1 ⟨rfl, hw1⟩
      subst hw1
      obtain ⟨wa, hwa⟩ : ∃ W, W = w.alloc (.cells #[] 3) := ⟨_, rfl⟩
      have ba : Below w.heap.size w wa := by rw [hwa]; exact (Below.refl _ _).alloc (Nat.le_refl _) _
      have OA : Hid (wa.ownsRow w.heap.size 3 1 (.slice (some ⟨w.heap.size, 0, none⟩) 0 0) 0 (([] : List Int).map intV)) := Lib.hid (own_empB w.heap.size (Nat.le_refl _) (by rw [hwa]; exact heap_alloc_new _ _))
      have BA := Lib.hid ba
      go_upto_region 4 with (fail)
      rw [← hwa]
      clear hwa ba
      go_wp2_with fail
      go_loopw [7, 6] (fun i s wr => ∃ (q : Nat) (o : List Int) (A2 : Option Addr) (d2 : Nat), q ≤ 3 ∧ i = .int .i64 ((q : Int) + 1) ∧ s = .slice A2 o.length d2 ∧ jnJ a b q = some o ∧ wr.ownsRow w.heap.size 3 1 (.slice A2 o.length d2) o.length (o.map intV) ∧ Below w.heap.size w wr) (fun i _ _ => 4 - (intOf i).toNat)
      case atStart => exact ⟨0, [], _, _, by omega, rfl, rfl, rfl, OA.out, BA.out⟩
      case round =>
        obtain ⟨q, o, A2, d2, hq, rfl, rfl, hj, hown, hb⟩ := hrel
        have OW := Lib.hid hown
        have HB := Lib.hid hb
        have HJ := Lib.hid hj
        have hol := jnJ_len hj
        have hbs := hb.size
        have HOL := Lib.hid (rfl : o.length = o.length)
        clear hown hb hj
        by_cases hlt : q < 3
        · have hql : ((q : Int) + 1 ≤ 3) := by omega
          obtain ⟨p, hp⟩ : ∃ p : Nat, p = q + 1 := ⟨_, rfl⟩
          have HPQ := Lib.hid hp
          have hpi : (q : Int) + 1 = (p : Int) := by omega
          rw [hpi]
          have hp1 : (1 : Int) ≤ (p : Int) := by omega
          have hp3 : (p : Int) ≤ 3 := by omega
          clear hp hpi hql
          have h1 := HHA.out (p : Int)
          have h2 := HHB.out (p : Int)
          have h3 := HHA.out (-(p : Int))
          have h4 := HHB.out (-(p : Int))
          obtain ⟨t1, e1⟩ : ∃ x, x = hasR a (p : Int) := ⟨_, rfl⟩
          obtain ⟨t2, e2⟩ : ∃ x, x = hasR b (p : Int) := ⟨_, rfl⟩
          obtain ⟨t3, e3⟩ : ∃ x, x = hasR a (-(p : Int)) := ⟨_, rfl⟩
          obtain ⟨t4, e4⟩ : ∃ x, x = hasR b (-(p : Int)) := ⟨_, rfl⟩
          rw [← e1] at h1
          rw [← e2] at h2
          rw [← e3] at h3
          rw [← e4] at h4
          have H1 := Lib.hid h1
          have H2 := Lib.hid h2
          have H3 := Lib.hid h3
          have H4 := Lib.hid h4
          have E1 := Lib.hid e1
          have E2 := Lib.hid e2
          have E3 := Lib.hid e3
          have E4 := Lib.hid e4
          clear h1 h2 h3 h4 e1 e2 e3 e4
          cases t1 with
          | true =>
            cases t3 with
            | true =>
              have HP := Lib.hid (show jnP a b p = none from by unfold jnP; rw [← E1.out, ← E2.out, ← E3.out, ← E4.out]; rfl)
              have HR0 := Lib.hid (show jnR a b = ([], false) from by unfold jnR; rw [H11.out, H22.out, jnJ_none (show jnJ a b (q + 1) = none from by unfold jnJ; rw [HJ.out, ← HPQ.out, HP.out]) (by have := HPQ.out; omega)]; rfl)
              go_wp2_with fail
              refine (H1.out _ (HRA.out.below HB.out)).mono ?_
              rintro e w9 ⟨rfl, hw9⟩
              subst hw9
              go_wp2_with fail
              refine (H3.out _ (HRA.out.below HB.out)).mono ?_
              rintro e w9 ⟨rfl, hw9⟩
              subst hw9
              go_wp2_with fail
              refine bodyPost_ret (v := .tuple #[.slice none 0 0, .bool false]) (by simp [results, Try.results18, go_sem]) rfl ?_
              rw [HR0.out]
              exact ⟨none, 0, 0, rfl, rfl, World.ownsRow_nil _ _ _ _, HB.out⟩
            | false =>
              cases t4 with
              | true =>
                have HP := Lib.hid (show jnP a b p = none from by unfold jnP; rw [← E1.out, ← E2.out, ← E3.out, ← E4.out]; rfl)
                have HR0 := Lib.hid (show jnR a b = ([], false) from by unfold jnR; rw [H11.out, H22.out, jnJ_none (show jnJ a b (q + 1) = none from by unfold jnJ; rw [HJ.out, ← HPQ.out, HP.out]) (by have := HPQ.out; omega)]; rfl)
                go_wp2_with fail
                refine (H1.out _ (HRA.out.below HB.out)).mono ?_
                rintro e w9 ⟨rfl, hw9⟩
                subst hw9
                go_wp2_with fail
                refine (H3.out _ (HRA.out.below HB.out)).mono ?_
                rintro e w9 ⟨rfl, hw9⟩
                subst hw9
                go_wp2_with fail
                refine (H4.out _ (HRB.out.below HB.out)).mono ?_
                rintro e w9 ⟨rfl, hw9⟩
                subst hw9
                go_wp2_with fail
                refine bodyPost_ret (v := .tuple #[.slice none 0 0, .bool false]) (by simp [results, Try.results18, go_sem]) rfl ?_
                rw [HR0.out]
                exact ⟨none, 0, 0, rfl, rfl, World.ownsRow_nil _ _ _ _, HB.out⟩
              | false =>
                have HP := Lib.hid (show jnP a b p = some [(p : Int)] from by unfold jnP; rw [← E1.out, ← E2.out, ← E3.out, ← E4.out]; rfl)
                have HJ2 := Lib.hid (show jnJ a b (q + 1) = some (o ++ [(p : Int)]) from by unfold jnJ; rw [HJ.out, ← HPQ.out, HP.out])
                go_wp2_with fail
                refine (H1.out _ (HRA.out.below HB.out)).mono ?_
                rintro e w9 ⟨rfl, hw9⟩
                subst hw9
                go_wp2_with fail
                refine (H3.out _ (HRA.out.below HB.out)).mono ?_
                rintro e w9 ⟨rfl, hw9⟩
                subst hw9
                go_wp2_with fail
                refine (H4.out _ (HRB.out.below HB.out)).mono ?_
                rintro e w9 ⟨rfl, hw9⟩
                subst hw9
                go_wp2_with (at_builtin; refine wpList_append_lies _ rfl _ _ 22 rfl (w.heap.size) 3 i1 (.int .i64 0) 1 8 Try.underlying22 hii hy0 hy1 hy2 rfl (by decide) _ _ _ rfl (OW.out.alloc _) ⟨_, 0, none⟩ 1 1 _ rfl rfl (World.news_of_block (heap_newB _ _ _ (by first | rfl | simp))) (one_c1B _) (by decide) (by unfold maxLen; omega) (by omega) (by simp; omega) _ rfl ?_)
                intro g3 cap w6 ho6 hg6 hat6 hl6
                go_wp2_with fail
                go_roundw
                case rel => exact ⟨q + 1, o ++ [(p : Int)], some ⟨g3, 0, none⟩, cap, by have := HPQ.out; omega, by have := HPQ.out; go_num, by rw [List.length_append]; simp [HOL.out], HJ2.out, by rw [List.length_append, List.map_append]; simpa [intV, HOL.out] using ho6, (HB.out.alloc hbs _).grown hg6 (by simp; omega) (fun r hr => (OW.out.lt r hr).1)⟩
                case measure => simp [intOf]; omega
          | false =>
            cases t2 with
            | true =>
              cases t3 with
              | true =>
                have HP := Lib.hid (show jnP a b p = none from by unfold jnP; rw [← E1.out, ← E2.out, ← E3.out, ← E4.out]; rfl)
                have HR0 := Lib.hid (show jnR a b = ([], false) from by unfold jnR; rw [H11.out, H22.out, jnJ_none (show jnJ a b (q + 1) = none from by unfold jnJ; rw [HJ.out, ← HPQ.out, HP.out]) (by have := HPQ.out; omega)]; rfl)
                go_wp2_with fail
                refine (H1.out _ (HRA.out.below HB.out)).mono ?_
                rintro e w9 ⟨rfl, hw9⟩
                subst hw9
                go_wp2_with fail
                refine (H2.out _ (HRB.out.below HB.out)).mono ?_
                rintro e w9 ⟨rfl, hw9⟩
                subst hw9
                go_wp2_with fail
                refine (H3.out _ (HRA.out.below HB.out)).mono ?_
                rintro e w9 ⟨rfl, hw9⟩
                subst hw9
                go_wp2_with fail
                refine bodyPost_ret (v := .tuple #[.slice none 0 0, .bool false]) (by simp [results, Try.results18, go_sem]) rfl ?_
                rw [HR0.out]
                exact ⟨none, 0, 0, rfl, rfl, World.ownsRow_nil _ _ _ _, HB.out⟩
              | false =>
                cases t4 with
                | true =>
                  have HP := Lib.hid (show jnP a b p = none from by unfold jnP; rw [← E1.out, ← E2.out, ← E3.out, ← E4.out]; rfl)
                  have HR0 := Lib.hid (show jnR a b = ([], false) from by unfold jnR; rw [H11.out, H22.out, jnJ_none (show jnJ a b (q + 1) = none from by unfold jnJ; rw [HJ.out, ← HPQ.out, HP.out]) (by have := HPQ.out; omega)]; rfl)
                  go_wp2_with fail
                  refine (H1.out _ (HRA.out.below HB.out)).mono ?_
                  rintro e w9 ⟨rfl, hw9⟩
                  subst hw9
                  go_wp2_with fail
                  refine (H2.out _ (HRB.out.below HB.out)).mono ?_
                  rintro e w9 ⟨rfl, hw9⟩
                  subst hw9
                  go_wp2_with fail
                  refine (H3.out _ (HRA.out.below HB.out)).mono ?_
                  rintro e w9 ⟨rfl, hw9⟩
                  subst hw9
                  go_wp2_with fail
                  refine (H4.out _ (HRB.out.below HB.out)).mono ?_
                  rintro e w9 ⟨rfl, hw9⟩
                  subst hw9
                  go_wp2_with fail
                  refine bodyPost_ret (v := .tuple #[.slice none 0 0, .bool false]) (by simp [results, Try.results18, go_sem]) rfl ?_
                  rw [HR0.out]
                  exact ⟨none, 0, 0, rfl, rfl, World.ownsRow_nil _ _ _ _, HB.out⟩
                | false =>
                  have HP := Lib.hid (show jnP a b p = some [(p : Int)] from by unfold jnP; rw [← E1.out, ← E2.out, ← E3.out, ← E4.out]; rfl)
                  have HJ2 := Lib.hid (show jnJ a b (q + 1) = some (o ++ [(p : Int)]) from by unfold jnJ; rw [HJ.out, ← HPQ.out, HP.out])
                  go_wp2_with fail
                  refine (H1.out _ (HRA.out.below HB.out)).mono ?_
                  rintro e w9 ⟨rfl, hw9⟩
                  subst hw9
                  go_wp2_with fail
                  refine (H2.out _ (HRB.out.below HB.out)).mono ?_
                  rintro e w9 ⟨rfl, hw9⟩
                  subst hw9
                  go_wp2_with fail
                  refine (H3.out _ (HRA.out.below HB.out)).mono ?_
                  rintro e w9 ⟨rfl, hw9⟩
                  subst hw9
                  go_wp2_with fail
                  refine (H4.out _ (HRB.out.below HB.out)).mono ?_
                  rintro e w9 ⟨rfl, hw9⟩
                  subst hw9
                  go_wp2_with (at_builtin; refine wpList_append_lies _ rfl _ _ 22 rfl (w.heap.size) 3 i1 (.int .i64 0) 1 8 Try.underlying22 hii hy0 hy1 hy2 rfl (by decide) _ _ _ rfl (OW.out.alloc _) ⟨_, 0, none⟩ 1 1 _ rfl rfl (World.news_of_block (heap_newB _ _ _ (by first | rfl | simp))) (one_c1B _) (by decide) (by unfold maxLen; omega) (by omega) (by simp; omega) _ rfl ?_)
                  intro g3 cap w6 ho6 hg6 hat6 hl6
                  go_wp2_with fail
                  go_roundw
                  case rel => exact ⟨q + 1, o ++ [(p : Int)], some ⟨g3, 0, none⟩, cap, by have := HPQ.out; omega, by have := HPQ.out; go_num, by rw [List.length_append]; simp [HOL.out], HJ2.out, by rw [List.length_append, List.map_append]; simpa [intV, HOL.out] using ho6, (HB.out.alloc hbs _).grown hg6 (by simp; omega) (fun r hr => (OW.out.lt r hr).1)⟩
                  case measure => simp [intOf]; omega
            | false =>
              cases t3 with
              | true =>
                have HP := Lib.hid (show jnP a b p = some [-(p : Int)] from by unfold jnP; rw [← E1.out, ← E2.out, ← E3.out, ← E4.out]; rfl)
                have HJ2 := Lib.hid (show jnJ a b (q + 1) = some (o ++ [-(p : Int)]) from by unfold jnJ; rw [HJ.out, ← HPQ.out, HP.out])
                go_wp2_with fail
                refine (H1.out _ (HRA.out.below HB.out)).mono ?_
                rintro e w9 ⟨rfl, hw9⟩
                subst hw9
                go_wp2_with fail
                refine (H2.out _ (HRB.out.below HB.out)).mono ?_
                rintro e w9 ⟨rfl, hw9⟩
                subst hw9
                go_wp2_with fail
                refine (H3.out _ (HRA.out.below HB.out)).mono ?_
                rintro e w9 ⟨rfl, hw9⟩
                subst hw9
                go_wp2_with (at_builtin; refine wpList_append_lies _ rfl _ _ 22 rfl (w.heap.size) 3 i1 (.int .i64 0) 1 8 Try.underlying22 hii hy0 hy1 hy2 rfl (by decide) _ _ _ rfl (OW.out.alloc _) ⟨_, 0, none⟩ 1 1 _ rfl rfl (World.news_of_block (heap_newB _ _ _ (by first | rfl | simp))) (one_c1B _) (by decide) (by unfold maxLen; omega) (by omega) (by simp; omega) _ rfl ?_)
                intro g3 cap w6 ho6 hg6 hat6 hl6
                go_wp2_with fail
                go_roundw
                case rel => exact ⟨q + 1, o ++ [-(p : Int)], some ⟨g3, 0, none⟩, cap, by have := HPQ.out; omega, by have := HPQ.out; go_num, by rw [List.length_append]; simp [HOL.out], HJ2.out, by rw [List.length_append, List.map_append]; simpa [intV, HOL.out] using ho6, (HB.out.alloc hbs _).grown hg6 (by simp; omega) (fun r hr => (OW.out.lt r hr).1)⟩
                case measure => simp [intOf]; omega
              | false =>
                cases t4 with
                | true =>
                  have HP := Lib.hid (show jnP a b p = some [-(p : Int)] from by unfold jnP; rw [← E1.out, ← E2.out, ← E3.out, ← E4.out]; rfl)
                  have HJ2 := Lib.hid (show jnJ a b (q + 1) = some (o ++ [-(p : Int)]) from by unfold jnJ; rw [HJ.out, ← HPQ.out, HP.out])
                  go_wp2_with fail
                  refine (H1.out _ (HRA.out.below HB.out)).mono ?_
                  rintro e w9 ⟨rfl, hw9⟩
                  subst hw9
                  go_wp2_with fail
                  refine (H2.out _ (HRB.out.below HB.out)).mono ?_
                  rintro e w9 ⟨rfl, hw9⟩
                  subst hw9
                  go_wp2_with fail
                  refine (H3.out _ (HRA.out.below HB.out)).mono ?_
                  rintro e w9 ⟨rfl, hw9⟩
                  subst hw9
                  go_wp2_with fail
                  refine (H4.out _ (HRB.out.below HB.out)).mono ?_
                  rintro e w9 ⟨rfl, hw9⟩
                  subst hw9
                  go_wp2_with (at_builtin; refine wpList_append_lies _ rfl _ _ 22 rfl (w.heap.size) 3 i1 (.int .i64 0) 1 8 Try.underlying22 hii hy0 hy1 hy2 rfl (by decide) _ _ _ rfl (OW.out.alloc _) ⟨_, 0, none⟩ 1 1 _ rfl rfl (World.news_of_block (heap_newB _ _ _ (by first | rfl | simp))) (one_c1B _) (by decide) (by unfold maxLen; omega) (by omega) (by simp; omega) _ rfl ?_)
                  intro g3 cap w6 ho6 hg6 hat6 hl6
                  go_wp2_with fail
                  go_roundw
                  case rel => exact ⟨q + 1, o ++ [-(p : Int)], some ⟨g3, 0, none⟩, cap, by have := HPQ.out; omega, by have := HPQ.out; go_num, by rw [List.length_append]; simp [HOL.out], HJ2.out, by rw [List.length_append, List.map_append]; simpa [intV, HOL.out] using ho6, (HB.out.alloc hbs _).grown hg6 (by simp; omega) (fun r hr => (OW.out.lt r hr).1)⟩
                  case measure => simp [intOf]; omega
                | false =>
                  have HP := Lib.hid (show jnP a b p = some [] from by unfold jnP; rw [← E1.out, ← E2.out, ← E3.out, ← E4.out]; rfl)
                  have HJ2 := Lib.hid (show jnJ a b (q + 1) = some (o ++ []) from by unfold jnJ; rw [HJ.out, ← HPQ.out, HP.out])
                  go_wp2_with fail
                  refine (H1.out _ (HRA.out.below HB.out)).mono ?_
                  rintro e w9 ⟨rfl, hw9⟩
                  subst hw9
                  go_wp2_with fail
                  refine (H2.out _ (HRB.out.below HB.out)).mono ?_
                  rintro e w9 ⟨rfl, hw9⟩
                  subst hw9
                  go_wp2_with fail
                  refine (H3.out _ (HRA.out.below HB.out)).mono ?_
                  rintro e w9 ⟨rfl, hw9⟩
                  subst hw9
                  go_wp2_with fail
                  refine (H4.out _ (HRB.out.below HB.out)).mono ?_
                  rintro e w9 ⟨rfl, hw9⟩
                  subst hw9
                  go_wp2_with fail
                  go_roundw
                  case rel => exact ⟨q + 1, o ++ [], A2, d2, by have := HPQ.out; omega, by have := HPQ.out; go_num, by rw [List.append_nil], HJ2.out, by rw [List.append_nil]; exact OW.out, HB.out⟩
                  case measure => simp [intOf]; omega
        · have hql : ¬ ((q : Int) + 1 ≤ 3) := by omega
          have hq3 : q = 3 := by omega
          have HR0 := Lib.hid (show jnR a b = (o, true) from by unfold jnR; rw [H11.out, H22.out, ← hq3, HJ.out]; rfl)
          clear hq3
          go_wp2_with fail
          refine bodyPost_ret (v := .tuple #[.slice A2 o.length d2, .bool true]) (by simp [results, Try.results18, go_sem]) rfl ?_
          rw [HR0.out]
          exact ⟨A2, o.length, d2, rfl, rfl, OW.out, HB.out⟩

end Go.Proofs.Ytaokabkffnjbjaa

namespace Go.Proofs.Ytaokabkffnjbjaa
open Go.RowKit
set_option linter.unusedVariables false
set_option linter.unusedSimpArgs false
/-- The least and the greatest of the first elements. -/
def minL (ts : List Int) : Nat → Int
  | 0 => ts[0]?.getD 0
  | j + 1 => if ts[j + 1]?.getD 0 < minL ts j then ts[j + 1]?.getD 0 else minL ts j
def maxL (ts : List Int) : Nat → Int
  | 0 => ts[0]?.getD 0
  | j + 1 => if maxL ts j < ts[j + 1]?.getD 0 then ts[j + 1]?.getD 0 else maxL ts j
theorem minL_iff (ts : List Int) (b : Int) : ∀ j, b ≤ minL ts j ↔ ∀ i, i ≤ j → b ≤ ts[i]?.getD 0
  | 0 => ⟨fun h i hi => by obtain rfl : i = 0 := by omega
                           exact h, fun h => h 0 (Nat.le_refl _)⟩
  | j + 1 => by
    have ih := minL_iff ts b j
    unfold minL
    constructor
    · intro h i hi
      have h1 : b ≤ minL ts j ∧ b ≤ ts[j + 1]?.getD 0 := by split at h <;> omega
      by_cases e : i = j + 1
      · subst e; exact h1.2
      · exact ih.1 h1.1 i (by omega)
    · intro h
      have h1 := ih.2 (fun i hi => h i (by omega))
      have h2 := h (j + 1) (Nat.le_refl _)
      split <;> omega
theorem maxL_iff (ts : List Int) (b : Int) : ∀ j, maxL ts j < b ↔ ∀ i, i ≤ j → ts[i]?.getD 0 < b
  | 0 => ⟨fun h i hi => by obtain rfl : i = 0 := by omega
                           exact h, fun h => h 0 (Nat.le_refl _)⟩
  | j + 1 => by
    have ih := maxL_iff ts b j
    unfold maxL
    constructor
    · intro h i hi
      have h1 : maxL ts j < b ∧ ts[j + 1]?.getD 0 < b := by split at h <;> omega
      by_cases e : i = j + 1
      · subst e; exact h1.2
      · exact ih.1 h1.1 i (by omega)
    · intro h
      have h1 := ih.2 (fun i hi => h i (by omega))
      have h2 := h (j + 1) (Nat.le_refl _)
      split <;> omega

set_option maxRecDepth 100000 in
set_option maxHeartbeats 4000000 in
theorem slices_Min_int (ts : List Int) (T : Option Addr) (m d : Nat) (w : World) (hl : ts.length = m) (h0 : 0 < m) (h8 : m ≤ 8) (ht : RowAt w T (ts.map intV)) :
    Calls Try.prog 32 #[.slice T m d] w fun e w' => e = .returned (.int .i64 (minL ts (m - 1))) ∧ w' = w := by
  have HT := Lib.hid ht
  have HL := Lib.hid hl
  obtain ⟨g, o, rfl, hg, hc⟩ := row_getB ht (q := 0) (by omega)
  rw [Nat.add_zero] at hc
  obtain ⟨x0, hx0⟩ : ∃ x, x = ts[0]'(by omega) := ⟨_, rfl⟩
  rw [← hx0] at hc
  have HX0 := Lib.hid (show minL ts 0 = x0 from by unfold minL; rw [hx0, List.getElem?_eq_getElem (by omega)]; rfl)
  clear hx0 hl ht
  have hlt : ¬ ((m : Int) < 1) := by omega
  go_enter Try.func32, Try.ntmps32
  go_wp2_with fail
  go_loopw [4, 3] (fun ii q wr => ∃ (j : Nat) (x : Int), j + 1 ≤ m ∧ ii = .int .i64 ((j : Int) + 1) ∧ q = .int .i64 x ∧ x = minL ts j ∧ wr = w) (fun ii _ _ => m - (intOf ii).toNat)
  case atStart => exact ⟨0, x0, by omega, rfl, rfl, HX0.out.symm, rfl⟩
  case round =>
    obtain ⟨j, x, hj, rfl, rfl, hx, hw⟩ := hrel
    obtain rfl : w = wr := hw.symm
    have HX := Lib.hid hx
    clear hx hw
    by_cases hlt : j + 1 < m
    · obtain ⟨g2, o2, hT, hg2, hc2⟩ := row_getB HT.out (q := j + 1) (by have := HL.out; omega)
      injection hT with hT
      injection hT with h4 h5
      subst h4 h5
      obtain ⟨y, hy⟩ : ∃ y, y = ts[j + 1]'(by have := HL.out; omega) := ⟨_, rfl⟩
      rw [← hy] at hc2
      have HY := Lib.hid (show ts[j + 1]?.getD 0 = y from by rw [hy, List.getElem?_eq_getElem (by have := HL.out; omega)]; rfl)
      clear hy
      have hj1 : ((j : Int) + 1) < (m : Int) := by omega
      have hj0 : (0 : Int) ≤ (j : Int) + 1 := by omega
      have hjt : ((j : Int) + 1).toNat = j + 1 := by omega
      by_cases hyx : y < x
      · have HN := Lib.hid (show y = minL ts (j + 1) from by unfold minL; rw [HY.out, ← HX.out, if_pos hyx])
        go_wp2_with fail
        go_roundw
        case rel => exact ⟨j + 1, y, by omega, by first | go_num | (simp; done) | (congr 1; omega), by first | rfl | trivial, HN.out, by first | rfl | trivial⟩
        case measure => simp [intOf]; omega
      · have HN := Lib.hid (show x = minL ts (j + 1) from by unfold minL; rw [HY.out, ← HX.out, if_neg hyx])
        go_wp2_with fail
        go_roundw
        case rel => exact ⟨j + 1, x, by omega, by first | go_num | (simp; done) | (congr 1; omega), by first | rfl | trivial, HN.out, by first | rfl | trivial⟩
        case measure => simp [intOf]; omega
    · have hjm : ¬ ((j : Int) + 1 < (m : Int)) := by omega
      go_wp2_with fail
      go_ret
      exact ⟨int_ans (by rw [HX.out, show j = m - 1 from by omega]), rfl⟩

set_option maxRecDepth 100000 in
set_option maxHeartbeats 4000000 in
theorem slices_Max_int (ts : List Int) (T : Option Addr) (m d : Nat) (w : World) (hl : ts.length = m) (h0 : 0 < m) (h8 : m ≤ 8) (ht : RowAt w T (ts.map intV)) :
    Calls Try.prog 33 #[.slice T m d] w fun e w' => e = .returned (.int .i64 (maxL ts (m - 1))) ∧ w' = w := by
  have HT := Lib.hid ht
  have HL := Lib.hid hl
  obtain ⟨g, o, rfl, hg, hc⟩ := row_getB ht (q := 0) (by omega)
  rw [Nat.add_zero] at hc
  obtain ⟨x0, hx0⟩ : ∃ x, x = ts[0]'(by omega) := ⟨_, rfl⟩
  rw [← hx0] at hc
  have HX0 := Lib.hid (show maxL ts 0 = x0 from by unfold maxL; rw [hx0, List.getElem?_eq_getElem (by omega)]; rfl)
  clear hx0 hl ht
  have hlt : ¬ ((m : Int) < 1) := by omega
  go_enter Try.func33, Try.ntmps33
  go_wp2_with fail
  go_loopw [4, 3] (fun ii q wr => ∃ (j : Nat) (x : Int), j + 1 ≤ m ∧ ii = .int .i64 ((j : Int) + 1) ∧ q = .int .i64 x ∧ x = maxL ts j ∧ wr = w) (fun ii _ _ => m - (intOf ii).toNat)
  case atStart => exact ⟨0, x0, by omega, rfl, rfl, HX0.out.symm, rfl⟩
  case round =>
    obtain ⟨j, x, hj, rfl, rfl, hx, hw⟩ := hrel
    obtain rfl : w = wr := hw.symm
    have HX := Lib.hid hx
    clear hx hw
    by_cases hlt : j + 1 < m
    · obtain ⟨g2, o2, hT, hg2, hc2⟩ := row_getB HT.out (q := j + 1) (by have := HL.out; omega)
      injection hT with hT
      injection hT with h4 h5
      subst h4 h5
      obtain ⟨y, hy⟩ : ∃ y, y = ts[j + 1]'(by have := HL.out; omega) := ⟨_, rfl⟩
      rw [← hy] at hc2
      have HY := Lib.hid (show ts[j + 1]?.getD 0 = y from by rw [hy, List.getElem?_eq_getElem (by have := HL.out; omega)]; rfl)
      clear hy
      have hj1 : ((j : Int) + 1) < (m : Int) := by omega
      have hj0 : (0 : Int) ≤ (j : Int) + 1 := by omega
      have hjt : ((j : Int) + 1).toNat = j + 1 := by omega
      by_cases hyx : x < y
      · have HN := Lib.hid (show y = maxL ts (j + 1) from by unfold maxL; rw [HY.out, ← HX.out, if_pos hyx])
        go_wp2_with fail
        go_roundw
        case rel => exact ⟨j + 1, y, by omega, by first | go_num | (simp; done) | (congr 1; omega), by first | rfl | trivial, HN.out, by first | rfl | trivial⟩
        case measure => simp [intOf]; omega
      · have HN := Lib.hid (show x = maxL ts (j + 1) from by unfold maxL; rw [HY.out, ← HX.out, if_neg hyx])
        go_wp2_with fail
        go_roundw
        case rel => exact ⟨j + 1, x, by omega, by first | go_num | (simp; done) | (congr 1; omega), by first | rfl | trivial, HN.out, by first | rfl | trivial⟩
        case measure => simp [intOf]; omega
    · have hjm : ¬ ((j : Int) + 1 < (m : Int)) := by omega
      go_wp2_with fail
      go_ret
      exact ⟨int_ans (by rw [HX.out, show j = m - 1 from by omega]), rfl⟩

theorem val_form {v : List Int} (hl : v.length = 3) : valR v = (decide (-1 ≤ minL v 2) && decide (maxL v 2 ≤ 1)) := by
  unfold valR
  rw [decide_eq_true hl, Bool.and_true, Bool.eq_iff_iff, List.all_eq_true, Bool.and_eq_true, decide_eq_true_eq, decide_eq_true_eq, minL_iff, show maxL v 2 ≤ 1 ↔ maxL v 2 < 2 from by omega, maxL_iff]
  constructor
  · intro h
    have h3 : ∀ i, i ≤ 2 → -1 ≤ v[i]?.getD 0 ∧ v[i]?.getD 0 ≤ 1 := by
      intro i hi
      have h4 := h (v[i]'(by omega)) (List.getElem_mem _)
      unfold valB at h4
      rw [Bool.and_eq_true, decide_eq_true_eq, decide_eq_true_eq] at h4
      rw [List.getElem?_eq_getElem (by omega)]
      exact h4
    exact ⟨fun i hi => (h3 i hi).1, fun i hi => by have := (h3 i hi).2; omega⟩
  · rintro ⟨h2, h3⟩ x hx
    obtain ⟨i, hi, rfl⟩ := List.getElem_of_mem hx
    have h4 := h2 i (by omega)
    have h5 := h3 i (by omega)
    rw [List.getElem?_eq_getElem hi, Option.getD_some] at h4 h5
    unfold valB
    rw [decide_eq_true h4, decide_eq_true (by omega)]; rfl

end Go.Proofs.Ytaokabkffnjbjaa
