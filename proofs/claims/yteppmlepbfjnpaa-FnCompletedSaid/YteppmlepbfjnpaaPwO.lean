/-
  WALKS of slices.Min and slices.Max at []int, impl.PartialOk and impl.CountOpen.
-/
import Derived.Test.YteppmlepbfjnpaaBdSmF
import Derived.Test.YteppmlepbfjnpaaNwT
namespace Go.Proofs.Yteppmlepbfjnpaa
open Go.RowKit
set_option linter.unusedVariables false
set_option linter.unusedSimpArgs false

/-- The least and the greatest of the first elements. -/
def minJ (ts : List Int) : Nat → Int
  | 0 => ts[0]?.getD 0
  | j + 1 => if ts[j + 1]?.getD 0 < minJ ts j then ts[j + 1]?.getD 0 else minJ ts j
def maxJ (ts : List Int) : Nat → Int
  | 0 => ts[0]?.getD 0
  | j + 1 => if maxJ ts j < ts[j + 1]?.getD 0 then ts[j + 1]?.getD 0 else maxJ ts j
theorem minJ_iff (ts : List Int) (b : Int) : ∀ j, b ≤ minJ ts j ↔ ∀ i, i ≤ j → b ≤ ts[i]?.getD 0
  | 0 => ⟨fun h i hi => by obtain rfl : i = 0 := by omega
                           exact h, fun h => h 0 (Nat.le_refl _)⟩
  | j + 1 => by
    have ih := minJ_iff ts b j
    unfold minJ
    constructor
    · intro h i hi
      have h1 : b ≤ minJ ts j ∧ b ≤ ts[j + 1]?.getD 0 := by split at h <;> omega
      by_cases e : i = j + 1
      · subst e; exact h1.2
      · exact ih.1 h1.1 i (by omega)
    · intro h
      have h1 := ih.2 (fun i hi => h i (by omega))
      have h2 := h (j + 1) (Nat.le_refl _)
      split <;> omega
theorem maxJ_iff (ts : List Int) (b : Int) : ∀ j, maxJ ts j < b ↔ ∀ i, i ≤ j → ts[i]?.getD 0 < b
  | 0 => ⟨fun h i hi => by obtain rfl : i = 0 := by omega
                           exact h, fun h => h 0 (Nat.le_refl _)⟩
  | j + 1 => by
    have ih := maxJ_iff ts b j
    unfold maxJ
    constructor
    · intro h i hi
      have h1 : maxJ ts j < b ∧ ts[j + 1]?.getD 0 < b := by split at h <;> omega
      by_cases e : i = j + 1
      · subst e; exact h1.2
      · exact ih.1 h1.1 i (by omega)
    · intro h
      have h1 := ih.2 (fun i hi => h i (by omega))
      have h2 := h (j + 1) (Nat.le_refl _)
      split <;> omega
theorem pok_form {n : Int} {es : List GL} {ts : List Int} {m : Nat} (h : tmR n es ts = true) (hl : ts.length = m) (h0 : 0 < m) : pokR n es ts = (decide (ts[0]?.getD 0 = 0) && (decide (-1 ≤ minJ ts (m - 1)) && decide (maxJ ts (m - 1) < 1000000))) := by
  obtain ⟨hok, hln, _⟩ := tmR_ok h
  unfold pokR
  rw [hok, decide_eq_true hln, Bool.true_and, Bool.true_and]
  congr 1
  rw [Bool.eq_iff_iff, List.all_eq_true, Bool.and_eq_true, decide_eq_true_eq, decide_eq_true_eq, minJ_iff, maxJ_iff]
  constructor
  · intro h2
    have h3 : ∀ i, i ≤ m - 1 → -1 ≤ ts[i]?.getD 0 ∧ ts[i]?.getD 0 ≤ 999999 := by
      intro i hi
      have h4 := h2 (ts[i]'(by omega)) (List.getElem_mem _)
      unfold inP at h4
      rw [Bool.and_eq_true, decide_eq_true_eq, decide_eq_true_eq] at h4
      rw [List.getElem?_eq_getElem (by omega)]
      exact h4
    exact ⟨fun i hi => (h3 i hi).1, fun i hi => by have := (h3 i hi).2; omega⟩
  · rintro ⟨h2, h3⟩ x hx
    obtain ⟨i, hi, rfl⟩ := List.getElem_of_mem hx
    have h4 := h2 i (by omega)
    have h5 := h3 i (by omega)
    rw [List.getElem?_eq_getElem hi, Option.getD_some] at h4 h5
    unfold inP
    rw [decide_eq_true h4, decide_eq_true (by omega)]; rfl
theorem pok_timed {n : Int} {es : List GL} {ts : List Int} (h : tmR n es ts = false) : pokR n es ts = false := by
  cases hp : pokR n es ts with
  | false => rfl
  | true =>
    obtain ⟨hok, hln, _, hrg⟩ := pokR_ok hp
    have : tmR n es ts = true := by
      unfold tmR
      rw [hok, decide_eq_true hln, Bool.true_and, Bool.true_and, List.all_eq_true]
      intro x hx
      have := hrg x hx
      unfold inB
      rw [decide_eq_true (by omega), decide_eq_true (by omega)]; rfl
    rw [this] at h
    cases h

set_option maxRecDepth 100000 in
set_option maxHeartbeats 4000000 in
theorem slices_Min_any (ts : List Int) (T : Option Addr) (m d : Nat) (w : World) (hl : ts.length = m) (h0 : 0 < m) (h8 : m ≤ 8) (ht : RowAt w T (ts.map intV)) :
    Calls Try.prog 60 #[.slice T m d] w fun e w' => e = .returned (.int .i64 (minJ ts (m - 1))) ∧ w' = w := by
  have HT := Lib.hid ht
  have HL := Lib.hid hl
  obtain ⟨g, o, rfl, hg, hc⟩ := row_get ht (q := 0) (by omega)
  rw [Nat.add_zero] at hc
  obtain ⟨x0, hx0⟩ : ∃ x, x = ts[0]'(by omega) := ⟨_, rfl⟩
  rw [← hx0] at hc
  have HX0 := Lib.hid (show minJ ts 0 = x0 from by unfold minJ; rw [hx0, List.getElem?_eq_getElem (by omega)]; rfl)
  clear hx0 hl ht
  have hlt : ¬ ((m : Int) < 1) := by omega
  go_enter Try.func60, Try.ntmps60
  go_wp2_with fail
  go_loopw [4, 3] (fun ii q wr => ∃ (j : Nat) (x : Int), j + 1 ≤ m ∧ ii = .int .i64 ((j : Int) + 1) ∧ q = .int .i64 x ∧ x = minJ ts j ∧ wr = w) (fun ii _ _ => m - (intOf ii).toNat)
  case atStart => exact ⟨0, x0, by omega, rfl, rfl, HX0.out.symm, rfl⟩
  case round =>
    obtain ⟨j, x, hj, rfl, rfl, hx, hw⟩ := hrel
    obtain rfl : w = wr := hw.symm
    have HX := Lib.hid hx
    clear hx hw
    by_cases hlt : j + 1 < m
    · obtain ⟨g2, o2, hT, hg2, hc2⟩ := row_get HT.out (q := j + 1) (by have := HL.out; omega)
      injection hT with hT
      injection hT with h4 h5
      subst h4 h5
      obtain ⟨y, hy⟩ : ∃ y, y = ts[j + 1]'(by have := HL.out; omega) := ⟨_, rfl⟩
      rw [← hy] at hc2
      have HY := Lib.hid (show ts[j + 1]?.getD 0 = y from by rw [hy, List.getElem?_eq_getElem (by have := HL.out; omega)]; rfl)
      clear hy
      have hj1 : ((j : Int) + 1) < (m : Int) := by omega
      have hj0 : (0 : Int) ≤ (j : Int) + 1 := by omega
      have hjt : ((j : Int) + 1).toNat = j + 1 := by omega
      by_cases hyx : y < x
      · have HN := Lib.hid (show y = minJ ts (j + 1) from by unfold minJ; rw [HY.out, ← HX.out, if_pos hyx])
        go_wp2_with fail
        go_roundw
        case rel => exact ⟨j + 1, y, by omega, by first | go_num | (simp; done) | (congr 1; omega), by first | rfl | trivial, HN.out, by first | rfl | trivial⟩
        case measure => simp [intOf]; omega
      · have HN := Lib.hid (show x = minJ ts (j + 1) from by unfold minJ; rw [HY.out, ← HX.out, if_neg hyx])
        go_wp2_with fail
        go_roundw
        case rel => exact ⟨j + 1, x, by omega, by first | go_num | (simp; done) | (congr 1; omega), by first | rfl | trivial, HN.out, by first | rfl | trivial⟩
        case measure => simp [intOf]; omega
    · have hjm : ¬ ((j : Int) + 1 < (m : Int)) := by omega
      go_wp2_with fail
      go_ret
      exact ⟨int_ans (by rw [HX.out, show j = m - 1 from by omega]), rfl⟩

set_option maxRecDepth 100000 in
set_option maxHeartbeats 4000000 in
theorem slices_Max_any (ts : List Int) (T : Option Addr) (m d : Nat) (w : World) (hl : ts.length = m) (h0 : 0 < m) (h8 : m ≤ 8) (ht : RowAt w T (ts.map intV)) :
    Calls Try.prog 61 #[.slice T m d] w fun e w' => e = .returned (.int .i64 (maxJ ts (m - 1))) ∧ w' = w := by
  have HT := Lib.hid ht
  have HL := Lib.hid hl
  obtain ⟨g, o, rfl, hg, hc⟩ := row_get ht (q := 0) (by omega)
  rw [Nat.add_zero] at hc
  obtain ⟨x0, hx0⟩ : ∃ x, x = ts[0]'(by omega) := ⟨_, rfl⟩
  rw [← hx0] at hc
  have HX0 := Lib.hid (show maxJ ts 0 = x0 from by unfold maxJ; rw [hx0, List.getElem?_eq_getElem (by omega)]; rfl)
  clear hx0 hl ht
  have hlt : ¬ ((m : Int) < 1) := by omega
  go_enter Try.func61, Try.ntmps61
  go_wp2_with fail
  go_loopw [4, 3] (fun ii q wr => ∃ (j : Nat) (x : Int), j + 1 ≤ m ∧ ii = .int .i64 ((j : Int) + 1) ∧ q = .int .i64 x ∧ x = maxJ ts j ∧ wr = w) (fun ii _ _ => m - (intOf ii).toNat)
  case atStart => exact ⟨0, x0, by omega, rfl, rfl, HX0.out.symm, rfl⟩
  case round =>
    obtain ⟨j, x, hj, rfl, rfl, hx, hw⟩ := hrel
    obtain rfl : w = wr := hw.symm
    have HX := Lib.hid hx
    clear hx hw
    by_cases hlt : j + 1 < m
    · obtain ⟨g2, o2, hT, hg2, hc2⟩ := row_get HT.out (q := j + 1) (by have := HL.out; omega)
      injection hT with hT
      injection hT with h4 h5
      subst h4 h5
      obtain ⟨y, hy⟩ : ∃ y, y = ts[j + 1]'(by have := HL.out; omega) := ⟨_, rfl⟩
      rw [← hy] at hc2
      have HY := Lib.hid (show ts[j + 1]?.getD 0 = y from by rw [hy, List.getElem?_eq_getElem (by have := HL.out; omega)]; rfl)
      clear hy
      have hj1 : ((j : Int) + 1) < (m : Int) := by omega
      have hj0 : (0 : Int) ≤ (j : Int) + 1 := by omega
      have hjt : ((j : Int) + 1).toNat = j + 1 := by omega
      by_cases hyx : x < y
      · have HN := Lib.hid (show y = maxJ ts (j + 1) from by unfold maxJ; rw [HY.out, ← HX.out, if_pos hyx])
        go_wp2_with fail
        go_roundw
        case rel => exact ⟨j + 1, y, by omega, by first | go_num | (simp; done) | (congr 1; omega), by first | rfl | trivial, HN.out, by first | rfl | trivial⟩
        case measure => simp [intOf]; omega
      · have HN := Lib.hid (show x = maxJ ts (j + 1) from by unfold maxJ; rw [HY.out, ← HX.out, if_neg hyx])
        go_wp2_with fail
        go_roundw
        case rel => exact ⟨j + 1, x, by omega, by first | go_num | (simp; done) | (congr 1; omega), by first | rfl | trivial, HN.out, by first | rfl | trivial⟩
        case measure => simp [intOf]; omega
    · have hjm : ¬ ((j : Int) + 1 < (m : Int)) := by omega
      go_wp2_with fail
      go_ret
      exact ⟨int_ans (by rw [HX.out, show j = m - 1 from by omega]), rfl⟩

set_option maxRecDepth 100000 in
set_option maxHeartbeats 8000000 in
theorem impl_PartialOk (n : Int) (es : List GL) (A : Option Addr) (k c : Nat) (ts : List Int) (T : Option Addr) (m d : Nat) (w : World) (hn : es.length = k) (hm : k ≤ 1048576) (hl : ts.length = m) (hr : LinkAt w A es) (ht : RowAt w T (ts.map intV)) :
    Calls Try.prog 22 #[grV n A k c, .slice T m d] w fun e w' => e = .returned (.bool (pokR n es ts)) ∧ Below w.heap.size w w' := by
  have HS := Lib.hid (fun W h h2 => impl_isTimed n es A k c ts T m d W hn hm hl h h2)
  have HR := Lib.hid hr
  have HT := Lib.hid ht
  have HL := Lib.hid hl
  clear hr hn ht hl
  obtain ⟨ok, hok⟩ : ∃ b, b = tmR n es ts := ⟨_, rfl⟩
  rw [← hok] at HS
  have HO := Lib.hid hok.symm
  clear hok
  unfold grV at HS ⊢
  cases ok with
  | false =>
    have HP := Lib.hid (pok_timed HO.out)
    go_enter Try.func22, Try.ntmps22
    go_wp2_with fail
    refine (HS.out _ (HR.out.below (by repeat (first | exact Below.refl _ _ | refine below_step (by assumption) (by first | omega | (simp; done) | (simp; omega)) ?_ | refine below_drewN ?_ _ | refine Below.drew ?_ | refine Below.setCell ?_ (by first | omega | (simp; done) | (simp; omega)) _ | refine Below.alloc ?_ (by first | omega | (simp; done) | (simp; omega)) _))) (HT.out.below (by repeat (first | exact Below.refl _ _ | refine below_step (by assumption) (by first | omega | (simp; done) | (simp; omega)) ?_ | refine below_drewN ?_ _ | refine Below.drew ?_ | refine Below.setCell ?_ (by first | omega | (simp; done) | (simp; omega)) _ | refine Below.alloc ?_ (by first | omega | (simp; done) | (simp; omega)) _)))).mono ?_
    rintro e w1 ⟨rfl, b1⟩
    go_wp2_with fail
    go_ret
    exact ⟨ret_b HP.out.symm, (by repeat (first | exact Below.refl _ _ | refine below_step (by assumption) (by first | omega | (simp; done) | (simp; omega)) ?_ | refine below_drewN ?_ _ | refine Below.drew ?_ | refine Below.setCell ?_ (by first | omega | (simp; done) | (simp; omega)) _ | refine Below.alloc ?_ (by first | omega | (simp; done) | (simp; omega)) _))⟩
  | true =>
    obtain ⟨hok, hln, _⟩ := tmR_ok HO.out
    have hrg := okS_rng hok
    have hm0 : 0 < m := by have := HL.out; omega
    have hm8 : m ≤ 8 := by have := HL.out; omega
    have HPF := Lib.hid (pok_form HO.out HL.out hm0)
    clear hok hln hrg
    go_enter Try.func22, Try.ntmps22
    go_wp2_with fail
    refine (HS.out _ (HR.out.below (by repeat (first | exact Below.refl _ _ | refine below_step (by assumption) (by first | omega | (simp; done) | (simp; omega)) ?_ | refine below_drewN ?_ _ | refine Below.drew ?_ | refine Below.setCell ?_ (by first | omega | (simp; done) | (simp; omega)) _ | refine Below.alloc ?_ (by first | omega | (simp; done) | (simp; omega)) _))) (HT.out.below (by repeat (first | exact Below.refl _ _ | refine below_step (by assumption) (by first | omega | (simp; done) | (simp; omega)) ?_ | refine below_drewN ?_ _ | refine Below.drew ?_ | refine Below.setCell ?_ (by first | omega | (simp; done) | (simp; omega)) _ | refine Below.alloc ?_ (by first | omega | (simp; done) | (simp; omega)) _)))).mono ?_
    rintro e w1 ⟨rfl, b1⟩
    have B1 : Below w.heap.size w w1 := (by repeat (first | exact Below.refl _ _ | refine below_step (by assumption) (by first | omega | (simp; done) | (simp; omega)) ?_ | refine below_drewN ?_ _ | refine Below.drew ?_ | refine Below.setCell ?_ (by first | omega | (simp; done) | (simp; omega)) _ | refine Below.alloc ?_ (by first | omega | (simp; done) | (simp; omega)) _))
    have HT1 := Lib.hid (HT.out.below B1)
    obtain ⟨g, o, rfl, hg, hc⟩ := row_get HT1.out (q := 0) (by have := HL.out; omega)
    rw [Nat.add_zero] at hc
    obtain ⟨x, hx⟩ : ∃ x, x = ts[0]'(by have := HL.out; omega) := ⟨_, rfl⟩
    rw [← hx] at hc
    have HX := Lib.hid (show ts[0]?.getD 0 = x from by rw [hx, List.getElem?_eq_getElem (by have := HL.out; omega)]; rfl)
    clear b1 hx
    by_cases hx0 : x = 0
    · have hxb : (x == 0) = true := by simp [hx0]
      have HX0 := Lib.hid hx0
      clear hx0
      have hmin := fun W h => slices_Min_any ts (some ⟨g, o, none⟩) m d W HL.out hm0 hm8 h
      have hmax := fun W h => slices_Max_any ts (some ⟨g, o, none⟩) m d W HL.out hm0 hm8 h
      obtain ⟨v, hv⟩ : ∃ v, v = minJ ts (m - 1) := ⟨_, rfl⟩
      obtain ⟨u, hu⟩ : ∃ u, u = maxJ ts (m - 1) := ⟨_, rfl⟩
      rw [← hv] at hmin
      rw [← hu] at hmax
      have HF : Hid (pokR n es ts = (decide (-1 ≤ v) && decide (u < 1000000))) := Lib.hid (by rw [HPF.out, HX.out, ← hv, ← hu, decide_eq_true HX0.out, Bool.true_and])
      have HMIN := Lib.hid hmin
      have HMAX := Lib.hid hmax
      clear hmin hmax hv hu
      go_wp2_with fail
      refine (HMIN.out _ HT1.out).mono ?_
      rintro e w2 ⟨rfl, rfl⟩
      by_cases hv1 : -1 ≤ v
      · have HV1 := Lib.hid (decide_eq_true hv1)
        by_cases hu1 : u < 1000000
        · have HU1 := Lib.hid (decide_eq_true hu1)
          go_wp2_with fail
          refine (HMAX.out _ HT1.out).mono ?_
          rintro e w3 ⟨rfl, rfl⟩
          go_wp2_with fail
          go_ret
          exact ⟨ret_b (by rw [HF.out, HV1.out, HU1.out]; rfl), B1⟩
        · have HU1 := Lib.hid (decide_eq_false hu1)
          go_wp2_with fail
          refine (HMAX.out _ HT1.out).mono ?_
          rintro e w3 ⟨rfl, rfl⟩
          go_wp2_with fail
          go_ret
          exact ⟨ret_b (by rw [HF.out, HV1.out, HU1.out]; rfl), B1⟩
      · have HV1 := Lib.hid (decide_eq_false hv1)
        go_wp2_with fail
        go_ret
        exact ⟨ret_b (by rw [HF.out, HV1.out]; rfl), B1⟩
    · have hxb : (x == 0) = false := by simp [hx0]
      have HX0 := Lib.hid hx0
      clear hx0
      go_wp2_with fail
      go_ret
      exact ⟨ret_b (by rw [HPF.out, HX.out, decide_eq_false HX0.out]; rfl), B1⟩

set_option maxRecDepth 100000 in
set_option maxHeartbeats 4000000 in
theorem impl_CountOpen (ts : List Int) (T : Option Addr) (m d : Nat) (w : World) (hl : ts.length = m) (hml : m ≤ 1048576) (ht : RowAt w T (ts.map intV)) :
    Calls Try.prog 19 #[.slice T m d] w fun e w' => e = .returned (.int .i64 (cntR ts)) ∧ Below w.heap.size w w' := by
  have HT := Lib.hid ht
  have HL := Lib.hid hl
  clear ht hl
  go_enter Try.func19, Try.ntmps19
  go_wp2_with fail
  go_loopw [8, 3] (fun i q wr => ∃ (j : Nat) (z : Int), j ≤ m ∧ i = .int .i64 j ∧ q = .int .i64 z ∧ z = cntR (ts.take j) ∧ wr = w) (fun i _ _ => m - (intOf i).toNat)
  case atStart => exact ⟨0, 0, Nat.zero_le _, rfl, rfl, rfl, rfl⟩
  case round =>
    obtain ⟨j, z, hj, rfl, rfl, hz, hw⟩ := hrel
    obtain rfl : w = wr := hw.symm
    have hzr := cnt_le ts j
    rw [← hz] at hzr
    have HZ := Lib.hid hz
    clear hz hw
    by_cases hlt : j < m
    · obtain ⟨g, o, rfl, hg, hc⟩ := row_get HT.out (q := j) (by have := HL.out; omega)
      have hnx := cnt_next (ts := ts) (j := j) (List.getElem?_eq_getElem (by have := HL.out; omega))
      obtain ⟨y, hy⟩ : ∃ y, y = ts[j]'(by have := HL.out; omega) := ⟨_, rfl⟩
      rw [← hy] at hc hnx
      have HX := Lib.hid hnx
      clear hnx hy
      by_cases hy1 : y = -1
      · have hyb : (y == -1) = true := by simp [hy1]
        have HY := Lib.hid hy1
        clear hy1
        go_wp2_with fail
        go_roundw
        case rel => exact ⟨j + 1, z + 1, by omega, by go_num, by first | rfl | (simp; done) | (congr 1; omega), by rw [HX.out, if_pos HY.out, HZ.out], by first | rfl | trivial⟩
        case measure => simp [intOf]; omega
      · have hyb : (y == -1) = false := by simp [hy1]
        have HY := Lib.hid hy1
        clear hy1
        go_wp2_with fail
        go_roundw
        case rel => exact ⟨j + 1, z, by omega, by go_num, by first | rfl | trivial, by rw [HX.out, if_neg HY.out, HZ.out, Int.add_zero], by first | rfl | trivial⟩
        case measure => simp [intOf]; omega
    · go_wp2_with fail
      go_ret
      exact ⟨int_ans (by rw [HZ.out, List.take_of_length_le (by have := HL.out; omega)]), Below.refl _ _⟩

end Go.Proofs.Yteppmlepbfjnpaa

