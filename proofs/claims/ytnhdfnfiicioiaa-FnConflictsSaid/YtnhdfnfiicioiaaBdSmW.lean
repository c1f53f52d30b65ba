/-
  WALK of spec.WindowOf.
  WALK of spec.EarliestTimes.
  WALK of spec.LatestTimes.
-/
import Derived.Test.YtnhdfnfiicioiaaBdSmF
import Derived.Test.YtnhdfnfiicioiaaCgB
import Derived.Test.YtnhdfnfiicioiaaTbE
import Derived.Deep.AppendLies
namespace Go.Proofs.Ytnhdfnfiicioiaa
open Go.RowKit
set_option linter.unusedVariables false
set_option linter.unusedSimpArgs false

theorem closeR_le (n : Int) (es : List GE) : (closeR n es).2.1.length ≤ 64 := by
  unfold closeR
  split
  · rename_i h
    have := okG_rng h.1
    rw [close_length]
    exact sq_le (by omega)
  · simp

theorem wV_no {n : Int} {es : List GL} {v : Int} (h : consR n es = false) : wV n es v = .tuple #[.agg #[.int .i64 0, .int .i64 0], .bool false] := by
  have hb : wB n es v = false := by unfold wB; rw [h]; rfl
  unfold wV wL wH ivV
  rw [hb]; rfl
theorem wV_yes {n : Int} {es : List GL} {v : Int} (h : consR n es = true) : winV (closeR n (gE es)).1 (wTab n es) 0 v = wV n es v := by
  have hb : wB n es v = winB (closeR n (gE es)).1 (wTab n es) 0 v := by unfold wB; rw [h, Bool.true_and]
  unfold wV winV wL wH
  rw [hb]
  cases hw : winB (closeR n (gE es)).1 (wTab n es) 0 v with
  | false => unfold winL winH; rw [hw]; rfl
  | true => rfl
theorem consR_ok {n : Int} {es : List GL} (h : consR n es = true) : okS n es = true := by unfold consR at h; rw [Bool.and_eq_true] at h; exact h.1

set_option maxRecDepth 100000 in
set_option maxHeartbeats 4000000 in
theorem spec_WindowOf (n : Int) (es : List GL) (A : Option Addr) (k c : Nat) (v : Int) (w : World) (hn : es.length = k) (hm : k ≤ 1048576) (hr : LinkAt w A es) :
    Calls Try.prog 42 #[grV n A k c, .int .i64 v] w fun e w' => e = .returned (wV n es v) ∧ Below w.heap.size w w' := by
  have HS := Lib.hid (fun W h => spec_IsConsistent n es A k c W hn hm h)
  have HG := Lib.hid (fun W h => spec_GraphOf n es A k c W hn hm h)
  have HR := Lib.hid hr
  clear hr hn
  obtain ⟨ok, hok⟩ : ∃ b, b = consR n es := ⟨_, rfl⟩
  rw [← hok] at HS
  have HO := Lib.hid hok.symm
  clear hok
  unfold grV at HS HG ⊢
  cases ok with
  | false =>
    rw [wV_no HO.out]
    go_enter Try.func42, Try.ntmps42
    go_wp2_with fail
    refine (HS.out _ (HR.out.below (by repeat (first | exact Below.refl _ _ | refine below_step (by assumption) (by first | omega | (simp; done) | (simp; omega)) ?_ | refine below_drewN ?_ _ | refine Below.drew ?_ | refine Below.setCell ?_ (by first | omega | (simp; done) | (simp; omega)) _ | refine Below.alloc ?_ (by first | omega | (simp; done) | (simp; omega)) _)))).mono ?_
    rintro e w1 ⟨rfl, b1⟩
    have c0_w1 : w1.cell? ⟨w.heap.size, 0, none⟩ = some (.int .i64 n) := (b1.cell (p := ⟨w.heap.size, 0, none⟩) (by first | omega | (simp; done) | (simp; omega))).trans (by first | assumption | go_simp)
    have c1_w1 : w1.cell? ⟨w.heap.size, 1, none⟩ = some (.slice A k c) := (b1.cell (p := ⟨w.heap.size, 1, none⟩) (by first | omega | (simp; done) | (simp; omega))).trans (by first | assumption | go_simp)
    have c2_w1 : w1.cell? ⟨w.heap.size + 1, 0, none⟩ = some (.int .i64 0) := (b1.cell (p := ⟨w.heap.size + 1, 0, none⟩) (by first | omega | (simp; done) | (simp; omega))).trans (by first | assumption | go_simp)
    have c3_w1 : w1.cell? ⟨w.heap.size + 1, 1, none⟩ = some (.int .i64 0) := (b1.cell (p := ⟨w.heap.size + 1, 1, none⟩) (by first | omega | (simp; done) | (simp; omega))).trans (by first | assumption | go_simp)
    have f0_w1 : w1.frozen? ⟨w.heap.size + 1, 0, none⟩ = false := (b1.frozen (p := ⟨w.heap.size + 1, 0, none⟩) (by first | omega | (simp; done) | (simp; omega))).trans (by first | assumption | go_simp)
    have f1_w1 : w1.frozen? ⟨w.heap.size + 1, 1, none⟩ = false := (b1.frozen (p := ⟨w.heap.size + 1, 1, none⟩) (by first | omega | (simp; done) | (simp; omega))).trans (by first | assumption | go_simp)
    have s0_w1 : w.heap.size < w1.heap.size := Nat.lt_of_lt_of_le (by first | omega | (simp; done) | (simp; omega)) b1.size
    have s1_w1 : w.heap.size + 1 < w1.heap.size := Nat.lt_of_lt_of_le (by first | omega | (simp; done) | (simp; omega)) b1.size
    have B_w1 : Below w.heap.size w w1 := (by repeat (first | exact Below.refl _ _ | refine below_step (by assumption) (by first | omega | (simp; done) | (simp; omega)) ?_ | refine below_drewN ?_ _ | refine Below.drew ?_ | refine Below.setCell ?_ (by first | omega | (simp; done) | (simp; omega)) _ | refine Below.alloc ?_ (by first | omega | (simp; done) | (simp; omega)) _))
    clear b1  
    go_wp2_with fail
    refine bodyPost_ret (v := .tuple #[.agg #[.int .i64 0, .int .i64 0], .bool false]) (by first | (simp [results, Try.results42, go_sem, c2_w1, c3_w1, f2_w1, f3_w1]; done) | simp [*, results, Try.results42, go_sem]) rfl ⟨rfl, by refine Below.setCell (Below.setCell ?_ (by first | omega | (simp; done) | (simp; omega)) _) (by first | omega | (simp; done) | (simp; omega)) _; exact B_w1⟩
  | true =>
    have HOK := Lib.hid (consR_ok HO.out)
    rw [← wV_yes HO.out]
    have HC := Lib.hid (fun A' k' c' W hl hr => spec_CloseGraph n (gE es) A' k' c' W hl (by have := (gE_len80 HOK.out).1; omega) hr)
    have HZ := Lib.hid (show (wTab n es).length ≤ 64 from closeR_le _ _)
    have HW := Lib.hid (fun A' k' c' W hl hr => spec_WindowBetween (closeR n (gE es)).1 (wTab n es) A' k' c' 0 v W hl (by have := HZ.out; omega) hr)
    obtain ⟨t0, ht0⟩ : ∃ t, t = (closeR n (gE es)).1 := ⟨_, rfl⟩
    obtain ⟨zs, hzs⟩ : ∃ t, t = wTab n es := ⟨_, rfl⟩
    obtain ⟨fl, hfl⟩ : ∃ t, t = (closeR n (gE es)).2.2 := ⟨_, rfl⟩
    unfold CgEnd tgV at HC
    unfold wTab at hzs
    rw [← ht0, ← hfl, ← hzs] at HC
    unfold wTab at HW ⊢
    rw [← ht0, ← hzs] at HW ⊢
    unfold winV ivV at HW ⊢
    obtain ⟨lo, hlo⟩ : ∃ t, t = winL t0 zs 0 v := ⟨_, rfl⟩
    obtain ⟨hi, hhi⟩ : ∃ t, t = winH t0 zs 0 v := ⟨_, rfl⟩
    obtain ⟨bw, hbw⟩ : ∃ t, t = winB t0 zs 0 v := ⟨_, rfl⟩
    rw [← hlo, ← hhi, ← hbw] at HW ⊢
    clear hlo hhi hbw ht0 hzs hfl HZ
    unfold grV at HC HW
    go_enter Try.func42, Try.ntmps42
    go_wp2_with fail
    refine (HS.out _ (HR.out.below (by repeat (first | exact Below.refl _ _ | refine below_step (by assumption) (by first | omega | (simp; done) | (simp; omega)) ?_ | refine below_drewN ?_ _ | refine Below.drew ?_ | refine Below.setCell ?_ (by first | omega | (simp; done) | (simp; omega)) _ | refine Below.alloc ?_ (by first | omega | (simp; done) | (simp; omega)) _)))).mono ?_
    rintro e w1 ⟨rfl, b1⟩
    have c0_w1 : w1.cell? ⟨w.heap.size, 0, none⟩ = some (.int .i64 n) := (b1.cell (p := ⟨w.heap.size, 0, none⟩) (by first | omega | (simp; done) | (simp; omega))).trans (by first | assumption | go_simp)
    have c1_w1 : w1.cell? ⟨w.heap.size, 1, none⟩ = some (.slice A k c) := (b1.cell (p := ⟨w.heap.size, 1, none⟩) (by first | omega | (simp; done) | (simp; omega))).trans (by first | assumption | go_simp)
    have c2_w1 : w1.cell? ⟨w.heap.size + 1, 0, none⟩ = some (.int .i64 0) := (b1.cell (p := ⟨w.heap.size + 1, 0, none⟩) (by first | omega | (simp; done) | (simp; omega))).trans (by first | assumption | go_simp)
    have c3_w1 : w1.cell? ⟨w.heap.size + 1, 1, none⟩ = some (.int .i64 0) := (b1.cell (p := ⟨w.heap.size + 1, 1, none⟩) (by first | omega | (simp; done) | (simp; omega))).trans (by first | assumption | go_simp)
    have f0_w1 : w1.frozen? ⟨w.heap.size + 1, 0, none⟩ = false := (b1.frozen (p := ⟨w.heap.size + 1, 0, none⟩) (by first | omega | (simp; done) | (simp; omega))).trans (by first | assumption | go_simp)
    have f1_w1 : w1.frozen? ⟨w.heap.size + 1, 1, none⟩ = false := (b1.frozen (p := ⟨w.heap.size + 1, 1, none⟩) (by first | omega | (simp; done) | (simp; omega))).trans (by first | assumption | go_simp)
    have s0_w1 : w.heap.size < w1.heap.size := Nat.lt_of_lt_of_le (by first | omega | (simp; done) | (simp; omega)) b1.size
    have s1_w1 : w.heap.size + 1 < w1.heap.size := Nat.lt_of_lt_of_le (by first | omega | (simp; done) | (simp; omega)) b1.size
    have B_w1 : Below w.heap.size w w1 := (by repeat (first | exact Below.refl _ _ | refine below_step (by assumption) (by first | omega | (simp; done) | (simp; omega)) ?_ | refine below_drewN ?_ _ | refine Below.drew ?_ | refine Below.setCell ?_ (by first | omega | (simp; done) | (simp; omega)) _ | refine Below.alloc ?_ (by first | omega | (simp; done) | (simp; omega)) _))
    clear b1  
    go_wp2_with fail
    refine (HG.out _ (HR.out.below (by repeat (first | exact Below.refl _ _ | refine below_step (by assumption) (by first | omega | (simp; done) | (simp; omega)) ?_ | refine below_drewN ?_ _ | refine Below.drew ?_ | refine Below.setCell ?_ (by first | omega | (simp; done) | (simp; omega)) _ | refine Below.alloc ?_ (by first | omega | (simp; done) | (simp; omega)) _)))).mono ?_
    rintro e w2 ⟨B, m, cb, rfl, hm1, h2, b2⟩
    have c0_w2 : w2.cell? ⟨w.heap.size, 0, none⟩ = some (.int .i64 n) := (b2.cell (p := ⟨w.heap.size, 0, none⟩) (by first | omega | (simp; done) | (simp; omega))).trans (by first | assumption | go_simp)
    have c1_w2 : w2.cell? ⟨w.heap.size, 1, none⟩ = some (.slice A k c) := (b2.cell (p := ⟨w.heap.size, 1, none⟩) (by first | omega | (simp; done) | (simp; omega))).trans (by first | assumption | go_simp)
    have c2_w2 : w2.cell? ⟨w.heap.size + 1, 0, none⟩ = some (.int .i64 0) := (b2.cell (p := ⟨w.heap.size + 1, 0, none⟩) (by first | omega | (simp; done) | (simp; omega))).trans (by first | assumption | go_simp)
    have c3_w2 : w2.cell? ⟨w.heap.size + 1, 1, none⟩ = some (.int .i64 0) := (b2.cell (p := ⟨w.heap.size + 1, 1, none⟩) (by first | omega | (simp; done) | (simp; omega))).trans (by first | assumption | go_simp)
    have f0_w2 : w2.frozen? ⟨w.heap.size + 1, 0, none⟩ = false := (b2.frozen (p := ⟨w.heap.size + 1, 0, none⟩) (by first | omega | (simp; done) | (simp; omega))).trans (by first | assumption | go_simp)
    have f1_w2 : w2.frozen? ⟨w.heap.size + 1, 1, none⟩ = false := (b2.frozen (p := ⟨w.heap.size + 1, 1, none⟩) (by first | omega | (simp; done) | (simp; omega))).trans (by first | assumption | go_simp)
    have s0_w2 : w.heap.size < w2.heap.size := Nat.lt_of_lt_of_le (by first | omega | (simp; done) | (simp; omega)) b2.size
    have s1_w2 : w.heap.size + 1 < w2.heap.size := Nat.lt_of_lt_of_le (by first | omega | (simp; done) | (simp; omega)) b2.size
    have B_w2 : Below w.heap.size w w2 := (by repeat (first | exact Below.refl _ _ | refine below_step (by assumption) (by first | omega | (simp; done) | (simp; omega)) ?_ | refine below_drewN ?_ _ | refine Below.drew ?_ | refine Below.setCell ?_ (by first | omega | (simp; done) | (simp; omega)) _ | refine Below.alloc ?_ (by first | omega | (simp; done) | (simp; omega)) _))
    clear b2 c0_w1 c1_w1 c2_w1 c3_w1 f0_w1 f1_w1 s0_w1 s1_w1 B_w1
    rw [grE_yes HOK.out] at hm1 h2
    have HE := Lib.hid (own_edgeS h2)
    have HM1 := Lib.hid hm1
    clear h2 hm1
    unfold grV
    rw [grN_yes HOK.out]
    go_wp2_with fail
    refine (HC.out B m cb _ HM1.out.symm HE.out).mono ?_
    rintro e w3 ⟨D, q, cd, rfl, hq, h3, b3⟩
    have c0_w3 : w3.cell? ⟨w.heap.size, 0, none⟩ = some (.int .i64 n) := (b3.cell (p := ⟨w.heap.size, 0, none⟩) (by first | omega | (simp; done) | (simp; omega))).trans (by first | assumption | go_simp)
    have c1_w3 : w3.cell? ⟨w.heap.size, 1, none⟩ = some (.slice A k c) := (b3.cell (p := ⟨w.heap.size, 1, none⟩) (by first | omega | (simp; done) | (simp; omega))).trans (by first | assumption | go_simp)
    have c2_w3 : w3.cell? ⟨w.heap.size + 1, 0, none⟩ = some (.int .i64 0) := (b3.cell (p := ⟨w.heap.size + 1, 0, none⟩) (by first | omega | (simp; done) | (simp; omega))).trans (by first | assumption | go_simp)
    have c3_w3 : w3.cell? ⟨w.heap.size + 1, 1, none⟩ = some (.int .i64 0) := (b3.cell (p := ⟨w.heap.size + 1, 1, none⟩) (by first | omega | (simp; done) | (simp; omega))).trans (by first | assumption | go_simp)
    have f0_w3 : w3.frozen? ⟨w.heap.size + 1, 0, none⟩ = false := (b3.frozen (p := ⟨w.heap.size + 1, 0, none⟩) (by first | omega | (simp; done) | (simp; omega))).trans (by first | assumption | go_simp)
    have f1_w3 : w3.frozen? ⟨w.heap.size + 1, 1, none⟩ = false := (b3.frozen (p := ⟨w.heap.size + 1, 1, none⟩) (by first | omega | (simp; done) | (simp; omega))).trans (by first | assumption | go_simp)
    have s0_w3 : w.heap.size < w3.heap.size := Nat.lt_of_lt_of_le (by first | omega | (simp; done) | (simp; omega)) b3.size
    have s1_w3 : w.heap.size + 1 < w3.heap.size := Nat.lt_of_lt_of_le (by first | omega | (simp; done) | (simp; omega)) b3.size
    have B_w3 : Below w.heap.size w w3 := (by repeat (first | exact Below.refl _ _ | refine below_step (by assumption) (by first | omega | (simp; done) | (simp; omega)) ?_ | refine below_drewN ?_ _ | refine Below.drew ?_ | refine Below.setCell ?_ (by first | omega | (simp; done) | (simp; omega)) _ | refine Below.alloc ?_ (by first | omega | (simp; done) | (simp; omega)) _))
    clear b3 c0_w2 c1_w2 c2_w2 c3_w2 f0_w2 f1_w2 s0_w2 s1_w2 B_w2
    have HD := Lib.hid (own_row h3)
    have HQ := Lib.hid hq
    clear h3 hq HE
    have HD4 := Lib.hid (HD.out.below ((Below.refl _ w3).alloc (Nat.le_refl _) (.cells #[.int .i64 t0, .slice D q cd] 86)))
    go_wp2_with fail
    refine (HW.out D q cd _ HQ.out.symm HD4.out).mono ?_
    rintro e w4 ⟨rfl, b4⟩
    have c0_w4 : w4.cell? ⟨w.heap.size, 0, none⟩ = some (.int .i64 n) := (b4.cell (p := ⟨w.heap.size, 0, none⟩) (by first | omega | (simp; done) | (simp; omega))).trans (by first | assumption | go_simp)
    have c1_w4 : w4.cell? ⟨w.heap.size, 1, none⟩ = some (.slice A k c) := (b4.cell (p := ⟨w.heap.size, 1, none⟩) (by first | omega | (simp; done) | (simp; omega))).trans (by first | assumption | go_simp)
    have c2_w4 : w4.cell? ⟨w.heap.size + 1, 0, none⟩ = some (.int .i64 0) := (b4.cell (p := ⟨w.heap.size + 1, 0, none⟩) (by first | omega | (simp; done) | (simp; omega))).trans (by first | assumption | go_simp)
    have c3_w4 : w4.cell? ⟨w.heap.size + 1, 1, none⟩ = some (.int .i64 0) := (b4.cell (p := ⟨w.heap.size + 1, 1, none⟩) (by first | omega | (simp; done) | (simp; omega))).trans (by first | assumption | go_simp)
    have f0_w4 : w4.frozen? ⟨w.heap.size + 1, 0, none⟩ = false := (b4.frozen (p := ⟨w.heap.size + 1, 0, none⟩) (by first | omega | (simp; done) | (simp; omega))).trans (by first | assumption | go_simp)
    have f1_w4 : w4.frozen? ⟨w.heap.size + 1, 1, none⟩ = false := (b4.frozen (p := ⟨w.heap.size + 1, 1, none⟩) (by first | omega | (simp; done) | (simp; omega))).trans (by first | assumption | go_simp)
    have s0_w4 : w.heap.size < w4.heap.size := Nat.lt_of_lt_of_le (by first | omega | (simp; done) | (simp; omega)) b4.size
    have s1_w4 : w.heap.size + 1 < w4.heap.size := Nat.lt_of_lt_of_le (by first | omega | (simp; done) | (simp; omega)) b4.size
    have B_w4 : Below w.heap.size w w4 := (by repeat (first | exact Below.refl _ _ | refine below_step (by assumption) (by first | omega | (simp; done) | (simp; omega)) ?_ | refine below_drewN ?_ _ | refine Below.drew ?_ | refine Below.setCell ?_ (by first | omega | (simp; done) | (simp; omega)) _ | refine Below.alloc ?_ (by first | omega | (simp; done) | (simp; omega)) _))
    clear b4 c0_w3 c1_w3 c2_w3 c3_w3 f0_w3 f1_w3 s0_w3 s1_w3 B_w3
    go_wp2_with fail
    refine bodyPost_ret (v := .tuple #[.agg #[.int .i64 lo, .int .i64 hi], .bool bw]) (by first | (simp [results, Try.results42, go_sem, c2_w4, c3_w4, f2_w4, f3_w4]; done) | simp [*, results, Try.results42, go_sem]) rfl ⟨rfl, by refine Below.setCell (Below.setCell ?_ (by first | omega | (simp; done) | (simp; omega)) _) (by first | omega | (simp; done) | (simp; omega)) _; exact B_w4⟩

end Go.Proofs.Ytnhdfnfiicioiaa

namespace Go.Proofs.Ytnhdfnfiicioiaa
open Go.RowKit
set_option linter.unusedVariables false
set_option linter.unusedSimpArgs false

def earG (n : Int) (es : List GL) (i : Nat) : Bool := wB n es i && decide (wL n es i ≠ (-1000000))
def earL (n : Int) (es : List GL) (j : Nat) : List Int := (List.range j).map (fun i : Nat => wL n es i)
def earR (n : Int) (es : List GL) : List Int × Bool := if (List.range (min n.toNat 8)).all (earG n es) then (earL n es (min n.toNat 8), decide (0 < min n.toNat 8)) else ([], false)
theorem earL_next (n : Int) (es : List GL) (j : Nat) : (earL n es (j + 1)).map intV = (earL n es j).map intV ++ [.int .i64 (wL n es j)] := by unfold earL; rw [List.range_succ]; simp [intV]
theorem earL_length (n : Int) (es : List GL) (j : Nat) : (earL n es j).length = j := by unfold earL; simp
theorem ear_all {n : Int} {es : List GL} {j : Nat} (h : (List.range j).all (earG n es) = true) (hj : earG n es j = true) : (List.range (j + 1)).all (earG n es) = true := by
  rw [List.range_succ, List.all_append, h]; simpa using hj
theorem earR_bad {n : Int} {es : List GL} {j : Nat} (h : j < min n.toNat 8) (hj : earG n es j = false) : earR n es = ([], false) := by
  have : (List.range (min n.toNat 8)).all (earG n es) = false := by rw [List.all_eq_false]; exact ⟨j, by simp; omega, by simp [hj]⟩
  unfold earR
  rw [this]; rfl
theorem earR_good {n : Int} {es : List GL} (h : (List.range (min n.toNat 8)).all (earG n es) = true) : earR n es = (earL n es (min n.toNat 8), decide (0 < min n.toNat 8)) := by
  unfold earR; rw [h]; rfl
theorem earR_len (n : Int) (es : List GL) : (earR n es).1.length ≤ 8 := by
  unfold earR
  split
  · dsimp only; rw [earL_length]; omega
  · simp

set_option maxRecDepth 100000 in
set_option maxHeartbeats 8000000 in
theorem spec_EarliestTimes (n : Int) (es : List GL) (A : Option Addr) (k c : Nat) (w : World) (hn : es.length = k) (hm : k ≤ 1048576) (hr : LinkAt w A es) :
    Calls Try.prog 44 #[grV n A k c] w fun e w' => ∃ B m cb, e = .returned (.tuple #[.slice B m cb, .bool (earR n es).2]) ∧ m = (earR n es).1.length ∧ w'.ownsRow w.heap.size 3 1 (.slice B m cb) m ((earR n es).1.map intV) ∧ Below w.heap.size w w' := by
  have HW := Lib.hid (fun (v : Int) W h => spec_WindowOf n es A k c v W hn hm h)
  have HR := Lib.hid hr
  clear hr hn
  obtain ⟨i1, hii, hy0, hy1, hy2⟩ := info_parts Try.info3
  unfold grV at HW ⊢
  unfold wV ivV at HW
  obtain ⟨N, hN⟩ : ∃ N, N = min n.toNat 8 := ⟨_, rfl⟩
  have hN8 : N ≤ 8 := by omega
  have HN := Lib.hid hN
  have hlo : ∀ j : Nat, j < N → (j : Int) < n ∧ (j : Int) < 8 := fun j hj => by omega
  have hhi : ¬ (N : Int) < n ∨ ((N : Int) < n ∧ ¬ (N : Int) < 8) := by omega
  have HLO := Lib.hid hlo
  have HHI := Lib.hid hhi
  clear hN hlo hhi
  go_enter Try.func44, Try.ntmps44
  go_wp2_with fail
  go_loopw [5, 4] (fun ii ou wr => ∃ (j : Nat) (A2 : Option Addr) (d2 : Nat), j ≤ N ∧ ii = .int .i64 j ∧ ou = .slice A2 j d2 ∧ (List.range j).all (earG n es) = true ∧ wr.ownsRow (w.heap.size + 1) 3 1 (.slice A2 j d2) j ((earL n es j).map intV) ∧ wr.cell? ⟨w.heap.size, 0, none⟩ = some (.int .i64 n) ∧ wr.cell? ⟨w.heap.size, 1, none⟩ = some (.slice A k c) ∧ w.heap.size < wr.heap.size ∧ Below w.heap.size w wr) (fun ii _ _ => N - (intOf ii).toNat)
  case atStart => exact ⟨0, _, _, Nat.zero_le _, rfl, rfl, rfl, own_emp _ (by first | omega | simp) (by first | exact heap_made _ _ _ (by simp) | exact heap_kept (heap_made _ _ _ (by simp))), by go_simp, by go_simp, (by first | omega | (simp; done) | (simp; omega)), (by repeat (first | exact Below.refl _ _ | refine below_step (by assumption) (by first | omega | (simp; done) | (simp; omega)) ?_ | refine below_drewN ?_ _ | refine Below.drew ?_ | refine Below.setCell ?_ (by first | omega | (simp; done) | (simp; omega)) _ | refine Below.alloc ?_ (by first | omega | (simp; done) | (simp; omega)) _))⟩
  case round =>
    obtain ⟨j, A2, d2, hj, rfl, rfl, hall, hown, hcn, hca, hsz, hbw⟩ := hrel
    have HA := Lib.hid hall
    clear hall
    by_cases hlt : j < N
    · obtain ⟨hl1, hl2⟩ := HLO.out j hlt
      have HC := Lib.hid (fun W h => HW.out (j : Int) W h)
      obtain ⟨lo, hlo⟩ : ∃ t, t = wL n es j := ⟨_, rfl⟩
      obtain ⟨hi, hhi⟩ : ∃ t, t = wH n es j := ⟨_, rfl⟩
      obtain ⟨bw, hbo⟩ : ∃ t, t = wB n es j := ⟨_, rfl⟩
      rw [← hlo, ← hhi, ← hbo] at HC
      have HV := Lib.hid hlo
      have HB := Lib.hid hbo
      have HOW := Lib.hid hown
      have HBR := Lib.hid (HR.out.below hbw)
      clear hlo hhi hbo hown
      cases bw with
      | false =>
        have HG := Lib.hid (show earG n es j = false from by unfold earG; rw [← HB.out]; rfl)
        go_wp2_with (go_at_call 42; refine (HC.out _ (by exact HBR.out)).mono ?_; rintro e w2 ⟨rfl, b2⟩; have k0 : w2.cell? ⟨w.heap.size, 0, none⟩ = some (.int .i64 n) := (b2.cell (p := ⟨w.heap.size, 0, none⟩) (by dsimp only; omega)).trans hcn; have k1 : w2.cell? ⟨w.heap.size, 1, none⟩ = some (.slice A k c) := (b2.cell (p := ⟨w.heap.size, 1, none⟩) (by dsimp only; omega)).trans hca; have s2 : w.heap.size < w2.heap.size := Nat.lt_of_lt_of_le hsz b2.size; have HO2 := Lib.hid (own_below HOW.out b2); have hbw2 : Below w.heap.size w w2 := hbw.trans (b2.mono hbw.size); have ng : (w.heap.size = w2.heap.size) = False := eq_false (by omega); have ng2 : (w2.heap.size = w.heap.size) = False := eq_false (by omega); clear b2)
        refine bodyPost_ret (v := .tuple #[.slice none 0 0, .bool false]) (by simp [results, Try.results44, go_sem]) rfl ?_
        exact ⟨none, 0, 0, by rw [earR_bad (j := j) (by have := HN.out; omega) HG.out], by rw [earR_bad (j := j) (by have := HN.out; omega) HG.out]; rfl, by rw [earR_bad (j := j) (by have := HN.out; omega) HG.out]; exact World.ownsRow_nil _ _ _ _, (by repeat (first | exact Below.refl _ _ | refine below_step (by assumption) (by first | omega | (simp; done) | (simp; omega)) ?_ | refine below_drewN ?_ _ | refine Below.drew ?_ | refine Below.setCell ?_ (by first | omega | (simp; done) | (simp; omega)) _ | refine Below.alloc ?_ (by first | omega | (simp; done) | (simp; omega)) _))⟩
      | true =>
        by_cases hbad : lo = (-1000000)
        · have HG := Lib.hid (show earG n es j = false from by unfold earG; rw [← HV.out, hbad]; simp)
          have hbb : (lo == (-1000000)) = true := by simp [hbad]
          clear hbad
          go_wp2_with (go_at_call 42; refine (HC.out _ (by exact HBR.out)).mono ?_; rintro e w2 ⟨rfl, b2⟩; have k0 : w2.cell? ⟨w.heap.size, 0, none⟩ = some (.int .i64 n) := (b2.cell (p := ⟨w.heap.size, 0, none⟩) (by dsimp only; omega)).trans hcn; have k1 : w2.cell? ⟨w.heap.size, 1, none⟩ = some (.slice A k c) := (b2.cell (p := ⟨w.heap.size, 1, none⟩) (by dsimp only; omega)).trans hca; have s2 : w.heap.size < w2.heap.size := Nat.lt_of_lt_of_le hsz b2.size; have HO2 := Lib.hid (own_below HOW.out b2); have hbw2 : Below w.heap.size w w2 := hbw.trans (b2.mono hbw.size); have ng : (w.heap.size = w2.heap.size) = False := eq_false (by omega); have ng2 : (w2.heap.size = w.heap.size) = False := eq_false (by omega); clear b2)
          refine bodyPost_ret (v := .tuple #[.slice none 0 0, .bool false]) (by simp [results, Try.results44, go_sem]) rfl ?_
          exact ⟨none, 0, 0, by rw [earR_bad (j := j) (by have := HN.out; omega) HG.out], by rw [earR_bad (j := j) (by have := HN.out; omega) HG.out]; rfl, by rw [earR_bad (j := j) (by have := HN.out; omega) HG.out]; exact World.ownsRow_nil _ _ _ _, (by repeat (first | exact Below.refl _ _ | refine below_step (by assumption) (by first | omega | (simp; done) | (simp; omega)) ?_ | refine below_drewN ?_ _ | refine Below.drew ?_ | refine Below.setCell ?_ (by first | omega | (simp; done) | (simp; omega)) _ | refine Below.alloc ?_ (by first | omega | (simp; done) | (simp; omega)) _))⟩
        · have HG := Lib.hid (show earG n es j = true from by unfold earG; rw [← HV.out, ← HB.out]; simp [hbad])
          have hbb : (lo == (-1000000)) = false := by simp [hbad]
          clear hbad
          go_wp2_with (first | (go_at_call 42; refine (HC.out _ (by exact HBR.out)).mono ?_; rintro e w2 ⟨rfl, b2⟩; have k0 : w2.cell? ⟨w.heap.size, 0, none⟩ = some (.int .i64 n) := (b2.cell (p := ⟨w.heap.size, 0, none⟩) (by dsimp only; omega)).trans hcn; have k1 : w2.cell? ⟨w.heap.size, 1, none⟩ = some (.slice A k c) := (b2.cell (p := ⟨w.heap.size, 1, none⟩) (by dsimp only; omega)).trans hca; have s2 : w.heap.size < w2.heap.size := Nat.lt_of_lt_of_le hsz b2.size; have HO2 := Lib.hid (own_below HOW.out b2); have hbw2 : Below w.heap.size w w2 := hbw.trans (b2.mono hbw.size); have ng : (w.heap.size = w2.heap.size) = False := eq_false (by omega); have ng2 : (w2.heap.size = w.heap.size) = False := eq_false (by omega); clear b2) | (at_builtin; refine wpList_append_lies _ rfl _ _ 28 rfl (w.heap.size + 1) 3 i1 (.int .i64 0) 1 8 Try.underlying28 hii hy0 hy1 hy2 rfl (by decide) _ _ _ rfl ((HO2.out.alloc _).alloc _) ⟨_, 0, none⟩ 1 1 _ rfl rfl (World.news_of_block (heap_made _ _ _ (by first | rfl | simp))) (one_c1 _) (by decide) (by unfold maxLen; omega) (by omega) (by simp; omega) _ rfl ?_))
          intro g3 cap w6 ho6 hg6 hat6 hl6
          have ltO := HO2.out.lt
          have nb : (Value.slice A2 j d2).ownBlock ≠ some w.heap.size := fun h => by have := (ltO _ h).1; omega
          have hb3 : Below w2.heap.size w2 ((w2.alloc (.cells #[.int .i64 lo, .int .i64 hi] 36)).alloc (.cells #[.int .i64 lo] 3)) := ((Below.refl _ _).alloc (Nat.le_refl _) _).alloc (by simp) _
          have q0 := grown_cellS hg6 (b := w.heap.size) (o := 0) (v := .int .i64 n) ((hb3.cell (p := ⟨w.heap.size, 0, none⟩) s2).trans k0) nb
          have q1 := grown_cellS hg6 (b := w.heap.size) (o := 1) (v := .slice A k c) ((hb3.cell (p := ⟨w.heap.size, 1, none⟩) s2).trans k1) nb
          have s6 : w.heap.size < w6.heap.size := Nat.lt_of_lt_of_le (by have := hb3.size; omega) hg6.size
          have B6 : Below w.heap.size w w6 := (hbw2.trans (hb3.mono (Nat.le_of_lt s2))).grown hg6 (by have := hb3.size; omega) (fun r hr => by have := (ltO _ hr).1; omega)
          have HO6 : Hid (w6.ownsRow (w.heap.size + 1) 3 1 (.slice (some ⟨g3, 0, none⟩) (j + 1) cap) (j + 1) ((earL n es (j + 1)).map intV)) := Lib.hid (by rw [earL_next, ← HV.out]; exact ho6)
          clear ho6 hg6 hat6 hl6 hb3 ltO nb k0 k1
          go_wp2_with fail
          go_roundw
          case rel => exact ⟨j + 1, some ⟨g3, 0, none⟩, cap, by omega, by go_num, rfl, ear_all HA.out HG.out, HO6.out, q0, q1, s6, B6⟩
          case measure => simp [intOf]; omega
    · have hjN : j = N := by omega
      subst hjN
      have HRR := Lib.hid (show earR n es = (earL n es j, decide (0 < j)) from by rw [earR_good (n := n) (es := es) (by rw [← HN.out]; exact HA.out), ← HN.out])
      have HOW := Lib.hid hown
      clear hown
      rcases HHI.out with h1 | ⟨h1, h2⟩
      · go_wp2_with fail
        refine bodyPost_ret (v := .tuple #[.slice A2 j d2, .bool (decide (0 < j))]) (by simp [results, Try.results44, go_sem]) rfl ?_
        exact ⟨A2, j, d2, by rw [HRR.out], by rw [HRR.out]; exact (earL_length n es j).symm, by rw [HRR.out]; exact own_base HOW.out (by omega), hbw⟩
      · go_wp2_with fail
        refine bodyPost_ret (v := .tuple #[.slice A2 j d2, .bool (decide (0 < j))]) (by simp [results, Try.results44, go_sem]) rfl ?_
        exact ⟨A2, j, d2, by rw [HRR.out], by rw [HRR.out]; exact (earL_length n es j).symm, by rw [HRR.out]; exact own_base HOW.out (by omega), hbw⟩

end Go.Proofs.Ytnhdfnfiicioiaa

namespace Go.Proofs.Ytnhdfnfiicioiaa
open Go.RowKit
set_option linter.unusedVariables false
set_option linter.unusedSimpArgs false

def latG (n : Int) (es : List GL) (i : Nat) : Bool := wB n es i && decide (wH n es i ≠ 1000000)
def latL (n : Int) (es : List GL) (j : Nat) : List Int := (List.range j).map (fun i : Nat => wH n es i)
def latR (n : Int) (es : List GL) : List Int × Bool := if (List.range (min n.toNat 8)).all (latG n es) then (latL n es (min n.toNat 8), decide (0 < min n.toNat 8)) else ([], false)
theorem latL_next (n : Int) (es : List GL) (j : Nat) : (latL n es (j + 1)).map intV = (latL n es j).map intV ++ [.int .i64 (wH n es j)] := by unfold latL; rw [List.range_succ]; simp [intV]
theorem latL_length (n : Int) (es : List GL) (j : Nat) : (latL n es j).length = j := by unfold latL; simp
theorem lat_all {n : Int} {es : List GL} {j : Nat} (h : (List.range j).all (latG n es) = true) (hj : latG n es j = true) : (List.range (j + 1)).all (latG n es) = true := by
  rw [List.range_succ, List.all_append, h]; simpa using hj
theorem latR_bad {n : Int} {es : List GL} {j : Nat} (h : j < min n.toNat 8) (hj : latG n es j = false) : latR n es = ([], false) := by
  have : (List.range (min n.toNat 8)).all (latG n es) = false := by rw [List.all_eq_false]; exact ⟨j, by simp; omega, by simp [hj]⟩
  unfold latR
  rw [this]; rfl
theorem latR_good {n : Int} {es : List GL} (h : (List.range (min n.toNat 8)).all (latG n es) = true) : latR n es = (latL n es (min n.toNat 8), decide (0 < min n.toNat 8)) := by
  unfold latR; rw [h]; rfl
theorem latR_len (n : Int) (es : List GL) : (latR n es).1.length ≤ 8 := by
  unfold latR
  split
  · dsimp only; rw [latL_length]; omega
  · simp

set_option maxRecDepth 100000 in
set_option maxHeartbeats 8000000 in
theorem spec_LatestTimes (n : Int) (es : List GL) (A : Option Addr) (k c : Nat) (w : World) (hn : es.length = k) (hm : k ≤ 1048576) (hr : LinkAt w A es) :
    Calls Try.prog 45 #[grV n A k c] w fun e w' => ∃ B m cb, e = .returned (.tuple #[.slice B m cb, .bool (latR n es).2]) ∧ m = (latR n es).1.length ∧ w'.ownsRow w.heap.size 3 1 (.slice B m cb) m ((latR n es).1.map intV) ∧ Below w.heap.size w w' := by
  have HW := Lib.hid (fun (v : Int) W h => spec_WindowOf n es A k c v W hn hm h)
  have HR := Lib.hid hr
  clear hr hn
  obtain ⟨i1, hii, hy0, hy1, hy2⟩ := info_parts Try.info3
  unfold grV at HW ⊢
  unfold wV ivV at HW
  obtain ⟨N, hN⟩ : ∃ N, N = min n.toNat 8 := ⟨_, rfl⟩
  have hN8 : N ≤ 8 := by omega
  have HN := Lib.hid hN
  have hlo : ∀ j : Nat, j < N → (j : Int) < n ∧ (j : Int) < 8 := fun j hj => by omega
  have hhi : ¬ (N : Int) < n ∨ ((N : Int) < n ∧ ¬ (N : Int) < 8) := by omega
  have HLO := Lib.hid hlo
  have HHI := Lib.hid hhi
  clear hN hlo hhi
  go_enter Try.func45, Try.ntmps45
  go_wp2_with fail
  go_loopw [5, 4] (fun ii ou wr => ∃ (j : Nat) (A2 : Option Addr) (d2 : Nat), j ≤ N ∧ ii = .int .i64 j ∧ ou = .slice A2 j d2 ∧ (List.range j).all (latG n es) = true ∧ wr.ownsRow (w.heap.size + 1) 3 1 (.slice A2 j d2) j ((latL n es j).map intV) ∧ wr.cell? ⟨w.heap.size, 0, none⟩ = some (.int .i64 n) ∧ wr.cell? ⟨w.heap.size, 1, none⟩ = some (.slice A k c) ∧ w.heap.size < wr.heap.size ∧ Below w.heap.size w wr) (fun ii _ _ => N - (intOf ii).toNat)
  case atStart => exact ⟨0, _, _, Nat.zero_le _, rfl, rfl, rfl, own_emp _ (by first | omega | simp) (by first | exact heap_made _ _ _ (by simp) | exact heap_kept (heap_made _ _ _ (by simp))), by go_simp, by go_simp, (by first | omega | (simp; done) | (simp; omega)), (by repeat (first | exact Below.refl _ _ | refine below_step (by assumption) (by first | omega | (simp; done) | (simp; omega)) ?_ | refine below_drewN ?_ _ | refine Below.drew ?_ | refine Below.setCell ?_ (by first | omega | (simp; done) | (simp; omega)) _ | refine Below.alloc ?_ (by first | omega | (simp; done) | (simp; omega)) _))⟩
  case round =>
    obtain ⟨j, A2, d2, hj, rfl, rfl, hall, hown, hcn, hca, hsz, hbw⟩ := hrel
    have HA := Lib.hid hall
    clear hall
    by_cases hlt : j < N
    · obtain ⟨hl1, hl2⟩ := HLO.out j hlt
      have HC := Lib.hid (fun W h => HW.out (j : Int) W h)
      obtain ⟨lo, hlo⟩ : ∃ t, t = wL n es j := ⟨_, rfl⟩
      obtain ⟨hi, hhi⟩ : ∃ t, t = wH n es j := ⟨_, rfl⟩
      obtain ⟨bw, hbo⟩ : ∃ t, t = wB n es j := ⟨_, rfl⟩
      rw [← hlo, ← hhi, ← hbo] at HC
      have HV := Lib.hid hhi
      have HB := Lib.hid hbo
      have HOW := Lib.hid hown
      have HBR := Lib.hid (HR.out.below hbw)
      clear hlo hhi hbo hown
      cases bw with
      | false =>
        have HG := Lib.hid (show latG n es j = false from by unfold latG; rw [← HB.out]; rfl)
        go_wp2_with (go_at_call 42; refine (HC.out _ (by exact HBR.out)).mono ?_; rintro e w2 ⟨rfl, b2⟩; have k0 : w2.cell? ⟨w.heap.size, 0, none⟩ = some (.int .i64 n) := (b2.cell (p := ⟨w.heap.size, 0, none⟩) (by dsimp only; omega)).trans hcn; have k1 : w2.cell? ⟨w.heap.size, 1, none⟩ = some (.slice A k c) := (b2.cell (p := ⟨w.heap.size, 1, none⟩) (by dsimp only; omega)).trans hca; have s2 : w.heap.size < w2.heap.size := Nat.lt_of_lt_of_le hsz b2.size; have HO2 := Lib.hid (own_below HOW.out b2); have hbw2 : Below w.heap.size w w2 := hbw.trans (b2.mono hbw.size); have ng : (w.heap.size = w2.heap.size) = False := eq_false (by omega); have ng2 : (w2.heap.size = w.heap.size) = False := eq_false (by omega); clear b2)
        refine bodyPost_ret (v := .tuple #[.slice none 0 0, .bool false]) (by simp [results, Try.results45, go_sem]) rfl ?_
        exact ⟨none, 0, 0, by rw [latR_bad (j := j) (by have := HN.out; omega) HG.out], by rw [latR_bad (j := j) (by have := HN.out; omega) HG.out]; rfl, by rw [latR_bad (j := j) (by have := HN.out; omega) HG.out]; exact World.ownsRow_nil _ _ _ _, (by repeat (first | exact Below.refl _ _ | refine below_step (by assumption) (by first | omega | (simp; done) | (simp; omega)) ?_ | refine below_drewN ?_ _ | refine Below.drew ?_ | refine Below.setCell ?_ (by first | omega | (simp; done) | (simp; omega)) _ | refine Below.alloc ?_ (by first | omega | (simp; done) | (simp; omega)) _))⟩
      | true =>
        by_cases hbad : hi = 1000000
        · have HG := Lib.hid (show latG n es j = false from by unfold latG; rw [← HV.out, hbad]; simp)
          have hbb : (hi == 1000000) = true := by simp [hbad]
          clear hbad
          go_wp2_with (go_at_call 42; refine (HC.out _ (by exact HBR.out)).mono ?_; rintro e w2 ⟨rfl, b2⟩; have k0 : w2.cell? ⟨w.heap.size, 0, none⟩ = some (.int .i64 n) := (b2.cell (p := ⟨w.heap.size, 0, none⟩) (by dsimp only; omega)).trans hcn; have k1 : w2.cell? ⟨w.heap.size, 1, none⟩ = some (.slice A k c) := (b2.cell (p := ⟨w.heap.size, 1, none⟩) (by dsimp only; omega)).trans hca; have s2 : w.heap.size < w2.heap.size := Nat.lt_of_lt_of_le hsz b2.size; have HO2 := Lib.hid (own_below HOW.out b2); have hbw2 : Below w.heap.size w w2 := hbw.trans (b2.mono hbw.size); have ng : (w.heap.size = w2.heap.size) = False := eq_false (by omega); have ng2 : (w2.heap.size = w.heap.size) = False := eq_false (by omega); clear b2)
          refine bodyPost_ret (v := .tuple #[.slice none 0 0, .bool false]) (by simp [results, Try.results45, go_sem]) rfl ?_
          exact ⟨none, 0, 0, by rw [latR_bad (j := j) (by have := HN.out; omega) HG.out], by rw [latR_bad (j := j) (by have := HN.out; omega) HG.out]; rfl, by rw [latR_bad (j := j) (by have := HN.out; omega) HG.out]; exact World.ownsRow_nil _ _ _ _, (by repeat (first | exact Below.refl _ _ | refine below_step (by assumption) (by first | omega | (simp; done) | (simp; omega)) ?_ | refine below_drewN ?_ _ | refine Below.drew ?_ | refine Below.setCell ?_ (by first | omega | (simp; done) | (simp; omega)) _ | refine Below.alloc ?_ (by first | omega | (simp; done) | (simp; omega)) _))⟩
        · have HG := Lib.hid (show latG n es j = true from by unfold latG; rw [← HV.out, ← HB.out]; simp [hbad])
          have hbb : (hi == 1000000) = false := by simp [hbad]
          clear hbad
          go_wp2_with (first | (go_at_call 42; refine (HC.out _ (by exact HBR.out)).mono ?_; rintro e w2 ⟨rfl, b2⟩; have k0 : w2.cell? ⟨w.heap.size, 0, none⟩ = some (.int .i64 n) := (b2.cell (p := ⟨w.heap.size, 0, none⟩) (by dsimp only; omega)).trans hcn; have k1 : w2.cell? ⟨w.heap.size, 1, none⟩ = some (.slice A k c) := (b2.cell (p := ⟨w.heap.size, 1, none⟩) (by dsimp only; omega)).trans hca; have s2 : w.heap.size < w2.heap.size := Nat.lt_of_lt_of_le hsz b2.size; have HO2 := Lib.hid (own_below HOW.out b2); have hbw2 : Below w.heap.size w w2 := hbw.trans (b2.mono hbw.size); have ng : (w.heap.size = w2.heap.size) = False := eq_false (by omega); have ng2 : (w2.heap.size = w.heap.size) = False := eq_false (by omega); clear b2) | (at_builtin; refine wpList_append_lies _ rfl _ _ 28 rfl (w.heap.size + 1) 3 i1 (.int .i64 0) 1 8 Try.underlying28 hii hy0 hy1 hy2 rfl (by decide) _ _ _ rfl ((HO2.out.alloc _).alloc _) ⟨_, 0, none⟩ 1 1 _ rfl rfl (World.news_of_block (heap_made _ _ _ (by first | rfl | simp))) (one_c1 _) (by decide) (by unfold maxLen; omega) (by omega) (by simp; omega) _ rfl ?_))
          intro g3 cap w6 ho6 hg6 hat6 hl6
          have ltO := HO2.out.lt
          have nb : (Value.slice A2 j d2).ownBlock ≠ some w.heap.size := fun h => by have := (ltO _ h).1; omega
          have hb3 : Below w2.heap.size w2 ((w2.alloc (.cells #[.int .i64 lo, .int .i64 hi] 36)).alloc (.cells #[.int .i64 hi] 3)) := ((Below.refl _ _).alloc (Nat.le_refl _) _).alloc (by simp) _
          have q0 := grown_cellS hg6 (b := w.heap.size) (o := 0) (v := .int .i64 n) ((hb3.cell (p := ⟨w.heap.size, 0, none⟩) s2).trans k0) nb
          have q1 := grown_cellS hg6 (b := w.heap.size) (o := 1) (v := .slice A k c) ((hb3.cell (p := ⟨w.heap.size, 1, none⟩) s2).trans k1) nb
          have s6 : w.heap.size < w6.heap.size := Nat.lt_of_lt_of_le (by have := hb3.size; omega) hg6.size
          have B6 : Below w.heap.size w w6 := (hbw2.trans (hb3.mono (Nat.le_of_lt s2))).grown hg6 (by have := hb3.size; omega) (fun r hr => by have := (ltO _ hr).1; omega)
          have HO6 : Hid (w6.ownsRow (w.heap.size + 1) 3 1 (.slice (some ⟨g3, 0, none⟩) (j + 1) cap) (j + 1) ((latL n es (j + 1)).map intV)) := Lib.hid (by rw [latL_next, ← HV.out]; exact ho6)
          clear ho6 hg6 hat6 hl6 hb3 ltO nb k0 k1
          go_wp2_with fail
          go_roundw
          case rel => exact ⟨j + 1, some ⟨g3, 0, none⟩, cap, by omega, by go_num, rfl, lat_all HA.out HG.out, HO6.out, q0, q1, s6, B6⟩
          case measure => simp [intOf]; omega
    · have hjN : j = N := by omega
      subst hjN
      have HRR := Lib.hid (show latR n es = (latL n es j, decide (0 < j)) from by rw [latR_good (n := n) (es := es) (by rw [← HN.out]; exact HA.out), ← HN.out])
      have HOW := Lib.hid hown
      clear hown
      rcases HHI.out with h1 | ⟨h1, h2⟩
      · go_wp2_with fail
        refine bodyPost_ret (v := .tuple #[.slice A2 j d2, .bool (decide (0 < j))]) (by simp [results, Try.results45, go_sem]) rfl ?_
        exact ⟨A2, j, d2, by rw [HRR.out], by rw [HRR.out]; exact (latL_length n es j).symm, by rw [HRR.out]; exact own_base HOW.out (by omega), hbw⟩
      · go_wp2_with fail
        refine bodyPost_ret (v := .tuple #[.slice A2 j d2, .bool (decide (0 < j))]) (by simp [results, Try.results45, go_sem]) rfl ?_
        exact ⟨A2, j, d2, by rw [HRR.out], by rw [HRR.out]; exact (latL_length n es j).symm, by rw [HRR.out]; exact own_base HOW.out (by omega), hbw⟩

end Go.Proofs.Ytnhdfnfiicioiaa
