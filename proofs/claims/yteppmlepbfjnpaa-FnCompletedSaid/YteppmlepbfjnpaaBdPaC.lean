/-
  WALKS of spec.CanExtend and spec.NextTimes.
  WALK of spec.CompleteTimes.
  WALK of spec.EarliestTimes.
  WALK of spec.LatestTimes.
  WALKS of the draws: l01New, l01Byte, l01Below, l01Str: what is drawn lies in its range; a draw writes into its own cursor alone.
  A slice of bytes that comes in.
-/
import Derived.Test.YteppmlepbfjnpaaBdSmL
import Derived.Test.YteppmlepbfjnpaaBdSmW
import Derived.Lib.AppendZeros
import Derived.Deep.AppendLies
import Derived.Test.YteppmlepbfjnpaaProg
import Derived.Test.YteppmlepbfjnpaaBdDig
import Derived.Laws.BitsAllLaws
import Derived.Laws.BitsLemmas
import Derived.Deep.QuietTactic
import Derived.BigQuiet
import Derived.ProofKit
namespace Go.Proofs.Yteppmlepbfjnpaa
open Go.RowKit
set_option linter.unusedVariables false
set_option linter.unusedSimpArgs false

set_option maxRecDepth 100000 in
set_option maxHeartbeats 8000000 in
theorem spec_CanExtend (n : Int) (es : List GL) (A : Option Addr) (k c : Nat) (ts : List Int) (T : Option Addr) (m d : Nat) (w : World) (hn : es.length = k) (hm : k ≤ 1048576) (hl : ts.length = m) (hr : LinkAt w A es) (ht : RowAt w T (ts.map intV)) :
    Calls Try.prog 35 #[grV n A k c, .slice T m d] w fun e w' => e = .returned (.bool (ceR n es ts)) ∧ Below w.heap.size w w' := by
  have HS := Lib.hid (fun W h h2 => spec_FixTimes n es A k c ts T m d W hn hm hl h h2)
  have HR := Lib.hid hr
  have HT := Lib.hid ht
  clear hr hn ht hl
  unfold FxEnd at HS
  obtain ⟨ok, hok⟩ : ∃ b, b = fxR n es ts := ⟨_, rfl⟩
  rw [← hok] at HS
  have HO := Lib.hid hok.symm
  clear hok
  cases ok with
  | false =>
    rw [fxN_no HO.out, fxE_no HO.out] at HS
    unfold grV at HS ⊢
    go_enter Try.func35, Try.ntmps35
    go_wp2_with fail
    refine (HS.out _ (HR.out.below (by repeat (first | exact Below.refl _ _ | refine below_step (by assumption) (by first | omega | (simp; done) | (simp; omega)) ?_ | refine below_drewN ?_ _ | refine Below.drew ?_ | refine Below.setCell ?_ (by first | omega | (simp; done) | (simp; omega)) _ | refine Below.alloc ?_ (by first | omega | (simp; done) | (simp; omega)) _))) (HT.out.below (by repeat (first | exact Below.refl _ _ | refine below_step (by assumption) (by first | omega | (simp; done) | (simp; omega)) ?_ | refine below_drewN ?_ _ | refine Below.drew ?_ | refine Below.setCell ?_ (by first | omega | (simp; done) | (simp; omega)) _ | refine Below.alloc ?_ (by first | omega | (simp; done) | (simp; omega)) _)))).mono ?_
    rintro e w1 ⟨A1, m1, c1, rfl, _, _, b1⟩
    have c0_w1 : w1.cell? ⟨w.heap.size, 0, none⟩ = some (.int .i64 n) := (b1.cell (p := ⟨w.heap.size, 0, none⟩) (by first | omega | (simp; done) | (simp; omega))).trans (by first | assumption | go_simp)
    have c1_w1 : w1.cell? ⟨w.heap.size, 1, none⟩ = some (.slice A k c) := (b1.cell (p := ⟨w.heap.size, 1, none⟩) (by first | omega | (simp; done) | (simp; omega))).trans (by first | assumption | go_simp)
    have s0_w1 : w.heap.size < w1.heap.size := Nat.lt_of_lt_of_le (by first | omega | (simp; done) | (simp; omega)) b1.size
    have B_w1 : Below w.heap.size w w1 := (by repeat (first | exact Below.refl _ _ | refine below_step (by assumption) (by first | omega | (simp; done) | (simp; omega)) ?_ | refine below_drewN ?_ _ | refine Below.drew ?_ | refine Below.setCell ?_ (by first | omega | (simp; done) | (simp; omega)) _ | refine Below.alloc ?_ (by first | omega | (simp; done) | (simp; omega)) _))
    clear b1  
    go_wp2_with fail
    go_ret
    exact ⟨ret_b (by unfold ceR; rw [HO.out]; rfl), (by repeat (first | exact Below.refl _ _ | refine below_step (by assumption) (by first | omega | (simp; done) | (simp; omega)) ?_ | refine below_drewN ?_ _ | refine Below.drew ?_ | refine Below.setCell ?_ (by first | omega | (simp; done) | (simp; omega)) _ | refine Below.alloc ?_ (by first | omega | (simp; done) | (simp; omega)) _))⟩
  | true =>
    rw [fxN_yes HO.out, fxE_yes HO.out] at HS
    have hle := (okS_rng (fxR_ok HO.out).2).2.2
    have HC := Lib.hid (fun A2 k2 c2 W h1 h => spec_IsConsistent n (es ++ fixL ts) A2 k2 c2 W h1 (by omega) h)
    obtain ⟨ls, hls⟩ : ∃ t, t = es ++ fixL ts := ⟨_, rfl⟩
    rw [← hls] at HS HC hle
    have HLS := Lib.hid hls
    clear hls
    obtain ⟨b, hb⟩ : ∃ b, b = consR n ls := ⟨_, rfl⟩
    rw [← hb] at HC
    have HB := Lib.hid hb
    clear hb
    unfold grV at HS HC ⊢
    go_enter Try.func35, Try.ntmps35
    go_wp2_with fail
    refine (HS.out _ (HR.out.below (by repeat (first | exact Below.refl _ _ | refine below_step (by assumption) (by first | omega | (simp; done) | (simp; omega)) ?_ | refine below_drewN ?_ _ | refine Below.drew ?_ | refine Below.setCell ?_ (by first | omega | (simp; done) | (simp; omega)) _ | refine Below.alloc ?_ (by first | omega | (simp; done) | (simp; omega)) _))) (HT.out.below (by repeat (first | exact Below.refl _ _ | refine below_step (by assumption) (by first | omega | (simp; done) | (simp; omega)) ?_ | refine below_drewN ?_ _ | refine Below.drew ?_ | refine Below.setCell ?_ (by first | omega | (simp; done) | (simp; omega)) _ | refine Below.alloc ?_ (by first | omega | (simp; done) | (simp; omega)) _)))).mono ?_
    rintro e w1 ⟨A1, m1, c1, rfl, hm1, hE, b1⟩
    have HE := Lib.hid (own_link hE)
    have HM := Lib.hid hm1
    clear hE hm1
    have c0_w1 : w1.cell? ⟨w.heap.size, 0, none⟩ = some (.int .i64 n) := (b1.cell (p := ⟨w.heap.size, 0, none⟩) (by first | omega | (simp; done) | (simp; omega))).trans (by first | assumption | go_simp)
    have c1_w1 : w1.cell? ⟨w.heap.size, 1, none⟩ = some (.slice A k c) := (b1.cell (p := ⟨w.heap.size, 1, none⟩) (by first | omega | (simp; done) | (simp; omega))).trans (by first | assumption | go_simp)
    have s0_w1 : w.heap.size < w1.heap.size := Nat.lt_of_lt_of_le (by first | omega | (simp; done) | (simp; omega)) b1.size
    have B_w1 : Below w.heap.size w w1 := (by repeat (first | exact Below.refl _ _ | refine below_step (by assumption) (by first | omega | (simp; done) | (simp; omega)) ?_ | refine below_drewN ?_ _ | refine Below.drew ?_ | refine Below.setCell ?_ (by first | omega | (simp; done) | (simp; omega)) _ | refine Below.alloc ?_ (by first | omega | (simp; done) | (simp; omega)) _))
    clear b1  
    have HE2 := Lib.hid (HE.out.below ((Below.refl _ w1).alloc (Nat.le_refl _) (.cells #[.int .i64 n, .slice A1 m1 c1] 25)))
    go_wp2_with fail
    refine (HC.out A1 m1 c1 _ HM.out.symm HE2.out).mono ?_
    rintro e w2 ⟨rfl, b2⟩
    have c0_w2 : w2.cell? ⟨w.heap.size, 0, none⟩ = some (.int .i64 n) := (b2.cell (p := ⟨w.heap.size, 0, none⟩) (by first | omega | (simp; done) | (simp; omega))).trans (by first | assumption | go_simp)
    have c1_w2 : w2.cell? ⟨w.heap.size, 1, none⟩ = some (.slice A k c) := (b2.cell (p := ⟨w.heap.size, 1, none⟩) (by first | omega | (simp; done) | (simp; omega))).trans (by first | assumption | go_simp)
    have c2_w2 : w2.cell? ⟨w1.heap.size, 0, none⟩ = some (.int .i64 n) := (b2.cell (p := ⟨w1.heap.size, 0, none⟩) (by first | omega | (simp; done) | (simp; omega))).trans (by first | assumption | go_simp)
    have c3_w2 : w2.cell? ⟨w1.heap.size, 1, none⟩ = some (.slice A1 m1 c1) := (b2.cell (p := ⟨w1.heap.size, 1, none⟩) (by first | omega | (simp; done) | (simp; omega))).trans (by first | assumption | go_simp)
    have s0_w2 : w.heap.size < w2.heap.size := Nat.lt_of_lt_of_le (by first | omega | (simp; done) | (simp; omega)) b2.size
    have s1_w2 : w1.heap.size < w2.heap.size := Nat.lt_of_lt_of_le (by first | omega | (simp; done) | (simp; omega)) b2.size
    have B_w2 : Below w.heap.size w w2 := (by repeat (first | exact Below.refl _ _ | refine below_step (by assumption) (by first | omega | (simp; done) | (simp; omega)) ?_ | refine below_drewN ?_ _ | refine Below.drew ?_ | refine Below.setCell ?_ (by first | omega | (simp; done) | (simp; omega)) _ | refine Below.alloc ?_ (by first | omega | (simp; done) | (simp; omega)) _))
    clear b2 c0_w1 c1_w1 s0_w1 B_w1
    go_wp2_with fail
    go_ret
    exact ⟨ret_b (by unfold ceR; rw [HO.out, Bool.true_and, ← HLS.out]; exact HB.out), B_w2⟩

set_option maxRecDepth 100000 in
set_option maxHeartbeats 8000000 in
theorem spec_NextTimes (v : Int) (n : Int) (es : List GL) (A : Option Addr) (k c : Nat) (ts : List Int) (T : Option Addr) (m d : Nat) (w : World) (hn : es.length = k) (hm : k ≤ 1048576) (hl : ts.length = m) (hr : LinkAt w A es) (ht : RowAt w T (ts.map intV)) :
    Calls Try.prog 36 #[grV n A k c, .slice T m d, .int .i64 v] w fun e w' => e = .returned (ntV n es ts v) ∧ Below w.heap.size w w' := by
  have HS := Lib.hid (fun W h h2 => spec_FixTimes n es A k c ts T m d W hn hm hl h h2)
  have HR := Lib.hid hr
  have HT := Lib.hid ht
  clear hr hn ht hl
  unfold FxEnd at HS
  obtain ⟨ok, hok⟩ : ∃ b, b = fxR n es ts := ⟨_, rfl⟩
  rw [← hok] at HS
  have HO := Lib.hid hok.symm
  clear hok
  cases ok with
  | false =>
    rw [fxN_no HO.out, fxE_no HO.out] at HS
    rw [ntV_no HO.out]
    unfold grV at HS ⊢
    go_enter Try.func36, Try.ntmps36
    go_wp2_with fail
    refine (HS.out _ (HR.out.below (by repeat (first | exact Below.refl _ _ | refine below_step (by assumption) (by first | omega | (simp; done) | (simp; omega)) ?_ | refine below_drewN ?_ _ | refine Below.drew ?_ | refine Below.setCell ?_ (by first | omega | (simp; done) | (simp; omega)) _ | refine Below.alloc ?_ (by first | omega | (simp; done) | (simp; omega)) _))) (HT.out.below (by repeat (first | exact Below.refl _ _ | refine below_step (by assumption) (by first | omega | (simp; done) | (simp; omega)) ?_ | refine below_drewN ?_ _ | refine Below.drew ?_ | refine Below.setCell ?_ (by first | omega | (simp; done) | (simp; omega)) _ | refine Below.alloc ?_ (by first | omega | (simp; done) | (simp; omega)) _)))).mono ?_
    rintro e w1 ⟨A1, m1, c1, rfl, _, _, b1⟩
    have c0_w1 : w1.cell? ⟨w.heap.size, 0, none⟩ = some (.int .i64 n) := (b1.cell (p := ⟨w.heap.size, 0, none⟩) (by first | omega | (simp; done) | (simp; omega))).trans (by first | assumption | go_simp)
    have c1_w1 : w1.cell? ⟨w.heap.size, 1, none⟩ = some (.slice A k c) := (b1.cell (p := ⟨w.heap.size, 1, none⟩) (by first | omega | (simp; done) | (simp; omega))).trans (by first | assumption | go_simp)
    have c2_w1 : w1.cell? ⟨w.heap.size + 1, 0, none⟩ = some (.int .i64 0) := (b1.cell (p := ⟨w.heap.size + 1, 0, none⟩) (by first | omega | (simp; done) | (simp; omega))).trans (by first | assumption | go_simp)
    have c3_w1 : w1.cell? ⟨w.heap.size + 1, 1, none⟩ = some (.int .i64 0) := (b1.cell (p := ⟨w.heap.size + 1, 1, none⟩) (by first | omega | (simp; done) | (simp; omega))).trans (by first | assumption | go_simp)
    have f0_w1 : w1.frozen? ⟨w.heap.size + 1, 0, none⟩ = false := (b1.frozen (p := ⟨w.heap.size + 1, 0, none⟩) (by first | omega | (simp; done) | (simp; omega))).trans (by first | assumption | go_simp)
    have f1_w1 : w1.frozen? ⟨w.heap.size + 1, 1, none⟩ = false := (b1.frozen (p := ⟨w.heap.size + 1, 1, none⟩) (by first | omega | (simp; done) | (simp; omega))).trans (by first | assumption | go_simp)
    have s0_w1 : w.heap.size < w1.heap.size := Nat.lt_of_lt_of_le (by first | omega | (simp; done) | (simp; omega)) b1.size
    have s1_w1 : w.heap.size + 1 < w1.heap.size := Nat.lt_of_lt_of_le (by first | omega | (simp; done) | (simp; omega)) b1.size
    have B_w1 : Below w.heap.size w w1 := (by repeat (first | exact Below.refl _ _ | refine below_step (by assumption) (by first | omega | (simp; done) | (simp; omega)) ?_ | refine below_drewN ?_ _ | refine Below.drew ?_ | refine Below.setCell ?_ (by first | omega | (simp; done) | (simp; omega)) _ | refine Below.alloc ?_ (by first | omega | (simp; done) | (simp; omega)) _))
    clear b1  
    have n1 : (w.heap.size + 1 = w1.heap.size) = False := eq_false (by omega)
    have n2 : (w1.heap.size = w.heap.size + 1) = False := eq_false (by omega)
    go_wp2_with fail
    refine bodyPost_ret (v := .tuple #[.agg #[.int .i64 0, .int .i64 0], .bool false]) (by first | (simp [results, Try.results36, go_sem, c2_w1, c3_w1, f0_w1, f1_w1]; done) | simp [*, results, Try.results36, go_sem]) rfl ⟨rfl, (by repeat (first | exact Below.refl _ _ | refine below_step (by assumption) (by first | omega | (simp; done) | (simp; omega)) ?_ | refine below_drewN ?_ _ | refine Below.drew ?_ | refine Below.setCell ?_ (by first | omega | (simp; done) | (simp; omega)) _ | refine Below.alloc ?_ (by first | omega | (simp; done) | (simp; omega)) _))⟩
  | true =>
    rw [fxN_yes HO.out, fxE_yes HO.out] at HS
    rw [ntV_yes HO.out]
    have hle := (okS_rng (fxR_ok HO.out).2).2.2
    have HC := Lib.hid (fun A2 k2 c2 W h1 h => spec_WindowOf n (es ++ fixL ts) A2 k2 c2 v W h1 (by omega) h)
    obtain ⟨ls, hls⟩ : ∃ t, t = es ++ fixL ts := ⟨_, rfl⟩
    rw [← hls] at HS HC hle ⊢
    clear hls
    unfold wV ivV at HC ⊢
    obtain ⟨lo, hlo⟩ : ∃ t, t = wL n ls v := ⟨_, rfl⟩
    obtain ⟨hi, hhi⟩ : ∃ t, t = wH n ls v := ⟨_, rfl⟩
    obtain ⟨bw, hbw⟩ : ∃ t, t = wB n ls v := ⟨_, rfl⟩
    rw [← hlo, ← hhi, ← hbw] at HC ⊢
    clear hlo hhi hbw
    unfold grV at HS HC ⊢
    go_enter Try.func36, Try.ntmps36
    go_wp2_with fail
    refine (HS.out _ (HR.out.below (by repeat (first | exact Below.refl _ _ | refine below_step (by assumption) (by first | omega | (simp; done) | (simp; omega)) ?_ | refine below_drewN ?_ _ | refine Below.drew ?_ | refine Below.setCell ?_ (by first | omega | (simp; done) | (simp; omega)) _ | refine Below.alloc ?_ (by first | omega | (simp; done) | (simp; omega)) _))) (HT.out.below (by repeat (first | exact Below.refl _ _ | refine below_step (by assumption) (by first | omega | (simp; done) | (simp; omega)) ?_ | refine below_drewN ?_ _ | refine Below.drew ?_ | refine Below.setCell ?_ (by first | omega | (simp; done) | (simp; omega)) _ | refine Below.alloc ?_ (by first | omega | (simp; done) | (simp; omega)) _)))).mono ?_
    rintro e w1 ⟨A1, m1, c1, rfl, hm1, hE, b1⟩
    have HE := Lib.hid (own_link hE)
    have HM := Lib.hid hm1
    clear hE hm1
    have c0_w1 : w1.cell? ⟨w.heap.size, 0, none⟩ = some (.int .i64 n) := (b1.cell (p := ⟨w.heap.size, 0, none⟩) (by first | omega | (simp; done) | (simp; omega))).trans (by first | assumption | go_simp)
    have c1_w1 : w1.cell? ⟨w.heap.size, 1, none⟩ = some (.slice A k c) := (b1.cell (p := ⟨w.heap.size, 1, none⟩) (by first | omega | (simp; done) | (simp; omega))).trans (by first | assumption | go_simp)
    have c2_w1 : w1.cell? ⟨w.heap.size + 1, 0, none⟩ = some (.int .i64 0) := (b1.cell (p := ⟨w.heap.size + 1, 0, none⟩) (by first | omega | (simp; done) | (simp; omega))).trans (by first | assumption | go_simp)
    have c3_w1 : w1.cell? ⟨w.heap.size + 1, 1, none⟩ = some (.int .i64 0) := (b1.cell (p := ⟨w.heap.size + 1, 1, none⟩) (by first | omega | (simp; done) | (simp; omega))).trans (by first | assumption | go_simp)
    have f0_w1 : w1.frozen? ⟨w.heap.size + 1, 0, none⟩ = false := (b1.frozen (p := ⟨w.heap.size + 1, 0, none⟩) (by first | omega | (simp; done) | (simp; omega))).trans (by first | assumption | go_simp)
    have f1_w1 : w1.frozen? ⟨w.heap.size + 1, 1, none⟩ = false := (b1.frozen (p := ⟨w.heap.size + 1, 1, none⟩) (by first | omega | (simp; done) | (simp; omega))).trans (by first | assumption | go_simp)
    have s0_w1 : w.heap.size < w1.heap.size := Nat.lt_of_lt_of_le (by first | omega | (simp; done) | (simp; omega)) b1.size
    have s1_w1 : w.heap.size + 1 < w1.heap.size := Nat.lt_of_lt_of_le (by first | omega | (simp; done) | (simp; omega)) b1.size
    have B_w1 : Below w.heap.size w w1 := (by repeat (first | exact Below.refl _ _ | refine below_step (by assumption) (by first | omega | (simp; done) | (simp; omega)) ?_ | refine below_drewN ?_ _ | refine Below.drew ?_ | refine Below.setCell ?_ (by first | omega | (simp; done) | (simp; omega)) _ | refine Below.alloc ?_ (by first | omega | (simp; done) | (simp; omega)) _))
    clear b1  
    have n1 : (w.heap.size + 1 = w1.heap.size) = False := eq_false (by omega)
    have n2 : (w1.heap.size = w.heap.size + 1) = False := eq_false (by omega)
    have HE2 := Lib.hid (HE.out.below ((Below.refl _ w1).alloc (Nat.le_refl _) (.cells #[.int .i64 n, .slice A1 m1 c1] 25)))
    go_wp2_with fail
    refine (HC.out A1 m1 c1 _ HM.out.symm HE2.out).mono ?_
    rintro e w2 ⟨rfl, b2⟩
    have c0_w2 : w2.cell? ⟨w.heap.size, 0, none⟩ = some (.int .i64 n) := (b2.cell (p := ⟨w.heap.size, 0, none⟩) (by first | omega | (simp; done) | (simp; omega))).trans (by first | assumption | go_simp)
    have c1_w2 : w2.cell? ⟨w.heap.size, 1, none⟩ = some (.slice A k c) := (b2.cell (p := ⟨w.heap.size, 1, none⟩) (by first | omega | (simp; done) | (simp; omega))).trans (by first | assumption | go_simp)
    have c2_w2 : w2.cell? ⟨w.heap.size + 1, 0, none⟩ = some (.int .i64 0) := (b2.cell (p := ⟨w.heap.size + 1, 0, none⟩) (by first | omega | (simp; done) | (simp; omega))).trans (by first | assumption | go_simp)
    have c3_w2 : w2.cell? ⟨w.heap.size + 1, 1, none⟩ = some (.int .i64 0) := (b2.cell (p := ⟨w.heap.size + 1, 1, none⟩) (by first | omega | (simp; done) | (simp; omega))).trans (by first | assumption | go_simp)
    have c4_w2 : w2.cell? ⟨w1.heap.size, 0, none⟩ = some (.int .i64 n) := (b2.cell (p := ⟨w1.heap.size, 0, none⟩) (by first | omega | (simp; done) | (simp; omega))).trans (by first | assumption | go_simp)
    have c5_w2 : w2.cell? ⟨w1.heap.size, 1, none⟩ = some (.slice A1 m1 c1) := (b2.cell (p := ⟨w1.heap.size, 1, none⟩) (by first | omega | (simp; done) | (simp; omega))).trans (by first | assumption | go_simp)
    have f0_w2 : w2.frozen? ⟨w.heap.size + 1, 0, none⟩ = false := (b2.frozen (p := ⟨w.heap.size + 1, 0, none⟩) (by first | omega | (simp; done) | (simp; omega))).trans (by first | assumption | go_simp)
    have f1_w2 : w2.frozen? ⟨w.heap.size + 1, 1, none⟩ = false := (b2.frozen (p := ⟨w.heap.size + 1, 1, none⟩) (by first | omega | (simp; done) | (simp; omega))).trans (by first | assumption | go_simp)
    have s0_w2 : w.heap.size < w2.heap.size := Nat.lt_of_lt_of_le (by first | omega | (simp; done) | (simp; omega)) b2.size
    have s1_w2 : w.heap.size + 1 < w2.heap.size := Nat.lt_of_lt_of_le (by first | omega | (simp; done) | (simp; omega)) b2.size
    have s2_w2 : w1.heap.size < w2.heap.size := Nat.lt_of_lt_of_le (by first | omega | (simp; done) | (simp; omega)) b2.size
    have B_w2 : Below w.heap.size w w2 := (by repeat (first | exact Below.refl _ _ | refine below_step (by assumption) (by first | omega | (simp; done) | (simp; omega)) ?_ | refine below_drewN ?_ _ | refine Below.drew ?_ | refine Below.setCell ?_ (by first | omega | (simp; done) | (simp; omega)) _ | refine Below.alloc ?_ (by first | omega | (simp; done) | (simp; omega)) _))
    clear b2 c0_w1 c1_w1 c2_w1 c3_w1 f0_w1 f1_w1 s0_w1 s1_w1 B_w1
    go_wp2_with fail
    refine bodyPost_ret (v := .tuple #[.agg #[.int .i64 lo, .int .i64 hi], .bool bw]) (by first | (simp [results, Try.results36, go_sem, c2_w2, c3_w2, f0_w2, f1_w2]; done) | simp [*, results, Try.results36, go_sem]) rfl ⟨rfl, by refine Below.setCell (Below.setCell ?_ (by first | omega | (simp; done) | (simp; omega)) _) (by first | omega | (simp; done) | (simp; omega)) _; exact B_w2⟩

end Go.Proofs.Yteppmlepbfjnpaa

namespace Go.Proofs.Yteppmlepbfjnpaa
open Go.RowKit
set_option linter.unusedVariables false
set_option linter.unusedSimpArgs false

theorem row_news {w : World} {T : Option Addr} {ts : List Int} (h : RowAt w T (ts.map intV)) (hp : 0 < ts.length) : ∃ ad, T = some ad ∧ ∀ j u, (ts.map intV)[j]? = some u → w.cell? (ad.add j) = some u := by
  obtain ⟨g, o, hA, _, hc⟩ := h (by simp; omega)
  refine ⟨_, hA, fun j u hj => ?_⟩
  obtain ⟨hl, hu⟩ := List.getElem?_eq_some_iff.1 hj
  rw [Addr.add_lit]
  exact (hc j hl).trans (by rw [hu])
theorem cpR_no {n : Int} {es : List GL} {ts : List Int} (h : ceR n es ts = false) : cpR n es ts = ([], false) := by unfold cpR; rw [if_neg (by rw [h]; simp)]
theorem cpR_none {n : Int} {es : List GL} {ts : List Int} (h : ceR n es ts = true) (h2 : cpJ n es ts ts.length = none) : cpR n es ts = ([], false) := by unfold cpR; rw [if_pos h, h2]
theorem cpR_bad {n : Int} {es : List GL} {ts o : List Int} (h : ceR n es ts = true) (h2 : cpJ n es ts ts.length = some o) (h3 : fxR n es o = false) : cpR n es ts = ([], false) := by
  unfold cpR; rw [if_pos h, h2]; dsimp only; rw [if_neg (by rw [h3]; simp)]
theorem cpR_good {n : Int} {es : List GL} {ts o : List Int} (h : ceR n es ts = true) (h2 : cpJ n es ts ts.length = some o) (h3 : fxR n es o = true) : cpR n es ts = (o, true) := by
  unfold cpR; rw [if_pos h, h2]; dsimp only; rw [if_pos h3]
theorem cpJ_next {n : Int} {es : List GL} {ts o : List Int} {j : Nat} (h : cpJ n es ts j = some o) : cpJ n es ts (j + 1) = cpStep n es o j := by
  conv => lhs; unfold cpJ
  rw [h]
theorem cpStep_skip {n : Int} {es : List GL} {o : List Int} {j : Nat} (h : ¬ o[j]?.getD 0 = -1) : cpStep n es o j = some o := by unfold cpStep; rw [if_neg h]
theorem cpStep_set {n : Int} {es : List GL} {o : List Int} {j : Nat} (h : o[j]?.getD 0 = -1) (hb : ntB n es o j = true) (h1 : 0 ≤ ntL n es o j) (h2 : ntL n es o j ≤ 999999) : cpStep n es o j = some (o.set j (ntL n es o j)) := by
  unfold cpStep; rw [if_pos h, if_pos (by rw [hb, decide_eq_true h1, decide_eq_true h2]; rfl)]
theorem cpStep_bad {n : Int} {es : List GL} {o : List Int} {j : Nat} (h : o[j]?.getD 0 = -1) (hb : (ntB n es o j && (decide (0 ≤ ntL n es o j) && decide (ntL n es o j ≤ 999999))) = false) : cpStep n es o j = none := by
  unfold cpStep; rw [if_pos h, if_neg (by rw [Bool.and_assoc, hb]; simp)]

set_option maxRecDepth 100000 in
set_option maxHeartbeats 16000000 in
theorem spec_CompleteTimes (n : Int) (es : List GL) (A : Option Addr) (k c : Nat) (ts : List Int) (T : Option Addr) (m d : Nat) (w : World) (hn : es.length = k) (hm : k ≤ 1048576) (hl : ts.length = m) (hr : LinkAt w A es) (ht : RowAt w T (ts.map intV)) :
    Calls Try.prog 38 #[grV n A k c, .slice T m d] w fun e w' => ∃ B q cb, e = .returned (.tuple #[.slice B q cb, .bool (cpR n es ts).2]) ∧ q = (cpR n es ts).1.length ∧ w'.ownsRow w.heap.size 3 1 (.slice B q cb) q ((cpR n es ts).1.map intV) ∧ Below w.heap.size w w' := by
  obtain ⟨i1, hii, hy0, hy1, hy2⟩ := info_parts Try.info3
  have HCE := Lib.hid (fun W h h2 => spec_CanExtend n es A k c ts T m d W hn hm hl h h2)
  have HNT := Lib.hid (fun (v : Int) (o : List Int) T2 d2 W (h1 : o.length = m) h h2 => spec_NextTimes v n es A k c o T2 m d2 W hn hm h1 h h2)
  have HFX := Lib.hid (fun (o : List Int) T2 d2 W (h1 : o.length = m) h h2 => spec_FixTimes n es A k c o T2 m d2 W hn hm h1 h h2)
  have HR := Lib.hid hr
  have HT := Lib.hid ht
  have HL := Lib.hid hl
  have HN := Lib.hid hn
  clear hr hn ht hl
  obtain ⟨ce, hce⟩ : ∃ b, b = ceR n es ts := ⟨_, rfl⟩
  rw [← hce] at HCE
  have HCER := Lib.hid hce.symm
  clear hce
  unfold FxEnd at HFX
  unfold ntV ivV at HNT
  unfold grV at HCE HNT HFX ⊢
  cases ce with
  | false =>
    rw [cpR_no HCER.out]
    go_enter Try.func38, Try.ntmps38
    go_wp2_with fail
    refine (HCE.out _ (HR.out.below (by repeat (first | exact Below.refl _ _ | refine below_step (by assumption) (by first | omega | (simp; done) | (simp; omega)) ?_ | refine below_drewN ?_ _ | refine Below.drew ?_ | refine Below.setCell ?_ (by first | omega | (simp; done) | (simp; omega)) _ | refine Below.alloc ?_ (by first | omega | (simp; done) | (simp; omega)) _))) (HT.out.below (by repeat (first | exact Below.refl _ _ | refine below_step (by assumption) (by first | omega | (simp; done) | (simp; omega)) ?_ | refine below_drewN ?_ _ | refine Below.drew ?_ | refine Below.setCell ?_ (by first | omega | (simp; done) | (simp; omega)) _ | refine Below.alloc ?_ (by first | omega | (simp; done) | (simp; omega)) _)))).mono ?_
    rintro e w1 ⟨rfl, b1⟩
    have c0_w1 : w1.cell? ⟨w.heap.size, 0, none⟩ = some (.int .i64 n) := (b1.cell (p := ⟨w.heap.size, 0, none⟩) (by first | omega | (simp; done) | (simp; omega))).trans (by first | assumption | go_simp)
    have c1_w1 : w1.cell? ⟨w.heap.size, 1, none⟩ = some (.slice A k c) := (b1.cell (p := ⟨w.heap.size, 1, none⟩) (by first | omega | (simp; done) | (simp; omega))).trans (by first | assumption | go_simp)
    have s0_w1 : w.heap.size < w1.heap.size := Nat.lt_of_lt_of_le (by first | omega | (simp; done) | (simp; omega)) b1.size
    have B_w1 : Below w.heap.size w w1 := (by repeat (first | exact Below.refl _ _ | refine below_step (by assumption) (by first | omega | (simp; done) | (simp; omega)) ?_ | refine below_drewN ?_ _ | refine Below.drew ?_ | refine Below.setCell ?_ (by first | omega | (simp; done) | (simp; omega)) _ | refine Below.alloc ?_ (by first | omega | (simp; done) | (simp; omega)) _))
    clear b1  
    go_wp2_with fail
    refine bodyPost_ret (v := .tuple #[.slice none 0 0, .bool false]) (by simp [results, Try.results38, go_sem]) rfl ?_
    exact ⟨none, 0, 0, rfl, rfl, World.ownsRow_nil _ _ _ _, (by repeat (first | exact Below.refl _ _ | refine below_step (by assumption) (by first | omega | (simp; done) | (simp; omega)) ?_ | refine below_drewN ?_ _ | refine Below.drew ?_ | refine Below.setCell ?_ (by first | omega | (simp; done) | (simp; omega)) _ | refine Below.alloc ?_ (by first | omega | (simp; done) | (simp; omega)) _))⟩
  | true =>
    have hfx0 : fxR n es ts = true := by have := HCER.out; unfold ceR at this; rw [Bool.and_eq_true] at this; exact this.1
    obtain ⟨hok1, hln, _, _⟩ := pokR_ok (fxR_ok hfx0).1
    have hm8 : 0 < m ∧ m ≤ 8 := by have := okS_rng hok1; have := HL.out; omega
    clear hfx0 hok1 hln
    go_enter Try.func38, Try.ntmps38
    go_wp2_with fail
    refine (HCE.out _ (HR.out.below (by repeat (first | exact Below.refl _ _ | refine below_step (by assumption) (by first | omega | (simp; done) | (simp; omega)) ?_ | refine below_drewN ?_ _ | refine Below.drew ?_ | refine Below.setCell ?_ (by first | omega | (simp; done) | (simp; omega)) _ | refine Below.alloc ?_ (by first | omega | (simp; done) | (simp; omega)) _))) (HT.out.below (by repeat (first | exact Below.refl _ _ | refine below_step (by assumption) (by first | omega | (simp; done) | (simp; omega)) ?_ | refine below_drewN ?_ _ | refine Below.drew ?_ | refine Below.setCell ?_ (by first | omega | (simp; done) | (simp; omega)) _ | refine Below.alloc ?_ (by first | omega | (simp; done) | (simp; omega)) _)))).mono ?_
    rintro e w1 ⟨rfl, b1⟩
    have c0_w1 : w1.cell? ⟨w.heap.size, 0, none⟩ = some (.int .i64 n) := (b1.cell (p := ⟨w.heap.size, 0, none⟩) (by first | omega | (simp; done) | (simp; omega))).trans (by first | assumption | go_simp)
    have c1_w1 : w1.cell? ⟨w.heap.size, 1, none⟩ = some (.slice A k c) := (b1.cell (p := ⟨w.heap.size, 1, none⟩) (by first | omega | (simp; done) | (simp; omega))).trans (by first | assumption | go_simp)
    have s0_w1 : w.heap.size < w1.heap.size := Nat.lt_of_lt_of_le (by first | omega | (simp; done) | (simp; omega)) b1.size
    have B_w1 : Below w.heap.size w w1 := (by repeat (first | exact Below.refl _ _ | refine below_step (by assumption) (by first | omega | (simp; done) | (simp; omega)) ?_ | refine below_drewN ?_ _ | refine Below.drew ?_ | refine Below.setCell ?_ (by first | omega | (simp; done) | (simp; omega)) _ | refine Below.alloc ?_ (by first | omega | (simp; done) | (simp; omega)) _))
    clear b1  
    obtain ⟨wa, hwa⟩ : ∃ W, W = w1.alloc (.cells #[] 3) := ⟨_, rfl⟩
    have ba : Below w1.heap.size w1 wa := by rw [hwa]; exact (Below.refl _ _).alloc (Nat.le_refl _) _
    have za : wa.heap.size = w1.heap.size + 1 := by rw [hwa]; simp
    have hea : wa.heap[w1.heap.size]? = some (.cells #[] 3 (0, 0)) := by rw [hwa]; exact heap_alloc_new _ _
    have hTa := HT.out.below (B_w1.trans (ba.mono B_w1.size))
    obtain ⟨v', w2, hrun, hown, hg2, _⟩ := run_append_read (P := Try.prog) (w := wa) w1.heap.size 33 33 3 i1 (.int .i64 0) 1 8 Try.underlying33 hii hy0 hy1 hy2 rfl (by decide) _ 0 [] (own_emp w1.heap.size (Nat.le_refl _) hea) T m d (ts.map intV) (by rw [List.length_map, HL.out, Nat.mul_one]) (fun h => row_news hTa (by have := HL.out; omega)) (fun u hu => by rw [List.mem_map] at hu; obtain ⟨z, _, rfl⟩ := hu; rfl) (by unfold maxLen; omega) (by omega) (by omega)
    have B2 : Below w1.heap.size w1 w2 := ba.grown hg2 (by omega) (fun r hr => Nat.le_of_eq (by simpa [Value.ownBlock] using hr))
    have hown2 : w2.ownsRow w1.heap.size 3 1 v' m (ts.map intV) := by simpa using hown
    obtain ⟨g, cap, rfl, hgb, hgl⟩ := hown2.form hm8.1
    have HRUN := Lib.hid hrun
    have O2 := Lib.hid hown2
    have HB2 := Lib.hid B2
    clear hrun hown hg2 hown2 hea hTa B2 hgb hgl
    go_upto_region 3 with (fail)
    go_wp2_with (first | (at_builtin; rw [← hwa]; refine Lib.wpList_append_run _ rfl _ _ _ _ rfl _ _ rfl rfl _ _ HRUN.out ?_))
    clear hwa ba za
    go_loopw [21] (fun ii wr => ∃ (j : Nat) (o : List Int), j ≤ m ∧ ii = .int .i64 j ∧ cpJ n es ts j = some o ∧ wr.ownsRow w1.heap.size 3 1 (.slice (some ⟨g, 0, none⟩) m cap) m (o.map intV) ∧ Below w1.heap.size w1 wr) (fun ii _ => m - (intOf ii).toNat)
    case atStart => exact ⟨0, ts, Nat.zero_le _, rfl, rfl, O2.out, HB2.out⟩
    case round =>
      obtain ⟨j, o, hj, rfl, hcp, hown, hbw⟩ := hrel
      have HCP := Lib.hid hcp
      have OW := Lib.hid hown
      have BW := Lib.hid hbw
      have HOL := Lib.hid ((cpJ_len hcp).trans HL.out)
      have k0 := (hbw.cell (p := ⟨w.heap.size, 0, none⟩) s0_w1).trans c0_w1
      have k1 := (hbw.cell (p := ⟨w.heap.size, 1, none⟩) s0_w1).trans c1_w1
      have zr := hbw.size
      clear hcp hown hbw
      by_cases hlt : j < m
      · have hoj : ∃ y, o[j]? = some y := ⟨_, List.getElem?_eq_getElem (by have := HOL.out; omega)⟩
        obtain ⟨y, hy⟩ := hoj
        have hyd : o[j]?.getD 0 = y := by rw [hy]; rfl
        have x1 : wr.cell? ⟨g, j, none⟩ = some (.int .i64 y) := (OW.out.cellAt j (by omega)).trans (by rw [List.getElem?_map, hy]; rfl)
        have HYD := Lib.hid hyd
        clear hy hyd
        by_cases hy1 : y = -1
        · have hyb : (y != -1) = false := by simp [hy1]
          have HY1 := Lib.hid (HYD.out.trans hy1)
          clear hy1
          have hnt := fun W h h2 => HNT.out (j : Int) o (some ⟨g, 0, none⟩) cap W HOL.out h h2
          obtain ⟨lo, hlo⟩ : ∃ t, t = ntL n es o j := ⟨_, rfl⟩
          obtain ⟨hi, hhi⟩ : ∃ t, t = ntH n es o j := ⟨_, rfl⟩
          obtain ⟨bw, hbw2⟩ : ∃ t, t = ntB n es o j := ⟨_, rfl⟩
          rw [← hlo, ← hhi, ← hbw2] at hnt
          have HNJ := Lib.hid hnt
          have HLO := Lib.hid hlo
          have HBW := Lib.hid hbw2
          clear hnt hlo hhi hbw2
          have hci := l01In_any lo 0 999999
          obtain ⟨bi, hbi⟩ : ∃ b, b = (decide (0 ≤ lo) && decide (lo ≤ 999999)) := ⟨_, rfl⟩
          rw [← hbi] at hci
          have HCI := Lib.hid hci
          have HBI := Lib.hid hbi
          clear hci hbi
          go_wp2_with fail
          refine (HNJ.out _ (HR.out.below (B_w1.trans (BW.out.mono B_w1.size))) (own_row OW.out)).mono ?_
          rintro e w3 ⟨rfl, b3⟩
          have O3 := Lib.hid (own_below OW.out b3)
          have B3 := Lib.hid (BW.out.trans (b3.mono zr))
          have z3 : w1.heap.size ≤ w3.heap.size := Nat.le_trans zr b3.size
          have g3 : g < w3.heap.size := (O3.out.lt g rfl).2
          have m1 : (g = w3.heap.size) = False := eq_false (by omega)
          have m2 : (w3.heap.size = g) = False := eq_false (by omega)
          clear b3 k0 k1 x1
          cases bw with
          | false =>
            have HC0 := Lib.hid (cpR_none HCER.out (cpJ_none (show cpJ n es ts (j + 1) = none from (cpJ_next HCP.out).trans (cpStep_bad HY1.out (by rw [← HBW.out]; rfl))) (by have := HL.out; omega)))
            go_wp2_with fail
            refine bodyPost_ret (v := .tuple #[.slice none 0 0, .bool false]) (by simp [results, Try.results38, go_sem]) rfl ?_
            rw [HC0.out]
            exact ⟨none, 0, 0, rfl, rfl, World.ownsRow_nil _ _ _ _, (B_w1.trans (B3.out.mono B_w1.size)).alloc (by have := B_w1.size; omega) _⟩
          | true =>
            cases bi with
            | false =>
              have HC0 := Lib.hid (cpR_none HCER.out (cpJ_none (show cpJ n es ts (j + 1) = none from (cpJ_next HCP.out).trans (cpStep_bad HY1.out (by rw [← HLO.out, ← HBI.out, Bool.and_false]))) (by have := HL.out; omega)))
              go_wp2_with fail
              refine (HCI.out _).mono ?_
              rintro e w4 ⟨rfl, rfl⟩
              go_wp2_with fail
              refine bodyPost_ret (v := .tuple #[.slice none 0 0, .bool false]) (by simp [results, Try.results38, go_sem]) rfl ?_
              rw [HC0.out]
              exact ⟨none, 0, 0, rfl, rfl, World.ownsRow_nil _ _ _ _, (B_w1.trans (B3.out.mono B_w1.size)).alloc (by have := B_w1.size; omega) _⟩
            | true =>
              have hrng : 0 ≤ lo ∧ lo ≤ 999999 := by have := HBI.out; simpa using this.symm
              have HCJ := Lib.hid (show cpJ n es ts (j + 1) = some (o.set j lo) from (cpJ_next HCP.out).trans (by have := cpStep_set (n := n) (es := es) HY1.out HBW.out.symm (by rw [← HLO.out]; exact hrng.1) (by rw [← HLO.out]; exact hrng.2); rw [← HLO.out] at this; exact this))
              have hst := (O3.out.stored j (.int .i64 lo)).1.alloc (.cells #[.int .i64 lo, .int .i64 hi] 29)
              have HST := Lib.hid hst
              have y1 : w3.cell? ⟨g, j, none⟩ = some (.int .i64 y) := (O3.out.cellAt j (by omega)).trans (by have := HYD.out; rw [List.getElem?_map]; cases h : o[j]? with | none => exact absurd h (by rw [List.getElem?_eq_getElem (by have := HOL.out; omega)]; simp) | some q => rw [h] at this; simp at this; rw [this]; rfl)
              have y2 := O3.out.frozenAt j
              clear hst hrng
              go_wp2_with fail
              refine (HCI.out _).mono ?_
              rintro e w4 ⟨rfl, rfl⟩
              go_wp2_with fail
              go_roundw
              case rel => exact ⟨j + 1, o.set j lo, by omega, by go_num, HCJ.out, by rw [List.map_set]; exact HST.out, (B3.out.setCell (by dsimp only; have := (O3.out.lt g rfl).1; omega) _).alloc (by simpa using z3) _⟩
              case measure => simp [intOf]; omega
        · have hyb : (y != -1) = true := by simp [hy1]
          have HS := Lib.hid (show cpJ n es ts (j + 1) = some o from (cpJ_next HCP.out).trans (cpStep_skip (by rw [HYD.out]; exact hy1)))
          clear hy1
          go_wp2_with fail
          go_roundw
          case rel => exact ⟨j + 1, o, by omega, by go_num, HS.out, OW.out, BW.out⟩
          case measure => simp [intOf]; omega
      · have hjm : j = m := by omega
        subst hjm
        have HCM := Lib.hid (show cpJ n es ts ts.length = some o from by rw [HL.out]; exact HCP.out)
        go_wp2_with fail
        refine (HFX.out o (some ⟨g, 0, none⟩) cap _ HOL.out (HR.out.below (B_w1.trans (BW.out.mono B_w1.size))) (own_row OW.out)).mono ?_
        rintro e w3 ⟨B, q, cb, rfl, _, _, b3⟩
        have O3 := Lib.hid (own_below OW.out b3)
        have B3 := Lib.hid (BW.out.trans (b3.mono zr))
        clear b3 k0 k1
        obtain ⟨f1, hf1⟩ : ∃ t, t = fxR n es o := ⟨_, rfl⟩
        rw [← hf1]
        have HF1 := Lib.hid hf1.symm
        clear hf1
        cases f1 with
        | false =>
          go_wp2_with fail
          refine bodyPost_ret (v := .tuple #[.slice none 0 0, .bool false]) (by simp [results, Try.results38, go_sem]) rfl ?_
          rw [cpR_bad HCER.out HCM.out HF1.out]
          exact ⟨none, 0, 0, rfl, rfl, World.ownsRow_nil _ _ _ _, (B_w1.trans (B3.out.mono B_w1.size)).alloc (by have := B_w1.size; have := B3.out.size; omega) _⟩
        | true =>
          go_wp2_with fail
          refine bodyPost_ret (v := .tuple #[.slice (some ⟨g, 0, none⟩) j cap, .bool true]) (by simp [results, Try.results38, go_sem]) rfl ?_
          rw [cpR_good HCER.out HCM.out HF1.out]
          exact ⟨some ⟨g, 0, none⟩, j, cap, rfl, HOL.out.symm, own_base (O3.out.alloc _) (by have := B_w1.size; omega), (B_w1.trans (B3.out.mono B_w1.size)).alloc (by have := B_w1.size; have := B3.out.size; omega) _⟩

end Go.Proofs.Yteppmlepbfjnpaa

namespace Go.Proofs.Yteppmlepbfjnpaa
open Go.RowKit
set_option linter.unusedVariables false
set_option linter.unusedSimpArgs false

def earG (n : Int) (es : List GL) (i : Nat) : Bool := wB n es i && decide (wL n es i ≠ (-1000000))
def earL (n : Int) (es : List GL) (j : Nat) : List Int := (List.range j).map (fun i : Nat => wL n es i)
def earR (n : Int) (es : List GL) : List Int × Bool := if (List.range (min n.toNat 8)).all (earG n es) then (earL n es (min n.toNat 8), decide (0 < min n.toNat 8)) else ([], false)
theorem earL_next (n : Int) (es : List GL) (j : Nat) : (earL n es (j + 1)).map intV = (earL n es j).map intV ++ [.int .i64 (wL n es j)] := by unfold earL; rw [List.range_succ]; simp [intV]
theorem earL_length (n : Int) (es : List GL) (j : Nat) : (earL n es j).length = j := by unfold earL; simp
theorem ear_all {n : Int} {es : List GL} {j : Nat} (h : (List.range j).all (earG n es) = true) (hj : earG n es j = true) : (List.range (j + 1)).all (earG n es) = true := by
  rw [List.range_succ, List.all_append, h]; simpa using hj
theorem earR_bad {n : Int} {es : List GL} {j : Nat} (h : j < min n.toNat 8) (hj : earG n es j = false) : earR n es = ([], false) := by
  have : (List.range (min n.toNat 8)).all (earG n es) = false := by rw [List.all_eq_false]; exact ⟨j, by simp; omega, by simp [hj]⟩
  unfold earR
  rw [this]; rfl
theorem earR_good {n : Int} {es : List GL} (h : (List.range (min n.toNat 8)).all (earG n es) = true) : earR n es = (earL n es (min n.toNat 8), decide (0 < min n.toNat 8)) := by
  unfold earR; rw [h]; rfl
theorem earR_len (n : Int) (es : List GL) : (earR n es).1.length ≤ 8 := by
  unfold earR
  split
  · dsimp only; rw [earL_length]; omega
  · simp

end Go.Proofs.Yteppmlepbfjnpaa

namespace Go.Proofs.Yteppmlepbfjnpaa
open Go.RowKit
set_option linter.unusedVariables false
set_option linter.unusedSimpArgs false

def latG (n : Int) (es : List GL) (i : Nat) : Bool := wB n es i && decide (wH n es i ≠ 1000000)
def latL (n : Int) (es : List GL) (j : Nat) : List Int := (List.range j).map (fun i : Nat => wH n es i)
def latR (n : Int) (es : List GL) : List Int × Bool := if (List.range (min n.toNat 8)).all (latG n es) then (latL n es (min n.toNat 8), decide (0 < min n.toNat 8)) else ([], false)
theorem latL_next (n : Int) (es : List GL) (j : Nat) : (latL n es (j + 1)).map intV = (latL n es j).map intV ++ [.int .i64 (wH n es j)] := by unfold latL; rw [List.range_succ]; simp [intV]
theorem latL_length (n : Int) (es : List GL) (j : Nat) : (latL n es j).length = j := by unfold latL; simp
theorem lat_all {n : Int} {es : List GL} {j : Nat} (h : (List.range j).all (latG n es) = true) (hj : latG n es j = true) : (List.range (j + 1)).all (latG n es) = true := by
  rw [List.range_succ, List.all_append, h]; simpa using hj
theorem latR_bad {n : Int} {es : List GL} {j : Nat} (h : j < min n.toNat 8) (hj : latG n es j = false) : latR n es = ([], false) := by
  have : (List.range (min n.toNat 8)).all (latG n es) = false := by rw [List.all_eq_false]; exact ⟨j, by simp; omega, by simp [hj]⟩
  unfold latR
  rw [this]; rfl
theorem latR_good {n : Int} {es : List GL} (h : (List.range (min n.toNat 8)).all (latG n es) = true) : latR n es = (latL n es (min n.toNat 8), decide (0 < min n.toNat 8)) := by
  unfold latR; rw [h]; rfl
theorem latR_len (n : Int) (es : List GL) : (latR n es).1.length ≤ 8 := by
  unfold latR
  split
  · dsimp only; rw [latL_length]; omega
  · simp

end Go.Proofs.Yteppmlepbfjnpaa

namespace Go.Proofs.Yteppmlepbfjnpaa
open Go.RowKit
set_option linter.unusedVariables false
set_option linter.unusedSimpArgs false

theorem and_low (y : Int) : 0 ≤ bits .and .i64 y 255 ∧ bits .and .i64 y 255 ≤ 255 := by
  have e : bits .and .i64 y 255 = IntKind.i64.wrap ((BitVec.ofInt 64 y &&& BitVec.ofInt 64 255).toNat : Int) := rfl
  have h1 : (BitVec.ofInt 64 255).toNat = 255 := by decide
  rw [e, BitVec.toNat_and, h1, IntKind.wrap_i64]
  have h2 : (BitVec.ofInt 64 y).toNat &&& 255 ≤ 255 := Nat.and_le_right
  omega

theorem and_mid (y : Int) : 0 ≤ bits .and .i64 y 1073741823 ∧ bits .and .i64 y 1073741823 ≤ 1073741823 := by
  have e : bits .and .i64 y 1073741823 = IntKind.i64.wrap ((BitVec.ofInt 64 y &&& BitVec.ofInt 64 1073741823).toNat : Int) := rfl
  have h1 : (BitVec.ofInt 64 1073741823).toNat = 1073741823 := by decide
  rw [e, BitVec.toNat_and, h1, IntKind.wrap_i64]
  have h2 : (BitVec.ofInt 64 y).toNat &&& 1073741823 ≤ 1073741823 := Nat.and_le_right
  omega

/-- A slice of bytes that is read: nil, or its cells hold bytes, in a block other than g. -/
def Bytes (w : World) (g : Nat) (A : Option Addr) (n : Nat) : Prop :=
  0 < n → ∃ b o, A = some ⟨b, o, none⟩ ∧ b < w.heap.size ∧ b ≠ g ∧ ∀ j, j < n → ∃ z : Int, 0 ≤ z ∧ z ≤ 255 ∧ w.cell? ⟨b, o + j, none⟩ = some (.int .u8 z)
/-- The cursor in block g. -/
def Cur (w : World) (g : Nat) (A : Option Addr) (n c : Nat) : Prop :=
  ∃ (i : Nat) (h : Int), i ≤ n ∧ -9223372036854775808 ≤ h ∧ h ≤ 9223372036854775807 ∧ w.heap[g]? = some (.cells #[.slice A n c, .int .i64 i, .int .i64 h] 93 (0, 0))

theorem Bytes.grown {w w' : World} {g : Nat} {A : Option Addr} {n : Nat} (h : Bytes w g A n) (hg : w.grownBy w' (some g)) : Bytes w' g A n := by
  intro hn
  obtain ⟨b, o, hA, hb, hne, hc⟩ := h hn
  refine ⟨b, o, hA, Nat.lt_of_lt_of_le hb hg.size, hne, fun j hj => ?_⟩
  obtain ⟨z, z0, z1, hz⟩ := hc j hj
  exact ⟨z, z0, z1, (World.cell?_of_block (a := ⟨b, o + j, none⟩) (hg.block b hb (by simpa using hne))).trans hz⟩

theorem row_grown {w : World} {g j : Nat} {u : Value} : w.grownBy (w.setCell ⟨g, j, none⟩ u) (some g) :=
  ⟨rfl, rfl, rfl, by simp, fun k _ hk => heap_setCell_other w ⟨g, j, none⟩ k u (fun e => hk (by simp [e]))⟩
theorem drew_grown {w : World} {r : Option Nat} (q : Nat) : w.grownBy (w.drewN q) r := ⟨rfl, rfl, rfl, Nat.le_refl _, fun _ _ _ => rfl⟩
theorem set_row {w : World} {g j : Nat} {cs : Array Value} {t : TypeId} {fr : Nat × Nat} (hg : w.heap[g]? = some (.cells cs t fr)) (u : Value) :
    (w.setCell ⟨g, j, none⟩ u).heap[g]? = some (.cells (cs.setIfInBounds j u) t fr) := by
  simp [World.setCell, Array.getElem?_modify, hg]
theorem wrap64_rng (x : Int) : -9223372036854775808 ≤ wrap64 x ∧ wrap64 x ≤ 9223372036854775807 := by unfold wrap64; omega

set_option maxRecDepth 100000 in
set_option maxHeartbeats 1000000 in
theorem l01Byte_any (g : Nat) (A : Option Addr) (n c : Nat) (w : World) (hm : n ≤ 1048576) (hcur : Cur w g A n c) (hby : Bytes w g A n) :
    Calls Try.prog 44 #[.pointer (some ⟨g, 0, none⟩)] w fun e w' => ∃ x : Int, e = .returned (.int .i64 x) ∧ 0 ≤ x ∧ x ≤ 255 ∧ Cur w' g A n c ∧ w.grownBy w' (some g) := by
  obtain ⟨i, h, hi, hh0, hh1, hrow⟩ := hcur
  have HROW := Lib.hid hrow
  have HBY := Lib.hid hby
  have c0 := cell_of_row _ _ 0 _ _ _ hrow
  have c1 := cell_of_row _ _ 1 _ _ _ hrow
  have c2 := cell_of_row _ _ 2 _ _ _ hrow
  have f2 := frozen_of_row _ _ 2 _ _ hrow
  simp at c0 c1 c2
  clear hrow hby
  go_enter Try.func44, Try.ntmps44
  go_wp2_with fail
  obtain ⟨H, hH⟩ : ∃ H, H = wrap64 (wrap64 (h * 6364136223846793005) + 1442695040888963407) := ⟨_, rfl⟩
  rw [← hH]
  have hHr := wrap64_rng (wrap64 (h * 6364136223846793005) + 1442695040888963407)
  rw [← hH] at hHr
  obtain ⟨hH0, hH1⟩ := hHr
  generalize hW : w.setCell ⟨g, 2, none⟩ (.int .i64 H) = w1
  have HROW1 : Hid (w1.heap[g]? = some (.cells #[.slice A n c, .int .i64 i, .int .i64 H] 93 (0, 0))) := by
    rw [← hW]
    exact Lib.hid (set_row HROW.out _)
  have G1 : w.grownBy w1 (some g) := by rw [← hW]; exact row_grown
  have HBY1 := Lib.hid (HBY.out.grown G1)
  have c0 := cell_of_row _ _ 0 _ _ _ HROW1.out
  have c1 := cell_of_row _ _ 1 _ _ _ HROW1.out
  have c2 := cell_of_row _ _ 2 _ _ _ HROW1.out
  have f1 := frozen_of_row _ _ 1 _ _ HROW1.out
  simp at c0 c1 c2
  clear hW hH HROW HBY
  go_quiet (fail)
  go_wp2_with fail
  have hX := and_low (bits .xor .i64 (H / 8589934592) (H / 35184372088832))
  generalize bits .and .i64 (bits .xor .i64 (H / 8589934592) (H / 35184372088832)) 255 = X at hX ⊢
  obtain ⟨hX0, hX1⟩ := hX
  by_cases hlt : i < n
  · have hlt2 : (i : Int) < n := by omega
    obtain ⟨b, o, rfl, hb, hne, hc⟩ := HBY1.out (by omega)
    obtain ⟨z, z0, z1, hz⟩ := hc i hlt
    clear hc
    go_quiet (fail)
    go_wp2_with fail
    go_quiet (fail)
    go_wp2_with fail
    go_ret
    have hr2 := set_row (j := 1) HROW1.out (.int .i64 ((i : Int) + 1))
    exact ⟨_, rfl, (and_low _).1, (and_low _).2, ⟨i + 1, H, by omega, hH0, hH1, hr2⟩, grown_trans (grown_trans G1 (drew_grown _)) row_grown⟩
  · have hlt2 : ¬ (i : Int) < n := by omega
    go_quiet (fail)
    go_wp2_with fail
    go_ret
    exact ⟨X, rfl, hX0, hX1, ⟨i, H, hi, hH0, hH1, HROW1.out⟩, grown_trans G1 (drew_grown _)⟩

set_option maxRecDepth 100000 in
set_option maxHeartbeats 1000000 in
/-- A number below n, for n from 1 to 256. -/
theorem l01Below_small (m : Nat) (g : Nat) (A : Option Addr) (n c : Nat) (w : World) (hm0 : 0 < m) (hm1 : m ≤ 256) (hm : n ≤ 1048576) (hcur : Cur w g A n c) (hby : Bytes w g A n) :
    Calls Try.prog 55 #[.pointer (some ⟨g, 0, none⟩), .int .i64 m] w fun e w' => ∃ x : Nat, e = .returned (.int .i64 x) ∧ x < m ∧ Cur w' g A n c ∧ w.grownBy w' (some g) := by
  have HB := Lib.hid (l01Byte_any g A n c w hm hcur hby)
  clear hcur hby
  go_enter Try.func55, Try.ntmps55
  go_wp2_with fail
  refine HB.out.mono ?_
  rintro e w1 ⟨x, rfl, hx0, hx1, hc1, hg1⟩
  have HC := Lib.hid hc1
  have HG := Lib.hid hg1
  clear hc1 hg1
  go_wp2
  go_ret
  refine ⟨(x % m).toNat, ?_, ?_, HC.out, HG.out⟩
  · have : 0 ≤ x % (m : Int) := Int.emod_nonneg _ (by omega)
    rw [Int.toNat_of_nonneg this]; rfl
  · have h1 : x % (m : Int) < m := Int.emod_lt_of_pos _ (by omega)
    have h2 : 0 ≤ x % (m : Int) := Int.emod_nonneg _ (by omega)
    omega

theorem l01New_row (w : World) (A : Option Addr) (n c : Nat) (h : Int) : (w.alloc (.cells #[.slice A n c, .int .i64 0, .int .i64 h] 93)).heap[w.heap.size]? = some (.cells #[.slice A n c, .int .i64 0, .int .i64 h] 93 (0, 0)) := heap_alloc_new w _

set_option maxRecDepth 100000 in
set_option maxHeartbeats 1000000 in
set_option maxRecDepth 100000 in
theorem l01New_any (A : Option Addr) (n c : Nat) (w : World) (hm : n ≤ 1048576) (hby : Bytes w w.heap.size A n) :
    Calls Try.prog 42 #[.slice A n c] w fun e w' => e = .returned (.pointer (some ⟨w.heap.size, 0, none⟩)) ∧ Cur w' w.heap.size A n c ∧ Below w.heap.size w w' := by
  have HBY := Lib.hid hby
  clear hby
  go_enter Try.func42, Try.ntmps42
  go_wp2
  go_loop [3, 4] (fun x i => ∃ (k : Nat) (h : Int), k ≤ n ∧ i = .int .i64 k ∧ x = .int .i64 h ∧ -9223372036854775808 ≤ h ∧ h ≤ 9223372036854775807) (fun _ i => n - (intOf i).toNat)
  case atStart => exact ⟨0, _, Nat.zero_le _, rfl, rfl, by omega, by omega⟩
  case round =>
    obtain ⟨k, h, hk, rfl, rfl, hh0, hh1⟩ := hrel
    by_cases hlt : k < n
    · obtain ⟨b, o, rfl, hb, hne, hc⟩ := HBY.out (by omega)
      obtain ⟨z, z0, z1, hz⟩ := hc k hlt
      clear hc
      by_cases hk4 : k < 4000
      · go_wp2
        go_round
        case rel =>
          have hm2 := and_mid (wrap64 (wrap64 (wrap64 (h * 71) + z) + 7))
          exact ⟨k + 1, _, by omega, by go_num, rfl, by omega, by omega⟩
        case measure => simp [intOf]; omega
      · go_wp2
        go_ret
        exact ⟨rfl, ⟨0, h, Nat.zero_le _, hh0, hh1, l01New_row w _ n c h⟩, (Below.refl _ _).alloc (Nat.le_refl _) _⟩
    · go_wp2
      go_ret
      exact ⟨rfl, ⟨0, h, Nat.zero_le _, hh0, hh1, l01New_row w _ n c h⟩, (Below.refl _ _).alloc (Nat.le_refl _) _⟩

theorem Cur.kept {w w' : World} {g : Nat} {A : Option Addr} {n c : Nat} (h : Cur w g A n c) (hb : w'.heap[g]? = w.heap[g]?) : Cur w' g A n c := by
  obtain ⟨i, x, h1, h2, h3, h4⟩ := h
  exact ⟨i, x, h1, h2, h3, hb.trans h4⟩
theorem Cur.lt {w : World} {g : Nat} {A : Option Addr} {n c : Nat} (h : Cur w g A n c) : g < w.heap.size := by
  obtain ⟨i, x, h1, h2, h3, h4⟩ := h
  exact (Array.getElem?_eq_some_iff.1 h4).1
theorem Cur.alloc {w : World} {g : Nat} {A : Option Addr} {n c : Nat} (h : Cur w g A n c) (o : Obj) : Cur (w.alloc o) g A n c := h.kept (Below.heap_alloc w o g h.lt)
theorem Bytes.below {w w' : World} {g : Nat} {A : Option Addr} {n : Nat} (h : Bytes w g A n) (hb : Below w.heap.size w w') : Bytes w' g A n := by
  intro hn
  obtain ⟨b, o, hA, hlt, hne, hc⟩ := h hn
  have := hb.size
  refine ⟨b, o, hA, by omega, hne, fun j hj => ?_⟩
  obtain ⟨z, z0, z1, hz⟩ := hc j hj
  exact ⟨z, z0, z1, (hb.cell (p := ⟨b, o + j, none⟩) hlt).trans hz⟩
/-- Bytes that lay there when the call began lie in none of its own blocks. -/
theorem Bytes.fresh {w w' : World} {A : Option Addr} {n : Nat} (h : Bytes w' w.heap.size A n) (hb : Below w.heap.size w w') : Bytes w' w'.heap.size A n := by
  intro hn
  obtain ⟨b, o, hA, hlt, hne, hc⟩ := h hn
  exact ⟨b, o, hA, hlt, by omega, hc⟩
theorem Bytes.alloc {w : World} {g : Nat} {A : Option Addr} {n : Nat} (h : Bytes w g A n) (o : Obj) : Bytes (w.alloc o) g A n := h.below ((Below.refl _ _).alloc (Nat.le_refl _) o)

theorem five_row (w : World) (v : Nat → ByteArray) : ∀ j (h : j < [v 0, v 1, v 2, v 3, v 4].length), (w.alloc (.cells #[.string (v 0), .string (v 1), .string (v 2), .string (v 3), .string (v 4)] 9)).cell? ⟨w.heap.size, j, none⟩ = some (.string ([v 0, v 1, v 2, v 3, v 4][j])) := by
  intro j hj
  rw [cell_of_row _ _ j _ _ _ (heap_alloc_new w _)]
  match j, hj with
  | 0, _ => rfl
  | 1, _ => rfl
  | 2, _ => rfl
  | 3, _ => rfl
  | 4, _ => rfl

set_option maxRecDepth 100000 in
set_option maxHeartbeats 1000000 in
theorem l29New_any (m : Nat) (A : Option Addr) (n c : Nat) (w : World) (hm : n ≤ 1048576) (hm2 : m ≤ 65536) (hby : Bytes w w.heap.size A n) :
    Calls Try.prog 43 #[.slice A n c, .int .i64 m] w fun e w' => e = .returned (.pointer (some ⟨w.heap.size, 0, none⟩)) ∧ Cur w' w.heap.size A n c ∧ Below w.heap.size w w' := by
  have HN := Lib.hid (l01New_any A n c w hm hby)
  have HBY := Lib.hid hby
  clear hby
  go_enter Try.func43, Try.ntmps43
  go_wp2_with fail
  refine HN.out.mono ?_
  rintro e w1 ⟨rfl, hc1, b1⟩
  have HB1 := Lib.hid (HBY.out.below b1)
  have HC1 := Lib.hid hc1
  clear hc1
  go_wp2
  go_loopw [6] (fun i wr => ∃ k : Nat, k ≤ m ∧ i = .int .i64 k ∧ Cur wr w.heap.size A n c ∧ Bytes wr w.heap.size A n ∧ Below w.heap.size w wr) (fun i _ => m - (intOf i).toNat)
  case atStart => exact ⟨0, Nat.zero_le _, rfl, HC1.out, HB1.out, b1⟩
  case round =>
    obtain ⟨k, hk, rfl, hc, hb, hbw⟩ := hrel
    by_cases hlt : k < m
    · have HQ := Lib.hid (l01Byte_any w.heap.size A n c wr hm hc hb)
      have HB := Lib.hid hb
      clear hc hb
      go_wp2_with fail
      refine HQ.out.mono ?_
      rintro e w3 ⟨x, rfl, hx0, hx1, hc3, g3⟩
      have b3 := hbw.grown g3 hbw.size (fun k hk => by cases hk; exact Nat.le_refl _)
      have HB3 := Lib.hid (HB.out.grown g3)
      have HC3 := Lib.hid hc3
      clear hc3 g3
      go_wp2
      go_roundw
      case rel => exact ⟨k + 1, by omega, by go_num, HC3.out, HB3.out, b3⟩
      case measure => simp [intOf]; omega
    · have HC := Lib.hid hc
      clear hc hb
      go_wp2
      go_ret
      exact ⟨rfl, HC.out, hbw⟩

set_option maxRecDepth 100000 in
set_option maxHeartbeats 1000000 in
theorem MakeNum_any (m : Nat) (A : Option Addr) (n c : Nat) (w : World) (hm : n ≤ 1048576) (hm2 : m ≤ 65536) (hby : Bytes w w.heap.size A n) :
    Calls Try.prog 12 #[.slice A n c, .int .i64 m] w fun e w' => ∃ x : Int, e = .returned (.int .i64 x) ∧ 0 ≤ x ∧ x ≤ 65535 ∧ Below w.heap.size w w' := by
  have HN := Lib.hid (l29New_any m A n c w hm hm2 hby)
  have HBY := Lib.hid hby
  clear hby
  go_enter Try.func12, Try.ntmps12
  go_wp2_with fail
  refine HN.out.mono ?_
  rintro e w1 ⟨rfl, hc1, b1⟩
  have hb1 := HBY.out.below b1
  have HB1 := Lib.hid hb1
  have HQ := Lib.hid (l01Byte_any w.heap.size A n c w1 hm hc1 hb1)
  clear hc1 hb1
  go_wp2_with fail
  refine HQ.out.mono ?_
  rintro e w2 ⟨x, rfl, hx0, hx1, hc2, g2⟩
  have b2 := b1.grown g2 b1.size (fun k hk => by cases hk; exact Nat.le_refl _)
  have HQ2 := Lib.hid (l01Byte_any w.heap.size A n c w2 hm hc2 (HB1.out.grown g2))
  clear hc2 g2 b1
  go_wp2_with fail
  refine HQ2.out.mono ?_
  rintro e w3 ⟨y, rfl, hy0, hy1, hc3, g3⟩
  have b3 := b2.grown g3 b2.size (fun k hk => by cases hk; exact Nat.le_refl _)
  clear hc3 g3 b2
  go_wp2
  go_ret
  exact ⟨_, rfl, by omega, by omega, b3⟩

end Go.Proofs.Yteppmlepbfjnpaa

namespace Go.Proofs.Yteppmlepbfjnpaa
open Go.RowKit Go.ChangeShapes Go.WideShapes Go.ChangeAt Go.WideMaps Go.WideElems
set_option linter.unusedVariables false

theorem cells_u8 : Try.prog.cellsOf 5 = 1 := by kernel_rfl

/-- A slice of bytes that comes in, nil or not: its length, and that its cells hold bytes, below whatever block the call makes. -/
theorem bytes_in {H : Type} {enc : TypeId × Value → H} {P : Program} {W : World} {t e : TypeId} {fuel n c : Nat} {A : Option Addr} {x : DataW H × List MemPlace}
    (ht : P.underlying t = some (.slice e)) (he : P.underlying e = some (.int .u8)) (hc : P.cellsOf e = 1)
    (hf : DataW.trod enc P W 0 (fun _ => true) true fuel t (Value.slice A n c).cells.toList = some x) :
    n ≤ maxLen ∧ Bytes W W.heap.size A n := by
  rcases open_ints ht he hc hf with ⟨hcs, _⟩ | ⟨a, len, cap, zs, hcs, _, hl, hm, hz, _, hcell, hws⟩
  · simp [Value.cells] at hcs
    obtain ⟨rfl, rfl, rfl⟩ := hcs
    exact ⟨Nat.zero_le _, fun h => by omega⟩
  · simp [Value.cells] at hcs
    obtain ⟨rfl, rfl, rfl⟩ := hcs
    have hlen : zs.length = c := by simpa using hz
    refine ⟨by omega, fun hp => ?_⟩
    have h0 := hcell 0 (by omega)
    obtain ⟨b, off, spot⟩ := a
    have hspot : spot = none := by simpa [Addr.add] using World.cell?_spot h0
    subst hspot
    have hb : b < W.heap.size := by
      rcases Nat.lt_or_ge b W.heap.size with hlt | hge
      · exact hlt
      · have : W.heap[b]? = none := Array.getElem?_eq_none hge
        simp [Addr.add, World.cell?, this] at h0
    refine ⟨b, off, rfl, hb, by omega, fun j hj => ?_⟩
    have hw := hws (zs.getD j 0) (by
      rw [List.getD_eq_getElem?_getD, List.getElem?_eq_getElem (by omega)]
      exact List.getElem_mem _)
    have hb2 : 0 ≤ zs.getD j 0 ∧ zs.getD j 0 ≤ 255 := by
      simpa [Lit.wf, IntKind.min, IntKind.max, IntKind.signed, IntKind.bits] using hw
    exact ⟨zs.getD j 0, hb2.1, hb2.2, by rw [← Go.WideShapes.add_plain]; exact hcell j (by omega)⟩

end Go.Proofs.Yteppmlepbfjnpaa
