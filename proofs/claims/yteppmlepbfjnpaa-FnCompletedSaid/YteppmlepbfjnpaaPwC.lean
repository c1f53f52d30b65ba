/-
  WALKS of impl.CanExtend and impl.NextTimes.
-/
import Derived.Test.YteppmlepbfjnpaaPwF
import Derived.Test.YteppmlepbfjnpaaNwG
import Derived.Test.YteppmlepbfjnpaaBdSmW
namespace Go.Proofs.Yteppmlepbfjnpaa
open Go.RowKit
set_option linter.unusedVariables false
set_option linter.unusedSimpArgs false

theorem ce_fix (n : Int) (es : List GL) (ts : List Int) : ceR n es ts = consR (fxN n es ts) (fxE n es ts) := by
  unfold ceR
  cases h : fxR n es ts with
  | false => rw [fxN_no h, fxE_no h]; rfl
  | true => rw [fxN_yes h, fxE_yes h, Bool.true_and]
theorem nt_fix (n : Int) (es : List GL) (ts : List Int) (v : Int) : ntV n es ts v = wV (fxN n es ts) (fxE n es ts) v := by
  cases h : fxR n es ts with
  | false => rw [ntV_no h, fxN_no h, fxE_no h, wV_no (by rfl)]
  | true => rw [ntV_yes h, fxN_yes h, fxE_yes h]

set_option maxRecDepth 100000 in
set_option maxHeartbeats 8000000 in
theorem impl_CanExtend (n : Int) (es : List GL) (A : Option Addr) (k c : Nat) (ts : List Int) (T : Option Addr) (m d : Nat) (w : World) (hn : es.length = k) (hm : k ≤ 1048576) (hl : ts.length = m) (hr : LinkAt w A es) (ht : RowAt w T (ts.map intV)) :
    Calls Try.prog 17 #[grV n A k c, .slice T m d] w fun e w' => e = .returned (.bool (ceR n es ts)) ∧ Below w.heap.size w w' := by
  have HS := Lib.hid (fun W h h2 => impl_FixTimes n es A k c ts T m d W hn hm hl h h2)
  have HR := Lib.hid hr
  have HT := Lib.hid ht
  have hle := fxE_len n es ts
  clear hr hn ht hl
  unfold FxEnd at HS
  rw [ce_fix]
  obtain ⟨f1, hf1⟩ : ∃ b, b = fxR n es ts := ⟨_, rfl⟩
  obtain ⟨n1, hn1⟩ : ∃ b, b = fxN n es ts := ⟨_, rfl⟩
  obtain ⟨e1, he1⟩ : ∃ b, b = fxE n es ts := ⟨_, rfl⟩
  rw [← hf1, ← hn1, ← he1] at HS
  rw [← hn1, ← he1]
  rw [← he1] at hle
  clear hf1 hn1 he1
  have HC := Lib.hid (fun A2 k2 c2 W h1 h => impl_IsConsistent n1 e1 A2 k2 c2 W h1 (by omega) h)
  obtain ⟨b, hb⟩ : ∃ b, b = consR n1 e1 := ⟨_, rfl⟩
  rw [← hb] at HC ⊢
  clear hb
  unfold grV at HS HC ⊢
  go_enter Try.func17, Try.ntmps17
  go_wp2_with fail
  refine (HS.out _ (HR.out.below (by repeat (first | exact Below.refl _ _ | refine below_step (by assumption) (by first | omega | (simp; done) | (simp; omega)) ?_ | refine below_drewN ?_ _ | refine Below.drew ?_ | refine Below.setCell ?_ (by first | omega | (simp; done) | (simp; omega)) _ | refine Below.alloc ?_ (by first | omega | (simp; done) | (simp; omega)) _))) (HT.out.below (by repeat (first | exact Below.refl _ _ | refine below_step (by assumption) (by first | omega | (simp; done) | (simp; omega)) ?_ | refine below_drewN ?_ _ | refine Below.drew ?_ | refine Below.setCell ?_ (by first | omega | (simp; done) | (simp; omega)) _ | refine Below.alloc ?_ (by first | omega | (simp; done) | (simp; omega)) _)))).mono ?_
  rintro e w1 ⟨A1, m1, c1, rfl, hm1, hE, b1⟩
  have HE := Lib.hid (own_link hE)
  have HM := Lib.hid hm1
  clear hE hm1
  have c0_w1 : w1.cell? ⟨w.heap.size, 0, none⟩ = some (.int .i64 n) := (b1.cell (p := ⟨w.heap.size, 0, none⟩) (by first | omega | (simp; done) | (simp; omega))).trans (by first | assumption | go_simp)
  have c1_w1 : w1.cell? ⟨w.heap.size, 1, none⟩ = some (.slice A k c) := (b1.cell (p := ⟨w.heap.size, 1, none⟩) (by first | omega | (simp; done) | (simp; omega))).trans (by first | assumption | go_simp)
  have s0_w1 : w.heap.size < w1.heap.size := Nat.lt_of_lt_of_le (by first | omega | (simp; done) | (simp; omega)) b1.size
  have B_w1 : Below w.heap.size w w1 := (by repeat (first | exact Below.refl _ _ | refine below_step (by assumption) (by first | omega | (simp; done) | (simp; omega)) ?_ | refine below_drewN ?_ _ | refine Below.drew ?_ | refine Below.setCell ?_ (by first | omega | (simp; done) | (simp; omega)) _ | refine Below.alloc ?_ (by first | omega | (simp; done) | (simp; omega)) _))
  clear b1  
  have HE2 := Lib.hid (HE.out.below ((Below.refl _ w1).alloc (Nat.le_refl _) (.cells #[.int .i64 n1, .slice A1 m1 c1] 25)))
  go_wp2_with fail
  refine (HC.out A1 m1 c1 _ HM.out.symm HE2.out).mono ?_
  rintro e w2 ⟨rfl, b2⟩
  have c0_w2 : w2.cell? ⟨w.heap.size, 0, none⟩ = some (.int .i64 n) := (b2.cell (p := ⟨w.heap.size, 0, none⟩) (by first | omega | (simp; done) | (simp; omega))).trans (by first | assumption | go_simp)
  have c1_w2 : w2.cell? ⟨w.heap.size, 1, none⟩ = some (.slice A k c) := (b2.cell (p := ⟨w.heap.size, 1, none⟩) (by first | omega | (simp; done) | (simp; omega))).trans (by first | assumption | go_simp)
  have c2_w2 : w2.cell? ⟨w1.heap.size, 0, none⟩ = some (.int .i64 n1) := (b2.cell (p := ⟨w1.heap.size, 0, none⟩) (by first | omega | (simp; done) | (simp; omega))).trans (by first | assumption | go_simp)
  have c3_w2 : w2.cell? ⟨w1.heap.size, 1, none⟩ = some (.slice A1 m1 c1) := (b2.cell (p := ⟨w1.heap.size, 1, none⟩) (by first | omega | (simp; done) | (simp; omega))).trans (by first | assumption | go_simp)
  have s0_w2 : w.heap.size < w2.heap.size := Nat.lt_of_lt_of_le (by first | omega | (simp; done) | (simp; omega)) b2.size
  have s1_w2 : w1.heap.size < w2.heap.size := Nat.lt_of_lt_of_le (by first | omega | (simp; done) | (simp; omega)) b2.size
  have B_w2 : Below w.heap.size w w2 := (by repeat (first | exact Below.refl _ _ | refine below_step (by assumption) (by first | omega | (simp; done) | (simp; omega)) ?_ | refine below_drewN ?_ _ | refine Below.drew ?_ | refine Below.setCell ?_ (by first | omega | (simp; done) | (simp; omega)) _ | refine Below.alloc ?_ (by first | omega | (simp; done) | (simp; omega)) _))
  clear b2 c0_w1 c1_w1 s0_w1 B_w1
  go_wp2_with fail
  go_ret
  exact ⟨ret_b rfl, B_w2⟩

set_option maxRecDepth 100000 in
set_option maxHeartbeats 8000000 in
theorem impl_NextTimes (v : Int) (n : Int) (es : List GL) (A : Option Addr) (k c : Nat) (ts : List Int) (T : Option Addr) (m d : Nat) (w : World) (hn : es.length = k) (hm : k ≤ 1048576) (hl : ts.length = m) (hr : LinkAt w A es) (ht : RowAt w T (ts.map intV)) :
    Calls Try.prog 23 #[grV n A k c, .slice T m d, .int .i64 v] w fun e w' => e = .returned (ntV n es ts v) ∧ Below w.heap.size w w' := by
  have HS := Lib.hid (fun W h h2 => impl_FixTimes n es A k c ts T m d W hn hm hl h h2)
  have HR := Lib.hid hr
  have HT := Lib.hid ht
  have hle := fxE_len n es ts
  clear hr hn ht hl
  unfold FxEnd at HS
  rw [nt_fix]
  obtain ⟨f1, hf1⟩ : ∃ b, b = fxR n es ts := ⟨_, rfl⟩
  obtain ⟨n1, hn1⟩ : ∃ b, b = fxN n es ts := ⟨_, rfl⟩
  obtain ⟨e1, he1⟩ : ∃ b, b = fxE n es ts := ⟨_, rfl⟩
  rw [← hf1, ← hn1, ← he1] at HS
  rw [← hn1, ← he1]
  rw [← he1] at hle
  clear hf1 hn1 he1
  have HC := Lib.hid (fun A2 k2 c2 W h1 h => impl_WindowOf n1 e1 A2 k2 c2 v W h1 (by omega) h)
  unfold wV ivV at HC ⊢
  obtain ⟨lo, hlo⟩ : ∃ t, t = wL n1 e1 v := ⟨_, rfl⟩
  obtain ⟨hi, hhi⟩ : ∃ t, t = wH n1 e1 v := ⟨_, rfl⟩
  obtain ⟨bw, hbw⟩ : ∃ t, t = wB n1 e1 v := ⟨_, rfl⟩
  rw [← hlo, ← hhi, ← hbw] at HC ⊢
  clear hlo hhi hbw
  unfold grV at HS HC ⊢
  go_enter Try.func23, Try.ntmps23
  go_wp2_with fail
  refine (HS.out _ (HR.out.below (by repeat (first | exact Below.refl _ _ | refine below_step (by assumption) (by first | omega | (simp; done) | (simp; omega)) ?_ | refine below_drewN ?_ _ | refine Below.drew ?_ | refine Below.setCell ?_ (by first | omega | (simp; done) | (simp; omega)) _ | refine Below.alloc ?_ (by first | omega | (simp; done) | (simp; omega)) _))) (HT.out.below (by repeat (first | exact Below.refl _ _ | refine below_step (by assumption) (by first | omega | (simp; done) | (simp; omega)) ?_ | refine below_drewN ?_ _ | refine Below.drew ?_ | refine Below.setCell ?_ (by first | omega | (simp; done) | (simp; omega)) _ | refine Below.alloc ?_ (by first | omega | (simp; done) | (simp; omega)) _)))).mono ?_
  rintro e w1 ⟨A1, m1, c1, rfl, hm1, hE, b1⟩
  have HE := Lib.hid (own_link hE)
  have HM := Lib.hid hm1
  clear hE hm1
  have c0_w1 : w1.cell? ⟨w.heap.size, 0, none⟩ = some (.int .i64 n) := (b1.cell (p := ⟨w.heap.size, 0, none⟩) (by first | omega | (simp; done) | (simp; omega))).trans (by first | assumption | go_simp)
  have c1_w1 : w1.cell? ⟨w.heap.size, 1, none⟩ = some (.slice A k c) := (b1.cell (p := ⟨w.heap.size, 1, none⟩) (by first | omega | (simp; done) | (simp; omega))).trans (by first | assumption | go_simp)
  have c2_w1 : w1.cell? ⟨w.heap.size + 1, 0, none⟩ = some (.int .i64 0) := (b1.cell (p := ⟨w.heap.size + 1, 0, none⟩) (by first | omega | (simp; done) | (simp; omega))).trans (by first | assumption | go_simp)
  have c3_w1 : w1.cell? ⟨w.heap.size + 1, 1, none⟩ = some (.int .i64 0) := (b1.cell (p := ⟨w.heap.size + 1, 1, none⟩) (by first | omega | (simp; done) | (simp; omega))).trans (by first | assumption | go_simp)
  have f0_w1 : w1.frozen? ⟨w.heap.size + 1, 0, none⟩ = false := (b1.frozen (p := ⟨w.heap.size + 1, 0, none⟩) (by first | omega | (simp; done) | (simp; omega))).trans (by first | assumption | go_simp)
  have f1_w1 : w1.frozen? ⟨w.heap.size + 1, 1, none⟩ = false := (b1.frozen (p := ⟨w.heap.size + 1, 1, none⟩) (by first | omega | (simp; done) | (simp; omega))).trans (by first | assumption | go_simp)
  have s0_w1 : w.heap.size < w1.heap.size := Nat.lt_of_lt_of_le (by first | omega | (simp; done) | (simp; omega)) b1.size
  have s1_w1 : w.heap.size + 1 < w1.heap.size := Nat.lt_of_lt_of_le (by first | omega | (simp; done) | (simp; omega)) b1.size
  have B_w1 : Below w.heap.size w w1 := (by repeat (first | exact Below.refl _ _ | refine below_step (by assumption) (by first | omega | (simp; done) | (simp; omega)) ?_ | refine below_drewN ?_ _ | refine Below.drew ?_ | refine Below.setCell ?_ (by first | omega | (simp; done) | (simp; omega)) _ | refine Below.alloc ?_ (by first | omega | (simp; done) | (simp; omega)) _))
  clear b1  
  have nn1 : (w.heap.size + 1 = w1.heap.size) = False := eq_false (by omega)
  have nn2 : (w1.heap.size = w.heap.size + 1) = False := eq_false (by omega)
  have HE2 := Lib.hid (HE.out.below ((Below.refl _ w1).alloc (Nat.le_refl _) (.cells #[.int .i64 n1, .slice A1 m1 c1] 25)))
  go_wp2_with fail
  refine (HC.out A1 m1 c1 _ HM.out.symm HE2.out).mono ?_
  rintro e w2 ⟨rfl, b2⟩
  have c0_w2 : w2.cell? ⟨w.heap.size, 0, none⟩ = some (.int .i64 n) := (b2.cell (p := ⟨w.heap.size, 0, none⟩) (by first | omega | (simp; done) | (simp; omega))).trans (by first | assumption | go_simp)
  have c1_w2 : w2.cell? ⟨w.heap.size, 1, none⟩ = some (.slice A k c) := (b2.cell (p := ⟨w.heap.size, 1, none⟩) (by first | omega | (simp; done) | (simp; omega))).trans (by first | assumption | go_simp)
  have c2_w2 : w2.cell? ⟨w.heap.size + 1, 0, none⟩ = some (.int .i64 0) := (b2.cell (p := ⟨w.heap.size + 1, 0, none⟩) (by first | omega | (simp; done) | (simp; omega))).trans (by first | assumption | go_simp)
  have c3_w2 : w2.cell? ⟨w.heap.size + 1, 1, none⟩ = some (.int .i64 0) := (b2.cell (p := ⟨w.heap.size + 1, 1, none⟩) (by first | omega | (simp; done) | (simp; omega))).trans (by first | assumption | go_simp)
  have c4_w2 : w2.cell? ⟨w1.heap.size, 0, none⟩ = some (.int .i64 n1) := (b2.cell (p := ⟨w1.heap.size, 0, none⟩) (by first | omega | (simp; done) | (simp; omega))).trans (by first | assumption | go_simp)
  have c5_w2 : w2.cell? ⟨w1.heap.size, 1, none⟩ = some (.slice A1 m1 c1) := (b2.cell (p := ⟨w1.heap.size, 1, none⟩) (by first | omega | (simp; done) | (simp; omega))).trans (by first | assumption | go_simp)
  have f0_w2 : w2.frozen? ⟨w.heap.size + 1, 0, none⟩ = false := (b2.frozen (p := ⟨w.heap.size + 1, 0, none⟩) (by first | omega | (simp; done) | (simp; omega))).trans (by first | assumption | go_simp)
  have f1_w2 : w2.frozen? ⟨w.heap.size + 1, 1, none⟩ = false := (b2.frozen (p := ⟨w.heap.size + 1, 1, none⟩) (by first | omega | (simp; done) | (simp; omega))).trans (by first | assumption | go_simp)
  have s0_w2 : w.heap.size < w2.heap.size := Nat.lt_of_lt_of_le (by first | omega | (simp; done) | (simp; omega)) b2.size
  have s1_w2 : w.heap.size + 1 < w2.heap.size := Nat.lt_of_lt_of_le (by first | omega | (simp; done) | (simp; omega)) b2.size
  have s2_w2 : w1.heap.size < w2.heap.size := Nat.lt_of_lt_of_le (by first | omega | (simp; done) | (simp; omega)) b2.size
  have B_w2 : Below w.heap.size w w2 := (by repeat (first | exact Below.refl _ _ | refine below_step (by assumption) (by first | omega | (simp; done) | (simp; omega)) ?_ | refine below_drewN ?_ _ | refine Below.drew ?_ | refine Below.setCell ?_ (by first | omega | (simp; done) | (simp; omega)) _ | refine Below.alloc ?_ (by first | omega | (simp; done) | (simp; omega)) _))
  clear b2 c0_w1 c1_w1 c2_w1 c3_w1 f0_w1 f1_w1 s0_w1 s1_w1 B_w1
  go_wp2_with fail
  refine bodyPost_ret (v := .tuple #[.agg #[.int .i64 lo, .int .i64 hi], .bool bw]) (by first | (simp [results, Try.results23, go_sem, c2_w2, c3_w2, f0_w2, f1_w2]; done) | simp [*, results, Try.results23, go_sem]) rfl ⟨rfl, by refine Below.setCell (Below.setCell ?_ (by first | omega | (simp; done) | (simp; omega)) _) (by first | omega | (simp; done) | (simp; omega)) _; exact B_w2⟩

end Go.Proofs.Yteppmlepbfjnpaa

