/-
  WALK of spec.WindowOf.
  WALKS of impl.distancesOf and impl.WindowOf.
-/
import Derived.Test.YteppmlepbfjnpaaBdSmG
import Derived.Test.YteppmlepbfjnpaaCgB
import Derived.Test.YteppmlepbfjnpaaTbE
import Derived.Test.YteppmlepbfjnpaaBdTgC
namespace Go.Proofs.Yteppmlepbfjnpaa
open Go.RowKit
set_option linter.unusedVariables false
set_option linter.unusedSimpArgs false

theorem closeR_le (n : Int) (es : List GE) : (closeR n es).2.1.length ≤ 64 := by
  unfold closeR
  split
  · rename_i h
    have := okG_rng h.1
    rw [close_length]
    exact sq_le (by omega)
  · simp

theorem wV_no {n : Int} {es : List GL} {v : Int} (h : consR n es = false) : wV n es v = .tuple #[.agg #[.int .i64 0, .int .i64 0], .bool false] := by
  have hb : wB n es v = false := by unfold wB; rw [h]; rfl
  unfold wV wL wH ivV
  rw [hb]; rfl
theorem wV_yes {n : Int} {es : List GL} {v : Int} (h : consR n es = true) : winV (closeR n (gE es)).1 (wTab n es) 0 v = wV n es v := by
  have hb : wB n es v = winB (closeR n (gE es)).1 (wTab n es) 0 v := by unfold wB; rw [h, Bool.true_and]
  unfold wV winV wL wH
  rw [hb]
  cases hw : winB (closeR n (gE es)).1 (wTab n es) 0 v with
  | false => unfold winL winH; rw [hw]; rfl
  | true => rfl
theorem consR_ok {n : Int} {es : List GL} (h : consR n es = true) : okS n es = true := by unfold consR at h; rw [Bool.and_eq_true] at h; exact h.1

set_option maxRecDepth 100000 in
set_option maxHeartbeats 4000000 in
theorem spec_WindowOf (n : Int) (es : List GL) (A : Option Addr) (k c : Nat) (v : Int) (w : World) (hn : es.length = k) (hm : k ≤ 1048576) (hr : LinkAt w A es) :
    Calls Try.prog 72 #[grV n A k c, .int .i64 v] w fun e w' => e = .returned (wV n es v) ∧ Below w.heap.size w w' := by
  have HS := Lib.hid (fun W h => spec_IsConsistent n es A k c W hn hm h)
  have HG := Lib.hid (fun W h => spec_GraphOf n es A k c W hn hm h)
  have HR := Lib.hid hr
  clear hr hn
  obtain ⟨ok, hok⟩ : ∃ b, b = consR n es := ⟨_, rfl⟩
  rw [← hok] at HS
  have HO := Lib.hid hok.symm
  clear hok
  unfold grV at HS HG ⊢
  cases ok with
  | false =>
    rw [wV_no HO.out]
    go_enter Try.func72, Try.ntmps72
    go_wp2_with fail
    refine (HS.out _ (HR.out.below (by repeat (first | exact Below.refl _ _ | refine below_step (by assumption) (by first | omega | (simp; done) | (simp; omega)) ?_ | refine below_drewN ?_ _ | refine Below.drew ?_ | refine Below.setCell ?_ (by first | omega | (simp; done) | (simp; omega)) _ | refine Below.alloc ?_ (by first | omega | (simp; done) | (simp; omega)) _)))).mono ?_
    rintro e w1 ⟨rfl, b1⟩
    have c0_w1 : w1.cell? ⟨w.heap.size, 0, none⟩ = some (.int .i64 n) := (b1.cell (p := ⟨w.heap.size, 0, none⟩) (by first | omega | (simp; done) | (simp; omega))).trans (by first | assumption | go_simp)
    have c1_w1 : w1.cell? ⟨w.heap.size, 1, none⟩ = some (.slice A k c) := (b1.cell (p := ⟨w.heap.size, 1, none⟩) (by first | omega | (simp; done) | (simp; omega))).trans (by first | assumption | go_simp)
    have c2_w1 : w1.cell? ⟨w.heap.size + 1, 0, none⟩ = some (.int .i64 0) := (b1.cell (p := ⟨w.heap.size + 1, 0, none⟩) (by first | omega | (simp; done) | (simp; omega))).trans (by first | assumption | go_simp)
    have c3_w1 : w1.cell? ⟨w.heap.size + 1, 1, none⟩ = some (.int .i64 0) := (b1.cell (p := ⟨w.heap.size + 1, 1, none⟩) (by first | omega | (simp; done) | (simp; omega))).trans (by first | assumption | go_simp)
    have f0_w1 : w1.frozen? ⟨w.heap.size + 1, 0, none⟩ = false := (b1.frozen (p := ⟨w.heap.size + 1, 0, none⟩) (by first | omega | (simp; done) | (simp; omega))).trans (by first | assumption | go_simp)
    have f1_w1 : w1.frozen? ⟨w.heap.size + 1, 1, none⟩ = false := (b1.frozen (p := ⟨w.heap.size + 1, 1, none⟩) (by first | omega | (simp; done) | (simp; omega))).trans (by first | assumption | go_simp)
    have s0_w1 : w.heap.size < w1.heap.size := Nat.lt_of_lt_of_le (by first | omega | (simp; done) | (simp; omega)) b1.size
    have s1_w1 : w.heap.size + 1 < w1.heap.size := Nat.lt_of_lt_of_le (by first | omega | (simp; done) | (simp; omega)) b1.size
    have B_w1 : Below w.heap.size w w1 := (by repeat (first | exact Below.refl _ _ | refine below_step (by assumption) (by first | omega | (simp; done) | (simp; omega)) ?_ | refine below_drewN ?_ _ | refine Below.drew ?_ | refine Below.setCell ?_ (by first | omega | (simp; done) | (simp; omega)) _ | refine Below.alloc ?_ (by first | omega | (simp; done) | (simp; omega)) _))
    clear b1  
    go_wp2_with fail
    refine bodyPost_ret (v := .tuple #[.agg #[.int .i64 0, .int .i64 0], .bool false]) (by first | (simp [results, Try.results72, go_sem, c2_w1, c3_w1, f2_w1, f3_w1]; done) | simp [*, results, Try.results72, go_sem]) rfl ⟨rfl, by refine Below.setCell (Below.setCell ?_ (by first | omega | (simp; done) | (simp; omega)) _) (by first | omega | (simp; done) | (simp; omega)) _; exact B_w1⟩
  | true =>
    have HOK := Lib.hid (consR_ok HO.out)
    rw [← wV_yes HO.out]
    have HC := Lib.hid (fun A' k' c' W hl hr => spec_CloseGraph n (gE es) A' k' c' W hl (by have := (gE_len80 HOK.out).1; omega) hr)
    have HZ := Lib.hid (show (wTab n es).length ≤ 64 from closeR_le _ _)
    have HW := Lib.hid (fun A' k' c' W hl hr => spec_WindowBetween (closeR n (gE es)).1 (wTab n es) A' k' c' 0 v W hl (by have := HZ.out; omega) hr)
    obtain ⟨t0, ht0⟩ : ∃ t, t = (closeR n (gE es)).1 := ⟨_, rfl⟩
    obtain ⟨zs, hzs⟩ : ∃ t, t = wTab n es := ⟨_, rfl⟩
    obtain ⟨fl, hfl⟩ : ∃ t, t = (closeR n (gE es)).2.2 := ⟨_, rfl⟩
    unfold CgEnd tgV at HC
    unfold wTab at hzs
    rw [← ht0, ← hfl, ← hzs] at HC
    unfold wTab at HW ⊢
    rw [← ht0, ← hzs] at HW ⊢
    unfold winV ivV at HW ⊢
    obtain ⟨lo, hlo⟩ : ∃ t, t = winL t0 zs 0 v := ⟨_, rfl⟩
    obtain ⟨hi, hhi⟩ : ∃ t, t = winH t0 zs 0 v := ⟨_, rfl⟩
    obtain ⟨bw, hbw⟩ : ∃ t, t = winB t0 zs 0 v := ⟨_, rfl⟩
    rw [← hlo, ← hhi, ← hbw] at HW ⊢
    clear hlo hhi hbw ht0 hzs hfl HZ
    unfold grV at HC HW
    go_enter Try.func72, Try.ntmps72
    go_wp2_with fail
    refine (HS.out _ (HR.out.below (by repeat (first | exact Below.refl _ _ | refine below_step (by assumption) (by first | omega | (simp; done) | (simp; omega)) ?_ | refine below_drewN ?_ _ | refine Below.drew ?_ | refine Below.setCell ?_ (by first | omega | (simp; done) | (simp; omega)) _ | refine Below.alloc ?_ (by first | omega | (simp; done) | (simp; omega)) _)))).mono ?_
    rintro e w1 ⟨rfl, b1⟩
    have c0_w1 : w1.cell? ⟨w.heap.size, 0, none⟩ = some (.int .i64 n) := (b1.cell (p := ⟨w.heap.size, 0, none⟩) (by first | omega | (simp; done) | (simp; omega))).trans (by first | assumption | go_simp)
    have c1_w1 : w1.cell? ⟨w.heap.size, 1, none⟩ = some (.slice A k c) := (b1.cell (p := ⟨w.heap.size, 1, none⟩) (by first | omega | (simp; done) | (simp; omega))).trans (by first | assumption | go_simp)
    have c2_w1 : w1.cell? ⟨w.heap.size + 1, 0, none⟩ = some (.int .i64 0) := (b1.cell (p := ⟨w.heap.size + 1, 0, none⟩) (by first | omega | (simp; done) | (simp; omega))).trans (by first | assumption | go_simp)
    have c3_w1 : w1.cell? ⟨w.heap.size + 1, 1, none⟩ = some (.int .i64 0) := (b1.cell (p := ⟨w.heap.size + 1, 1, none⟩) (by first | omega | (simp; done) | (simp; omega))).trans (by first | assumption | go_simp)
    have f0_w1 : w1.frozen? ⟨w.heap.size + 1, 0, none⟩ = false := (b1.frozen (p := ⟨w.heap.size + 1, 0, none⟩) (by first | omega | (simp; done) | (simp; omega))).trans (by first | assumption | go_simp)
    have f1_w1 : w1.frozen? ⟨w.heap.size + 1, 1, none⟩ = false := (b1.frozen (p := ⟨w.heap.size + 1, 1, none⟩) (by first | omega | (simp; done) | (simp; omega))).trans (by first | assumption | go_simp)
    have s0_w1 : w.heap.size < w1.heap.size := Nat.lt_of_lt_of_le (by first | omega | (simp; done) | (simp; omega)) b1.size
    have s1_w1 : w.heap.size + 1 < w1.heap.size := Nat.lt_of_lt_of_le (by first | omega | (simp; done) | (simp; omega)) b1.size
    have B_w1 : Below w.heap.size w w1 := (by repeat (first | exact Below.refl _ _ | refine below_step (by assumption) (by first | omega | (simp; done) | (simp; omega)) ?_ | refine below_drewN ?_ _ | refine Below.drew ?_ | refine Below.setCell ?_ (by first | omega | (simp; done) | (simp; omega)) _ | refine Below.alloc ?_ (by first | omega | (simp; done) | (simp; omega)) _))
    clear b1  
    go_wp2_with fail
    refine (HG.out _ (HR.out.below (by repeat (first | exact Below.refl _ _ | refine below_step (by assumption) (by first | omega | (simp; done) | (simp; omega)) ?_ | refine below_drewN ?_ _ | refine Below.drew ?_ | refine Below.setCell ?_ (by first | omega | (simp; done) | (simp; omega)) _ | refine Below.alloc ?_ (by first | omega | (simp; done) | (simp; omega)) _)))).mono ?_
    rintro e w2 ⟨B, m, cb, rfl, hm1, h2, b2⟩
    have c0_w2 : w2.cell? ⟨w.heap.size, 0, none⟩ = some (.int .i64 n) := (b2.cell (p := ⟨w.heap.size, 0, none⟩) (by first | omega | (simp; done) | (simp; omega))).trans (by first | assumption | go_simp)
    have c1_w2 : w2.cell? ⟨w.heap.size, 1, none⟩ = some (.slice A k c) := (b2.cell (p := ⟨w.heap.size, 1, none⟩) (by first | omega | (simp; done) | (simp; omega))).trans (by first | assumption | go_simp)
    have c2_w2 : w2.cell? ⟨w.heap.size + 1, 0, none⟩ = some (.int .i64 0) := (b2.cell (p := ⟨w.heap.size + 1, 0, none⟩) (by first | omega | (simp; done) | (simp; omega))).trans (by first | assumption | go_simp)
    have c3_w2 : w2.cell? ⟨w.heap.size + 1, 1, none⟩ = some (.int .i64 0) := (b2.cell (p := ⟨w.heap.size + 1, 1, none⟩) (by first | omega | (simp; done) | (simp; omega))).trans (by first | assumption | go_simp)
    have f0_w2 : w2.frozen? ⟨w.heap.size + 1, 0, none⟩ = false := (b2.frozen (p := ⟨w.heap.size + 1, 0, none⟩) (by first | omega | (simp; done) | (simp; omega))).trans (by first | assumption | go_simp)
    have f1_w2 : w2.frozen? ⟨w.heap.size + 1, 1, none⟩ = false := (b2.frozen (p := ⟨w.heap.size + 1, 1, none⟩) (by first | omega | (simp; done) | (simp; omega))).trans (by first | assumption | go_simp)
    have s0_w2 : w.heap.size < w2.heap.size := Nat.lt_of_lt_of_le (by first | omega | (simp; done) | (simp; omega)) b2.size
    have s1_w2 : w.heap.size + 1 < w2.heap.size := Nat.lt_of_lt_of_le (by first | omega | (simp; done) | (simp; omega)) b2.size
    have B_w2 : Below w.heap.size w w2 := (by repeat (first | exact Below.refl _ _ | refine below_step (by assumption) (by first | omega | (simp; done) | (simp; omega)) ?_ | refine below_drewN ?_ _ | refine Below.drew ?_ | refine Below.setCell ?_ (by first | omega | (simp; done) | (simp; omega)) _ | refine Below.alloc ?_ (by first | omega | (simp; done) | (simp; omega)) _))
    clear b2 c0_w1 c1_w1 c2_w1 c3_w1 f0_w1 f1_w1 s0_w1 s1_w1 B_w1
    rw [grE_yes HOK.out] at hm1 h2
    have HE := Lib.hid (own_edgeS h2)
    have HM1 := Lib.hid hm1
    clear h2 hm1
    unfold grV
    rw [grN_yes HOK.out]
    go_wp2_with fail
    refine (HC.out B m cb _ HM1.out.symm HE.out).mono ?_
    rintro e w3 ⟨D, q, cd, rfl, hq, h3, b3⟩
    have c0_w3 : w3.cell? ⟨w.heap.size, 0, none⟩ = some (.int .i64 n) := (b3.cell (p := ⟨w.heap.size, 0, none⟩) (by first | omega | (simp; done) | (simp; omega))).trans (by first | assumption | go_simp)
    have c1_w3 : w3.cell? ⟨w.heap.size, 1, none⟩ = some (.slice A k c) := (b3.cell (p := ⟨w.heap.size, 1, none⟩) (by first | omega | (simp; done) | (simp; omega))).trans (by first | assumption | go_simp)
    have c2_w3 : w3.cell? ⟨w.heap.size + 1, 0, none⟩ = some (.int .i64 0) := (b3.cell (p := ⟨w.heap.size + 1, 0, none⟩) (by first | omega | (simp; done) | (simp; omega))).trans (by first | assumption | go_simp)
    have c3_w3 : w3.cell? ⟨w.heap.size + 1, 1, none⟩ = some (.int .i64 0) := (b3.cell (p := ⟨w.heap.size + 1, 1, none⟩) (by first | omega | (simp; done) | (simp; omega))).trans (by first | assumption | go_simp)
    have f0_w3 : w3.frozen? ⟨w.heap.size + 1, 0, none⟩ = false := (b3.frozen (p := ⟨w.heap.size + 1, 0, none⟩) (by first | omega | (simp; done) | (simp; omega))).trans (by first | assumption | go_simp)
    have f1_w3 : w3.frozen? ⟨w.heap.size + 1, 1, none⟩ = false := (b3.frozen (p := ⟨w.heap.size + 1, 1, none⟩) (by first | omega | (simp; done) | (simp; omega))).trans (by first | assumption | go_simp)
    have s0_w3 : w.heap.size < w3.heap.size := Nat.lt_of_lt_of_le (by first | omega | (simp; done) | (simp; omega)) b3.size
    have s1_w3 : w.heap.size + 1 < w3.heap.size := Nat.lt_of_lt_of_le (by first | omega | (simp; done) | (simp; omega)) b3.size
    have B_w3 : Below w.heap.size w w3 := (by repeat (first | exact Below.refl _ _ | refine below_step (by assumption) (by first | omega | (simp; done) | (simp; omega)) ?_ | refine below_drewN ?_ _ | refine Below.drew ?_ | refine Below.setCell ?_ (by first | omega | (simp; done) | (simp; omega)) _ | refine Below.alloc ?_ (by first | omega | (simp; done) | (simp; omega)) _))
    clear b3 c0_w2 c1_w2 c2_w2 c3_w2 f0_w2 f1_w2 s0_w2 s1_w2 B_w2
    have HD := Lib.hid (own_row h3)
    have HQ := Lib.hid hq
    clear h3 hq HE
    have HD4 := Lib.hid (HD.out.below ((Below.refl _ w3).alloc (Nat.le_refl _) (.cells #[.int .i64 t0, .slice D q cd] 65)))
    go_wp2_with fail
    refine (HW.out D q cd _ HQ.out.symm HD4.out).mono ?_
    rintro e w4 ⟨rfl, b4⟩
    have c0_w4 : w4.cell? ⟨w.heap.size, 0, none⟩ = some (.int .i64 n) := (b4.cell (p := ⟨w.heap.size, 0, none⟩) (by first | omega | (simp; done) | (simp; omega))).trans (by first | assumption | go_simp)
    have c1_w4 : w4.cell? ⟨w.heap.size, 1, none⟩ = some (.slice A k c) := (b4.cell (p := ⟨w.heap.size, 1, none⟩) (by first | omega | (simp; done) | (simp; omega))).trans (by first | assumption | go_simp)
    have c2_w4 : w4.cell? ⟨w.heap.size + 1, 0, none⟩ = some (.int .i64 0) := (b4.cell (p := ⟨w.heap.size + 1, 0, none⟩) (by first | omega | (simp; done) | (simp; omega))).trans (by first | assumption | go_simp)
    have c3_w4 : w4.cell? ⟨w.heap.size + 1, 1, none⟩ = some (.int .i64 0) := (b4.cell (p := ⟨w.heap.size + 1, 1, none⟩) (by first | omega | (simp; done) | (simp; omega))).trans (by first | assumption | go_simp)
    have f0_w4 : w4.frozen? ⟨w.heap.size + 1, 0, none⟩ = false := (b4.frozen (p := ⟨w.heap.size + 1, 0, none⟩) (by first | omega | (simp; done) | (simp; omega))).trans (by first | assumption | go_simp)
    have f1_w4 : w4.frozen? ⟨w.heap.size + 1, 1, none⟩ = false := (b4.frozen (p := ⟨w.heap.size + 1, 1, none⟩) (by first | omega | (simp; done) | (simp; omega))).trans (by first | assumption | go_simp)
    have s0_w4 : w.heap.size < w4.heap.size := Nat.lt_of_lt_of_le (by first | omega | (simp; done) | (simp; omega)) b4.size
    have s1_w4 : w.heap.size + 1 < w4.heap.size := Nat.lt_of_lt_of_le (by first | omega | (simp; done) | (simp; omega)) b4.size
    have B_w4 : Below w.heap.size w w4 := (by repeat (first | exact Below.refl _ _ | refine below_step (by assumption) (by first | omega | (simp; done) | (simp; omega)) ?_ | refine below_drewN ?_ _ | refine Below.drew ?_ | refine Below.setCell ?_ (by first | omega | (simp; done) | (simp; omega)) _ | refine Below.alloc ?_ (by first | omega | (simp; done) | (simp; omega)) _))
    clear b4 c0_w3 c1_w3 c2_w3 c3_w3 f0_w3 f1_w3 s0_w3 s1_w3 B_w3
    go_wp2_with fail
    refine bodyPost_ret (v := .tuple #[.agg #[.int .i64 lo, .int .i64 hi], .bool bw]) (by first | (simp [results, Try.results72, go_sem, c2_w4, c3_w4, f2_w4, f3_w4]; done) | simp [*, results, Try.results72, go_sem]) rfl ⟨rfl, by refine Below.setCell (Below.setCell ?_ (by first | omega | (simp; done) | (simp; omega)) _) (by first | omega | (simp; done) | (simp; omega)) _; exact B_w4⟩

end Go.Proofs.Yteppmlepbfjnpaa

namespace Go.Proofs.Yteppmlepbfjnpaa
open Go.RowKit
set_option linter.unusedVariables false
set_option linter.unusedSimpArgs false

def dN (n : Int) (es : List GL) : Int := (closeR (grN n es) (grE n es)).1
def dZ (n : Int) (es : List GL) : List Int := (closeR (grN n es) (grE n es)).2.1
theorem closeR_zero (es : List GE) : (closeR 0 es).1 = 0 := by unfold closeR; split <;> rfl
theorem winB_zero (zs : List Int) (i v : Int) : winB 0 zs i v = false := by
  unfold winB
  rw [decide_eq_false (by omega)]; rfl
theorem dN_no {n : Int} {es : List GL} (h : consR n es = false) : dN n es = 0 := by
  unfold dN
  cases hok : okS n es with
  | false => rw [grN_no hok]; exact closeR_zero _
  | true =>
    rw [grN_yes hok, grE_yes hok]
    have hr := okS_rng hok
    obtain ⟨N, rfl⟩ : ∃ N : Nat, n = N := ⟨n.toNat, by omega⟩
    have hg := okS_okG hok
    unfold closeR
    split
    · next h1 =>
      exfalso
      have h2 := (close_iff hg).1 (by simpa using h1.2)
      have h3 := cycR_nil h2
      unfold consR at h
      rw [hok, h3] at h
      simp at h
    · rfl
theorem dN_yes {n : Int} {es : List GL} (h : consR n es = true) : dN n es = n := by
  have hok := consR_ok h
  have hr := okS_rng hok
  unfold dN
  rw [grN_yes hok, grE_yes hok]
  obtain ⟨N, rfl⟩ : ∃ N : Nat, n = N := ⟨n.toNat, by omega⟩
  have hg := okS_okG hok
  unfold consR at h
  rw [hok, Bool.true_and] at h
  have h0 : (cycR N (gE es)).length = 0 := of_decide_eq_true h
  have h1 : (endC N (gE es)).2 = -1 := by
    by_cases e : (endC N (gE es)).2 = -1
    · exact e
    · exfalso
      have h2 := cyc_isneg hg e
      have h3 : cycR N (gE es) = [] := List.length_eq_zero_iff.1 h0
      rw [h3] at h2
      simp [negC] at h2
  rw [closeR_yes hg ((close_iff hg).2 h1)]
theorem win_all (n : Int) (es : List GL) (v : Int) : winV (dN n es) (dZ n es) 0 v = wV n es v := by
  cases h : consR n es with
  | false => rw [dN_no h, winV_no (winB_zero _ _ _), wV_no h]
  | true =>
    rw [← wV_yes h]
    have hok := consR_ok h
    unfold dN dZ wTab
    rw [grN_yes hok, grE_yes hok]
theorem dZ_le (n : Int) (es : List GL) : (dZ n es).length ≤ 64 := closeR_le _ _
theorem wB_okI {n : Int} {es : List GL} {v : Int} (h : wB n es v = true) : okI (wL n es v) (wH n es v) = true := by
  have h1 := h
  unfold wB at h1
  rw [Bool.and_eq_true] at h1
  have h2 := h1.2
  have h3 := h2
  unfold winB at h3
  rw [Bool.and_eq_true] at h3
  unfold wL wH
  rw [if_pos h, if_pos h]
  unfold winL winH
  rw [if_pos h2, if_pos h2]
  exact h3.2

def DsEnd (n : Int) (es : List GL) (w : World) (x : Ending) (w' : World) : Prop :=
  ∃ A k c, x = .returned (.agg #[.int .i64 (dN n es), .slice A k c]) ∧ k = (dZ n es).length ∧ w'.ownsRow w.heap.size 3 1 (.slice A k c) k ((dZ n es).map intV) ∧ Below w.heap.size w w'

set_option maxRecDepth 100000 in
set_option maxHeartbeats 4000000 in
theorem distancesOf_any (n : Int) (es : List GL) (A : Option Addr) (k c : Nat) (w : World) (hn : es.length = k) (hm : k ≤ 1048576) (hr : LinkAt w A es) :
    Calls Try.prog 46 #[grV n A k c] w fun e w' => DsEnd n es w e w' := by
  have HS := Lib.hid (fun W h => impl_GraphOf n es A k c W hn hm h)
  have HR := Lib.hid hr
  clear hr hn
  have hlen := grE_len n es
  unfold DsEnd dN dZ
  unfold GrEnd at HS
  obtain ⟨t0, ht0⟩ : ∃ t, t = grN n es := ⟨_, rfl⟩
  obtain ⟨e0, he0⟩ : ∃ t, t = grE n es := ⟨_, rfl⟩
  rw [← ht0, ← he0] at HS ⊢
  rw [← he0] at hlen
  have HC := Lib.hid (fun A' k' c' W (hl : e0.length = k') hr => impl_CloseGraph t0 e0 A' k' c' W hl (by omega) hr)
  unfold CgEnd tgV at HC
  obtain ⟨t1, ht1⟩ : ∃ t, t = (closeR t0 e0).1 := ⟨_, rfl⟩
  obtain ⟨zs, hzs⟩ : ∃ t, t = (closeR t0 e0).2.1 := ⟨_, rfl⟩
  obtain ⟨fl, hfl⟩ : ∃ t, t = (closeR t0 e0).2.2 := ⟨_, rfl⟩
  rw [← ht1, ← hzs, ← hfl] at HC
  rw [← ht1, ← hzs]
  unfold grV at HS HC ⊢
  clear ht0 he0 ht1 hzs hfl
  go_enter Try.func46, Try.ntmps46
  go_wp2_with fail
  refine (HS.out _ (HR.out.below (by repeat (first | exact Below.refl _ _ | refine below_step (by assumption) (by first | omega | (simp; done) | (simp; omega)) ?_ | refine below_drewN ?_ _ | refine Below.drew ?_ | refine Below.setCell ?_ (by first | omega | (simp; done) | (simp; omega)) _ | refine Below.alloc ?_ (by first | omega | (simp; done) | (simp; omega)) _)))).mono ?_
  rintro e w1 ⟨A1, m, c1, rfl, hm1, hE, b1⟩
  have HE := Lib.hid (own_edgeS hE)
  have HM1 := Lib.hid hm1
  clear hE hm1
  have c0_w1 : w1.cell? ⟨w.heap.size, 0, none⟩ = some (.int .i64 n) := (b1.cell (p := ⟨w.heap.size, 0, none⟩) (by first | omega | (simp; done) | (simp; omega))).trans (by first | assumption | go_simp)
  have c1_w1 : w1.cell? ⟨w.heap.size, 1, none⟩ = some (.slice A k c) := (b1.cell (p := ⟨w.heap.size, 1, none⟩) (by first | omega | (simp; done) | (simp; omega))).trans (by first | assumption | go_simp)
  have c2_w1 : w1.cell? ⟨w.heap.size + 1, 0, none⟩ = some (.int .i64 0) := (b1.cell (p := ⟨w.heap.size + 1, 0, none⟩) (by first | omega | (simp; done) | (simp; omega))).trans (by first | assumption | go_simp)
  have c3_w1 : w1.cell? ⟨w.heap.size + 1, 1, none⟩ = some (.slice none 0 0) := (b1.cell (p := ⟨w.heap.size + 1, 1, none⟩) (by first | omega | (simp; done) | (simp; omega))).trans (by first | assumption | go_simp)
  have f0_w1 : w1.frozen? ⟨w.heap.size + 1, 0, none⟩ = false := (b1.frozen (p := ⟨w.heap.size + 1, 0, none⟩) (by first | omega | (simp; done) | (simp; omega))).trans (by first | assumption | go_simp)
  have f1_w1 : w1.frozen? ⟨w.heap.size + 1, 1, none⟩ = false := (b1.frozen (p := ⟨w.heap.size + 1, 1, none⟩) (by first | omega | (simp; done) | (simp; omega))).trans (by first | assumption | go_simp)
  have s0_w1 : w.heap.size < w1.heap.size := Nat.lt_of_lt_of_le (by first | omega | (simp; done) | (simp; omega)) b1.size
  have s1_w1 : w.heap.size + 1 < w1.heap.size := Nat.lt_of_lt_of_le (by first | omega | (simp; done) | (simp; omega)) b1.size
  have B_w1 : Below w.heap.size w w1 := (by repeat (first | exact Below.refl _ _ | refine below_step (by assumption) (by first | omega | (simp; done) | (simp; omega)) ?_ | refine below_drewN ?_ _ | refine Below.drew ?_ | refine Below.setCell ?_ (by first | omega | (simp; done) | (simp; omega)) _ | refine Below.alloc ?_ (by first | omega | (simp; done) | (simp; omega)) _))
  clear b1  
  go_wp2_with fail
  refine (HC.out A1 m c1 _ HM1.out.symm HE.out).mono ?_
  rintro e w2 ⟨D, q, cd, rfl, hq, h2, b2⟩
  have H2 := Lib.hid h2
  have HQ := Lib.hid hq
  have LO : Hid (w.heap.size + 1 < w1.heap.size) := Lib.hid s1_w1
  have n1 : (w.heap.size + 1 = w2.heap.size) = False := eq_false (by have := b2.size; omega)
  have n2 : (w2.heap.size = w.heap.size + 1) = False := eq_false (by have := b2.size; omega)
  clear h2 hq
  have c0_w2 : w2.cell? ⟨w.heap.size, 0, none⟩ = some (.int .i64 n) := (b2.cell (p := ⟨w.heap.size, 0, none⟩) (by first | omega | (simp; done) | (simp; omega))).trans (by first | assumption | go_simp)
  have c1_w2 : w2.cell? ⟨w.heap.size, 1, none⟩ = some (.slice A k c) := (b2.cell (p := ⟨w.heap.size, 1, none⟩) (by first | omega | (simp; done) | (simp; omega))).trans (by first | assumption | go_simp)
  have c2_w2 : w2.cell? ⟨w.heap.size + 1, 0, none⟩ = some (.int .i64 0) := (b2.cell (p := ⟨w.heap.size + 1, 0, none⟩) (by first | omega | (simp; done) | (simp; omega))).trans (by first | assumption | go_simp)
  have c3_w2 : w2.cell? ⟨w.heap.size + 1, 1, none⟩ = some (.slice none 0 0) := (b2.cell (p := ⟨w.heap.size + 1, 1, none⟩) (by first | omega | (simp; done) | (simp; omega))).trans (by first | assumption | go_simp)
  have f0_w2 : w2.frozen? ⟨w.heap.size + 1, 0, none⟩ = false := (b2.frozen (p := ⟨w.heap.size + 1, 0, none⟩) (by first | omega | (simp; done) | (simp; omega))).trans (by first | assumption | go_simp)
  have f1_w2 : w2.frozen? ⟨w.heap.size + 1, 1, none⟩ = false := (b2.frozen (p := ⟨w.heap.size + 1, 1, none⟩) (by first | omega | (simp; done) | (simp; omega))).trans (by first | assumption | go_simp)
  have s0_w2 : w.heap.size < w2.heap.size := Nat.lt_of_lt_of_le (by first | omega | (simp; done) | (simp; omega)) b2.size
  have s1_w2 : w.heap.size + 1 < w2.heap.size := Nat.lt_of_lt_of_le (by first | omega | (simp; done) | (simp; omega)) b2.size
  have B_w2 : Below w.heap.size w w2 := (by repeat (first | exact Below.refl _ _ | refine below_step (by assumption) (by first | omega | (simp; done) | (simp; omega)) ?_ | refine below_drewN ?_ _ | refine Below.drew ?_ | refine Below.setCell ?_ (by first | omega | (simp; done) | (simp; omega)) _ | refine Below.alloc ?_ (by first | omega | (simp; done) | (simp; omega)) _))
  clear b2 c0_w1 c1_w1 c2_w1 c3_w1 f0_w1 f1_w1 s0_w1 s1_w1 B_w1
  go_wp2_with fail
  refine bodyPost_ret (v := .agg #[.int .i64 t1, .slice D q cd]) (by first | (simp [results, Try.results46, go_sem, c2_w2, c3_w2]; done) | simp [*, results, Try.results46, go_sem]) rfl ?_
  refine ⟨D, q, cd, rfl, HQ.out, ?_, ?_⟩
  · refine own_base ?_ (show w.heap.size ≤ w1.heap.size by have := LO.out; omega)
    refine World.ownsRow.alloc ?_ _
    repeat (refine own_set ?_ _ _ (by have := LO.out; dsimp only; omega))
    exact H2.out
  · exact (by repeat (first | assumption | refine below_drewN ?_ _ | refine Below.drew ?_ | refine Below.setCell ?_ (by first | omega | (simp; done) | (simp; omega)) _ | refine Below.alloc ?_ (by first | omega | (simp; done) | (simp; omega)) _))

set_option maxRecDepth 100000 in
set_option maxHeartbeats 4000000 in
theorem impl_WindowOf (n : Int) (es : List GL) (A : Option Addr) (k c : Nat) (v : Int) (w : World) (hn : es.length = k) (hm : k ≤ 1048576) (hr : LinkAt w A es) :
    Calls Try.prog 13 #[grV n A k c, .int .i64 v] w fun e w' => e = .returned (wV n es v) ∧ Below w.heap.size w w' := by
  have HS := Lib.hid (fun W h => distancesOf_any n es A k c W hn hm h)
  have HR := Lib.hid hr
  clear hr hn
  rw [← win_all]
  have hlen := dZ_le n es
  unfold DsEnd at HS
  obtain ⟨t0, ht0⟩ : ∃ t, t = dN n es := ⟨_, rfl⟩
  obtain ⟨zs, hzs⟩ : ∃ t, t = dZ n es := ⟨_, rfl⟩
  rw [← ht0, ← hzs] at HS ⊢
  rw [← hzs] at hlen
  have HW := Lib.hid (fun A' k' c' W (hl : zs.length = k') hr => impl_WindowBetween t0 zs A' k' c' 0 v W hl (by omega) hr)
  unfold winV ivV at HW ⊢
  obtain ⟨lo, hlo⟩ : ∃ t, t = winL t0 zs 0 v := ⟨_, rfl⟩
  obtain ⟨hi, hhi⟩ : ∃ t, t = winH t0 zs 0 v := ⟨_, rfl⟩
  obtain ⟨bw, hbw⟩ : ∃ t, t = winB t0 zs 0 v := ⟨_, rfl⟩
  rw [← hlo, ← hhi, ← hbw] at HW ⊢
  unfold grV at HS HW ⊢
  clear hlo hhi hbw ht0 hzs
  go_enter Try.func13, Try.ntmps13
  go_wp2_with fail
  refine (HS.out _ (HR.out.below (by repeat (first | exact Below.refl _ _ | refine below_step (by assumption) (by first | omega | (simp; done) | (simp; omega)) ?_ | refine below_drewN ?_ _ | refine Below.drew ?_ | refine Below.setCell ?_ (by first | omega | (simp; done) | (simp; omega)) _ | refine Below.alloc ?_ (by first | omega | (simp; done) | (simp; omega)) _)))).mono ?_
  rintro e w1 ⟨D, q, cd, rfl, hq, h1, b1⟩
  have HD := Lib.hid (own_row h1)
  have HQ := Lib.hid hq
  clear h1 hq
  have c0_w1 : w1.cell? ⟨w.heap.size, 0, none⟩ = some (.int .i64 n) := (b1.cell (p := ⟨w.heap.size, 0, none⟩) (by first | omega | (simp; done) | (simp; omega))).trans (by first | assumption | go_simp)
  have c1_w1 : w1.cell? ⟨w.heap.size, 1, none⟩ = some (.slice A k c) := (b1.cell (p := ⟨w.heap.size, 1, none⟩) (by first | omega | (simp; done) | (simp; omega))).trans (by first | assumption | go_simp)
  have c2_w1 : w1.cell? ⟨w.heap.size + 1, 0, none⟩ = some (.int .i64 0) := (b1.cell (p := ⟨w.heap.size + 1, 0, none⟩) (by first | omega | (simp; done) | (simp; omega))).trans (by first | assumption | go_simp)
  have c3_w1 : w1.cell? ⟨w.heap.size + 1, 1, none⟩ = some (.int .i64 0) := (b1.cell (p := ⟨w.heap.size + 1, 1, none⟩) (by first | omega | (simp; done) | (simp; omega))).trans (by first | assumption | go_simp)
  have f0_w1 : w1.frozen? ⟨w.heap.size + 1, 0, none⟩ = false := (b1.frozen (p := ⟨w.heap.size + 1, 0, none⟩) (by first | omega | (simp; done) | (simp; omega))).trans (by first | assumption | go_simp)
  have f1_w1 : w1.frozen? ⟨w.heap.size + 1, 1, none⟩ = false := (b1.frozen (p := ⟨w.heap.size + 1, 1, none⟩) (by first | omega | (simp; done) | (simp; omega))).trans (by first | assumption | go_simp)
  have s0_w1 : w.heap.size < w1.heap.size := Nat.lt_of_lt_of_le (by first | omega | (simp; done) | (simp; omega)) b1.size
  have s1_w1 : w.heap.size + 1 < w1.heap.size := Nat.lt_of_lt_of_le (by first | omega | (simp; done) | (simp; omega)) b1.size
  have B_w1 : Below w.heap.size w w1 := (by repeat (first | exact Below.refl _ _ | refine below_step (by assumption) (by first | omega | (simp; done) | (simp; omega)) ?_ | refine below_drewN ?_ _ | refine Below.drew ?_ | refine Below.setCell ?_ (by first | omega | (simp; done) | (simp; omega)) _ | refine Below.alloc ?_ (by first | omega | (simp; done) | (simp; omega)) _))
  clear b1  
  go_wp2_with fail
  refine (HW.out D q cd _ HQ.out.symm HD.out).mono ?_
  rintro e w2 ⟨rfl, b2⟩
  have c0_w2 : w2.cell? ⟨w.heap.size, 0, none⟩ = some (.int .i64 n) := (b2.cell (p := ⟨w.heap.size, 0, none⟩) (by first | omega | (simp; done) | (simp; omega))).trans (by first | assumption | go_simp)
  have c1_w2 : w2.cell? ⟨w.heap.size, 1, none⟩ = some (.slice A k c) := (b2.cell (p := ⟨w.heap.size, 1, none⟩) (by first | omega | (simp; done) | (simp; omega))).trans (by first | assumption | go_simp)
  have c2_w2 : w2.cell? ⟨w.heap.size + 1, 0, none⟩ = some (.int .i64 0) := (b2.cell (p := ⟨w.heap.size + 1, 0, none⟩) (by first | omega | (simp; done) | (simp; omega))).trans (by first | assumption | go_simp)
  have c3_w2 : w2.cell? ⟨w.heap.size + 1, 1, none⟩ = some (.int .i64 0) := (b2.cell (p := ⟨w.heap.size + 1, 1, none⟩) (by first | omega | (simp; done) | (simp; omega))).trans (by first | assumption | go_simp)
  have f0_w2 : w2.frozen? ⟨w.heap.size + 1, 0, none⟩ = false := (b2.frozen (p := ⟨w.heap.size + 1, 0, none⟩) (by first | omega | (simp; done) | (simp; omega))).trans (by first | assumption | go_simp)
  have f1_w2 : w2.frozen? ⟨w.heap.size + 1, 1, none⟩ = false := (b2.frozen (p := ⟨w.heap.size + 1, 1, none⟩) (by first | omega | (simp; done) | (simp; omega))).trans (by first | assumption | go_simp)
  have s0_w2 : w.heap.size < w2.heap.size := Nat.lt_of_lt_of_le (by first | omega | (simp; done) | (simp; omega)) b2.size
  have s1_w2 : w.heap.size + 1 < w2.heap.size := Nat.lt_of_lt_of_le (by first | omega | (simp; done) | (simp; omega)) b2.size
  have B_w2 : Below w.heap.size w w2 := (by repeat (first | exact Below.refl _ _ | refine below_step (by assumption) (by first | omega | (simp; done) | (simp; omega)) ?_ | refine below_drewN ?_ _ | refine Below.drew ?_ | refine Below.setCell ?_ (by first | omega | (simp; done) | (simp; omega)) _ | refine Below.alloc ?_ (by first | omega | (simp; done) | (simp; omega)) _))
  clear b2 c0_w1 c1_w1 c2_w1 c3_w1 f0_w1 f1_w1 s0_w1 s1_w1 B_w1
  go_wp2_with fail
  refine bodyPost_ret (v := .tuple #[.agg #[.int .i64 lo, .int .i64 hi], .bool bw]) (by first | (simp [results, Try.results13, go_sem, c2_w2, c3_w2, f0_w2, f1_w2]; done) | simp [*, results, Try.results13, go_sem]) rfl ⟨rfl, by refine Below.setCell (Below.setCell ?_ (by first | omega | (simp; done) | (simp; omega)) _) (by first | omega | (simp; done) | (simp; omega)) _; exact B_w2⟩

end Go.Proofs.Yteppmlepbfjnpaa
