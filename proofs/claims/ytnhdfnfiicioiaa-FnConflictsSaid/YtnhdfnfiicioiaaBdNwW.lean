/-
  WALKS of impl.distancesOf and impl.WindowOf.
  WALKS of impl.finiteBounds at the lower bound and of impl.EarliestTimes.
  WALKS of impl.finiteBounds at the upper bound and of impl.LatestTimes.
-/
import Derived.Test.YtnhdfnfiicioiaaBdNwN
import Derived.Test.YtnhdfnfiicioiaaBdTgC
import Derived.Test.YtnhdfnfiicioiaaTbE
import Derived.Test.YtnhdfnfiicioiaaBdSmW
import Derived.Deep.AppendLies
import Derived.BigQuiet
import Derived.Deep.QuietTactic
import Derived.Deep.Cut
import Derived.Deep.CutRange
namespace Go.Proofs.Ytnhdfnfiicioiaa
open Go.RowKit
set_option linter.unusedVariables false
set_option linter.unusedSimpArgs false

def dN (n : Int) (es : List GL) : Int := (closeR (grN n es) (grE n es)).1
def dZ (n : Int) (es : List GL) : List Int := (closeR (grN n es) (grE n es)).2.1
theorem closeR_zero (es : List GE) : (closeR 0 es).1 = 0 := by unfold closeR; split <;> rfl
theorem winB_zero (zs : List Int) (i v : Int) : winB 0 zs i v = false := by
  unfold winB
  rw [decide_eq_false (by omega)]; rfl
theorem dN_no {n : Int} {es : List GL} (h : consR n es = false) : dN n es = 0 := by
  unfold dN
  cases hok : okS n es with
  | false => rw [grN_no hok]; exact closeR_zero _
  | true =>
    rw [grN_yes hok, grE_yes hok]
    have hr := okS_rng hok
    obtain ⟨N, rfl⟩ : ∃ N : Nat, n = N := ⟨n.toNat, by omega⟩
    have hg := okS_okG hok
    unfold closeR
    split
    · next h1 =>
      exfalso
      have h2 := (close_iff hg).1 (by simpa using h1.2)
      have h3 := cycR_nil h2
      unfold consR at h
      rw [hok, h3] at h
      simp at h
    · rfl
theorem dN_yes {n : Int} {es : List GL} (h : consR n es = true) : dN n es = n := by
  have hok := consR_ok h
  have hr := okS_rng hok
  unfold dN
  rw [grN_yes hok, grE_yes hok]
  obtain ⟨N, rfl⟩ : ∃ N : Nat, n = N := ⟨n.toNat, by omega⟩
  have hg := okS_okG hok
  unfold consR at h
  rw [hok, Bool.true_and] at h
  have h0 : (cycR N (gE es)).length = 0 := of_decide_eq_true h
  have h1 : (endC N (gE es)).2 = -1 := by
    by_cases e : (endC N (gE es)).2 = -1
    · exact e
    · exfalso
      have h2 := cyc_isneg hg e
      have h3 : cycR N (gE es) = [] := List.length_eq_zero_iff.1 h0
      rw [h3] at h2
      simp [negC] at h2
  rw [closeR_yes hg ((close_iff hg).2 h1)]
theorem win_all (n : Int) (es : List GL) (v : Int) : winV (dN n es) (dZ n es) 0 v = wV n es v := by
  cases h : consR n es with
  | false => rw [dN_no h, winV_no (winB_zero _ _ _), wV_no h]
  | true =>
    rw [← wV_yes h]
    have hok := consR_ok h
    unfold dN dZ wTab
    rw [grN_yes hok, grE_yes hok]
theorem dZ_le (n : Int) (es : List GL) : (dZ n es).length ≤ 64 := closeR_le _ _
theorem wB_okI {n : Int} {es : List GL} {v : Int} (h : wB n es v = true) : okI (wL n es v) (wH n es v) = true := by
  have h1 := h
  unfold wB at h1
  rw [Bool.and_eq_true] at h1
  have h2 := h1.2
  have h3 := h2
  unfold winB at h3
  rw [Bool.and_eq_true] at h3
  unfold wL wH
  rw [if_pos h, if_pos h]
  unfold winL winH
  rw [if_pos h2, if_pos h2]
  exact h3.2

def DsEnd (n : Int) (es : List GL) (w : World) (x : Ending) (w' : World) : Prop :=
  ∃ A k c, x = .returned (.agg #[.int .i64 (dN n es), .slice A k c]) ∧ k = (dZ n es).length ∧ w'.ownsRow w.heap.size 3 1 (.slice A k c) k ((dZ n es).map intV) ∧ Below w.heap.size w w'

set_option maxRecDepth 100000 in
set_option maxHeartbeats 4000000 in
theorem distancesOf_any (n : Int) (es : List GL) (A : Option Addr) (k c : Nat) (w : World) (hn : es.length = k) (hm : k ≤ 1048576) (hr : LinkAt w A es) :
    Calls Try.prog 65 #[grV n A k c] w fun e w' => DsEnd n es w e w' := by
  have HS := Lib.hid (fun W h => impl_GraphOf n es A k c W hn hm h)
  have HR := Lib.hid hr
  clear hr hn
  have hlen := grE_len n es
  unfold DsEnd dN dZ
  unfold GrEnd at HS
  obtain ⟨t0, ht0⟩ : ∃ t, t = grN n es := ⟨_, rfl⟩
  obtain ⟨e0, he0⟩ : ∃ t, t = grE n es := ⟨_, rfl⟩
  rw [← ht0, ← he0] at HS ⊢
  rw [← he0] at hlen
  have HC := Lib.hid (fun A' k' c' W (hl : e0.length = k') hr => impl_CloseGraph t0 e0 A' k' c' W hl (by omega) hr)
  unfold CgEnd tgV at HC
  obtain ⟨t1, ht1⟩ : ∃ t, t = (closeR t0 e0).1 := ⟨_, rfl⟩
  obtain ⟨zs, hzs⟩ : ∃ t, t = (closeR t0 e0).2.1 := ⟨_, rfl⟩
  obtain ⟨fl, hfl⟩ : ∃ t, t = (closeR t0 e0).2.2 := ⟨_, rfl⟩
  rw [← ht1, ← hzs, ← hfl] at HC
  rw [← ht1, ← hzs]
  unfold grV at HS HC ⊢
  clear ht0 he0 ht1 hzs hfl
  go_enter Try.func65, Try.ntmps65
  go_wp2_with fail
  refine (HS.out _ (HR.out.below (by repeat (first | exact Below.refl _ _ | refine below_step (by assumption) (by first | omega | (simp; done) | (simp; omega)) ?_ | refine below_drewN ?_ _ | refine Below.drew ?_ | refine Below.setCell ?_ (by first | omega | (simp; done) | (simp; omega)) _ | refine Below.alloc ?_ (by first | omega | (simp; done) | (simp; omega)) _)))).mono ?_
  rintro e w1 ⟨A1, m, c1, rfl, hm1, hE, b1⟩
  have HE := Lib.hid (own_edgeS hE)
  have HM1 := Lib.hid hm1
  clear hE hm1
  have c0_w1 : w1.cell? ⟨w.heap.size, 0, none⟩ = some (.int .i64 n) := (b1.cell (p := ⟨w.heap.size, 0, none⟩) (by first | omega | (simp; done) | (simp; omega))).trans (by first | assumption | go_simp)
  have c1_w1 : w1.cell? ⟨w.heap.size, 1, none⟩ = some (.slice A k c) := (b1.cell (p := ⟨w.heap.size, 1, none⟩) (by first | omega | (simp; done) | (simp; omega))).trans (by first | assumption | go_simp)
  have c2_w1 : w1.cell? ⟨w.heap.size + 1, 0, none⟩ = some (.int .i64 0) := (b1.cell (p := ⟨w.heap.size + 1, 0, none⟩) (by first | omega | (simp; done) | (simp; omega))).trans (by first | assumption | go_simp)
  have c3_w1 : w1.cell? ⟨w.heap.size + 1, 1, none⟩ = some (.slice none 0 0) := (b1.cell (p := ⟨w.heap.size + 1, 1, none⟩) (by first | omega | (simp; done) | (simp; omega))).trans (by first | assumption | go_simp)
  have f0_w1 : w1.frozen? ⟨w.heap.size + 1, 0, none⟩ = false := (b1.frozen (p := ⟨w.heap.size + 1, 0, none⟩) (by first | omega | (simp; done) | (simp; omega))).trans (by first | assumption | go_simp)
  have f1_w1 : w1.frozen? ⟨w.heap.size + 1, 1, none⟩ = false := (b1.frozen (p := ⟨w.heap.size + 1, 1, none⟩) (by first | omega | (simp; done) | (simp; omega))).trans (by first | assumption | go_simp)
  have s0_w1 : w.heap.size < w1.heap.size := Nat.lt_of_lt_of_le (by first | omega | (simp; done) | (simp; omega)) b1.size
  have s1_w1 : w.heap.size + 1 < w1.heap.size := Nat.lt_of_lt_of_le (by first | omega | (simp; done) | (simp; omega)) b1.size
  have B_w1 : Below w.heap.size w w1 := (by repeat (first | exact Below.refl _ _ | refine below_step (by assumption) (by first | omega | (simp; done) | (simp; omega)) ?_ | refine below_drewN ?_ _ | refine Below.drew ?_ | refine Below.setCell ?_ (by first | omega | (simp; done) | (simp; omega)) _ | refine Below.alloc ?_ (by first | omega | (simp; done) | (simp; omega)) _))
  clear b1  
  go_wp2_with fail
  refine (HC.out A1 m c1 _ HM1.out.symm HE.out).mono ?_
  rintro e w2 ⟨D, q, cd, rfl, hq, h2, b2⟩
  have H2 := Lib.hid h2
  have HQ := Lib.hid hq
  have LO : Hid (w.heap.size + 1 < w1.heap.size) := Lib.hid s1_w1
  have n1 : (w.heap.size + 1 = w2.heap.size) = False := eq_false (by have := b2.size; omega)
  have n2 : (w2.heap.size = w.heap.size + 1) = False := eq_false (by have := b2.size; omega)
  clear h2 hq
  have c0_w2 : w2.cell? ⟨w.heap.size, 0, none⟩ = some (.int .i64 n) := (b2.cell (p := ⟨w.heap.size, 0, none⟩) (by first | omega | (simp; done) | (simp; omega))).trans (by first | assumption | go_simp)
  have c1_w2 : w2.cell? ⟨w.heap.size, 1, none⟩ = some (.slice A k c) := (b2.cell (p := ⟨w.heap.size, 1, none⟩) (by first | omega | (simp; done) | (simp; omega))).trans (by first | assumption | go_simp)
  have c2_w2 : w2.cell? ⟨w.heap.size + 1, 0, none⟩ = some (.int .i64 0) := (b2.cell (p := ⟨w.heap.size + 1, 0, none⟩) (by first | omega | (simp; done) | (simp; omega))).trans (by first | assumption | go_simp)
  have c3_w2 : w2.cell? ⟨w.heap.size + 1, 1, none⟩ = some (.slice none 0 0) := (b2.cell (p := ⟨w.heap.size + 1, 1, none⟩) (by first | omega | (simp; done) | (simp; omega))).trans (by first | assumption | go_simp)
  have f0_w2 : w2.frozen? ⟨w.heap.size + 1, 0, none⟩ = false := (b2.frozen (p := ⟨w.heap.size + 1, 0, none⟩) (by first | omega | (simp; done) | (simp; omega))).trans (by first | assumption | go_simp)
  have f1_w2 : w2.frozen? ⟨w.heap.size + 1, 1, none⟩ = false := (b2.frozen (p := ⟨w.heap.size + 1, 1, none⟩) (by first | omega | (simp; done) | (simp; omega))).trans (by first | assumption | go_simp)
  have s0_w2 : w.heap.size < w2.heap.size := Nat.lt_of_lt_of_le (by first | omega | (simp; done) | (simp; omega)) b2.size
  have s1_w2 : w.heap.size + 1 < w2.heap.size := Nat.lt_of_lt_of_le (by first | omega | (simp; done) | (simp; omega)) b2.size
  have B_w2 : Below w.heap.size w w2 := (by repeat (first | exact Below.refl _ _ | refine below_step (by assumption) (by first | omega | (simp; done) | (simp; omega)) ?_ | refine below_drewN ?_ _ | refine Below.drew ?_ | refine Below.setCell ?_ (by first | omega | (simp; done) | (simp; omega)) _ | refine Below.alloc ?_ (by first | omega | (simp; done) | (simp; omega)) _))
  clear b2 c0_w1 c1_w1 c2_w1 c3_w1 f0_w1 f1_w1 s0_w1 s1_w1 B_w1
  go_wp2_with fail
  refine bodyPost_ret (v := .agg #[.int .i64 t1, .slice D q cd]) (by first | (simp [results, Try.results65, go_sem, c2_w2, c3_w2]; done) | simp [*, results, Try.results65, go_sem]) rfl ?_
  refine ⟨D, q, cd, rfl, HQ.out, ?_, ?_⟩
  · refine own_base ?_ (show w.heap.size ≤ w1.heap.size by have := LO.out; omega)
    refine World.ownsRow.alloc ?_ _
    repeat (refine own_set ?_ _ _ (by have := LO.out; dsimp only; omega))
    exact H2.out
  · exact (by repeat (first | assumption | refine below_drewN ?_ _ | refine Below.drew ?_ | refine Below.setCell ?_ (by first | omega | (simp; done) | (simp; omega)) _ | refine Below.alloc ?_ (by first | omega | (simp; done) | (simp; omega)) _))

set_option maxRecDepth 100000 in
set_option maxHeartbeats 4000000 in
theorem impl_WindowOf (n : Int) (es : List GL) (A : Option Addr) (k c : Nat) (v : Int) (w : World) (hn : es.length = k) (hm : k ≤ 1048576) (hr : LinkAt w A es) :
    Calls Try.prog 24 #[grV n A k c, .int .i64 v] w fun e w' => e = .returned (wV n es v) ∧ Below w.heap.size w w' := by
  have HS := Lib.hid (fun W h => distancesOf_any n es A k c W hn hm h)
  have HR := Lib.hid hr
  clear hr hn
  rw [← win_all]
  have hlen := dZ_le n es
  unfold DsEnd at HS
  obtain ⟨t0, ht0⟩ : ∃ t, t = dN n es := ⟨_, rfl⟩
  obtain ⟨zs, hzs⟩ : ∃ t, t = dZ n es := ⟨_, rfl⟩
  rw [← ht0, ← hzs] at HS ⊢
  rw [← hzs] at hlen
  have HW := Lib.hid (fun A' k' c' W (hl : zs.length = k') hr => impl_WindowBetween t0 zs A' k' c' 0 v W hl (by omega) hr)
  unfold winV ivV at HW ⊢
  obtain ⟨lo, hlo⟩ : ∃ t, t = winL t0 zs 0 v := ⟨_, rfl⟩
  obtain ⟨hi, hhi⟩ : ∃ t, t = winH t0 zs 0 v := ⟨_, rfl⟩
  obtain ⟨bw, hbw⟩ : ∃ t, t = winB t0 zs 0 v := ⟨_, rfl⟩
  rw [← hlo, ← hhi, ← hbw] at HW ⊢
  unfold grV at HS HW ⊢
  clear hlo hhi hbw ht0 hzs
  go_enter Try.func24, Try.ntmps24
  go_wp2_with fail
  refine (HS.out _ (HR.out.below (by repeat (first | exact Below.refl _ _ | refine below_step (by assumption) (by first | omega | (simp; done) | (simp; omega)) ?_ | refine below_drewN ?_ _ | refine Below.drew ?_ | refine Below.setCell ?_ (by first | omega | (simp; done) | (simp; omega)) _ | refine Below.alloc ?_ (by first | omega | (simp; done) | (simp; omega)) _)))).mono ?_
  rintro e w1 ⟨D, q, cd, rfl, hq, h1, b1⟩
  have HD := Lib.hid (own_row h1)
  have HQ := Lib.hid hq
  clear h1 hq
  have c0_w1 : w1.cell? ⟨w.heap.size, 0, none⟩ = some (.int .i64 n) := (b1.cell (p := ⟨w.heap.size, 0, none⟩) (by first | omega | (simp; done) | (simp; omega))).trans (by first | assumption | go_simp)
  have c1_w1 : w1.cell? ⟨w.heap.size, 1, none⟩ = some (.slice A k c) := (b1.cell (p := ⟨w.heap.size, 1, none⟩) (by first | omega | (simp; done) | (simp; omega))).trans (by first | assumption | go_simp)
  have c2_w1 : w1.cell? ⟨w.heap.size + 1, 0, none⟩ = some (.int .i64 0) := (b1.cell (p := ⟨w.heap.size + 1, 0, none⟩) (by first | omega | (simp; done) | (simp; omega))).trans (by first | assumption | go_simp)
  have c3_w1 : w1.cell? ⟨w.heap.size + 1, 1, none⟩ = some (.int .i64 0) := (b1.cell (p := ⟨w.heap.size + 1, 1, none⟩) (by first | omega | (simp; done) | (simp; omega))).trans (by first | assumption | go_simp)
  have f0_w1 : w1.frozen? ⟨w.heap.size + 1, 0, none⟩ = false := (b1.frozen (p := ⟨w.heap.size + 1, 0, none⟩) (by first | omega | (simp; done) | (simp; omega))).trans (by first | assumption | go_simp)
  have f1_w1 : w1.frozen? ⟨w.heap.size + 1, 1, none⟩ = false := (b1.frozen (p := ⟨w.heap.size + 1, 1, none⟩) (by first | omega | (simp; done) | (simp; omega))).trans (by first | assumption | go_simp)
  have s0_w1 : w.heap.size < w1.heap.size := Nat.lt_of_lt_of_le (by first | omega | (simp; done) | (simp; omega)) b1.size
  have s1_w1 : w.heap.size + 1 < w1.heap.size := Nat.lt_of_lt_of_le (by first | omega | (simp; done) | (simp; omega)) b1.size
  have B_w1 : Below w.heap.size w w1 := (by repeat (first | exact Below.refl _ _ | refine below_step (by assumption) (by first | omega | (simp; done) | (simp; omega)) ?_ | refine below_drewN ?_ _ | refine Below.drew ?_ | refine Below.setCell ?_ (by first | omega | (simp; done) | (simp; omega)) _ | refine Below.alloc ?_ (by first | omega | (simp; done) | (simp; omega)) _))
  clear b1  
  go_wp2_with fail
  refine (HW.out D q cd _ HQ.out.symm HD.out).mono ?_
  rintro e w2 ⟨rfl, b2⟩
  have c0_w2 : w2.cell? ⟨w.heap.size, 0, none⟩ = some (.int .i64 n) := (b2.cell (p := ⟨w.heap.size, 0, none⟩) (by first | omega | (simp; done) | (simp; omega))).trans (by first | assumption | go_simp)
  have c1_w2 : w2.cell? ⟨w.heap.size, 1, none⟩ = some (.slice A k c) := (b2.cell (p := ⟨w.heap.size, 1, none⟩) (by first | omega | (simp; done) | (simp; omega))).trans (by first | assumption | go_simp)
  have c2_w2 : w2.cell? ⟨w.heap.size + 1, 0, none⟩ = some (.int .i64 0) := (b2.cell (p := ⟨w.heap.size + 1, 0, none⟩) (by first | omega | (simp; done) | (simp; omega))).trans (by first | assumption | go_simp)
  have c3_w2 : w2.cell? ⟨w.heap.size + 1, 1, none⟩ = some (.int .i64 0) := (b2.cell (p := ⟨w.heap.size + 1, 1, none⟩) (by first | omega | (simp; done) | (simp; omega))).trans (by first | assumption | go_simp)
  have f0_w2 : w2.frozen? ⟨w.heap.size + 1, 0, none⟩ = false := (b2.frozen (p := ⟨w.heap.size + 1, 0, none⟩) (by first | omega | (simp; done) | (simp; omega))).trans (by first | assumption | go_simp)
  have f1_w2 : w2.frozen? ⟨w.heap.size + 1, 1, none⟩ = false := (b2.frozen (p := ⟨w.heap.size + 1, 1, none⟩) (by first | omega | (simp; done) | (simp; omega))).trans (by first | assumption | go_simp)
  have s0_w2 : w.heap.size < w2.heap.size := Nat.lt_of_lt_of_le (by first | omega | (simp; done) | (simp; omega)) b2.size
  have s1_w2 : w.heap.size + 1 < w2.heap.size := Nat.lt_of_lt_of_le (by first | omega | (simp; done) | (simp; omega)) b2.size
  have B_w2 : Below w.heap.size w w2 := (by repeat (first | exact Below.refl _ _ | refine below_step (by assumption) (by first | omega | (simp; done) | (simp; omega)) ?_ | refine below_drewN ?_ _ | refine Below.drew ?_ | refine Below.setCell ?_ (by first | omega | (simp; done) | (simp; omega)) _ | refine Below.alloc ?_ (by first | omega | (simp; done) | (simp; omega)) _))
  clear b2 c0_w1 c1_w1 c2_w1 c3_w1 f0_w1 f1_w1 s0_w1 s1_w1 B_w1
  go_wp2_with fail
  refine bodyPost_ret (v := .tuple #[.agg #[.int .i64 lo, .int .i64 hi], .bool bw]) (by first | (simp [results, Try.results24, go_sem, c2_w2, c3_w2, f0_w2, f1_w2]; done) | simp [*, results, Try.results24, go_sem]) rfl ⟨rfl, by refine Below.setCell (Below.setCell ?_ (by first | omega | (simp; done) | (simp; omega)) _) (by first | omega | (simp; done) | (simp; omega)) _; exact B_w2⟩

end Go.Proofs.Ytnhdfnfiicioiaa

namespace Go.Proofs.Ytnhdfnfiicioiaa
open Go.RowKit
set_option linter.unusedVariables false
set_option linter.unusedSimpArgs false

theorem ear_form (n : Int) (es : List GL) (N : Nat) (h : dN n es = N) : earR n es = if (List.range N).all (earG n es) then (earL n es N, decide (0 < N)) else ([], false) := by
  cases hc : consR n es with
  | true =>
    have hr := okS_rng (consR_ok hc)
    rw [dN_yes hc] at h
    have hm : min n.toNat 8 = N := by omega
    unfold earR
    rw [hm]
  | false =>
    rw [dN_no hc] at h
    obtain rfl : N = 0 := by omega
    have hb : ∀ i : Nat, earG n es i = false := fun i => by unfold earG wB; rw [hc]; rfl
    have h2 : (List.range 0).all (earG n es) = true := rfl
    rw [if_pos h2]
    by_cases h0 : min n.toNat 8 = 0
    · unfold earR; rw [h0]; rfl
    · rw [earR_bad (j := 0) (by omega) (hb 0)]
      unfold earL; rfl
theorem ear_badN {n : Int} {es : List GL} {N j : Nat} (h : dN n es = N) (hj : j < N) (hg : earG n es j = false) : earR n es = ([], false) := by
  rw [ear_form n es N h, if_neg]
  have : (List.range N).all (earG n es) = false := by rw [List.all_eq_false]; exact ⟨j, by simp; omega, by simp [hg]⟩
  rw [this]; simp
theorem ear_goodN {n : Int} {es : List GL} {N : Nat} (h : dN n es = N) (hg : (List.range N).all (earG n es) = true) : earR n es = (earL n es N, decide (0 < N)) := by
  rw [ear_form n es N h, if_pos hg]

set_option maxRecDepth 100000 in
theorem EarliestTimes_bound (l h : Int) (w : World) : Calls Try.prog 58 #[.agg #[.int .i64 l, .int .i64 h]] w fun e w' => e = .returned (.int .i64 l) ∧ Below w.heap.size w w' := by
  go_enter Try.func58, Try.ntmps58
  go_wp2
  go_ret
  exact ⟨rfl, (by repeat (first | exact Below.refl _ _ | refine below_step (by assumption) (by first | omega | (simp; done) | (simp; omega)) ?_ | refine below_drewN ?_ _ | refine Below.drew ?_ | refine Below.setCell ?_ (by first | omega | (simp; done) | (simp; omega)) _ | refine Below.alloc ?_ (by first | omega | (simp; done) | (simp; omega)) _))⟩

set_option maxRecDepth 100000 in
set_option maxHeartbeats 8000000 in
theorem finite_EarliestTimes (n : Int) (es : List GL) (A : Option Addr) (k c : Nat) (w : World) (hn : es.length = k) (hm : k ≤ 1048576) (hr : LinkAt w A es) :
    Calls Try.prog 57 #[grV n A k c, .func (.func 58) #[] #[]] w fun e w' => ∃ B m cb, e = .returned (.tuple #[.slice B m cb, .bool (earR n es).2]) ∧ m = (earR n es).1.length ∧ w'.ownsRow w.heap.size 3 1 (.slice B m cb) m ((earR n es).1.map intV) ∧ Below w.heap.size w w' := by
  have HS := Lib.hid (fun W h => distancesOf_any n es A k c W hn hm h)
  have HBD := Lib.hid (EarliestTimes_bound)
  have HR := Lib.hid hr
  clear hr hn
  obtain ⟨i1, hii, hy0, hy1, hy2⟩ := info_parts Try.info3
  have hlen := dZ_le n es
  have hwin := win_all n es
  unfold DsEnd at HS
  obtain ⟨t0, ht0⟩ : ∃ t, t = dN n es := ⟨_, rfl⟩
  obtain ⟨zs, hzs⟩ : ∃ t, t = dZ n es := ⟨_, rfl⟩
  have hN : ∃ N : Nat, t0 = N ∧ N ≤ 8 := by
    cases hc : consR n es with
    | true => have := okS_rng (consR_ok hc); rw [ht0, dN_yes hc]; exact ⟨n.toNat, by omega, by omega⟩
    | false => rw [ht0, dN_no hc]; exact ⟨0, rfl, by omega⟩
  obtain ⟨N, hN, hN8⟩ := hN
  have HN : Hid (dN n es = N) := Lib.hid (by rw [← ht0, hN])
  rw [← ht0, ← hzs] at HS hwin
  rw [← hzs] at hlen
  have hw := fun (j : Int) A' k' c' W (hl : zs.length = k') hr => impl_WindowBetween t0 zs A' k' c' 0 j W hl (by omega) hr
  simp only [hwin] at hw
  unfold wV ivV grV at hw
  have HW := Lib.hid hw
  unfold grV at HS ⊢
  clear ht0 hzs hw hwin
  subst hN
  go_enter Try.func57, Try.ntmps57
  go_wp2_with fail
  refine (HS.out _ (HR.out.below (by repeat (first | exact Below.refl _ _ | refine below_step (by assumption) (by first | omega | (simp; done) | (simp; omega)) ?_ | refine below_drewN ?_ _ | refine Below.drew ?_ | refine Below.setCell ?_ (by first | omega | (simp; done) | (simp; omega)) _ | refine Below.alloc ?_ (by first | omega | (simp; done) | (simp; omega)) _)))).mono ?_
  rintro e w1 ⟨D, q, cd, rfl, hq, h1, b1⟩
  have HD := Lib.hid (own_row h1)
  have HQ := Lib.hid hq
  clear h1 hq
  have c0_w1 : w1.cell? ⟨w.heap.size, 0, none⟩ = some (.int .i64 n) := (b1.cell (p := ⟨w.heap.size, 0, none⟩) (by first | omega | (simp; done) | (simp; omega))).trans (by first | assumption | go_simp)
  have c1_w1 : w1.cell? ⟨w.heap.size, 1, none⟩ = some (.slice A k c) := (b1.cell (p := ⟨w.heap.size, 1, none⟩) (by first | omega | (simp; done) | (simp; omega))).trans (by first | assumption | go_simp)
  have s0_w1 : w.heap.size < w1.heap.size := Nat.lt_of_lt_of_le (by first | omega | (simp; done) | (simp; omega)) b1.size
  have B_w1 : Below w.heap.size w w1 := (by repeat (first | exact Below.refl _ _ | refine below_step (by assumption) (by first | omega | (simp; done) | (simp; omega)) ?_ | refine below_drewN ?_ _ | refine Below.drew ?_ | refine Below.setCell ?_ (by first | omega | (simp; done) | (simp; omega)) _ | refine Below.alloc ?_ (by first | omega | (simp; done) | (simp; omega)) _))
  clear b1  
  have n1 : (w.heap.size = w1.heap.size) = False := eq_false (by omega)
  have n2 : (w1.heap.size = w.heap.size) = False := eq_false (by omega)
  obtain ⟨wa, hwa⟩ : ∃ W, W = w1.alloc (.cells #[.int .i64 (N : Int), .slice D q cd] 86) := ⟨_, rfl⟩
  have ba : Below w1.heap.size w1 wa := by rw [hwa]; exact (Below.refl _ _).alloc (Nat.le_refl _) _
  have e0 : wa.cell? ⟨w1.heap.size, 0, none⟩ = some (.int .i64 (N : Int)) := by rw [hwa]; go_simp
  have e1 : wa.cell? ⟨w1.heap.size, 1, none⟩ = some (.slice D q cd) := by rw [hwa]; go_simp
  have sa : w1.heap.size < wa.heap.size := by rw [hwa]; simp
  have BA : Below w.heap.size w wa := B_w1.trans (ba.mono B_w1.size)
  have HDA := Lib.hid (HD.out.below ba)
  go_upto_region 3 with (fail)
  rw [← hwa]
  clear hwa ba HD n1 n2 c0_w1 c1_w1 B_w1
  go_wp2_with fail
  go_loopw [16, 7] (fun ii ou wr => ∃ (j : Nat) (A2 : Option Addr) (d2 : Nat), j ≤ N ∧ ii = .int .i64 j ∧ ou = .slice A2 j d2 ∧ (List.range j).all (earG n es) = true ∧ wr.ownsRow wa.heap.size 3 1 (.slice A2 j d2) j ((earL n es j).map intV) ∧ Below wa.heap.size wa wr) (fun ii _ _ => N - (intOf ii).toNat)
  case atStart => exact ⟨0, none, 0, Nat.zero_le _, rfl, rfl, rfl, World.ownsRow_nil _ _ _ _, Below.refl _ _⟩
  case round =>
    obtain ⟨j, A2, d2, hj, rfl, rfl, hall, hown, hbw⟩ := hrel
    have HA := Lib.hid hall
    have hwz := hbw.size
    have k0 := (hbw.cell (p := ⟨w1.heap.size, 0, none⟩) sa).trans e0
    have k1 := (hbw.cell (p := ⟨w1.heap.size, 1, none⟩) sa).trans e1
    clear hall
    by_cases hlt : j < N
    · have hC := fun A' k' c' W hl hr => HW.out (j : Int) A' k' c' W hl hr
      have hok := fun h => wB_okI (n := n) (es := es) (v := (j : Int)) h
      obtain ⟨lo, hlo⟩ : ∃ t, t = wL n es j := ⟨_, rfl⟩
      obtain ⟨hi, hhi⟩ : ∃ t, t = wH n es j := ⟨_, rfl⟩
      obtain ⟨bw, hbo⟩ : ∃ t, t = wB n es j := ⟨_, rfl⟩
      rw [← hlo, ← hhi, ← hbo] at hC
      rw [← hlo, ← hhi, ← hbo] at hok
      have HC := Lib.hid hC
      have HV := Lib.hid hlo
      have HB := Lib.hid hbo
      have HOW := Lib.hid hown
      have BW := Lib.hid hbw
      clear hlo hhi hbo hown hC hbw
      cases bw with
      | false =>
        have HG := Lib.hid (show earG n es j = false from by unfold earG; rw [← HB.out]; rfl)
        go_wp2_with fail
        refine (HC.out _ _ _ _ HQ.out.symm (HDA.out.below (w := wa) BW.out)).mono ?_
        rintro e w2 ⟨rfl, b2⟩
        have B2 := Lib.hid (BW.out.trans (b2.mono BW.out.size))
        have z2 : wa.heap.size ≤ w2.heap.size := B2.out.size
        have HO2 := Lib.hid (own_below HOW.out b2)
        have k0 := (B2.out.cell (p := ⟨w1.heap.size, 0, none⟩) sa).trans e0
        have k1 := (B2.out.cell (p := ⟨w1.heap.size, 1, none⟩) sa).trans e1
        have m1 : (w1.heap.size = w2.heap.size) = False := eq_false (by omega)
        have m2 : (w2.heap.size = w1.heap.size) = False := eq_false (by omega)
        clear b2
        obtain ⟨w3, hw3⟩ : ∃ W, W = w2.alloc (.cells #[.int .i64 lo, .int .i64 hi] 36) := ⟨_, rfl⟩
        have hb3 : Below w2.heap.size w2 w3 := by rw [hw3]; exact (Below.refl _ _).alloc (Nat.le_refl _) _
        have B3 := Lib.hid (B2.out.trans (hb3.mono z2))
        have HO3 := Lib.hid (own_below HO2.out hb3)
        have y0 : w3.cell? ⟨w2.heap.size, 0, none⟩ = some (.int .i64 lo) := by rw [hw3]; go_simp
        have y1 : w3.cell? ⟨w2.heap.size, 1, none⟩ = some (.int .i64 hi) := by rw [hw3]; go_simp
        have z3 : w2.heap.size < w3.heap.size := by rw [hw3]; simp
        go_upto_region 7 with (fail)
        rw [← hw3]
        clear hw3 hb3 B2 HO2 k0 k1 m1 m2
        go_wp2_with fail
        refine (HBD.out lo hi _).mono ?_
        rintro e w4 ⟨rfl, b4⟩
        have B4 := Lib.hid (B3.out.trans (b4.mono (by omega)))
        have z4 : wa.heap.size ≤ w4.heap.size := B4.out.size
        have HO4 := Lib.hid (own_below HO3.out b4)
        clear b4 B3 HO3 y0 y1
        go_wp2_with fail
        refine bodyPost_ret (v := .tuple #[.slice none 0 0, .bool false]) (by simp [results, Try.results57, go_sem]) rfl ?_
        exact ⟨none, 0, 0, by rw [ear_badN HN.out hlt HG.out], by rw [ear_badN HN.out hlt HG.out]; rfl, by rw [ear_badN HN.out hlt HG.out]; exact World.ownsRow_nil _ _ _ _, BA.trans (B4.out.mono BA.size)⟩
      | true =>
        have hoo := okI_of (hok rfl)
        have hother : (lo == 1000000) = false := by have := hoo; simp; omega
        clear hok hoo
        by_cases hbad : lo = (-1000000)
        · have HG := Lib.hid (show earG n es j = false from by unfold earG; rw [← HV.out, hbad]; simp)
          have hbb : (lo == (-1000000)) = true := by simp [hbad]
          clear hbad
          go_wp2_with fail
          refine (HC.out _ _ _ _ HQ.out.symm (HDA.out.below (w := wa) BW.out)).mono ?_
          rintro e w2 ⟨rfl, b2⟩
          have B2 := Lib.hid (BW.out.trans (b2.mono BW.out.size))
          have z2 : wa.heap.size ≤ w2.heap.size := B2.out.size
          have HO2 := Lib.hid (own_below HOW.out b2)
          have k0 := (B2.out.cell (p := ⟨w1.heap.size, 0, none⟩) sa).trans e0
          have k1 := (B2.out.cell (p := ⟨w1.heap.size, 1, none⟩) sa).trans e1
          have m1 : (w1.heap.size = w2.heap.size) = False := eq_false (by omega)
          have m2 : (w2.heap.size = w1.heap.size) = False := eq_false (by omega)
          clear b2
          obtain ⟨w3, hw3⟩ : ∃ W, W = w2.alloc (.cells #[.int .i64 lo, .int .i64 hi] 36) := ⟨_, rfl⟩
          have hb3 : Below w2.heap.size w2 w3 := by rw [hw3]; exact (Below.refl _ _).alloc (Nat.le_refl _) _
          have B3 := Lib.hid (B2.out.trans (hb3.mono z2))
          have HO3 := Lib.hid (own_below HO2.out hb3)
          have y0 : w3.cell? ⟨w2.heap.size, 0, none⟩ = some (.int .i64 lo) := by rw [hw3]; go_simp
          have y1 : w3.cell? ⟨w2.heap.size, 1, none⟩ = some (.int .i64 hi) := by rw [hw3]; go_simp
          have z3 : w2.heap.size < w3.heap.size := by rw [hw3]; simp
          go_upto_region 7 with (fail)
          rw [← hw3]
          clear hw3 hb3 B2 HO2 k0 k1 m1 m2
          go_wp2_with fail
          refine (HBD.out lo hi _).mono ?_
          rintro e w4 ⟨rfl, b4⟩
          have B4 := Lib.hid (B3.out.trans (b4.mono (by omega)))
          have z4 : wa.heap.size ≤ w4.heap.size := B4.out.size
          have HO4 := Lib.hid (own_below HO3.out b4)
          clear b4 B3 HO3 y0 y1
          go_wp2_with fail
          refine bodyPost_ret (v := .tuple #[.slice none 0 0, .bool false]) (by simp [results, Try.results57, go_sem]) rfl ?_
          exact ⟨none, 0, 0, by rw [ear_badN HN.out hlt HG.out], by rw [ear_badN HN.out hlt HG.out]; rfl, by rw [ear_badN HN.out hlt HG.out]; exact World.ownsRow_nil _ _ _ _, BA.trans (B4.out.mono BA.size)⟩
        · have HG := Lib.hid (show earG n es j = true from by unfold earG; rw [← HV.out, ← HB.out]; simp [hbad])
          have hbb : (lo == (-1000000)) = false := by simp [hbad]
          clear hbad
          go_wp2_with fail
          refine (HC.out _ _ _ _ HQ.out.symm (HDA.out.below (w := wa) BW.out)).mono ?_
          rintro e w2 ⟨rfl, b2⟩
          have B2 := Lib.hid (BW.out.trans (b2.mono BW.out.size))
          have z2 : wa.heap.size ≤ w2.heap.size := B2.out.size
          have HO2 := Lib.hid (own_below HOW.out b2)
          have k0 := (B2.out.cell (p := ⟨w1.heap.size, 0, none⟩) sa).trans e0
          have k1 := (B2.out.cell (p := ⟨w1.heap.size, 1, none⟩) sa).trans e1
          have m1 : (w1.heap.size = w2.heap.size) = False := eq_false (by omega)
          have m2 : (w2.heap.size = w1.heap.size) = False := eq_false (by omega)
          clear b2
          obtain ⟨w3, hw3⟩ : ∃ W, W = w2.alloc (.cells #[.int .i64 lo, .int .i64 hi] 36) := ⟨_, rfl⟩
          have hb3 : Below w2.heap.size w2 w3 := by rw [hw3]; exact (Below.refl _ _).alloc (Nat.le_refl _) _
          have B3 := Lib.hid (B2.out.trans (hb3.mono z2))
          have HO3 := Lib.hid (own_below HO2.out hb3)
          have y0 : w3.cell? ⟨w2.heap.size, 0, none⟩ = some (.int .i64 lo) := by rw [hw3]; go_simp
          have y1 : w3.cell? ⟨w2.heap.size, 1, none⟩ = some (.int .i64 hi) := by rw [hw3]; go_simp
          have z3 : w2.heap.size < w3.heap.size := by rw [hw3]; simp
          go_upto_region 7 with (fail)
          rw [← hw3]
          clear hw3 hb3 B2 HO2 k0 k1 m1 m2
          go_wp2_with fail
          refine (HBD.out lo hi _).mono ?_
          rintro e w4 ⟨rfl, b4⟩
          have B4 := Lib.hid (B3.out.trans (b4.mono (by omega)))
          have z4 : wa.heap.size ≤ w4.heap.size := B4.out.size
          have HO4 := Lib.hid (own_below HO3.out b4)
          clear b4 B3 HO3 y0 y1
          go_wp2_with (at_builtin; refine wpList_append_lies _ rfl _ _ 28 rfl (wa.heap.size) 3 i1 (.int .i64 0) 1 8 Try.underlying28 hii hy0 hy1 hy2 rfl (by decide) _ _ _ rfl (HO4.out.alloc _) ⟨_, 0, none⟩ 1 1 _ rfl rfl (World.news_of_block (heap_made _ _ _ (by first | rfl | simp))) (one_c1 _) (by decide) (by unfold maxLen; omega) (by omega) (by simp; omega) _ rfl ?_)
          intro g5 cap w6 ho6 hg6 hat6 hl6
          go_wp2_with fail
          go_roundw
          case rel =>
            refine ⟨j + 1, some ⟨g5, 0, none⟩, cap, by omega, by go_num, rfl, ear_all HA.out HG.out, ?_, ?_⟩
            · rw [earL_next, ← HV.out]; simpa [intV] using ho6
            · exact (B4.out.alloc B4.out.size _).grown hg6 (by simp; omega) (fun r hr => (HO4.out.lt r hr).1)
          case measure => simp [intOf]; omega
    · have hjN : j = N := by omega
      subst hjN
      have HRR := Lib.hid (ear_goodN HN.out HA.out)
      have HOW := Lib.hid hown
      have BW := Lib.hid hbw
      clear hown hbw
      have hdj : decide ((0 : Int) < (j : Int)) = decide (0 < j) := by rw [Bool.eq_iff_iff]; simp
      go_wp2_with fail
      go_quiet (fail)
      go_wp2_with fail
      refine bodyPost_ret (v := .tuple #[.slice A2 j d2, .bool (decide (0 < j))]) (by first | (simp [results, Try.results57, go_sem]; done) | (simp [results, Try.results57, go_sem, hdj]; done)) rfl ?_
      exact ⟨A2, j, d2, by rw [HRR.out], by rw [HRR.out]; exact (earL_length n es j).symm, by rw [HRR.out]; exact own_base (own_below HOW.out (below_drewN (Below.refl _ _) _)) (by omega), below_drewN (BA.trans (BW.out.mono BA.size)) _⟩

set_option maxRecDepth 100000 in
set_option maxHeartbeats 8000000 in
theorem impl_EarliestTimes (n : Int) (es : List GL) (A : Option Addr) (k c : Nat) (w : World) (hn : es.length = k) (hm : k ≤ 1048576) (hr : LinkAt w A es) :
    Calls Try.prog 18 #[grV n A k c] w fun e w' => ∃ B m cb, e = .returned (.tuple #[.slice B m cb, .bool (earR n es).2]) ∧ m = (earR n es).1.length ∧ w'.ownsRow w.heap.size 3 1 (.slice B m cb) m ((earR n es).1.map intV) ∧ Below w.heap.size w w' := by
  have HS := Lib.hid (fun W h => finite_EarliestTimes n es A k c W hn hm h)
  have HR := Lib.hid hr
  clear hr hn
  obtain ⟨r2, hr2⟩ : ∃ t, t = (earR n es).2 := ⟨_, rfl⟩
  rw [← hr2] at HS ⊢
  clear hr2
  unfold grV at HS ⊢
  go_enter Try.func18, Try.ntmps18
  go_wp2_with fail
  refine (HS.out _ (HR.out.below (by repeat (first | exact Below.refl _ _ | refine below_step (by assumption) (by first | omega | (simp; done) | (simp; omega)) ?_ | refine below_drewN ?_ _ | refine Below.drew ?_ | refine Below.setCell ?_ (by first | omega | (simp; done) | (simp; omega)) _ | refine Below.alloc ?_ (by first | omega | (simp; done) | (simp; omega)) _)))).mono ?_
  rintro e w1 ⟨B, m, cb, rfl, hm1, h1, b1⟩
  have H1 := Lib.hid h1
  have HM := Lib.hid hm1
  clear h1 hm1
  have c0_w1 : w1.cell? ⟨w.heap.size, 0, none⟩ = some (.int .i64 n) := (b1.cell (p := ⟨w.heap.size, 0, none⟩) (by first | omega | (simp; done) | (simp; omega))).trans (by first | assumption | go_simp)
  have c1_w1 : w1.cell? ⟨w.heap.size, 1, none⟩ = some (.slice A k c) := (b1.cell (p := ⟨w.heap.size, 1, none⟩) (by first | omega | (simp; done) | (simp; omega))).trans (by first | assumption | go_simp)
  have s0_w1 : w.heap.size < w1.heap.size := Nat.lt_of_lt_of_le (by first | omega | (simp; done) | (simp; omega)) b1.size
  have B_w1 : Below w.heap.size w w1 := (by repeat (first | exact Below.refl _ _ | refine below_step (by assumption) (by first | omega | (simp; done) | (simp; omega)) ?_ | refine below_drewN ?_ _ | refine Below.drew ?_ | refine Below.setCell ?_ (by first | omega | (simp; done) | (simp; omega)) _ | refine Below.alloc ?_ (by first | omega | (simp; done) | (simp; omega)) _))
  clear b1  
  go_wp2_with fail
  refine bodyPost_ret (v := .tuple #[.slice B m cb, .bool r2]) (by simp [results, Try.results18, go_sem]) rfl ?_
  exact ⟨B, m, cb, rfl, HM.out, own_base H1.out (by simp), B_w1⟩

end Go.Proofs.Ytnhdfnfiicioiaa

namespace Go.Proofs.Ytnhdfnfiicioiaa
open Go.RowKit
set_option linter.unusedVariables false
set_option linter.unusedSimpArgs false

theorem lat_form (n : Int) (es : List GL) (N : Nat) (h : dN n es = N) : latR n es = if (List.range N).all (latG n es) then (latL n es N, decide (0 < N)) else ([], false) := by
  cases hc : consR n es with
  | true =>
    have hr := okS_rng (consR_ok hc)
    rw [dN_yes hc] at h
    have hm : min n.toNat 8 = N := by omega
    unfold latR
    rw [hm]
  | false =>
    rw [dN_no hc] at h
    obtain rfl : N = 0 := by omega
    have hb : ∀ i : Nat, latG n es i = false := fun i => by unfold latG wB; rw [hc]; rfl
    have h2 : (List.range 0).all (latG n es) = true := rfl
    rw [if_pos h2]
    by_cases h0 : min n.toNat 8 = 0
    · unfold latR; rw [h0]; rfl
    · rw [latR_bad (j := 0) (by omega) (hb 0)]
      unfold latL; rfl
theorem lat_badN {n : Int} {es : List GL} {N j : Nat} (h : dN n es = N) (hj : j < N) (hg : latG n es j = false) : latR n es = ([], false) := by
  rw [lat_form n es N h, if_neg]
  have : (List.range N).all (latG n es) = false := by rw [List.all_eq_false]; exact ⟨j, by simp; omega, by simp [hg]⟩
  rw [this]; simp
theorem lat_goodN {n : Int} {es : List GL} {N : Nat} (h : dN n es = N) (hg : (List.range N).all (latG n es) = true) : latR n es = (latL n es N, decide (0 < N)) := by
  rw [lat_form n es N h, if_pos hg]

set_option maxRecDepth 100000 in
theorem LatestTimes_bound (l h : Int) (w : World) : Calls Try.prog 60 #[.agg #[.int .i64 l, .int .i64 h]] w fun e w' => e = .returned (.int .i64 h) ∧ Below w.heap.size w w' := by
  go_enter Try.func60, Try.ntmps60
  go_wp2
  go_ret
  exact ⟨rfl, (by repeat (first | exact Below.refl _ _ | refine below_step (by assumption) (by first | omega | (simp; done) | (simp; omega)) ?_ | refine below_drewN ?_ _ | refine Below.drew ?_ | refine Below.setCell ?_ (by first | omega | (simp; done) | (simp; omega)) _ | refine Below.alloc ?_ (by first | omega | (simp; done) | (simp; omega)) _))⟩

set_option maxRecDepth 100000 in
set_option maxHeartbeats 8000000 in
theorem finite_LatestTimes (n : Int) (es : List GL) (A : Option Addr) (k c : Nat) (w : World) (hn : es.length = k) (hm : k ≤ 1048576) (hr : LinkAt w A es) :
    Calls Try.prog 57 #[grV n A k c, .func (.func 60) #[] #[]] w fun e w' => ∃ B m cb, e = .returned (.tuple #[.slice B m cb, .bool (latR n es).2]) ∧ m = (latR n es).1.length ∧ w'.ownsRow w.heap.size 3 1 (.slice B m cb) m ((latR n es).1.map intV) ∧ Below w.heap.size w w' := by
  have HS := Lib.hid (fun W h => distancesOf_any n es A k c W hn hm h)
  have HBD := Lib.hid (LatestTimes_bound)
  have HR := Lib.hid hr
  clear hr hn
  obtain ⟨i1, hii, hy0, hy1, hy2⟩ := info_parts Try.info3
  have hlen := dZ_le n es
  have hwin := win_all n es
  unfold DsEnd at HS
  obtain ⟨t0, ht0⟩ : ∃ t, t = dN n es := ⟨_, rfl⟩
  obtain ⟨zs, hzs⟩ : ∃ t, t = dZ n es := ⟨_, rfl⟩
  have hN : ∃ N : Nat, t0 = N ∧ N ≤ 8 := by
    cases hc : consR n es with
    | true => have := okS_rng (consR_ok hc); rw [ht0, dN_yes hc]; exact ⟨n.toNat, by omega, by omega⟩
    | false => rw [ht0, dN_no hc]; exact ⟨0, rfl, by omega⟩
  obtain ⟨N, hN, hN8⟩ := hN
  have HN : Hid (dN n es = N) := Lib.hid (by rw [← ht0, hN])
  rw [← ht0, ← hzs] at HS hwin
  rw [← hzs] at hlen
  have hw := fun (j : Int) A' k' c' W (hl : zs.length = k') hr => impl_WindowBetween t0 zs A' k' c' 0 j W hl (by omega) hr
  simp only [hwin] at hw
  unfold wV ivV grV at hw
  have HW := Lib.hid hw
  unfold grV at HS ⊢
  clear ht0 hzs hw hwin
  subst hN
  go_enter Try.func57, Try.ntmps57
  go_wp2_with fail
  refine (HS.out _ (HR.out.below (by repeat (first | exact Below.refl _ _ | refine below_step (by assumption) (by first | omega | (simp; done) | (simp; omega)) ?_ | refine below_drewN ?_ _ | refine Below.drew ?_ | refine Below.setCell ?_ (by first | omega | (simp; done) | (simp; omega)) _ | refine Below.alloc ?_ (by first | omega | (simp; done) | (simp; omega)) _)))).mono ?_
  rintro e w1 ⟨D, q, cd, rfl, hq, h1, b1⟩
  have HD := Lib.hid (own_row h1)
  have HQ := Lib.hid hq
  clear h1 hq
  have c0_w1 : w1.cell? ⟨w.heap.size, 0, none⟩ = some (.int .i64 n) := (b1.cell (p := ⟨w.heap.size, 0, none⟩) (by first | omega | (simp; done) | (simp; omega))).trans (by first | assumption | go_simp)
  have c1_w1 : w1.cell? ⟨w.heap.size, 1, none⟩ = some (.slice A k c) := (b1.cell (p := ⟨w.heap.size, 1, none⟩) (by first | omega | (simp; done) | (simp; omega))).trans (by first | assumption | go_simp)
  have s0_w1 : w.heap.size < w1.heap.size := Nat.lt_of_lt_of_le (by first | omega | (simp; done) | (simp; omega)) b1.size
  have B_w1 : Below w.heap.size w w1 := (by repeat (first | exact Below.refl _ _ | refine below_step (by assumption) (by first | omega | (simp; done) | (simp; omega)) ?_ | refine below_drewN ?_ _ | refine Below.drew ?_ | refine Below.setCell ?_ (by first | omega | (simp; done) | (simp; omega)) _ | refine Below.alloc ?_ (by first | omega | (simp; done) | (simp; omega)) _))
  clear b1  
  have n1 : (w.heap.size = w1.heap.size) = False := eq_false (by omega)
  have n2 : (w1.heap.size = w.heap.size) = False := eq_false (by omega)
  obtain ⟨wa, hwa⟩ : ∃ W, W = w1.alloc (.cells #[.int .i64 (N : Int), .slice D q cd] 86) := ⟨_, rfl⟩
  have ba : Below w1.heap.size w1 wa := by rw [hwa]; exact (Below.refl _ _).alloc (Nat.le_refl _) _
  have e0 : wa.cell? ⟨w1.heap.size, 0, none⟩ = some (.int .i64 (N : Int)) := by rw [hwa]; go_simp
  have e1 : wa.cell? ⟨w1.heap.size, 1, none⟩ = some (.slice D q cd) := by rw [hwa]; go_simp
  have sa : w1.heap.size < wa.heap.size := by rw [hwa]; simp
  have BA : Below w.heap.size w wa := B_w1.trans (ba.mono B_w1.size)
  have HDA := Lib.hid (HD.out.below ba)
  go_upto_region 3 with (fail)
  rw [← hwa]
  clear hwa ba HD n1 n2 c0_w1 c1_w1 B_w1
  go_wp2_with fail
  go_loopw [16, 7] (fun ii ou wr => ∃ (j : Nat) (A2 : Option Addr) (d2 : Nat), j ≤ N ∧ ii = .int .i64 j ∧ ou = .slice A2 j d2 ∧ (List.range j).all (latG n es) = true ∧ wr.ownsRow wa.heap.size 3 1 (.slice A2 j d2) j ((latL n es j).map intV) ∧ Below wa.heap.size wa wr) (fun ii _ _ => N - (intOf ii).toNat)
  case atStart => exact ⟨0, none, 0, Nat.zero_le _, rfl, rfl, rfl, World.ownsRow_nil _ _ _ _, Below.refl _ _⟩
  case round =>
    obtain ⟨j, A2, d2, hj, rfl, rfl, hall, hown, hbw⟩ := hrel
    have HA := Lib.hid hall
    have hwz := hbw.size
    have k0 := (hbw.cell (p := ⟨w1.heap.size, 0, none⟩) sa).trans e0
    have k1 := (hbw.cell (p := ⟨w1.heap.size, 1, none⟩) sa).trans e1
    clear hall
    by_cases hlt : j < N
    · have hC := fun A' k' c' W hl hr => HW.out (j : Int) A' k' c' W hl hr
      have hok := fun h => wB_okI (n := n) (es := es) (v := (j : Int)) h
      obtain ⟨lo, hlo⟩ : ∃ t, t = wL n es j := ⟨_, rfl⟩
      obtain ⟨hi, hhi⟩ : ∃ t, t = wH n es j := ⟨_, rfl⟩
      obtain ⟨bw, hbo⟩ : ∃ t, t = wB n es j := ⟨_, rfl⟩
      rw [← hlo, ← hhi, ← hbo] at hC
      rw [← hlo, ← hhi, ← hbo] at hok
      have HC := Lib.hid hC
      have HV := Lib.hid hhi
      have HB := Lib.hid hbo
      have HOW := Lib.hid hown
      have BW := Lib.hid hbw
      clear hlo hhi hbo hown hC hbw
      cases bw with
      | false =>
        have HG := Lib.hid (show latG n es j = false from by unfold latG; rw [← HB.out]; rfl)
        go_wp2_with fail
        refine (HC.out _ _ _ _ HQ.out.symm (HDA.out.below (w := wa) BW.out)).mono ?_
        rintro e w2 ⟨rfl, b2⟩
        have B2 := Lib.hid (BW.out.trans (b2.mono BW.out.size))
        have z2 : wa.heap.size ≤ w2.heap.size := B2.out.size
        have HO2 := Lib.hid (own_below HOW.out b2)
        have k0 := (B2.out.cell (p := ⟨w1.heap.size, 0, none⟩) sa).trans e0
        have k1 := (B2.out.cell (p := ⟨w1.heap.size, 1, none⟩) sa).trans e1
        have m1 : (w1.heap.size = w2.heap.size) = False := eq_false (by omega)
        have m2 : (w2.heap.size = w1.heap.size) = False := eq_false (by omega)
        clear b2
        obtain ⟨w3, hw3⟩ : ∃ W, W = w2.alloc (.cells #[.int .i64 lo, .int .i64 hi] 36) := ⟨_, rfl⟩
        have hb3 : Below w2.heap.size w2 w3 := by rw [hw3]; exact (Below.refl _ _).alloc (Nat.le_refl _) _
        have B3 := Lib.hid (B2.out.trans (hb3.mono z2))
        have HO3 := Lib.hid (own_below HO2.out hb3)
        have y0 : w3.cell? ⟨w2.heap.size, 0, none⟩ = some (.int .i64 lo) := by rw [hw3]; go_simp
        have y1 : w3.cell? ⟨w2.heap.size, 1, none⟩ = some (.int .i64 hi) := by rw [hw3]; go_simp
        have z3 : w2.heap.size < w3.heap.size := by rw [hw3]; simp
        go_upto_region 7 with (fail)
        rw [← hw3]
        clear hw3 hb3 B2 HO2 k0 k1 m1 m2
        go_wp2_with fail
        refine (HBD.out lo hi _).mono ?_
        rintro e w4 ⟨rfl, b4⟩
        have B4 := Lib.hid (B3.out.trans (b4.mono (by omega)))
        have z4 : wa.heap.size ≤ w4.heap.size := B4.out.size
        have HO4 := Lib.hid (own_below HO3.out b4)
        clear b4 B3 HO3 y0 y1
        go_wp2_with fail
        refine bodyPost_ret (v := .tuple #[.slice none 0 0, .bool false]) (by simp [results, Try.results57, go_sem]) rfl ?_
        exact ⟨none, 0, 0, by rw [lat_badN HN.out hlt HG.out], by rw [lat_badN HN.out hlt HG.out]; rfl, by rw [lat_badN HN.out hlt HG.out]; exact World.ownsRow_nil _ _ _ _, BA.trans (B4.out.mono BA.size)⟩
      | true =>
        have hoo := okI_of (hok rfl)
        have hother : (hi == (-1000000)) = false := by have := hoo; simp; omega
        clear hok hoo
        by_cases hbad : hi = 1000000
        · have HG := Lib.hid (show latG n es j = false from by unfold latG; rw [← HV.out, hbad]; simp)
          have hbb : (hi == 1000000) = true := by simp [hbad]
          clear hbad
          go_wp2_with fail
          refine (HC.out _ _ _ _ HQ.out.symm (HDA.out.below (w := wa) BW.out)).mono ?_
          rintro e w2 ⟨rfl, b2⟩
          have B2 := Lib.hid (BW.out.trans (b2.mono BW.out.size))
          have z2 : wa.heap.size ≤ w2.heap.size := B2.out.size
          have HO2 := Lib.hid (own_below HOW.out b2)
          have k0 := (B2.out.cell (p := ⟨w1.heap.size, 0, none⟩) sa).trans e0
          have k1 := (B2.out.cell (p := ⟨w1.heap.size, 1, none⟩) sa).trans e1
          have m1 : (w1.heap.size = w2.heap.size) = False := eq_false (by omega)
          have m2 : (w2.heap.size = w1.heap.size) = False := eq_false (by omega)
          clear b2
          obtain ⟨w3, hw3⟩ : ∃ W, W = w2.alloc (.cells #[.int .i64 lo, .int .i64 hi] 36) := ⟨_, rfl⟩
          have hb3 : Below w2.heap.size w2 w3 := by rw [hw3]; exact (Below.refl _ _).alloc (Nat.le_refl _) _
          have B3 := Lib.hid (B2.out.trans (hb3.mono z2))
          have HO3 := Lib.hid (own_below HO2.out hb3)
          have y0 : w3.cell? ⟨w2.heap.size, 0, none⟩ = some (.int .i64 lo) := by rw [hw3]; go_simp
          have y1 : w3.cell? ⟨w2.heap.size, 1, none⟩ = some (.int .i64 hi) := by rw [hw3]; go_simp
          have z3 : w2.heap.size < w3.heap.size := by rw [hw3]; simp
          go_upto_region 7 with (fail)
          rw [← hw3]
          clear hw3 hb3 B2 HO2 k0 k1 m1 m2
          go_wp2_with fail
          refine (HBD.out lo hi _).mono ?_
          rintro e w4 ⟨rfl, b4⟩
          have B4 := Lib.hid (B3.out.trans (b4.mono (by omega)))
          have z4 : wa.heap.size ≤ w4.heap.size := B4.out.size
          have HO4 := Lib.hid (own_below HO3.out b4)
          clear b4 B3 HO3 y0 y1
          go_wp2_with fail
          refine bodyPost_ret (v := .tuple #[.slice none 0 0, .bool false]) (by simp [results, Try.results57, go_sem]) rfl ?_
          exact ⟨none, 0, 0, by rw [lat_badN HN.out hlt HG.out], by rw [lat_badN HN.out hlt HG.out]; rfl, by rw [lat_badN HN.out hlt HG.out]; exact World.ownsRow_nil _ _ _ _, BA.trans (B4.out.mono BA.size)⟩
        · have HG := Lib.hid (show latG n es j = true from by unfold latG; rw [← HV.out, ← HB.out]; simp [hbad])
          have hbb : (hi == 1000000) = false := by simp [hbad]
          clear hbad
          go_wp2_with fail
          refine (HC.out _ _ _ _ HQ.out.symm (HDA.out.below (w := wa) BW.out)).mono ?_
          rintro e w2 ⟨rfl, b2⟩
          have B2 := Lib.hid (BW.out.trans (b2.mono BW.out.size))
          have z2 : wa.heap.size ≤ w2.heap.size := B2.out.size
          have HO2 := Lib.hid (own_below HOW.out b2)
          have k0 := (B2.out.cell (p := ⟨w1.heap.size, 0, none⟩) sa).trans e0
          have k1 := (B2.out.cell (p := ⟨w1.heap.size, 1, none⟩) sa).trans e1
          have m1 : (w1.heap.size = w2.heap.size) = False := eq_false (by omega)
          have m2 : (w2.heap.size = w1.heap.size) = False := eq_false (by omega)
          clear b2
          obtain ⟨w3, hw3⟩ : ∃ W, W = w2.alloc (.cells #[.int .i64 lo, .int .i64 hi] 36) := ⟨_, rfl⟩
          have hb3 : Below w2.heap.size w2 w3 := by rw [hw3]; exact (Below.refl _ _).alloc (Nat.le_refl _) _
          have B3 := Lib.hid (B2.out.trans (hb3.mono z2))
          have HO3 := Lib.hid (own_below HO2.out hb3)
          have y0 : w3.cell? ⟨w2.heap.size, 0, none⟩ = some (.int .i64 lo) := by rw [hw3]; go_simp
          have y1 : w3.cell? ⟨w2.heap.size, 1, none⟩ = some (.int .i64 hi) := by rw [hw3]; go_simp
          have z3 : w2.heap.size < w3.heap.size := by rw [hw3]; simp
          go_upto_region 7 with (fail)
          rw [← hw3]
          clear hw3 hb3 B2 HO2 k0 k1 m1 m2
          go_wp2_with fail
          refine (HBD.out lo hi _).mono ?_
          rintro e w4 ⟨rfl, b4⟩
          have B4 := Lib.hid (B3.out.trans (b4.mono (by omega)))
          have z4 : wa.heap.size ≤ w4.heap.size := B4.out.size
          have HO4 := Lib.hid (own_below HO3.out b4)
          clear b4 B3 HO3 y0 y1
          go_wp2_with (at_builtin; refine wpList_append_lies _ rfl _ _ 28 rfl (wa.heap.size) 3 i1 (.int .i64 0) 1 8 Try.underlying28 hii hy0 hy1 hy2 rfl (by decide) _ _ _ rfl (HO4.out.alloc _) ⟨_, 0, none⟩ 1 1 _ rfl rfl (World.news_of_block (heap_made _ _ _ (by first | rfl | simp))) (one_c1 _) (by decide) (by unfold maxLen; omega) (by omega) (by simp; omega) _ rfl ?_)
          intro g5 cap w6 ho6 hg6 hat6 hl6
          go_wp2_with fail
          go_roundw
          case rel =>
            refine ⟨j + 1, some ⟨g5, 0, none⟩, cap, by omega, by go_num, rfl, lat_all HA.out HG.out, ?_, ?_⟩
            · rw [latL_next, ← HV.out]; simpa [intV] using ho6
            · exact (B4.out.alloc B4.out.size _).grown hg6 (by simp; omega) (fun r hr => (HO4.out.lt r hr).1)
          case measure => simp [intOf]; omega
    · have hjN : j = N := by omega
      subst hjN
      have HRR := Lib.hid (lat_goodN HN.out HA.out)
      have HOW := Lib.hid hown
      have BW := Lib.hid hbw
      clear hown hbw
      have hdj : decide ((0 : Int) < (j : Int)) = decide (0 < j) := by rw [Bool.eq_iff_iff]; simp
      go_wp2_with fail
      go_quiet (fail)
      go_wp2_with fail
      refine bodyPost_ret (v := .tuple #[.slice A2 j d2, .bool (decide (0 < j))]) (by first | (simp [results, Try.results57, go_sem]; done) | (simp [results, Try.results57, go_sem, hdj]; done)) rfl ?_
      exact ⟨A2, j, d2, by rw [HRR.out], by rw [HRR.out]; exact (latL_length n es j).symm, by rw [HRR.out]; exact own_base (own_below HOW.out (below_drewN (Below.refl _ _) _)) (by omega), below_drewN (BA.trans (BW.out.mono BA.size)) _⟩

set_option maxRecDepth 100000 in
set_option maxHeartbeats 8000000 in
theorem impl_LatestTimes (n : Int) (es : List GL) (A : Option Addr) (k c : Nat) (w : World) (hn : es.length = k) (hm : k ≤ 1048576) (hr : LinkAt w A es) :
    Calls Try.prog 20 #[grV n A k c] w fun e w' => ∃ B m cb, e = .returned (.tuple #[.slice B m cb, .bool (latR n es).2]) ∧ m = (latR n es).1.length ∧ w'.ownsRow w.heap.size 3 1 (.slice B m cb) m ((latR n es).1.map intV) ∧ Below w.heap.size w w' := by
  have HS := Lib.hid (fun W h => finite_LatestTimes n es A k c W hn hm h)
  have HR := Lib.hid hr
  clear hr hn
  obtain ⟨r2, hr2⟩ : ∃ t, t = (latR n es).2 := ⟨_, rfl⟩
  rw [← hr2] at HS ⊢
  clear hr2
  unfold grV at HS ⊢
  go_enter Try.func20, Try.ntmps20
  go_wp2_with fail
  refine (HS.out _ (HR.out.below (by repeat (first | exact Below.refl _ _ | refine below_step (by assumption) (by first | omega | (simp; done) | (simp; omega)) ?_ | refine below_drewN ?_ _ | refine Below.drew ?_ | refine Below.setCell ?_ (by first | omega | (simp; done) | (simp; omega)) _ | refine Below.alloc ?_ (by first | omega | (simp; done) | (simp; omega)) _)))).mono ?_
  rintro e w1 ⟨B, m, cb, rfl, hm1, h1, b1⟩
  have H1 := Lib.hid h1
  have HM := Lib.hid hm1
  clear h1 hm1
  have c0_w1 : w1.cell? ⟨w.heap.size, 0, none⟩ = some (.int .i64 n) := (b1.cell (p := ⟨w.heap.size, 0, none⟩) (by first | omega | (simp; done) | (simp; omega))).trans (by first | assumption | go_simp)
  have c1_w1 : w1.cell? ⟨w.heap.size, 1, none⟩ = some (.slice A k c) := (b1.cell (p := ⟨w.heap.size, 1, none⟩) (by first | omega | (simp; done) | (simp; omega))).trans (by first | assumption | go_simp)
  have s0_w1 : w.heap.size < w1.heap.size := Nat.lt_of_lt_of_le (by first | omega | (simp; done) | (simp; omega)) b1.size
  have B_w1 : Below w.heap.size w w1 := (by repeat (first | exact Below.refl _ _ | refine below_step (by assumption) (by first | omega | (simp; done) | (simp; omega)) ?_ | refine below_drewN ?_ _ | refine Below.drew ?_ | refine Below.setCell ?_ (by first | omega | (simp; done) | (simp; omega)) _ | refine Below.alloc ?_ (by first | omega | (simp; done) | (simp; omega)) _))
  clear b1  
  go_wp2_with fail
  refine bodyPost_ret (v := .tuple #[.slice B m cb, .bool r2]) (by simp [results, Try.results20, go_sem]) rfl ?_
  exact ⟨B, m, cb, rfl, HM.out, own_base H1.out (by simp), B_w1⟩

end Go.Proofs.Ytnhdfnfiicioiaa
