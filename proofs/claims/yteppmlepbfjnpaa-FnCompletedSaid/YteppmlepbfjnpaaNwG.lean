/-
  WALKS of impl.IsConsistent and impl.ConflictOf.
-/
import Derived.Test.YteppmlepbfjnpaaBdSmG
import Derived.Deep.AppendLies
namespace Go.Proofs.Yteppmlepbfjnpaa
open Go.RowKit
set_option linter.unusedVariables false
set_option linter.unusedSimpArgs false

set_option maxRecDepth 100000 in
set_option maxHeartbeats 4000000 in
theorem impl_IsConsistent (n : Int) (es : List GL) (A : Option Addr) (k c : Nat) (w : World) (hn : es.length = k) (hm : k ≤ 1048576) (hr : LinkAt w A es) :
    Calls Try.prog 14 #[grV n A k c] w fun e w' => e = .returned (.bool (consR n es)) ∧ Below w.heap.size w w' := by
  have HS := Lib.hid (fun W h => networkOf_any n es A k c W hn hm h)
  have HR := Lib.hid hr
  clear hr hn
  obtain ⟨ok, hok⟩ : ∃ b, b = okS n es := ⟨_, rfl⟩
  have HO := Lib.hid hok.symm
  clear hok
  unfold NwEnd nwV at HS
  cases ok with
  | false =>
    rw [grN_no HO.out] at HS
    have hh := fun A k c W => hasNode_any 0 A k c 0 W
    rw [show decide ((0 : Int) ≤ 0 ∧ (0 : Int) < 0) = false from by decide] at hh
    unfold grV at HS hh ⊢
    have HH := Lib.hid hh
    clear hh
    go_enter Try.func14, Try.ntmps14
    go_wp2_with fail
    refine (HS.out _ (HR.out.below (by repeat (first | exact Below.refl _ _ | refine below_step (by assumption) (by first | omega | (simp; done) | (simp; omega)) ?_ | refine below_drewN ?_ _ | refine Below.drew ?_ | refine Below.setCell ?_ (by first | omega | (simp; done) | (simp; omega)) _ | refine Below.alloc ?_ (by first | omega | (simp; done) | (simp; omega)) _)))).mono ?_
    rintro e w1 ⟨A1, m, c1, D1, q, d1, rfl, _, _, _, _, b1⟩
    have c0_w1 : w1.cell? ⟨w.heap.size, 0, none⟩ = some (.int .i64 n) := (b1.cell (p := ⟨w.heap.size, 0, none⟩) (by first | omega | (simp; done) | (simp; omega))).trans (by first | assumption | go_simp)
    have c1_w1 : w1.cell? ⟨w.heap.size, 1, none⟩ = some (.slice A k c) := (b1.cell (p := ⟨w.heap.size, 1, none⟩) (by first | omega | (simp; done) | (simp; omega))).trans (by first | assumption | go_simp)
    have s0_w1 : w.heap.size < w1.heap.size := Nat.lt_of_lt_of_le (by first | omega | (simp; done) | (simp; omega)) b1.size
    have B_w1 : Below w.heap.size w w1 := (by repeat (first | exact Below.refl _ _ | refine below_step (by assumption) (by first | omega | (simp; done) | (simp; omega)) ?_ | refine below_drewN ?_ _ | refine Below.drew ?_ | refine Below.setCell ?_ (by first | omega | (simp; done) | (simp; omega)) _ | refine Below.alloc ?_ (by first | omega | (simp; done) | (simp; omega)) _))
    clear b1  
    go_wp2_with fail
    refine (HH.out _ _ _ _).mono ?_
    rintro e w2 ⟨rfl, b2⟩
    have c0_w2 : w2.cell? ⟨w.heap.size, 0, none⟩ = some (.int .i64 n) := (b2.cell (p := ⟨w.heap.size, 0, none⟩) (by first | omega | (simp; done) | (simp; omega))).trans (by first | assumption | go_simp)
    have c1_w2 : w2.cell? ⟨w.heap.size, 1, none⟩ = some (.slice A k c) := (b2.cell (p := ⟨w.heap.size, 1, none⟩) (by first | omega | (simp; done) | (simp; omega))).trans (by first | assumption | go_simp)
    have c2_w2 : w2.cell? ⟨w1.heap.size, 0, none⟩ = some (.int .i64 0) := (b2.cell (p := ⟨w1.heap.size, 0, none⟩) (by first | omega | (simp; done) | (simp; omega))).trans (by first | assumption | go_simp)
    have c3_w2 : w2.cell? ⟨w1.heap.size, 1, none⟩ = some (.slice A1 m c1) := (b2.cell (p := ⟨w1.heap.size, 1, none⟩) (by first | omega | (simp; done) | (simp; omega))).trans (by first | assumption | go_simp)
    have c4_w2 : w2.cell? ⟨w1.heap.size, 2, none⟩ = some (.slice D1 q d1) := (b2.cell (p := ⟨w1.heap.size, 2, none⟩) (by first | omega | (simp; done) | (simp; omega))).trans (by first | assumption | go_simp)
    have s0_w2 : w.heap.size < w2.heap.size := Nat.lt_of_lt_of_le (by first | omega | (simp; done) | (simp; omega)) b2.size
    have s1_w2 : w1.heap.size < w2.heap.size := Nat.lt_of_lt_of_le (by first | omega | (simp; done) | (simp; omega)) b2.size
    have B_w2 : Below w.heap.size w w2 := (by repeat (first | exact Below.refl _ _ | refine below_step (by assumption) (by first | omega | (simp; done) | (simp; omega)) ?_ | refine below_drewN ?_ _ | refine Below.drew ?_ | refine Below.setCell ?_ (by first | omega | (simp; done) | (simp; omega)) _ | refine Below.alloc ?_ (by first | omega | (simp; done) | (simp; omega)) _))
    clear b2 c0_w1 c1_w1 s0_w1 B_w1
    go_wp2_with fail
    go_ret
    exact ⟨ret_b (by unfold consR; rw [HO.out]; rfl), B_w2⟩
  | true =>
    have h1n := (okS_rng HO.out).1
    rw [grN_yes HO.out, grE_yes HO.out] at HS
    have hh := fun A k c W => hasNode_any n A k c 0 W
    rw [show decide ((0 : Int) ≤ 0 ∧ (0 : Int) < n) = true from decide_eq_true ⟨by omega, by omega⟩] at hh
    have HC := Lib.hid (fun A' k' c' W hl hr => impl_NegativeCycle n (gE es) A' k' c' W hl (by have := (gE_len80 HO.out).1; omega) hr)
    unfold grV at HS hh HC ⊢
    have HH := Lib.hid hh
    clear hh h1n
    go_enter Try.func14, Try.ntmps14
    go_wp2_with fail
    refine (HS.out _ (HR.out.below (by repeat (first | exact Below.refl _ _ | refine below_step (by assumption) (by first | omega | (simp; done) | (simp; omega)) ?_ | refine below_drewN ?_ _ | refine Below.drew ?_ | refine Below.setCell ?_ (by first | omega | (simp; done) | (simp; omega)) _ | refine Below.alloc ?_ (by first | omega | (simp; done) | (simp; omega)) _)))).mono ?_
    rintro e w1 ⟨A1, m, c1, D1, q, d1, rfl, hm1, _, hE, _, b1⟩
    have HE := Lib.hid (own_edgeS hE)
    have HM1 := Lib.hid hm1
    clear hE hm1
    have c0_w1 : w1.cell? ⟨w.heap.size, 0, none⟩ = some (.int .i64 n) := (b1.cell (p := ⟨w.heap.size, 0, none⟩) (by first | omega | (simp; done) | (simp; omega))).trans (by first | assumption | go_simp)
    have c1_w1 : w1.cell? ⟨w.heap.size, 1, none⟩ = some (.slice A k c) := (b1.cell (p := ⟨w.heap.size, 1, none⟩) (by first | omega | (simp; done) | (simp; omega))).trans (by first | assumption | go_simp)
    have s0_w1 : w.heap.size < w1.heap.size := Nat.lt_of_lt_of_le (by first | omega | (simp; done) | (simp; omega)) b1.size
    have B_w1 : Below w.heap.size w w1 := (by repeat (first | exact Below.refl _ _ | refine below_step (by assumption) (by first | omega | (simp; done) | (simp; omega)) ?_ | refine below_drewN ?_ _ | refine Below.drew ?_ | refine Below.setCell ?_ (by first | omega | (simp; done) | (simp; omega)) _ | refine Below.alloc ?_ (by first | omega | (simp; done) | (simp; omega)) _))
    clear b1  
    go_wp2_with fail
    refine (HH.out _ _ _ _).mono ?_
    rintro e w2 ⟨rfl, b2⟩
    have HE2 := Lib.hid (HE.out.below (((Below.refl _ w1).alloc (Nat.le_refl _) _).trans (b2.mono (by simp))))
    have c0_w2 : w2.cell? ⟨w.heap.size, 0, none⟩ = some (.int .i64 n) := (b2.cell (p := ⟨w.heap.size, 0, none⟩) (by first | omega | (simp; done) | (simp; omega))).trans (by first | assumption | go_simp)
    have c1_w2 : w2.cell? ⟨w.heap.size, 1, none⟩ = some (.slice A k c) := (b2.cell (p := ⟨w.heap.size, 1, none⟩) (by first | omega | (simp; done) | (simp; omega))).trans (by first | assumption | go_simp)
    have c2_w2 : w2.cell? ⟨w1.heap.size, 0, none⟩ = some (.int .i64 n) := (b2.cell (p := ⟨w1.heap.size, 0, none⟩) (by first | omega | (simp; done) | (simp; omega))).trans (by first | assumption | go_simp)
    have c3_w2 : w2.cell? ⟨w1.heap.size, 1, none⟩ = some (.slice A1 m c1) := (b2.cell (p := ⟨w1.heap.size, 1, none⟩) (by first | omega | (simp; done) | (simp; omega))).trans (by first | assumption | go_simp)
    have c4_w2 : w2.cell? ⟨w1.heap.size, 2, none⟩ = some (.slice D1 q d1) := (b2.cell (p := ⟨w1.heap.size, 2, none⟩) (by first | omega | (simp; done) | (simp; omega))).trans (by first | assumption | go_simp)
    have s0_w2 : w.heap.size < w2.heap.size := Nat.lt_of_lt_of_le (by first | omega | (simp; done) | (simp; omega)) b2.size
    have s1_w2 : w1.heap.size < w2.heap.size := Nat.lt_of_lt_of_le (by first | omega | (simp; done) | (simp; omega)) b2.size
    have B_w2 : Below w.heap.size w w2 := (by repeat (first | exact Below.refl _ _ | refine below_step (by assumption) (by first | omega | (simp; done) | (simp; omega)) ?_ | refine below_drewN ?_ _ | refine Below.drew ?_ | refine Below.setCell ?_ (by first | omega | (simp; done) | (simp; omega)) _ | refine Below.alloc ?_ (by first | omega | (simp; done) | (simp; omega)) _))
    clear b2 c0_w1 c1_w1 s0_w1 B_w1
    go_wp2_with fail
    refine (HC.out A1 m c1 _ HM1.out.symm HE2.out).mono ?_
    rintro e w3 ⟨G, p, cp, rfl, hp, _, b3⟩
    have c0_w3 : w3.cell? ⟨w.heap.size, 0, none⟩ = some (.int .i64 n) := (b3.cell (p := ⟨w.heap.size, 0, none⟩) (by first | omega | (simp; done) | (simp; omega))).trans (by first | assumption | go_simp)
    have c1_w3 : w3.cell? ⟨w.heap.size, 1, none⟩ = some (.slice A k c) := (b3.cell (p := ⟨w.heap.size, 1, none⟩) (by first | omega | (simp; done) | (simp; omega))).trans (by first | assumption | go_simp)
    have c2_w3 : w3.cell? ⟨w1.heap.size, 0, none⟩ = some (.int .i64 n) := (b3.cell (p := ⟨w1.heap.size, 0, none⟩) (by first | omega | (simp; done) | (simp; omega))).trans (by first | assumption | go_simp)
    have c3_w3 : w3.cell? ⟨w1.heap.size, 1, none⟩ = some (.slice A1 m c1) := (b3.cell (p := ⟨w1.heap.size, 1, none⟩) (by first | omega | (simp; done) | (simp; omega))).trans (by first | assumption | go_simp)
    have c4_w3 : w3.cell? ⟨w1.heap.size, 2, none⟩ = some (.slice D1 q d1) := (b3.cell (p := ⟨w1.heap.size, 2, none⟩) (by first | omega | (simp; done) | (simp; omega))).trans (by first | assumption | go_simp)
    have s0_w3 : w.heap.size < w3.heap.size := Nat.lt_of_lt_of_le (by first | omega | (simp; done) | (simp; omega)) b3.size
    have s1_w3 : w1.heap.size < w3.heap.size := Nat.lt_of_lt_of_le (by first | omega | (simp; done) | (simp; omega)) b3.size
    have B_w3 : Below w.heap.size w w3 := (by repeat (first | exact Below.refl _ _ | refine below_step (by assumption) (by first | omega | (simp; done) | (simp; omega)) ?_ | refine below_drewN ?_ _ | refine Below.drew ?_ | refine Below.setCell ?_ (by first | omega | (simp; done) | (simp; omega)) _ | refine Below.alloc ?_ (by first | omega | (simp; done) | (simp; omega)) _))
    clear b3 c0_w2 c1_w2 c2_w2 c3_w2 c4_w2 s0_w2 s1_w2 B_w2
    have hqe : ((p : Int) == 0) = decide ((cycR n (gE es)).length = 0) := by rw [← hp, Bool.eq_iff_iff]; simp
    have HQ := Lib.hid hqe
    clear hqe hp
    go_wp2_with fail
    go_ret
    exact ⟨ret_b (by unfold consR; rw [HO.out, Bool.true_and]; exact HQ.out), B_w3⟩

theorem cyc_zero : cycR 0 [] = [] := by
  have := cycR_nil (N := 0) (es := []) rfl
  simpa using this
theorem conf_all (n : Int) (es : List GL) : confR n es = (cycR (grN n es) (grE n es)).map (fun q => (grI n es)[q.toNat]?.getD 0) := by
  unfold confR grN grE grI
  cases h : okS n es with
  | true => simp
  | false => simp [cyc_zero]
theorem cyc_all_in {n : Int} {es : List GL} {q : Int} (hq : q ∈ cycR (grN n es) (grE n es)) : 0 ≤ q ∧ q < (grI n es).length := by
  cases h : okS n es with
  | true =>
    rw [grN_yes h, grE_yes h] at hq
    rw [grI_yes h, (gE_len80 h).2]
    exact cycR_in h hq
  | false =>
    rw [grN_no h, grE_no h, cyc_zero] at hq
    simp at hq

end Go.Proofs.Yteppmlepbfjnpaa

