/-
  WALKS of spec.CellOf and impl.CellOf.
-/
import Derived.Test.YtdjaiijgdflopaaTbC
namespace Go.Proofs.Ytdjaiijgdflopaa
open Go.RowKit
set_option linter.unusedVariables false
set_option linter.unusedSimpArgs false

theorem cellR_no {n : Int} {cs : List Int} {i k : Int} (h : ¬ (okT n cs = true ∧ (0 ≤ i ∧ i < n) ∧ (0 ≤ k ∧ k < n))) : cellR n cs i k = 0 := by unfold cellR; rw [if_neg h]
theorem cellR_at {N i k : Nat} {cs : List Int} (h : okT N cs = true) (hi : i < N) (hk : k < N) : cellR N cs i k = atT N cs i k := by
  unfold cellR; rw [if_pos ⟨h, by omega, by omega⟩]; simp

set_option maxRecDepth 100000 in
set_option maxHeartbeats 2000000 in
theorem spec_CellOf (n : Int) (zs : List Int) (A : Option Addr) (k c : Nat) (x y : Int) (w : World) (hn : zs.length = k) (hk : k ≤ 1048576) (hr : RowAt w A (zs.map intV)) :
    Calls Try.prog 31 #[grV n A k c, .int .i64 x, .int .i64 y] w fun e w' => e = .returned (.int .i64 (cellR n zs x y)) ∧ Below w.heap.size w w' := by
  have HT := Lib.hid (fun W h => spec_TableOk n zs A k c W hn hk h)
  have HR := Lib.hid hr
  have HL := Lib.hid hn
  clear hr hn
  obtain ⟨ok, hok⟩ : ∃ b, b = okT n zs := ⟨_, rfl⟩
  rw [← hok] at HT
  have HO := Lib.hid hok.symm
  clear hok
  unfold grV at HT ⊢
  cases ok with
  | false =>
    go_enter Try.func31, Try.ntmps31
    go_wp2_with fail
    refine (HT.out _ (HR.out.below (by repeat (first | exact Below.refl _ _ | refine below_step (by assumption) (by first | omega | (simp; done) | (simp; omega)) ?_ | refine below_drewN ?_ _ | refine Below.drew ?_ | refine Below.setCell ?_ (by first | omega | (simp; done) | (simp; omega)) _ | refine Below.alloc ?_ (by first | omega | (simp; done) | (simp; omega)) _)))).mono ?_
    rintro e w1 ⟨rfl, b1⟩
    go_wp2_with fail
    go_ret
    exact ⟨ret_i (cellR_no (by rw [HO.out]; simp)).symm, (by repeat (first | exact Below.refl _ _ | refine below_step (by assumption) (by first | omega | (simp; done) | (simp; omega)) ?_ | refine below_drewN ?_ _ | refine Below.drew ?_ | refine Below.setCell ?_ (by first | omega | (simp; done) | (simp; omega)) _ | refine Below.alloc ?_ (by first | omega | (simp; done) | (simp; omega)) _))⟩
  | true =>
    have hrg := okT_rng HO.out
    obtain ⟨N, rfl⟩ : ∃ N : Nat, n = N := ⟨n.toNat, by omega⟩
    have hN8 : N ≤ 8 := by omega
    have hkN : k = N * N := by have h1 := hrg.2.2; have h2 := HL.out; rw [h2] at h1; exact_mod_cast h1
    have HKN := Lib.hid hkN
    clear hrg hkN
    have hx := l01In_any x 0 ((N : Int) - 1)
    have hy := l01In_any y 0 ((N : Int) - 1)
    by_cases hx0 : 0 ≤ x ∧ x < N
    · rw [show (decide ((0 : Int) ≤ x) && decide (x ≤ (N : Int) - 1)) = true from by simp; omega] at hx
      obtain ⟨i, rfl⟩ : ∃ i : Nat, x = i := ⟨x.toNat, by omega⟩
      have hiN : i < N := by omega
      have HX := Lib.hid hx
      clear hx hx0
      by_cases hy0 : 0 ≤ y ∧ y < N
      · rw [show (decide ((0 : Int) ≤ y) && decide (y ≤ (N : Int) - 1)) = true from by simp; omega] at hy
        obtain ⟨j, rfl⟩ : ∃ j : Nat, y = j := ⟨y.toNat, by omega⟩
        have hjN : j < N := by omega
        have HY := Lib.hid hy
        have HAT := Lib.hid (fun W h => l04At_any N i j zs A k c W hN8 hiN hjN HL.out HKN.out h)
        unfold grV at HAT
        clear hy hy0
        go_enter Try.func31, Try.ntmps31
        go_wp2_with fail
        refine (HT.out _ (HR.out.below (by repeat (first | exact Below.refl _ _ | refine below_step (by assumption) (by first | omega | (simp; done) | (simp; omega)) ?_ | refine below_drewN ?_ _ | refine Below.drew ?_ | refine Below.setCell ?_ (by first | omega | (simp; done) | (simp; omega)) _ | refine Below.alloc ?_ (by first | omega | (simp; done) | (simp; omega)) _)))).mono ?_
        rintro e w1 ⟨rfl, b1⟩
        have ka1 : w1.cell? ⟨w.heap.size, 0, none⟩ = some (.int .i64 N) := (b1.cell (p := ⟨w.heap.size, 0, none⟩) (by first | omega | (simp; done) | (simp; omega))).trans (by first | assumption | go_simp)
        have kb1 : w1.cell? ⟨w.heap.size, 1, none⟩ = some (.slice A k c) := (b1.cell (p := ⟨w.heap.size, 1, none⟩) (by first | omega | (simp; done) | (simp; omega))).trans (by first | assumption | go_simp)
        have B1 : Below w.heap.size w w1 := (by repeat (first | exact Below.refl _ _ | refine below_step (by assumption) (by first | omega | (simp; done) | (simp; omega)) ?_ | refine below_drewN ?_ _ | refine Below.drew ?_ | refine Below.setCell ?_ (by first | omega | (simp; done) | (simp; omega)) _ | refine Below.alloc ?_ (by first | omega | (simp; done) | (simp; omega)) _))
        clear b1
        go_wp2_with (first | (go_at_call_of 72 (Value.int .i64 i); refine (HX.out _).mono ?_; rintro e w2 ⟨rfl, rfl⟩) | (go_at_call_of 72 (Value.int .i64 j); refine (HY.out _).mono ?_; rintro e w3 ⟨rfl, rfl⟩) | (go_at_call 75; refine (HAT.out _ (HR.out.below B1)).mono ?_; rintro e w4 ⟨rfl, b4⟩))
        go_ret
        exact ⟨ret_i (cellR_at HO.out hiN hjN).symm, B1.trans (b4.mono B1.size)⟩
      · rw [show (decide ((0 : Int) ≤ y) && decide (y ≤ (N : Int) - 1)) = false from by simp; omega] at hy
        have HY := Lib.hid hy
        have HC := Lib.hid (cellR_no (n := (N : Int)) (cs := zs) (i := (i : Int)) (k := y) (by intro h; omega))
        clear hy hy0
        go_enter Try.func31, Try.ntmps31
        go_wp2_with fail
        refine (HT.out _ (HR.out.below (by repeat (first | exact Below.refl _ _ | refine below_step (by assumption) (by first | omega | (simp; done) | (simp; omega)) ?_ | refine below_drewN ?_ _ | refine Below.drew ?_ | refine Below.setCell ?_ (by first | omega | (simp; done) | (simp; omega)) _ | refine Below.alloc ?_ (by first | omega | (simp; done) | (simp; omega)) _)))).mono ?_
        rintro e w1 ⟨rfl, b1⟩
        have ka1 : w1.cell? ⟨w.heap.size, 0, none⟩ = some (.int .i64 N) := (b1.cell (p := ⟨w.heap.size, 0, none⟩) (by first | omega | (simp; done) | (simp; omega))).trans (by first | assumption | go_simp)
        have B1 : Below w.heap.size w w1 := (by repeat (first | exact Below.refl _ _ | refine below_step (by assumption) (by first | omega | (simp; done) | (simp; omega)) ?_ | refine below_drewN ?_ _ | refine Below.drew ?_ | refine Below.setCell ?_ (by first | omega | (simp; done) | (simp; omega)) _ | refine Below.alloc ?_ (by first | omega | (simp; done) | (simp; omega)) _))
        clear b1
        go_wp2_with (first | (go_at_call_of 72 (Value.int .i64 i); refine (HX.out _).mono ?_; rintro e w2 ⟨rfl, rfl⟩) | (go_at_call_of 72 (Value.int .i64 y); refine (HY.out _).mono ?_; rintro e w3 ⟨rfl, rfl⟩))
        go_ret
        exact ⟨ret_i HC.out.symm, B1⟩
    · rw [show (decide ((0 : Int) ≤ x) && decide (x ≤ (N : Int) - 1)) = false from by simp; omega] at hx
      have HX := Lib.hid hx
      have HC := Lib.hid (cellR_no (n := (N : Int)) (cs := zs) (i := x) (k := y) (by intro h; omega))
      clear hx hx0 hy
      go_enter Try.func31, Try.ntmps31
      go_wp2_with fail
      refine (HT.out _ (HR.out.below (by repeat (first | exact Below.refl _ _ | refine below_step (by assumption) (by first | omega | (simp; done) | (simp; omega)) ?_ | refine below_drewN ?_ _ | refine Below.drew ?_ | refine Below.setCell ?_ (by first | omega | (simp; done) | (simp; omega)) _ | refine Below.alloc ?_ (by first | omega | (simp; done) | (simp; omega)) _)))).mono ?_
      rintro e w1 ⟨rfl, b1⟩
      have ka1 : w1.cell? ⟨w.heap.size, 0, none⟩ = some (.int .i64 N) := (b1.cell (p := ⟨w.heap.size, 0, none⟩) (by first | omega | (simp; done) | (simp; omega))).trans (by first | assumption | go_simp)
      have B1 : Below w.heap.size w w1 := (by repeat (first | exact Below.refl _ _ | refine below_step (by assumption) (by first | omega | (simp; done) | (simp; omega)) ?_ | refine below_drewN ?_ _ | refine Below.drew ?_ | refine Below.setCell ?_ (by first | omega | (simp; done) | (simp; omega)) _ | refine Below.alloc ?_ (by first | omega | (simp; done) | (simp; omega)) _))
      clear b1
      go_wp2_with (go_at_call 72; refine (HX.out _).mono ?_; rintro e w2 ⟨rfl, rfl⟩)
      go_ret
      exact ⟨ret_i HC.out.symm, B1⟩
set_option maxRecDepth 100000 in
set_option maxHeartbeats 2000000 in
theorem impl_CellOf (n : Int) (zs : List Int) (A : Option Addr) (k c : Nat) (x y : Int) (w : World) (hn : zs.length = k) (hk : k ≤ 1048576) (hr : RowAt w A (zs.map intV)) :
    Calls Try.prog 17 #[grV n A k c, .int .i64 x, .int .i64 y] w fun e w' => e = .returned (.int .i64 (cellR n zs x y)) ∧ Below w.heap.size w w' := by
  have HT := Lib.hid (fun W h => impl_TableOk n zs A k c W hn hk h)
  have HR := Lib.hid hr
  have HL := Lib.hid hn
  clear hr hn
  obtain ⟨ok, hok⟩ : ∃ b, b = okT n zs := ⟨_, rfl⟩
  rw [← hok] at HT
  have HO := Lib.hid hok.symm
  clear hok
  unfold grV at HT ⊢
  cases ok with
  | false =>
    go_enter Try.func17, Try.ntmps17
    go_wp2_with fail
    refine (HT.out _ (HR.out.below (by repeat (first | exact Below.refl _ _ | refine below_step (by assumption) (by first | omega | (simp; done) | (simp; omega)) ?_ | refine below_drewN ?_ _ | refine Below.drew ?_ | refine Below.setCell ?_ (by first | omega | (simp; done) | (simp; omega)) _ | refine Below.alloc ?_ (by first | omega | (simp; done) | (simp; omega)) _)))).mono ?_
    rintro e w1 ⟨rfl, b1⟩
    go_wp2_with fail
    go_ret
    exact ⟨ret_i (cellR_no (by rw [HO.out]; simp)).symm, (by repeat (first | exact Below.refl _ _ | refine below_step (by assumption) (by first | omega | (simp; done) | (simp; omega)) ?_ | refine below_drewN ?_ _ | refine Below.drew ?_ | refine Below.setCell ?_ (by first | omega | (simp; done) | (simp; omega)) _ | refine Below.alloc ?_ (by first | omega | (simp; done) | (simp; omega)) _))⟩
  | true =>
    have hrg := okT_rng HO.out
    obtain ⟨N, rfl⟩ : ∃ N : Nat, n = N := ⟨n.toNat, by omega⟩
    have hN8 : N ≤ 8 := by omega
    have hkN : k = N * N := by have h1 := hrg.2.2; have h2 := HL.out; rw [h2] at h1; exact_mod_cast h1
    have HKN := Lib.hid hkN
    clear hrg hkN
    have hx := thasNode_any N A k c x
    have hy := thasNode_any N A k c y
    by_cases hx0 : 0 ≤ x ∧ x < N
    · rw [decide_eq_true hx0] at hx
      obtain ⟨i, rfl⟩ : ∃ i : Nat, x = i := ⟨x.toNat, by omega⟩
      have hiN : i < N := by omega
      have HX := Lib.hid hx
      clear hx hx0
      by_cases hy0 : 0 ≤ y ∧ y < N
      · rw [decide_eq_true hy0] at hy
        obtain ⟨j, rfl⟩ : ∃ j : Nat, y = j := ⟨y.toNat, by omega⟩
        have hjN : j < N := by omega
        have HY := Lib.hid hy
        have HAT := Lib.hid (fun W h => number_any N i j zs A k c W hN8 hiN hjN HL.out HKN.out h)
        unfold grV at HAT HX HY
        clear hy hy0
        go_enter Try.func17, Try.ntmps17
        go_wp2_with fail
        refine (HT.out _ (HR.out.below (by repeat (first | exact Below.refl _ _ | refine below_step (by assumption) (by first | omega | (simp; done) | (simp; omega)) ?_ | refine below_drewN ?_ _ | refine Below.drew ?_ | refine Below.setCell ?_ (by first | omega | (simp; done) | (simp; omega)) _ | refine Below.alloc ?_ (by first | omega | (simp; done) | (simp; omega)) _)))).mono ?_
        rintro e w1 ⟨rfl, b1⟩
        have ka_w1 : w1.cell? ⟨w.heap.size, 0, none⟩ = some (.int .i64 N) := (b1.cell (p := ⟨w.heap.size, 0, none⟩) (by first | omega | (simp; done) | (simp; omega))).trans (by first | assumption | go_simp); have kb_w1 : w1.cell? ⟨w.heap.size, 1, none⟩ = some (.slice A k c) := (b1.cell (p := ⟨w.heap.size, 1, none⟩) (by first | omega | (simp; done) | (simp; omega))).trans (by first | assumption | go_simp); have sz_w1 : w.heap.size < w1.heap.size := Nat.lt_of_lt_of_le (by first | omega | (simp; done) | (simp; omega)) b1.size; have B_w1 : Below w.heap.size w w1 := (by repeat (first | exact Below.refl _ _ | refine below_step (by assumption) (by first | omega | (simp; done) | (simp; omega)) ?_ | refine below_drewN ?_ _ | refine Below.drew ?_ | refine Below.setCell ?_ (by first | omega | (simp; done) | (simp; omega)) _ | refine Below.alloc ?_ (by first | omega | (simp; done) | (simp; omega)) _))
        clear b1
        go_wp2_with (first | (go_at_call_of 56 (Value.int .i64 i); refine (HX.out _).mono ?_; rintro e w2 ⟨rfl, b2⟩; have ka_w2 : w2.cell? ⟨w.heap.size, 0, none⟩ = some (.int .i64 N) := (b2.cell (p := ⟨w.heap.size, 0, none⟩) (by first | omega | (simp; done) | (simp; omega))).trans (by first | assumption | go_simp); have kb_w2 : w2.cell? ⟨w.heap.size, 1, none⟩ = some (.slice A k c) := (b2.cell (p := ⟨w.heap.size, 1, none⟩) (by first | omega | (simp; done) | (simp; omega))).trans (by first | assumption | go_simp); have sz_w2 : w.heap.size < w2.heap.size := Nat.lt_of_lt_of_le (by first | omega | (simp; done) | (simp; omega)) b2.size; have B_w2 : Below w.heap.size w w2 := (by repeat (first | exact Below.refl _ _ | refine below_step (by assumption) (by first | omega | (simp; done) | (simp; omega)) ?_ | refine below_drewN ?_ _ | refine Below.drew ?_ | refine Below.setCell ?_ (by first | omega | (simp; done) | (simp; omega)) _ | refine Below.alloc ?_ (by first | omega | (simp; done) | (simp; omega)) _))) | (go_at_call_of 56 (Value.int .i64 j); refine (HY.out _).mono ?_; rintro e w3 ⟨rfl, b3⟩; have ka_w3 : w3.cell? ⟨w.heap.size, 0, none⟩ = some (.int .i64 N) := (b3.cell (p := ⟨w.heap.size, 0, none⟩) (by first | omega | (simp; done) | (simp; omega))).trans (by first | assumption | go_simp); have kb_w3 : w3.cell? ⟨w.heap.size, 1, none⟩ = some (.slice A k c) := (b3.cell (p := ⟨w.heap.size, 1, none⟩) (by first | omega | (simp; done) | (simp; omega))).trans (by first | assumption | go_simp); have sz_w3 : w.heap.size < w3.heap.size := Nat.lt_of_lt_of_le (by first | omega | (simp; done) | (simp; omega)) b3.size; have B_w3 : Below w.heap.size w w3 := (by repeat (first | exact Below.refl _ _ | refine below_step (by assumption) (by first | omega | (simp; done) | (simp; omega)) ?_ | refine below_drewN ?_ _ | refine Below.drew ?_ | refine Below.setCell ?_ (by first | omega | (simp; done) | (simp; omega)) _ | refine Below.alloc ?_ (by first | omega | (simp; done) | (simp; omega)) _))) | (go_at_call 57; refine (HAT.out _ (HR.out.below (by assumption))).mono ?_; rintro e w4 ⟨rfl, b4⟩))
        go_ret
        exact ⟨ret_i (cellR_at HO.out hiN hjN).symm, by first | exact B_w3.trans (b4.mono B_w3.size) | exact B_w2.trans (b4.mono B_w2.size)⟩
      · rw [decide_eq_false hy0] at hy
        have HY := Lib.hid hy
        have HC := Lib.hid (cellR_no (n := (N : Int)) (cs := zs) (i := (i : Int)) (k := y) (by intro h; omega))
        unfold grV at HX HY
        clear hy hy0
        go_enter Try.func17, Try.ntmps17
        go_wp2_with fail
        refine (HT.out _ (HR.out.below (by repeat (first | exact Below.refl _ _ | refine below_step (by assumption) (by first | omega | (simp; done) | (simp; omega)) ?_ | refine below_drewN ?_ _ | refine Below.drew ?_ | refine Below.setCell ?_ (by first | omega | (simp; done) | (simp; omega)) _ | refine Below.alloc ?_ (by first | omega | (simp; done) | (simp; omega)) _)))).mono ?_
        rintro e w1 ⟨rfl, b1⟩
        have ka_w1 : w1.cell? ⟨w.heap.size, 0, none⟩ = some (.int .i64 N) := (b1.cell (p := ⟨w.heap.size, 0, none⟩) (by first | omega | (simp; done) | (simp; omega))).trans (by first | assumption | go_simp); have kb_w1 : w1.cell? ⟨w.heap.size, 1, none⟩ = some (.slice A k c) := (b1.cell (p := ⟨w.heap.size, 1, none⟩) (by first | omega | (simp; done) | (simp; omega))).trans (by first | assumption | go_simp); have sz_w1 : w.heap.size < w1.heap.size := Nat.lt_of_lt_of_le (by first | omega | (simp; done) | (simp; omega)) b1.size; have B_w1 : Below w.heap.size w w1 := (by repeat (first | exact Below.refl _ _ | refine below_step (by assumption) (by first | omega | (simp; done) | (simp; omega)) ?_ | refine below_drewN ?_ _ | refine Below.drew ?_ | refine Below.setCell ?_ (by first | omega | (simp; done) | (simp; omega)) _ | refine Below.alloc ?_ (by first | omega | (simp; done) | (simp; omega)) _))
        clear b1
        go_wp2_with (first | (go_at_call_of 56 (Value.int .i64 i); refine (HX.out _).mono ?_; rintro e w2 ⟨rfl, b2⟩; have ka_w2 : w2.cell? ⟨w.heap.size, 0, none⟩ = some (.int .i64 N) := (b2.cell (p := ⟨w.heap.size, 0, none⟩) (by first | omega | (simp; done) | (simp; omega))).trans (by first | assumption | go_simp); have kb_w2 : w2.cell? ⟨w.heap.size, 1, none⟩ = some (.slice A k c) := (b2.cell (p := ⟨w.heap.size, 1, none⟩) (by first | omega | (simp; done) | (simp; omega))).trans (by first | assumption | go_simp); have sz_w2 : w.heap.size < w2.heap.size := Nat.lt_of_lt_of_le (by first | omega | (simp; done) | (simp; omega)) b2.size; have B_w2 : Below w.heap.size w w2 := (by repeat (first | exact Below.refl _ _ | refine below_step (by assumption) (by first | omega | (simp; done) | (simp; omega)) ?_ | refine below_drewN ?_ _ | refine Below.drew ?_ | refine Below.setCell ?_ (by first | omega | (simp; done) | (simp; omega)) _ | refine Below.alloc ?_ (by first | omega | (simp; done) | (simp; omega)) _))) | (go_at_call_of 56 (Value.int .i64 y); refine (HY.out _).mono ?_; rintro e w3 ⟨rfl, b3⟩; have ka_w3 : w3.cell? ⟨w.heap.size, 0, none⟩ = some (.int .i64 N) := (b3.cell (p := ⟨w.heap.size, 0, none⟩) (by first | omega | (simp; done) | (simp; omega))).trans (by first | assumption | go_simp); have kb_w3 : w3.cell? ⟨w.heap.size, 1, none⟩ = some (.slice A k c) := (b3.cell (p := ⟨w.heap.size, 1, none⟩) (by first | omega | (simp; done) | (simp; omega))).trans (by first | assumption | go_simp); have sz_w3 : w.heap.size < w3.heap.size := Nat.lt_of_lt_of_le (by first | omega | (simp; done) | (simp; omega)) b3.size; have B_w3 : Below w.heap.size w w3 := (by repeat (first | exact Below.refl _ _ | refine below_step (by assumption) (by first | omega | (simp; done) | (simp; omega)) ?_ | refine below_drewN ?_ _ | refine Below.drew ?_ | refine Below.setCell ?_ (by first | omega | (simp; done) | (simp; omega)) _ | refine Below.alloc ?_ (by first | omega | (simp; done) | (simp; omega)) _))))
        go_ret
        exact ⟨ret_i HC.out.symm, by assumption⟩
    · rw [decide_eq_false hx0] at hx
      have HX := Lib.hid hx
      have HC := Lib.hid (cellR_no (n := (N : Int)) (cs := zs) (i := x) (k := y) (by intro h; omega))
      unfold grV at HX
      clear hx hx0 hy
      go_enter Try.func17, Try.ntmps17
      go_wp2_with fail
      refine (HT.out _ (HR.out.below (by repeat (first | exact Below.refl _ _ | refine below_step (by assumption) (by first | omega | (simp; done) | (simp; omega)) ?_ | refine below_drewN ?_ _ | refine Below.drew ?_ | refine Below.setCell ?_ (by first | omega | (simp; done) | (simp; omega)) _ | refine Below.alloc ?_ (by first | omega | (simp; done) | (simp; omega)) _)))).mono ?_
      rintro e w1 ⟨rfl, b1⟩
      have ka_w1 : w1.cell? ⟨w.heap.size, 0, none⟩ = some (.int .i64 N) := (b1.cell (p := ⟨w.heap.size, 0, none⟩) (by first | omega | (simp; done) | (simp; omega))).trans (by first | assumption | go_simp); have kb_w1 : w1.cell? ⟨w.heap.size, 1, none⟩ = some (.slice A k c) := (b1.cell (p := ⟨w.heap.size, 1, none⟩) (by first | omega | (simp; done) | (simp; omega))).trans (by first | assumption | go_simp); have sz_w1 : w.heap.size < w1.heap.size := Nat.lt_of_lt_of_le (by first | omega | (simp; done) | (simp; omega)) b1.size; have B_w1 : Below w.heap.size w w1 := (by repeat (first | exact Below.refl _ _ | refine below_step (by assumption) (by first | omega | (simp; done) | (simp; omega)) ?_ | refine below_drewN ?_ _ | refine Below.drew ?_ | refine Below.setCell ?_ (by first | omega | (simp; done) | (simp; omega)) _ | refine Below.alloc ?_ (by first | omega | (simp; done) | (simp; omega)) _))
      clear b1
      go_wp2_with (go_at_call_of 56 (Value.int .i64 x); refine (HX.out _).mono ?_; rintro e w2 ⟨rfl, b2⟩; have ka_w2 : w2.cell? ⟨w.heap.size, 0, none⟩ = some (.int .i64 N) := (b2.cell (p := ⟨w.heap.size, 0, none⟩) (by first | omega | (simp; done) | (simp; omega))).trans (by first | assumption | go_simp); have kb_w2 : w2.cell? ⟨w.heap.size, 1, none⟩ = some (.slice A k c) := (b2.cell (p := ⟨w.heap.size, 1, none⟩) (by first | omega | (simp; done) | (simp; omega))).trans (by first | assumption | go_simp); have sz_w2 : w.heap.size < w2.heap.size := Nat.lt_of_lt_of_le (by first | omega | (simp; done) | (simp; omega)) b2.size; have B_w2 : Below w.heap.size w w2 := (by repeat (first | exact Below.refl _ _ | refine below_step (by assumption) (by first | omega | (simp; done) | (simp; omega)) ?_ | refine below_drewN ?_ _ | refine Below.drew ?_ | refine Below.setCell ?_ (by first | omega | (simp; done) | (simp; omega)) _ | refine Below.alloc ?_ (by first | omega | (simp; done) | (simp; omega)) _)))
      go_ret
      exact ⟨ret_i HC.out.symm, by assumption⟩

end Go.Proofs.Ytdjaiijgdflopaa
