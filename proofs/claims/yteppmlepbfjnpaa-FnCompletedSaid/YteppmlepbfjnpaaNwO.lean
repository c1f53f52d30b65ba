/-
  WALKS of impl.admits and impl.SimpleOk.
-/
import Derived.Test.YteppmlepbfjnpaaBdIvOk
namespace Go.Proofs.Yteppmlepbfjnpaa
open Go.RowKit
set_option linter.unusedVariables false
set_option linter.unusedSimpArgs false

/-- A network's value: its graph and where the edges come from. -/
def nwV (n : Int) (A : Option Addr) (k c : Nat) (D : Option Addr) (q cd : Nat) : Value := .agg #[.int .i64 n, .slice A k c, .slice D q cd]

set_option maxRecDepth 100000 in
set_option maxHeartbeats 2000000 in
theorem admits_any (n : Int) (A : Option Addr) (k c : Nat) (D : Option Addr) (q cd : Nat) (f t l h : Int) (w : World) :
    Calls Try.prog 50 #[nwV n A k c D q cd, .agg #[.int .i64 f, .int .i64 t, .int .i64 l, .int .i64 h]] w fun e w' => e = .returned (.bool (okL n ⟨f, t, l, h⟩)) ∧ Below w.heap.size w w' := by
  obtain ⟨bu, hbu⟩ : ∃ b, b = decide (0 ≤ f ∧ f < n) := ⟨_, rfl⟩
  obtain ⟨bv, hbv⟩ : ∃ b, b = decide (0 ≤ t ∧ t < n) := ⟨_, rfl⟩
  obtain ⟨bc, hbc⟩ : ∃ b, b = okI l h := ⟨_, rfl⟩
  have hcu := hasNode_any n A k c f
  have hcv := hasNode_any n A k c t
  have hcc := impl_IntervalOk_below l h
  have hok : okL n ⟨f, t, l, h⟩ = (bu && bv && bc) := by rw [hbu, hbv, hbc]; rfl
  rw [hok]
  rw [← hbu] at hcu
  rw [← hbv] at hcv
  rw [← hbc] at hcc
  unfold grV at hcu hcv
  unfold ivV at hcc
  have HU := Lib.hid hcu
  have HV := Lib.hid hcv
  have HC := Lib.hid hcc
  clear hcu hcv hcc hbu hbv hbc hok
  unfold nwV
  cases bu with
  | false =>
    go_enter Try.func50, Try.ntmps50
    go_wp2_with fail
    refine (HU.out _).mono ?_
    rintro e w2 ⟨rfl, bw2⟩
    have c0_w2 : w2.cell? ⟨w.heap.size, 0, none⟩ = some (.int .i64 n) := (bw2.cell (p := ⟨w.heap.size, 0, none⟩) (by first | omega | (simp; done) | (simp; omega))).trans (by first | assumption | go_simp)
    have c1_w2 : w2.cell? ⟨w.heap.size, 1, none⟩ = some (.slice A k c) := (bw2.cell (p := ⟨w.heap.size, 1, none⟩) (by first | omega | (simp; done) | (simp; omega))).trans (by first | assumption | go_simp)
    have c2_w2 : w2.cell? ⟨w.heap.size + 1, 0, none⟩ = some (.int .i64 f) := (bw2.cell (p := ⟨w.heap.size + 1, 0, none⟩) (by first | omega | (simp; done) | (simp; omega))).trans (by first | assumption | go_simp)
    have c3_w2 : w2.cell? ⟨w.heap.size + 1, 1, none⟩ = some (.int .i64 t) := (bw2.cell (p := ⟨w.heap.size + 1, 1, none⟩) (by first | omega | (simp; done) | (simp; omega))).trans (by first | assumption | go_simp)
    have c4_w2 : w2.cell? ⟨w.heap.size + 1, 2, none⟩ = some (.int .i64 l) := (bw2.cell (p := ⟨w.heap.size + 1, 2, none⟩) (by first | omega | (simp; done) | (simp; omega))).trans (by first | assumption | go_simp)
    have c5_w2 : w2.cell? ⟨w.heap.size + 1, 3, none⟩ = some (.int .i64 h) := (bw2.cell (p := ⟨w.heap.size + 1, 3, none⟩) (by first | omega | (simp; done) | (simp; omega))).trans (by first | assumption | go_simp)
    have s_w2 : w.heap.size + 1 < w2.heap.size := Nat.lt_of_lt_of_le (by first | omega | (simp; done) | (simp; omega)) bw2.size
    have B_w2 : Below w.heap.size w w2 := (by repeat (first | exact Below.refl _ _ | refine below_step (by assumption) (by first | omega | (simp; done) | (simp; omega)) ?_ | refine below_drewN ?_ _ | refine Below.drew ?_ | refine Below.setCell ?_ (by first | omega | (simp; done) | (simp; omega)) _ | refine Below.alloc ?_ (by first | omega | (simp; done) | (simp; omega)) _))
    clear bw2
    go_wp2_with fail
    go_ret
    exact ⟨rfl, (by repeat (first | exact Below.refl _ _ | refine below_step (by assumption) (by first | omega | (simp; done) | (simp; omega)) ?_ | refine below_drewN ?_ _ | refine Below.drew ?_ | refine Below.setCell ?_ (by first | omega | (simp; done) | (simp; omega)) _ | refine Below.alloc ?_ (by first | omega | (simp; done) | (simp; omega)) _))⟩
  | true =>
    cases bv with
    | false =>
      go_enter Try.func50, Try.ntmps50
      go_wp2_with fail
      refine (HU.out _).mono ?_
      rintro e w2 ⟨rfl, bw2⟩
      have c0_w2 : w2.cell? ⟨w.heap.size, 0, none⟩ = some (.int .i64 n) := (bw2.cell (p := ⟨w.heap.size, 0, none⟩) (by first | omega | (simp; done) | (simp; omega))).trans (by first | assumption | go_simp)
      have c1_w2 : w2.cell? ⟨w.heap.size, 1, none⟩ = some (.slice A k c) := (bw2.cell (p := ⟨w.heap.size, 1, none⟩) (by first | omega | (simp; done) | (simp; omega))).trans (by first | assumption | go_simp)
      have c2_w2 : w2.cell? ⟨w.heap.size + 1, 0, none⟩ = some (.int .i64 f) := (bw2.cell (p := ⟨w.heap.size + 1, 0, none⟩) (by first | omega | (simp; done) | (simp; omega))).trans (by first | assumption | go_simp)
      have c3_w2 : w2.cell? ⟨w.heap.size + 1, 1, none⟩ = some (.int .i64 t) := (bw2.cell (p := ⟨w.heap.size + 1, 1, none⟩) (by first | omega | (simp; done) | (simp; omega))).trans (by first | assumption | go_simp)
      have c4_w2 : w2.cell? ⟨w.heap.size + 1, 2, none⟩ = some (.int .i64 l) := (bw2.cell (p := ⟨w.heap.size + 1, 2, none⟩) (by first | omega | (simp; done) | (simp; omega))).trans (by first | assumption | go_simp)
      have c5_w2 : w2.cell? ⟨w.heap.size + 1, 3, none⟩ = some (.int .i64 h) := (bw2.cell (p := ⟨w.heap.size + 1, 3, none⟩) (by first | omega | (simp; done) | (simp; omega))).trans (by first | assumption | go_simp)
      have s_w2 : w.heap.size + 1 < w2.heap.size := Nat.lt_of_lt_of_le (by first | omega | (simp; done) | (simp; omega)) bw2.size
      have B_w2 : Below w.heap.size w w2 := (by repeat (first | exact Below.refl _ _ | refine below_step (by assumption) (by first | omega | (simp; done) | (simp; omega)) ?_ | refine below_drewN ?_ _ | refine Below.drew ?_ | refine Below.setCell ?_ (by first | omega | (simp; done) | (simp; omega)) _ | refine Below.alloc ?_ (by first | omega | (simp; done) | (simp; omega)) _))
      clear bw2
      go_wp2_with fail
      refine (HV.out _).mono ?_
      rintro e w3 ⟨rfl, bw3⟩
      have c0_w3 : w3.cell? ⟨w.heap.size, 0, none⟩ = some (.int .i64 n) := (bw3.cell (p := ⟨w.heap.size, 0, none⟩) (by first | omega | (simp; done) | (simp; omega))).trans (by first | assumption | go_simp)
      have c1_w3 : w3.cell? ⟨w.heap.size, 1, none⟩ = some (.slice A k c) := (bw3.cell (p := ⟨w.heap.size, 1, none⟩) (by first | omega | (simp; done) | (simp; omega))).trans (by first | assumption | go_simp)
      have c2_w3 : w3.cell? ⟨w.heap.size + 1, 0, none⟩ = some (.int .i64 f) := (bw3.cell (p := ⟨w.heap.size + 1, 0, none⟩) (by first | omega | (simp; done) | (simp; omega))).trans (by first | assumption | go_simp)
      have c3_w3 : w3.cell? ⟨w.heap.size + 1, 1, none⟩ = some (.int .i64 t) := (bw3.cell (p := ⟨w.heap.size + 1, 1, none⟩) (by first | omega | (simp; done) | (simp; omega))).trans (by first | assumption | go_simp)
      have c4_w3 : w3.cell? ⟨w.heap.size + 1, 2, none⟩ = some (.int .i64 l) := (bw3.cell (p := ⟨w.heap.size + 1, 2, none⟩) (by first | omega | (simp; done) | (simp; omega))).trans (by first | assumption | go_simp)
      have c5_w3 : w3.cell? ⟨w.heap.size + 1, 3, none⟩ = some (.int .i64 h) := (bw3.cell (p := ⟨w.heap.size + 1, 3, none⟩) (by first | omega | (simp; done) | (simp; omega))).trans (by first | assumption | go_simp)
      have s_w3 : w.heap.size + 1 < w3.heap.size := Nat.lt_of_lt_of_le (by first | omega | (simp; done) | (simp; omega)) bw3.size
      have B_w3 : Below w.heap.size w w3 := (by repeat (first | exact Below.refl _ _ | refine below_step (by assumption) (by first | omega | (simp; done) | (simp; omega)) ?_ | refine below_drewN ?_ _ | refine Below.drew ?_ | refine Below.setCell ?_ (by first | omega | (simp; done) | (simp; omega)) _ | refine Below.alloc ?_ (by first | omega | (simp; done) | (simp; omega)) _))
      clear bw3
      clear c0_w2 c1_w2 c2_w2 c3_w2 c4_w2 c5_w2 s_w2 B_w2
      go_wp2_with fail
      go_ret
      exact ⟨rfl, (by repeat (first | exact Below.refl _ _ | refine below_step (by assumption) (by first | omega | (simp; done) | (simp; omega)) ?_ | refine below_drewN ?_ _ | refine Below.drew ?_ | refine Below.setCell ?_ (by first | omega | (simp; done) | (simp; omega)) _ | refine Below.alloc ?_ (by first | omega | (simp; done) | (simp; omega)) _))⟩
    | true =>
      cases bc with
      | false =>
        go_enter Try.func50, Try.ntmps50
        go_wp2_with fail
        refine (HU.out _).mono ?_
        rintro e w2 ⟨rfl, bw2⟩
        have c0_w2 : w2.cell? ⟨w.heap.size, 0, none⟩ = some (.int .i64 n) := (bw2.cell (p := ⟨w.heap.size, 0, none⟩) (by first | omega | (simp; done) | (simp; omega))).trans (by first | assumption | go_simp)
        have c1_w2 : w2.cell? ⟨w.heap.size, 1, none⟩ = some (.slice A k c) := (bw2.cell (p := ⟨w.heap.size, 1, none⟩) (by first | omega | (simp; done) | (simp; omega))).trans (by first | assumption | go_simp)
        have c2_w2 : w2.cell? ⟨w.heap.size + 1, 0, none⟩ = some (.int .i64 f) := (bw2.cell (p := ⟨w.heap.size + 1, 0, none⟩) (by first | omega | (simp; done) | (simp; omega))).trans (by first | assumption | go_simp)
        have c3_w2 : w2.cell? ⟨w.heap.size + 1, 1, none⟩ = some (.int .i64 t) := (bw2.cell (p := ⟨w.heap.size + 1, 1, none⟩) (by first | omega | (simp; done) | (simp; omega))).trans (by first | assumption | go_simp)
        have c4_w2 : w2.cell? ⟨w.heap.size + 1, 2, none⟩ = some (.int .i64 l) := (bw2.cell (p := ⟨w.heap.size + 1, 2, none⟩) (by first | omega | (simp; done) | (simp; omega))).trans (by first | assumption | go_simp)
        have c5_w2 : w2.cell? ⟨w.heap.size + 1, 3, none⟩ = some (.int .i64 h) := (bw2.cell (p := ⟨w.heap.size + 1, 3, none⟩) (by first | omega | (simp; done) | (simp; omega))).trans (by first | assumption | go_simp)
        have s_w2 : w.heap.size + 1 < w2.heap.size := Nat.lt_of_lt_of_le (by first | omega | (simp; done) | (simp; omega)) bw2.size
        have B_w2 : Below w.heap.size w w2 := (by repeat (first | exact Below.refl _ _ | refine below_step (by assumption) (by first | omega | (simp; done) | (simp; omega)) ?_ | refine below_drewN ?_ _ | refine Below.drew ?_ | refine Below.setCell ?_ (by first | omega | (simp; done) | (simp; omega)) _ | refine Below.alloc ?_ (by first | omega | (simp; done) | (simp; omega)) _))
        clear bw2
        go_wp2_with fail
        refine (HV.out _).mono ?_
        rintro e w3 ⟨rfl, bw3⟩
        have c0_w3 : w3.cell? ⟨w.heap.size, 0, none⟩ = some (.int .i64 n) := (bw3.cell (p := ⟨w.heap.size, 0, none⟩) (by first | omega | (simp; done) | (simp; omega))).trans (by first | assumption | go_simp)
        have c1_w3 : w3.cell? ⟨w.heap.size, 1, none⟩ = some (.slice A k c) := (bw3.cell (p := ⟨w.heap.size, 1, none⟩) (by first | omega | (simp; done) | (simp; omega))).trans (by first | assumption | go_simp)
        have c2_w3 : w3.cell? ⟨w.heap.size + 1, 0, none⟩ = some (.int .i64 f) := (bw3.cell (p := ⟨w.heap.size + 1, 0, none⟩) (by first | omega | (simp; done) | (simp; omega))).trans (by first | assumption | go_simp)
        have c3_w3 : w3.cell? ⟨w.heap.size + 1, 1, none⟩ = some (.int .i64 t) := (bw3.cell (p := ⟨w.heap.size + 1, 1, none⟩) (by first | omega | (simp; done) | (simp; omega))).trans (by first | assumption | go_simp)
        have c4_w3 : w3.cell? ⟨w.heap.size + 1, 2, none⟩ = some (.int .i64 l) := (bw3.cell (p := ⟨w.heap.size + 1, 2, none⟩) (by first | omega | (simp; done) | (simp; omega))).trans (by first | assumption | go_simp)
        have c5_w3 : w3.cell? ⟨w.heap.size + 1, 3, none⟩ = some (.int .i64 h) := (bw3.cell (p := ⟨w.heap.size + 1, 3, none⟩) (by first | omega | (simp; done) | (simp; omega))).trans (by first | assumption | go_simp)
        have s_w3 : w.heap.size + 1 < w3.heap.size := Nat.lt_of_lt_of_le (by first | omega | (simp; done) | (simp; omega)) bw3.size
        have B_w3 : Below w.heap.size w w3 := (by repeat (first | exact Below.refl _ _ | refine below_step (by assumption) (by first | omega | (simp; done) | (simp; omega)) ?_ | refine below_drewN ?_ _ | refine Below.drew ?_ | refine Below.setCell ?_ (by first | omega | (simp; done) | (simp; omega)) _ | refine Below.alloc ?_ (by first | omega | (simp; done) | (simp; omega)) _))
        clear bw3
        clear c0_w2 c1_w2 c2_w2 c3_w2 c4_w2 c5_w2 s_w2 B_w2
        go_wp2_with fail
        refine (HC.out _).mono ?_
        rintro e w4 ⟨rfl, b4⟩
        go_wp2_with fail
        go_ret
        exact ⟨rfl, (by repeat (first | exact Below.refl _ _ | refine below_step (by assumption) (by first | omega | (simp; done) | (simp; omega)) ?_ | refine below_drewN ?_ _ | refine Below.drew ?_ | refine Below.setCell ?_ (by first | omega | (simp; done) | (simp; omega)) _ | refine Below.alloc ?_ (by first | omega | (simp; done) | (simp; omega)) _))⟩
      | true =>
        go_enter Try.func50, Try.ntmps50
        go_wp2_with fail
        refine (HU.out _).mono ?_
        rintro e w2 ⟨rfl, bw2⟩
        have c0_w2 : w2.cell? ⟨w.heap.size, 0, none⟩ = some (.int .i64 n) := (bw2.cell (p := ⟨w.heap.size, 0, none⟩) (by first | omega | (simp; done) | (simp; omega))).trans (by first | assumption | go_simp)
        have c1_w2 : w2.cell? ⟨w.heap.size, 1, none⟩ = some (.slice A k c) := (bw2.cell (p := ⟨w.heap.size, 1, none⟩) (by first | omega | (simp; done) | (simp; omega))).trans (by first | assumption | go_simp)
        have c2_w2 : w2.cell? ⟨w.heap.size + 1, 0, none⟩ = some (.int .i64 f) := (bw2.cell (p := ⟨w.heap.size + 1, 0, none⟩) (by first | omega | (simp; done) | (simp; omega))).trans (by first | assumption | go_simp)
        have c3_w2 : w2.cell? ⟨w.heap.size + 1, 1, none⟩ = some (.int .i64 t) := (bw2.cell (p := ⟨w.heap.size + 1, 1, none⟩) (by first | omega | (simp; done) | (simp; omega))).trans (by first | assumption | go_simp)
        have c4_w2 : w2.cell? ⟨w.heap.size + 1, 2, none⟩ = some (.int .i64 l) := (bw2.cell (p := ⟨w.heap.size + 1, 2, none⟩) (by first | omega | (simp; done) | (simp; omega))).trans (by first | assumption | go_simp)
        have c5_w2 : w2.cell? ⟨w.heap.size + 1, 3, none⟩ = some (.int .i64 h) := (bw2.cell (p := ⟨w.heap.size + 1, 3, none⟩) (by first | omega | (simp; done) | (simp; omega))).trans (by first | assumption | go_simp)
        have s_w2 : w.heap.size + 1 < w2.heap.size := Nat.lt_of_lt_of_le (by first | omega | (simp; done) | (simp; omega)) bw2.size
        have B_w2 : Below w.heap.size w w2 := (by repeat (first | exact Below.refl _ _ | refine below_step (by assumption) (by first | omega | (simp; done) | (simp; omega)) ?_ | refine below_drewN ?_ _ | refine Below.drew ?_ | refine Below.setCell ?_ (by first | omega | (simp; done) | (simp; omega)) _ | refine Below.alloc ?_ (by first | omega | (simp; done) | (simp; omega)) _))
        clear bw2
        go_wp2_with fail
        refine (HV.out _).mono ?_
        rintro e w3 ⟨rfl, bw3⟩
        have c0_w3 : w3.cell? ⟨w.heap.size, 0, none⟩ = some (.int .i64 n) := (bw3.cell (p := ⟨w.heap.size, 0, none⟩) (by first | omega | (simp; done) | (simp; omega))).trans (by first | assumption | go_simp)
        have c1_w3 : w3.cell? ⟨w.heap.size, 1, none⟩ = some (.slice A k c) := (bw3.cell (p := ⟨w.heap.size, 1, none⟩) (by first | omega | (simp; done) | (simp; omega))).trans (by first | assumption | go_simp)
        have c2_w3 : w3.cell? ⟨w.heap.size + 1, 0, none⟩ = some (.int .i64 f) := (bw3.cell (p := ⟨w.heap.size + 1, 0, none⟩) (by first | omega | (simp; done) | (simp; omega))).trans (by first | assumption | go_simp)
        have c3_w3 : w3.cell? ⟨w.heap.size + 1, 1, none⟩ = some (.int .i64 t) := (bw3.cell (p := ⟨w.heap.size + 1, 1, none⟩) (by first | omega | (simp; done) | (simp; omega))).trans (by first | assumption | go_simp)
        have c4_w3 : w3.cell? ⟨w.heap.size + 1, 2, none⟩ = some (.int .i64 l) := (bw3.cell (p := ⟨w.heap.size + 1, 2, none⟩) (by first | omega | (simp; done) | (simp; omega))).trans (by first | assumption | go_simp)
        have c5_w3 : w3.cell? ⟨w.heap.size + 1, 3, none⟩ = some (.int .i64 h) := (bw3.cell (p := ⟨w.heap.size + 1, 3, none⟩) (by first | omega | (simp; done) | (simp; omega))).trans (by first | assumption | go_simp)
        have s_w3 : w.heap.size + 1 < w3.heap.size := Nat.lt_of_lt_of_le (by first | omega | (simp; done) | (simp; omega)) bw3.size
        have B_w3 : Below w.heap.size w w3 := (by repeat (first | exact Below.refl _ _ | refine below_step (by assumption) (by first | omega | (simp; done) | (simp; omega)) ?_ | refine below_drewN ?_ _ | refine Below.drew ?_ | refine Below.setCell ?_ (by first | omega | (simp; done) | (simp; omega)) _ | refine Below.alloc ?_ (by first | omega | (simp; done) | (simp; omega)) _))
        clear bw3
        clear c0_w2 c1_w2 c2_w2 c3_w2 c4_w2 c5_w2 s_w2 B_w2
        go_wp2_with fail
        refine (HC.out _).mono ?_
        rintro e w4 ⟨rfl, b4⟩
        go_wp2_with fail
        go_ret
        exact ⟨rfl, (by repeat (first | exact Below.refl _ _ | refine below_step (by assumption) (by first | omega | (simp; done) | (simp; omega)) ?_ | refine below_drewN ?_ _ | refine Below.drew ?_ | refine Below.setCell ?_ (by first | omega | (simp; done) | (simp; omega)) _ | refine Below.alloc ?_ (by first | omega | (simp; done) | (simp; omega)) _))⟩

set_option maxRecDepth 100000 in
set_option maxHeartbeats 2000000 in
theorem impl_SimpleOk (n : Int) (es : List GL) (A : Option Addr) (k c : Nat) (w : World) (hn : es.length = k) (hm : k ≤ 1048576) (hr : LinkAt w A es) :
    Calls Try.prog 15 #[grV n A k c] w fun e w' => e = .returned (.bool (okS n es)) ∧ Below w.heap.size w w' := by
  unfold grV
  have HR := Lib.hid hr
  have HL := Lib.hid hn
  have HAD := Lib.hid (fun f t l h W => admits_any n none 0 0 none 0 0 f t l h W)
  unfold nwV at HAD
  clear hr hn
  by_cases h1 : n < 1
  · go_enter Try.func15, Try.ntmps15
    go_wp2_with fail
    go_ret
    exact ⟨ret_b (okS_big n es (by omega)).symm, (by repeat (first | exact Below.refl _ _ | refine below_step (by assumption) (by first | omega | (simp; done) | (simp; omega)) ?_ | refine below_drewN ?_ _ | refine Below.drew ?_ | refine Below.setCell ?_ (by first | omega | (simp; done) | (simp; omega)) _ | refine Below.alloc ?_ (by first | omega | (simp; done) | (simp; omega)) _))⟩
  · by_cases h8 : 8 < n
    · have h1' : ¬ (n < 1) := h1
      go_enter Try.func15, Try.ntmps15
      go_wp2_with fail
      go_ret
      exact ⟨ret_b (okS_big n es (by omega)).symm, (by repeat (first | exact Below.refl _ _ | refine below_step (by assumption) (by first | omega | (simp; done) | (simp; omega)) ?_ | refine below_drewN ?_ _ | refine Below.drew ?_ | refine Below.setCell ?_ (by first | omega | (simp; done) | (simp; omega)) _ | refine Below.alloc ?_ (by first | omega | (simp; done) | (simp; omega)) _))⟩
    · by_cases h40 : k ≤ 40
      · have hk40 : ¬ ((40 : Int) < k) := by omega
        go_enter Try.func15, Try.ntmps15
        go_wp2_with fail
        go_loopw [27] (fun i wr => ∃ j : Nat, j ≤ k ∧ i = .int .i64 j ∧ (es.take j).all (okL n) = true ∧ wr.cell? ⟨w.heap.size + 1, 0, none⟩ = some (.int .i64 n) ∧ wr.cell? ⟨w.heap.size + 1, 1, none⟩ = some (.slice none 0 0) ∧ wr.cell? ⟨w.heap.size + 1, 2, none⟩ = some (.slice none 0 0) ∧ Below w.heap.size w wr ∧ w.heap.size + 1 < wr.heap.size) (fun i _ => k - (intOf i).toNat)
        case atStart => exact ⟨0, Nat.zero_le _, rfl, rfl, by go_simp, by go_simp, by go_simp, (by repeat (first | exact Below.refl _ _ | refine below_step (by assumption) (by first | omega | (simp; done) | (simp; omega)) ?_ | refine below_drewN ?_ _ | refine Below.drew ?_ | refine Below.setCell ?_ (by first | omega | (simp; done) | (simp; omega)) _ | refine Below.alloc ?_ (by first | omega | (simp; done) | (simp; omega)) _)), by simp⟩
        case round =>
          obtain ⟨j, hj, rfl, hall, hc0, hc1', hc2', hbw, hsz⟩ := hrel
          have HA := Lib.hid hall
          clear hall
          by_cases hlt : j < k
          · have hl := HL.out
            obtain ⟨g, o, rfl, hg, hc⟩ := HR.out (by omega)
            have hc1 := hc j (by omega)
            have HK1 := Lib.hid (allL_take_of es (okL n) j (by omega) HA.out)
            have HK2 := Lib.hid (okS_not n es j (by omega))
            obtain ⟨e, he⟩ : ∃ e, e = es[j]'(by omega) := ⟨_, rfl⟩
            rw [← he] at hc1 HK1 HK2
            obtain ⟨c0, c1, c2, c3⟩ := hc1
            have k0 := (hbw.cell (p := ⟨g, o + j * 4, none⟩) hg).trans c0
            have k1 := (hbw.cell (p := ⟨g, o + j * 4 + 1, none⟩) hg).trans c1
            have k2 := (hbw.cell (p := ⟨g, o + j * 4 + 2, none⟩) hg).trans c2
            have k3 := (hbw.cell (p := ⟨g, o + j * 4 + 3, none⟩) hg).trans c3
            have ng : (w.heap.size = wr.heap.size) = False := eq_false (by omega)
            have ng2 : (wr.heap.size = w.heap.size) = False := eq_false (by omega)
            have ng3 : (w.heap.size + 1 = wr.heap.size) = False := eq_false (by omega)
            have ng4 : (wr.heap.size = w.heap.size + 1) = False := eq_false (by omega)
            clear hc c0 c1 c2 c3 he hl
            obtain ⟨u, v, lo, hi⟩ := e
            dsimp only at k0 k1 k2 k3
            obtain ⟨b, hb⟩ : ∃ b, b = okL n ⟨u, v, lo, hi⟩ := ⟨_, rfl⟩
            have hcc := HAD.out u v lo hi
            rw [← hb] at hcc HK1 HK2
            have HC := Lib.hid hcc
            clear hcc hb
            go_wp2_with fail
            refine (HC.out _).mono ?_
            rintro e w2 ⟨rfl, b2⟩
            have q0 : w2.cell? ⟨w.heap.size + 1, 0, none⟩ = some (.int .i64 n) := (b2.cell (p := ⟨w.heap.size + 1, 0, none⟩) (by first | omega | (simp; done) | (simp; omega))).trans (by first | assumption | go_simp)
            have q1 : w2.cell? ⟨w.heap.size + 1, 1, none⟩ = some (.slice none 0 0) := (b2.cell (p := ⟨w.heap.size + 1, 1, none⟩) (by first | omega | (simp; done) | (simp; omega))).trans (by first | assumption | go_simp)
            have q2 : w2.cell? ⟨w.heap.size + 1, 2, none⟩ = some (.slice none 0 0) := (b2.cell (p := ⟨w.heap.size + 1, 2, none⟩) (by first | omega | (simp; done) | (simp; omega))).trans (by first | assumption | go_simp)
            have s2 : w.heap.size + 1 < w2.heap.size := Nat.lt_of_lt_of_le (by first | omega | (simp; done) | (simp; omega)) b2.size
            have B2 : Below w.heap.size w w2 := (by repeat (first | exact Below.refl _ _ | refine below_step (by assumption) (by first | omega | (simp; done) | (simp; omega)) ?_ | refine below_drewN ?_ _ | refine Below.drew ?_ | refine Below.setCell ?_ (by first | omega | (simp; done) | (simp; omega)) _ | refine Below.alloc ?_ (by first | omega | (simp; done) | (simp; omega)) _))
            clear b2
            cases b with
            | false =>
              go_wp2_with fail
              go_ret
              exact ⟨ret_b (HK2.out (by simp)).symm, B2⟩
            | true =>
              go_wp2_with fail
              go_roundw
              case rel => exact ⟨j + 1, by omega, by go_num, HK1.out (by simp), q0, q1, q2, B2, s2⟩
              case measure => simp [intOf]; omega
          · go_wp2_with fail
            go_ret
            have hl := HL.out
            exact ⟨ret_b (okS_all n es (by omega) (by have := HA.out; rw [show j = es.length from by omega] at this; exact this)).symm, hbw⟩
      · have hk40 : ((40 : Int) < k) := by omega
        go_enter Try.func15, Try.ntmps15
        go_wp2_with fail
        go_ret
        exact ⟨ret_b (okS_big n es (by have := HL.out; omega)).symm, (by repeat (first | exact Below.refl _ _ | refine below_step (by assumption) (by first | omega | (simp; done) | (simp; omega)) ?_ | refine below_drewN ?_ _ | refine Below.drew ?_ | refine Below.setCell ?_ (by first | omega | (simp; done) | (simp; omega)) _ | refine Below.alloc ?_ (by first | omega | (simp; done) | (simp; omega)) _))⟩

end Go.Proofs.Yteppmlepbfjnpaa

