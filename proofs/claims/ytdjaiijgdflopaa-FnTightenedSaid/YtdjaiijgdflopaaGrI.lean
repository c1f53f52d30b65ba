/-
  WALK of impl.GraphOk: a graph that is one.
-/
import Derived.Test.YtdjaiijgdflopaaGrO
namespace Go.Proofs.Ytdjaiijgdflopaa
open Go.RowKit
set_option linter.unusedVariables false
set_option linter.unusedSimpArgs false

set_option maxRecDepth 100000 in
set_option maxHeartbeats 2000000 in
theorem impl_GraphOk (n : Int) (es : List GE) (A : Option Addr) (k c : Nat) (w : World) (hn : es.length = k) (hm : k ≤ 1048576) (hr : EdgeAt w A es) :
    Calls Try.prog 16 #[grV n A k c] w fun e w' => e = .returned (.bool (okG n es)) ∧ Below w.heap.size w w' := by
  have HND := Lib.hid (hasNode_any n A k c)
  unfold grV at HND ⊢
  have HR := Lib.hid hr
  have HL := Lib.hid hn
  clear hr hn
  by_cases h0 : 0 ≤ n
  · by_cases h8 : n ≤ 8
    · by_cases h80 : k ≤ 80
      · have hk80 : ¬ ((80 : Int) < k) := by omega
        have hn8 : ¬ (8 < n) := by omega
        have hn0 : ¬ (n < 0) := by omega
        go_enter Try.func16, Try.ntmps16
        go_wp2_with fail
        go_loopw [22] (fun i wr => ∃ j : Nat, j ≤ k ∧ i = .int .i64 j ∧ (es.take j).all (okE n) = true ∧ wr.cell? ⟨w.heap.size, 0, none⟩ = some (.int .i64 n) ∧ wr.cell? ⟨w.heap.size, 1, none⟩ = some (.slice A k c) ∧ Below w.heap.size w wr ∧ w.heap.size < wr.heap.size) (fun i _ => k - (intOf i).toNat)
        case atStart => exact ⟨0, Nat.zero_le _, rfl, rfl, by go_simp, by go_simp, (by repeat (first | exact Below.refl _ _ | refine below_step (by assumption) (by first | omega | (simp; done) | (simp; omega)) ?_ | refine below_drewN ?_ _ | refine Below.drew ?_ | refine Below.setCell ?_ (by first | omega | (simp; done) | (simp; omega)) _ | refine Below.alloc ?_ (by first | omega | (simp; done) | (simp; omega)) _)), by simp⟩
        case round =>
          obtain ⟨j, hj, rfl, hall, hcn, hca, hbw, hsz⟩ := hrel
          have HA := Lib.hid hall
          clear hall
          by_cases hlt : j < k
          · have hl := HL.out
            obtain ⟨g, o, rfl, hg, hc⟩ := HR.out (by omega)
            have hc1 := hc j (by omega)
            have HK1 := Lib.hid (all_take_of es (okE n) j (by omega) HA.out)
            have HK2 := Lib.hid (okG_not n es j (by omega))
            obtain ⟨e, he⟩ : ∃ e, e = es[j]'(by omega) := ⟨_, rfl⟩
            rw [← he] at hc1 HK1 HK2
            obtain ⟨c0, c1, c2⟩ := hc1
            have k0 := (hbw.cell (p := ⟨g, o + j * 3, none⟩) hg).trans c0
            have k1 := (hbw.cell (p := ⟨g, o + j * 3 + 1, none⟩) hg).trans c1
            have k2 := (hbw.cell (p := ⟨g, o + j * 3 + 2, none⟩) hg).trans c2
            have ng : (w.heap.size = wr.heap.size) = False := eq_false (by omega)
            have ng2 : (wr.heap.size = w.heap.size) = False := eq_false (by omega)
            clear hc c0 c1 c2 he hl
            obtain ⟨u, v, cc⟩ := e
            dsimp only at k0 k1 k2
            obtain ⟨bu, hbu⟩ : ∃ b, b = decide (0 ≤ u ∧ u < n) := ⟨_, rfl⟩
            obtain ⟨bv, hbv⟩ : ∃ b, b = decide (0 ≤ v ∧ v < n) := ⟨_, rfl⟩
            have hcu := fun W => HND.out u W
            have hcv := fun W => HND.out v W
            rw [← hbu] at hcu
            rw [← hbv] at hcv
            have HU := Lib.hid hcu
            have HV := Lib.hid hcv
            have hok : okE n ⟨u, v, cc⟩ = (bu && bv && decide (-1000000 < cc ∧ cc < 1000000)) := by
              rw [hbu, hbv]; rfl
            rw [hok] at HK1 HK2
            clear hcu hcv hbu hbv hok
            cases bu with
            | false =>
              go_wp2_with (first | (go_at_call_of 55 (Value.int .i64 u); refine (HU.out _).mono ?_; rintro x w2 ⟨rfl, b2⟩))
              go_ret
              exact ⟨ret_b (HK2.out rfl).symm, (by repeat (first | exact Below.refl _ _ | refine below_step (by assumption) (by first | omega | (simp; done) | (simp; omega)) ?_ | refine below_drewN ?_ _ | refine Below.drew ?_ | refine Below.setCell ?_ (by first | omega | (simp; done) | (simp; omega)) _ | refine Below.alloc ?_ (by first | omega | (simp; done) | (simp; omega)) _))⟩
            | true =>
              cases bv with
              | false =>
                go_wp2_with (first | (go_at_call_of 55 (Value.int .i64 u); refine (HU.out _).mono ?_; rintro x w2 ⟨rfl, b2⟩; have kA_w2 : w2.cell? ⟨w.heap.size, 0, none⟩ = some (.int .i64 n) := (b2.cell (p := ⟨w.heap.size, 0, none⟩) (by first | omega | (simp; done) | (simp; omega))).trans (by first | assumption | go_simp); have kB_w2 : w2.cell? ⟨w.heap.size, 1, none⟩ = some (.slice (some ⟨g, o, none⟩) k c) := (b2.cell (p := ⟨w.heap.size, 1, none⟩) (by first | omega | (simp; done) | (simp; omega))).trans (by first | assumption | go_simp); have kC_w2 : w2.cell? ⟨wr.heap.size, 1, none⟩ = some (.int .i64 v) := (b2.cell (p := ⟨wr.heap.size, 1, none⟩) (by first | omega | (simp; done) | (simp; omega))).trans (by first | assumption | go_simp); have kD_w2 : w2.cell? ⟨wr.heap.size, 2, none⟩ = some (.int .i64 cc) := (b2.cell (p := ⟨wr.heap.size, 2, none⟩) (by first | omega | (simp; done) | (simp; omega))).trans (by first | assumption | go_simp); have s_w2 : w.heap.size < w2.heap.size := Nat.lt_of_lt_of_le (by first | omega | (simp; done) | (simp; omega)) b2.size; have t_w2 : wr.heap.size < w2.heap.size := Nat.lt_of_lt_of_le (by first | omega | (simp; done) | (simp; omega)) b2.size) | (go_at_call_of 55 (Value.int .i64 v); refine (HV.out _).mono ?_; rintro x w3 ⟨rfl, b3⟩; have kA_w3 : w3.cell? ⟨w.heap.size, 0, none⟩ = some (.int .i64 n) := (b3.cell (p := ⟨w.heap.size, 0, none⟩) (by first | omega | (simp; done) | (simp; omega))).trans (by first | assumption | go_simp); have kB_w3 : w3.cell? ⟨w.heap.size, 1, none⟩ = some (.slice (some ⟨g, o, none⟩) k c) := (b3.cell (p := ⟨w.heap.size, 1, none⟩) (by first | omega | (simp; done) | (simp; omega))).trans (by first | assumption | go_simp); have kC_w3 : w3.cell? ⟨wr.heap.size, 1, none⟩ = some (.int .i64 v) := (b3.cell (p := ⟨wr.heap.size, 1, none⟩) (by first | omega | (simp; done) | (simp; omega))).trans (by first | assumption | go_simp); have kD_w3 : w3.cell? ⟨wr.heap.size, 2, none⟩ = some (.int .i64 cc) := (b3.cell (p := ⟨wr.heap.size, 2, none⟩) (by first | omega | (simp; done) | (simp; omega))).trans (by first | assumption | go_simp); have s_w3 : w.heap.size < w3.heap.size := Nat.lt_of_lt_of_le (by first | omega | (simp; done) | (simp; omega)) b3.size; have t_w3 : wr.heap.size < w3.heap.size := Nat.lt_of_lt_of_le (by first | omega | (simp; done) | (simp; omega)) b3.size))
                go_ret
                exact ⟨ret_b (HK2.out rfl).symm, (by repeat (first | exact Below.refl _ _ | refine below_step (by assumption) (by first | omega | (simp; done) | (simp; omega)) ?_ | refine below_drewN ?_ _ | refine Below.drew ?_ | refine Below.setCell ?_ (by first | omega | (simp; done) | (simp; omega)) _ | refine Below.alloc ?_ (by first | omega | (simp; done) | (simp; omega)) _))⟩
              | true =>
                by_cases hlo : cc ≤ -1000000
                · go_wp2_with (first | (go_at_call_of 55 (Value.int .i64 u); refine (HU.out _).mono ?_; rintro x w2 ⟨rfl, b2⟩; have kA_w2 : w2.cell? ⟨w.heap.size, 0, none⟩ = some (.int .i64 n) := (b2.cell (p := ⟨w.heap.size, 0, none⟩) (by first | omega | (simp; done) | (simp; omega))).trans (by first | assumption | go_simp); have kB_w2 : w2.cell? ⟨w.heap.size, 1, none⟩ = some (.slice (some ⟨g, o, none⟩) k c) := (b2.cell (p := ⟨w.heap.size, 1, none⟩) (by first | omega | (simp; done) | (simp; omega))).trans (by first | assumption | go_simp); have kC_w2 : w2.cell? ⟨wr.heap.size, 1, none⟩ = some (.int .i64 v) := (b2.cell (p := ⟨wr.heap.size, 1, none⟩) (by first | omega | (simp; done) | (simp; omega))).trans (by first | assumption | go_simp); have kD_w2 : w2.cell? ⟨wr.heap.size, 2, none⟩ = some (.int .i64 cc) := (b2.cell (p := ⟨wr.heap.size, 2, none⟩) (by first | omega | (simp; done) | (simp; omega))).trans (by first | assumption | go_simp); have s_w2 : w.heap.size < w2.heap.size := Nat.lt_of_lt_of_le (by first | omega | (simp; done) | (simp; omega)) b2.size; have t_w2 : wr.heap.size < w2.heap.size := Nat.lt_of_lt_of_le (by first | omega | (simp; done) | (simp; omega)) b2.size) | (go_at_call_of 55 (Value.int .i64 v); refine (HV.out _).mono ?_; rintro x w3 ⟨rfl, b3⟩; have kA_w3 : w3.cell? ⟨w.heap.size, 0, none⟩ = some (.int .i64 n) := (b3.cell (p := ⟨w.heap.size, 0, none⟩) (by first | omega | (simp; done) | (simp; omega))).trans (by first | assumption | go_simp); have kB_w3 : w3.cell? ⟨w.heap.size, 1, none⟩ = some (.slice (some ⟨g, o, none⟩) k c) := (b3.cell (p := ⟨w.heap.size, 1, none⟩) (by first | omega | (simp; done) | (simp; omega))).trans (by first | assumption | go_simp); have kC_w3 : w3.cell? ⟨wr.heap.size, 1, none⟩ = some (.int .i64 v) := (b3.cell (p := ⟨wr.heap.size, 1, none⟩) (by first | omega | (simp; done) | (simp; omega))).trans (by first | assumption | go_simp); have kD_w3 : w3.cell? ⟨wr.heap.size, 2, none⟩ = some (.int .i64 cc) := (b3.cell (p := ⟨wr.heap.size, 2, none⟩) (by first | omega | (simp; done) | (simp; omega))).trans (by first | assumption | go_simp); have s_w3 : w.heap.size < w3.heap.size := Nat.lt_of_lt_of_le (by first | omega | (simp; done) | (simp; omega)) b3.size; have t_w3 : wr.heap.size < w3.heap.size := Nat.lt_of_lt_of_le (by first | omega | (simp; done) | (simp; omega)) b3.size))
                  go_ret
                  exact ⟨ret_b (HK2.out (by simp; omega)).symm, (by repeat (first | exact Below.refl _ _ | refine below_step (by assumption) (by first | omega | (simp; done) | (simp; omega)) ?_ | refine below_drewN ?_ _ | refine Below.drew ?_ | refine Below.setCell ?_ (by first | omega | (simp; done) | (simp; omega)) _ | refine Below.alloc ?_ (by first | omega | (simp; done) | (simp; omega)) _))⟩
                · have hlo2 : ¬ (cc ≤ -1000000) := hlo
                  by_cases hhi : 1000000 ≤ cc
                  · go_wp2_with (first | (go_at_call_of 55 (Value.int .i64 u); refine (HU.out _).mono ?_; rintro x w2 ⟨rfl, b2⟩; have kA_w2 : w2.cell? ⟨w.heap.size, 0, none⟩ = some (.int .i64 n) := (b2.cell (p := ⟨w.heap.size, 0, none⟩) (by first | omega | (simp; done) | (simp; omega))).trans (by first | assumption | go_simp); have kB_w2 : w2.cell? ⟨w.heap.size, 1, none⟩ = some (.slice (some ⟨g, o, none⟩) k c) := (b2.cell (p := ⟨w.heap.size, 1, none⟩) (by first | omega | (simp; done) | (simp; omega))).trans (by first | assumption | go_simp); have kC_w2 : w2.cell? ⟨wr.heap.size, 1, none⟩ = some (.int .i64 v) := (b2.cell (p := ⟨wr.heap.size, 1, none⟩) (by first | omega | (simp; done) | (simp; omega))).trans (by first | assumption | go_simp); have kD_w2 : w2.cell? ⟨wr.heap.size, 2, none⟩ = some (.int .i64 cc) := (b2.cell (p := ⟨wr.heap.size, 2, none⟩) (by first | omega | (simp; done) | (simp; omega))).trans (by first | assumption | go_simp); have s_w2 : w.heap.size < w2.heap.size := Nat.lt_of_lt_of_le (by first | omega | (simp; done) | (simp; omega)) b2.size; have t_w2 : wr.heap.size < w2.heap.size := Nat.lt_of_lt_of_le (by first | omega | (simp; done) | (simp; omega)) b2.size) | (go_at_call_of 55 (Value.int .i64 v); refine (HV.out _).mono ?_; rintro x w3 ⟨rfl, b3⟩; have kA_w3 : w3.cell? ⟨w.heap.size, 0, none⟩ = some (.int .i64 n) := (b3.cell (p := ⟨w.heap.size, 0, none⟩) (by first | omega | (simp; done) | (simp; omega))).trans (by first | assumption | go_simp); have kB_w3 : w3.cell? ⟨w.heap.size, 1, none⟩ = some (.slice (some ⟨g, o, none⟩) k c) := (b3.cell (p := ⟨w.heap.size, 1, none⟩) (by first | omega | (simp; done) | (simp; omega))).trans (by first | assumption | go_simp); have kC_w3 : w3.cell? ⟨wr.heap.size, 1, none⟩ = some (.int .i64 v) := (b3.cell (p := ⟨wr.heap.size, 1, none⟩) (by first | omega | (simp; done) | (simp; omega))).trans (by first | assumption | go_simp); have kD_w3 : w3.cell? ⟨wr.heap.size, 2, none⟩ = some (.int .i64 cc) := (b3.cell (p := ⟨wr.heap.size, 2, none⟩) (by first | omega | (simp; done) | (simp; omega))).trans (by first | assumption | go_simp); have s_w3 : w.heap.size < w3.heap.size := Nat.lt_of_lt_of_le (by first | omega | (simp; done) | (simp; omega)) b3.size; have t_w3 : wr.heap.size < w3.heap.size := Nat.lt_of_lt_of_le (by first | omega | (simp; done) | (simp; omega)) b3.size))
                    go_ret
                    exact ⟨ret_b (HK2.out (by simp; omega)).symm, (by repeat (first | exact Below.refl _ _ | refine below_step (by assumption) (by first | omega | (simp; done) | (simp; omega)) ?_ | refine below_drewN ?_ _ | refine Below.drew ?_ | refine Below.setCell ?_ (by first | omega | (simp; done) | (simp; omega)) _ | refine Below.alloc ?_ (by first | omega | (simp; done) | (simp; omega)) _))⟩
                  · go_wp2_with (first | (go_at_call_of 55 (Value.int .i64 u); refine (HU.out _).mono ?_; rintro x w2 ⟨rfl, b2⟩; have kA_w2 : w2.cell? ⟨w.heap.size, 0, none⟩ = some (.int .i64 n) := (b2.cell (p := ⟨w.heap.size, 0, none⟩) (by first | omega | (simp; done) | (simp; omega))).trans (by first | assumption | go_simp); have kB_w2 : w2.cell? ⟨w.heap.size, 1, none⟩ = some (.slice (some ⟨g, o, none⟩) k c) := (b2.cell (p := ⟨w.heap.size, 1, none⟩) (by first | omega | (simp; done) | (simp; omega))).trans (by first | assumption | go_simp); have kC_w2 : w2.cell? ⟨wr.heap.size, 1, none⟩ = some (.int .i64 v) := (b2.cell (p := ⟨wr.heap.size, 1, none⟩) (by first | omega | (simp; done) | (simp; omega))).trans (by first | assumption | go_simp); have kD_w2 : w2.cell? ⟨wr.heap.size, 2, none⟩ = some (.int .i64 cc) := (b2.cell (p := ⟨wr.heap.size, 2, none⟩) (by first | omega | (simp; done) | (simp; omega))).trans (by first | assumption | go_simp); have s_w2 : w.heap.size < w2.heap.size := Nat.lt_of_lt_of_le (by first | omega | (simp; done) | (simp; omega)) b2.size; have t_w2 : wr.heap.size < w2.heap.size := Nat.lt_of_lt_of_le (by first | omega | (simp; done) | (simp; omega)) b2.size) | (go_at_call_of 55 (Value.int .i64 v); refine (HV.out _).mono ?_; rintro x w3 ⟨rfl, b3⟩; have kA_w3 : w3.cell? ⟨w.heap.size, 0, none⟩ = some (.int .i64 n) := (b3.cell (p := ⟨w.heap.size, 0, none⟩) (by first | omega | (simp; done) | (simp; omega))).trans (by first | assumption | go_simp); have kB_w3 : w3.cell? ⟨w.heap.size, 1, none⟩ = some (.slice (some ⟨g, o, none⟩) k c) := (b3.cell (p := ⟨w.heap.size, 1, none⟩) (by first | omega | (simp; done) | (simp; omega))).trans (by first | assumption | go_simp); have kC_w3 : w3.cell? ⟨wr.heap.size, 1, none⟩ = some (.int .i64 v) := (b3.cell (p := ⟨wr.heap.size, 1, none⟩) (by first | omega | (simp; done) | (simp; omega))).trans (by first | assumption | go_simp); have kD_w3 : w3.cell? ⟨wr.heap.size, 2, none⟩ = some (.int .i64 cc) := (b3.cell (p := ⟨wr.heap.size, 2, none⟩) (by first | omega | (simp; done) | (simp; omega))).trans (by first | assumption | go_simp); have s_w3 : w.heap.size < w3.heap.size := Nat.lt_of_lt_of_le (by first | omega | (simp; done) | (simp; omega)) b3.size; have t_w3 : wr.heap.size < w3.heap.size := Nat.lt_of_lt_of_le (by first | omega | (simp; done) | (simp; omega)) b3.size))
                    go_roundw
                    case rel => exact ⟨j + 1, by omega, by go_num, HK1.out (by simp; omega), by first | assumption | go_simp, by first | assumption | go_simp, (by repeat (first | exact Below.refl _ _ | refine below_step (by assumption) (by first | omega | (simp; done) | (simp; omega)) ?_ | refine below_drewN ?_ _ | refine Below.drew ?_ | refine Below.setCell ?_ (by first | omega | (simp; done) | (simp; omega)) _ | refine Below.alloc ?_ (by first | omega | (simp; done) | (simp; omega)) _)), (by first | omega | (simp; done) | (simp; omega))⟩
                    case measure => simp [intOf]; omega
          · go_wp2_with fail
            go_ret
            have hl := HL.out
            exact ⟨ret_b (okG_all n es (by omega) (by have := HA.out; rw [show j = es.length from by omega] at this; exact this)).symm, (by repeat (first | exact Below.refl _ _ | refine below_step (by assumption) (by first | omega | (simp; done) | (simp; omega)) ?_ | refine below_drewN ?_ _ | refine Below.drew ?_ | refine Below.setCell ?_ (by first | omega | (simp; done) | (simp; omega)) _ | refine Below.alloc ?_ (by first | omega | (simp; done) | (simp; omega)) _))⟩
      · have hk80 : ((80 : Int) < k) := by omega
        have hn8 : ¬ (8 < n) := by omega
        have hn0 : ¬ (n < 0) := by omega
        go_enter Try.func16, Try.ntmps16
        go_wp2_with fail
        go_ret
        exact ⟨ret_b (okG_big n es (by have := HL.out; omega)).symm, (by repeat (first | exact Below.refl _ _ | refine below_step (by assumption) (by first | omega | (simp; done) | (simp; omega)) ?_ | refine below_drewN ?_ _ | refine Below.drew ?_ | refine Below.setCell ?_ (by first | omega | (simp; done) | (simp; omega)) _ | refine Below.alloc ?_ (by first | omega | (simp; done) | (simp; omega)) _))⟩
    · have hn8 : (8 < n) := by omega
      have hn0 : ¬ (n < 0) := by omega
      go_enter Try.func16, Try.ntmps16
      go_wp2_with fail
      go_ret
      exact ⟨ret_b (okG_big n es (by omega)).symm, (by repeat (first | exact Below.refl _ _ | refine below_step (by assumption) (by first | omega | (simp; done) | (simp; omega)) ?_ | refine below_drewN ?_ _ | refine Below.drew ?_ | refine Below.setCell ?_ (by first | omega | (simp; done) | (simp; omega)) _ | refine Below.alloc ?_ (by first | omega | (simp; done) | (simp; omega)) _))⟩
  · have hn0 : (n < 0) := by omega
    go_enter Try.func16, Try.ntmps16
    go_wp2_with fail
    go_ret
    exact ⟨ret_b (okG_big n es (by omega)).symm, (by repeat (first | exact Below.refl _ _ | refine below_step (by assumption) (by first | omega | (simp; done) | (simp; omega)) ?_ | refine below_drewN ?_ _ | refine Below.drew ?_ | refine Below.setCell ?_ (by first | omega | (simp; done) | (simp; omega)) _ | refine Below.alloc ?_ (by first | omega | (simp; done) | (simp; omega)) _))⟩

end Go.Proofs.Ytdjaiijgdflopaa
