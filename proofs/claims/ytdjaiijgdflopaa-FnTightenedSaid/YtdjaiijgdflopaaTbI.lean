/-
  WALK of spec.IsClosed.
-/
import Derived.Test.YtdjaiijgdflopaaGdG
namespace Go.Proofs.Ytdjaiijgdflopaa
open Go.RowKit
set_option linter.unusedVariables false
set_option linter.unusedSimpArgs false

set_option maxRecDepth 100000 in
set_option maxHeartbeats 4000000 in
theorem spec_IsClosed (n : Int) (zs : List Int) (A : Option Addr) (k c : Nat) (w : World) (hn : zs.length = k) (hk : k ≤ 1048576) (hr : RowAt w A (zs.map intV)) :
    Calls Try.prog 39 #[grV n A k c] w fun e w' => e = .returned (.bool (closedR n zs)) ∧ Below w.heap.size w w' := by
  have HT := Lib.hid (fun W h => spec_TableOk n zs A k c W hn hk h)
  have HR := Lib.hid hr
  have HL := Lib.hid hn
  clear hr hn
  obtain ⟨ok, hok⟩ : ∃ b, b = okT n zs := ⟨_, rfl⟩
  rw [← hok] at HT
  have HO := Lib.hid hok.symm
  clear hok
  cases ok with
  | false =>
    unfold grV at HT ⊢
    go_enter Try.func39, Try.ntmps39
    go_wp2_with fail
    refine (HT.out _ (HR.out.below (by repeat (first | exact Below.refl _ _ | refine below_step (by assumption) (by first | omega | (simp; done) | (simp; omega)) ?_ | refine below_drewN ?_ _ | refine Below.drew ?_ | refine Below.setCell ?_ (by first | omega | (simp; done) | (simp; omega)) _ | refine Below.alloc ?_ (by first | omega | (simp; done) | (simp; omega)) _)))).mono ?_
    rintro e w1 ⟨rfl, b1⟩
    go_wp2_with fail
    go_ret
    exact ⟨ret_b (closedR_no HO.out).symm, (by repeat (first | exact Below.refl _ _ | refine below_step (by assumption) (by first | omega | (simp; done) | (simp; omega)) ?_ | refine below_drewN ?_ _ | refine Below.drew ?_ | refine Below.setCell ?_ (by first | omega | (simp; done) | (simp; omega)) _ | refine Below.alloc ?_ (by first | omega | (simp; done) | (simp; omega)) _))⟩
  | true =>
    have hrg := okT_rng HO.out
    obtain ⟨N, rfl⟩ : ∃ N : Nat, n = N := ⟨n.toNat, by omega⟩
    have hN8 : N ≤ 8 := by omega
    have hkN : k = N * N := by have h1 := hrg.2.2; have h2 := HL.out; rw [h2] at h1; exact_mod_cast h1
    have HAT := Lib.hid (fun (a b : Nat) W ha hb h => l04At_any N a b zs A k c W hN8 ha hb HL.out hkN h)
    have HCI := Lib.hid (closed_iff HO.out)
    unfold grV at HT HAT ⊢
    clear hrg hkN
    go_enter Try.func39, Try.ntmps39
    go_wp2_with fail
    refine (HT.out _ (HR.out.below (by repeat (first | exact Below.refl _ _ | refine below_step (by assumption) (by first | omega | (simp; done) | (simp; omega)) ?_ | refine below_drewN ?_ _ | refine Below.drew ?_ | refine Below.setCell ?_ (by first | omega | (simp; done) | (simp; omega)) _ | refine Below.alloc ?_ (by first | omega | (simp; done) | (simp; omega)) _)))).mono ?_
    rintro e w1 ⟨rfl, b1⟩
    have ka1 : w1.cell? ⟨w.heap.size, 0, none⟩ = some (.int .i64 N) := (b1.cell (p := ⟨w.heap.size, 0, none⟩) (by first | omega | (simp; done) | (simp; omega))).trans (by first | assumption | go_simp)
    have kb1 : w1.cell? ⟨w.heap.size, 1, none⟩ = some (.slice A k c) := (b1.cell (p := ⟨w.heap.size, 1, none⟩) (by first | omega | (simp; done) | (simp; omega))).trans (by first | assumption | go_simp)
    have sz1 : w.heap.size < w1.heap.size := Nat.lt_of_lt_of_le (by first | omega | (simp; done) | (simp; omega)) b1.size
    have B1 : Below w.heap.size w w1 := (by repeat (first | exact Below.refl _ _ | refine below_step (by assumption) (by first | omega | (simp; done) | (simp; omega)) ?_ | refine below_drewN ?_ _ | refine Below.drew ?_ | refine Below.setCell ?_ (by first | omega | (simp; done) | (simp; omega)) _ | refine Below.alloc ?_ (by first | omega | (simp; done) | (simp; omega)) _))
    clear b1
    go_wp2_with fail
    go_loopw [3] (fun i wr => ∃ q : Nat, q ≤ N ∧ i = .int .i64 q ∧ (∀ a, a < q → ∀ b, b < N → ∀ d, d < N → atT N zs a d ≤ addI (atT N zs a b) (atT N zs b d)) ∧ wr.cell? ⟨w.heap.size, 0, none⟩ = some (.int .i64 N) ∧ wr.cell? ⟨w.heap.size, 1, none⟩ = some (.slice A k c) ∧ w.heap.size < wr.heap.size ∧ Below w.heap.size w wr) (fun i _ => N - (intOf i).toNat)
    case atStart => exact ⟨0, Nat.zero_le _, rfl, fun a ha => by omega, ka1, kb1, sz1, B1⟩
    case round =>
      obtain ⟨i, hi, rfl, hall, ka, kb, hsz, hbw⟩ := hrel
      have HA1 := Lib.hid hall
      clear hall ka1 kb1 sz1 B1
      by_cases hiN : i < N
      · go_wp2_with fail
        go_loopw [4] (fun i2 wr => ∃ q : Nat, q ≤ N ∧ i2 = .int .i64 q ∧ (∀ b, b < q → ∀ d, d < N → atT N zs i d ≤ addI (atT N zs i b) (atT N zs b d)) ∧ wr.cell? ⟨w.heap.size, 0, none⟩ = some (.int .i64 N) ∧ wr.cell? ⟨w.heap.size, 1, none⟩ = some (.slice A k c) ∧ w.heap.size < wr.heap.size ∧ Below w.heap.size w wr) (fun i2 _ => N - (intOf i2).toNat)
        case atStart => exact ⟨0, Nat.zero_le _, rfl, fun a ha => by omega, ka, kb, hsz, hbw⟩
        case round =>
          clear ka kb hsz hbw
          obtain ⟨j, hj, rfl, hall, ka, kb, hsz, hbw⟩ := hrel
          have HA2 := Lib.hid hall
          clear hall
          by_cases hjN : j < N
          · go_wp2_with fail
            go_loopw [5] (fun i3 wr => ∃ q : Nat, q ≤ N ∧ i3 = .int .i64 q ∧ (∀ d, d < q → atT N zs i d ≤ addI (atT N zs i j) (atT N zs j d)) ∧ wr.cell? ⟨w.heap.size, 0, none⟩ = some (.int .i64 N) ∧ wr.cell? ⟨w.heap.size, 1, none⟩ = some (.slice A k c) ∧ w.heap.size < wr.heap.size ∧ Below w.heap.size w wr) (fun i3 _ => N - (intOf i3).toNat)
            case atStart => exact ⟨0, Nat.zero_le _, rfl, fun a ha => by omega, ka, kb, hsz, hbw⟩
            case round =>
              clear ka kb hsz hbw
              obtain ⟨d, hd, rfl, hall, ka, kb, hsz, hbw⟩ := hrel
              have HA3 := Lib.hid hall
              clear hall
              by_cases hdN : d < N
              · have HF := Lib.hid (fun h : ¬ atT N zs i d ≤ addI (atT N zs i j) (atT N zs j d) => show closedR N zs = false from Bool.eq_false_iff.2 (fun hc => h (HCI.out.1 hc i hiN j hjN d hdN)))
                obtain ⟨C, hC⟩ : ∃ C : World → Prop, C = fun W => Below wr.heap.size wr W := ⟨_, rfl⟩
                have qb : ∀ W, C W → Below wr.heap.size wr W := fun W h => by rw [hC] at h; exact h
                have qc : ∀ W, Below wr.heap.size wr W → C W := fun W h => by rw [hC]; exact h
                have hC0 : C (World.drew wr) := qc _ (Below.refl _ _).drew
                have hrw := HR.out.below hbw
                have q0 : ∀ zc : WC C, zc.w.cell? ⟨w.heap.size, 0, none⟩ = some (.int .i64 N) := fun zc => ((qb _ zc.h).cell (p := ⟨w.heap.size, 0, none⟩) (by dsimp only; omega)).trans ka
                have q1 : ∀ zc : WC C, zc.w.cell? ⟨w.heap.size, 1, none⟩ = some (.slice A k c) := fun zc => ((qb _ zc.h).cell (p := ⟨w.heap.size, 1, none⟩) (by dsimp only; omega)).trans kb
                have A0 : Hid (∀ (a b : Nat) (zc : WC C), a < N → b < N → Calls Try.prog 75 #[.agg #[.int .i64 N, .slice A k c], .int .i64 a, .int .i64 b] zc.w fun e w2 => e = .returned (.int .i64 (atT N zs a b)) ∧ ∃ y : WC C, w2 = y.w) := Lib.hid (fun a b zc ha hb => wc_calls ((HAT.out a b zc.w ha hb (hrw.below (qb _ zc.h))).mono fun e w2 k => ⟨k.1, qc _ ((qb _ zc.h).trans (k.2.mono (qb _ zc.h).size))⟩))
                have A1 : Hid (∀ (a b : Int) (zc : WC C), Calls Try.prog 83 #[.int .i64 a, .int .i64 b] zc.w fun e w2 => e = .returned (.int .i64 (addI a b)) ∧ ∃ y : WC C, w2 = y.w) := Lib.hid (fun a b zc => wc_calls ((spec_AddBounds a b zc.w).mono fun e w2 k => ⟨k.1, by rw [← k.2]; exact zc.h⟩))
                have nwc : Nonempty (WC C) := ⟨⟨_, hC0⟩⟩
                clear hC
                by_cases hle : atT N zs i d ≤ addI (atT N zs i j) (atT N zs j d)
                · have HLE := Lib.hid (upto_next (p := fun e => atT N zs i e ≤ addI (atT N zs i j) (atT N zs j e)) HA3.out hle)
                  have hd1 : decide (addI (atT N zs i j) (atT N zs j d) < atT N zs i d) = false := decide_eq_false (by omega)
                  go_wp2_with fail
                  refine region_wc C (by kernel_rfl) (by kernel_rfl) hC0 ?_
                  repeat (go_big_quiet_step (first | (go_at_call 75; exact A0.out _ _ _ (by assumption) (by assumption)) | (go_at_call 83; exact A1.out _ _ _)))
                  refine wpQuiet_nil ?_
                  rintro _ ⟨xq, rfl⟩
                  have bq := qb _ xq.h
                  have g0 := q0 xq
                  have g1 := q1 xq
                  obtain ⟨wq, hwq⟩ : ∃ wq, wq = xq.w := ⟨_, rfl⟩
                  rw [← hwq] at bq g0 g1 ⊢
                  clear hwq xq nwc hC0 qb qc q0 q1 A0 A1 C
                  go_wp2_with fail
                  go_roundw
                  case rel => exact ⟨d + 1, by omega, by go_num, HLE.out, g0, g1, Nat.lt_of_lt_of_le hsz bq.size, hbw.trans (bq.mono (by omega))⟩
                  case measure => simp [intOf]; omega
                · have HLE := Lib.hid (HF.out hle)
                  have hd1 : decide (addI (atT N zs i j) (atT N zs j d) < atT N zs i d) = true := decide_eq_true (by omega)
                  go_wp2_with fail
                  refine region_wc C (by kernel_rfl) (by kernel_rfl) hC0 ?_
                  repeat (go_big_quiet_step (first | (go_at_call 75; exact A0.out _ _ _ (by assumption) (by assumption)) | (go_at_call 83; exact A1.out _ _ _)))
                  refine wpQuiet_nil ?_
                  rintro _ ⟨xq, rfl⟩
                  have bq := qb _ xq.h
                  obtain ⟨wq, hwq⟩ : ∃ wq, wq = xq.w := ⟨_, rfl⟩
                  rw [← hwq] at bq ⊢
                  clear hwq xq nwc hC0 qb qc q0 q1 A0 A1 C
                  go_wp2_with fail
                  go_ret
                  exact ⟨ret_b HLE.out.symm, hbw.trans (bq.mono (by omega))⟩
              · have hdn : d = N := by omega
                subst hdn
                have HA4 := Lib.hid (upto_next (p := fun b => ∀ e, e < d → atT d zs i e ≤ addI (atT d zs i b) (atT d zs b e)) HA2.out HA3.out)
                go_wp2_with fail
                go_roundw
                case rel => exact ⟨j + 1, by omega, by go_num, HA4.out, ka, kb, hsz, hbw⟩
                case measure => simp [intOf]; omega
          · have hjn : j = N := by omega
            subst hjn
            have HA4 := Lib.hid (upto_next (p := fun a => ∀ b, b < j → ∀ e, e < j → atT j zs a e ≤ addI (atT j zs a b) (atT j zs b e)) HA1.out HA2.out)
            go_wp2_with fail
            go_roundw
            case rel => exact ⟨i + 1, by omega, by go_num, HA4.out, ka, kb, hsz, hbw⟩
            case measure => simp [intOf]; omega
      · have hin : i = N := by omega
        subst hin
        go_wp2_with fail
        go_ret
        exact ⟨ret_b (HCI.out.2 (fun a ha => HA1.out a ha)).symm, hbw⟩

end Go.Proofs.Ytdjaiijgdflopaa
