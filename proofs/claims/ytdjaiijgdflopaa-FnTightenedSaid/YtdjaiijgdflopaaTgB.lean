/-
  WALK of spec.TightenTable: the way with a table.
-/
import Derived.Test.YtdjaiijgdflopaaTgA
import Derived.Test.YtdjaiijgdflopaaGdE
namespace Go.Proofs.Ytdjaiijgdflopaa
open Go.RowKit
set_option linter.unusedVariables false
set_option linter.unusedSimpArgs false

/-- The numbers that have been appended when the loops stand at i, k. -/
def tgL (N : Nat) (zs : List Int) (e : GE) (i k : Nat) : List Int := ((List.range i).flatMap fun i => (List.range N).map fun k => tightAt N zs e i k) ++ (List.range k).map (tightAt N zs e i)
theorem tgL_next (N : Nat) (zs : List Int) (e : GE) (i k : Nat) : tgL N zs e i (k + 1) = tgL N zs e i k ++ [tightAt N zs e i k] := by
  unfold tgL; rw [List.range_succ (n := k), List.map_append, List.append_assoc]; rfl
theorem tgL_row (N : Nat) (zs : List Int) (e : GE) (i : Nat) : tgL N zs e i N = tgL N zs e (i + 1) 0 := by
  unfold tgL; rw [List.range_succ (n := i), List.flatMap_append]; simp
theorem tgL_all (N : Nat) (zs : List Int) (e : GE) : tgL N zs e N 0 = tightC N zs e := by unfold tgL tightC; simp
theorem tgL_length (N : Nat) (zs : List Int) (e : GE) (i k : Nat) : (tgL N zs e i k).length = i * N + k := by
  unfold tgL; rw [List.length_append, flat_length (n := N) (fun i => by simp)]; simp

set_option maxRecDepth 100000 in
set_option maxHeartbeats 8000000 in
theorem spec_Tighten_yes (N : Nat) (zs : List Int) (A : Option Addr) (k c : Nat) (u v : Nat) (x : Int) (w : World) (hn : zs.length = k) (hk : k ≤ 1048576) (hr : RowAt w A (zs.map intV)) (hyes : tightOk N zs ⟨u, v, x⟩ = true) :
    Calls Try.prog 40 #[grV N A k c, .agg #[.int .i64 u, .int .i64 v, .int .i64 x]] w fun e w' => TgEnd N zs ⟨u, v, x⟩ w e w' := by
  have HT := Lib.hid (fun W h => spec_IsClosed N zs A k c W hn hk h)
  have HR := Lib.hid hr
  have HL := Lib.hid hn
  have HYES := Lib.hid hyes
  have hsp := tight_split N zs ⟨u, v, x⟩
  rw [hyes] at hsp
  dsimp only at hsp
  have hsp2 := hsp.symm
  clear hsp
  simp only [Bool.and_eq_true, Int.toNat_natCast] at hsp2
  obtain ⟨⟨⟨⟨s1, s2⟩, s3⟩, s4⟩, s5⟩ := hsp2
  clear hr hn hyes
  have i2 := l01In_any u 0 (N - 1)
  have i3 := l01In_any v 0 (N - 1)
  have i4 := l01In_any x (-999999) 999999
  rw [s1] at HT
  rw [show (decide ((0 : Int) ≤ (u : Int)) && decide ((u : Int) ≤ (N : Int) - 1)) = true from by simp only [Bool.and_eq_true]; exact s2] at i2
  rw [show (decide ((0 : Int) ≤ (v : Int)) && decide ((v : Int) ≤ (N : Int) - 1)) = true from by simp only [Bool.and_eq_true]; exact s3] at i3
  rw [show (decide ((-999999 : Int) ≤ x) && decide (x ≤ 999999)) = true from by simp only [Bool.and_eq_true]; exact s4] at i4
  have HI2 := Lib.hid i2
  have HI3 := Lib.hid i3
  have HI4 := Lib.hid i4
  have huN : u < N := by simp at s2; omega
  have hvN : v < N := by simp at s3; omega
  have hok := closedR_ok s1
  have hN8 : N ≤ 8 := by have := (okT_rng hok).2.1; omega
  have h64 := sq_le hN8
  have hkN : k = N * N := by have h1 := (okT_rng hok).2.2; have h2 := HL.out; rw [h2] at h1; exact_mod_cast h1
  have HAT := Lib.hid (fun (a b : Nat) W ha hb h => l04At_any N a b zs A k c W hN8 ha hb HL.out hkN h)
  have hneg : ¬ addI x (atT N zs v u) < 0 := by simpa using s5
  unfold grV at HT HAT ⊢
  obtain ⟨i0, hi, hz0, hz1, hz2⟩ := info_parts Try.info3
  clear hkN i2 i3 i4 s1 s2 s3 s4 s5 hok
  go_enter Try.func40, Try.ntmps40
  go_wp2_with fail
  obtain ⟨w1, hw1⟩ : ∃ w1, w1 = ((w.alloc (.cells #[.int .i64 N, .slice A k c] 29)).alloc (.cells #[.int .i64 u, .int .i64 v, .int .i64 x] 35)).alloc (.cells #[.int .i64 0, .slice none 0 0] 29) := ⟨_, rfl⟩
  rw [← hw1]
  have c0 : w1.cell? ⟨w.heap.size, 0, none⟩ = some (.int .i64 N) := by rw [hw1]; go_simp
  have c1 : w1.cell? ⟨w.heap.size, 1, none⟩ = some (.slice A k c) := by rw [hw1]; go_simp
  have c2 : w1.cell? ⟨w.heap.size + 1, 0, none⟩ = some (.int .i64 u) := by rw [hw1]; go_simp
  have c3 : w1.cell? ⟨w.heap.size + 1, 1, none⟩ = some (.int .i64 v) := by rw [hw1]; go_simp
  have c4 : w1.cell? ⟨w.heap.size + 1, 2, none⟩ = some (.int .i64 x) := by rw [hw1]; go_simp
  have c5 : w1.cell? ⟨w.heap.size + 1 + 1, 0, none⟩ = some (.int .i64 0) := by rw [hw1]; go_simp
  have c6 : w1.cell? ⟨w.heap.size + 1 + 1, 1, none⟩ = some (.slice none 0 0) := by rw [hw1]; go_simp
  have z0 : w1.frozen? ⟨w.heap.size + 1 + 1, 0, none⟩ = false := by rw [hw1]; go_simp
  have z1 : w1.frozen? ⟨w.heap.size + 1 + 1, 1, none⟩ = false := by rw [hw1]; go_simp
  have sz1 : w.heap.size + 1 + 1 < w1.heap.size := by rw [hw1]; simp
  have B1 : Below w.heap.size w w1 := by rw [hw1]; exact (by repeat (first | exact Below.refl _ _ | refine below_step (by assumption) (by first | omega | (simp; done) | (simp; omega)) ?_ | refine below_drewN ?_ _ | refine Below.drew ?_ | refine Below.setCell ?_ (by first | omega | (simp; done) | (simp; omega)) _ | refine Below.alloc ?_ (by first | omega | (simp; done) | (simp; omega)) _))
  have hrw := HR.out.below B1
  clear hw1
  obtain ⟨C, hC⟩ : ∃ C : World → Prop, C = fun W => Below w1.heap.size w1 W := ⟨_, rfl⟩
  have qb : ∀ W, C W → Below w1.heap.size w1 W := fun W h => by rw [hC] at h; exact h
  have qc : ∀ W, Below w1.heap.size w1 W → C W := fun W h => by rw [hC]; exact h
  have hC0 : C (World.drew w1) := qc _ (Below.refl _ _).drew
  have q0 : ∀ zc : WC C, zc.w.cell? ⟨w.heap.size, 0, none⟩ = some (.int .i64 N) := fun zc => ((qb _ zc.h).cell (p := ⟨w.heap.size, 0, none⟩) (by dsimp only; omega)).trans c0
  have q1 : ∀ zc : WC C, zc.w.cell? ⟨w.heap.size, 1, none⟩ = some (.slice A k c) := fun zc => ((qb _ zc.h).cell (p := ⟨w.heap.size, 1, none⟩) (by dsimp only; omega)).trans c1
  have q2 : ∀ zc : WC C, zc.w.cell? ⟨w.heap.size + 1, 0, none⟩ = some (.int .i64 u) := fun zc => ((qb _ zc.h).cell (p := ⟨w.heap.size + 1, 0, none⟩) (by dsimp only; omega)).trans c2
  have q3 : ∀ zc : WC C, zc.w.cell? ⟨w.heap.size + 1, 1, none⟩ = some (.int .i64 v) := fun zc => ((qb _ zc.h).cell (p := ⟨w.heap.size + 1, 1, none⟩) (by dsimp only; omega)).trans c3
  have q4 : ∀ zc : WC C, zc.w.cell? ⟨w.heap.size + 1, 2, none⟩ = some (.int .i64 x) := fun zc => ((qb _ zc.h).cell (p := ⟨w.heap.size + 1, 2, none⟩) (by dsimp only; omega)).trans c4
  have q5 : ∀ zc : WC C, zc.w.cell? ⟨w.heap.size + 1 + 1, 0, none⟩ = some (.int .i64 0) := fun zc => ((qb _ zc.h).cell (p := ⟨w.heap.size + 1 + 1, 0, none⟩) (by dsimp only; omega)).trans c5
  have q6 : ∀ zc : WC C, zc.w.cell? ⟨w.heap.size + 1 + 1, 1, none⟩ = some (.slice none 0 0) := fun zc => ((qb _ zc.h).cell (p := ⟨w.heap.size + 1 + 1, 1, none⟩) (by dsimp only; omega)).trans c6
  have A0 : Hid (∀  (zc : WC C), Calls Try.prog 39 #[.agg #[.int .i64 N, .slice A k c]] zc.w fun e w2 => e = .returned (.bool true) ∧ ∃ y : WC C, w2 = y.w) := Lib.hid (fun zc => wc_calls ((HT.out zc.w (hrw.below (qb _ zc.h))).mono fun e w2 k => ⟨k.1, qc _ ((qb _ zc.h).trans (k.2.mono (qb _ zc.h).size))⟩))
  have A2 : Hid (∀  (zc : WC C), Calls Try.prog 72 #[.int .i64 u, .int .i64 (0), .int .i64 (N - 1)] zc.w fun e w2 => e = .returned (.bool true) ∧ ∃ y : WC C, w2 = y.w) := Lib.hid (fun zc => wc_calls ((HI2.out zc.w).mono fun e w2 k => ⟨k.1, by rw [← k.2]; exact zc.h⟩))
  have A3 : Hid (∀  (zc : WC C), Calls Try.prog 72 #[.int .i64 v, .int .i64 (0), .int .i64 (N - 1)] zc.w fun e w2 => e = .returned (.bool true) ∧ ∃ y : WC C, w2 = y.w) := Lib.hid (fun zc => wc_calls ((HI3.out zc.w).mono fun e w2 k => ⟨k.1, by rw [← k.2]; exact zc.h⟩))
  have A4 : Hid (∀  (zc : WC C), Calls Try.prog 72 #[.int .i64 x, .int .i64 (-999999), .int .i64 (999999)] zc.w fun e w2 => e = .returned (.bool true) ∧ ∃ y : WC C, w2 = y.w) := Lib.hid (fun zc => wc_calls ((HI4.out zc.w).mono fun e w2 k => ⟨k.1, by rw [← k.2]; exact zc.h⟩))
  have A5 : Hid (∀ (a b : Nat) (zc : WC C) (_ : a < N) (_ : b < N), Calls Try.prog 75 #[.agg #[.int .i64 N, .slice A k c], .int .i64 a, .int .i64 b] zc.w fun e w2 => e = .returned (.int .i64 (atT N zs a b)) ∧ ∃ y : WC C, w2 = y.w) := Lib.hid (fun a b zc ha hb => wc_calls ((HAT.out a b zc.w ha hb (hrw.below (qb _ zc.h))).mono fun e w2 k => ⟨k.1, qc _ ((qb _ zc.h).trans (k.2.mono (qb _ zc.h).size))⟩))
  have A6 : Hid (∀ (a b : Int) (zc : WC C), Calls Try.prog 83 #[.int .i64 a, .int .i64 b] zc.w fun e w2 => e = .returned (.int .i64 (addI a b)) ∧ ∃ y : WC C, w2 = y.w) := Lib.hid (fun a b zc => wc_calls ((spec_AddBounds a b zc.w).mono fun e w2 k => ⟨k.1, by rw [← k.2]; exact zc.h⟩))
  have nwc : Nonempty (WC C) := ⟨⟨_, hC0⟩⟩
  clear hC
  refine region_wc C (by kernel_rfl) (by kernel_rfl) hC0 ?_
  repeat (go_big_quiet_step (first | (go_at_call 39; exact A0.out _) | (go_at_call_of 72 (Value.int .i64 u); exact A2.out _) | (go_at_call_of 72 (Value.int .i64 v); exact A3.out _) | (go_at_call_of 72 (Value.int .i64 x); exact A4.out _) | (go_at_call 75; exact A5.out _ _ _ (by assumption) (by assumption)) | (go_at_call 83; exact A6.out _ _ _)))
  refine wpQuiet_nil ?_
  rintro _ ⟨xq, rfl⟩
  have bq := qb _ xq.h
  have g0 := q0 xq
  have g1 := q1 xq
  have g2 := q2 xq
  have g3 := q3 xq
  have g4 := q4 xq
  have g5 := q5 xq
  have g6 := q6 xq
  obtain ⟨wq, hwq⟩ : ∃ wq, wq = xq.w := ⟨_, rfl⟩
  rw [← hwq] at bq g0 g1 g2 g3 g4 g5 g6 ⊢
  have e0 := (bq.frozen (p := ⟨w.heap.size + 1 + 1, 0, none⟩) (by dsimp only; omega)).trans z0
  have e1 := (bq.frozen (p := ⟨w.heap.size + 1 + 1, 1, none⟩) (by dsimp only; omega)).trans z1
  have szq : w.heap.size + 1 + 1 < wq.heap.size := Nat.lt_of_lt_of_le sz1 bq.size
  have BQ : Below w.heap.size w wq := B1.trans (bq.mono B1.size)
  clear hwq xq nwc hC0 qb qc q0 q1 q2 q3 q4 q5 q6 A0 A2 A3 A4 A5 A6 C bq hrw sz1 B1 z0 z1 c0 c1 c2 c3 c4 c5 c6 HT HI2 HI3 HI4
  have nq : ∀ p, p < wq.heap.size → (p = wq.heap.size) = False := fun p h => eq_false (by omega)
  have n2 := nq (w.heap.size + 1 + 1) (by omega)
  have n1 := nq (w.heap.size + 1) (by omega)
  have n0 := nq w.heap.size (by omega)
  clear nq
  go_wp2_with fail
  obtain ⟨b6, hb6⟩ : ∃ b, b = wq.heap.size := ⟨_, rfl⟩
  obtain ⟨wz, hwz⟩ : ∃ wz, wz = wq.alloc (.cells #[.int .i64 N, .slice none 0 0] 29) := ⟨_, rfl⟩
  have hb6w : w.heap.size + 1 + 1 < b6 := by omega
  have l0 : w.heap.size < wq.heap.size := by omega
  have l1 : w.heap.size + 1 < wq.heap.size := by omega
  have hst : ∃ (s : Nat) (A2 : Option Addr) (d2 : Nat), s = 0 * N + 0 ∧ wz.cell? ⟨w.heap.size, 0, none⟩ = some (.int .i64 N) ∧ wz.cell? ⟨w.heap.size, 1, none⟩ = some (.slice A k c) ∧ wz.cell? ⟨w.heap.size + 1, 0, none⟩ = some (.int .i64 u) ∧ wz.cell? ⟨w.heap.size + 1, 1, none⟩ = some (.int .i64 v) ∧ wz.cell? ⟨w.heap.size + 1, 2, none⟩ = some (.int .i64 x) ∧ wz.cell? ⟨w.heap.size + 1 + 1, 0, none⟩ = some (.int .i64 0) ∧ wz.cell? ⟨w.heap.size + 1 + 1, 1, none⟩ = some (.slice none 0 0) ∧ wz.frozen? ⟨w.heap.size + 1 + 1, 0, none⟩ = false ∧ wz.frozen? ⟨w.heap.size + 1 + 1, 1, none⟩ = false ∧ wz.cell? ⟨b6, 0, none⟩ = some (.int .i64 N) ∧ wz.cell? ⟨b6, 1, none⟩ = some (.slice A2 s d2) ∧ wz.frozen? ⟨b6, 1, none⟩ = false ∧ wz.ownsRow (b6 + 1) 3 1 (.slice A2 s d2) s ((tgL N zs ⟨u, v, x⟩ 0 0).map intV) ∧ b6 < wz.heap.size ∧ Below w.heap.size w wz := by
    rw [hwz, hb6]
    exact ⟨0, none, 0, by simp, by go_simp, by go_simp, by go_simp, by go_simp, by go_simp, by go_simp, by go_simp, by go_simp, by go_simp, by go_simp, by go_simp, by go_simp, World.ownsRow_nil _ _ _ _, by simp, BQ.alloc BQ.size _⟩
  rw [← hwz, ← hb6]
  have HST := Lib.hid hst
  clear l0 l1 hst hwz hb6 g0 g1 g2 g3 g4 g5 g6 e0 e1 szq BQ n0 n1 n2
  have m2 : (b6 = w.heap.size + 1 + 1) = False := eq_false (by omega)
  have m2r : (w.heap.size + 1 + 1 = b6) = False := eq_false (by omega)
  have m1 : (b6 = w.heap.size + 1) = False := eq_false (by omega)
  have m1r : (w.heap.size + 1 = b6) = False := eq_false (by omega)
  have m0 : (b6 = w.heap.size) = False := eq_false (by omega)
  have m0r : (w.heap.size = b6) = False := eq_false (by omega)
  go_loopw [7] (fun i wr => ∃ q : Nat, q ≤ N ∧ i = .int .i64 q ∧ ∃ (s : Nat) (A2 : Option Addr) (d2 : Nat), s = q * N + 0 ∧ wr.cell? ⟨w.heap.size, 0, none⟩ = some (.int .i64 N) ∧ wr.cell? ⟨w.heap.size, 1, none⟩ = some (.slice A k c) ∧ wr.cell? ⟨w.heap.size + 1, 0, none⟩ = some (.int .i64 u) ∧ wr.cell? ⟨w.heap.size + 1, 1, none⟩ = some (.int .i64 v) ∧ wr.cell? ⟨w.heap.size + 1, 2, none⟩ = some (.int .i64 x) ∧ wr.cell? ⟨w.heap.size + 1 + 1, 0, none⟩ = some (.int .i64 0) ∧ wr.cell? ⟨w.heap.size + 1 + 1, 1, none⟩ = some (.slice none 0 0) ∧ wr.frozen? ⟨w.heap.size + 1 + 1, 0, none⟩ = false ∧ wr.frozen? ⟨w.heap.size + 1 + 1, 1, none⟩ = false ∧ wr.cell? ⟨b6, 0, none⟩ = some (.int .i64 N) ∧ wr.cell? ⟨b6, 1, none⟩ = some (.slice A2 s d2) ∧ wr.frozen? ⟨b6, 1, none⟩ = false ∧ wr.ownsRow (b6 + 1) 3 1 (.slice A2 s d2) s ((tgL N zs ⟨u, v, x⟩ q 0).map intV) ∧ b6 < wr.heap.size ∧ Below w.heap.size w wr) (fun i _ => N - (intOf i).toNat)
  case atStart => exact ⟨0, Nat.zero_le _, rfl, HST.out⟩
  case round =>
    obtain ⟨i, hi2, rfl, hinv⟩ := hrel
    have HIN := Lib.hid hinv
    obtain ⟨s, A2, d2, hs, c0, c1, c2, c3, c4, c5, c6, e0, e1, o0, o1, o2, hown, hsz, hbw⟩ := hinv
    have HOW := Lib.hid hown
    have HSS := Lib.hid hs
    clear HST hown hs
    by_cases hiN : i < N
    · go_wp2_with fail
      go_loopw [8] (fun i3 wr => ∃ q : Nat, q ≤ N ∧ i3 = .int .i64 q ∧ ∃ (s : Nat) (A2 : Option Addr) (d2 : Nat), s = i * N + q ∧ wr.cell? ⟨w.heap.size, 0, none⟩ = some (.int .i64 N) ∧ wr.cell? ⟨w.heap.size, 1, none⟩ = some (.slice A k c) ∧ wr.cell? ⟨w.heap.size + 1, 0, none⟩ = some (.int .i64 u) ∧ wr.cell? ⟨w.heap.size + 1, 1, none⟩ = some (.int .i64 v) ∧ wr.cell? ⟨w.heap.size + 1, 2, none⟩ = some (.int .i64 x) ∧ wr.cell? ⟨w.heap.size + 1 + 1, 0, none⟩ = some (.int .i64 0) ∧ wr.cell? ⟨w.heap.size + 1 + 1, 1, none⟩ = some (.slice none 0 0) ∧ wr.frozen? ⟨w.heap.size + 1 + 1, 0, none⟩ = false ∧ wr.frozen? ⟨w.heap.size + 1 + 1, 1, none⟩ = false ∧ wr.cell? ⟨b6, 0, none⟩ = some (.int .i64 N) ∧ wr.cell? ⟨b6, 1, none⟩ = some (.slice A2 s d2) ∧ wr.frozen? ⟨b6, 1, none⟩ = false ∧ wr.ownsRow (b6 + 1) 3 1 (.slice A2 s d2) s ((tgL N zs ⟨u, v, x⟩ i q).map intV) ∧ b6 < wr.heap.size ∧ Below w.heap.size w wr) (fun i3 _ => N - (intOf i3).toNat)
      case atStart => exact ⟨0, Nat.zero_le _, rfl, HIN.out⟩
      case round =>
        clear c0 c1 c2 c3 c4 c5 c6 e0 e1 o0 o1 o2 HOW HSS hsz hbw HIN s A2 d2
        obtain ⟨j, hj, rfl, hinv⟩ := hrel
        have HIN := Lib.hid hinv
        obtain ⟨s, A2, d2, hs, c0, c1, c2, c3, c4, c5, c6, e0, e1, o0, o1, o2, hown, hsz, hbw⟩ := hinv
        have HOW := Lib.hid hown
        have HSS := Lib.hid hs
        clear hown hs
        by_cases hjN : j < N
        · skip
          have hnb : ∀ q, q ≤ b6 → (Value.slice A2 s d2).ownBlock ≠ some q := fun q hq h => by have := (HOW.out.lt q h).1; omega
          have nb0 := hnb w.heap.size (by omega)
          have nb1 := hnb (w.heap.size + 1) (by omega)
          have nb2 := hnb (w.heap.size + 1 + 1) (by omega)
          have nb3 := hnb b6 (by omega)
          have lt2 : ∀ q, (Value.slice A2 s d2).ownBlock = some q → b6 + 1 ≤ q := fun q h => (HOW.out.lt q h).1
          have NB := Lib.hid hnb
          have LT2 := Lib.hid lt2
          have hs72 : s + 1 ≤ 72 := by have h1 := HSS.out; have h2 : i * N + j < N * N := at_lt hiN hjN; omega
          have hrw := HR.out.below hbw
          have HTA := Lib.hid (show tightAt N zs ⟨u, v, x⟩ i j = (if atT N zs i j ≤ addI (addI (atT N zs i u) x) (atT N zs v j) then atT N zs i j else addI (addI (atT N zs i u) x) (atT N zs v j)) by unfold tightAt; simp)
          clear hnb lt2 HIN
          obtain ⟨C, hC⟩ : ∃ C : World → Prop, C = fun W => Below wr.heap.size wr W := ⟨_, rfl⟩
          have qb : ∀ W, C W → Below wr.heap.size wr W := fun W h => by rw [hC] at h; exact h
          have qc : ∀ W, Below wr.heap.size wr W → C W := fun W h => by rw [hC]; exact h
          have hC0 : C (World.drew wr) := qc _ (Below.refl _ _).drew
          have q0 : ∀ zc : WC C, zc.w.cell? ⟨w.heap.size, 0, none⟩ = some (.int .i64 N) := fun zc => ((qb _ zc.h).cell (p := ⟨w.heap.size, 0, none⟩) (by dsimp only; omega)).trans c0
          have q1 : ∀ zc : WC C, zc.w.cell? ⟨w.heap.size, 1, none⟩ = some (.slice A k c) := fun zc => ((qb _ zc.h).cell (p := ⟨w.heap.size, 1, none⟩) (by dsimp only; omega)).trans c1
          have q2 : ∀ zc : WC C, zc.w.cell? ⟨w.heap.size + 1, 0, none⟩ = some (.int .i64 u) := fun zc => ((qb _ zc.h).cell (p := ⟨w.heap.size + 1, 0, none⟩) (by dsimp only; omega)).trans c2
          have q3 : ∀ zc : WC C, zc.w.cell? ⟨w.heap.size + 1, 1, none⟩ = some (.int .i64 v) := fun zc => ((qb _ zc.h).cell (p := ⟨w.heap.size + 1, 1, none⟩) (by dsimp only; omega)).trans c3
          have q4 : ∀ zc : WC C, zc.w.cell? ⟨w.heap.size + 1, 2, none⟩ = some (.int .i64 x) := fun zc => ((qb _ zc.h).cell (p := ⟨w.heap.size + 1, 2, none⟩) (by dsimp only; omega)).trans c4
          have A5 : Hid (∀ (a b : Nat) (zc : WC C) (_ : a < N) (_ : b < N), Calls Try.prog 75 #[.agg #[.int .i64 N, .slice A k c], .int .i64 a, .int .i64 b] zc.w fun e w2 => e = .returned (.int .i64 (atT N zs a b)) ∧ ∃ y : WC C, w2 = y.w) := Lib.hid (fun a b zc ha hb => wc_calls ((HAT.out a b zc.w ha hb (hrw.below (qb _ zc.h))).mono fun e w2 k => ⟨k.1, qc _ ((qb _ zc.h).trans (k.2.mono (qb _ zc.h).size))⟩))
          have A6 : Hid (∀ (a b : Int) (zc : WC C), Calls Try.prog 83 #[.int .i64 a, .int .i64 b] zc.w fun e w2 => e = .returned (.int .i64 (addI a b)) ∧ ∃ y : WC C, w2 = y.w) := Lib.hid (fun a b zc => wc_calls ((spec_AddBounds a b zc.w).mono fun e w2 k => ⟨k.1, by rw [← k.2]; exact zc.h⟩))
          have nwc : Nonempty (WC C) := ⟨⟨_, hC0⟩⟩
          clear hC
          have hb0 := hbw
          go_wp2_with fail
          refine region_wc C (by kernel_rfl) (by kernel_rfl) hC0 ?_
          repeat (go_big_quiet_step (first | (go_at_call 75; exact A5.out _ _ _ (by assumption) (by assumption)) | (go_at_call 83; exact A6.out _ _ _)))
          refine wpQuiet_nil ?_
          rintro _ ⟨xq, rfl⟩
          have bq := qb _ xq.h
          obtain ⟨wq2, hwq⟩ : ∃ wq2, wq2 = xq.w := ⟨_, rfl⟩
          rw [← hwq] at bq ⊢
          clear hwq xq nwc hC0 qb qc q0 q1 q2 q3 q4 A5 A6 C
          have cw0 : wq2.cell? ⟨w.heap.size, 0, none⟩ = some (.int .i64 N) := (bq.cell (p := ⟨w.heap.size, 0, none⟩) (by dsimp only; omega)).trans c0
          have cw1 : wq2.cell? ⟨w.heap.size, 1, none⟩ = some (.slice A k c) := (bq.cell (p := ⟨w.heap.size, 1, none⟩) (by dsimp only; omega)).trans c1
          have cw2 : wq2.cell? ⟨w.heap.size + 1, 0, none⟩ = some (.int .i64 u) := (bq.cell (p := ⟨w.heap.size + 1, 0, none⟩) (by dsimp only; omega)).trans c2
          have cw3 : wq2.cell? ⟨w.heap.size + 1, 1, none⟩ = some (.int .i64 v) := (bq.cell (p := ⟨w.heap.size + 1, 1, none⟩) (by dsimp only; omega)).trans c3
          have cw4 : wq2.cell? ⟨w.heap.size + 1, 2, none⟩ = some (.int .i64 x) := (bq.cell (p := ⟨w.heap.size + 1, 2, none⟩) (by dsimp only; omega)).trans c4
          have cw5 : wq2.cell? ⟨w.heap.size + 1 + 1, 0, none⟩ = some (.int .i64 0) := (bq.cell (p := ⟨w.heap.size + 1 + 1, 0, none⟩) (by dsimp only; omega)).trans c5
          have cw6 : wq2.cell? ⟨w.heap.size + 1 + 1, 1, none⟩ = some (.slice none 0 0) := (bq.cell (p := ⟨w.heap.size + 1 + 1, 1, none⟩) (by dsimp only; omega)).trans c6
          have cw7 : wq2.cell? ⟨b6, 0, none⟩ = some (.int .i64 N) := (bq.cell (p := ⟨b6, 0, none⟩) (by dsimp only; omega)).trans o0
          have cw8 : wq2.cell? ⟨b6, 1, none⟩ = some (.slice A2 s d2) := (bq.cell (p := ⟨b6, 1, none⟩) (by dsimp only; omega)).trans o1
          have f0 : wq2.frozen? ⟨w.heap.size + 1 + 1, 0, none⟩ = false := (bq.frozen (p := ⟨w.heap.size + 1 + 1, 0, none⟩) (by dsimp only; omega)).trans e0
          have f1 : wq2.frozen? ⟨w.heap.size + 1 + 1, 1, none⟩ = false := (bq.frozen (p := ⟨w.heap.size + 1 + 1, 1, none⟩) (by dsimp only; omega)).trans e1
          have f2 : wq2.frozen? ⟨b6, 1, none⟩ = false := (bq.frozen (p := ⟨b6, 1, none⟩) (by dsimp only; omega)).trans o2
          have HOQ := Lib.hid (own_below HOW.out bq)
          have szq : b6 < wq2.heap.size := Nat.lt_of_lt_of_le hsz bq.size
          have BQ : Below w.heap.size w wq2 := hbw.trans (bq.mono hbw.size)
          have HRQ := Lib.hid (HR.out.below BQ)
          obtain ⟨r, hr⟩ : ∃ r, r = tightAt N zs ⟨u, v, x⟩ i j := ⟨_, rfl⟩
          obtain ⟨p, hp⟩ : ∃ p, p = atT N zs i j := ⟨_, rfl⟩
          obtain ⟨y, hy⟩ : ∃ y, y = addI (addI (atT N zs i u) x) (atT N zs v j) := ⟨_, rfl⟩
          have hta := HTA.out
          rw [← hr, ← hp, ← hy] at hta
          have HP2 := HAT.out i j
          rw [← hp] at HP2
          have HAT2 := Lib.hid HP2
          rw [← hy]
          have HR3 := Lib.hid hr
          clear HP2 hy hp hr HTA hbw hb0 c0 c1 c2 c3 c4 c5 c6 e0 e1 o0 o1 o2 HOW hsz hrw bq
          have HBQ := Lib.hid BQ
          by_cases hle : p ≤ y
          · have hle2 : (y < p) = False := eq_false (by omega)
            rw [if_pos hle] at hta
            subst hta
            go_wp2_with fail
            go_region_law (first | (refine step_append_lies _ rfl _ _ 27 rfl (b6 + 1) 3 i0 (.int .i64 0) 1 8 Try.underlying27 hi hz0 hz1 hz2 rfl (by decide) _ _ _ rfl (HO4.out.alloc _) ⟨_, 0, none⟩ 1 1 [.int .i64 r] rfl rfl (cell_one_new _ _ _) (fun u hu => by simp at hu; subst hu; rfl) (by decide) (by unfold maxLen; omega) (by omega) (by first | omega | (simp; done) | (simp; omega)) _ rfl ?_; intro g cap w5 ho5 hg5 hat5 hl5; have k0 := grown_cell hg5 (b := w.heap.size) (o := 0) (v := .int .i64 N) (by go_simp) nb0; have k1 := grown_cell hg5 (b := w.heap.size) (o := 1) (v := .slice A k c) (by go_simp) nb0; have k2 := grown_cell hg5 (b := w.heap.size + 1) (o := 0) (v := .int .i64 u) (by go_simp) nb1; have k3 := grown_cell hg5 (b := w.heap.size + 1) (o := 1) (v := .int .i64 v) (by go_simp) nb1; have k4 := grown_cell hg5 (b := w.heap.size + 1) (o := 2) (v := .int .i64 x) (by go_simp) nb1; have k5 := grown_cell hg5 (b := w.heap.size + 1 + 1) (o := 0) (v := .int .i64 0) (by go_simp) nb2; have k6 := grown_cell hg5 (b := w.heap.size + 1 + 1) (o := 1) (v := .slice none 0 0) (by go_simp) nb2; have k7 := grown_cell hg5 (b := b6) (o := 0) (v := .int .i64 N) (by go_simp) nb3; have k8 := grown_cell hg5 (b := b6) (o := 1) (v := .slice A2 s d2) (by go_simp) nb3; have h0 := grown_free hg5 (b := w.heap.size + 1 + 1) (o := 0) (by first | omega | (simp; done) | (simp; omega)) (by go_simp) nb2; have h1 := grown_free hg5 (b := w.heap.size + 1 + 1) (o := 1) (by first | omega | (simp; done) | (simp; omega)) (by go_simp) nb2; have h2 := grown_free hg5 (b := b6) (o := 1) (by first | omega | (simp; done) | (simp; omega)) (by go_simp) nb3; have sz5 : b6 < w5.heap.size := Nat.lt_of_lt_of_le (by first | omega | (simp; done) | (simp; omega)) hg5.size; have B5 : Below w.heap.size w w5 := (B4.alloc B4.size _).grown hg5 (by have := B4.size; first | omega | (simp; done) | (simp; omega)) (fun q hq => by have := LT2.out q hq; omega); have HO5 := Lib.hid ho5) | (go_simp; go_at_call 75; refine (HAT2.out _ (by assumption) (by assumption) (HR.out.below (by repeat (first | exact Below.refl _ _ | refine below_step (by assumption) (by first | omega | (simp; done) | (simp; omega)) ?_ | refine below_drewN ?_ _ | refine Below.drew ?_ | refine Below.setCell ?_ (by first | omega | (simp; done) | (simp; omega)) _ | refine Below.alloc ?_ (by first | omega | (simp; done) | (simp; omega)) _)))).mono ?_; rintro e w4 ⟨rfl, b4⟩; have k0 : w4.cell? ⟨w.heap.size, 0, none⟩ = some (.int .i64 N) := (b4.cell (p := ⟨w.heap.size, 0, none⟩) (by first | omega | (simp; done) | (simp; omega))).trans (by first | assumption | go_simp); have k1 : w4.cell? ⟨w.heap.size, 1, none⟩ = some (.slice A k c) := (b4.cell (p := ⟨w.heap.size, 1, none⟩) (by first | omega | (simp; done) | (simp; omega))).trans (by first | assumption | go_simp); have k2 : w4.cell? ⟨w.heap.size + 1, 0, none⟩ = some (.int .i64 u) := (b4.cell (p := ⟨w.heap.size + 1, 0, none⟩) (by first | omega | (simp; done) | (simp; omega))).trans (by first | assumption | go_simp); have k3 : w4.cell? ⟨w.heap.size + 1, 1, none⟩ = some (.int .i64 v) := (b4.cell (p := ⟨w.heap.size + 1, 1, none⟩) (by first | omega | (simp; done) | (simp; omega))).trans (by first | assumption | go_simp); have k4 : w4.cell? ⟨w.heap.size + 1, 2, none⟩ = some (.int .i64 x) := (b4.cell (p := ⟨w.heap.size + 1, 2, none⟩) (by first | omega | (simp; done) | (simp; omega))).trans (by first | assumption | go_simp); have k5 : w4.cell? ⟨w.heap.size + 1 + 1, 0, none⟩ = some (.int .i64 0) := (b4.cell (p := ⟨w.heap.size + 1 + 1, 0, none⟩) (by first | omega | (simp; done) | (simp; omega))).trans (by first | assumption | go_simp); have k6 : w4.cell? ⟨w.heap.size + 1 + 1, 1, none⟩ = some (.slice none 0 0) := (b4.cell (p := ⟨w.heap.size + 1 + 1, 1, none⟩) (by first | omega | (simp; done) | (simp; omega))).trans (by first | assumption | go_simp); have k7 : w4.cell? ⟨b6, 0, none⟩ = some (.int .i64 N) := (b4.cell (p := ⟨b6, 0, none⟩) (by first | omega | (simp; done) | (simp; omega))).trans (by first | assumption | go_simp); have k8 : w4.cell? ⟨b6, 1, none⟩ = some (.slice A2 s d2) := (b4.cell (p := ⟨b6, 1, none⟩) (by first | omega | (simp; done) | (simp; omega))).trans (by first | assumption | go_simp); have h0 : w4.frozen? ⟨w.heap.size + 1 + 1, 0, none⟩ = false := (b4.frozen (p := ⟨w.heap.size + 1 + 1, 0, none⟩) (by first | omega | (simp; done) | (simp; omega))).trans (by first | assumption | go_simp); have h1 : w4.frozen? ⟨w.heap.size + 1 + 1, 1, none⟩ = false := (b4.frozen (p := ⟨w.heap.size + 1 + 1, 1, none⟩) (by first | omega | (simp; done) | (simp; omega))).trans (by first | assumption | go_simp); have h2 : w4.frozen? ⟨b6, 1, none⟩ = false := (b4.frozen (p := ⟨b6, 1, none⟩) (by first | omega | (simp; done) | (simp; omega))).trans (by first | assumption | go_simp); have sz4 : b6 < w4.heap.size := Nat.lt_of_lt_of_le (by first | omega | (simp; done) | (simp; omega)) b4.size; have HO4 := Lib.hid (own_below (own_drew HOQ.out) b4); have B4 : Below w.heap.size w w4 := (by repeat (first | exact Below.refl _ _ | refine below_step (by assumption) (by first | omega | (simp; done) | (simp; omega)) ?_ | refine below_drewN ?_ _ | refine Below.drew ?_ | refine Below.setCell ?_ (by first | omega | (simp; done) | (simp; omega)) _ | refine Below.alloc ?_ (by first | omega | (simp; done) | (simp; omega)) _)); have x0 : w.heap.size < w4.heap.size := (by omega); have x1 : w.heap.size + 1 < w4.heap.size := (by omega); have x2 : w.heap.size + 1 + 1 < w4.heap.size := (by omega); have nx0 : (w4.heap.size = w.heap.size) = False := eq_false (by omega); have nx1 : (w4.heap.size = w.heap.size + 1) = False := eq_false (by omega); have nx2 : (w4.heap.size = w.heap.size + 1 + 1) = False := eq_false (by omega); have nx3 : (w4.heap.size = b6) = False := eq_false (by omega); have ny0 : (w.heap.size = w4.heap.size) = False := eq_false (by omega); have ny1 : (w.heap.size + 1 = w4.heap.size) = False := eq_false (by omega); have ny2 : (w.heap.size + 1 + 1 = w4.heap.size) = False := eq_false (by omega); have ny3 : (b6 = w4.heap.size) = False := eq_false (by omega)))
            all_goals
              have hnx := tgL_next N zs ⟨u, v, x⟩ i j
              have ho6 := HO5.out
              rw [show ([Value.int .i64 r] : List Value) = [tightAt N zs ⟨u, v, x⟩ i j].map intV from by rw [← HR3.out]; rfl, ← List.map_append, ← hnx] at ho6
              have HO6 := Lib.hid ho6
              clear ho6 hnx HO5
              go_wp2_with fail
              go_roundw
              case rel => exact ⟨j + 1, by omega, by go_num, s + 1, some ⟨g, 0, none⟩, cap, by rw [HSS.out, Nat.add_assoc], by go_simp, by go_simp, by go_simp, by go_simp, by go_simp, by go_simp, by go_simp, by go_simp, by go_simp, by go_simp, by go_simp, by go_simp, own_set HO6.out _ _ (by dsimp only; omega), by simpa [World.setCell] using sz5, (by repeat (first | exact Below.refl _ _ | refine below_step (by assumption) (by first | omega | (simp; done) | (simp; omega)) ?_ | refine below_drewN ?_ _ | refine Below.drew ?_ | refine Below.setCell ?_ (by first | omega | (simp; done) | (simp; omega)) _ | refine Below.alloc ?_ (by first | omega | (simp; done) | (simp; omega)) _))⟩
              case measure => simp [intOf]; omega
          · have hle2 : y < p := by omega
            rw [if_neg hle] at hta
            subst hta
            go_wp2_with fail
            go_region_law (first | (refine step_append_lies _ rfl _ _ 27 rfl (b6 + 1) 3 i0 (.int .i64 0) 1 8 Try.underlying27 hi hz0 hz1 hz2 rfl (by decide) _ _ _ rfl (HO4.out.alloc _) ⟨_, 0, none⟩ 1 1 [.int .i64 r] rfl rfl (cell_one_new _ _ _) (fun u hu => by simp at hu; subst hu; rfl) (by decide) (by unfold maxLen; omega) (by omega) (by first | omega | (simp; done) | (simp; omega)) _ rfl ?_; intro g cap w5 ho5 hg5 hat5 hl5; have k0 := grown_cell hg5 (b := w.heap.size) (o := 0) (v := .int .i64 N) (by go_simp) nb0; have k1 := grown_cell hg5 (b := w.heap.size) (o := 1) (v := .slice A k c) (by go_simp) nb0; have k2 := grown_cell hg5 (b := w.heap.size + 1) (o := 0) (v := .int .i64 u) (by go_simp) nb1; have k3 := grown_cell hg5 (b := w.heap.size + 1) (o := 1) (v := .int .i64 v) (by go_simp) nb1; have k4 := grown_cell hg5 (b := w.heap.size + 1) (o := 2) (v := .int .i64 x) (by go_simp) nb1; have k5 := grown_cell hg5 (b := w.heap.size + 1 + 1) (o := 0) (v := .int .i64 0) (by go_simp) nb2; have k6 := grown_cell hg5 (b := w.heap.size + 1 + 1) (o := 1) (v := .slice none 0 0) (by go_simp) nb2; have k7 := grown_cell hg5 (b := b6) (o := 0) (v := .int .i64 N) (by go_simp) nb3; have k8 := grown_cell hg5 (b := b6) (o := 1) (v := .slice A2 s d2) (by go_simp) nb3; have h0 := grown_free hg5 (b := w.heap.size + 1 + 1) (o := 0) (by first | omega | (simp; done) | (simp; omega)) (by go_simp) nb2; have h1 := grown_free hg5 (b := w.heap.size + 1 + 1) (o := 1) (by first | omega | (simp; done) | (simp; omega)) (by go_simp) nb2; have h2 := grown_free hg5 (b := b6) (o := 1) (by first | omega | (simp; done) | (simp; omega)) (by go_simp) nb3; have sz5 : b6 < w5.heap.size := Nat.lt_of_lt_of_le (by first | omega | (simp; done) | (simp; omega)) hg5.size; have B5 : Below w.heap.size w w5 := (B4.alloc B4.size _).grown hg5 (by have := B4.size; first | omega | (simp; done) | (simp; omega)) (fun q hq => by have := LT2.out q hq; omega); have HO5 := Lib.hid ho5) | (go_simp; go_at_call 75; refine (HAT2.out _ (by assumption) (by assumption) (HR.out.below (by repeat (first | exact Below.refl _ _ | refine below_step (by assumption) (by first | omega | (simp; done) | (simp; omega)) ?_ | refine below_drewN ?_ _ | refine Below.drew ?_ | refine Below.setCell ?_ (by first | omega | (simp; done) | (simp; omega)) _ | refine Below.alloc ?_ (by first | omega | (simp; done) | (simp; omega)) _)))).mono ?_; rintro e w4 ⟨rfl, b4⟩; have k0 : w4.cell? ⟨w.heap.size, 0, none⟩ = some (.int .i64 N) := (b4.cell (p := ⟨w.heap.size, 0, none⟩) (by first | omega | (simp; done) | (simp; omega))).trans (by first | assumption | go_simp); have k1 : w4.cell? ⟨w.heap.size, 1, none⟩ = some (.slice A k c) := (b4.cell (p := ⟨w.heap.size, 1, none⟩) (by first | omega | (simp; done) | (simp; omega))).trans (by first | assumption | go_simp); have k2 : w4.cell? ⟨w.heap.size + 1, 0, none⟩ = some (.int .i64 u) := (b4.cell (p := ⟨w.heap.size + 1, 0, none⟩) (by first | omega | (simp; done) | (simp; omega))).trans (by first | assumption | go_simp); have k3 : w4.cell? ⟨w.heap.size + 1, 1, none⟩ = some (.int .i64 v) := (b4.cell (p := ⟨w.heap.size + 1, 1, none⟩) (by first | omega | (simp; done) | (simp; omega))).trans (by first | assumption | go_simp); have k4 : w4.cell? ⟨w.heap.size + 1, 2, none⟩ = some (.int .i64 x) := (b4.cell (p := ⟨w.heap.size + 1, 2, none⟩) (by first | omega | (simp; done) | (simp; omega))).trans (by first | assumption | go_simp); have k5 : w4.cell? ⟨w.heap.size + 1 + 1, 0, none⟩ = some (.int .i64 0) := (b4.cell (p := ⟨w.heap.size + 1 + 1, 0, none⟩) (by first | omega | (simp; done) | (simp; omega))).trans (by first | assumption | go_simp); have k6 : w4.cell? ⟨w.heap.size + 1 + 1, 1, none⟩ = some (.slice none 0 0) := (b4.cell (p := ⟨w.heap.size + 1 + 1, 1, none⟩) (by first | omega | (simp; done) | (simp; omega))).trans (by first | assumption | go_simp); have k7 : w4.cell? ⟨b6, 0, none⟩ = some (.int .i64 N) := (b4.cell (p := ⟨b6, 0, none⟩) (by first | omega | (simp; done) | (simp; omega))).trans (by first | assumption | go_simp); have k8 : w4.cell? ⟨b6, 1, none⟩ = some (.slice A2 s d2) := (b4.cell (p := ⟨b6, 1, none⟩) (by first | omega | (simp; done) | (simp; omega))).trans (by first | assumption | go_simp); have h0 : w4.frozen? ⟨w.heap.size + 1 + 1, 0, none⟩ = false := (b4.frozen (p := ⟨w.heap.size + 1 + 1, 0, none⟩) (by first | omega | (simp; done) | (simp; omega))).trans (by first | assumption | go_simp); have h1 : w4.frozen? ⟨w.heap.size + 1 + 1, 1, none⟩ = false := (b4.frozen (p := ⟨w.heap.size + 1 + 1, 1, none⟩) (by first | omega | (simp; done) | (simp; omega))).trans (by first | assumption | go_simp); have h2 : w4.frozen? ⟨b6, 1, none⟩ = false := (b4.frozen (p := ⟨b6, 1, none⟩) (by first | omega | (simp; done) | (simp; omega))).trans (by first | assumption | go_simp); have sz4 : b6 < w4.heap.size := Nat.lt_of_lt_of_le (by first | omega | (simp; done) | (simp; omega)) b4.size; have HO4 := Lib.hid (own_below (own_drew HOQ.out) b4); have B4 : Below w.heap.size w w4 := (by repeat (first | exact Below.refl _ _ | refine below_step (by assumption) (by first | omega | (simp; done) | (simp; omega)) ?_ | refine below_drewN ?_ _ | refine Below.drew ?_ | refine Below.setCell ?_ (by first | omega | (simp; done) | (simp; omega)) _ | refine Below.alloc ?_ (by first | omega | (simp; done) | (simp; omega)) _)); have x0 : w.heap.size < w4.heap.size := (by omega); have x1 : w.heap.size + 1 < w4.heap.size := (by omega); have x2 : w.heap.size + 1 + 1 < w4.heap.size := (by omega); have nx0 : (w4.heap.size = w.heap.size) = False := eq_false (by omega); have nx1 : (w4.heap.size = w.heap.size + 1) = False := eq_false (by omega); have nx2 : (w4.heap.size = w.heap.size + 1 + 1) = False := eq_false (by omega); have nx3 : (w4.heap.size = b6) = False := eq_false (by omega); have ny0 : (w.heap.size = w4.heap.size) = False := eq_false (by omega); have ny1 : (w.heap.size + 1 = w4.heap.size) = False := eq_false (by omega); have ny2 : (w.heap.size + 1 + 1 = w4.heap.size) = False := eq_false (by omega); have ny3 : (b6 = w4.heap.size) = False := eq_false (by omega)))
            all_goals
              have hnx := tgL_next N zs ⟨u, v, x⟩ i j
              have ho6 := HO5.out
              rw [show ([Value.int .i64 r] : List Value) = [tightAt N zs ⟨u, v, x⟩ i j].map intV from by rw [← HR3.out]; rfl, ← List.map_append, ← hnx] at ho6
              have HO6 := Lib.hid ho6
              clear ho6 hnx HO5
              go_wp2_with fail
              go_roundw
              case rel => exact ⟨j + 1, by omega, by go_num, s + 1, some ⟨g, 0, none⟩, cap, by rw [HSS.out, Nat.add_assoc], by go_simp, by go_simp, by go_simp, by go_simp, by go_simp, by go_simp, by go_simp, by go_simp, by go_simp, by go_simp, by go_simp, by go_simp, own_set HO6.out _ _ (by dsimp only; omega), by simpa [World.setCell] using sz5, (by repeat (first | exact Below.refl _ _ | refine below_step (by assumption) (by first | omega | (simp; done) | (simp; omega)) ?_ | refine below_drewN ?_ _ | refine Below.drew ?_ | refine Below.setCell ?_ (by first | omega | (simp; done) | (simp; omega)) _ | refine Below.alloc ?_ (by first | omega | (simp; done) | (simp; omega)) _))⟩
              case measure => simp [intOf]; omega
        · have hjn : j = N := by omega
          have hin2 := HIN.out
          rw [hjn, tgL_row, show i * N + N = (i + 1) * N + 0 from by rw [Nat.succ_mul]; rfl] at hin2
          have HIN2 := Lib.hid hin2
          clear hin2 HIN HOW HSS
          go_wp2_with fail
          go_roundw
          case rel => exact ⟨i + 1, by omega, by go_num, HIN2.out⟩
          case measure => simp [intOf]; omega
    · have hin : i = N := by omega
      have hs2 := HSS.out
      have ho2 := HOW.out
      rw [hin, tgL_all] at ho2
      rw [hin, Nat.add_zero] at hs2
      have HOW2 := Lib.hid ho2
      have HS2 := Lib.hid hs2
      clear HOW HSS HIN hs2 ho2
      go_wp2_with fail
      refine bodyPost_ret (v := tgV N A2 s d2 true) (by first | (simp [results, Try.results40, go_sem, tgV, grV]; done) | simp [*, results, Try.results40, go_sem, tgV, grV]) rfl ?_
      unfold TgEnd
      rw [tightR_yes HYES.out]
      refine ⟨A2, s, d2, rfl, by rw [HS2.out, tight_length], ?_, (by repeat (first | exact Below.refl _ _ | refine below_step (by assumption) (by first | omega | (simp; done) | (simp; omega)) ?_ | refine below_drewN ?_ _ | refine Below.drew ?_ | refine Below.setCell ?_ (by first | omega | (simp; done) | (simp; omega)) _ | refine Below.alloc ?_ (by first | omega | (simp; done) | (simp; omega)) _))⟩
      refine own_base (B := b6 + 1) ?_ (by omega)
      repeat (refine own_set ?_ _ _ (by dsimp only; omega))
      exact HOW2.out

end Go.Proofs.Ytdjaiijgdflopaa
