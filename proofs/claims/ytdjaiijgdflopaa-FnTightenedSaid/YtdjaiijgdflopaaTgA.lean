/-
  WALK of spec.TightenTable.
-/
import Derived.Test.YtdjaiijgdflopaaTbI
import Derived.Deep.RegionWith
import Derived.Deep.RegionLaw
import Derived.Deep.AppendLies
namespace Go.Proofs.Ytdjaiijgdflopaa
open Go.RowKit
set_option linter.unusedVariables false
set_option linter.unusedSimpArgs false

theorem tight_split (n : Int) (cs : List Int) (e : GE) : tightOk n cs e = (closedR n cs && (decide (0 ≤ e.u) && decide (e.u ≤ n - 1)) && (decide (0 ≤ e.v) && decide (e.v ≤ n - 1)) && (decide (-999999 ≤ e.c) && decide (e.c ≤ 999999)) && !decide (addI e.c (atT n.toNat cs e.v.toNat e.u.toNat) < 0)) := by
  unfold tightOk
  have h1 : decide (0 ≤ e.u ∧ e.u < n) = (decide (0 ≤ e.u) && decide (e.u ≤ n - 1)) := by rw [Bool.eq_iff_iff]; simp; omega
  have h2 : decide (0 ≤ e.v ∧ e.v < n) = (decide (0 ≤ e.v) && decide (e.v ≤ n - 1)) := by rw [Bool.eq_iff_iff]; simp; omega
  have h3 : decide (-1000000 < e.c ∧ e.c < 1000000) = (decide (-999999 ≤ e.c) && decide (e.c ≤ 999999)) := by rw [Bool.eq_iff_iff]; simp; omega
  rw [h1, h2, h3]
theorem closedR_ok {n : Int} {cs : List Int} (h : closedR n cs = true) : okT n cs = true := by
  unfold closedR at h; rw [Bool.and_eq_true] at h; exact h.1
/-- The table that comes out, and whether one does. -/
def tgV (n : Int) (A : Option Addr) (k c : Nat) (b : Bool) : Value := .tuple #[grV n A k c, .bool b]
theorem tightR_no {n : Int} {cs : List Int} {e : GE} (h : tightOk n cs e = false) : tightR n cs e = (0, [], false) := by unfold tightR; rw [if_neg (by rw [h]; simp)]
theorem tightR_yes {N : Nat} {cs : List Int} {e : GE} (h : tightOk N cs e = true) : tightR N cs e = ((N : Int), tightC N cs e, true) := by unfold tightR; rw [if_pos h]; simp
def TgEnd (n : Int) (cs : List Int) (e : GE) (w : World) (x : Ending) (w' : World) : Prop :=
  ∃ A k c, x = .returned (tgV (tightR n cs e).1 A k c (tightR n cs e).2.2) ∧ k = (tightR n cs e).2.1.length ∧ w'.ownsRow w.heap.size 3 1 (.slice A k c) k ((tightR n cs e).2.1.map intV) ∧ Below w.heap.size w w'
theorem TgEnd.no {n : Int} {cs : List Int} {e : GE} {w w' : World} (h : tightOk n cs e = false) (hb : Below w.heap.size w w') : TgEnd n cs e w (.returned (.tuple #[.agg #[.int .i64 0, .slice none 0 0], .bool false])) w' := by
  unfold TgEnd; rw [tightR_no h]
  exact ⟨none, 0, 0, rfl, rfl, World.ownsRow_nil _ _ _ _, hb⟩

set_option maxRecDepth 100000 in
set_option maxHeartbeats 4000000 in
/-- The ways on which there is no table. -/
theorem spec_Tighten_no (n : Int) (zs : List Int) (A : Option Addr) (k c : Nat) (u v x : Int) (w : World) (hn : zs.length = k) (hk : k ≤ 1048576) (hr : RowAt w A (zs.map intV)) (hno : tightOk n zs ⟨u, v, x⟩ = false) :
    Calls Try.prog 40 #[grV n A k c, .agg #[.int .i64 u, .int .i64 v, .int .i64 x]] w fun e w' => TgEnd n zs ⟨u, v, x⟩ w e w' := by
  have HT := Lib.hid (fun W h => spec_IsClosed n zs A k c W hn hk h)
  have HR := Lib.hid hr
  have HL := Lib.hid hn
  have HNO := Lib.hid hno
  have hsp := tight_split n zs ⟨u, v, x⟩
  rw [hno] at hsp
  dsimp only at hsp
  clear hr hn hno
  obtain ⟨b1, hb1⟩ : ∃ b, b = closedR n zs := ⟨_, rfl⟩
  obtain ⟨b2, hb2⟩ : ∃ b, b = (decide (0 ≤ u) && decide (u ≤ n - 1)) := ⟨_, rfl⟩
  obtain ⟨b3, hb3⟩ : ∃ b, b = (decide (0 ≤ v) && decide (v ≤ n - 1)) := ⟨_, rfl⟩
  obtain ⟨b4, hb4⟩ : ∃ b, b = (decide (-999999 ≤ x) && decide (x ≤ 999999)) := ⟨_, rfl⟩
  have i2 := l01In_any u 0 (n - 1)
  have i3 := l01In_any v 0 (n - 1)
  have i4 := l01In_any x (-999999) 999999
  rw [← hb1] at HT
  rw [← hb2] at i2
  rw [← hb3] at i3
  rw [← hb4] at i4
  rw [← hb1, ← hb2, ← hb3, ← hb4] at hsp
  have HI2 := Lib.hid i2
  have HI3 := Lib.hid i3
  have HI4 := Lib.hid i4
  have HB1 := Lib.hid hb1.symm
  have HB2 := Lib.hid hb2.symm
  have HB3 := Lib.hid hb3.symm
  have HSP := Lib.hid hsp
  clear hb1 hb2 hb3 hb4 i2 i3 i4 hsp
  have hrng : b1 = true → 0 ≤ n ∧ n ≤ 8 := fun h => by have := okT_rng (closedR_ok (HB1.out.trans h)); omega
  unfold grV at HT ⊢
  cases b1 with
  | false =>
    go_enter Try.func40, Try.ntmps40
    go_wp2_with fail
    obtain ⟨w1, hw1⟩ : ∃ w1, w1 = ((w.alloc (.cells #[.int .i64 n, .slice A k c] 29)).alloc (.cells #[.int .i64 u, .int .i64 v, .int .i64 x] 35)).alloc (.cells #[.int .i64 0, .slice none 0 0] 29) := ⟨_, rfl⟩
    rw [← hw1]
    have c0 : w1.cell? ⟨w.heap.size, 0, none⟩ = some (.int .i64 n) := by rw [hw1]; go_simp
    have c1 : w1.cell? ⟨w.heap.size, 1, none⟩ = some (.slice A k c) := by rw [hw1]; go_simp
    have c2 : w1.cell? ⟨w.heap.size + 1, 0, none⟩ = some (.int .i64 u) := by rw [hw1]; go_simp
    have c3 : w1.cell? ⟨w.heap.size + 1, 1, none⟩ = some (.int .i64 v) := by rw [hw1]; go_simp
    have c4 : w1.cell? ⟨w.heap.size + 1, 2, none⟩ = some (.int .i64 x) := by rw [hw1]; go_simp
    have c5 : w1.cell? ⟨w.heap.size + 1 + 1, 0, none⟩ = some (.int .i64 0) := by rw [hw1]; go_simp
    have c6 : w1.cell? ⟨w.heap.size + 1 + 1, 1, none⟩ = some (.slice none 0 0) := by rw [hw1]; go_simp
    have z0 : w1.frozen? ⟨w.heap.size + 1 + 1, 0, none⟩ = false := by rw [hw1]; go_simp
    have z1 : w1.frozen? ⟨w.heap.size + 1 + 1, 1, none⟩ = false := by rw [hw1]; go_simp
    have sz1 : w.heap.size + 1 + 1 < w1.heap.size := by rw [hw1]; simp
    have B1 : Below w.heap.size w w1 := by rw [hw1]; exact (by repeat (first | exact Below.refl _ _ | refine below_step (by assumption) (by first | omega | (simp; done) | (simp; omega)) ?_ | refine below_drewN ?_ _ | refine Below.drew ?_ | refine Below.setCell ?_ (by first | omega | (simp; done) | (simp; omega)) _ | refine Below.alloc ?_ (by first | omega | (simp; done) | (simp; omega)) _))
    have hrw := HR.out.below B1
    clear hw1
    obtain ⟨C, hC⟩ : ∃ C : World → Prop, C = fun W => Below w1.heap.size w1 W := ⟨_, rfl⟩
    have qb : ∀ W, C W → Below w1.heap.size w1 W := fun W h => by rw [hC] at h; exact h
    have qc : ∀ W, Below w1.heap.size w1 W → C W := fun W h => by rw [hC]; exact h
    have hC0 : C (World.drew w1) := qc _ (Below.refl _ _).drew
    have q0 : ∀ zc : WC C, zc.w.cell? ⟨w.heap.size, 0, none⟩ = some (.int .i64 n) := fun zc => ((qb _ zc.h).cell (p := ⟨w.heap.size, 0, none⟩) (by dsimp only; omega)).trans c0
    have q1 : ∀ zc : WC C, zc.w.cell? ⟨w.heap.size, 1, none⟩ = some (.slice A k c) := fun zc => ((qb _ zc.h).cell (p := ⟨w.heap.size, 1, none⟩) (by dsimp only; omega)).trans c1
    have q2 : ∀ zc : WC C, zc.w.cell? ⟨w.heap.size + 1, 0, none⟩ = some (.int .i64 u) := fun zc => ((qb _ zc.h).cell (p := ⟨w.heap.size + 1, 0, none⟩) (by dsimp only; omega)).trans c2
    have q3 : ∀ zc : WC C, zc.w.cell? ⟨w.heap.size + 1, 1, none⟩ = some (.int .i64 v) := fun zc => ((qb _ zc.h).cell (p := ⟨w.heap.size + 1, 1, none⟩) (by dsimp only; omega)).trans c3
    have q4 : ∀ zc : WC C, zc.w.cell? ⟨w.heap.size + 1, 2, none⟩ = some (.int .i64 x) := fun zc => ((qb _ zc.h).cell (p := ⟨w.heap.size + 1, 2, none⟩) (by dsimp only; omega)).trans c4
    have q5 : ∀ zc : WC C, zc.w.cell? ⟨w.heap.size + 1 + 1, 0, none⟩ = some (.int .i64 0) := fun zc => ((qb _ zc.h).cell (p := ⟨w.heap.size + 1 + 1, 0, none⟩) (by dsimp only; omega)).trans c5
    have q6 : ∀ zc : WC C, zc.w.cell? ⟨w.heap.size + 1 + 1, 1, none⟩ = some (.slice none 0 0) := fun zc => ((qb _ zc.h).cell (p := ⟨w.heap.size + 1 + 1, 1, none⟩) (by dsimp only; omega)).trans c6
    have A0 : Hid (∀  (zc : WC C), Calls Try.prog 39 #[.agg #[.int .i64 n, .slice A k c]] zc.w fun e w2 => e = .returned (.bool false) ∧ ∃ y : WC C, w2 = y.w) := Lib.hid (fun zc => wc_calls ((HT.out zc.w (hrw.below (qb _ zc.h))).mono fun e w2 k => ⟨k.1, qc _ ((qb _ zc.h).trans (k.2.mono (qb _ zc.h).size))⟩))
    have nwc : Nonempty (WC C) := ⟨⟨_, hC0⟩⟩
    clear hC
    refine region_wc C (by kernel_rfl) (by kernel_rfl) hC0 ?_
    repeat (go_big_quiet_step (first | (go_at_call 39; exact A0.out _)))
    refine wpQuiet_nil ?_
    rintro _ ⟨xq, rfl⟩
    have bq := qb _ xq.h
    have g0 := q0 xq
    have g1 := q1 xq
    have g2 := q2 xq
    have g3 := q3 xq
    have g4 := q4 xq
    have g5 := q5 xq
    have g6 := q6 xq
    obtain ⟨wq, hwq⟩ : ∃ wq, wq = xq.w := ⟨_, rfl⟩
    rw [← hwq] at bq g0 g1 g2 g3 g4 g5 g6 ⊢
    have k5 := g5
    have k6 := g6
    have e0 := (bq.frozen (p := ⟨w.heap.size + 1 + 1, 0, none⟩) (by dsimp only; omega)).trans z0
    have e1 := (bq.frozen (p := ⟨w.heap.size + 1 + 1, 1, none⟩) (by dsimp only; omega)).trans z1
    have szq : w.heap.size + 1 + 1 < wq.heap.size := Nat.lt_of_lt_of_le sz1 bq.size
    have BQ : Below w.heap.size w wq := B1.trans (bq.mono B1.size)
    clear hwq xq nwc hC0 qb qc q0 q1 q2 q3 q4 q5 q6 A0 C bq
    go_wp2_with fail
    refine bodyPost_ret (v := .tuple #[.agg #[.int .i64 0, .slice none 0 0], .bool false]) (by first | (simp [results, Try.results40, go_sem]; done) | simp [*, results, Try.results40, go_sem]) rfl (TgEnd.no HNO.out (by repeat (first | exact Below.refl _ _ | refine below_step (by assumption) (by first | omega | (simp; done) | (simp; omega)) ?_ | refine below_drewN ?_ _ | refine Below.drew ?_ | refine Below.setCell ?_ (by first | omega | (simp; done) | (simp; omega)) _ | refine Below.alloc ?_ (by first | omega | (simp; done) | (simp; omega)) _)))
  | true =>
    cases b2 with
    | false =>
      have := hrng rfl
      go_enter Try.func40, Try.ntmps40
      go_wp2_with fail
      obtain ⟨w1, hw1⟩ : ∃ w1, w1 = ((w.alloc (.cells #[.int .i64 n, .slice A k c] 29)).alloc (.cells #[.int .i64 u, .int .i64 v, .int .i64 x] 35)).alloc (.cells #[.int .i64 0, .slice none 0 0] 29) := ⟨_, rfl⟩
      rw [← hw1]
      have c0 : w1.cell? ⟨w.heap.size, 0, none⟩ = some (.int .i64 n) := by rw [hw1]; go_simp
      have c1 : w1.cell? ⟨w.heap.size, 1, none⟩ = some (.slice A k c) := by rw [hw1]; go_simp
      have c2 : w1.cell? ⟨w.heap.size + 1, 0, none⟩ = some (.int .i64 u) := by rw [hw1]; go_simp
      have c3 : w1.cell? ⟨w.heap.size + 1, 1, none⟩ = some (.int .i64 v) := by rw [hw1]; go_simp
      have c4 : w1.cell? ⟨w.heap.size + 1, 2, none⟩ = some (.int .i64 x) := by rw [hw1]; go_simp
      have c5 : w1.cell? ⟨w.heap.size + 1 + 1, 0, none⟩ = some (.int .i64 0) := by rw [hw1]; go_simp
      have c6 : w1.cell? ⟨w.heap.size + 1 + 1, 1, none⟩ = some (.slice none 0 0) := by rw [hw1]; go_simp
      have z0 : w1.frozen? ⟨w.heap.size + 1 + 1, 0, none⟩ = false := by rw [hw1]; go_simp
      have z1 : w1.frozen? ⟨w.heap.size + 1 + 1, 1, none⟩ = false := by rw [hw1]; go_simp
      have sz1 : w.heap.size + 1 + 1 < w1.heap.size := by rw [hw1]; simp
      have B1 : Below w.heap.size w w1 := by rw [hw1]; exact (by repeat (first | exact Below.refl _ _ | refine below_step (by assumption) (by first | omega | (simp; done) | (simp; omega)) ?_ | refine below_drewN ?_ _ | refine Below.drew ?_ | refine Below.setCell ?_ (by first | omega | (simp; done) | (simp; omega)) _ | refine Below.alloc ?_ (by first | omega | (simp; done) | (simp; omega)) _))
      have hrw := HR.out.below B1
      clear hw1
      obtain ⟨C, hC⟩ : ∃ C : World → Prop, C = fun W => Below w1.heap.size w1 W := ⟨_, rfl⟩
      have qb : ∀ W, C W → Below w1.heap.size w1 W := fun W h => by rw [hC] at h; exact h
      have qc : ∀ W, Below w1.heap.size w1 W → C W := fun W h => by rw [hC]; exact h
      have hC0 : C (World.drew w1) := qc _ (Below.refl _ _).drew
      have q0 : ∀ zc : WC C, zc.w.cell? ⟨w.heap.size, 0, none⟩ = some (.int .i64 n) := fun zc => ((qb _ zc.h).cell (p := ⟨w.heap.size, 0, none⟩) (by dsimp only; omega)).trans c0
      have q1 : ∀ zc : WC C, zc.w.cell? ⟨w.heap.size, 1, none⟩ = some (.slice A k c) := fun zc => ((qb _ zc.h).cell (p := ⟨w.heap.size, 1, none⟩) (by dsimp only; omega)).trans c1
      have q2 : ∀ zc : WC C, zc.w.cell? ⟨w.heap.size + 1, 0, none⟩ = some (.int .i64 u) := fun zc => ((qb _ zc.h).cell (p := ⟨w.heap.size + 1, 0, none⟩) (by dsimp only; omega)).trans c2
      have q3 : ∀ zc : WC C, zc.w.cell? ⟨w.heap.size + 1, 1, none⟩ = some (.int .i64 v) := fun zc => ((qb _ zc.h).cell (p := ⟨w.heap.size + 1, 1, none⟩) (by dsimp only; omega)).trans c3
      have q4 : ∀ zc : WC C, zc.w.cell? ⟨w.heap.size + 1, 2, none⟩ = some (.int .i64 x) := fun zc => ((qb _ zc.h).cell (p := ⟨w.heap.size + 1, 2, none⟩) (by dsimp only; omega)).trans c4
      have q5 : ∀ zc : WC C, zc.w.cell? ⟨w.heap.size + 1 + 1, 0, none⟩ = some (.int .i64 0) := fun zc => ((qb _ zc.h).cell (p := ⟨w.heap.size + 1 + 1, 0, none⟩) (by dsimp only; omega)).trans c5
      have q6 : ∀ zc : WC C, zc.w.cell? ⟨w.heap.size + 1 + 1, 1, none⟩ = some (.slice none 0 0) := fun zc => ((qb _ zc.h).cell (p := ⟨w.heap.size + 1 + 1, 1, none⟩) (by dsimp only; omega)).trans c6
      have A0 : Hid (∀  (zc : WC C), Calls Try.prog 39 #[.agg #[.int .i64 n, .slice A k c]] zc.w fun e w2 => e = .returned (.bool true) ∧ ∃ y : WC C, w2 = y.w) := Lib.hid (fun zc => wc_calls ((HT.out zc.w (hrw.below (qb _ zc.h))).mono fun e w2 k => ⟨k.1, qc _ ((qb _ zc.h).trans (k.2.mono (qb _ zc.h).size))⟩))
      have A2 : Hid (∀  (zc : WC C), Calls Try.prog 72 #[.int .i64 u, .int .i64 (0), .int .i64 (n - 1)] zc.w fun e w2 => e = .returned (.bool false) ∧ ∃ y : WC C, w2 = y.w) := Lib.hid (fun zc => wc_calls ((HI2.out zc.w).mono fun e w2 k => ⟨k.1, by rw [← k.2]; exact zc.h⟩))
      have nwc : Nonempty (WC C) := ⟨⟨_, hC0⟩⟩
      clear hC
      refine region_wc C (by kernel_rfl) (by kernel_rfl) hC0 ?_
      repeat (go_big_quiet_step (first | (go_at_call 39; exact A0.out _) | (go_at_call_of 72 (Value.int .i64 u); exact A2.out _)))
      refine wpQuiet_nil ?_
      rintro _ ⟨xq, rfl⟩
      have bq := qb _ xq.h
      have g0 := q0 xq
      have g1 := q1 xq
      have g2 := q2 xq
      have g3 := q3 xq
      have g4 := q4 xq
      have g5 := q5 xq
      have g6 := q6 xq
      obtain ⟨wq, hwq⟩ : ∃ wq, wq = xq.w := ⟨_, rfl⟩
      rw [← hwq] at bq g0 g1 g2 g3 g4 g5 g6 ⊢
      have k5 := g5
      have k6 := g6
      have e0 := (bq.frozen (p := ⟨w.heap.size + 1 + 1, 0, none⟩) (by dsimp only; omega)).trans z0
      have e1 := (bq.frozen (p := ⟨w.heap.size + 1 + 1, 1, none⟩) (by dsimp only; omega)).trans z1
      have szq : w.heap.size + 1 + 1 < wq.heap.size := Nat.lt_of_lt_of_le sz1 bq.size
      have BQ : Below w.heap.size w wq := B1.trans (bq.mono B1.size)
      clear hwq xq nwc hC0 qb qc q0 q1 q2 q3 q4 q5 q6 A0 A2 C bq
      go_wp2_with fail
      refine bodyPost_ret (v := .tuple #[.agg #[.int .i64 0, .slice none 0 0], .bool false]) (by first | (simp [results, Try.results40, go_sem]; done) | simp [*, results, Try.results40, go_sem]) rfl (TgEnd.no HNO.out (by repeat (first | exact Below.refl _ _ | refine below_step (by assumption) (by first | omega | (simp; done) | (simp; omega)) ?_ | refine below_drewN ?_ _ | refine Below.drew ?_ | refine Below.setCell ?_ (by first | omega | (simp; done) | (simp; omega)) _ | refine Below.alloc ?_ (by first | omega | (simp; done) | (simp; omega)) _)))
    | true =>
      have := hrng rfl
      cases b3 with
      | false =>
        go_enter Try.func40, Try.ntmps40
        go_wp2_with fail
        obtain ⟨w1, hw1⟩ : ∃ w1, w1 = ((w.alloc (.cells #[.int .i64 n, .slice A k c] 29)).alloc (.cells #[.int .i64 u, .int .i64 v, .int .i64 x] 35)).alloc (.cells #[.int .i64 0, .slice none 0 0] 29) := ⟨_, rfl⟩
        rw [← hw1]
        have c0 : w1.cell? ⟨w.heap.size, 0, none⟩ = some (.int .i64 n) := by rw [hw1]; go_simp
        have c1 : w1.cell? ⟨w.heap.size, 1, none⟩ = some (.slice A k c) := by rw [hw1]; go_simp
        have c2 : w1.cell? ⟨w.heap.size + 1, 0, none⟩ = some (.int .i64 u) := by rw [hw1]; go_simp
        have c3 : w1.cell? ⟨w.heap.size + 1, 1, none⟩ = some (.int .i64 v) := by rw [hw1]; go_simp
        have c4 : w1.cell? ⟨w.heap.size + 1, 2, none⟩ = some (.int .i64 x) := by rw [hw1]; go_simp
        have c5 : w1.cell? ⟨w.heap.size + 1 + 1, 0, none⟩ = some (.int .i64 0) := by rw [hw1]; go_simp
        have c6 : w1.cell? ⟨w.heap.size + 1 + 1, 1, none⟩ = some (.slice none 0 0) := by rw [hw1]; go_simp
        have z0 : w1.frozen? ⟨w.heap.size + 1 + 1, 0, none⟩ = false := by rw [hw1]; go_simp
        have z1 : w1.frozen? ⟨w.heap.size + 1 + 1, 1, none⟩ = false := by rw [hw1]; go_simp
        have sz1 : w.heap.size + 1 + 1 < w1.heap.size := by rw [hw1]; simp
        have B1 : Below w.heap.size w w1 := by rw [hw1]; exact (by repeat (first | exact Below.refl _ _ | refine below_step (by assumption) (by first | omega | (simp; done) | (simp; omega)) ?_ | refine below_drewN ?_ _ | refine Below.drew ?_ | refine Below.setCell ?_ (by first | omega | (simp; done) | (simp; omega)) _ | refine Below.alloc ?_ (by first | omega | (simp; done) | (simp; omega)) _))
        have hrw := HR.out.below B1
        clear hw1
        obtain ⟨C, hC⟩ : ∃ C : World → Prop, C = fun W => Below w1.heap.size w1 W := ⟨_, rfl⟩
        have qb : ∀ W, C W → Below w1.heap.size w1 W := fun W h => by rw [hC] at h; exact h
        have qc : ∀ W, Below w1.heap.size w1 W → C W := fun W h => by rw [hC]; exact h
        have hC0 : C (World.drew w1) := qc _ (Below.refl _ _).drew
        have q0 : ∀ zc : WC C, zc.w.cell? ⟨w.heap.size, 0, none⟩ = some (.int .i64 n) := fun zc => ((qb _ zc.h).cell (p := ⟨w.heap.size, 0, none⟩) (by dsimp only; omega)).trans c0
        have q1 : ∀ zc : WC C, zc.w.cell? ⟨w.heap.size, 1, none⟩ = some (.slice A k c) := fun zc => ((qb _ zc.h).cell (p := ⟨w.heap.size, 1, none⟩) (by dsimp only; omega)).trans c1
        have q2 : ∀ zc : WC C, zc.w.cell? ⟨w.heap.size + 1, 0, none⟩ = some (.int .i64 u) := fun zc => ((qb _ zc.h).cell (p := ⟨w.heap.size + 1, 0, none⟩) (by dsimp only; omega)).trans c2
        have q3 : ∀ zc : WC C, zc.w.cell? ⟨w.heap.size + 1, 1, none⟩ = some (.int .i64 v) := fun zc => ((qb _ zc.h).cell (p := ⟨w.heap.size + 1, 1, none⟩) (by dsimp only; omega)).trans c3
        have q4 : ∀ zc : WC C, zc.w.cell? ⟨w.heap.size + 1, 2, none⟩ = some (.int .i64 x) := fun zc => ((qb _ zc.h).cell (p := ⟨w.heap.size + 1, 2, none⟩) (by dsimp only; omega)).trans c4
        have q5 : ∀ zc : WC C, zc.w.cell? ⟨w.heap.size + 1 + 1, 0, none⟩ = some (.int .i64 0) := fun zc => ((qb _ zc.h).cell (p := ⟨w.heap.size + 1 + 1, 0, none⟩) (by dsimp only; omega)).trans c5
        have q6 : ∀ zc : WC C, zc.w.cell? ⟨w.heap.size + 1 + 1, 1, none⟩ = some (.slice none 0 0) := fun zc => ((qb _ zc.h).cell (p := ⟨w.heap.size + 1 + 1, 1, none⟩) (by dsimp only; omega)).trans c6
        have A0 : Hid (∀  (zc : WC C), Calls Try.prog 39 #[.agg #[.int .i64 n, .slice A k c]] zc.w fun e w2 => e = .returned (.bool true) ∧ ∃ y : WC C, w2 = y.w) := Lib.hid (fun zc => wc_calls ((HT.out zc.w (hrw.below (qb _ zc.h))).mono fun e w2 k => ⟨k.1, qc _ ((qb _ zc.h).trans (k.2.mono (qb _ zc.h).size))⟩))
        have A2 : Hid (∀  (zc : WC C), Calls Try.prog 72 #[.int .i64 u, .int .i64 (0), .int .i64 (n - 1)] zc.w fun e w2 => e = .returned (.bool true) ∧ ∃ y : WC C, w2 = y.w) := Lib.hid (fun zc => wc_calls ((HI2.out zc.w).mono fun e w2 k => ⟨k.1, by rw [← k.2]; exact zc.h⟩))
        have A3 : Hid (∀  (zc : WC C), Calls Try.prog 72 #[.int .i64 v, .int .i64 (0), .int .i64 (n - 1)] zc.w fun e w2 => e = .returned (.bool false) ∧ ∃ y : WC C, w2 = y.w) := Lib.hid (fun zc => wc_calls ((HI3.out zc.w).mono fun e w2 k => ⟨k.1, by rw [← k.2]; exact zc.h⟩))
        have nwc : Nonempty (WC C) := ⟨⟨_, hC0⟩⟩
        clear hC
        refine region_wc C (by kernel_rfl) (by kernel_rfl) hC0 ?_
        repeat (go_big_quiet_step (first | (go_at_call 39; exact A0.out _) | (go_at_call_of 72 (Value.int .i64 u); exact A2.out _) | (go_at_call_of 72 (Value.int .i64 v); exact A3.out _)))
        refine wpQuiet_nil ?_
        rintro _ ⟨xq, rfl⟩
        have bq := qb _ xq.h
        have g0 := q0 xq
        have g1 := q1 xq
        have g2 := q2 xq
        have g3 := q3 xq
        have g4 := q4 xq
        have g5 := q5 xq
        have g6 := q6 xq
        obtain ⟨wq, hwq⟩ : ∃ wq, wq = xq.w := ⟨_, rfl⟩
        rw [← hwq] at bq g0 g1 g2 g3 g4 g5 g6 ⊢
        have k5 := g5
        have k6 := g6
        have e0 := (bq.frozen (p := ⟨w.heap.size + 1 + 1, 0, none⟩) (by dsimp only; omega)).trans z0
        have e1 := (bq.frozen (p := ⟨w.heap.size + 1 + 1, 1, none⟩) (by dsimp only; omega)).trans z1
        have szq : w.heap.size + 1 + 1 < wq.heap.size := Nat.lt_of_lt_of_le sz1 bq.size
        have BQ : Below w.heap.size w wq := B1.trans (bq.mono B1.size)
        clear hwq xq nwc hC0 qb qc q0 q1 q2 q3 q4 q5 q6 A0 A2 A3 C bq
        go_wp2_with fail
        refine bodyPost_ret (v := .tuple #[.agg #[.int .i64 0, .slice none 0 0], .bool false]) (by first | (simp [results, Try.results40, go_sem]; done) | simp [*, results, Try.results40, go_sem]) rfl (TgEnd.no HNO.out (by repeat (first | exact Below.refl _ _ | refine below_step (by assumption) (by first | omega | (simp; done) | (simp; omega)) ?_ | refine below_drewN ?_ _ | refine Below.drew ?_ | refine Below.setCell ?_ (by first | omega | (simp; done) | (simp; omega)) _ | refine Below.alloc ?_ (by first | omega | (simp; done) | (simp; omega)) _)))
      | true =>
        cases b4 with
        | false =>
          go_enter Try.func40, Try.ntmps40
          go_wp2_with fail
          obtain ⟨w1, hw1⟩ : ∃ w1, w1 = ((w.alloc (.cells #[.int .i64 n, .slice A k c] 29)).alloc (.cells #[.int .i64 u, .int .i64 v, .int .i64 x] 35)).alloc (.cells #[.int .i64 0, .slice none 0 0] 29) := ⟨_, rfl⟩
          rw [← hw1]
          have c0 : w1.cell? ⟨w.heap.size, 0, none⟩ = some (.int .i64 n) := by rw [hw1]; go_simp
          have c1 : w1.cell? ⟨w.heap.size, 1, none⟩ = some (.slice A k c) := by rw [hw1]; go_simp
          have c2 : w1.cell? ⟨w.heap.size + 1, 0, none⟩ = some (.int .i64 u) := by rw [hw1]; go_simp
          have c3 : w1.cell? ⟨w.heap.size + 1, 1, none⟩ = some (.int .i64 v) := by rw [hw1]; go_simp
          have c4 : w1.cell? ⟨w.heap.size + 1, 2, none⟩ = some (.int .i64 x) := by rw [hw1]; go_simp
          have c5 : w1.cell? ⟨w.heap.size + 1 + 1, 0, none⟩ = some (.int .i64 0) := by rw [hw1]; go_simp
          have c6 : w1.cell? ⟨w.heap.size + 1 + 1, 1, none⟩ = some (.slice none 0 0) := by rw [hw1]; go_simp
          have z0 : w1.frozen? ⟨w.heap.size + 1 + 1, 0, none⟩ = false := by rw [hw1]; go_simp
          have z1 : w1.frozen? ⟨w.heap.size + 1 + 1, 1, none⟩ = false := by rw [hw1]; go_simp
          have sz1 : w.heap.size + 1 + 1 < w1.heap.size := by rw [hw1]; simp
          have B1 : Below w.heap.size w w1 := by rw [hw1]; exact (by repeat (first | exact Below.refl _ _ | refine below_step (by assumption) (by first | omega | (simp; done) | (simp; omega)) ?_ | refine below_drewN ?_ _ | refine Below.drew ?_ | refine Below.setCell ?_ (by first | omega | (simp; done) | (simp; omega)) _ | refine Below.alloc ?_ (by first | omega | (simp; done) | (simp; omega)) _))
          have hrw := HR.out.below B1
          clear hw1
          obtain ⟨C, hC⟩ : ∃ C : World → Prop, C = fun W => Below w1.heap.size w1 W := ⟨_, rfl⟩
          have qb : ∀ W, C W → Below w1.heap.size w1 W := fun W h => by rw [hC] at h; exact h
          have qc : ∀ W, Below w1.heap.size w1 W → C W := fun W h => by rw [hC]; exact h
          have hC0 : C (World.drew w1) := qc _ (Below.refl _ _).drew
          have q0 : ∀ zc : WC C, zc.w.cell? ⟨w.heap.size, 0, none⟩ = some (.int .i64 n) := fun zc => ((qb _ zc.h).cell (p := ⟨w.heap.size, 0, none⟩) (by dsimp only; omega)).trans c0
          have q1 : ∀ zc : WC C, zc.w.cell? ⟨w.heap.size, 1, none⟩ = some (.slice A k c) := fun zc => ((qb _ zc.h).cell (p := ⟨w.heap.size, 1, none⟩) (by dsimp only; omega)).trans c1
          have q2 : ∀ zc : WC C, zc.w.cell? ⟨w.heap.size + 1, 0, none⟩ = some (.int .i64 u) := fun zc => ((qb _ zc.h).cell (p := ⟨w.heap.size + 1, 0, none⟩) (by dsimp only; omega)).trans c2
          have q3 : ∀ zc : WC C, zc.w.cell? ⟨w.heap.size + 1, 1, none⟩ = some (.int .i64 v) := fun zc => ((qb _ zc.h).cell (p := ⟨w.heap.size + 1, 1, none⟩) (by dsimp only; omega)).trans c3
          have q4 : ∀ zc : WC C, zc.w.cell? ⟨w.heap.size + 1, 2, none⟩ = some (.int .i64 x) := fun zc => ((qb _ zc.h).cell (p := ⟨w.heap.size + 1, 2, none⟩) (by dsimp only; omega)).trans c4
          have q5 : ∀ zc : WC C, zc.w.cell? ⟨w.heap.size + 1 + 1, 0, none⟩ = some (.int .i64 0) := fun zc => ((qb _ zc.h).cell (p := ⟨w.heap.size + 1 + 1, 0, none⟩) (by dsimp only; omega)).trans c5
          have q6 : ∀ zc : WC C, zc.w.cell? ⟨w.heap.size + 1 + 1, 1, none⟩ = some (.slice none 0 0) := fun zc => ((qb _ zc.h).cell (p := ⟨w.heap.size + 1 + 1, 1, none⟩) (by dsimp only; omega)).trans c6
          have A0 : Hid (∀  (zc : WC C), Calls Try.prog 39 #[.agg #[.int .i64 n, .slice A k c]] zc.w fun e w2 => e = .returned (.bool true) ∧ ∃ y : WC C, w2 = y.w) := Lib.hid (fun zc => wc_calls ((HT.out zc.w (hrw.below (qb _ zc.h))).mono fun e w2 k => ⟨k.1, qc _ ((qb _ zc.h).trans (k.2.mono (qb _ zc.h).size))⟩))
          have A2 : Hid (∀  (zc : WC C), Calls Try.prog 72 #[.int .i64 u, .int .i64 (0), .int .i64 (n - 1)] zc.w fun e w2 => e = .returned (.bool true) ∧ ∃ y : WC C, w2 = y.w) := Lib.hid (fun zc => wc_calls ((HI2.out zc.w).mono fun e w2 k => ⟨k.1, by rw [← k.2]; exact zc.h⟩))
          have A3 : Hid (∀  (zc : WC C), Calls Try.prog 72 #[.int .i64 v, .int .i64 (0), .int .i64 (n - 1)] zc.w fun e w2 => e = .returned (.bool true) ∧ ∃ y : WC C, w2 = y.w) := Lib.hid (fun zc => wc_calls ((HI3.out zc.w).mono fun e w2 k => ⟨k.1, by rw [← k.2]; exact zc.h⟩))
          have A4 : Hid (∀  (zc : WC C), Calls Try.prog 72 #[.int .i64 x, .int .i64 (-999999), .int .i64 (999999)] zc.w fun e w2 => e = .returned (.bool false) ∧ ∃ y : WC C, w2 = y.w) := Lib.hid (fun zc => wc_calls ((HI4.out zc.w).mono fun e w2 k => ⟨k.1, by rw [← k.2]; exact zc.h⟩))
          have nwc : Nonempty (WC C) := ⟨⟨_, hC0⟩⟩
          clear hC
          refine region_wc C (by kernel_rfl) (by kernel_rfl) hC0 ?_
          repeat (go_big_quiet_step (first | (go_at_call 39; exact A0.out _) | (go_at_call_of 72 (Value.int .i64 u); exact A2.out _) | (go_at_call_of 72 (Value.int .i64 v); exact A3.out _) | (go_at_call_of 72 (Value.int .i64 x); exact A4.out _)))
          refine wpQuiet_nil ?_
          rintro _ ⟨xq, rfl⟩
          have bq := qb _ xq.h
          have g0 := q0 xq
          have g1 := q1 xq
          have g2 := q2 xq
          have g3 := q3 xq
          have g4 := q4 xq
          have g5 := q5 xq
          have g6 := q6 xq
          obtain ⟨wq, hwq⟩ : ∃ wq, wq = xq.w := ⟨_, rfl⟩
          rw [← hwq] at bq g0 g1 g2 g3 g4 g5 g6 ⊢
          have k5 := g5
          have k6 := g6
          have e0 := (bq.frozen (p := ⟨w.heap.size + 1 + 1, 0, none⟩) (by dsimp only; omega)).trans z0
          have e1 := (bq.frozen (p := ⟨w.heap.size + 1 + 1, 1, none⟩) (by dsimp only; omega)).trans z1
          have szq : w.heap.size + 1 + 1 < wq.heap.size := Nat.lt_of_lt_of_le sz1 bq.size
          have BQ : Below w.heap.size w wq := B1.trans (bq.mono B1.size)
          clear hwq xq nwc hC0 qb qc q0 q1 q2 q3 q4 q5 q6 A0 A2 A3 A4 C bq
          go_wp2_with fail
          refine bodyPost_ret (v := .tuple #[.agg #[.int .i64 0, .slice none 0 0], .bool false]) (by first | (simp [results, Try.results40, go_sem]; done) | simp [*, results, Try.results40, go_sem]) rfl (TgEnd.no HNO.out (by repeat (first | exact Below.refl _ _ | refine below_step (by assumption) (by first | omega | (simp; done) | (simp; omega)) ?_ | refine below_drewN ?_ _ | refine Below.drew ?_ | refine Below.setCell ?_ (by first | omega | (simp; done) | (simp; omega)) _ | refine Below.alloc ?_ (by first | omega | (simp; done) | (simp; omega)) _)))
        | true =>
          have r2 := HB2.out
          have r3 := HB3.out
          simp at r2 r3
          obtain ⟨N, rfl⟩ : ∃ N : Nat, n = N := ⟨n.toNat, by omega⟩
          obtain ⟨u, rfl⟩ : ∃ q : Nat, u = q := ⟨u.toNat, by omega⟩
          obtain ⟨v, rfl⟩ : ∃ q : Nat, v = q := ⟨v.toNat, by omega⟩
          have hN8 : N ≤ 8 := by omega
          have huN : u < N := by omega
          have hvN : v < N := by omega
          have hok := closedR_ok HB1.out
          have hkN : k = N * N := by have h1 := (okT_rng hok).2.2; have h2 := HL.out; rw [h2] at h1; exact_mod_cast h1
          have HAT := Lib.hid (fun (a b : Nat) W ha hb h => l04At_any N a b zs A k c W hN8 ha hb HL.out hkN h)
          unfold grV at HAT
          have hsp := HSP.out
          simp only [Bool.true_and, Int.toNat_natCast] at hsp
          have hneg : addI x (atT N zs v u) < 0 := by simpa using hsp.symm
          clear hsp hkN r2 r3 hrng
          go_enter Try.func40, Try.ntmps40
          go_wp2_with fail
          obtain ⟨w1, hw1⟩ : ∃ w1, w1 = ((w.alloc (.cells #[.int .i64 N, .slice A k c] 29)).alloc (.cells #[.int .i64 u, .int .i64 v, .int .i64 x] 35)).alloc (.cells #[.int .i64 0, .slice none 0 0] 29) := ⟨_, rfl⟩
          rw [← hw1]
          have c0 : w1.cell? ⟨w.heap.size, 0, none⟩ = some (.int .i64 N) := by rw [hw1]; go_simp
          have c1 : w1.cell? ⟨w.heap.size, 1, none⟩ = some (.slice A k c) := by rw [hw1]; go_simp
          have c2 : w1.cell? ⟨w.heap.size + 1, 0, none⟩ = some (.int .i64 u) := by rw [hw1]; go_simp
          have c3 : w1.cell? ⟨w.heap.size + 1, 1, none⟩ = some (.int .i64 v) := by rw [hw1]; go_simp
          have c4 : w1.cell? ⟨w.heap.size + 1, 2, none⟩ = some (.int .i64 x) := by rw [hw1]; go_simp
          have c5 : w1.cell? ⟨w.heap.size + 1 + 1, 0, none⟩ = some (.int .i64 0) := by rw [hw1]; go_simp
          have c6 : w1.cell? ⟨w.heap.size + 1 + 1, 1, none⟩ = some (.slice none 0 0) := by rw [hw1]; go_simp
          have z0 : w1.frozen? ⟨w.heap.size + 1 + 1, 0, none⟩ = false := by rw [hw1]; go_simp
          have z1 : w1.frozen? ⟨w.heap.size + 1 + 1, 1, none⟩ = false := by rw [hw1]; go_simp
          have sz1 : w.heap.size + 1 + 1 < w1.heap.size := by rw [hw1]; simp
          have B1 : Below w.heap.size w w1 := by rw [hw1]; exact (by repeat (first | exact Below.refl _ _ | refine below_step (by assumption) (by first | omega | (simp; done) | (simp; omega)) ?_ | refine below_drewN ?_ _ | refine Below.drew ?_ | refine Below.setCell ?_ (by first | omega | (simp; done) | (simp; omega)) _ | refine Below.alloc ?_ (by first | omega | (simp; done) | (simp; omega)) _))
          have hrw := HR.out.below B1
          clear hw1
          obtain ⟨C, hC⟩ : ∃ C : World → Prop, C = fun W => Below w1.heap.size w1 W := ⟨_, rfl⟩
          have qb : ∀ W, C W → Below w1.heap.size w1 W := fun W h => by rw [hC] at h; exact h
          have qc : ∀ W, Below w1.heap.size w1 W → C W := fun W h => by rw [hC]; exact h
          have hC0 : C (World.drew w1) := qc _ (Below.refl _ _).drew
          have q0 : ∀ zc : WC C, zc.w.cell? ⟨w.heap.size, 0, none⟩ = some (.int .i64 N) := fun zc => ((qb _ zc.h).cell (p := ⟨w.heap.size, 0, none⟩) (by dsimp only; omega)).trans c0
          have q1 : ∀ zc : WC C, zc.w.cell? ⟨w.heap.size, 1, none⟩ = some (.slice A k c) := fun zc => ((qb _ zc.h).cell (p := ⟨w.heap.size, 1, none⟩) (by dsimp only; omega)).trans c1
          have q2 : ∀ zc : WC C, zc.w.cell? ⟨w.heap.size + 1, 0, none⟩ = some (.int .i64 u) := fun zc => ((qb _ zc.h).cell (p := ⟨w.heap.size + 1, 0, none⟩) (by dsimp only; omega)).trans c2
          have q3 : ∀ zc : WC C, zc.w.cell? ⟨w.heap.size + 1, 1, none⟩ = some (.int .i64 v) := fun zc => ((qb _ zc.h).cell (p := ⟨w.heap.size + 1, 1, none⟩) (by dsimp only; omega)).trans c3
          have q4 : ∀ zc : WC C, zc.w.cell? ⟨w.heap.size + 1, 2, none⟩ = some (.int .i64 x) := fun zc => ((qb _ zc.h).cell (p := ⟨w.heap.size + 1, 2, none⟩) (by dsimp only; omega)).trans c4
          have q5 : ∀ zc : WC C, zc.w.cell? ⟨w.heap.size + 1 + 1, 0, none⟩ = some (.int .i64 0) := fun zc => ((qb _ zc.h).cell (p := ⟨w.heap.size + 1 + 1, 0, none⟩) (by dsimp only; omega)).trans c5
          have q6 : ∀ zc : WC C, zc.w.cell? ⟨w.heap.size + 1 + 1, 1, none⟩ = some (.slice none 0 0) := fun zc => ((qb _ zc.h).cell (p := ⟨w.heap.size + 1 + 1, 1, none⟩) (by dsimp only; omega)).trans c6
          have A0 : Hid (∀  (zc : WC C), Calls Try.prog 39 #[.agg #[.int .i64 N, .slice A k c]] zc.w fun e w2 => e = .returned (.bool true) ∧ ∃ y : WC C, w2 = y.w) := Lib.hid (fun zc => wc_calls ((HT.out zc.w (hrw.below (qb _ zc.h))).mono fun e w2 k => ⟨k.1, qc _ ((qb _ zc.h).trans (k.2.mono (qb _ zc.h).size))⟩))
          have A2 : Hid (∀  (zc : WC C), Calls Try.prog 72 #[.int .i64 u, .int .i64 (0), .int .i64 (N - 1)] zc.w fun e w2 => e = .returned (.bool true) ∧ ∃ y : WC C, w2 = y.w) := Lib.hid (fun zc => wc_calls ((HI2.out zc.w).mono fun e w2 k => ⟨k.1, by rw [← k.2]; exact zc.h⟩))
          have A3 : Hid (∀  (zc : WC C), Calls Try.prog 72 #[.int .i64 v, .int .i64 (0), .int .i64 (N - 1)] zc.w fun e w2 => e = .returned (.bool true) ∧ ∃ y : WC C, w2 = y.w) := Lib.hid (fun zc => wc_calls ((HI3.out zc.w).mono fun e w2 k => ⟨k.1, by rw [← k.2]; exact zc.h⟩))
          have A4 : Hid (∀  (zc : WC C), Calls Try.prog 72 #[.int .i64 x, .int .i64 (-999999), .int .i64 (999999)] zc.w fun e w2 => e = .returned (.bool true) ∧ ∃ y : WC C, w2 = y.w) := Lib.hid (fun zc => wc_calls ((HI4.out zc.w).mono fun e w2 k => ⟨k.1, by rw [← k.2]; exact zc.h⟩))
          have A5 : Hid (∀ (a b : Nat) (zc : WC C) (_ : a < N) (_ : b < N), Calls Try.prog 75 #[.agg #[.int .i64 N, .slice A k c], .int .i64 a, .int .i64 b] zc.w fun e w2 => e = .returned (.int .i64 (atT N zs a b)) ∧ ∃ y : WC C, w2 = y.w) := Lib.hid (fun a b zc ha hb => wc_calls ((HAT.out a b zc.w ha hb (hrw.below (qb _ zc.h))).mono fun e w2 k => ⟨k.1, qc _ ((qb _ zc.h).trans (k.2.mono (qb _ zc.h).size))⟩))
          have A6 : Hid (∀ (a b : Int) (zc : WC C), Calls Try.prog 83 #[.int .i64 a, .int .i64 b] zc.w fun e w2 => e = .returned (.int .i64 (addI a b)) ∧ ∃ y : WC C, w2 = y.w) := Lib.hid (fun a b zc => wc_calls ((spec_AddBounds a b zc.w).mono fun e w2 k => ⟨k.1, by rw [← k.2]; exact zc.h⟩))
          have nwc : Nonempty (WC C) := ⟨⟨_, hC0⟩⟩
          clear hC
          refine region_wc C (by kernel_rfl) (by kernel_rfl) hC0 ?_
          repeat (go_big_quiet_step (first | (go_at_call 39; exact A0.out _) | (go_at_call_of 72 (Value.int .i64 u); exact A2.out _) | (go_at_call_of 72 (Value.int .i64 v); exact A3.out _) | (go_at_call_of 72 (Value.int .i64 x); exact A4.out _) | (go_at_call 75; exact A5.out _ _ _ (by assumption) (by assumption)) | (go_at_call 83; exact A6.out _ _ _)))
          refine wpQuiet_nil ?_
          rintro _ ⟨xq, rfl⟩
          have bq := qb _ xq.h
          have g0 := q0 xq
          have g1 := q1 xq
          have g2 := q2 xq
          have g3 := q3 xq
          have g4 := q4 xq
          have g5 := q5 xq
          have g6 := q6 xq
          obtain ⟨wq, hwq⟩ : ∃ wq, wq = xq.w := ⟨_, rfl⟩
          rw [← hwq] at bq g0 g1 g2 g3 g4 g5 g6 ⊢
          have k5 := g5
          have k6 := g6
          have e0 := (bq.frozen (p := ⟨w.heap.size + 1 + 1, 0, none⟩) (by dsimp only; omega)).trans z0
          have e1 := (bq.frozen (p := ⟨w.heap.size + 1 + 1, 1, none⟩) (by dsimp only; omega)).trans z1
          have szq : w.heap.size + 1 + 1 < wq.heap.size := Nat.lt_of_lt_of_le sz1 bq.size
          have BQ : Below w.heap.size w wq := B1.trans (bq.mono B1.size)
          clear hwq xq nwc hC0 qb qc q0 q1 q2 q3 q4 q5 q6 A0 A2 A3 A4 A5 A6 C bq
          go_wp2_with fail
          refine bodyPost_ret (v := .tuple #[.agg #[.int .i64 0, .slice none 0 0], .bool false]) (by first | (simp [results, Try.results40, go_sem]; done) | simp [*, results, Try.results40, go_sem]) rfl (TgEnd.no HNO.out (by repeat (first | exact Below.refl _ _ | refine below_step (by assumption) (by first | omega | (simp; done) | (simp; omega)) ?_ | refine below_drewN ?_ _ | refine Below.drew ?_ | refine Below.setCell ?_ (by first | omega | (simp; done) | (simp; omega)) _ | refine Below.alloc ?_ (by first | omega | (simp; done) | (simp; omega)) _)))

end Go.Proofs.Ytdjaiijgdflopaa
