/-
  laws.FnExactWindowOf HOLDS: whatever the arguments, impl.WindowOf answers as spec.WindowOf does, and the arguments read as they did. No condition.
-/
import Derived.Test.YtnhdfnfiicioiaaRows
import Derived.Test.YtnhdfnfiicioiaaFrame
import Derived.Test.YtnhdfnfiicioiaaBdIvOk
import Derived.Test.YtnhdfnfiicioiaaBdSmW
import Derived.Test.YtnhdfnfiicioiaaImS
import Derived.Deep.RegionHeld3
import Derived.Deep.CutRange
import Derived.ProofKit
import Derived.Lib.SmallJoins
namespace Go.Proofs.Ytnhdfnfiicioiaa
open Go.RowKit Go.ChangeShapes Go.WideShapes Go.ChangeAt Go.WideMaps Go.WideElems
set_option linter.unusedVariables false
set_option linter.unusedSimpArgs false

theorem own_to {w : World} {B e n s lo hi : Nat} {v : Value} {xs : List Value} (h : w.ownsRow B e s v n xs) (hl : ∀ q, v.ownBlock = some q → lo < q ∧ q < hi) : w.ownsRow (lo + 1) e s v n xs := by
  refine ⟨h.1, ?_⟩
  rcases h.2 with h2 | ⟨g, cap, cur, h1, h2, h3⟩
  · exact .inl h2
  · subst h1
    have := (hl g rfl).1
    exact .inr ⟨g, cap, cur, rfl, by omega, h3⟩
theorem own_off {v v' : Value} {a b c d : Nat} (h : ∀ q, v.ownBlock = some q → a < q ∧ q < b) (h' : ∀ q, v'.ownBlock = some q → c < q ∧ q < d) (hd : b ≤ c + 1 ∨ d ≤ a + 1 := by omega) : v.ownBlock = none ∨ v.ownBlock ≠ v'.ownBlock := by
  cases hb : v.ownBlock with
  | none => exact .inl rfl
  | some q =>
    refine .inr fun e => ?_
    have h1 := h q hb
    have h2 := h' q e.symm
    omega

set_option maxRecDepth 100000 in
set_option maxHeartbeats 16000000 in
theorem FnExactWindowOf_walk (n : Int) (es : List GL) (A : Option Addr) (k c : Nat) (x : Int) (w : World) (wn : (Lit.int .i64 n).wf = true) (hn : es.length = k) (hm : k ≤ maxLen) (hw : ∀ e ∈ es, e.wf) (hr : LinkAt w A es) :
    Calls Try.prog 9 #[grV n A k c, .int .i64 x] w fun e w' => e = .returned (.bool true) ∧ Below w.heap.size w w' := by
  have HZ := Lib.hid (szSimple_any n A k c · hm)
  have HR := Lib.hid hr
  have HL := Lib.hid hn
  clear hr hn
  by_cases h : k ≤ 1048576
  · rw [if_pos h] at HZ
    have hlt : ¬ ((1048576 : Int) - k < 0) := by omega
    have HTO := Lib.hid (fun W h' => toSimple_any n es A k c W HL.out h h')
    have HEG := Lib.hid (fun A1 A2 c1 c2 W h1 h2 => eqSimple_same n es A1 A2 k c1 c2 W HL.out hm h1 h2)
    have HSP := Lib.hid (fun A' c' W h' => spec_WindowOf n es A' k c' x W HL.out h h')
    have HIM := Lib.hid (fun A' c' W h' => impl_WindowOf n es A' k c' x W HL.out h h')
    obtain ⟨lo, hlo⟩ : ∃ t, t = wL n es x := ⟨_, rfl⟩
    obtain ⟨hi, hhi⟩ : ∃ t, t = wH n es x := ⟨_, rfl⟩
    obtain ⟨ok, hok⟩ : ∃ t, t = wB n es x := ⟨_, rfl⟩
    unfold wV at HSP HIM
    rw [← hlo, ← hhi, ← hok] at HSP HIM
    have HEI := Lib.hid (eqInterval_any lo hi)
    have hoo : (ok != ok) = false := by simp
    clear hlo hhi hok
    unfold grV at HZ HSP HIM HTO HEG ⊢
    unfold ivV at HSP HIM HEI
    go_enter Try.func9, Try.ntmps9
    go_wp2_with fail
    refine (HZ.out _).mono ?_
    rintro e w1 ⟨rfl, b1⟩
    have c0_w1 : w1.cell? ⟨w.heap.size, 0, none⟩ = some (.int .i64 n) := (b1.cell (p := ⟨w.heap.size, 0, none⟩) (by first | omega | (simp; done) | (simp; omega))).trans (by first | assumption | go_simp)
    have c1_w1 : w1.cell? ⟨w.heap.size, 1, none⟩ = some (.slice A k c) := (b1.cell (p := ⟨w.heap.size, 1, none⟩) (by first | omega | (simp; done) | (simp; omega))).trans (by first | assumption | go_simp)
    have s0_w1 : w.heap.size < w1.heap.size := Nat.lt_of_lt_of_le (by first | omega | (simp; done) | (simp; omega)) b1.size
    have B_w1 : Below w.heap.size w w1 := (by repeat (first | exact Below.refl _ _ | refine below_step (by assumption) (by first | omega | (simp; done) | (simp; omega)) ?_ | refine below_drewN ?_ _ | refine Below.drew ?_ | refine Below.setCell ?_ (by first | omega | (simp; done) | (simp; omega)) _ | refine Below.alloc ?_ (by first | omega | (simp; done) | (simp; omega)) _))
    clear b1
    go_wp2_with fail
    refine (HTO.out _ (HR.out.below B_w1)).mono ?_
    rintro e w2 ⟨A2, c2, rfl, h2, b2⟩
    have HE2 := Lib.hid (own_link h2)
    clear h2
    have c0_w2 : w2.cell? ⟨w.heap.size, 0, none⟩ = some (.int .i64 n) := (b2.cell (p := ⟨w.heap.size, 0, none⟩) (by dsimp only; omega)).trans c0_w1
    have c1_w2 : w2.cell? ⟨w.heap.size, 1, none⟩ = some (.slice A k c) := (b2.cell (p := ⟨w.heap.size, 1, none⟩) (by dsimp only; omega)).trans c1_w1
    have s0_w2 : w.heap.size < w2.heap.size := Nat.lt_of_lt_of_le s0_w1 b2.size
    have B_w2 : Below w.heap.size w w2 := B_w1.trans (b2.mono B_w1.size)
    clear c0_w1 c1_w1 s0_w1  b2
    go_wp2_with fail
    refine (HSP.out A2 c2 _ HE2.out).mono ?_
    rintro e w3 ⟨rfl, b3⟩
    clear HE2
    have c0_w3 : w3.cell? ⟨w.heap.size, 0, none⟩ = some (.int .i64 n) := (b3.cell (p := ⟨w.heap.size, 0, none⟩) (by dsimp only; omega)).trans c0_w2
    have c1_w3 : w3.cell? ⟨w.heap.size, 1, none⟩ = some (.slice A k c) := (b3.cell (p := ⟨w.heap.size, 1, none⟩) (by dsimp only; omega)).trans c1_w2
    have s0_w3 : w.heap.size < w3.heap.size := Nat.lt_of_lt_of_le s0_w2 b3.size
    have B_w3 : Below w.heap.size w w3 := B_w2.trans (b3.mono B_w2.size)
    clear c0_w2 c1_w2 s0_w2  b3
    obtain ⟨b8, hb8⟩ : ∃ b, b = w3.heap.size := ⟨_, rfl⟩
    obtain ⟨wa, hwa⟩ : ∃ W, W = w3.alloc (.cells #[.int .i64 lo, .int .i64 hi] 36) := ⟨_, rfl⟩
    have ba : Below w3.heap.size w3 wa := by rw [hwa]; exact (Below.refl _ _).alloc (Nat.le_refl _) _
    have u_b8_0 : w.heap.size < b8 := by omega
    have z_wa : wa.heap.size = b8 + 1 := by rw [hwa, hb8]; simp
    have c2_wa : wa.cell? ⟨b8, 0, none⟩ = some (.int .i64 lo) := by rw [hwa, hb8]; go_simp
    have c3_wa : wa.cell? ⟨b8, 1, none⟩ = some (.int .i64 hi) := by rw [hwa, hb8]; go_simp
    have s1_wa : b8 < wa.heap.size := by omega
    go_upto_region 6 with (fail)
    rw [← hwa]
    try rw [← hb8]
    have c0_wa : wa.cell? ⟨w.heap.size, 0, none⟩ = some (.int .i64 n) := (ba.cell (p := ⟨w.heap.size, 0, none⟩) (by dsimp only; omega)).trans c0_w3
    have c1_wa : wa.cell? ⟨w.heap.size, 1, none⟩ = some (.slice A k c) := (ba.cell (p := ⟨w.heap.size, 1, none⟩) (by dsimp only; omega)).trans c1_w3
    have s0_wa : w.heap.size < wa.heap.size := Nat.lt_of_lt_of_le s0_w3 ba.size
    have B_wa : Below w.heap.size w wa := B_w3.trans (ba.mono B_w3.size)
    clear c0_w3 c1_w3 s0_w3  ba
    clear hb8 hwa
    go_wp2_with fail
    refine (HTO.out _ (HR.out.below B_wa)).mono ?_
    rintro e w4 ⟨A4, c4, rfl, h4, b4⟩
    have g4 := Lib.hid h4
    clear h4
    have c0_w4 : w4.cell? ⟨w.heap.size, 0, none⟩ = some (.int .i64 n) := (b4.cell (p := ⟨w.heap.size, 0, none⟩) (by dsimp only; omega)).trans c0_wa
    have c1_w4 : w4.cell? ⟨w.heap.size, 1, none⟩ = some (.slice A k c) := (b4.cell (p := ⟨w.heap.size, 1, none⟩) (by dsimp only; omega)).trans c1_wa
    have c2_w4 : w4.cell? ⟨b8, 0, none⟩ = some (.int .i64 lo) := (b4.cell (p := ⟨b8, 0, none⟩) (by dsimp only; omega)).trans c2_wa
    have c3_w4 : w4.cell? ⟨b8, 1, none⟩ = some (.int .i64 hi) := (b4.cell (p := ⟨b8, 1, none⟩) (by dsimp only; omega)).trans c3_wa
    have s0_w4 : w.heap.size < w4.heap.size := Nat.lt_of_lt_of_le s0_wa b4.size
    have s1_w4 : b8 < w4.heap.size := Nat.lt_of_lt_of_le s1_wa b4.size
    have B_w4 : Below w.heap.size w w4 := B_wa.trans (b4.mono B_wa.size)
    clear c0_wa c1_wa c2_wa c3_wa s0_wa s1_wa  b4
    have oX_w4 := g4
    clear g4
    obtain ⟨b10, hb10⟩ : ∃ b, b = w4.heap.size := ⟨_, rfl⟩
    obtain ⟨wb, hwb⟩ : ∃ W, W = w4.alloc (.cells #[.int .i64 n, .slice A4 k c4] 25) := ⟨_, rfl⟩
    have ba : Below w4.heap.size w4 wb := by rw [hwb]; exact (Below.refl _ _).alloc (Nat.le_refl _) _
    have u_b10_0 : w.heap.size < b10 := by omega
    have u_b10_1 : b8 < b10 := by omega
    have z_wb : wb.heap.size = b10 + 1 := by rw [hwb, hb10]; simp
    have c4_wb : wb.cell? ⟨b10, 0, none⟩ = some (.int .i64 n) := by rw [hwb, hb10]; go_simp
    have c5_wb : wb.cell? ⟨b10, 1, none⟩ = some (.slice A4 k c4) := by rw [hwb, hb10]; go_simp
    have s2_wb : b10 < wb.heap.size := by omega
    go_upto_region 7 with (fail)
    rw [← hwb]
    try rw [← hb10]
    have c0_wb : wb.cell? ⟨w.heap.size, 0, none⟩ = some (.int .i64 n) := (ba.cell (p := ⟨w.heap.size, 0, none⟩) (by dsimp only; omega)).trans c0_w4
    have c1_wb : wb.cell? ⟨w.heap.size, 1, none⟩ = some (.slice A k c) := (ba.cell (p := ⟨w.heap.size, 1, none⟩) (by dsimp only; omega)).trans c1_w4
    have c2_wb : wb.cell? ⟨b8, 0, none⟩ = some (.int .i64 lo) := (ba.cell (p := ⟨b8, 0, none⟩) (by dsimp only; omega)).trans c2_w4
    have c3_wb : wb.cell? ⟨b8, 1, none⟩ = some (.int .i64 hi) := (ba.cell (p := ⟨b8, 1, none⟩) (by dsimp only; omega)).trans c3_w4
    have s0_wb : w.heap.size < wb.heap.size := Nat.lt_of_lt_of_le s0_w4 ba.size
    have s1_wb : b8 < wb.heap.size := Nat.lt_of_lt_of_le s1_w4 ba.size
    have B_wb : Below w.heap.size w wb := B_w4.trans (ba.mono B_w4.size)
    have oX_wb := Lib.hid (own_below oX_w4.out ba)
    clear c0_w4 c1_w4 c2_w4 c3_w4 s0_w4 s1_w4 oX_w4 ba
    clear hb10 hwb
    go_wp2_with fail
    refine (HIM.out A4 c4 _ (own_link oX_wb.out)).mono ?_
    rintro e w5 ⟨rfl, b5⟩
    have c0_w5 : w5.cell? ⟨w.heap.size, 0, none⟩ = some (.int .i64 n) := (b5.cell (p := ⟨w.heap.size, 0, none⟩) (by dsimp only; omega)).trans c0_wb
    have c1_w5 : w5.cell? ⟨w.heap.size, 1, none⟩ = some (.slice A k c) := (b5.cell (p := ⟨w.heap.size, 1, none⟩) (by dsimp only; omega)).trans c1_wb
    have c2_w5 : w5.cell? ⟨b8, 0, none⟩ = some (.int .i64 lo) := (b5.cell (p := ⟨b8, 0, none⟩) (by dsimp only; omega)).trans c2_wb
    have c3_w5 : w5.cell? ⟨b8, 1, none⟩ = some (.int .i64 hi) := (b5.cell (p := ⟨b8, 1, none⟩) (by dsimp only; omega)).trans c3_wb
    have c4_w5 : w5.cell? ⟨b10, 0, none⟩ = some (.int .i64 n) := (b5.cell (p := ⟨b10, 0, none⟩) (by dsimp only; omega)).trans c4_wb
    have c5_w5 : w5.cell? ⟨b10, 1, none⟩ = some (.slice A4 k c4) := (b5.cell (p := ⟨b10, 1, none⟩) (by dsimp only; omega)).trans c5_wb
    have s0_w5 : w.heap.size < w5.heap.size := Nat.lt_of_lt_of_le s0_wb b5.size
    have s1_w5 : b8 < w5.heap.size := Nat.lt_of_lt_of_le s1_wb b5.size
    have s2_w5 : b10 < w5.heap.size := Nat.lt_of_lt_of_le s2_wb b5.size
    have B_w5 : Below w.heap.size w w5 := B_wb.trans (b5.mono B_wb.size)
    have oX_w5 := Lib.hid (own_below oX_wb.out b5)
    clear c0_wb c1_wb c2_wb c3_wb c4_wb c5_wb s0_wb s1_wb s2_wb oX_wb b5
    obtain ⟨b11, hb11⟩ : ∃ b, b = w5.heap.size := ⟨_, rfl⟩
    obtain ⟨wc, hwc⟩ : ∃ W, W = w5.alloc (.cells #[.int .i64 lo, .int .i64 hi] 36) := ⟨_, rfl⟩
    have ba : Below w5.heap.size w5 wc := by rw [hwc]; exact (Below.refl _ _).alloc (Nat.le_refl _) _
    have u_b11_0 : w.heap.size < b11 := by omega
    have u_b11_1 : b8 < b11 := by omega
    have u_b11_2 : b10 < b11 := by omega
    have z_wc : wc.heap.size = b11 + 1 := by rw [hwc, hb11]; simp
    have c6_wc : wc.cell? ⟨b11, 0, none⟩ = some (.int .i64 lo) := by rw [hwc, hb11]; go_simp
    have c7_wc : wc.cell? ⟨b11, 1, none⟩ = some (.int .i64 hi) := by rw [hwc, hb11]; go_simp
    have s3_wc : b11 < wc.heap.size := by omega
    go_upto_region 8 with (fail)
    rw [← hwc]
    try rw [← hb11]
    have c0_wc : wc.cell? ⟨w.heap.size, 0, none⟩ = some (.int .i64 n) := (ba.cell (p := ⟨w.heap.size, 0, none⟩) (by dsimp only; omega)).trans c0_w5
    have c1_wc : wc.cell? ⟨w.heap.size, 1, none⟩ = some (.slice A k c) := (ba.cell (p := ⟨w.heap.size, 1, none⟩) (by dsimp only; omega)).trans c1_w5
    have c2_wc : wc.cell? ⟨b8, 0, none⟩ = some (.int .i64 lo) := (ba.cell (p := ⟨b8, 0, none⟩) (by dsimp only; omega)).trans c2_w5
    have c3_wc : wc.cell? ⟨b8, 1, none⟩ = some (.int .i64 hi) := (ba.cell (p := ⟨b8, 1, none⟩) (by dsimp only; omega)).trans c3_w5
    have c4_wc : wc.cell? ⟨b10, 0, none⟩ = some (.int .i64 n) := (ba.cell (p := ⟨b10, 0, none⟩) (by dsimp only; omega)).trans c4_w5
    have c5_wc : wc.cell? ⟨b10, 1, none⟩ = some (.slice A4 k c4) := (ba.cell (p := ⟨b10, 1, none⟩) (by dsimp only; omega)).trans c5_w5
    have s0_wc : w.heap.size < wc.heap.size := Nat.lt_of_lt_of_le s0_w5 ba.size
    have s1_wc : b8 < wc.heap.size := Nat.lt_of_lt_of_le s1_w5 ba.size
    have s2_wc : b10 < wc.heap.size := Nat.lt_of_lt_of_le s2_w5 ba.size
    have B_wc : Below w.heap.size w wc := B_w5.trans (ba.mono B_w5.size)
    have oX_wc := Lib.hid (own_below oX_w5.out ba)
    clear c0_w5 c1_w5 c2_w5 c3_w5 c4_w5 c5_w5 s0_w5 s1_w5 s2_w5 oX_w5 ba
    clear hb11 hwc
    go_wp2_with fail
    refine (HEI.out _).mono ?_
    rintro e w6 ⟨rfl, b6⟩
    have c0_w6 : w6.cell? ⟨w.heap.size, 0, none⟩ = some (.int .i64 n) := (b6.cell (p := ⟨w.heap.size, 0, none⟩) (by dsimp only; omega)).trans c0_wc
    have c1_w6 : w6.cell? ⟨w.heap.size, 1, none⟩ = some (.slice A k c) := (b6.cell (p := ⟨w.heap.size, 1, none⟩) (by dsimp only; omega)).trans c1_wc
    have c2_w6 : w6.cell? ⟨b8, 0, none⟩ = some (.int .i64 lo) := (b6.cell (p := ⟨b8, 0, none⟩) (by dsimp only; omega)).trans c2_wc
    have c3_w6 : w6.cell? ⟨b8, 1, none⟩ = some (.int .i64 hi) := (b6.cell (p := ⟨b8, 1, none⟩) (by dsimp only; omega)).trans c3_wc
    have c4_w6 : w6.cell? ⟨b10, 0, none⟩ = some (.int .i64 n) := (b6.cell (p := ⟨b10, 0, none⟩) (by dsimp only; omega)).trans c4_wc
    have c5_w6 : w6.cell? ⟨b10, 1, none⟩ = some (.slice A4 k c4) := (b6.cell (p := ⟨b10, 1, none⟩) (by dsimp only; omega)).trans c5_wc
    have c6_w6 : w6.cell? ⟨b11, 0, none⟩ = some (.int .i64 lo) := (b6.cell (p := ⟨b11, 0, none⟩) (by dsimp only; omega)).trans c6_wc
    have c7_w6 : w6.cell? ⟨b11, 1, none⟩ = some (.int .i64 hi) := (b6.cell (p := ⟨b11, 1, none⟩) (by dsimp only; omega)).trans c7_wc
    have s0_w6 : w.heap.size < w6.heap.size := Nat.lt_of_lt_of_le s0_wc b6.size
    have s1_w6 : b8 < w6.heap.size := Nat.lt_of_lt_of_le s1_wc b6.size
    have s2_w6 : b10 < w6.heap.size := Nat.lt_of_lt_of_le s2_wc b6.size
    have s3_w6 : b11 < w6.heap.size := Nat.lt_of_lt_of_le s3_wc b6.size
    have B_w6 : Below w.heap.size w w6 := B_wc.trans (b6.mono B_wc.size)
    have oX_w6 := Lib.hid (own_below oX_wc.out b6)
    clear c0_wc c1_wc c2_wc c3_wc c4_wc c5_wc c6_wc c7_wc s0_wc s1_wc s2_wc s3_wc oX_wc b6
    go_wp2_with fail
    go_region_held3 (fun W => W.cell? ⟨w.heap.size, 0, none⟩ = some (.int .i64 n) ∧ W.cell? ⟨w.heap.size, 1, none⟩ = some (.slice A k c) ∧ W.cell? ⟨b10, 0, none⟩ = some (.int .i64 n) ∧ W.cell? ⟨b10, 1, none⟩ = some (.slice A4 k c4)) (first | go_keep | (dsimp only; refine ⟨?_, ?_, ?_, ?_⟩ <;> first | assumption | go_keep | go_simp)) (first | (go_at_call 29; refine (HTO.out _ (HR.out.below (by repeat (first | exact Below.refl _ _ | refine below_step (by assumption) (by first | omega | (simp; done) | (simp; omega)) ?_ | refine below_drewN ?_ _ | refine Below.drew ?_ | refine Below.setCell ?_ (by first | omega | (simp; done) | (simp; omega)) _ | refine Below.alloc ?_ (by first | omega | (simp; done) | (simp; omega)) _)))).mono ?_; rintro e w7 ⟨A7, c7, rfl, h7, b7b⟩; have c0_w7 : w7.cell? ⟨w.heap.size, 0, none⟩ = some (.int .i64 n) := (b7b.cell (p := ⟨w.heap.size, 0, none⟩) (by first | omega | (simp; done) | (simp; omega))).trans (by first | assumption | go_simp); have c1_w7 : w7.cell? ⟨w.heap.size, 1, none⟩ = some (.slice A k c) := (b7b.cell (p := ⟨w.heap.size, 1, none⟩) (by first | omega | (simp; done) | (simp; omega))).trans (by first | assumption | go_simp); have c2_w7 : w7.cell? ⟨b8, 0, none⟩ = some (.int .i64 lo) := (b7b.cell (p := ⟨b8, 0, none⟩) (by first | omega | (simp; done) | (simp; omega))).trans (by first | assumption | go_simp); have c3_w7 : w7.cell? ⟨b8, 1, none⟩ = some (.int .i64 hi) := (b7b.cell (p := ⟨b8, 1, none⟩) (by first | omega | (simp; done) | (simp; omega))).trans (by first | assumption | go_simp); have c4_w7 : w7.cell? ⟨b10, 0, none⟩ = some (.int .i64 n) := (b7b.cell (p := ⟨b10, 0, none⟩) (by first | omega | (simp; done) | (simp; omega))).trans (by first | assumption | go_simp); have c5_w7 : w7.cell? ⟨b10, 1, none⟩ = some (.slice A4 k c4) := (b7b.cell (p := ⟨b10, 1, none⟩) (by first | omega | (simp; done) | (simp; omega))).trans (by first | assumption | go_simp); have c6_w7 : w7.cell? ⟨b11, 0, none⟩ = some (.int .i64 lo) := (b7b.cell (p := ⟨b11, 0, none⟩) (by first | omega | (simp; done) | (simp; omega))).trans (by first | assumption | go_simp); have c7_w7 : w7.cell? ⟨b11, 1, none⟩ = some (.int .i64 hi) := (b7b.cell (p := ⟨b11, 1, none⟩) (by first | omega | (simp; done) | (simp; omega))).trans (by first | assumption | go_simp); have s0_w7 : w.heap.size < w7.heap.size := Nat.lt_of_lt_of_le (by first | omega | (simp; done) | (simp; omega)) b7b.size; have s1_w7 : b8 < w7.heap.size := Nat.lt_of_lt_of_le (by first | omega | (simp; done) | (simp; omega)) b7b.size; have s2_w7 : b10 < w7.heap.size := Nat.lt_of_lt_of_le (by first | omega | (simp; done) | (simp; omega)) b7b.size; have s3_w7 : b11 < w7.heap.size := Nat.lt_of_lt_of_le (by first | omega | (simp; done) | (simp; omega)) b7b.size; have q7 : w6.heap.size ≤ w7.heap.size := b7b.size; have E7 : LinkAt w7 A7 es := own_link h7; have F7 : LinkAt w7 A4 es := LinkAt.below (w := _) (by exact LinkAt.of_heap (own_link oX_w6.out) rfl) b7b) | (go_at_call 30; refine (HEG.out A4 A7 c4 c7 _ (by exact F7.of_heap rfl) (by exact E7.of_heap rfl)).mono ?_; rintro e w8 ⟨rfl, b8b⟩; have c0_w8 : w8.cell? ⟨w.heap.size, 0, none⟩ = some (.int .i64 n) := (b8b.cell (p := ⟨w.heap.size, 0, none⟩) (by first | omega | (simp; done) | (simp; omega))).trans (by first | assumption | go_simp); have c1_w8 : w8.cell? ⟨w.heap.size, 1, none⟩ = some (.slice A k c) := (b8b.cell (p := ⟨w.heap.size, 1, none⟩) (by first | omega | (simp; done) | (simp; omega))).trans (by first | assumption | go_simp); have c2_w8 : w8.cell? ⟨b8, 0, none⟩ = some (.int .i64 lo) := (b8b.cell (p := ⟨b8, 0, none⟩) (by first | omega | (simp; done) | (simp; omega))).trans (by first | assumption | go_simp); have c3_w8 : w8.cell? ⟨b8, 1, none⟩ = some (.int .i64 hi) := (b8b.cell (p := ⟨b8, 1, none⟩) (by first | omega | (simp; done) | (simp; omega))).trans (by first | assumption | go_simp); have c4_w8 : w8.cell? ⟨b10, 0, none⟩ = some (.int .i64 n) := (b8b.cell (p := ⟨b10, 0, none⟩) (by first | omega | (simp; done) | (simp; omega))).trans (by first | assumption | go_simp); have c5_w8 : w8.cell? ⟨b10, 1, none⟩ = some (.slice A4 k c4) := (b8b.cell (p := ⟨b10, 1, none⟩) (by first | omega | (simp; done) | (simp; omega))).trans (by first | assumption | go_simp); have c6_w8 : w8.cell? ⟨b11, 0, none⟩ = some (.int .i64 lo) := (b8b.cell (p := ⟨b11, 0, none⟩) (by first | omega | (simp; done) | (simp; omega))).trans (by first | assumption | go_simp); have c7_w8 : w8.cell? ⟨b11, 1, none⟩ = some (.int .i64 hi) := (b8b.cell (p := ⟨b11, 1, none⟩) (by first | omega | (simp; done) | (simp; omega))).trans (by first | assumption | go_simp); have s0_w8 : w.heap.size < w8.heap.size := Nat.lt_of_lt_of_le (by first | omega | (simp; done) | (simp; omega)) b8b.size; have s1_w8 : b8 < w8.heap.size := Nat.lt_of_lt_of_le (by first | omega | (simp; done) | (simp; omega)) b8b.size; have s2_w8 : b10 < w8.heap.size := Nat.lt_of_lt_of_le (by first | omega | (simp; done) | (simp; omega)) b8b.size; have s3_w8 : b11 < w8.heap.size := Nat.lt_of_lt_of_le (by first | omega | (simp; done) | (simp; omega)) b8b.size))
    all_goals
      have U8 : Below w6.heap.size w6 w8 := (by repeat (first | exact Below.refl _ _ | refine below_step (by assumption) (by first | omega | (simp; done) | (simp; omega)) ?_ | refine below_drewN ?_ _ | refine Below.drew ?_ | refine Below.setCell ?_ (by first | omega | (simp; done) | (simp; omega)) _ | refine Below.alloc ?_ (by first | omega | (simp; done) | (simp; omega)) _))
      have B_w8 : Below w.heap.size w w8 := B_w6.trans (U8.mono B_w6.size)
      go_wp2_with fail
      go_ret
      exact ⟨rfl, B_w8⟩
  · rw [if_neg h] at HZ
    go_enter Try.func9, Try.ntmps9
    unfold grV at HZ
    unfold grV
    go_wp2_with fail
    refine (HZ.out _).mono ?_
    rintro e w1 ⟨rfl, b1⟩
    go_wp2_with fail
    go_ret
    exact ⟨rfl, (by repeat (first | exact Below.refl _ _ | refine below_step (by assumption) (by first | omega | (simp; done) | (simp; omega)) ?_ | refine below_drewN ?_ _ | refine Below.drew ?_ | refine Below.setCell ?_ (by first | omega | (simp; done) | (simp; omega)) _ | refine Below.alloc ?_ (by first | omega | (simp; done) | (simp; omega)) _))⟩

/-! ### FnExactWindowOf: the row -/

set_option maxRecDepth 100000 in
theorem FnExactWindowOf_lifted (os : Os) (started : os.Started) (H : Type) (enc : TypeId × Value → H) :
    ReturnsInHanded {} Try.checked os 9 .any (Rows.fnExactWindowOfSpec.pre6 enc Try.prog Try.f9 Rows.fnExactWindowOfRow.domain false) (Rows.fnExactWindowOfSpec.post enc Try.prog Try.f9 false true false false) := by
  refine returnsInHanded_of_change (C := Try.checked) (by kernel_rfl) started (by kernel_rfl) Try.func9
    (ChangeSpec.witness6 (enc := enc) (C := Try.checked) false ⟨#[], #[.agg #[.int .i64 0, .slice none 0 0], .int .i64 0], []⟩ 8 (by kernel_rfl) (by kernel_rfl) (by kernel_rfl) (by kernel_rfl)) ?_
  intro W base args ds gs before hval0 hW hcnd _
  have hval : ∀ (j : Nat) t v, Try.f9.params[j]? = some t → args[j]? = some v → Value.okWide Try.prog W .any base t v := hval0
  have hW2 := hW
  obtain ⟨p, q, hA0, hV, hpq, hfz, hnd⟩ := hW2
  have hA : DataW.TrodAll enc Try.prog W 0 (fun _ => true) true Try.f9.params.toList args.toList ds p := hA0
  rw [Try.params9] at hA hval
  obtain ⟨v0, v1, d0, d1, p0, p1, hargs, hds, hp, h0, h1⟩ := trodAll_two hA
  obtain ⟨hgs, hq⟩ := trodVars_none hV
  subst hargs
  subst hds
  subst hgs
  obtain ⟨n0, A0, k0, c0, es0, rfl, wn0, hl0, hm0, hw0, hr0⟩ := open_simple (hval 0 47 v0 rfl rfl) h0
  obtain ⟨a1, rfl, rfl, _, w1⟩ := open_int Try.underlying3 (hval 1 3 v1 rfl rfl) h1
  refine (FnExactWindowOf_walk n0 es0 A0 k0 c0 a1 W wn0 hl0 hm0 hw0 hr0).mono fun e W2 ⟨he, hb⟩ => ?_
  subst he
  exact ⟨_, rfl, law_post (by kernel_rfl) (by rw [Try.params9]; decide +kernel) (by kernel_rfl) Try.underlying4 rfl ⟨rfl, rfl, rfl⟩ hW hb⟩

theorem FnExactWindowOf_holds : Rows.FnExactWindowOfSaid :=
  OpenClaim.holds_of_wide 9 Try.f9 rfl rfl rfl rfl rfl rfl rfl ⟨rfl, rfl, rfl, rfl, rfl⟩ rfl rfl rfl rfl rfl (by kernel_rfl) Try.func9 (by kernel_rfl)
    (of_decide_eq_true (by kernel_rfl)) (by unfold Func.isWrapper; first | (rw [if_pos (by decide +kernel)]; kernel_rfl) | (rw [if_neg (by decide +kernel)]; exact ⟨rfl, rfl⟩))
    (fun os started H enc _ => FnExactWindowOf_lifted os started H enc)

end Go.Proofs.Ytnhdfnfiicioiaa

