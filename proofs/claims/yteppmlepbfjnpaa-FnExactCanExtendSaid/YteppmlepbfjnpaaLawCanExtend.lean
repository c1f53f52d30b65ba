/-
  laws.FnExactCanExtend HOLDS: whatever the arguments, impl.CanExtend answers as spec.CanExtend does, and the arguments read as they did. No condition.
-/
import Derived.Test.YteppmlepbfjnpaaRows
import Derived.Test.YteppmlepbfjnpaaFrame
import Derived.Test.YteppmlepbfjnpaaBdIvOk
import Derived.Test.YteppmlepbfjnpaaBdPaC
import Derived.Test.YteppmlepbfjnpaaImP
import Derived.Deep.RegionHeld3
import Derived.Deep.CutRange
import Derived.ProofKit
import Derived.Lib.SmallJoins
namespace Go.Proofs.Yteppmlepbfjnpaa
open Go.RowKit Go.ChangeShapes Go.WideShapes Go.ChangeAt Go.WideMaps Go.WideElems
set_option linter.unusedVariables false
set_option linter.unusedSimpArgs false

set_option maxRecDepth 100000 in
set_option maxHeartbeats 4000000 in
theorem FnExactCanExtend_walk (n : Int) (es : List GL) (A : Option Addr) (k c : Nat) (zs : List Int) (B : Option Addr) (m cb : Nat) (w : World) (wn : (Lit.int .i64 n).wf = true) (hn : es.length = k) (hm : k ≤ maxLen) (hw : ∀ e ∈ es, e.wf) (hr : LinkAt w A es) (hzl : zs.length = m) (hzm : m ≤ maxLen) (hzw : ∀ y ∈ zs, (Lit.int .i64 y).wf = true) (hz : RowAt w B (zs.map intV)) :
    Calls Try.prog 7 #[grV n A k c, .slice B m cb] w fun e w' => e = .returned (.bool true) ∧ Below w.heap.size w w' := by
  have HS := Lib.hid (szSimple_any n A k c · hm)
  have HR := Lib.hid hr
  have HL := Lib.hid hn
  have HZ := Lib.hid hz
  have HM := Lib.hid hzl
  have hzm2 := hzm
  unfold maxLen at hzm2
  clear hr hn hz hzl
  by_cases hlong : m ≤ 1048576
  · have hl1 : ¬ ((1048576 : Int) < m) := by omega
    by_cases h : k ≤ 1048576
    · rw [if_pos h] at HS
      have hlt : ¬ ((1048576 : Int) - k < 0) := by omega
      have hbb : ((ceR n es zs : Bool) != ceR n es zs) = false := by simp
      go_enter Try.func7, Try.ntmps7
      unfold grV at HS
      unfold grV
      go_wp2_with fail
      refine (HS.out _).mono ?_
      rintro e w1 ⟨rfl, b1⟩
      have ka1 : w1.cell? ⟨w.heap.size, 0, none⟩ = some (.int .i64 n) := (b1.cell (p := ⟨w.heap.size, 0, none⟩) (by first | omega | (simp; done) | (simp; omega))).trans (by first | assumption | go_simp)
      have kb1 : w1.cell? ⟨w.heap.size, 1, none⟩ = some (.slice A k c) := (b1.cell (p := ⟨w.heap.size, 1, none⟩) (by first | omega | (simp; done) | (simp; omega))).trans (by first | assumption | go_simp)
      have sz1 : w.heap.size < w1.heap.size := Nat.lt_of_lt_of_le (by first | omega | (simp; done) | (simp; omega)) b1.size
      have B1 : Below w.heap.size w w1 := (by repeat (first | exact Below.refl _ _ | refine below_step (by assumption) (by first | omega | (simp; done) | (simp; omega)) ?_ | refine below_drewN ?_ _ | refine Below.drew ?_ | refine Below.setCell ?_ (by first | omega | (simp; done) | (simp; omega)) _ | refine Below.alloc ?_ (by first | omega | (simp; done) | (simp; omega)) _))
      clear b1
      go_wp2_with fail
      refine (toSimple_any n es A k c _ HL.out h (HR.out.below B1)).mono ?_
      rintro e w2 ⟨A2, c2, rfl, h2, b2⟩
      unfold grV
      have ka2 : w2.cell? ⟨w.heap.size, 0, none⟩ = some (.int .i64 n) := (b2.cell (p := ⟨w.heap.size, 0, none⟩) (by first | omega | (simp; done) | (simp; omega))).trans (by first | assumption | go_simp)
      have kb2 : w2.cell? ⟨w.heap.size, 1, none⟩ = some (.slice A k c) := (b2.cell (p := ⟨w.heap.size, 1, none⟩) (by first | omega | (simp; done) | (simp; omega))).trans (by first | assumption | go_simp)
      have sz2 : w.heap.size < w2.heap.size := Nat.lt_of_lt_of_le (by first | omega | (simp; done) | (simp; omega)) b2.size
      have B2 : Below w.heap.size w w2 := (by repeat (first | exact Below.refl _ _ | refine below_step (by assumption) (by first | omega | (simp; done) | (simp; omega)) ?_ | refine below_drewN ?_ _ | refine Below.drew ?_ | refine Below.setCell ?_ (by first | omega | (simp; done) | (simp; omega)) _ | refine Below.alloc ?_ (by first | omega | (simp; done) | (simp; omega)) _))
      have E2 : LinkAt w2 A2 es := by exact own_link h2
      clear b2 h2
      go_wp2_with fail
      refine (toIntS_any zs B m cb _ HM.out (by omega) (HZ.out.below B2)).mono ?_
      rintro e w3 ⟨v3, rfl, h3, b3⟩
      have ka3 : w3.cell? ⟨w.heap.size, 0, none⟩ = some (.int .i64 n) := (b3.cell (p := ⟨w.heap.size, 0, none⟩) (by first | omega | (simp; done) | (simp; omega))).trans (by first | assumption | go_simp)
      have kb3 : w3.cell? ⟨w.heap.size, 1, none⟩ = some (.slice A k c) := (b3.cell (p := ⟨w.heap.size, 1, none⟩) (by first | omega | (simp; done) | (simp; omega))).trans (by first | assumption | go_simp)
      have sz3 : w.heap.size < w3.heap.size := Nat.lt_of_lt_of_le (by first | omega | (simp; done) | (simp; omega)) b3.size
      have B3 : Below w.heap.size w w3 := (by repeat (first | exact Below.refl _ _ | refine below_step (by assumption) (by first | omega | (simp; done) | (simp; omega)) ?_ | refine below_drewN ?_ _ | refine Below.drew ?_ | refine Below.setCell ?_ (by first | omega | (simp; done) | (simp; omega)) _ | refine Below.alloc ?_ (by first | omega | (simp; done) | (simp; omega)) _))
      have E3 : LinkAt w3 A2 es := E2.below b3
      obtain ⟨A3, c3, rfl, _, R3⟩ := own_form h3
      clear b3 h3
      go_wp2_with fail
      refine (spec_CanExtend n es A2 k c2 zs A3 m c3 _ HL.out h HM.out E3 R3).mono ?_
      rintro e w4 ⟨rfl, b4⟩
      have ka4 : w4.cell? ⟨w.heap.size, 0, none⟩ = some (.int .i64 n) := (b4.cell (p := ⟨w.heap.size, 0, none⟩) (by first | omega | (simp; done) | (simp; omega))).trans (by first | assumption | go_simp)
      have kb4 : w4.cell? ⟨w.heap.size, 1, none⟩ = some (.slice A k c) := (b4.cell (p := ⟨w.heap.size, 1, none⟩) (by first | omega | (simp; done) | (simp; omega))).trans (by first | assumption | go_simp)
      have sz4 : w.heap.size < w4.heap.size := Nat.lt_of_lt_of_le (by first | omega | (simp; done) | (simp; omega)) b4.size
      have B4 : Below w.heap.size w w4 := (by repeat (first | exact Below.refl _ _ | refine below_step (by assumption) (by first | omega | (simp; done) | (simp; omega)) ?_ | refine below_drewN ?_ _ | refine Below.drew ?_ | refine Below.setCell ?_ (by first | omega | (simp; done) | (simp; omega)) _ | refine Below.alloc ?_ (by first | omega | (simp; done) | (simp; omega)) _))
      clear b4 E2 E3 R3
      go_wp2_with fail
      refine (toSimple_any n es A k c _ HL.out h (HR.out.below B4)).mono ?_
      rintro e w5 ⟨A5, c5, rfl, h5, b5⟩
      unfold grV
      have ka5 : w5.cell? ⟨w.heap.size, 0, none⟩ = some (.int .i64 n) := (b5.cell (p := ⟨w.heap.size, 0, none⟩) (by first | omega | (simp; done) | (simp; omega))).trans (by first | assumption | go_simp)
      have kb5 : w5.cell? ⟨w.heap.size, 1, none⟩ = some (.slice A k c) := (b5.cell (p := ⟨w.heap.size, 1, none⟩) (by first | omega | (simp; done) | (simp; omega))).trans (by first | assumption | go_simp)
      have sz5 : w.heap.size < w5.heap.size := Nat.lt_of_lt_of_le (by first | omega | (simp; done) | (simp; omega)) b5.size
      have B5 : Below w.heap.size w w5 := (by repeat (first | exact Below.refl _ _ | refine below_step (by assumption) (by first | omega | (simp; done) | (simp; omega)) ?_ | refine below_drewN ?_ _ | refine Below.drew ?_ | refine Below.setCell ?_ (by first | omega | (simp; done) | (simp; omega)) _ | refine Below.alloc ?_ (by first | omega | (simp; done) | (simp; omega)) _))
      have E5 : LinkAt w5 A5 es := by exact own_link h5
      clear b5 h5
      go_wp2_with fail
      refine (toIntS_any zs B m cb _ HM.out (by omega) (HZ.out.below (by repeat (first | exact Below.refl _ _ | refine below_step (by assumption) (by first | omega | (simp; done) | (simp; omega)) ?_ | refine below_drewN ?_ _ | refine Below.drew ?_ | refine Below.setCell ?_ (by first | omega | (simp; done) | (simp; omega)) _ | refine Below.alloc ?_ (by first | omega | (simp; done) | (simp; omega)) _)))).mono ?_
      rintro e w6 ⟨v6, rfl, h6, b6⟩
      have ka6 : w6.cell? ⟨w.heap.size, 0, none⟩ = some (.int .i64 n) := (b6.cell (p := ⟨w.heap.size, 0, none⟩) (by first | omega | (simp; done) | (simp; omega))).trans (by first | assumption | go_simp)
      have kb6 : w6.cell? ⟨w.heap.size, 1, none⟩ = some (.slice A k c) := (b6.cell (p := ⟨w.heap.size, 1, none⟩) (by first | omega | (simp; done) | (simp; omega))).trans (by first | assumption | go_simp)
      have sz6 : w.heap.size < w6.heap.size := Nat.lt_of_lt_of_le (by first | omega | (simp; done) | (simp; omega)) b6.size
      have kc6 : w6.cell? ⟨w5.heap.size, 0, none⟩ = some (.int .i64 n) := (b6.cell (p := ⟨w5.heap.size, 0, none⟩) (by first | omega | (simp; done) | (simp; omega))).trans (by first | assumption | go_simp)
      have kd6 : w6.cell? ⟨w5.heap.size, 1, none⟩ = some (.slice A5 k c5) := (b6.cell (p := ⟨w5.heap.size, 1, none⟩) (by first | omega | (simp; done) | (simp; omega))).trans (by first | assumption | go_simp)
      have sy6 : w5.heap.size < w6.heap.size := Nat.lt_of_lt_of_le (by first | omega | (simp; done) | (simp; omega)) b6.size
      have E6 : LinkAt w6 A5 es := E5.below (by repeat (first | exact Below.refl _ _ | refine below_step (by assumption) (by first | omega | (simp; done) | (simp; omega)) ?_ | refine below_drewN ?_ _ | refine Below.drew ?_ | refine Below.setCell ?_ (by first | omega | (simp; done) | (simp; omega)) _ | refine Below.alloc ?_ (by first | omega | (simp; done) | (simp; omega)) _))
      have B6 : Below w.heap.size w w6 := (by repeat (first | exact Below.refl _ _ | refine below_step (by assumption) (by first | omega | (simp; done) | (simp; omega)) ?_ | refine below_drewN ?_ _ | refine Below.drew ?_ | refine Below.setCell ?_ (by first | omega | (simp; done) | (simp; omega)) _ | refine Below.alloc ?_ (by first | omega | (simp; done) | (simp; omega)) _))
      obtain ⟨A6, c6, rfl, _, R6⟩ := own_form h6
      clear b6 h6
      go_wp2_with fail
      refine (impl_CanExtend n es A5 k c5 zs A6 m c6 _ HL.out h HM.out E6 R6).mono ?_
      rintro e w7 ⟨rfl, b7⟩
      have ka7 : w7.cell? ⟨w.heap.size, 0, none⟩ = some (.int .i64 n) := (b7.cell (p := ⟨w.heap.size, 0, none⟩) (by first | omega | (simp; done) | (simp; omega))).trans (by first | assumption | go_simp)
      have kb7 : w7.cell? ⟨w.heap.size, 1, none⟩ = some (.slice A k c) := (b7.cell (p := ⟨w.heap.size, 1, none⟩) (by first | omega | (simp; done) | (simp; omega))).trans (by first | assumption | go_simp)
      have sz7 : w.heap.size < w7.heap.size := Nat.lt_of_lt_of_le (by first | omega | (simp; done) | (simp; omega)) b7.size
      have kc7 : w7.cell? ⟨w5.heap.size, 0, none⟩ = some (.int .i64 n) := (b7.cell (p := ⟨w5.heap.size, 0, none⟩) (by first | omega | (simp; done) | (simp; omega))).trans (by first | assumption | go_simp)
      have kd7 : w7.cell? ⟨w5.heap.size, 1, none⟩ = some (.slice A5 k c5) := (b7.cell (p := ⟨w5.heap.size, 1, none⟩) (by first | omega | (simp; done) | (simp; omega))).trans (by first | assumption | go_simp)
      have sy7 : w5.heap.size < w7.heap.size := Nat.lt_of_lt_of_le (by first | omega | (simp; done) | (simp; omega)) b7.size
      have B7 : Below w.heap.size w w7 := (by repeat (first | exact Below.refl _ _ | refine below_step (by assumption) (by first | omega | (simp; done) | (simp; omega)) ?_ | refine below_drewN ?_ _ | refine Below.drew ?_ | refine Below.setCell ?_ (by first | omega | (simp; done) | (simp; omega)) _ | refine Below.alloc ?_ (by first | omega | (simp; done) | (simp; omega)) _))
      have E7 : LinkAt w7 A5 es := E6.below b7
      have R7 := R6.below b7
      clear b7 E5 E6 R6
      go_wp2_with fail
      go_region_held3 (fun W => W.cell? ⟨w.heap.size, 0, none⟩ = some (.int .i64 n) ∧ W.cell? ⟨w.heap.size, 1, none⟩ = some (.slice A k c) ∧ W.cell? ⟨w5.heap.size, 0, none⟩ = some (.int .i64 n) ∧ W.cell? ⟨w5.heap.size, 1, none⟩ = some (.slice A5 k c5)) (first | go_keep | (dsimp only; refine ⟨?_, ?_, ?_, ?_⟩ <;> first | assumption | go_keep | go_simp)) (first | (go_at_call 27; refine (toSimple_any n es A k c _ HL.out h (HR.out.below (by repeat (first | exact Below.refl _ _ | refine below_step (by assumption) (by first | omega | (simp; done) | (simp; omega)) ?_ | refine below_drewN ?_ _ | refine Below.drew ?_ | refine Below.setCell ?_ (by first | omega | (simp; done) | (simp; omega)) _ | refine Below.alloc ?_ (by first | omega | (simp; done) | (simp; omega)) _)))).mono ?_; rintro e w8 ⟨A8, c8, rfl, h8, b8⟩; unfold grV; have ka8 : w8.cell? ⟨w.heap.size, 0, none⟩ = some (.int .i64 n) := (b8.cell (p := ⟨w.heap.size, 0, none⟩) (by first | omega | (simp; done) | (simp; omega))).trans (by first | assumption | go_simp); have kb8 : w8.cell? ⟨w.heap.size, 1, none⟩ = some (.slice A k c) := (b8.cell (p := ⟨w.heap.size, 1, none⟩) (by first | omega | (simp; done) | (simp; omega))).trans (by first | assumption | go_simp); have sz8 : w.heap.size < w8.heap.size := Nat.lt_of_lt_of_le (by first | omega | (simp; done) | (simp; omega)) b8.size; have q8 : w7.heap.size ≤ w8.heap.size := b8.size; have sy8 : w5.heap.size < w8.heap.size := Nat.lt_of_lt_of_le (by first | omega | (simp; done) | (simp; omega)) b8.size; have kc8 : w8.cell? ⟨w5.heap.size, 0, none⟩ = some (.int .i64 n) := (b8.cell (p := ⟨w5.heap.size, 0, none⟩) (by first | omega | (simp; done) | (simp; omega))).trans (by first | assumption | go_simp); have kd8 : w8.cell? ⟨w5.heap.size, 1, none⟩ = some (.slice A5 k c5) := (b8.cell (p := ⟨w5.heap.size, 1, none⟩) (by first | omega | (simp; done) | (simp; omega))).trans (by first | assumption | go_simp); have E8 : LinkAt w8 A8 es := (by exact own_link h8); have F8 : LinkAt w8 A5 es := LinkAt.below (w := _) (by exact LinkAt.of_heap E7 rfl) b8) | (go_at_call 29; refine (eqSimple_same n es A5 A8 k c5 c8 _ HL.out hm (by exact F8.of_heap rfl) (by exact E8.of_heap rfl)).mono ?_; rintro e w9 ⟨rfl, b9⟩; have ka9 : w9.cell? ⟨w.heap.size, 0, none⟩ = some (.int .i64 n) := (b9.cell (p := ⟨w.heap.size, 0, none⟩) (by first | omega | (simp; done) | (simp; omega))).trans (by first | assumption | go_simp); have kb9 : w9.cell? ⟨w.heap.size, 1, none⟩ = some (.slice A k c) := (b9.cell (p := ⟨w.heap.size, 1, none⟩) (by first | omega | (simp; done) | (simp; omega))).trans (by first | assumption | go_simp); have sz9 : w.heap.size < w9.heap.size := Nat.lt_of_lt_of_le (by first | omega | (simp; done) | (simp; omega)) b9.size; have kc9 : w9.cell? ⟨w5.heap.size, 0, none⟩ = some (.int .i64 n) := (b9.cell (p := ⟨w5.heap.size, 0, none⟩) (by first | omega | (simp; done) | (simp; omega))).trans (by first | assumption | go_simp); have kd9 : w9.cell? ⟨w5.heap.size, 1, none⟩ = some (.slice A5 k c5) := (b9.cell (p := ⟨w5.heap.size, 1, none⟩) (by first | omega | (simp; done) | (simp; omega))).trans (by first | assumption | go_simp)))
      all_goals
        have b79 : Below w7.heap.size w7 w9 := (by repeat (first | exact Below.refl _ _ | refine below_step (by assumption) (by first | omega | (simp; done) | (simp; omega)) ?_ | refine below_drewN ?_ _ | refine Below.drew ?_ | refine Below.setCell ?_ (by first | omega | (simp; done) | (simp; omega)) _ | refine Below.alloc ?_ (by first | omega | (simp; done) | (simp; omega)) _))
        have B9 : Below w.heap.size w w9 := (by repeat (first | exact Below.refl _ _ | refine below_step (by assumption) (by first | omega | (simp; done) | (simp; omega)) ?_ | refine below_drewN ?_ _ | refine Below.drew ?_ | refine Below.setCell ?_ (by first | omega | (simp; done) | (simp; omega)) _ | refine Below.alloc ?_ (by first | omega | (simp; done) | (simp; omega)) _))
        have R9 : RowAt w9 A6 (zs.map intV) := R7.below b79
        clear b8 b9 h8 E8 F8
        go_wp2_with fail
        refine (toIntS_any zs B m cb _ HM.out (by omega) (HZ.out.below (by repeat (first | exact Below.refl _ _ | refine below_step (by assumption) (by first | omega | (simp; done) | (simp; omega)) ?_ | refine below_drewN ?_ _ | refine Below.drew ?_ | refine Below.setCell ?_ (by first | omega | (simp; done) | (simp; omega)) _ | refine Below.alloc ?_ (by first | omega | (simp; done) | (simp; omega)) _)))).mono ?_
        rintro e w10 ⟨v10, rfl, h10, b10⟩
        obtain ⟨A10, c10, rfl, _, R10⟩ := own_form h10
        go_wp2_with fail
        refine (eqIntS_same zs A6 A10 m c6 c10 _ HM.out hzm (R9.below (by exact b10)) R10).mono ?_
        rintro e w11 ⟨rfl, q11, rfl⟩
        go_wp2_with fail
        go_ret
        exact ⟨rfl, (by repeat (first | exact Below.refl _ _ | refine below_step (by assumption) (by first | omega | (simp; done) | (simp; omega)) ?_ | refine below_drewN ?_ _ | refine Below.drew ?_ | refine Below.setCell ?_ (by first | omega | (simp; done) | (simp; omega)) _ | refine Below.alloc ?_ (by first | omega | (simp; done) | (simp; omega)) _))⟩
    · rw [if_neg h] at HS
      go_enter Try.func7, Try.ntmps7
      unfold grV at HS
      unfold grV
      go_wp2_with fail
      refine (HS.out _).mono ?_
      rintro e w1 ⟨rfl, b1⟩
      go_wp2_with fail
      go_ret
      exact ⟨rfl, (by repeat (first | exact Below.refl _ _ | refine below_step (by assumption) (by first | omega | (simp; done) | (simp; omega)) ?_ | refine below_drewN ?_ _ | refine Below.drew ?_ | refine Below.setCell ?_ (by first | omega | (simp; done) | (simp; omega)) _ | refine Below.alloc ?_ (by first | omega | (simp; done) | (simp; omega)) _))⟩
  · have hl1 : ((1048576 : Int) < m) := by omega
    go_enter Try.func7, Try.ntmps7
    unfold grV
    go_wp2_with fail
    go_ret
    exact ⟨rfl, (by repeat (first | exact Below.refl _ _ | refine below_step (by assumption) (by first | omega | (simp; done) | (simp; omega)) ?_ | refine below_drewN ?_ _ | refine Below.drew ?_ | refine Below.setCell ?_ (by first | omega | (simp; done) | (simp; omega)) _ | refine Below.alloc ?_ (by first | omega | (simp; done) | (simp; omega)) _))⟩

/-! ### FnExactCanExtend: the row -/

set_option maxRecDepth 100000 in
theorem FnExactCanExtend_lifted (os : Os) (started : os.Started) (H : Type) (enc : TypeId × Value → H) :
    ReturnsInHanded {} Try.checked os 7 .any (Rows.fnExactCanExtendSpec.pre6 enc Try.prog Try.f7 Rows.fnExactCanExtendRow.domain false) (Rows.fnExactCanExtendSpec.post enc Try.prog Try.f7 false true false false) := by
  refine returnsInHanded_of_change (C := Try.checked) (by kernel_rfl) started (by kernel_rfl) Try.func7
    (ChangeSpec.witness6 (enc := enc) (C := Try.checked) false ⟨#[], #[.agg #[.int .i64 0, .slice none 0 0], .slice none 0 0], []⟩ 8 (by kernel_rfl) (by kernel_rfl) (by kernel_rfl) (by kernel_rfl)) ?_
  intro W base args ds gs before hval0 hW hcnd _
  have hval : ∀ (j : Nat) t v, Try.f7.params[j]? = some t → args[j]? = some v → Value.okWide Try.prog W .any base t v := hval0
  have hW2 := hW
  obtain ⟨p, q, hA0, hV, hpq, hfz, hnd⟩ := hW2
  have hA : DataW.TrodAll enc Try.prog W 0 (fun _ => true) true Try.f7.params.toList args.toList ds p := hA0
  rw [Try.params7] at hA hval
  obtain ⟨v0, v1, d0, d1, p0, p1, hargs, hds, hp, h0, h1⟩ := trodAll_two hA
  obtain ⟨hgs, hq⟩ := trodVars_none hV
  subst hargs
  subst hds
  subst hgs
  obtain ⟨n0, A0, k0, c0, es0, rfl, wn0, hl0, hm0, hw0, hr0⟩ := open_simple (hval 0 46 v0 rfl rfl) h0
  obtain ⟨s1, l1, c1, rfl⟩ := okWide_slice Try.underlying33 (hval 1 33 v1 rfl rfl)
  obtain ⟨fuel1, hf1⟩ := h1
  obtain ⟨zs1, hzl1, hzm1, hzw1, hzr1⟩ := ints_in Try.underlying33 Try.underlying3 cells_int1 hf1
  refine (FnExactCanExtend_walk n0 es0 A0 k0 c0 zs1 s1 l1 c1 W wn0 hl0 hm0 hw0 hr0 hzl1 hzm1 hzw1 hzr1).mono fun e W2 ⟨he, hb⟩ => ?_
  subst he
  exact ⟨_, rfl, law_post (by kernel_rfl) (by rw [Try.params7]; decide +kernel) (by kernel_rfl) Try.underlying4 rfl ⟨rfl, rfl, rfl⟩ hW hb⟩

theorem FnExactCanExtend_holds : Rows.FnExactCanExtendSaid :=
  OpenClaim.holds_of_wide 7 Try.f7 rfl rfl rfl rfl rfl rfl rfl ⟨rfl, rfl, rfl, rfl, rfl⟩ rfl rfl rfl rfl rfl (by kernel_rfl) Try.func7 (by kernel_rfl)
    (of_decide_eq_true (by kernel_rfl)) (by unfold Func.isWrapper; first | (rw [if_pos (by decide +kernel)]; kernel_rfl) | (rw [if_neg (by decide +kernel)]; exact ⟨rfl, rfl⟩))
    (fun os started H enc _ => FnExactCanExtend_lifted os started H enc)

end Go.Proofs.Yteppmlepbfjnpaa

