/-
  laws.FnExactNegativeCycle HOLDS: whatever the arguments, impl.NegativeCycle answers as spec.NegativeCycle does, the arguments read as they did, and the answer's memory is its own. No condition.
-/
import Derived.Test.YtdmockkifoknnaaRows
import Derived.Test.YtdmockkifoknnaaFrame
import Derived.Test.YtdmockkifoknnaaGrZ
import Derived.Deep.RegionHeld3
import Derived.Deep.CutRange
import Derived.ProofKit
import Derived.Lib.SmallJoins
namespace Go.Proofs.Ytdmockkifoknnaa
open Go.RowKit Go.ChangeShapes Go.WideShapes Go.ChangeAt Go.WideMaps Go.WideElems
set_option linter.unusedVariables false
set_option linter.unusedSimpArgs false

set_option maxRecDepth 100000 in
set_option maxHeartbeats 8000000 in
theorem FnExactNegativeCycle_walk (n : Int) (es : List GE) (A : Option Addr) (k c : Nat) (w : World) (wn : (Lit.int .i64 n).wf = true) (hn : es.length = k) (hm : k ≤ maxLen) (hw : ∀ e ∈ es, e.wf) (hr : EdgeAt w A es) :
    Calls Try.prog 5 #[grV n A k c] w fun e w' => e = .returned (.bool true) ∧ Below w.heap.size w w' := by
  have HZ := Lib.hid (szGraph_any n A k c · hm)
  have HR := Lib.hid hr
  have HL := Lib.hid hn
  clear hr hn
  by_cases h : k ≤ 1048576
  · rw [if_pos h] at HZ
    have hlt : ¬ ((1048576 : Int) - k < 0) := by omega
    obtain ⟨zs, hzs⟩ : ∃ zs, zs = cycR n es := ⟨_, rfl⟩
    have hlen : zs.length ≤ 8 := by rw [hzs]; exact cycR_len n es
    have hsp := fun A' c' W h' => spec_NegativeCycle n es A' k c' W HL.out h h'
    have him := fun A' c' W h' => impl_NegativeCycle n es A' k c' W HL.out h h'
    simp only [← hzs] at hsp him
    obtain ⟨m, hml⟩ : ∃ m, m = zs.length := ⟨_, rfl⟩
    rw [← hml] at hsp him hlen
    have HSP := Lib.hid hsp
    have HIM := Lib.hid him
    have HML := Lib.hid hml
    clear hsp him hml hzs
    unfold grV at HZ HSP HIM
    have t1 : ¬ ((1 : Int) + 3 * (k : Int) < 0) := by omega
    have t2 : ¬ ((1 : Int) + (m : Int) < 0) := by omega
    have t3 : (((1 : Int) + (m : Int)) != (1 : Int) + (m : Int)) = false := by simp
    go_enter Try.func5, Try.ntmps5
    unfold grV
    go_wp2_with fail
    refine (HZ.out _).mono ?_
    rintro e w1 ⟨rfl, b1⟩
    have ka1 : w1.cell? ⟨w.heap.size, 0, none⟩ = some (.int .i64 n) := (b1.cell (p := ⟨w.heap.size, 0, none⟩) (by first | omega | (simp; done) | (simp; omega))).trans (by first | assumption | go_simp)
    have kb1 : w1.cell? ⟨w.heap.size, 1, none⟩ = some (.slice A k c) := (b1.cell (p := ⟨w.heap.size, 1, none⟩) (by first | omega | (simp; done) | (simp; omega))).trans (by first | assumption | go_simp)
    have sz1 : w.heap.size < w1.heap.size := Nat.lt_of_lt_of_le (by first | omega | (simp; done) | (simp; omega)) b1.size
    have B1 : Below w.heap.size w w1 := (by repeat (first | exact Below.refl _ _ | refine below_step (by assumption) (by first | omega | (simp; done) | (simp; omega)) ?_ | refine below_drewN ?_ _ | refine Below.drew ?_ | refine Below.setCell ?_ (by first | omega | (simp; done) | (simp; omega)) _ | refine Below.alloc ?_ (by first | omega | (simp; done) | (simp; omega)) _))
    clear b1
    go_wp2_with fail
    refine (toGraph_any n es A k c _ HL.out h (HR.out.below B1)).mono ?_
    rintro e w2 ⟨A2, c2, rfl, h2, b2⟩
    unfold grV
    have ka2 : w2.cell? ⟨w.heap.size, 0, none⟩ = some (.int .i64 n) := (b2.cell (p := ⟨w.heap.size, 0, none⟩) (by first | omega | (simp; done) | (simp; omega))).trans (by first | assumption | go_simp)
    have kb2 : w2.cell? ⟨w.heap.size, 1, none⟩ = some (.slice A k c) := (b2.cell (p := ⟨w.heap.size, 1, none⟩) (by first | omega | (simp; done) | (simp; omega))).trans (by first | assumption | go_simp)
    have sz2 : w.heap.size < w2.heap.size := Nat.lt_of_lt_of_le (by first | omega | (simp; done) | (simp; omega)) b2.size
    have B2 : Below w.heap.size w w2 := (by repeat (first | exact Below.refl _ _ | refine below_step (by assumption) (by first | omega | (simp; done) | (simp; omega)) ?_ | refine below_drewN ?_ _ | refine Below.drew ?_ | refine Below.setCell ?_ (by first | omega | (simp; done) | (simp; omega)) _ | refine Below.alloc ?_ (by first | omega | (simp; done) | (simp; omega)) _))
    have E2 : EdgeAt w2 A2 es := by obtain ⟨_, _, hv, _, hE⟩ := ownE_form h2; injection hv with hv; rw [hv]; exact hE
    clear b2 h2 ka1 kb1 sz1 B1
    go_wp2_with fail
    refine (HSP.out A2 c2 _ E2).mono ?_
    rintro e w3 ⟨D3, m3, c3, rfl, hm3, R3, b3⟩
    obtain rfl : m = m3 := hm3.symm
    have ka3 : w3.cell? ⟨w.heap.size, 0, none⟩ = some (.int .i64 n) := (b3.cell (p := ⟨w.heap.size, 0, none⟩) (by first | omega | (simp; done) | (simp; omega))).trans (by first | assumption | go_simp)
    have kb3 : w3.cell? ⟨w.heap.size, 1, none⟩ = some (.slice A k c) := (b3.cell (p := ⟨w.heap.size, 1, none⟩) (by first | omega | (simp; done) | (simp; omega))).trans (by first | assumption | go_simp)
    have sz3 : w.heap.size < w3.heap.size := Nat.lt_of_lt_of_le (by first | omega | (simp; done) | (simp; omega)) b3.size
    have B3 : Below w.heap.size w w3 := (by repeat (first | exact Below.refl _ _ | refine below_step (by assumption) (by first | omega | (simp; done) | (simp; omega)) ?_ | refine below_drewN ?_ _ | refine Below.drew ?_ | refine Below.setCell ?_ (by first | omega | (simp; done) | (simp; omega)) _ | refine Below.alloc ?_ (by first | omega | (simp; done) | (simp; omega)) _))
    clear b3 E2 ka2 kb2 sz2 B2
    go_wp2_with fail
    refine (toGraph_any n es A k c _ HL.out h (HR.out.below B3)).mono ?_
    rintro e w4 ⟨A4, c4, rfl, h4, b4⟩
    unfold grV
    have V4 : Below w3.heap.size w3 w4 := (by repeat (first | exact Below.refl _ _ | refine below_step (by assumption) (by first | omega | (simp; done) | (simp; omega)) ?_ | refine below_drewN ?_ _ | refine Below.drew ?_ | refine Below.setCell ?_ (by first | omega | (simp; done) | (simp; omega)) _ | refine Below.alloc ?_ (by first | omega | (simp; done) | (simp; omega)) _))
    clear b4
    have lt4 := h4.lt
    obtain ⟨bx, hbx⟩ : ∃ bx, bx = w4.heap.size := ⟨_, rfl⟩
    have sz4 : w3.heap.size ≤ bx := by rw [hbx]; exact V4.size
    obtain ⟨wb, hwb⟩ : ∃ wb, wb = w4.alloc (.cells #[.int .i64 n, .slice A4 k c4] 29) := ⟨_, rfl⟩
    have szb : wb.heap.size = bx + 1 := by rw [hwb, hbx]; simp
    have Vb : Below w3.heap.size w3 wb := by rw [hwb]; exact V4.alloc V4.size _
    have Xb : wb.ownsRow w3.heap.size 48 3 (.slice A4 k c4) k (cellsE es) := by rw [hwb]; exact h4.alloc _
    have Eb : EdgeAt wb A4 es := by obtain ⟨_, _, hv, _, hE⟩ := ownE_form Xb; injection hv with hv; rw [hv]; exact hE
    have kcb : wb.cell? ⟨bx, 0, none⟩ = some (.int .i64 n) := by rw [hwb, hbx]; go_simp
    have kdb : wb.cell? ⟨bx, 1, none⟩ = some (.slice A4 k c4) := by rw [hwb, hbx]; go_simp
    have kab := (Vb.cell (p := ⟨w.heap.size, 0, none⟩) (by dsimp only; omega)).trans ka3
    have kbb := (Vb.cell (p := ⟨w.heap.size, 1, none⟩) (by dsimp only; omega)).trans kb3
    have lt4b : ∀ q, (Value.slice A4 k c4).ownBlock = some q → w3.heap.size ≤ q ∧ q < bx := by rw [hbx]; exact lt4
    go_upto_region 7 with (fail)
    rw [← hwb]
    rw [← hbx]
    clear hwb hbx V4 lt4 h4
    go_wp2_with fail
    refine (HIM.out A4 c4 _ Eb).mono ?_
    rintro e w5 ⟨D5, m5, c5, rfl, hm5, G5, U5⟩
    obtain rfl : m = m5 := hm5.symm
    rw [szb] at G5
    have V5 : Below w3.heap.size w3 w5 := Vb.trans (U5.mono Vb.size)
    have ka5 := (V5.cell (p := ⟨w.heap.size, 0, none⟩) (by dsimp only; omega)).trans ka3
    have kb5 := (V5.cell (p := ⟨w.heap.size, 1, none⟩) (by dsimp only; omega)).trans kb3
    have kc5 := (U5.cell (p := ⟨bx, 0, none⟩) (by dsimp only; omega)).trans kcb
    have kd5 := (U5.cell (p := ⟨bx, 1, none⟩) (by dsimp only; omega)).trans kdb
    have E5 := Eb.below U5
    have X5 := own_below Xb U5
    have R5 := R3.below V5
    clear kab kbb kcb kdb Eb Xb U5 Vb
    go_wp2_with fail
    refine (eqIntS_same zs D5 D3 m c5 c3 _ HML.out.symm (by unfold maxLen; omega) (own_row G5) R5).mono ?_
    rintro e w6 ⟨rfl, hq6⟩
    have U6 : Below w5.heap.size w5 w6 := by obtain ⟨q, rfl⟩ := hq6; exact below_drewN (Below.refl _ _) _
    have V6 : Below w3.heap.size w3 w6 := V5.trans (U6.mono V5.size)
    have ka6 := (V6.cell (p := ⟨w.heap.size, 0, none⟩) (by dsimp only; omega)).trans ka3
    have kb6 := (V6.cell (p := ⟨w.heap.size, 1, none⟩) (by dsimp only; omega)).trans kb3
    have kc6 : w6.cell? ⟨bx, 0, none⟩ = some (.int .i64 n) := by obtain ⟨q, rfl⟩ := hq6; go_simp
    have kd6 : w6.cell? ⟨bx, 1, none⟩ = some (.slice A4 k c4) := by obtain ⟨q, rfl⟩ := hq6; go_simp
    have E6 := E5.below U6
    have X6 := own_below X5 U6
    have G6 := own_below G5 U6
    have sx6 : bx < w6.heap.size := by have h1 := World.cell?_lt kc6; exact h1
    have s36 : w3.heap.size ≤ w6.heap.size := V6.size
    clear ka5 kb5 kc5 kd5 E5 X5 R5 G5 U6 hq6 V5
    have X6 := Lib.hid X6
    have G6 := Lib.hid G6
    have R3 := Lib.hid R3
    go_wp2_with fail
    have B6 : Below w.heap.size w w6 := B3.trans (V6.mono B3.size)
    go_region_held3 (fun W => W.cell? ⟨w.heap.size, 0, none⟩ = some (.int .i64 n) ∧ W.cell? ⟨w.heap.size, 1, none⟩ = some (.slice A k c) ∧ W.cell? ⟨bx, 0, none⟩ = some (.int .i64 n) ∧ W.cell? ⟨bx, 1, none⟩ = some (.slice A4 k c4)) (first | go_keep | (dsimp only; refine ⟨?_, ?_, ?_, ?_⟩ <;> first | assumption | go_keep | go_simp)) (first | (go_at_call 10; refine (toGraph_any n es A k c _ HL.out h (HR.out.below (by repeat (first | exact Below.refl _ _ | refine below_step (by assumption) (by first | omega | (simp; done) | (simp; omega)) ?_ | refine below_drewN ?_ _ | refine Below.drew ?_ | refine Below.setCell ?_ (by first | omega | (simp; done) | (simp; omega)) _ | refine Below.alloc ?_ (by first | omega | (simp; done) | (simp; omega)) _)))).mono ?_; rintro e w7 ⟨A7, c7, rfl, h7, b7⟩; unfold grV; have ka7 : w7.cell? ⟨w.heap.size, 0, none⟩ = some (.int .i64 n) := (b7.cell (p := ⟨w.heap.size, 0, none⟩) (by first | omega | (simp; done) | (simp; omega))).trans (by first | assumption | go_simp); have kb7 : w7.cell? ⟨w.heap.size, 1, none⟩ = some (.slice A k c) := (b7.cell (p := ⟨w.heap.size, 1, none⟩) (by first | omega | (simp; done) | (simp; omega))).trans (by first | assumption | go_simp); have sz7 : w.heap.size < w7.heap.size := Nat.lt_of_lt_of_le (by first | omega | (simp; done) | (simp; omega)) b7.size; have sy7 : bx < w7.heap.size := Nat.lt_of_lt_of_le (by first | omega | (simp; done) | (simp; omega)) b7.size; have kc7 : w7.cell? ⟨bx, 0, none⟩ = some (.int .i64 n) := (b7.cell (p := ⟨bx, 0, none⟩) (by first | omega | (simp; done) | (simp; omega))).trans (by first | assumption | go_simp); have kd7 : w7.cell? ⟨bx, 1, none⟩ = some (.slice A4 k c4) := (b7.cell (p := ⟨bx, 1, none⟩) (by first | omega | (simp; done) | (simp; omega))).trans (by first | assumption | go_simp); have q7 : w6.heap.size ≤ w7.heap.size := b7.size; have E7 : EdgeAt w7 A7 es := (by obtain ⟨_, _, hv, _, hE⟩ := ownE_form h7; injection hv with hv; rw [hv]; exact hE); have F7 : EdgeAt w7 A4 es := EdgeAt.below (w := _) (by exact EdgeAt.of_heap E6 rfl) b7) | (go_at_call 12; refine (eqGraph_same n es A4 A7 k c4 c7 _ HL.out hm (by exact F7.of_heap rfl) (by exact E7.of_heap rfl)).mono ?_; rintro e w8 ⟨rfl, b8⟩; have ka8 : w8.cell? ⟨w.heap.size, 0, none⟩ = some (.int .i64 n) := (b8.cell (p := ⟨w.heap.size, 0, none⟩) (by first | omega | (simp; done) | (simp; omega))).trans (by first | assumption | go_simp); have kb8 : w8.cell? ⟨w.heap.size, 1, none⟩ = some (.slice A k c) := (b8.cell (p := ⟨w.heap.size, 1, none⟩) (by first | omega | (simp; done) | (simp; omega))).trans (by first | assumption | go_simp); have sz8 : w.heap.size < w8.heap.size := Nat.lt_of_lt_of_le (by first | omega | (simp; done) | (simp; omega)) b8.size; have sy8 : bx < w8.heap.size := Nat.lt_of_lt_of_le (by first | omega | (simp; done) | (simp; omega)) b8.size; have kc8 : w8.cell? ⟨bx, 0, none⟩ = some (.int .i64 n) := (b8.cell (p := ⟨bx, 0, none⟩) (by first | omega | (simp; done) | (simp; omega))).trans (by first | assumption | go_simp); have kd8 : w8.cell? ⟨bx, 1, none⟩ = some (.slice A4 k c4) := (b8.cell (p := ⟨bx, 1, none⟩) (by first | omega | (simp; done) | (simp; omega))).trans (by first | assumption | go_simp)))
    all_goals
      have U8 : Below w6.heap.size w6 w8 := (by repeat (first | exact Below.refl _ _ | refine below_step (by assumption) (by first | omega | (simp; done) | (simp; omega)) ?_ | refine below_drewN ?_ _ | refine Below.drew ?_ | refine Below.setCell ?_ (by first | omega | (simp; done) | (simp; omega)) _ | refine Below.alloc ?_ (by first | omega | (simp; done) | (simp; omega)) _))
      clear b7 b8 h7 E7 F7 ka6 kb6 kc6 kd6 ka7 kb7 kc7 kd7
      have V8 : Below w3.heap.size w3 w8 := V6.trans (U8.mono s36)
      have X8 := own_below X6.out U8
      have G8 := own_below G6.out U8
      clear X6 G6 U8 V6 E6
      have hmg := markGraph_any n A4 k c4 w3.heap.size 1 (cellsE es) w8 (by omega) X8
      rw [show ((1 : Nat) : Int) = 1 from rfl] at hmg
      unfold grV at hmg
      have hmg := Lib.hid hmg
      have G8 := Lib.hid G8
      have V8 := Lib.hid V8
      clear X8
      go_wp2_with fail
      refine hmg.out.mono ?_
      rintro e w9 ⟨rfl, hg9⟩
      have V9 : Below w3.heap.size w3 w9 := (V8.out.alloc V8.out.size _).grown hg9 (by have := V8.out.size; simp; omega) (fun q hq => (lt4b q hq).1)
      have G9 := (G8.out.alloc _).kept hg9 (own_apart (G8.out.alloc (.cells #[.int .i64 n, .slice A4 k c4] 29)) (fun q hq => by have := (lt4b q hq).2; omega))
      have R9 := R3.out.below V9
      have ka9 := (V9.cell (p := ⟨w.heap.size, 0, none⟩) (by dsimp only; omega)).trans ka3
      have kb9 := (V9.cell (p := ⟨w.heap.size, 1, none⟩) (by dsimp only; omega)).trans kb3
      clear hg9 V8 G8 hmg ka8 kb8 kc8 kd8
      go_wp2_with fail
      refine (eqIntS_same zs D5 D3 m c5 c3 _ HML.out.symm (by unfold maxLen; omega) (own_row G9) R9).mono ?_
      rintro e w10 ⟨rfl, hq10⟩
      have U10 : Below w9.heap.size w9 w10 := by obtain ⟨q, rfl⟩ := hq10; exact below_drewN (Below.refl _ _) _
      have V10 : Below w3.heap.size w3 w10 := V9.trans (U10.mono V9.size)
      have G10 := own_below G9 U10
      have hmk := markIntS_any D5 m c5 (bx + 1) 1 (zs.map intV) w10 (by omega) (by omega) G10
      rw [show ((1 : Nat) : Int) = 1 from rfl] at hmk
      have hmk := Lib.hid hmk
      have lt10 := G10.lt
      have lt10 := Lib.hid lt10
      have V10 := Lib.hid V10
      clear G9 R9 V9 U10 hq10 G10 ka9 kb9
      go_wp2_with fail
      refine hmk.out.mono ?_
      rintro e w11 ⟨rfl, G11, hg11⟩
      have V11 : Below w3.heap.size w3 w11 := V10.out.grown hg11 V10.out.size (fun q hq => by have := (lt10.out q hq).1; omega)
      have ka11 := (V11.cell (p := ⟨w.heap.size, 0, none⟩) (by dsimp only; omega)).trans ka3
      have kb11 := (V11.cell (p := ⟨w.heap.size, 1, none⟩) (by dsimp only; omega)).trans kb3
      have B11 : Below w.heap.size w w11 := B3.trans (V11.mono B3.size)
      have sz11 : w.heap.size < w11.heap.size := Nat.lt_of_lt_of_le sz3 V11.size
      have hhd := heldIntS_any D5 m c5 1 w11 (by omega) (by omega) (own_row G11)
      rw [show ((1 : Nat) : Int) = 1 from rfl] at hhd
      have hhd := Lib.hid (hhd.mono (R' := fun e w' => e = .returned (.int .i64 ((1 : Int) + m)) ∧ w11 = w') (fun e w' ⟨h1, h2⟩ => ⟨h1, h2.symm⟩))
      have R11 := Lib.hid (own_row G11)
      clear hg11 hmk lt10 V10 G11
      go_wp2_with fail
      refine hhd.out.mono ?_
      rintro e w12 ⟨rfl, rfl⟩
      clear hhd
      go_wp2_with fail
      refine (toGraph_any n es A k c _ HL.out h (HR.out.below B11)).mono ?_
      rintro e w13 ⟨A13, c13, rfl, h13, b13⟩
      unfold grV
      have E13 : EdgeAt w13 A13 es := by obtain ⟨_, _, hv, _, hE⟩ := ownE_form h13; injection hv with hv; rw [hv]; exact hE
      clear h13
      go_wp2_with fail
      refine (HIM.out A13 c13 _ E13).mono ?_
      rintro e w14 ⟨D14, m14, c14, rfl, hm14, G14, b14⟩
      obtain rfl : m = m14 := hm14.symm
      have U14 : Below w11.heap.size w11 w14 := b13.trans (b14.mono b13.size)
      have V14 : Below w3.heap.size w3 w14 := V11.trans (U14.mono V11.size)
      have R14 := R3.out.below V14
      have Q14 := R11.out.below U14
      clear b13 b14 E13 U14
      go_wp2_with fail
      refine (eqIntS_same zs D14 D3 m c14 c3 _ HML.out.symm (by unfold maxLen; omega) (own_row G14) R14).mono ?_
      rintro e w15 ⟨rfl, hq15⟩
      have U15 : Below w14.heap.size w14 w15 := by obtain ⟨q, rfl⟩ := hq15; exact below_drewN (Below.refl _ _) _
      have B15 : Below w.heap.size w w15 := B3.trans ((V14.trans (U15.mono V14.size)).mono B3.size)
      have hhd := heldIntS_any D5 m c5 1 w15 (by omega) (by omega) (Q14.below U15)
      rw [show ((1 : Nat) : Int) = 1 from rfl] at hhd
      have hhd := Lib.hid (hhd.mono (R' := fun e w' => e = .returned (.int .i64 ((1 : Int) + m)) ∧ w15 = w') (fun e w' ⟨h1, h2⟩ => ⟨h1, h2.symm⟩))
      clear Q14 R14 U15 hq15 V14 G14
      go_wp2_with fail
      refine hhd.out.mono ?_
      rintro e w16 ⟨rfl, rfl⟩
      clear hhd
      go_wp2_with fail
      go_ret
      exact ⟨rfl, B15⟩
  · rw [if_neg h] at HZ
    go_enter Try.func5, Try.ntmps5
    unfold grV at HZ
    unfold grV
    go_wp2_with fail
    refine (HZ.out _).mono ?_
    rintro e w1 ⟨rfl, b1⟩
    go_wp2_with fail
    go_ret
    exact ⟨rfl, (by repeat (first | exact Below.refl _ _ | refine below_step (by assumption) (by first | omega | (simp; done) | (simp; omega)) ?_ | refine below_drewN ?_ _ | refine Below.drew ?_ | refine Below.setCell ?_ (by first | omega | (simp; done) | (simp; omega)) _ | refine Below.alloc ?_ (by first | omega | (simp; done) | (simp; omega)) _))⟩

/-! ### FnExactNegativeCycle: the row -/

set_option maxRecDepth 100000 in
theorem FnExactNegativeCycle_lifted (os : Os) (started : os.Started) (H : Type) (enc : TypeId × Value → H) :
    ReturnsInHanded {} Try.checked os 5 .any (Rows.fnExactNegativeCycleSpec.pre6 enc Try.prog Try.f5 Rows.fnExactNegativeCycleRow.domain false) (Rows.fnExactNegativeCycleSpec.post enc Try.prog Try.f5 false true false false) := by
  refine returnsInHanded_of_change (C := Try.checked) (by kernel_rfl) started (by kernel_rfl) Try.func5
    (ChangeSpec.witness6 (enc := enc) (C := Try.checked) false ⟨#[], #[.agg #[.int .i64 0, .slice none 0 0]], []⟩ 8 (by kernel_rfl) (by kernel_rfl) (by kernel_rfl) (by kernel_rfl)) ?_
  intro W base args ds gs before hval0 hW hcnd _
  have hval : ∀ (j : Nat) t v, Try.f5.params[j]? = some t → args[j]? = some v → Value.okWide Try.prog W .any base t v := hval0
  have hW2 := hW
  obtain ⟨p, q, hA0, hV, hpq, hfz, hnd⟩ := hW2
  have hA : DataW.TrodAll enc Try.prog W 0 (fun _ => true) true Try.f5.params.toList args.toList ds p := hA0
  rw [Try.params5] at hA hval
  obtain ⟨v0, d0, hargs, hds, h0⟩ := trodAll_one hA
  obtain ⟨hgs, hq⟩ := trodVars_none hV
  subst hargs
  subst hds
  subst hgs
  obtain ⟨n0, A0, k0, c0, es0, rfl, wn0, hl0, hm0, hw0, hr0⟩ := open_graph (hval 0 24 v0 rfl rfl) h0
  refine (FnExactNegativeCycle_walk n0 es0 A0 k0 c0 W wn0 hl0 hm0 hw0 hr0).mono fun e W2 ⟨he, hb⟩ => ?_
  subst he
  exact ⟨_, rfl, law_post (by kernel_rfl) (by rw [Try.params5]; decide +kernel) (by kernel_rfl) Try.underlying4 rfl ⟨rfl, rfl, rfl⟩ hW hb⟩

theorem FnExactNegativeCycle_holds : Rows.FnExactNegativeCycleSaid :=
  OpenClaim.holds_of_wide 5 Try.f5 rfl rfl rfl rfl rfl rfl rfl ⟨rfl, rfl, rfl, rfl, rfl⟩ rfl rfl rfl rfl rfl (by kernel_rfl) Try.func5 (by kernel_rfl)
    (of_decide_eq_true (by kernel_rfl)) (by unfold Func.isWrapper; first | (rw [if_pos (by decide +kernel)]; kernel_rfl) | (rw [if_neg (by decide +kernel)]; exact ⟨rfl, rfl⟩))
    (fun os started H enc _ => FnExactNegativeCycle_lifted os started H enc)

end Go.Proofs.Ytdmockkifoknnaa
