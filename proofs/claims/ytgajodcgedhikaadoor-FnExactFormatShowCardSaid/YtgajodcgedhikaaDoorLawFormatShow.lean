/-
  laws.FnExactFormatShow HOLDS, AND ITS TIED CARD: whatever the arguments, impl.FormatShow answers as spec.FormatShow does, and the arguments read as they did.
-/
import Derived.Test.YtgajodcgedhikaaDoorCards
import Derived.Test.YtgajodcgedhikaaDoorTie
import Derived.Test.YtgajodcgedhikaaDoorFrame
import Derived.Test.YtgajodcgedhikaaDoorBdIvOk
import Derived.Test.YtgajodcgedhikaaDoorBdShE
import Derived.Test.YtgajodcgedhikaaDoorBdStD
import Derived.ProofKit
import Derived.Lib.SmallJoins
import Derived.Deep.RegionHeld3
import Derived.Deep.CutRange
import Derived.Deep.DeepHandedRow
import Derived.Deep.DeepWitnessRowRef
import Derived.LaidMore
import Derived.LaidHandle
import Derived.MakeChecks
import Derived.Stop.LaidErr
import Derived.Lib.LaidTab
namespace Go.Proofs.YtgajodcgedhikaaDoor
open Go.RowKit Go.ChangeShapes Go.WideShapes Go.ChangeAt Go.WideMaps Go.WideElems
open Go.ChangeMaps (open_string shut_string)
set_option linter.unusedVariables false
set_option linter.unusedSimpArgs false

set_option maxRecDepth 100000 in
set_option maxHeartbeats 16000000 in
theorem FnExactFormatShow_walk (s : GS) (A : Option Addr) (k c : Nat) (B : Option Addr) (m d : Nat) (w : World) (hkm : k ≤ maxLen) (hmm : m ≤ maxLen) (hw : ∀ e ∈ s.ns, e.wf) (ha : ShowAt w s A k B m) (ht : Pow10 w) :
    Calls Tryd.prog 4 #[shV A k c B m d s.h] w fun e w' => e = .returned (.bool true) ∧ Below w.heap.size w w' := by
  have HZ := Lib.hid (fun W h => szShow_left s A k c B m d 1048576 W hkm hmm hw h (by omega) (by omega))
  have HTO0 := Lib.hid (fun W hs h => toShow_any s A k c B m d W hs h)
  have HEQ0 := Lib.hid (fun hs A1 c1 B1 d1 A2 c2 B2 d2 W h1 h2 => eqShow_same s A1 k c1 B1 m d1 A2 c2 B2 d2 W hs h1 h2)
  have HSP0 := Lib.hid (fun (hs : ShB s) A1 c1 B1 d1 W h => spec_FormatShow s  A1 k c1 B1 m d1 W hs h)
  have HIM0 := Lib.hid (fun (hs : ShB s) A1 c1 B1 d1 W h (hb : Below w.heap.size w W) => impl_FormatShow s  A1 k c1 B1 m d1 W hs hw h (var_kept hb ht))
  have HLN := Lib.hid ha.ln
  have HA := Lib.hid ha
  clear ha hw ht
  obtain ⟨h, hh⟩ : ∃ h, h = s.h := ⟨_, rfl⟩
  rw [← hh] at HZ HTO0 HEQ0 HSP0 HIM0
  rw [← hh]
  clear hh
  obtain ⟨v, hv⟩ : ∃ v, v = fmtS s := ⟨_, rfl⟩
  rw [← hv] at HSP0 HIM0
  have hoo : (v.toList != v.toList) = false := by simp
  clear hv
  unfold shV at HZ HTO0 HEQ0 HSP0 HIM0 ⊢
  go_enter Tryd.func4, Tryd.ntmps4
  go_wp2_with fail
  refine (HZ.out _ (HA.out.below (by repeat (first | exact Below.refl _ _ | refine below_step (by assumption) (by first | omega | (simp; done) | (simp; omega)) ?_ | refine below_drewN ?_ _ | refine Below.drew ?_ | refine Below.setCell ?_ (by first | omega | (simp; done) | (simp; omega)) _ | refine Below.alloc ?_ (by first | omega | (simp; done) | (simp; omega)) _)))).mono ?_
  rintro e w1 ⟨r, rfl, hr, b1⟩
  have c0_w1 : w1.cell? ⟨w.heap.size, 0, none⟩ = some (.slice A k c) := (b1.cell (p := ⟨w.heap.size, 0, none⟩) (by first | omega | (simp; done) | (simp; omega))).trans (by first | assumption | go_simp)
  have c1_w1 : w1.cell? ⟨w.heap.size, 1, none⟩ = some (.slice B m d) := (b1.cell (p := ⟨w.heap.size, 1, none⟩) (by first | omega | (simp; done) | (simp; omega))).trans (by first | assumption | go_simp)
  have c2_w1 : w1.cell? ⟨w.heap.size, 2, none⟩ = some (.int .i64 h) := (b1.cell (p := ⟨w.heap.size, 2, none⟩) (by first | omega | (simp; done) | (simp; omega))).trans (by first | assumption | go_simp)
  have B_w1 : Below w.heap.size w w1 := (by repeat (first | exact Below.refl _ _ | refine below_step (by assumption) (by first | omega | (simp; done) | (simp; omega)) ?_ | refine below_drewN ?_ _ | refine Below.drew ?_ | refine Below.setCell ?_ (by first | omega | (simp; done) | (simp; omega)) _ | refine Below.alloc ?_ (by first | omega | (simp; done) | (simp; omega)) _))
  have z_w1 := B_w1.size
  have s0_w1 : w.heap.size < w1.heap.size := Nat.lt_of_lt_of_le (by first | omega | (simp; done) | (simp; omega)) b1.size
  clear b1 
  rcases hr with rfl | ⟨hr0, hr1, hs⟩
  · go_wp2_with fail
    go_ret
    exact ⟨rfl, B_w1⟩
  · have hrn : ¬ (r < 0) := by omega
    have HS := Lib.hid hs
    have HTO := Lib.hid (fun W hx => HTO0.out W hs hx)
    have HEQ := Lib.hid (HEQ0.out hs)
    have HSP := Lib.hid (HSP0.out hs)
    have HIM := Lib.hid (HIM0.out hs)
    clear HTO0 HEQ0 HSP0 HIM0 hs
    go_wp2_with fail
    refine (HTO.out _ (HA.out.below (w := w) (by repeat (first | exact Below.refl _ _ | refine below_step (by assumption) (by first | omega | (simp; done) | (simp; omega)) ?_ | refine below_drewN ?_ _ | refine Below.drew ?_ | refine Below.setCell ?_ (by first | omega | (simp; done) | (simp; omega)) _ | refine Below.alloc ?_ (by first | omega | (simp; done) | (simp; omega)) _)))).mono ?_
    rintro e w2 ⟨A2, c2, B2, d2, zs2, rfl, ho2, b2⟩
    have HS2 := Lib.hid ho2.at_
    clear ho2
    have c0_w2 : w2.cell? ⟨w.heap.size, 0, none⟩ = some (.slice A k c) := (b2.cell (p := ⟨w.heap.size, 0, none⟩) (by first | omega | (simp; done) | (simp; omega))).trans (by first | assumption | go_simp)
    have c1_w2 : w2.cell? ⟨w.heap.size, 1, none⟩ = some (.slice B m d) := (b2.cell (p := ⟨w.heap.size, 1, none⟩) (by first | omega | (simp; done) | (simp; omega))).trans (by first | assumption | go_simp)
    have c2_w2 : w2.cell? ⟨w.heap.size, 2, none⟩ = some (.int .i64 h) := (b2.cell (p := ⟨w.heap.size, 2, none⟩) (by first | omega | (simp; done) | (simp; omega))).trans (by first | assumption | go_simp)
    have B_w2 : Below w.heap.size w w2 := (by repeat (first | exact Below.refl _ _ | refine below_step (by assumption) (by first | omega | (simp; done) | (simp; omega)) ?_ | refine below_drewN ?_ _ | refine Below.drew ?_ | refine Below.setCell ?_ (by first | omega | (simp; done) | (simp; omega)) _ | refine Below.alloc ?_ (by first | omega | (simp; done) | (simp; omega)) _))
    have z_w2 := B_w2.size
    have s0_w2 : w.heap.size < w2.heap.size := Nat.lt_of_lt_of_le (by first | omega | (simp; done) | (simp; omega)) b2.size
    clear b2 c0_w1 c1_w1 c2_w1 s0_w1 B_w1 z_w1
    go_wp2_with fail
    refine (HSP.out A2 c2 B2 d2 _ HS2.out).mono ?_
    rintro e w3 ⟨rfl, b3⟩
    have c0_w3 : w3.cell? ⟨w.heap.size, 0, none⟩ = some (.slice A k c) := (b3.cell (p := ⟨w.heap.size, 0, none⟩) (by first | omega | (simp; done) | (simp; omega))).trans (by first | assumption | go_simp)
    have c1_w3 : w3.cell? ⟨w.heap.size, 1, none⟩ = some (.slice B m d) := (b3.cell (p := ⟨w.heap.size, 1, none⟩) (by first | omega | (simp; done) | (simp; omega))).trans (by first | assumption | go_simp)
    have c2_w3 : w3.cell? ⟨w.heap.size, 2, none⟩ = some (.int .i64 h) := (b3.cell (p := ⟨w.heap.size, 2, none⟩) (by first | omega | (simp; done) | (simp; omega))).trans (by first | assumption | go_simp)
    have B_w3 : Below w.heap.size w w3 := (by repeat (first | exact Below.refl _ _ | refine below_step (by assumption) (by first | omega | (simp; done) | (simp; omega)) ?_ | refine below_drewN ?_ _ | refine Below.drew ?_ | refine Below.setCell ?_ (by first | omega | (simp; done) | (simp; omega)) _ | refine Below.alloc ?_ (by first | omega | (simp; done) | (simp; omega)) _))
    have z_w3 := B_w3.size
    have s0_w3 : w.heap.size < w3.heap.size := Nat.lt_of_lt_of_le (by first | omega | (simp; done) | (simp; omega)) b3.size
    clear b3 c0_w2 c1_w2 c2_w2 s0_w2 B_w2 z_w2
    go_wp2_with fail
    refine (HTO.out _ (HA.out.below (w := w) (by repeat (first | exact Below.refl _ _ | refine below_step (by assumption) (by first | omega | (simp; done) | (simp; omega)) ?_ | refine below_drewN ?_ _ | refine Below.drew ?_ | refine Below.setCell ?_ (by first | omega | (simp; done) | (simp; omega)) _ | refine Below.alloc ?_ (by first | omega | (simp; done) | (simp; omega)) _)))).mono ?_
    rintro e w4 ⟨A4, c4, B4, d4, zs4, rfl, ho4, b4⟩
    have HS4 := Lib.hid ho4.at_
    clear ho4
    have c0_w4 : w4.cell? ⟨w.heap.size, 0, none⟩ = some (.slice A k c) := (b4.cell (p := ⟨w.heap.size, 0, none⟩) (by first | omega | (simp; done) | (simp; omega))).trans (by first | assumption | go_simp)
    have c1_w4 : w4.cell? ⟨w.heap.size, 1, none⟩ = some (.slice B m d) := (b4.cell (p := ⟨w.heap.size, 1, none⟩) (by first | omega | (simp; done) | (simp; omega))).trans (by first | assumption | go_simp)
    have c2_w4 : w4.cell? ⟨w.heap.size, 2, none⟩ = some (.int .i64 h) := (b4.cell (p := ⟨w.heap.size, 2, none⟩) (by first | omega | (simp; done) | (simp; omega))).trans (by first | assumption | go_simp)
    have B_w4 : Below w.heap.size w w4 := (by repeat (first | exact Below.refl _ _ | refine below_step (by assumption) (by first | omega | (simp; done) | (simp; omega)) ?_ | refine below_drewN ?_ _ | refine Below.drew ?_ | refine Below.setCell ?_ (by first | omega | (simp; done) | (simp; omega)) _ | refine Below.alloc ?_ (by first | omega | (simp; done) | (simp; omega)) _))
    have z_w4 := B_w4.size
    have s0_w4 : w.heap.size < w4.heap.size := Nat.lt_of_lt_of_le (by first | omega | (simp; done) | (simp; omega)) b4.size
    clear b4 c0_w3 c1_w3 c2_w3 s0_w3 B_w3 z_w3
    go_wp2_with fail
    refine (HIM.out A4 c4 B4 d4 _ (HS4.out.below (w := w4) (by repeat (first | exact Below.refl _ _ | refine below_step (by assumption) (by first | omega | (simp; done) | (simp; omega)) ?_ | refine below_drewN ?_ _ | refine Below.drew ?_ | refine Below.setCell ?_ (by first | omega | (simp; done) | (simp; omega)) _ | refine Below.alloc ?_ (by first | omega | (simp; done) | (simp; omega)) _))) (by repeat (first | exact Below.refl _ _ | refine below_step (by assumption) (by first | omega | (simp; done) | (simp; omega)) ?_ | refine below_drewN ?_ _ | refine Below.drew ?_ | refine Below.setCell ?_ (by first | omega | (simp; done) | (simp; omega)) _ | refine Below.alloc ?_ (by first | omega | (simp; done) | (simp; omega)) _))).mono ?_
    rintro e w5 ⟨rfl, b5⟩
    have HS5 := Lib.hid (HS4.out.below (w := w4) (show Below w4.heap.size w4 w5 from (by repeat (first | exact Below.refl _ _ | refine below_step (by assumption) (by first | omega | (simp; done) | (simp; omega)) ?_ | refine below_drewN ?_ _ | refine Below.drew ?_ | refine Below.setCell ?_ (by first | omega | (simp; done) | (simp; omega)) _ | refine Below.alloc ?_ (by first | omega | (simp; done) | (simp; omega)) _))))
    have c0_w5 : w5.cell? ⟨w.heap.size, 0, none⟩ = some (.slice A k c) := (b5.cell (p := ⟨w.heap.size, 0, none⟩) (by first | omega | (simp; done) | (simp; omega))).trans (by first | assumption | go_simp)
    have c1_w5 : w5.cell? ⟨w.heap.size, 1, none⟩ = some (.slice B m d) := (b5.cell (p := ⟨w.heap.size, 1, none⟩) (by first | omega | (simp; done) | (simp; omega))).trans (by first | assumption | go_simp)
    have c2_w5 : w5.cell? ⟨w.heap.size, 2, none⟩ = some (.int .i64 h) := (b5.cell (p := ⟨w.heap.size, 2, none⟩) (by first | omega | (simp; done) | (simp; omega))).trans (by first | assumption | go_simp)
    have c3_w5 : w5.cell? ⟨w4.heap.size, 0, none⟩ = some (.slice A4 k c4) := (b5.cell (p := ⟨w4.heap.size, 0, none⟩) (by first | omega | (simp; done) | (simp; omega))).trans (by first | assumption | go_simp)
    have c4_w5 : w5.cell? ⟨w4.heap.size, 1, none⟩ = some (.slice B4 m d4) := (b5.cell (p := ⟨w4.heap.size, 1, none⟩) (by first | omega | (simp; done) | (simp; omega))).trans (by first | assumption | go_simp)
    have c5_w5 : w5.cell? ⟨w4.heap.size, 2, none⟩ = some (.int .i64 h) := (b5.cell (p := ⟨w4.heap.size, 2, none⟩) (by first | omega | (simp; done) | (simp; omega))).trans (by first | assumption | go_simp)
    have B_w5 : Below w.heap.size w w5 := (by repeat (first | exact Below.refl _ _ | refine below_step (by assumption) (by first | omega | (simp; done) | (simp; omega)) ?_ | refine below_drewN ?_ _ | refine Below.drew ?_ | refine Below.setCell ?_ (by first | omega | (simp; done) | (simp; omega)) _ | refine Below.alloc ?_ (by first | omega | (simp; done) | (simp; omega)) _))
    have z_w5 := B_w5.size
    have s0_w5 : w.heap.size < w5.heap.size := Nat.lt_of_lt_of_le (by first | omega | (simp; done) | (simp; omega)) b5.size
    have s1_w5 : w4.heap.size < w5.heap.size := Nat.lt_of_lt_of_le (by first | omega | (simp; done) | (simp; omega)) b5.size
    clear b5 c0_w4 c1_w4 c2_w4 B_w4 z_w4 s0_w4
    go_wp2_with fail
    go_region_held3 (fun W => W.cell? ⟨w.heap.size, 0, none⟩ = some (.slice A k c) ∧ W.cell? ⟨w.heap.size, 1, none⟩ = some (.slice B m d) ∧ W.cell? ⟨w.heap.size, 2, none⟩ = some (.int .i64 h) ∧ W.cell? ⟨w4.heap.size, 0, none⟩ = some (.slice A4 k c4) ∧ W.cell? ⟨w4.heap.size, 1, none⟩ = some (.slice B4 m d4) ∧ W.cell? ⟨w4.heap.size, 2, none⟩ = some (.int .i64 h)) (first | (go_keep; done) | ((try dsimp only); refine ⟨?_, ?_, ?_, ?_, ?_, ?_⟩ <;> first | assumption | (go_simp; done))) (first | (go_at_call 8; refine (HTO.out _ (HA.out.below (w := w) (by repeat (first | exact Below.refl _ _ | refine below_step (by assumption) (by first | omega | (simp; done) | (simp; omega)) ?_ | refine below_drewN ?_ _ | refine Below.drew ?_ | refine Below.setCell ?_ (by first | omega | (simp; done) | (simp; omega)) _ | refine Below.alloc ?_ (by first | omega | (simp; done) | (simp; omega)) _)))).mono ?_; rintro e w6 ⟨A6, c6, B6, d6, zs6, rfl, ho6, b6⟩; have c0_w6 : w6.cell? ⟨w.heap.size, 0, none⟩ = some (.slice A k c) := (b6.cell (p := ⟨w.heap.size, 0, none⟩) (by first | omega | (simp; done) | (simp; omega))).trans (by first | assumption | go_simp); have c1_w6 : w6.cell? ⟨w.heap.size, 1, none⟩ = some (.slice B m d) := (b6.cell (p := ⟨w.heap.size, 1, none⟩) (by first | omega | (simp; done) | (simp; omega))).trans (by first | assumption | go_simp); have c2_w6 : w6.cell? ⟨w.heap.size, 2, none⟩ = some (.int .i64 h) := (b6.cell (p := ⟨w.heap.size, 2, none⟩) (by first | omega | (simp; done) | (simp; omega))).trans (by first | assumption | go_simp); have c3_w6 : w6.cell? ⟨w4.heap.size, 0, none⟩ = some (.slice A4 k c4) := (b6.cell (p := ⟨w4.heap.size, 0, none⟩) (by first | omega | (simp; done) | (simp; omega))).trans (by first | assumption | go_simp); have c4_w6 : w6.cell? ⟨w4.heap.size, 1, none⟩ = some (.slice B4 m d4) := (b6.cell (p := ⟨w4.heap.size, 1, none⟩) (by first | omega | (simp; done) | (simp; omega))).trans (by first | assumption | go_simp); have c5_w6 : w6.cell? ⟨w4.heap.size, 2, none⟩ = some (.int .i64 h) := (b6.cell (p := ⟨w4.heap.size, 2, none⟩) (by first | omega | (simp; done) | (simp; omega))).trans (by first | assumption | go_simp); have s0_w6 : w.heap.size < w6.heap.size := Nat.lt_of_lt_of_le (by first | omega | (simp; done) | (simp; omega)) b6.size; have s1_w6 : w4.heap.size < w6.heap.size := Nat.lt_of_lt_of_le (by first | omega | (simp; done) | (simp; omega)) b6.size; have E6 := Lib.hid ho6.at_; have F6 := Lib.hid (show ShowAt w6 s A4 k B4 m from HS5.out.below (w := w5) (by repeat (first | exact Below.refl _ _ | refine below_step (by assumption) (by first | omega | (simp; done) | (simp; omega)) ?_ | refine below_drewN ?_ _ | refine Below.drew ?_ | refine Below.setCell ?_ (by first | omega | (simp; done) | (simp; omega)) _ | refine Below.alloc ?_ (by first | omega | (simp; done) | (simp; omega)) _))); have B6 := Lib.hid (show Below w5.heap.size w5 w6 from (by repeat (first | exact Below.refl _ _ | refine below_step (by assumption) (by first | omega | (simp; done) | (simp; omega)) ?_ | refine below_drewN ?_ _ | refine Below.drew ?_ | refine Below.setCell ?_ (by first | omega | (simp; done) | (simp; omega)) _ | refine Below.alloc ?_ (by first | omega | (simp; done) | (simp; omega)) _))); clear ho6) | (go_at_call 10; refine (HEQ.out _ _ _ _ _ _ _ _ _ (F6.out.below (w := w6) (by repeat (first | exact Below.refl _ _ | refine below_step (by assumption) (by first | omega | (simp; done) | (simp; omega)) ?_ | refine below_drewN ?_ _ | refine Below.drew ?_ | refine Below.setCell ?_ (by first | omega | (simp; done) | (simp; omega)) _ | refine Below.alloc ?_ (by first | omega | (simp; done) | (simp; omega)) _))) (E6.out.below (w := w6) (by repeat (first | exact Below.refl _ _ | refine below_step (by assumption) (by first | omega | (simp; done) | (simp; omega)) ?_ | refine below_drewN ?_ _ | refine Below.drew ?_ | refine Below.setCell ?_ (by first | omega | (simp; done) | (simp; omega)) _ | refine Below.alloc ?_ (by first | omega | (simp; done) | (simp; omega)) _)))).mono ?_; rintro e w7 ⟨rfl, b7⟩; have c0_w7 : w7.cell? ⟨w.heap.size, 0, none⟩ = some (.slice A k c) := (b7.cell (p := ⟨w.heap.size, 0, none⟩) (by first | omega | (simp; done) | (simp; omega))).trans (by first | assumption | go_simp); have c1_w7 : w7.cell? ⟨w.heap.size, 1, none⟩ = some (.slice B m d) := (b7.cell (p := ⟨w.heap.size, 1, none⟩) (by first | omega | (simp; done) | (simp; omega))).trans (by first | assumption | go_simp); have c2_w7 : w7.cell? ⟨w.heap.size, 2, none⟩ = some (.int .i64 h) := (b7.cell (p := ⟨w.heap.size, 2, none⟩) (by first | omega | (simp; done) | (simp; omega))).trans (by first | assumption | go_simp); have c3_w7 : w7.cell? ⟨w4.heap.size, 0, none⟩ = some (.slice A4 k c4) := (b7.cell (p := ⟨w4.heap.size, 0, none⟩) (by first | omega | (simp; done) | (simp; omega))).trans (by first | assumption | go_simp); have c4_w7 : w7.cell? ⟨w4.heap.size, 1, none⟩ = some (.slice B4 m d4) := (b7.cell (p := ⟨w4.heap.size, 1, none⟩) (by first | omega | (simp; done) | (simp; omega))).trans (by first | assumption | go_simp); have c5_w7 : w7.cell? ⟨w4.heap.size, 2, none⟩ = some (.int .i64 h) := (b7.cell (p := ⟨w4.heap.size, 2, none⟩) (by first | omega | (simp; done) | (simp; omega))).trans (by first | assumption | go_simp); have s0_w7 : w.heap.size < w7.heap.size := Nat.lt_of_lt_of_le (by first | omega | (simp; done) | (simp; omega)) b7.size; have s1_w7 : w4.heap.size < w7.heap.size := Nat.lt_of_lt_of_le (by first | omega | (simp; done) | (simp; omega)) b7.size; have B7 := Lib.hid (B6.out.trans ((show Below w6.heap.size w6 w7 from (by repeat (first | exact Below.refl _ _ | refine below_step (by assumption) (by first | omega | (simp; done) | (simp; omega)) ?_ | refine below_drewN ?_ _ | refine Below.drew ?_ | refine Below.setCell ?_ (by first | omega | (simp; done) | (simp; omega)) _ | refine Below.alloc ?_ (by first | omega | (simp; done) | (simp; omega)) _))).mono B6.out.size))))
    all_goals go_wp2_with fail
    all_goals go_ret
    all_goals exact ⟨rfl, B_w5.trans (B7.out.mono B_w5.size)⟩
/-! ### FnExactFormatShow: the row and its card -/

theorem FnExactFormatShow_reads (os : Os) {H : Type} (enc : TypeId × Value → H) : ∃ places, DataW.whole enc Tryd.prog ((World.doorLaid Tryd.prog 400 os).forCall (fun _ _ => 0) ⟨#[], #[.agg #[.slice none 0 0, .slice none 0 0, .int .i64 0]], []⟩).memory Tryd.f4.params.toList Rows.fnExactFormatShowSpec.vars false (#[.agg #[.slice none 0 0, .slice none 0 0, .int .i64 0]] : Array Value).toList 8 = some ([.agg [.nil, .nil, .lit (.int .i64 0)]], [], places) :=
  ⟨[], by kernel_rfl⟩
theorem FnExactFormatShow_met (os : Os) (args : Array Value) : laidMetH Tryd.prog Rows.fnExactFormatShowRow.laid ((World.doorLaid Tryd.prog 400 os).forCall (fun _ _ => 0) ⟨#[], args, []⟩).memory :=
  laidMetH_of_parts3 (fuel := 8) (laidMet_of_run' 8 (by kernel_rfl) (by kernel_rfl)) (by kernel_rfl) (by kernel_rfl)

set_option maxRecDepth 100000 in
theorem FnExactFormatShow_lifted (os : Os) (started : os.Started) (H : Type) (enc : TypeId × Value → H) (F : Stop.Interp) :
    ReturnsInHanded {} Tryd.checked os 4 .any ((OpenSpec.ofChange Rows.fnExactFormatShowSpec).preRow enc Tryd.prog Tryd.f4 Rows.fnExactFormatShowRow.domain false Rows.fnExactFormatShowRow.laid) (((OpenSpec.ofChange Rows.fnExactFormatShowSpec).at F).post enc Tryd.prog Tryd.f4 false true false false) := by
  obtain ⟨places, hx⟩ := FnExactFormatShow_reads os enc
  refine returnsInHanded_of_row (C := Tryd.checked) (s := OpenSpec.ofChange Rows.fnExactFormatShowSpec) (by kernel_rfl) started (by kernel_rfl) Tryd.func4
    (witness_row_atRef (enc := enc) (C := Tryd.checked) false (World.doorLaid Tryd.prog 400 os) #[.agg #[.slice none 0 0, .slice none 0 0, .int .i64 0]] rfl (by kernel_rfl) (by kernel_rfl) (by kernel_rfl)
      (OpenSpec.preRow_of_cond 8 hx (by kernel_rfl) (fun k hk => by cases hk) (by kernel_rfl) (FnExactFormatShow_met os _))) ?_
  intro W base args ds gs before hval0 hW _ _ _ hL0 _ _
  have hL : laidMet Tryd.prog Rows.fnExactFormatShowRow.laid W := by
    rw [← MakeChecks.laidMetH_plain _ _ _ (by kernel_rfl)]
    exact hL0
  have hval : ∀ (j : Nat) t v, Tryd.f4.params[j]? = some t → args[j]? = some v → Value.okWide Tryd.prog W .any base t v := hval0
  have hW2 := hW
  obtain ⟨p, q, hA0, hV, hpq, hfz, hnd⟩ := hW2
  have hA : DataW.TrodAll enc Tryd.prog W 0 (fun _ => true) true Tryd.f4.params.toList args.toList ds p := hA0
  rw [Tryd.params4] at hA hval
  obtain ⟨v0, d0, hargs, hds, h0⟩ := trodAll_one hA
  obtain ⟨hgs, hq⟩ := trodVars_none hV
  subst hargs
  subst hds
  subst hgs
  obtain ⟨s0, A0, k0, c0, B0, m0, e0, rfl, wn0, hk0, hm0, hw0, hw1, hr0⟩ := open_show (hval 0 25 v0 rfl rfl) h0
  refine (FnExactFormatShow_walk s0 A0 k0 c0 B0 m0 e0 W hk0 hm0 hw0 hr0 (pow10_of rfl hL.tail.tail)).mono fun e W2 ⟨he, hb⟩ => ?_
  subst he
  exact ⟨_, rfl, law_post (by kernel_rfl) (by rw [Tryd.params4]; decide +kernel) (by kernel_rfl) Tryd.underlying4 rfl ⟨rfl, rfl, rfl⟩ hW hb⟩

theorem FnExactFormatShow_said : Rows.FnExactFormatShowSaid :=
  OpenClaim.holds_of_cond 4 Tryd.f4 rfl rfl rfl rfl rfl rfl rfl ⟨rfl, rfl, rfl, rfl, rfl⟩ rfl rfl rfl rfl rfl (by kernel_rfl) Tryd.func4 (by kernel_rfl)
    (of_decide_eq_true (by kernel_rfl)) (by unfold Func.isWrapper; first | (rw [if_pos (by decide +kernel)]; kernel_rfl) | (rw [if_neg (by decide +kernel)]; exact ⟨rfl, rfl⟩))
    (fun os started H enc _ F => by rw [OpenClaim.pre_eq_preRow]; exact FnExactFormatShow_lifted os started H enc F)

/-- No parameter wants a stand-in. -/
theorem FnExactFormatShow_plain (f : FuncId) (fn : Func) (hf : Tryd.pinned.checked.prog.funcNamed "loop.example/g00827/laws.FnExactFormatShow" = some f) (hfn : Tryd.pinned.checked.prog.funcs[f]? = some fn) :
    false = Tryd.pinned.checked.prog.looks [] ∧ ∀ (j : Nat) t, fn.params[j]? = some t → Tryd.pinned.checked.prog.wantsStandIn t = false := by
  obtain rfl : f = 4 := Option.some.inj ((show Tryd.prog.funcNamed "loop.example/g00827/laws.FnExactFormatShow" = some 4 by kernel_rfl).symm.trans hf) |>.symm
  obtain rfl : fn = Tryd.f4 := (Option.some.inj (Tryd.func4.symm.trans hfn)).symm
  refine ⟨by kernel_rfl, fun j t ht => ?_⟩
  rw [Tryd.params4] at ht
  have hm : t ∈ [25] := by simpa using Array.mem_of_getElem? ht
  have hall : ([25].all fun u => !Tryd.prog.wantsStandIn u) = true := by kernel_rfl
  exact (show Tryd.prog.wantsStandIn t = false by simpa using List.all_eq_true.1 hall t hm)

theorem FnExactFormatShow_card : Rows.FnExactFormatShowCardSaid :=
  Claim7.holds_tied_plain_at .later [] _ _ _ _ FnExactFormatShow_said (fun _ h => by cases h) (by kernel_rfl) (fun _ h => by cases h) fnExactFormatShow_row_tie rfl ⟨rfl, rfl⟩ (by kernel_rfl) rfl FnExactFormatShow_plain (by kernel_rfl)

end Go.Proofs.YtgajodcgedhikaaDoor

