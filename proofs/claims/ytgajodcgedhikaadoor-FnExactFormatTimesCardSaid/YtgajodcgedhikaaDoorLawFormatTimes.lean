/-
  laws.FnExactFormatTimes HOLDS, AND ITS TIED CARD: whatever the arguments, impl.FormatTimes answers as spec.FormatTimes does, and the arguments read as they did.
-/
import Derived.Test.YtgajodcgedhikaaDoorCards
import Derived.Test.YtgajodcgedhikaaDoorTie
import Derived.Test.YtgajodcgedhikaaDoorFrame
import Derived.Test.YtgajodcgedhikaaDoorBdIvOk
import Derived.Test.YtgajodcgedhikaaDoorBdShE
import Derived.Test.YtgajodcgedhikaaDoorBdStD
import Derived.ProofKit
import Derived.Lib.SmallJoins
import Derived.Deep.RegionHeld3
import Derived.Deep.CutRange
import Derived.Deep.DeepHandedRow
import Derived.Deep.DeepWitnessRowRef
import Derived.LaidMore
import Derived.LaidHandle
import Derived.MakeChecks
import Derived.Stop.LaidErr
import Derived.Lib.LaidTab
namespace Go.Proofs.YtgajodcgedhikaaDoor
open Go.RowKit Go.ChangeShapes Go.WideShapes Go.ChangeAt Go.WideMaps Go.WideElems
open Go.ChangeMaps (open_string shut_string)
set_option linter.unusedVariables false
set_option linter.unusedSimpArgs false

theorem own_to {w : World} {B e n s lo hi : Nat} {v : Value} {xs : List Value} (h : w.ownsRow B e s v n xs) (hl : ∀ q, v.ownBlock = some q → lo < q ∧ q < hi) : w.ownsRow (lo + 1) e s v n xs := by
  refine ⟨h.1, ?_⟩
  rcases h.2 with h2 | ⟨g, cap, cur, h1, h2, h3⟩
  · exact .inl h2
  · subst h1
    have := (hl g rfl).1
    exact .inr ⟨g, cap, cur, rfl, by omega, h3⟩
theorem own_off {v v' : Value} {a b c d : Nat} (h : ∀ q, v.ownBlock = some q → a < q ∧ q < b) (h' : ∀ q, v'.ownBlock = some q → c < q ∧ q < d) (hd : b ≤ c + 1 ∨ d ≤ a + 1 := by omega) : v.ownBlock = none ∨ v.ownBlock ≠ v'.ownBlock := by
  cases hb : v.ownBlock with
  | none => exact .inl rfl
  | some q =>
    refine .inr fun e => ?_
    have h1 := h q hb
    have h2 := h' q e.symm
    omega

theorem toIntS_sl (zs : List Int) (A : Option Addr) (n c : Nat) (w : World) (hn : zs.length = n) (hm : n ≤ 1099511627776) (hr : RowAt w A (zs.map intV)) :
    Calls Tryd.prog 14 #[.slice A n c] w fun e w' => ∃ A' c', e = .returned (.slice A' n c') ∧ w'.ownsRow w.heap.size 3 1 (.slice A' n c') n (zs.map intV) ∧ Below w.heap.size w w' :=
  (toIntS_any zs A n c w hn hm hr).mono fun e w' ⟨v, e1, o, b⟩ => by
    obtain ⟨A', c', rfl, _, _⟩ := own_form o
    exact ⟨A', c', e1, o, b⟩
theorem eqIntS_sl (zs : List Int) (A B : Option Addr) (n ca cb : Nat) (w : World) (hn : zs.length = n) (hm : n ≤ maxLen) (ha : RowAt w A (zs.map intV)) (hb : RowAt w B (zs.map intV)) :
    Calls Tryd.prog 16 #[.slice A n ca, .slice B n cb] w fun e w' => e = .returned (.bool true) ∧ Below w.heap.size w w' :=
  (eqIntS_same zs A B n ca cb w hn hm ha hb).mono fun e w' ⟨h1, r, h2⟩ => ⟨h1, by rw [h2]; exact below_drewN (Below.refl _ _) r⟩

set_option maxRecDepth 100000 in
set_option maxHeartbeats 16000000 in
theorem FnExactFormatTimes_walk (s : GS) (ts : List Int) (A : Option Addr) (k c : Nat) (B : Option Addr) (m d : Nat) (T : Option Addr) (n e : Nat) (w : World) (hkm : k ≤ maxLen) (hmm : m ≤ maxLen) (hw : ∀ e ∈ s.ns, e.wf) (ha : ShowAt w s A k B m) (hl : ts.length = n) (hnm : n ≤ maxLen) (hwf : ∀ y ∈ ts, (Lit.int .i64 y).wf = true) (hr : RowAt w T (ts.map intV)) (ht : Pow10 w) :
    Calls Tryd.prog 5 #[shV A k c B m d s.h, .slice T n e] w fun x w' => x = .returned (.bool true) ∧ Below w.heap.size w w' := by
  have HZ := Lib.hid (fun W h => szShow_left s A k c B m d 1048576 W hkm hmm hw h (by omega) (by omega))
  have HTO0 := Lib.hid (fun W hs h => toShow_any s A k c B m d W hs h)
  have HEQ0 := Lib.hid (fun hs A1 c1 B1 d1 A2 c2 B2 d2 W h1 h2 => eqShow_same s A1 k c1 B1 m d1 A2 c2 B2 d2 W hs h1 h2)
  have HSP0 := Lib.hid (fun (hn : n ≤ 1048576) (hs : ShB s) A1 c1 B1 d1 T1 e1 W h h' => spec_FormatTimes s ts A1 k c1 B1 m d1 T1 n e1 W hs h hl hn hwf h')
  have HIM0 := Lib.hid (fun (hn : n ≤ 1048576) (hs : ShB s) A1 c1 B1 d1 T1 e1 W h h' (hb : Below w.heap.size w W) => impl_FormatTimes s ts A1 k c1 B1 m d1 T1 n e1 W hs hw h hl hn hwf h' (var_kept hb ht))
  have HL := Lib.hid hl
  have HA := Lib.hid ha
  have HR := Lib.hid hr
  have hnm2 := hnm
  unfold maxLen at hnm2
  clear ha hw ht hl hr hwf hnm
  obtain ⟨h, hh⟩ : ∃ h, h = s.h := ⟨_, rfl⟩
  rw [← hh] at HZ HTO0 HEQ0 HSP0 HIM0
  rw [← hh]
  clear hh
  obtain ⟨v, hv⟩ : ∃ v, v = ftmR s ts := ⟨_, rfl⟩
  rw [← hv] at HSP0 HIM0
  have hoo : (v.toList != v.toList) = false := by simp
  clear hv
  unfold shV at HZ HTO0 HEQ0 HSP0 HIM0 ⊢
  by_cases hlong : 1048576 < n
  · have hl2 : ((1048576 : Int) < (n : Int)) := by omega
    go_enter Tryd.func5, Tryd.ntmps5
    go_wp2_with fail
    go_ret
    exact ⟨rfl, (by repeat (first | exact Below.refl _ _ | refine below_step (by assumption) (by first | omega | (simp; done) | (simp; omega)) ?_ | refine below_drewN ?_ _ | refine Below.drew ?_ | refine Below.setCell ?_ (by first | omega | (simp; done) | (simp; omega)) _ | refine Below.alloc ?_ (by first | omega | (simp; done) | (simp; omega)) _))⟩
  · have hl2 : ¬ ((1048576 : Int) < (n : Int)) := by omega
    have hn20 : n ≤ 1048576 := by omega
    have HTI := Lib.hid (fun W h' => toIntS_sl ts T n e W HL.out (by omega) h')
    have HEI := Lib.hid (fun A1 A2 c1 c2 W h1 h2 => eqIntS_sl ts A1 A2 n c1 c2 W HL.out (by unfold maxLen; omega) h1 h2)
    go_enter Tryd.func5, Tryd.ntmps5
    go_wp2_with fail
    refine (HZ.out _ (HA.out.below (by repeat (first | exact Below.refl _ _ | refine below_step (by assumption) (by first | omega | (simp; done) | (simp; omega)) ?_ | refine below_drewN ?_ _ | refine Below.drew ?_ | refine Below.setCell ?_ (by first | omega | (simp; done) | (simp; omega)) _ | refine Below.alloc ?_ (by first | omega | (simp; done) | (simp; omega)) _)))).mono ?_
    rintro e w1 ⟨r, rfl, hr, b1⟩
    have c0_w1 : w1.cell? ⟨w.heap.size, 0, none⟩ = some (.slice A k c) := (b1.cell (p := ⟨w.heap.size, 0, none⟩) (by first | omega | (simp; done) | (simp; omega))).trans (by first | assumption | go_simp)
    have c1_w1 : w1.cell? ⟨w.heap.size, 1, none⟩ = some (.slice B m d) := (b1.cell (p := ⟨w.heap.size, 1, none⟩) (by first | omega | (simp; done) | (simp; omega))).trans (by first | assumption | go_simp)
    have c2_w1 : w1.cell? ⟨w.heap.size, 2, none⟩ = some (.int .i64 h) := (b1.cell (p := ⟨w.heap.size, 2, none⟩) (by first | omega | (simp; done) | (simp; omega))).trans (by first | assumption | go_simp)
    have B_w1 : Below w.heap.size w w1 := (by repeat (first | exact Below.refl _ _ | refine below_step (by assumption) (by first | omega | (simp; done) | (simp; omega)) ?_ | refine below_drewN ?_ _ | refine Below.drew ?_ | refine Below.setCell ?_ (by first | omega | (simp; done) | (simp; omega)) _ | refine Below.alloc ?_ (by first | omega | (simp; done) | (simp; omega)) _))
    have z_w1 := B_w1.size
    have s0_w1 : w.heap.size < w1.heap.size := Nat.lt_of_lt_of_le (by first | omega | (simp; done) | (simp; omega)) b1.size
    clear b1 
    rcases hr with rfl | ⟨hr0, hr1, hs⟩
    · go_wp2_with fail
      go_ret
      exact ⟨rfl, B_w1⟩
    · have hrn : ¬ (r < 0) := by omega
      have HTO := Lib.hid (fun W hx => HTO0.out W hs hx)
      have HEQ := Lib.hid (HEQ0.out hs)
      have HSP := Lib.hid (HSP0.out hn20 hs)
      have HIM := Lib.hid (HIM0.out hn20 hs)
      clear HTO0 HEQ0 HSP0 HIM0 hs
      go_wp2_with fail
      refine (HTO.out _ (HA.out.below (w := w) (by repeat (first | exact Below.refl _ _ | refine below_step (by assumption) (by first | omega | (simp; done) | (simp; omega)) ?_ | refine below_drewN ?_ _ | refine Below.drew ?_ | refine Below.setCell ?_ (by first | omega | (simp; done) | (simp; omega)) _ | refine Below.alloc ?_ (by first | omega | (simp; done) | (simp; omega)) _)))).mono ?_
      rintro e w2 ⟨A2, c2, B2, d2, zs2, rfl, ho2, b2⟩
      have HS2 := Lib.hid ho2.at_
      clear ho2
      have c0_w2 : w2.cell? ⟨w.heap.size, 0, none⟩ = some (.slice A k c) := (b2.cell (p := ⟨w.heap.size, 0, none⟩) (by first | omega | (simp; done) | (simp; omega))).trans (by first | assumption | go_simp)
      have c1_w2 : w2.cell? ⟨w.heap.size, 1, none⟩ = some (.slice B m d) := (b2.cell (p := ⟨w.heap.size, 1, none⟩) (by first | omega | (simp; done) | (simp; omega))).trans (by first | assumption | go_simp)
      have c2_w2 : w2.cell? ⟨w.heap.size, 2, none⟩ = some (.int .i64 h) := (b2.cell (p := ⟨w.heap.size, 2, none⟩) (by first | omega | (simp; done) | (simp; omega))).trans (by first | assumption | go_simp)
      have B_w2 : Below w.heap.size w w2 := (by repeat (first | exact Below.refl _ _ | refine below_step (by assumption) (by first | omega | (simp; done) | (simp; omega)) ?_ | refine below_drewN ?_ _ | refine Below.drew ?_ | refine Below.setCell ?_ (by first | omega | (simp; done) | (simp; omega)) _ | refine Below.alloc ?_ (by first | omega | (simp; done) | (simp; omega)) _))
      have z_w2 := B_w2.size
      have s0_w2 : w.heap.size < w2.heap.size := Nat.lt_of_lt_of_le (by first | omega | (simp; done) | (simp; omega)) b2.size
      clear b2 c0_w1 c1_w1 c2_w1 s0_w1 B_w1 z_w1
      go_wp2_with fail
      refine (HTI.out _ (HR.out.below (w := w) (by repeat (first | exact Below.refl _ _ | refine below_step (by assumption) (by first | omega | (simp; done) | (simp; omega)) ?_ | refine below_drewN ?_ _ | refine Below.drew ?_ | refine Below.setCell ?_ (by first | omega | (simp; done) | (simp; omega)) _ | refine Below.alloc ?_ (by first | omega | (simp; done) | (simp; omega)) _)))).mono ?_
      rintro e w3 ⟨T3, e3, rfl, hh, b3⟩
      have HR3 := Lib.hid (own_row hh)
      have HS3 := Lib.hid (HS2.out.below b3)
      clear hh HS2
      have c0_w3 : w3.cell? ⟨w.heap.size, 0, none⟩ = some (.slice A k c) := (b3.cell (p := ⟨w.heap.size, 0, none⟩) (by first | omega | (simp; done) | (simp; omega))).trans (by first | assumption | go_simp)
      have c1_w3 : w3.cell? ⟨w.heap.size, 1, none⟩ = some (.slice B m d) := (b3.cell (p := ⟨w.heap.size, 1, none⟩) (by first | omega | (simp; done) | (simp; omega))).trans (by first | assumption | go_simp)
      have c2_w3 : w3.cell? ⟨w.heap.size, 2, none⟩ = some (.int .i64 h) := (b3.cell (p := ⟨w.heap.size, 2, none⟩) (by first | omega | (simp; done) | (simp; omega))).trans (by first | assumption | go_simp)
      have B_w3 : Below w.heap.size w w3 := (by repeat (first | exact Below.refl _ _ | refine below_step (by assumption) (by first | omega | (simp; done) | (simp; omega)) ?_ | refine below_drewN ?_ _ | refine Below.drew ?_ | refine Below.setCell ?_ (by first | omega | (simp; done) | (simp; omega)) _ | refine Below.alloc ?_ (by first | omega | (simp; done) | (simp; omega)) _))
      have z_w3 := B_w3.size
      have s0_w3 : w.heap.size < w3.heap.size := Nat.lt_of_lt_of_le (by first | omega | (simp; done) | (simp; omega)) b3.size
      clear b3 c0_w2 c1_w2 c2_w2 s0_w2 B_w2 z_w2
      go_wp2_with fail
      refine (HSP.out A2 c2 B2 d2 T3 e3 _ HS3.out HR3.out).mono ?_
      rintro e w4 ⟨rfl, b4⟩
      clear HS3 HR3
      have c0_w4 : w4.cell? ⟨w.heap.size, 0, none⟩ = some (.slice A k c) := (b4.cell (p := ⟨w.heap.size, 0, none⟩) (by first | omega | (simp; done) | (simp; omega))).trans (by first | assumption | go_simp)
      have c1_w4 : w4.cell? ⟨w.heap.size, 1, none⟩ = some (.slice B m d) := (b4.cell (p := ⟨w.heap.size, 1, none⟩) (by first | omega | (simp; done) | (simp; omega))).trans (by first | assumption | go_simp)
      have c2_w4 : w4.cell? ⟨w.heap.size, 2, none⟩ = some (.int .i64 h) := (b4.cell (p := ⟨w.heap.size, 2, none⟩) (by first | omega | (simp; done) | (simp; omega))).trans (by first | assumption | go_simp)
      have B_w4 : Below w.heap.size w w4 := (by repeat (first | exact Below.refl _ _ | refine below_step (by assumption) (by first | omega | (simp; done) | (simp; omega)) ?_ | refine below_drewN ?_ _ | refine Below.drew ?_ | refine Below.setCell ?_ (by first | omega | (simp; done) | (simp; omega)) _ | refine Below.alloc ?_ (by first | omega | (simp; done) | (simp; omega)) _))
      have z_w4 := B_w4.size
      have s0_w4 : w.heap.size < w4.heap.size := Nat.lt_of_lt_of_le (by first | omega | (simp; done) | (simp; omega)) b4.size
      clear b4 c0_w3 c1_w3 c2_w3 s0_w3 B_w3 z_w3
      go_wp2_with fail
      refine (HTO.out _ (HA.out.below (w := w) (by repeat (first | exact Below.refl _ _ | refine below_step (by assumption) (by first | omega | (simp; done) | (simp; omega)) ?_ | refine below_drewN ?_ _ | refine Below.drew ?_ | refine Below.setCell ?_ (by first | omega | (simp; done) | (simp; omega)) _ | refine Below.alloc ?_ (by first | omega | (simp; done) | (simp; omega)) _)))).mono ?_
      rintro e w5 ⟨A4, c4, B4, d4, zs4, rfl, ho4, b5⟩
      have HS4 := Lib.hid ho4.at_
      clear ho4
      have c0_w5 : w5.cell? ⟨w.heap.size, 0, none⟩ = some (.slice A k c) := (b5.cell (p := ⟨w.heap.size, 0, none⟩) (by first | omega | (simp; done) | (simp; omega))).trans (by first | assumption | go_simp)
      have c1_w5 : w5.cell? ⟨w.heap.size, 1, none⟩ = some (.slice B m d) := (b5.cell (p := ⟨w.heap.size, 1, none⟩) (by first | omega | (simp; done) | (simp; omega))).trans (by first | assumption | go_simp)
      have c2_w5 : w5.cell? ⟨w.heap.size, 2, none⟩ = some (.int .i64 h) := (b5.cell (p := ⟨w.heap.size, 2, none⟩) (by first | omega | (simp; done) | (simp; omega))).trans (by first | assumption | go_simp)
      have B_w5 : Below w.heap.size w w5 := (by repeat (first | exact Below.refl _ _ | refine below_step (by assumption) (by first | omega | (simp; done) | (simp; omega)) ?_ | refine below_drewN ?_ _ | refine Below.drew ?_ | refine Below.setCell ?_ (by first | omega | (simp; done) | (simp; omega)) _ | refine Below.alloc ?_ (by first | omega | (simp; done) | (simp; omega)) _))
      have z_w5 := B_w5.size
      have s0_w5 : w.heap.size < w5.heap.size := Nat.lt_of_lt_of_le (by first | omega | (simp; done) | (simp; omega)) b5.size
      clear b5 c0_w4 c1_w4 c2_w4 s0_w4 B_w4 z_w4
      go_wp2_with fail
      refine (HTI.out _ (HR.out.below (w := w) (by repeat (first | exact Below.refl _ _ | refine below_step (by assumption) (by first | omega | (simp; done) | (simp; omega)) ?_ | refine below_drewN ?_ _ | refine Below.drew ?_ | refine Below.setCell ?_ (by first | omega | (simp; done) | (simp; omega)) _ | refine Below.alloc ?_ (by first | omega | (simp; done) | (simp; omega)) _)))).mono ?_
      rintro e w6 ⟨T6, e6, rfl, hh, b6⟩
      have HR6 := Lib.hid (own_row hh)
      have HS6 := Lib.hid (HS4.out.below (w := w5) (show Below w5.heap.size w5 w6 from (by repeat (first | exact Below.refl _ _ | refine below_step (by assumption) (by first | omega | (simp; done) | (simp; omega)) ?_ | refine below_drewN ?_ _ | refine Below.drew ?_ | refine Below.setCell ?_ (by first | omega | (simp; done) | (simp; omega)) _ | refine Below.alloc ?_ (by first | omega | (simp; done) | (simp; omega)) _))))
      clear hh
      have c0_w6 : w6.cell? ⟨w.heap.size, 0, none⟩ = some (.slice A k c) := (b6.cell (p := ⟨w.heap.size, 0, none⟩) (by first | omega | (simp; done) | (simp; omega))).trans (by first | assumption | go_simp)
      have c1_w6 : w6.cell? ⟨w.heap.size, 1, none⟩ = some (.slice B m d) := (b6.cell (p := ⟨w.heap.size, 1, none⟩) (by first | omega | (simp; done) | (simp; omega))).trans (by first | assumption | go_simp)
      have c2_w6 : w6.cell? ⟨w.heap.size, 2, none⟩ = some (.int .i64 h) := (b6.cell (p := ⟨w.heap.size, 2, none⟩) (by first | omega | (simp; done) | (simp; omega))).trans (by first | assumption | go_simp)
      have c3_w6 : w6.cell? ⟨w5.heap.size, 0, none⟩ = some (.slice A4 k c4) := (b6.cell (p := ⟨w5.heap.size, 0, none⟩) (by first | omega | (simp; done) | (simp; omega))).trans (by first | assumption | go_simp)
      have c4_w6 : w6.cell? ⟨w5.heap.size, 1, none⟩ = some (.slice B4 m d4) := (b6.cell (p := ⟨w5.heap.size, 1, none⟩) (by first | omega | (simp; done) | (simp; omega))).trans (by first | assumption | go_simp)
      have c5_w6 : w6.cell? ⟨w5.heap.size, 2, none⟩ = some (.int .i64 h) := (b6.cell (p := ⟨w5.heap.size, 2, none⟩) (by first | omega | (simp; done) | (simp; omega))).trans (by first | assumption | go_simp)
      have B_w6 : Below w.heap.size w w6 := (by repeat (first | exact Below.refl _ _ | refine below_step (by assumption) (by first | omega | (simp; done) | (simp; omega)) ?_ | refine below_drewN ?_ _ | refine Below.drew ?_ | refine Below.setCell ?_ (by first | omega | (simp; done) | (simp; omega)) _ | refine Below.alloc ?_ (by first | omega | (simp; done) | (simp; omega)) _))
      have z_w6 := B_w6.size
      have s0_w6 : w.heap.size < w6.heap.size := Nat.lt_of_lt_of_le (by first | omega | (simp; done) | (simp; omega)) b6.size
      have s1_w6 : w5.heap.size < w6.heap.size := Nat.lt_of_lt_of_le (by first | omega | (simp; done) | (simp; omega)) b6.size
      clear b6 c0_w5 c1_w5 c2_w5 B_w5 z_w5 s0_w5 HS4
      go_wp2_with fail
      refine (HIM.out A4 c4 B4 d4 T6 e6 _ HS6.out HR6.out (by repeat (first | exact Below.refl _ _ | refine below_step (by assumption) (by first | omega | (simp; done) | (simp; omega)) ?_ | refine below_drewN ?_ _ | refine Below.drew ?_ | refine Below.setCell ?_ (by first | omega | (simp; done) | (simp; omega)) _ | refine Below.alloc ?_ (by first | omega | (simp; done) | (simp; omega)) _))).mono ?_
      rintro e w7 ⟨rfl, b7⟩
      have HS5 := Lib.hid (HS6.out.below b7)
      have HR7 := Lib.hid (HR6.out.below b7)
      have c0_w7 : w7.cell? ⟨w.heap.size, 0, none⟩ = some (.slice A k c) := (b7.cell (p := ⟨w.heap.size, 0, none⟩) (by first | omega | (simp; done) | (simp; omega))).trans (by first | assumption | go_simp)
      have c1_w7 : w7.cell? ⟨w.heap.size, 1, none⟩ = some (.slice B m d) := (b7.cell (p := ⟨w.heap.size, 1, none⟩) (by first | omega | (simp; done) | (simp; omega))).trans (by first | assumption | go_simp)
      have c2_w7 : w7.cell? ⟨w.heap.size, 2, none⟩ = some (.int .i64 h) := (b7.cell (p := ⟨w.heap.size, 2, none⟩) (by first | omega | (simp; done) | (simp; omega))).trans (by first | assumption | go_simp)
      have c3_w7 : w7.cell? ⟨w5.heap.size, 0, none⟩ = some (.slice A4 k c4) := (b7.cell (p := ⟨w5.heap.size, 0, none⟩) (by first | omega | (simp; done) | (simp; omega))).trans (by first | assumption | go_simp)
      have c4_w7 : w7.cell? ⟨w5.heap.size, 1, none⟩ = some (.slice B4 m d4) := (b7.cell (p := ⟨w5.heap.size, 1, none⟩) (by first | omega | (simp; done) | (simp; omega))).trans (by first | assumption | go_simp)
      have c5_w7 : w7.cell? ⟨w5.heap.size, 2, none⟩ = some (.int .i64 h) := (b7.cell (p := ⟨w5.heap.size, 2, none⟩) (by first | omega | (simp; done) | (simp; omega))).trans (by first | assumption | go_simp)
      have B_w7 : Below w.heap.size w w7 := (by repeat (first | exact Below.refl _ _ | refine below_step (by assumption) (by first | omega | (simp; done) | (simp; omega)) ?_ | refine below_drewN ?_ _ | refine Below.drew ?_ | refine Below.setCell ?_ (by first | omega | (simp; done) | (simp; omega)) _ | refine Below.alloc ?_ (by first | omega | (simp; done) | (simp; omega)) _))
      have z_w7 := B_w7.size
      have s0_w7 : w.heap.size < w7.heap.size := Nat.lt_of_lt_of_le (by first | omega | (simp; done) | (simp; omega)) b7.size
      have s1_w7 : w5.heap.size < w7.heap.size := Nat.lt_of_lt_of_le (by first | omega | (simp; done) | (simp; omega)) b7.size
      clear b7 c0_w6 c1_w6 c2_w6 c3_w6 c4_w6 c5_w6 B_w6 z_w6 s0_w6 s1_w6 HS6 HR6
      go_wp2_with fail
      go_region_held3 (fun W => W.cell? ⟨w.heap.size, 0, none⟩ = some (.slice A k c) ∧ W.cell? ⟨w.heap.size, 1, none⟩ = some (.slice B m d) ∧ W.cell? ⟨w.heap.size, 2, none⟩ = some (.int .i64 h) ∧ W.cell? ⟨w5.heap.size, 0, none⟩ = some (.slice A4 k c4) ∧ W.cell? ⟨w5.heap.size, 1, none⟩ = some (.slice B4 m d4) ∧ W.cell? ⟨w5.heap.size, 2, none⟩ = some (.int .i64 h)) (first | (go_keep; done) | ((try dsimp only); refine ⟨?_, ?_, ?_, ?_, ?_, ?_⟩ <;> first | assumption | (go_simp; done))) (first | (go_at_call 8; refine (HTO.out _ (HA.out.below (w := w) (by repeat (first | exact Below.refl _ _ | refine below_step (by assumption) (by first | omega | (simp; done) | (simp; omega)) ?_ | refine below_drewN ?_ _ | refine Below.drew ?_ | refine Below.setCell ?_ (by first | omega | (simp; done) | (simp; omega)) _ | refine Below.alloc ?_ (by first | omega | (simp; done) | (simp; omega)) _)))).mono ?_; rintro e w8 ⟨A6, c6, B6, d6, zs6, rfl, ho6, b6⟩; have c0_w8 : w8.cell? ⟨w.heap.size, 0, none⟩ = some (.slice A k c) := (b6.cell (p := ⟨w.heap.size, 0, none⟩) (by first | omega | (simp; done) | (simp; omega))).trans (by first | assumption | go_simp); have c1_w8 : w8.cell? ⟨w.heap.size, 1, none⟩ = some (.slice B m d) := (b6.cell (p := ⟨w.heap.size, 1, none⟩) (by first | omega | (simp; done) | (simp; omega))).trans (by first | assumption | go_simp); have c2_w8 : w8.cell? ⟨w.heap.size, 2, none⟩ = some (.int .i64 h) := (b6.cell (p := ⟨w.heap.size, 2, none⟩) (by first | omega | (simp; done) | (simp; omega))).trans (by first | assumption | go_simp); have c3_w8 : w8.cell? ⟨w5.heap.size, 0, none⟩ = some (.slice A4 k c4) := (b6.cell (p := ⟨w5.heap.size, 0, none⟩) (by first | omega | (simp; done) | (simp; omega))).trans (by first | assumption | go_simp); have c4_w8 : w8.cell? ⟨w5.heap.size, 1, none⟩ = some (.slice B4 m d4) := (b6.cell (p := ⟨w5.heap.size, 1, none⟩) (by first | omega | (simp; done) | (simp; omega))).trans (by first | assumption | go_simp); have c5_w8 : w8.cell? ⟨w5.heap.size, 2, none⟩ = some (.int .i64 h) := (b6.cell (p := ⟨w5.heap.size, 2, none⟩) (by first | omega | (simp; done) | (simp; omega))).trans (by first | assumption | go_simp); have s0_w8 : w.heap.size < w8.heap.size := Nat.lt_of_lt_of_le (by first | omega | (simp; done) | (simp; omega)) b6.size; have s1_w8 : w5.heap.size < w8.heap.size := Nat.lt_of_lt_of_le (by first | omega | (simp; done) | (simp; omega)) b6.size; have E6 := Lib.hid ho6.at_; have F6 := Lib.hid (show ShowAt w8 s A4 k B4 m from HS5.out.below (w := w7) (by repeat (first | exact Below.refl _ _ | refine below_step (by assumption) (by first | omega | (simp; done) | (simp; omega)) ?_ | refine below_drewN ?_ _ | refine Below.drew ?_ | refine Below.setCell ?_ (by first | omega | (simp; done) | (simp; omega)) _ | refine Below.alloc ?_ (by first | omega | (simp; done) | (simp; omega)) _))); have B6 := Lib.hid (show Below w7.heap.size w7 w8 from (by repeat (first | exact Below.refl _ _ | refine below_step (by assumption) (by first | omega | (simp; done) | (simp; omega)) ?_ | refine below_drewN ?_ _ | refine Below.drew ?_ | refine Below.setCell ?_ (by first | omega | (simp; done) | (simp; omega)) _ | refine Below.alloc ?_ (by first | omega | (simp; done) | (simp; omega)) _))); clear ho6) | (go_at_call 10; refine (HEQ.out _ _ _ _ _ _ _ _ _ (F6.out.below (w := w8) (by repeat (first | exact Below.refl _ _ | refine below_step (by assumption) (by first | omega | (simp; done) | (simp; omega)) ?_ | refine below_drewN ?_ _ | refine Below.drew ?_ | refine Below.setCell ?_ (by first | omega | (simp; done) | (simp; omega)) _ | refine Below.alloc ?_ (by first | omega | (simp; done) | (simp; omega)) _))) (E6.out.below (w := w8) (by repeat (first | exact Below.refl _ _ | refine below_step (by assumption) (by first | omega | (simp; done) | (simp; omega)) ?_ | refine below_drewN ?_ _ | refine Below.drew ?_ | refine Below.setCell ?_ (by first | omega | (simp; done) | (simp; omega)) _ | refine Below.alloc ?_ (by first | omega | (simp; done) | (simp; omega)) _)))).mono ?_; rintro e w9 ⟨rfl, b7⟩; have c0_w9 : w9.cell? ⟨w.heap.size, 0, none⟩ = some (.slice A k c) := (b7.cell (p := ⟨w.heap.size, 0, none⟩) (by first | omega | (simp; done) | (simp; omega))).trans (by first | assumption | go_simp); have c1_w9 : w9.cell? ⟨w.heap.size, 1, none⟩ = some (.slice B m d) := (b7.cell (p := ⟨w.heap.size, 1, none⟩) (by first | omega | (simp; done) | (simp; omega))).trans (by first | assumption | go_simp); have c2_w9 : w9.cell? ⟨w.heap.size, 2, none⟩ = some (.int .i64 h) := (b7.cell (p := ⟨w.heap.size, 2, none⟩) (by first | omega | (simp; done) | (simp; omega))).trans (by first | assumption | go_simp); have c3_w9 : w9.cell? ⟨w5.heap.size, 0, none⟩ = some (.slice A4 k c4) := (b7.cell (p := ⟨w5.heap.size, 0, none⟩) (by first | omega | (simp; done) | (simp; omega))).trans (by first | assumption | go_simp); have c4_w9 : w9.cell? ⟨w5.heap.size, 1, none⟩ = some (.slice B4 m d4) := (b7.cell (p := ⟨w5.heap.size, 1, none⟩) (by first | omega | (simp; done) | (simp; omega))).trans (by first | assumption | go_simp); have c5_w9 : w9.cell? ⟨w5.heap.size, 2, none⟩ = some (.int .i64 h) := (b7.cell (p := ⟨w5.heap.size, 2, none⟩) (by first | omega | (simp; done) | (simp; omega))).trans (by first | assumption | go_simp); have s0_w9 : w.heap.size < w9.heap.size := Nat.lt_of_lt_of_le (by first | omega | (simp; done) | (simp; omega)) b7.size; have s1_w9 : w5.heap.size < w9.heap.size := Nat.lt_of_lt_of_le (by first | omega | (simp; done) | (simp; omega)) b7.size; have B7 := Lib.hid (B6.out.trans ((show Below w8.heap.size w8 w9 from (by repeat (first | exact Below.refl _ _ | refine below_step (by assumption) (by first | omega | (simp; done) | (simp; omega)) ?_ | refine below_drewN ?_ _ | refine Below.drew ?_ | refine Below.setCell ?_ (by first | omega | (simp; done) | (simp; omega)) _ | refine Below.alloc ?_ (by first | omega | (simp; done) | (simp; omega)) _))).mono B6.out.size))))
      all_goals go_wp2_with fail
      all_goals refine (HTI.out _ (HR.out.below (w := w) (B_w7.trans (B7.out.mono B_w7.size)))).mono ?_
      all_goals rintro e w10 ⟨T10, e10, rfl, hh, b10⟩
      all_goals have HR10 := Lib.hid (own_row hh)
      all_goals have HX10 := Lib.hid ((HR7.out.below B7.out).below b10)
      all_goals have BB := Lib.hid (B_w7.trans ((B7.out.trans (b10.mono B7.out.size)).mono B_w7.size))
      all_goals clear hh b10
      all_goals go_wp2_with fail
      all_goals refine (HEI.out T6 T10 e6 e10 _ HX10.out HR10.out).mono ?_
      all_goals rintro e w11 ⟨rfl, b11⟩
      all_goals have BC := Lib.hid (BB.out.trans (b11.mono BB.out.size))
      all_goals clear b11
      all_goals go_wp2_with fail
      all_goals go_ret
      all_goals exact ⟨rfl, BC.out⟩
/-! ### FnExactFormatTimes: the row and its card -/

theorem FnExactFormatTimes_reads (os : Os) {H : Type} (enc : TypeId × Value → H) : ∃ places, DataW.whole enc Tryd.prog ((World.doorLaid Tryd.prog 400 os).forCall (fun _ _ => 0) ⟨#[], #[.agg #[.slice none 0 0, .slice none 0 0, .int .i64 0], .slice none 0 0], []⟩).memory Tryd.f5.params.toList Rows.fnExactFormatTimesSpec.vars false (#[.agg #[.slice none 0 0, .slice none 0 0, .int .i64 0], .slice none 0 0] : Array Value).toList 8 = some ([.agg [.nil, .nil, .lit (.int .i64 0)], .nil], [], places) :=
  ⟨[], by kernel_rfl⟩
theorem FnExactFormatTimes_met (os : Os) (args : Array Value) : laidMetH Tryd.prog Rows.fnExactFormatTimesRow.laid ((World.doorLaid Tryd.prog 400 os).forCall (fun _ _ => 0) ⟨#[], args, []⟩).memory :=
  laidMetH_of_parts3 (fuel := 8) (laidMet_of_run' 8 (by kernel_rfl) (by kernel_rfl)) (by kernel_rfl) (by kernel_rfl)

set_option maxRecDepth 100000 in
theorem FnExactFormatTimes_lifted (os : Os) (started : os.Started) (H : Type) (enc : TypeId × Value → H) (F : Stop.Interp) :
    ReturnsInHanded {} Tryd.checked os 5 .any ((OpenSpec.ofChange Rows.fnExactFormatTimesSpec).preRow enc Tryd.prog Tryd.f5 Rows.fnExactFormatTimesRow.domain false Rows.fnExactFormatTimesRow.laid) (((OpenSpec.ofChange Rows.fnExactFormatTimesSpec).at F).post enc Tryd.prog Tryd.f5 false true false false) := by
  obtain ⟨places, hx⟩ := FnExactFormatTimes_reads os enc
  refine returnsInHanded_of_row (C := Tryd.checked) (s := OpenSpec.ofChange Rows.fnExactFormatTimesSpec) (by kernel_rfl) started (by kernel_rfl) Tryd.func5
    (witness_row_atRef (enc := enc) (C := Tryd.checked) false (World.doorLaid Tryd.prog 400 os) #[.agg #[.slice none 0 0, .slice none 0 0, .int .i64 0], .slice none 0 0] rfl (by kernel_rfl) (by kernel_rfl) (by kernel_rfl)
      (OpenSpec.preRow_of_cond 8 hx (by kernel_rfl) (fun k hk => by cases hk) (by kernel_rfl) (FnExactFormatTimes_met os _))) ?_
  intro W base args ds gs before hval0 hW _ _ _ hL0 _ _
  have hL : laidMet Tryd.prog Rows.fnExactFormatTimesRow.laid W := by
    rw [← MakeChecks.laidMetH_plain _ _ _ (by kernel_rfl)]
    exact hL0
  have hval : ∀ (j : Nat) t v, Tryd.f5.params[j]? = some t → args[j]? = some v → Value.okWide Tryd.prog W .any base t v := hval0
  have hW2 := hW
  obtain ⟨p, q, hA0, hV, hpq, hfz, hnd⟩ := hW2
  have hA : DataW.TrodAll enc Tryd.prog W 0 (fun _ => true) true Tryd.f5.params.toList args.toList ds p := hA0
  rw [Tryd.params5] at hA hval
  obtain ⟨v0, v1, d0, d1, p0, p1, hargs, hds, hp, h0, h1⟩ := trodAll_two hA
  obtain ⟨hgs, hq⟩ := trodVars_none hV
  subst hargs
  subst hds
  subst hgs
  obtain ⟨s0, A0, k0, c0, B0, m0, e0, rfl, wn0, hk0, hm0, hw0, hw1, hr0⟩ := open_show (hval 0 25 v0 rfl rfl) h0
  obtain ⟨s1, l1, c1, rfl⟩ := okWide_slice Tryd.underlying37 (hval 1 37 v1 rfl rfl)
  have h1b := h1
  obtain ⟨fuel1, hf1⟩ := h1b
  obtain ⟨zs1, hzl1, hzm1, hzw1, hzr1⟩ := ints_in Tryd.underlying37 Tryd.underlying3 cells_int1 hf1
  refine (FnExactFormatTimes_walk s0 zs1 A0 k0 c0 B0 m0 e0 s1 l1 c1 W hk0 hm0 hw0 hr0 hzl1 hzm1 hzw1 hzr1 (pow10_of rfl hL.tail.tail)).mono fun e W2 ⟨he, hb⟩ => ?_
  subst he
  exact ⟨_, rfl, law_post (by kernel_rfl) (by rw [Tryd.params5]; decide +kernel) (by kernel_rfl) Tryd.underlying4 rfl ⟨rfl, rfl, rfl⟩ hW hb⟩

theorem FnExactFormatTimes_said : Rows.FnExactFormatTimesSaid :=
  OpenClaim.holds_of_cond 5 Tryd.f5 rfl rfl rfl rfl rfl rfl rfl ⟨rfl, rfl, rfl, rfl, rfl⟩ rfl rfl rfl rfl rfl (by kernel_rfl) Tryd.func5 (by kernel_rfl)
    (of_decide_eq_true (by kernel_rfl)) (by unfold Func.isWrapper; first | (rw [if_pos (by decide +kernel)]; kernel_rfl) | (rw [if_neg (by decide +kernel)]; exact ⟨rfl, rfl⟩))
    (fun os started H enc _ F => by rw [OpenClaim.pre_eq_preRow]; exact FnExactFormatTimes_lifted os started H enc F)

/-- No parameter wants a stand-in. -/
theorem FnExactFormatTimes_plain (f : FuncId) (fn : Func) (hf : Tryd.pinned.checked.prog.funcNamed "loop.example/g00827/laws.FnExactFormatTimes" = some f) (hfn : Tryd.pinned.checked.prog.funcs[f]? = some fn) :
    false = Tryd.pinned.checked.prog.looks [] ∧ ∀ (j : Nat) t, fn.params[j]? = some t → Tryd.pinned.checked.prog.wantsStandIn t = false := by
  obtain rfl : f = 5 := Option.some.inj ((show Tryd.prog.funcNamed "loop.example/g00827/laws.FnExactFormatTimes" = some 5 by kernel_rfl).symm.trans hf) |>.symm
  obtain rfl : fn = Tryd.f5 := (Option.some.inj (Tryd.func5.symm.trans hfn)).symm
  refine ⟨by kernel_rfl, fun j t ht => ?_⟩
  rw [Tryd.params5] at ht
  have hm : t ∈ [25, 37] := by simpa using Array.mem_of_getElem? ht
  have hall : ([25, 37].all fun u => !Tryd.prog.wantsStandIn u) = true := by kernel_rfl
  exact (show Tryd.prog.wantsStandIn t = false by simpa using List.all_eq_true.1 hall t hm)

theorem FnExactFormatTimes_card : Rows.FnExactFormatTimesCardSaid :=
  Claim7.holds_tied_plain_at .later [] _ _ _ _ FnExactFormatTimes_said (fun _ h => by cases h) (by kernel_rfl) (fun _ h => by cases h) fnExactFormatTimes_row_tie rfl ⟨rfl, rfl⟩ (by kernel_rfl) rfl FnExactFormatTimes_plain (by kernel_rfl)

end Go.Proofs.YtgajodcgedhikaaDoor

