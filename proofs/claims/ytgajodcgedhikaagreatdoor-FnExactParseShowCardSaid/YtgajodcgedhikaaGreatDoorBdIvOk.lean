/-
  impl.IntervalOk.
  Contains.
  WALKS of laws.toInterval and laws.eqInterval; an interval that comes in.
  WALKS of the laws' comparisons of shows: eqNode, eqNodeS, eqTie, eqTieS, eqShow.
  WALKS of the laws' marks over shows: markNodeS, markTieS, markShow.
  PLAIN: labels and values.
-/
import Derived.Test.YtgajodcgedhikaaGreatDoorProg
import Derived.Test.YtgajodcgedhikaaGreatDoorBdShO
import Derived.Test.YtgajodcgedhikaaGreatDoorIvOkA
import Derived.Test.YtgajodcgedhikaaGreatDoorIvOkB
import Derived.Test.YtgajodcgedhikaaGreatDoorIvOkC
import Derived.Test.YtgajodcgedhikaaGreatDoorIvOkD
import Derived.Test.YtgajodcgedhikaaGreatDoorIvOkE
import Derived.Test.YtgajodcgedhikaaGreatDoorIvOkF
import Derived.WalkKit
import Derived.WalkSpells
import Derived.WalkLawsBesides
import Derived.Deep.QuietTactic
import Derived.Deep.RegionWith
import Derived.Deep.RegionHeld3
import Derived.BigQuiet
import Derived.Lib.Hide
import Derived.Below
import Derived.ProofKit
import Derived.Lib.SmallJoins
import Derived.Test.YtgajodcgedhikaaGreatDoorBdDig
namespace Go.Proofs.YtgajodcgedhikaaGreatDoor
open Go.RowKit
set_option linter.unusedVariables false
set_option linter.unusedSimpArgs false

end Go.Proofs.YtgajodcgedhikaaGreatDoor

namespace Go.Proofs.YtgajodcgedhikaaGreatDoor
open Go.RowKit
set_option linter.unusedVariables false
set_option linter.unusedSimpArgs false

end Go.Proofs.YtgajodcgedhikaaGreatDoor

namespace Go.Proofs.YtgajodcgedhikaaGreatDoor
open Go.RowKit Go.ChangeShapes Go.WideShapes Go.ChangeAt Go.WideMaps Go.WideElems
set_option linter.unusedVariables false
set_option linter.unusedSimpArgs false

end Go.Proofs.YtgajodcgedhikaaGreatDoor

namespace Go.Proofs.YtgajodcgedhikaaGreatDoor
open Go.RowKit
set_option linter.unusedVariables false
set_option linter.unusedSimpArgs false

set_option maxRecDepth 100000 in
set_option maxHeartbeats 4000000 in
theorem eqNode_same (e : GN) (L M : Option Addr) (c d k : Nat) (w : World) (hk : e.lab.length = k) (hm : k ≤ 1048576) (hr : RowAt w L (e.lab.map intV)) (hr2 : RowAt w M (e.lab.map intV)) :
    Calls Tryz.prog 44 #[.agg #[.string e.name, .slice L k c, .int .i64 e.wat], .agg #[.string e.name, .slice M k d, .int .i64 e.wat]] w fun x w' => x = .returned (.bool true) ∧ Below w.heap.size w w' := by
  obtain ⟨nm, lab, wat⟩ := e
  dsimp only at hk hr hr2 ⊢
  have HC := Lib.hid (fun W h1 h2 => eqIntS_same lab L M k c d W hk (by unfold maxLen; omega) h1 h2)
  have HR := Lib.hid hr
  have HR2 := Lib.hid hr2
  clear hr hr2 hk
  have h2 : ((wat : Int) != wat) = false := by simp
  go_enter Tryz.func44, Tryz.ntmps44
  go_wp2_with fail
  refine (HC.out _ (HR.out.below (by repeat (first | exact Below.refl _ _ | refine below_step (by assumption) (by first | omega | (simp; done) | (simp; omega)) ?_ | refine below_drewN ?_ _ | refine Below.drew ?_ | refine Below.setCell ?_ (by first | omega | (simp; done) | (simp; omega)) _ | refine Below.alloc ?_ (by first | omega | (simp; done) | (simp; omega)) _))) (HR2.out.below (by repeat (first | exact Below.refl _ _ | refine below_step (by assumption) (by first | omega | (simp; done) | (simp; omega)) ?_ | refine below_drewN ?_ _ | refine Below.drew ?_ | refine Below.setCell ?_ (by first | omega | (simp; done) | (simp; omega)) _ | refine Below.alloc ?_ (by first | omega | (simp; done) | (simp; omega)) _)))).mono ?_
  rintro x w1 ⟨rfl, r1, rfl⟩
  go_wp2_with fail
  go_ret
  exact ⟨rfl, (by repeat (first | exact Below.refl _ _ | refine below_step (by assumption) (by first | omega | (simp; done) | (simp; omega)) ?_ | refine below_drewN ?_ _ | refine Below.drew ?_ | refine Below.setCell ?_ (by first | omega | (simp; done) | (simp; omega)) _ | refine Below.alloc ?_ (by first | omega | (simp; done) | (simp; omega)) _))⟩

set_option maxRecDepth 100000 in
set_option maxHeartbeats 4000000 in
theorem eqTie_any (e : GT) (w : World) :
    Calls Tryz.prog 45 #[e.val, e.val] w fun x w' => x = .returned (.bool true) ∧ Below w.heap.size w w' := by
  obtain ⟨u, v, lo, hi, fr⟩ := e
  unfold GT.val
  have h1 : ((u : Int) != u) = false := by simp
  have h2 : ((v : Int) != v) = false := by simp
  have h3 : ((lo : Int) != lo) = false := by simp
  have h4 : ((hi : Int) != hi) = false := by simp
  have h5 : ((fr : Bool) != fr) = false := by simp
  go_enter Tryz.func45, Tryz.ntmps45
  go_wp2_with fail
  go_ret
  exact ⟨rfl, (by repeat (first | exact Below.refl _ _ | refine below_step (by assumption) (by first | omega | (simp; done) | (simp; omega)) ?_ | refine below_drewN ?_ _ | refine Below.drew ?_ | refine Below.setCell ?_ (by first | omega | (simp; done) | (simp; omega)) _ | refine Below.alloc ?_ (by first | omega | (simp; done) | (simp; omega)) _))⟩

set_option maxRecDepth 100000 in
set_option maxHeartbeats 4000000 in
theorem eqNodeS_same (ns : List GN) (A B : Option Addr) (n ca cb : Nat) (w : World) (hn : ns.length = n) (hm : n ≤ 1048576) (hl : ∀ e ∈ ns, e.lab.length ≤ 1048576) (ha : NodesAt w A ns) (hb : NodesAt w B ns) :
    Calls Tryz.prog 20 #[.slice A n ca, .slice B n cb] w fun e w' => e = .returned (.bool true) ∧ Below w.heap.size w w' := by
  have HA := Lib.hid ha
  have HB := Lib.hid hb
  have HL := Lib.hid hn
  have HLL := Lib.hid hl
  clear ha hb hn hl
  have hne : ((n : Int) != (n : Int)) = false := by simp
  go_enter Tryz.func20, Tryz.ntmps20
  go_wp2_with fail
  go_loopw [5] (fun i wr => ∃ k : Nat, k ≤ n ∧ i = .int .i64 k ∧ Below w.heap.size w wr) (fun i _ => n - (intOf i).toNat)
  case atStart => exact ⟨0, Nat.zero_le _, rfl, Below.refl _ _⟩
  case round =>
    obtain ⟨k, hk, rfl, hbw⟩ := hrel
    by_cases hlt : k < n
    · have hl := HL.out
      obtain ⟨g, o, rfl, hg, hc⟩ := HA.out (by omega)
      obtain ⟨g', o', rfl, hg', hc'⟩ := HB.out (by omega)
      have hc1 := hc k (by omega)
      have hd1 := hc' k (by omega)
      have hl1 := HLL.out ns[k] (List.getElem_mem _)
      obtain ⟨e, he⟩ : ∃ e, e = ns[k]'(by omega) := ⟨_, rfl⟩
      rw [← he] at hc1 hd1 hl1
      obtain ⟨c0, c2, L, cl, c1, hrow⟩ := hc1
      obtain ⟨d0, d2, M, dl, d1, hrow2⟩ := hd1
      obtain ⟨q, hq⟩ : ∃ q, q = e.lab.length := ⟨_, rfl⟩
      rw [← hq] at c1 d1 hl1
      have k0 := (hbw.cell (p := ⟨g, o + k * 3, none⟩) hg).trans c0
      have k1 := (hbw.cell (p := ⟨g, o + k * 3 + 1, none⟩) hg).trans c1
      have k2 := (hbw.cell (p := ⟨g, o + k * 3 + 2, none⟩) hg).trans c2
      have l0 := (hbw.cell (p := ⟨g', o' + k * 3, none⟩) hg').trans d0
      have l1 := (hbw.cell (p := ⟨g', o' + k * 3 + 1, none⟩) hg').trans d1
      have l2 := (hbw.cell (p := ⟨g', o' + k * 3 + 2, none⟩) hg').trans d2
      have HRA := Lib.hid (hrow.below hbw)
      have HRB := Lib.hid (hrow2.below hbw)
      have HQ := Lib.hid (fun W h1 h2 => eqNode_same e L M cl dl q W hq.symm hl1 h1 h2)
      clear hc hc' c0 c1 c2 d0 d1 d2 he hl hq hrow hrow2 hl1
      go_wp2_with fail
      go_region_with (go_at_call 44; refine (HQ.out _ (HRA.out.below (by repeat (first | exact Below.refl _ _ | refine below_step (by assumption) (by first | omega | (simp; done) | (simp; omega)) ?_ | refine below_drewN ?_ _ | refine Below.drew ?_ | refine Below.setCell ?_ (by first | omega | (simp; done) | (simp; omega)) _ | refine Below.alloc ?_ (by first | omega | (simp; done) | (simp; omega)) _))) (HRB.out.below (by repeat (first | exact Below.refl _ _ | refine below_step (by assumption) (by first | omega | (simp; done) | (simp; omega)) ?_ | refine below_drewN ?_ _ | refine Below.drew ?_ | refine Below.setCell ?_ (by first | omega | (simp; done) | (simp; omega)) _ | refine Below.alloc ?_ (by first | omega | (simp; done) | (simp; omega)) _)))).mono ?_; rintro x w2 ⟨rfl, b2⟩)
      all_goals
        have hbw2 : Below w.heap.size w w2 := hbw.drew.trans (Below.mono b2 hbw.size)
        go_wp2_with fail
        go_roundw
        case rel => exact ⟨k + 1, by omega, by go_num, hbw2⟩
        case measure => simp [intOf]; omega
    · go_wp2_with fail
      go_ret
      exact ⟨rfl, hbw⟩

set_option maxRecDepth 100000 in
set_option maxHeartbeats 4000000 in
theorem eqTieS_same (es : List GT) (A B : Option Addr) (n ca cb : Nat) (w : World) (hn : es.length = n) (hm : n ≤ 1048576) (ha : TieAt w A es) (hb : TieAt w B es) :
    Calls Tryz.prog 21 #[.slice A n ca, .slice B n cb] w fun e w' => e = .returned (.bool true) ∧ Below w.heap.size w w' := by
  have HA := Lib.hid ha
  have HB := Lib.hid hb
  have HL := Lib.hid hn
  clear ha hb hn
  have hne : ((n : Int) != (n : Int)) = false := by simp
  go_enter Tryz.func21, Tryz.ntmps21
  go_wp2_with fail
  go_loopw [5] (fun i wr => ∃ k : Nat, k ≤ n ∧ i = .int .i64 k ∧ Below w.heap.size w wr) (fun i _ => n - (intOf i).toNat)
  case atStart => exact ⟨0, Nat.zero_le _, rfl, Below.refl _ _⟩
  case round =>
    obtain ⟨k, hk, rfl, hbw⟩ := hrel
    by_cases hlt : k < n
    · have hl := HL.out
      obtain ⟨g, o, rfl, hg, hc⟩ := HA.out (by omega)
      obtain ⟨g', o', rfl, hg', hc'⟩ := HB.out (by omega)
      have hc1 := hc k (by omega)
      have hd1 := hc' k (by omega)
      obtain ⟨e, he⟩ : ∃ e, e = es[k]'(by omega) := ⟨_, rfl⟩
      rw [← he] at hc1 hd1
      obtain ⟨c0, c1, c2, c3, c4⟩ := hc1
      obtain ⟨d0, d1, d2, d3, d4⟩ := hd1
      have k0 := (hbw.cell (p := ⟨g, o + k * 5, none⟩) hg).trans c0
      have k1 := (hbw.cell (p := ⟨g, o + k * 5 + 1, none⟩) hg).trans c1
      have k2 := (hbw.cell (p := ⟨g, o + k * 5 + 2, none⟩) hg).trans c2
      have k3 := (hbw.cell (p := ⟨g, o + k * 5 + 3, none⟩) hg).trans c3
      have k4 := (hbw.cell (p := ⟨g, o + k * 5 + 4, none⟩) hg).trans c4
      have l0 := (hbw.cell (p := ⟨g', o' + k * 5, none⟩) hg').trans d0
      have l1 := (hbw.cell (p := ⟨g', o' + k * 5 + 1, none⟩) hg').trans d1
      have l2 := (hbw.cell (p := ⟨g', o' + k * 5 + 2, none⟩) hg').trans d2
      have l3 := (hbw.cell (p := ⟨g', o' + k * 5 + 3, none⟩) hg').trans d3
      have l4 := (hbw.cell (p := ⟨g', o' + k * 5 + 4, none⟩) hg').trans d4
      have hq := eqTie_any e
      unfold GT.val at hq
      have HQ := Lib.hid hq
      clear hc hc' c0 c1 c2 c3 c4 d0 d1 d2 d3 d4 he hl hq
      go_wp2_with fail
      go_region_with (go_at_call 45; refine (HQ.out _).mono ?_; rintro x w2 ⟨rfl, b2⟩)
      all_goals
        have hbw2 : Below w.heap.size w w2 := hbw.drew.trans (Below.mono b2 hbw.size)
        go_wp2_with fail
        go_roundw
        case rel => exact ⟨k + 1, by omega, by go_num, hbw2⟩
        case measure => simp [intOf]; omega
    · go_wp2_with fail
      go_ret
      exact ⟨rfl, hbw⟩

set_option maxRecDepth 100000 in
set_option maxHeartbeats 4000000 in
theorem eqShow_same (s : GS) (A : Option Addr) (k c : Nat) (B : Option Addr) (m d : Nat) (A2 : Option Addr) (c2 : Nat) (B2 : Option Addr) (d2 : Nat) (w : World) (hs : ShB s) (ha : ShowAt w s A k B m) (hb : ShowAt w s A2 k B2 m) :
    Calls Tryz.prog 6 #[shV A k c B m d s.h, shV A2 k c2 B2 m d2 s.h] w fun x w' => x = .returned (.bool true) ∧ Below w.heap.size w w' := by
  have HN := Lib.hid (fun W h h2 => eqNodeS_same s.ns A A2 k c c2 W ha.ln (by have := hs.ns; have := ha.ln; omega) (fun e he => (hs.each e he).2) h h2)
  have HT := Lib.hid (fun W h h2 => eqTieS_same s.ts B B2 m d d2 W ha.lt (by have := hs.ts; have := ha.lt; omega) h h2)
  have HA := Lib.hid ha
  have HB := Lib.hid hb
  clear ha hb hs
  obtain ⟨h, hh⟩ : ∃ h, h = s.h := ⟨_, rfl⟩
  rw [← hh]
  clear hh
  have hne : ((h : Int) != h) = false := by simp
  unfold shV
  go_enter Tryz.func6, Tryz.ntmps6
  go_wp2_with fail
  refine (HN.out _ (HA.out.nodes.below (by repeat (first | exact Below.refl _ _ | refine below_step (by assumption) (by first | omega | (simp; done) | (simp; omega)) ?_ | refine below_drewN ?_ _ | refine Below.drew ?_ | refine Below.setCell ?_ (by first | omega | (simp; done) | (simp; omega)) _ | refine Below.alloc ?_ (by first | omega | (simp; done) | (simp; omega)) _))) (HB.out.nodes.below (by repeat (first | exact Below.refl _ _ | refine below_step (by assumption) (by first | omega | (simp; done) | (simp; omega)) ?_ | refine below_drewN ?_ _ | refine Below.drew ?_ | refine Below.setCell ?_ (by first | omega | (simp; done) | (simp; omega)) _ | refine Below.alloc ?_ (by first | omega | (simp; done) | (simp; omega)) _)))).mono ?_
  rintro e w1 ⟨rfl, b1⟩
  have c0_w1 : w1.cell? ⟨w.heap.size, 0, none⟩ = some (.slice A k c) := (b1.cell (p := ⟨w.heap.size, 0, none⟩) (by first | omega | (simp; done) | (simp; omega))).trans (by first | assumption | go_simp)
  have c1_w1 : w1.cell? ⟨w.heap.size, 1, none⟩ = some (.slice B m d) := (b1.cell (p := ⟨w.heap.size, 1, none⟩) (by first | omega | (simp; done) | (simp; omega))).trans (by first | assumption | go_simp)
  have c2_w1 : w1.cell? ⟨w.heap.size, 2, none⟩ = some (.int .i64 h) := (b1.cell (p := ⟨w.heap.size, 2, none⟩) (by first | omega | (simp; done) | (simp; omega))).trans (by first | assumption | go_simp)
  have c3_w1 : w1.cell? ⟨w.heap.size + 1, 0, none⟩ = some (.slice A2 k c2) := (b1.cell (p := ⟨w.heap.size + 1, 0, none⟩) (by first | omega | (simp; done) | (simp; omega))).trans (by first | assumption | go_simp)
  have c4_w1 : w1.cell? ⟨w.heap.size + 1, 1, none⟩ = some (.slice B2 m d2) := (b1.cell (p := ⟨w.heap.size + 1, 1, none⟩) (by first | omega | (simp; done) | (simp; omega))).trans (by first | assumption | go_simp)
  have c5_w1 : w1.cell? ⟨w.heap.size + 1, 2, none⟩ = some (.int .i64 h) := (b1.cell (p := ⟨w.heap.size + 1, 2, none⟩) (by first | omega | (simp; done) | (simp; omega))).trans (by first | assumption | go_simp)
  have s0_w1 : w.heap.size < w1.heap.size := Nat.lt_of_lt_of_le (by first | omega | (simp; done) | (simp; omega)) b1.size
  have s1_w1 : w.heap.size + 1 < w1.heap.size := Nat.lt_of_lt_of_le (by first | omega | (simp; done) | (simp; omega)) b1.size
  have B_w1 : Below w.heap.size w w1 := (by repeat (first | exact Below.refl _ _ | refine below_step (by assumption) (by first | omega | (simp; done) | (simp; omega)) ?_ | refine below_drewN ?_ _ | refine Below.drew ?_ | refine Below.setCell ?_ (by first | omega | (simp; done) | (simp; omega)) _ | refine Below.alloc ?_ (by first | omega | (simp; done) | (simp; omega)) _))
  clear b1  
  go_wp2_with fail
  refine (HT.out _ (HA.out.ties.below (by repeat (first | exact Below.refl _ _ | refine below_step (by assumption) (by first | omega | (simp; done) | (simp; omega)) ?_ | refine below_drewN ?_ _ | refine Below.drew ?_ | refine Below.setCell ?_ (by first | omega | (simp; done) | (simp; omega)) _ | refine Below.alloc ?_ (by first | omega | (simp; done) | (simp; omega)) _))) (HB.out.ties.below (by repeat (first | exact Below.refl _ _ | refine below_step (by assumption) (by first | omega | (simp; done) | (simp; omega)) ?_ | refine below_drewN ?_ _ | refine Below.drew ?_ | refine Below.setCell ?_ (by first | omega | (simp; done) | (simp; omega)) _ | refine Below.alloc ?_ (by first | omega | (simp; done) | (simp; omega)) _)))).mono ?_
  rintro e w2 ⟨rfl, b2⟩
  have c0_w2 : w2.cell? ⟨w.heap.size, 0, none⟩ = some (.slice A k c) := (b2.cell (p := ⟨w.heap.size, 0, none⟩) (by first | omega | (simp; done) | (simp; omega))).trans (by first | assumption | go_simp)
  have c1_w2 : w2.cell? ⟨w.heap.size, 1, none⟩ = some (.slice B m d) := (b2.cell (p := ⟨w.heap.size, 1, none⟩) (by first | omega | (simp; done) | (simp; omega))).trans (by first | assumption | go_simp)
  have c2_w2 : w2.cell? ⟨w.heap.size, 2, none⟩ = some (.int .i64 h) := (b2.cell (p := ⟨w.heap.size, 2, none⟩) (by first | omega | (simp; done) | (simp; omega))).trans (by first | assumption | go_simp)
  have c3_w2 : w2.cell? ⟨w.heap.size + 1, 0, none⟩ = some (.slice A2 k c2) := (b2.cell (p := ⟨w.heap.size + 1, 0, none⟩) (by first | omega | (simp; done) | (simp; omega))).trans (by first | assumption | go_simp)
  have c4_w2 : w2.cell? ⟨w.heap.size + 1, 1, none⟩ = some (.slice B2 m d2) := (b2.cell (p := ⟨w.heap.size + 1, 1, none⟩) (by first | omega | (simp; done) | (simp; omega))).trans (by first | assumption | go_simp)
  have c5_w2 : w2.cell? ⟨w.heap.size + 1, 2, none⟩ = some (.int .i64 h) := (b2.cell (p := ⟨w.heap.size + 1, 2, none⟩) (by first | omega | (simp; done) | (simp; omega))).trans (by first | assumption | go_simp)
  have s0_w2 : w.heap.size < w2.heap.size := Nat.lt_of_lt_of_le (by first | omega | (simp; done) | (simp; omega)) b2.size
  have s1_w2 : w.heap.size + 1 < w2.heap.size := Nat.lt_of_lt_of_le (by first | omega | (simp; done) | (simp; omega)) b2.size
  have B_w2 : Below w.heap.size w w2 := (by repeat (first | exact Below.refl _ _ | refine below_step (by assumption) (by first | omega | (simp; done) | (simp; omega)) ?_ | refine below_drewN ?_ _ | refine Below.drew ?_ | refine Below.setCell ?_ (by first | omega | (simp; done) | (simp; omega)) _ | refine Below.alloc ?_ (by first | omega | (simp; done) | (simp; omega)) _))
  clear b2 c0_w1 c1_w1 c2_w1 c3_w1 c4_w1 c5_w1 s0_w1 s1_w1 B_w1
  go_wp2_with fail
  go_ret
  exact ⟨rfl, B_w2⟩

end Go.Proofs.YtgajodcgedhikaaGreatDoor

namespace Go.Proofs.YtgajodcgedhikaaGreatDoor
open Go.RowKit
set_option linter.unusedVariables false
set_option linter.unusedSimpArgs false

theorem grown_setZ (w : World) (p : Addr) (u : Value) : w.grownBy (w.setCell p u) (some p.block) := setCell_grown w p u
theorem own_sideZ {w : World} {B e s n : Nat} {v : Value} {xs : List Value} (h : w.ownsRow B e s v n xs) (p : Addr) (u : Value) (hp : v.ownBlock ≠ some p.block) : (w.setCell p u).ownsRow B e s v n xs :=
  h.kept (grown_setZ w p u) (.inr hp)
theorem cellsZ_map (zs : List NL) : cellsZ zs = (zs.map NL.cells).flatten := by unfold cellsZ; rw [List.flatMap_def]
theorem cellsZ_set {zs : List NL} {j : Nat} (hj : j < zs.length) {z : NL} (h : z.cells = zs[j].cells) : cellsZ (zs.set j z) = cellsZ zs := by
  rw [cellsZ_map, cellsZ_map, List.map_set, h]
  congr 1
  refine List.ext_getElem? fun i => ?_
  by_cases e : i = j
  · subst e; rw [List.getElem?_set_self (by simpa using hj), List.getElem?_map, List.getElem?_eq_getElem hj]; rfl
  · rw [List.getElem?_set_ne (fun h => e h.symm)]
theorem setZ0 (nm : ByteArray) : ∀ (zs : List NL) (j : Nat) (hj : j < zs.length), (cellsZ zs).set (j * 3) (.string nm) = cellsZ (zs.set j ⟨⟨nm, zs[j].e.lab, zs[j].e.wat⟩, zs[j].L, zs[j].c⟩)
  | [], j, h => by simp at h
  | e :: es, 0, h => by simp [cellsZ, NL.cells, NL.V]
  | e :: es, j + 1, h => by
    have ih := setZ0 nm es j (by simpa using h)
    have e1 : ∀ (a : NL) l, cellsZ (a :: l) = .string a.e.name :: a.V :: .int .i64 a.e.wat :: cellsZ l := fun _ _ => rfl
    rw [show (j + 1) * 3 = j * 3 + 1 + 1 + 1 from by omega, List.set_cons_succ, e1, e1, List.set_cons_succ, List.set_cons_succ, List.set_cons_succ, ih]
    rfl
theorem setZ2 (x : Int) : ∀ (zs : List NL) (j : Nat) (hj : j < zs.length), (cellsZ zs).set (j * 3 + 2) (.int .i64 x) = cellsZ (zs.set j ⟨⟨zs[j].e.name, zs[j].e.lab, x⟩, zs[j].L, zs[j].c⟩)
  | [], j, h => by simp at h
  | e :: es, 0, h => by simp [cellsZ, NL.cells, NL.V]
  | e :: es, j + 1, h => by
    have ih := setZ2 x es j (by simpa using h)
    have e1 : ∀ (a : NL) l, cellsZ (a :: l) = .string a.e.name :: a.V :: .int .i64 a.e.wat :: cellsZ l := fun _ _ => rfl
    rw [show (j + 1) * 3 + 2 = (j * 3 + 2) + 1 + 1 + 1 from by omega, List.set_cons_succ, e1, e1, List.set_cons_succ, List.set_cons_succ, List.set_cons_succ, ih]
    rfl
/-- A node takes another one's place, its label in the same memory. -/
theorem OwnN.upd {w w' : World} {lo hi : Nat} {v : Value} {zs : List NL} (h : OwnN w lo hi v zs) {j : Nat} (hj : j < zs.length) (z : NL) (hV : z.V = zs[j].V)
    (hrow : w'.ownsRow lo 38 3 v zs.length (cellsZ (zs.set j z))) (hlab : w'.ownsRow lo 3 1 z.V z.e.lab.length (z.e.lab.map intV))
    (hoth : ∀ i (hi : i < zs.length), i ≠ j → w'.ownsRow lo 3 1 zs[i].V zs[i].e.lab.length (zs[i].e.lab.map intV)) : OwnN w' lo hi v (zs.set j z) := by
  have hget : ∀ i (hi : i < (zs.set j z).length), (zs.set j z)[i].V = (zs[i]'(by simpa using hi)).V := fun i hi => by
    rw [List.getElem_set]
    split
    · next e => subst e; exact hV
    · rfl
  refine ⟨by rw [List.length_set]; exact hrow, fun y hy => ?_, fun y hy b hb => ?_, ?_, h.le⟩
  · obtain ⟨i, hi, rfl⟩ := List.getElem_of_mem hy
    have hi2 : i < zs.length := by simpa using hi
    by_cases e : j = i
    · subst e
      rw [List.getElem_set_self]; exact hlab
    · rw [List.getElem_set_ne e]; exact hoth i hi2 (fun q => e q.symm)
  · obtain ⟨i, hi, rfl⟩ := List.getElem_of_mem hy
    rw [hget i hi] at hb
    exact h.sep _ (List.getElem_mem _) b hb
  · rw [List.pairwise_iff_getElem]
    intro a b ha hb hab q h1 h2
    rw [hget a ha] at h1
    rw [hget b hb] at h2
    exact List.pairwise_iff_getElem.1 h.dist a b (by simpa using ha) (by simpa using hb) hab q h1 h2
theorem OwnN.side {w : World} {lo hi : Nat} {v : Value} {zs : List NL} (h : OwnN w lo hi v zs) (g : Nat) (hv : v.ownBlock = some g) (q : Nat) (u : Value) {i : Nat} (hi : i < zs.length) : (w.setCell ⟨g, q, none⟩ u).ownsRow lo 3 1 zs[i].V zs[i].e.lab.length (zs[i].e.lab.map intV) :=
  own_sideZ (h.lab zs[i] (List.getElem_mem _)) _ _ (fun e => (h.sep zs[i] (List.getElem_mem _) g (by simpa using e)).1 hv)
theorem OwnN.nameSet {w : World} {lo hi g n c : Nat} {zs : List NL} (h : OwnN w lo hi (.slice (some ⟨g, 0, none⟩) n c) zs) {j : Nat} (hj : j < zs.length) (nm : ByteArray) :
    OwnN (w.setCell ⟨g, j * 3, none⟩ (.string nm)) lo hi (.slice (some ⟨g, 0, none⟩) n c) (zs.set j ⟨⟨nm, zs[j].e.lab, zs[j].e.wat⟩, zs[j].L, zs[j].c⟩) := by
  obtain ⟨g2, cap, hv, _, _⟩ := h.row.form (by omega)
  injection hv with hv1 hv2 hv3
  subst hv2
  refine h.upd hj ⟨⟨nm, zs[j].e.lab, zs[j].e.wat⟩, zs[j].L, zs[j].c⟩ rfl ?_ (h.side g rfl _ _ hj) (fun i hi _ => h.side g rfl _ _ hi)
  rw [← setZ0]
  exact (h.row.stored (j * 3) (.string nm)).1
theorem OwnN.watSet {w : World} {lo hi g n c : Nat} {zs : List NL} (h : OwnN w lo hi (.slice (some ⟨g, 0, none⟩) n c) zs) {j : Nat} (hj : j < zs.length) (x : Int) :
    OwnN (w.setCell ⟨g, j * 3 + 2, none⟩ (.int .i64 x)) lo hi (.slice (some ⟨g, 0, none⟩) n c) (zs.set j ⟨⟨zs[j].e.name, zs[j].e.lab, x⟩, zs[j].L, zs[j].c⟩) := by
  obtain ⟨g2, cap, hv, _, _⟩ := h.row.form (by omega)
  injection hv with hv1 hv2 hv3
  subst hv2
  refine h.upd hj ⟨⟨zs[j].e.name, zs[j].e.lab, x⟩, zs[j].L, zs[j].c⟩ rfl ?_ (h.side g rfl _ _ hj) (fun i hi _ => h.side g rfl _ _ hi)
  rw [← setZ2]
  exact (h.row.stored (j * 3 + 2) (.int .i64 x)).1
theorem OwnN.labSet {w w' : World} {lo hi : Nat} {v : Value} {zs : List NL} (h : OwnN w lo hi v zs) {j : Nat} (hj : j < zs.length) (lab : List Int) (hl : lab.length = zs[j].e.lab.length)
    (hrow : w'.ownsRow lo 3 1 zs[j].V lab.length (lab.map intV)) (hg : w.grownBy w' zs[j].V.ownBlock) : OwnN w' lo hi v (zs.set j ⟨⟨zs[j].e.name, lab, zs[j].e.wat⟩, zs[j].L, zs[j].c⟩) := by
  have hV : (⟨⟨zs[j].e.name, lab, zs[j].e.wat⟩, zs[j].L, zs[j].c⟩ : NL).V = zs[j].V := by unfold NL.V; dsimp only; rw [hl]
  have hne : ∀ i (hi : i < zs.length), i ≠ j → zs[i].V.ownBlock = none ∨ zs[i].V.ownBlock ≠ zs[j].V.ownBlock := fun i hi e => by
    cases hb : zs[i].V.ownBlock with
    | none => exact .inl rfl
    | some q =>
      refine .inr fun e2 => ?_
      rcases Nat.lt_or_gt_of_ne e with hlt | hgt
      · exact List.pairwise_iff_getElem.1 h.dist i j hi hj hlt q hb e2.symm
      · exact List.pairwise_iff_getElem.1 h.dist j i hj hi hgt q e2.symm hb
  refine h.upd hj ⟨⟨zs[j].e.name, lab, zs[j].e.wat⟩, zs[j].L, zs[j].c⟩ hV ?_ (by rw [hV]; exact hrow) (fun i hi e => (h.lab zs[i] (List.getElem_mem _)).kept hg (hne i hi e))
  rw [cellsZ_set hj (by unfold NL.cells; rw [hV])]
  refine h.row.kept hg ?_
  cases hb : v.ownBlock with
  | none => exact .inl rfl
  | some q => exact .inr fun e2 => (h.sep zs[j] (List.getElem_mem _) q e2.symm).1 hb

theorem OwnN.cellsAt {w : World} {lo hi g n c : Nat} {zs : List NL} (h : OwnN w lo hi (.slice (some ⟨g, 0, none⟩) n c) zs) {j : Nat} (hj : j < zs.length) :
    w.cell? ⟨g, j * 3, none⟩ = some (.string zs[j].e.name) ∧ w.cell? ⟨g, j * 3 + 1, none⟩ = some zs[j].V ∧ w.cell? ⟨g, j * 3 + 2, none⟩ = some (.int .i64 zs[j].e.wat) ∧ w.frozen? ⟨g, j * 3, none⟩ = false ∧ w.frozen? ⟨g, j * 3 + 2, none⟩ = false := by
  obtain ⟨g2, cap, hv, _, _⟩ := h.row.form (by omega)
  injection hv with hv1 hv2 hv3
  subst hv2
  obtain ⟨c0, c1, c2⟩ := getZ zs j hj
  have ha := h.row.cellAt
  exact ⟨(ha (j * 3) (by omega)).trans c0, (ha (j * 3 + 1) (by omega)).trans c1, (ha (j * 3 + 2) (by omega)).trans c2, h.row.frozenAt _, h.row.frozenAt _⟩
/-- The label of a marked node. -/
def mrkI (k n : Nat) : List Int := (List.range n).map fun i => ((k + i : Nat) : Int)
theorem mrkI_cells (k n : Nat) : (mrkI k n).map intV = imarks k n := by unfold mrkI imarks; rw [List.map_map]; rfl
def markE (e : GN) (k : Nat) : GN := ⟨markB k, mrkI (k + 1) e.lab.length, ((k + 1 + e.lab.length : Nat) : Int)⟩
def markZ (z : NL) (k : Nat) : NL := ⟨markE z.e k, z.L, z.c⟩
theorem OwnN.marked {w2 w4 : World} {lo hi g n c : Nat} {zs : List NL} (h : OwnN w2 lo hi (.slice (some ⟨g, 0, none⟩) n c) zs) {j : Nat} (hj : j < zs.length) (z : NL) (hz : zs[j] = z) (p : Nat)
    (h4 : w4.ownsRow lo 3 1 z.V z.e.lab.length (imarks (p + 1) z.e.lab.length)) (g4 : (w2.setCell ⟨g, j * 3, none⟩ (.string (markB p))).grownBy w4 z.V.ownBlock) :
    (∃ y, w4.cell? ⟨g, j * 3 + 2, none⟩ = some y) ∧ w4.frozen? ⟨g, j * 3 + 2, none⟩ = false ∧ OwnN (w4.setCell ⟨g, j * 3 + 2, none⟩ (.int .i64 ((p + 1 + z.e.lab.length : Nat) : Int))) lo hi (.slice (some ⟨g, 0, none⟩) n c) (zs.set j (markZ z p)) := by
  subst hz
  have h1 := h.nameSet hj (markB p)
  obtain ⟨y, hy⟩ : ∃ y : NL, y = ⟨⟨markB p, zs[j].e.lab, zs[j].e.wat⟩, zs[j].L, zs[j].c⟩ := ⟨_, rfl⟩
  rw [← hy] at h1
  have hjy : j < (zs.set j y).length := by simpa using hj
  have hgy : (zs.set j y)[j] = y := List.getElem_set_self _
  have hV : y.V = zs[j].V := by rw [hy]; rfl
  have hl : y.e.lab.length = zs[j].e.lab.length := by rw [hy]
  have h2 := h1.labSet hjy (mrkI (p + 1) zs[j].e.lab.length) (by rw [hgy, hl]; simp [mrkI]) (by rw [hgy, hV, mrkI_cells]; simpa [mrkI] using h4) (by rw [hgy, hV]; exact g4)
  rw [hgy, List.set_set] at h2
  have hj2 : j < (zs.set j (⟨⟨y.e.name, mrkI (p + 1) zs[j].e.lab.length, y.e.wat⟩, y.L, y.c⟩ : NL)).length := by simpa using hj
  obtain ⟨_, _, a2, _, f2⟩ := h2.cellsAt hj2
  refine ⟨⟨_, a2⟩, f2, ?_⟩
  have h3 := h2.watSet hj2 ((p + 1 + zs[j].e.lab.length : Nat) : Int)
  rw [List.getElem_set_self, List.set_set] at h3
  have he : markZ zs[j] p = ⟨⟨y.e.name, mrkI (p + 1) zs[j].e.lab.length, ((p + 1 + zs[j].e.lab.length : Nat) : Int)⟩, y.L, y.c⟩ := by rw [hy]; rfl
  rw [he]
  exact h3
theorem OwnN.labAt {w : World} {lo hi : Nat} {v : Value} {zs : List NL} (h : OwnN w lo hi v zs) {j : Nat} (hj : j < zs.length) (z : NL) (hz : zs[j] = z) (g : Nat) (hv : v.ownBlock = some g) (q : Nat) (u : Value) : (w.setCell ⟨g, q, none⟩ u).ownsRow lo 3 1 z.V z.e.lab.length (z.e.lab.map intV) := by
  subst hz
  exact h.side g hv q u hj
def nl0 : NL := ⟨gN0, none, 0⟩
/-- The first j nodes marked, from k on. -/
def mkJ (zs : List NL) (k : Nat) : Nat → List NL
  | 0 => zs
  | j + 1 => (mkJ zs k j).set j (markZ (zs[j]?.getD nl0) (k + 2 * j + slJ (nodesZ zs) j))
theorem mkJ_len (zs : List NL) (k : Nat) : ∀ j, (mkJ zs k j).length = zs.length
  | 0 => rfl
  | j + 1 => by unfold mkJ; rw [List.length_set, mkJ_len zs k j]
theorem mkJ_rest (zs : List NL) (k : Nat) : ∀ j i, j ≤ i → (mkJ zs k j)[i]? = zs[i]?
  | 0, i, _ => rfl
  | j + 1, i, h => by unfold mkJ; rw [List.getElem?_set_ne (by omega), mkJ_rest zs k j i (by omega)]
theorem mkJ_V (zs : List NL) (k : Nat) : ∀ (j i : Nat) (hi : i < zs.length), ((mkJ zs k j)[i]'(by rw [mkJ_len]; exact hi)).V = zs[i].V
  | 0, i, hi => rfl
  | j + 1, i, hi => by
    have ih := mkJ_V zs k j i hi
    have e1 : (mkJ zs k (j + 1))[i]'(by rw [mkJ_len]; exact hi) = ((mkJ zs k j).set j (markZ (zs[j]?.getD nl0) (k + 2 * j + slJ (nodesZ zs) j)))[i]'(by rw [List.length_set, mkJ_len]; exact hi) := rfl
    rw [e1, List.getElem_set]
    split
    · next e =>
      subst e
      rw [List.getElem?_eq_getElem hi]
      unfold NL.V markZ markE mrkI
      simp
    · exact ih
theorem slJ_le (ns : List GN) : ∀ {j m : Nat}, j ≤ m → slJ ns j ≤ slJ ns m
  | j, 0, h => by obtain rfl : j = 0 := by omega
                  exact Nat.le_refl _
  | j, m + 1, h => by
    by_cases e : j = m + 1
    · subst e; exact Nat.le_refl _
    · have := slJ_le ns (j := j) (m := m) (by omega)
      have h2 : slJ ns (m + 1) = slJ ns m + (ns[m]?.getD gN0).lab.length := rfl
      omega

set_option maxRecDepth 100000 in
set_option maxHeartbeats 8000000 in
theorem markNodeS_any (zs : List NL) (A : Option Addr) (n c lo hi k : Nat) (w : World) (hk : 0 < k) (hn : zs.length = n) (hb : k + 2 * n + slJ (nodesZ zs) n ≤ 1099511627776) (h : OwnN w lo hi (.slice A n c) zs) (hhi : hi ≤ w.heap.size) :
    Calls Tryz.prog 22 #[.slice A n c, .int .i64 k] w fun x w' => x = .returned (.int .i64 ((k + 2 * n + slJ (nodesZ zs) n : Nat) : Int)) ∧ OwnN w' lo hi (.slice A n c) (mkJ zs k n) ∧ Keep (fun b => (Value.slice A n c).ownBlock ≠ some b ∧ ∀ z ∈ zs, z.V.ownBlock ≠ some b) w w' := by
  have HO := Lib.hid h
  have HN := Lib.hid hn
  clear h hn
  go_enter Tryz.func22, Tryz.ntmps22
  go_wp2_with fail
  go_loopw [5, 1] (fun i q wr => ∃ (j p : Nat), j ≤ n ∧ i = .int .i64 j ∧ q = .int .i64 p ∧ p = k + 2 * j + slJ (nodesZ zs) j ∧ OwnN wr lo hi (.slice A n c) (mkJ zs k j) ∧ Keep (fun b => (Value.slice A n c).ownBlock ≠ some b ∧ ∀ z ∈ zs, z.V.ownBlock ≠ some b) w wr) (fun i _ _ => n - (intOf i).toNat)
  case atStart => exact ⟨0, k, Nat.zero_le _, rfl, rfl, by simp [slJ], HO.out, Keep.refl _ _⟩
  case round =>
    obtain ⟨j, p, hj, rfl, rfl, hp, hown, hwi⟩ := hrel
    have WI := Lib.hid hwi
    have zr := hwi.size
    have HP := Lib.hid hp
    clear hwi
    by_cases hlt : j < n
    · have hjl : j < (mkJ zs k j).length := by rw [mkJ_len]; have := HN.out; omega
      obtain ⟨g, cap, hA, hlog, hg⟩ := hown.row.form (by omega)
      injection hA with hA1 hA2 hA3
      subst hA1
      clear hA2 hA3
      have hzj : (mkJ zs k j)[j] = zs[j]'(by have := HN.out; omega) := by
        have := mkJ_rest zs k j j (Nat.le_refl _)
        rw [List.getElem?_eq_getElem hjl, List.getElem?_eq_getElem (by have := HN.out; omega)] at this
        exact Option.some.inj this
      obtain ⟨z, hz⟩ : ∃ z, z = zs[j]'(by have := HN.out; omega) := ⟨_, rfl⟩
      rw [← hz] at hzj
      have HZM : Hid (z ∈ zs) := Lib.hid (by rw [hz]; exact List.getElem_mem _)
      have HZ := Lib.hid hzj
      have hsl : slJ (nodesZ zs) (j + 1) = slJ (nodesZ zs) j + z.e.lab.length := by
        rw [slJ_at (nodesZ zs) (by simp [nodesZ]; have := HN.out; omega), hz]; simp [nodesZ]
      have hle := slJ_le (nodesZ zs) (j := j + 1) (m := n) (by omega)
      have HSL := Lib.hid hsl
      have HNX : Hid (mkJ zs k (j + 1) = (mkJ zs k j).set j (markZ z p)) := Lib.hid (by
        conv => lhs; unfold mkJ
        rw [List.getElem?_eq_getElem (by have := HN.out; omega), ← hz, hp]; rfl)
      have hgh := hown.le g rfl
      have HOW := Lib.hid hown
      have hpk : 0 < p := by omega
      have hpm : p + 2 + z.e.lab.length ≤ 1099511627776 := by omega
      have hmt := fun W => markText_any p W hpk (by omega)
      obtain ⟨mb, hmb⟩ : ∃ b, b = markB p := ⟨_, rfl⟩
      rw [← hmb] at hmt
      have HMT := Lib.hid hmt
      have HMB := Lib.hid hmb
      have hj3 : ((j : Int) < (n : Int)) := by omega
      clear hz hsl hown hmt hmb hp hle
      go_wp2_with fail
      refine (HMT.out _).mono ?_
      rintro x w2 ⟨rfl, b2⟩
      have O2 := Lib.hid (HOW.out.below b2)
      have W2 := Lib.hid (WI.out.trans (Keep.of_below b2))
      have z2 := b2.size
      clear b2
      have hlen2 := HN.out
      obtain ⟨a0, a1, a2, f0, f2⟩ := O2.out.cellsAt hjl
      have OA := Lib.hid (O2.out.nameSet hjl mb)
      rw [HZ.out] at a1
      unfold NL.V at a1
      obtain ⟨q, hq⟩ : ∃ q, q = z.e.lab.length := ⟨_, rfl⟩
      rw [← hq] at a1 hpm
      have HQ := Lib.hid hq
      obtain ⟨y0, hy0⟩ : ∃ y, w2.cell? ⟨g, j * 3, none⟩ = some y := ⟨_, a0⟩
      have A2 := Lib.hid a2
      have F2 := Lib.hid f2
      clear a0 hq a2 f2 hlen2
      obtain ⟨zL, hzL⟩ : ∃ L, L = z.L := ⟨_, rfl⟩
      obtain ⟨zc, hzc⟩ : ∃ L, L = z.c := ⟨_, rfl⟩
      rw [← hzL, ← hzc] at a1
      have HZLC := Lib.hid (And.intro hzL hzc)
      clear hzL hzc
      have hcp : IntKind.i64.wrap ((p : Int) + 1) = ((p + 1 : Nat) : Int) := (IntWalk.i64_left _).trans (by unfold wrap64; omega)
      obtain ⟨w3, hw3⟩ : ∃ W, W = w2.setCell ⟨g, j * 3, none⟩ (.string mb) := ⟨_, rfl⟩
      rw [← hw3] at OA
      have W3 := Lib.hid (W2.out.trans (show Keep _ w2 w3 from by rw [hw3]; exact Keep.grown (grown_setZ w2 ⟨g, j * 3, none⟩ (.string mb)) (fun b hb h => h.1 hb)))
      have b1 : w3.cell? ⟨g, j * 3 + 1, none⟩ = some (.slice zL q zc) := by rw [hw3]; go_simp
      have a2 := A2.out
      have b2 : w3.cell? ⟨g, j * 3 + 2, none⟩ = some (.int .i64 (mkJ zs k j)[j].e.wat) := by rw [hw3]; go_simp
      have f2 := F2.out
      have g2 : w3.frozen? ⟨g, j * 3 + 2, none⟩ = false := by rw [hw3]; go_simp
      have hmi := fun W h => markIntS_any zL q zc lo (p + 1) (z.e.lab.map intV) W (by omega) (by omega) h
      have hlab : w3.ownsRow lo 3 1 (.slice zL q zc) q (z.e.lab.map intV) := by
        rw [hw3, HZLC.out.1, HZLC.out.2, HQ.out]
        exact O2.out.labAt hjl z HZ.out g rfl _ _
      have HMI := Lib.hid (hmi w3 hlab)
      have HWW := Lib.hid hw3
      clear a2 f2 hw3 hmi hlab
      go_wp2_with fail
      rw [← HWW.out]
      refine (HMI.out).mono ?_
      rintro x w4 ⟨rfl, h4, g4⟩
      have hMK := O2.out.marked hjl z HZ.out p (w4 := w4) (by have := h4; rw [HZLC.out.1, HZLC.out.2, HQ.out] at this; exact this) (by have := g4; rw [HWW.out, HZLC.out.1, HZLC.out.2, HQ.out, HMB.out] at this; exact this)
      obtain ⟨⟨yw, hyw⟩, fw, hown5⟩ := hMK
      have W4 := Lib.hid (W3.out.trans (Keep.grown g4 (fun b hb h => h.2 z HZM.out (by unfold NL.V; rw [← HZLC.out.1, ← HZLC.out.2, ← HQ.out]; exact hb))))
      have hpq : ((p + 1 : Nat) : Int) + (q : Int) = ((p + 1 + q : Nat) : Int) := by omega
      rw [hpq]
      rw [← HQ.out] at hown5
      have H5 := Lib.hid hown5
      have hcp2 : IntKind.i64.wrap (((p + 1 + q : Nat) : Int) + 1) = ((p + 1 + q + 1 : Nat) : Int) := (IntWalk.i64_left _).trans (by unfold wrap64; omega)
      have W5 := Lib.hid (W4.out.trans (show Keep _ w4 (w4.setCell ⟨g, j * 3 + 2, none⟩ (.int .i64 ((p + 1 + q : Nat) : Int))) from Keep.grown (grown_setZ w4 _ _) (fun b hb h => h.1 hb)))
      clear h4 g4 hown5 hpq
      go_wp2_with fail
      go_roundw
      case rel => exact ⟨j + 1, p + 1 + q + 1, by omega, by go_num, by first | rfl | (congr 1; omega), by have := HP.out; have := HSL.out; have := HQ.out; omega, by rw [HNX.out]; exact H5.out, W5.out⟩
      case measure => simp [intOf]; omega
    · go_wp2_with fail
      go_ret
      obtain rfl : j = n := by omega
      exact ⟨by first | (rw [HP.out]; done) | (have := HP.out; simp; omega) | (have := HP.out; omega), hown, WI.out⟩

/-- A marked tie. -/
def markT (k : Nat) : GT := ⟨(k : Int), (k : Int) + 1, (k : Int) + 2, (k : Int) + 3, ((k : Int) + 4) % 3 == 0⟩
def tkJ (ts : List GT) (k : Nat) : Nat → List GT
  | 0 => ts
  | j + 1 => (tkJ ts k j).set j (markT (k + 5 * j))
theorem tkJ_len (ts : List GT) (k : Nat) : ∀ j, (tkJ ts k j).length = ts.length
  | 0 => rfl
  | j + 1 => by unfold tkJ; rw [List.length_set, tkJ_len ts k j]
theorem set5T (a b c d : Int) (f : Bool) : ∀ (ts : List GT) (j : Nat) (hj : j < ts.length),
    (((((cellsT ts).set (j * 5) (.int .i64 a)).set (j * 5 + 1) (.int .i64 b)).set (j * 5 + 2) (.int .i64 c)).set (j * 5 + 3) (.int .i64 d)).set (j * 5 + 4) (.bool f) = cellsT (ts.set j ⟨a, b, c, d, f⟩)
  | [], j, h => by simp at h
  | e :: es, 0, h => by simp [cellsT, GT.cells]
  | e :: es, j + 1, h => by
    have ih := set5T a b c d f es j (by simpa using h)
    have e1 : ∀ (a : GT) l, cellsT (a :: l) = .int .i64 a.u :: .int .i64 a.v :: .int .i64 a.lo :: .int .i64 a.hi :: .bool a.fr :: cellsT l := fun _ _ => rfl
    rw [show (j + 1) * 5 = j * 5 + 1 + 1 + 1 + 1 + 1 from by omega, show j * 5 + 1 + 1 + 1 + 1 + 1 + 1 = (j * 5 + 1) + 1 + 1 + 1 + 1 + 1 from rfl, show j * 5 + 1 + 1 + 1 + 1 + 1 + 2 = (j * 5 + 2) + 1 + 1 + 1 + 1 + 1 from by omega, show j * 5 + 1 + 1 + 1 + 1 + 1 + 3 = (j * 5 + 3) + 1 + 1 + 1 + 1 + 1 from by omega, show j * 5 + 1 + 1 + 1 + 1 + 1 + 4 = (j * 5 + 4) + 1 + 1 + 1 + 1 + 1 from by omega, List.set_cons_succ, e1, e1]
    simp only [List.set_cons_succ]
    rw [ih]

theorem tkJ_cells (ts : List GT) (k : Nat) {j p : Nat} (hj : j < (tkJ ts k j).length) (hp : p = k + 5 * j) :
    cellsT (tkJ ts k (j + 1)) = (((((cellsT (tkJ ts k j)).set (j * 5) (.int .i64 (p : Int))).set (j * 5 + 1) (.int .i64 ((p : Int) + 1))).set (j * 5 + 2) (.int .i64 ((p : Int) + 2))).set (j * 5 + 3) (.int .i64 ((p : Int) + 3))).set (j * 5 + 4) (.bool (((p : Int) + 4) % 3 == 0)) := by
  rw [set5T (p : Int) ((p : Int) + 1) ((p : Int) + 2) ((p : Int) + 3) (((p : Int) + 4) % 3 == 0) (tkJ ts k j) j hj]
  have h1 : tkJ ts k (j + 1) = (tkJ ts k j).set j (markT (k + 5 * j)) := rfl
  rw [h1, ← hp]
  unfold markT
  exact Eq.refl _
theorem wrap_five (p : Nat) (h : p + 5 ≤ 1099511627776) : IntKind.i64.wrap ((p : Int) + 1) = (p : Int) + 1 ∧ IntKind.i64.wrap ((p : Int) + 1 + 1) = (p : Int) + 2 ∧ IntKind.i64.wrap ((p : Int) + 2 + 1) = (p : Int) + 3 ∧ IntKind.i64.wrap ((p : Int) + 3 + 1) = (p : Int) + 4 ∧ IntKind.i64.wrap ((p : Int) + 4 + 1) = (p : Int) + 5 := by
  have one : ∀ x : Int, 0 ≤ x → x ≤ 1099511627776 → IntKind.i64.wrap x = x := fun x h1 h2 => (IntWalk.i64_left _).trans (IntWalk.wrap64_in _ ⟨by omega, by omega⟩)
  refine ⟨one _ (by omega) (by omega), (one _ (by omega) (by omega)).trans (by omega), (one _ (by omega) (by omega)).trans (by omega), (one _ (by omega) (by omega)).trans (by omega), (one _ (by omega) (by omega)).trans (by omega)⟩
theorem grown_setN {w w' : World} {b : Nat} (h : w.grownBy w' (some b)) (q : Nat) (u : Value) : w.grownBy (w'.setCell ⟨b, q, none⟩ u) (some b) :=
  have g := grown_setZ w' ⟨b, q, none⟩ u
  ⟨g.os.trans h.os, g.tape.trans h.tape, g.output.trans h.output, Nat.le_trans h.size g.size, fun k hk hx => (g.block k (Nat.lt_of_lt_of_le hk h.size) hx).trans (h.block k hk hx)⟩

set_option maxRecDepth 100000 in
set_option maxHeartbeats 8000000 in
theorem markTieS_any (ts : List GT) (A : Option Addr) (n c lo k : Nat) (w : World) (hn : ts.length = n) (hb : k + 5 * n ≤ 1099511627776) (h : w.ownsRow lo 42 5 (.slice A n c) n (cellsT ts)) :
    Calls Tryz.prog 23 #[.slice A n c, .int .i64 k] w fun x w' => x = .returned (.int .i64 ((k + 5 * n : Nat) : Int)) ∧ w'.ownsRow lo 42 5 (.slice A n c) n (cellsT (tkJ ts k n)) ∧ w.grownBy w' (Value.slice A n c).ownBlock := by
  have HO := Lib.hid h
  have HN := Lib.hid hn
  clear h hn
  go_enter Tryz.func23, Tryz.ntmps23
  go_wp2_with fail
  go_loopw [5, 1] (fun i q wr => ∃ (j p : Nat), j ≤ n ∧ i = .int .i64 j ∧ q = .int .i64 p ∧ p = k + 5 * j ∧ wr.ownsRow lo 42 5 (.slice A n c) n (cellsT (tkJ ts k j)) ∧ w.grownBy wr (Value.slice A n c).ownBlock) (fun i _ _ => n - (intOf i).toNat)
  case atStart => exact ⟨0, k, Nat.zero_le _, rfl, rfl, rfl, HO.out, ⟨rfl, rfl, rfl, Nat.le_refl _, fun _ _ _ => rfl⟩⟩
  case round =>
    obtain ⟨j, p, hj, rfl, rfl, hp, hown, hgr⟩ := hrel
    have HP := Lib.hid hp
    have HGR := Lib.hid hgr
    by_cases hlt : j < n
    · have hjl : j < (tkJ ts k j).length := by rw [tkJ_len]; have := HN.out; omega
      obtain ⟨g, cap, hA, hlog, hg⟩ := hown.form (by omega)
      injection hA with hA1 hA2 hA3
      subst hA1
      clear hA2 hA3
      have hl5 : (cellsT (tkJ ts k j)).length = n * 5 := hown.1
      obtain ⟨y0, hy0⟩ : ∃ y, wr.cell? ⟨g, j * 5, none⟩ = some y := ⟨_, (hown.cellAt (j * 5) (by omega)).trans (List.getElem?_eq_getElem (by omega))⟩
      obtain ⟨y1, hy1⟩ : ∃ y, wr.cell? ⟨g, j * 5 + 1, none⟩ = some y := ⟨_, (hown.cellAt (j * 5 + 1) (by omega)).trans (List.getElem?_eq_getElem (by omega))⟩
      obtain ⟨y2, hy2⟩ : ∃ y, wr.cell? ⟨g, j * 5 + 2, none⟩ = some y := ⟨_, (hown.cellAt (j * 5 + 2) (by omega)).trans (List.getElem?_eq_getElem (by omega))⟩
      obtain ⟨y3, hy3⟩ : ∃ y, wr.cell? ⟨g, j * 5 + 3, none⟩ = some y := ⟨_, (hown.cellAt (j * 5 + 3) (by omega)).trans (List.getElem?_eq_getElem (by omega))⟩
      obtain ⟨y4, hy4⟩ : ∃ y, wr.cell? ⟨g, j * 5 + 4, none⟩ = some y := ⟨_, (hown.cellAt (j * 5 + 4) (by omega)).trans (List.getElem?_eq_getElem (by omega))⟩
      have f0 := hown.frozenAt (j * 5)
      have f1 := hown.frozenAt (j * 5 + 1)
      have f2 := hown.frozenAt (j * 5 + 2)
      have f3 := hown.frozenAt (j * 5 + 3)
      have f4 := hown.frozenAt (j * 5 + 4)
      have HST := Lib.hid (((((hown.stored (j * 5) (.int .i64 (p : Int))).1.stored (j * 5 + 1) (.int .i64 ((p : Int) + 1))).1.stored (j * 5 + 2) (.int .i64 ((p : Int) + 2))).1.stored (j * 5 + 3) (.int .i64 ((p : Int) + 3))).1.stored (j * 5 + 4) (.bool (((p : Int) + 4) % 3 == 0))).1
      have HNX := Lib.hid (tkJ_cells ts k hjl hp)
      have hpb : p + 5 ≤ 1099511627776 := by omega
      have hcc := wrap_five p hpb
      obtain ⟨hc1, hc2, hc3, hc4, hc5⟩ := hcc
      have hj3 : ((j : Int) < (n : Int)) := by omega
      clear hown hgr hl5 hp
      have hj5 : j * 5 + 5 ≤ n * 5 := by omega
      go_wp2_with fail
      clear hc1 hc2 hc3 hc4 hc5
      go_roundw
      case rel =>
        refine ⟨j + 1, p + 5, by omega, by go_num, by first | rfl | (congr 1; omega), by have := HP.out; omega, ?_, ?_⟩
        · rw [HNX.out]
          exact HST.out
        · exact grown_setN (grown_setN (grown_setN (grown_setN (grown_setN HGR.out _ _) _ _) _ _) _ _) _ _
      case measure => simp [intOf]; omega
    · go_wp2_with fail
      go_ret
      obtain rfl : j = n := by omega
      exact ⟨by first | (rw [HP.out]; done) | (have := HP.out; simp; omega) | (have := HP.out; omega), hown, hgr⟩

/-- A marked show, from k on. -/
def mkS (s : GS) (zs : List NL) (k : Nat) : GS := ⟨nodesZ (mkJ zs k zs.length), tkJ s.ts (k + 2 * zs.length + slJ (nodesZ zs) zs.length) s.ts.length, s.h⟩

set_option maxRecDepth 100000 in
set_option maxHeartbeats 8000000 in
theorem markShow_any (s : GS) (A : Option Addr) (k c : Nat) (B : Option Addr) (m d : Nat) (zs : List NL) (lo hi p : Nat) (w : World) (hp : 0 < p) (hb : ShB s) (hpb : p ≤ 1000000) (ho : OwnS w lo hi s A k c B m d zs) (hhi : hi ≤ w.heap.size) (hlo : lo ≤ w.heap.size) :
    Calls Tryz.prog 7 #[shV A k c B m d s.h, .int .i64 p] w fun x w' => x = .returned (.int .i64 ((p + 2 * k + slJ s.ns k + 5 * m : Nat) : Int)) ∧ OwnS w' lo hi (mkS s zs p) A k c B m d (mkJ zs p k) ∧ Within lo hi w w' := by
  have hzl : zs.length = k := by have := ho.es; have := ho.ln; rw [← ho.es] at this; simpa [nodesZ] using this
  have hsum : slJ s.ns k ≤ 1048576 := by have := hb.sum; rwa [ho.ln] at this
  have hkk : k ≤ 1048576 := by have := hb.ns; have := ho.ln; omega
  have hmm : m ≤ 1048576 := by have := hb.ts; have := ho.lt; omega
  have HN := Lib.hid (fun W h h2 => markNodeS_any zs A k c lo hi p W hp hzl (by rw [ho.es]; omega) h h2)
  rw [ho.es] at HN
  have HT := Lib.hid (fun W h => markTieS_any s.ts B m d lo (p + 2 * k + slJ s.ns k) W ho.lt (by omega) h)
  have HO := Lib.hid ho
  have HZL := Lib.hid hzl
  clear ho hb hzl
  obtain ⟨h, hh⟩ : ∃ h, h = s.h := ⟨_, rfl⟩
  rw [← hh]
  have HH := Lib.hid hh
  clear hh
  obtain ⟨q, hq⟩ : ∃ q, q = p + 2 * k + slJ s.ns k := ⟨_, rfl⟩
  rw [← hq] at HN HT ⊢
  have HQ := Lib.hid hq
  clear hq
  unfold shV
  obtain ⟨wa, hwa⟩ : ∃ W, W = w.alloc (.cells #[.slice A k c, .slice B m d, .int .i64 h] 25) := ⟨_, rfl⟩
  have ba : Below w.heap.size w wa := by rw [hwa]; exact (Below.refl _ _).alloc (Nat.le_refl _) _
  have za : w.heap.size < wa.heap.size := by rw [hwa]; simp
  have c1 : wa.cell? ⟨w.heap.size, 1, none⟩ = some (.slice B m d) := by rw [hwa]; go_simp
  have HWA := Lib.hid hwa
  have OA := Lib.hid (HO.out.below ba)
  have BA := Lib.hid ba
  clear hwa ba
  go_enter Tryz.func7, Tryz.ntmps7
  go_wp2_with fail
  rw [← HWA.out]
  refine (HN.out wa OA.out.nodes (by omega)).mono ?_
  rintro x w2 ⟨rfl, h2, wi2⟩
  have c2 : w2.cell? ⟨w.heap.size, 1, none⟩ = some (.slice B m d) := (World.cell?_of_block (a := ⟨w.heap.size, 1, none⟩) (wi2.block w.heap.size za ⟨fun e => by have := OA.out.nodes.le _ e; omega, fun z hz e => by have := (OA.out.nodes.sep z hz _ e).2; omega⟩)).trans c1
  have ht2 := wi2.own OA.out.ties (fun b hb => ⟨(OA.out.tsep b hb).1, (OA.out.tsep b hb).2.1⟩)
  have z2 := wi2.size
  have H2 := Lib.hid h2
  have HT2 := Lib.hid (HT.out w2 ht2)
  have WI := Lib.hid wi2
  clear h2 wi2 ht2 c1 za
  go_wp2_with fail
  refine HT2.out.mono ?_
  rintro x w3 ⟨rfl, h3, g3⟩
  have HTO := Lib.hid h3
  have G3 := Lib.hid g3
  clear h3 g3
  go_wp2_with fail
  go_ret
  refine ⟨rfl, ⟨?_, ?_, ?_, ?_, ?_, ?_⟩, ?_⟩
  · unfold mkS; rw [HZL.out]
  · unfold mkS nodesZ; rw [List.length_map, mkJ_len, HZL.out]
  · unfold mkS; rw [tkJ_len]; exact HO.out.lt
  · refine ⟨?_, ?_, H2.out.sep, H2.out.dist, H2.out.le⟩
    · exact H2.out.row.kept G3.out (by
        cases hb : (Value.slice A k c).ownBlock with
        | none => exact .inl rfl
        | some b => exact .inr fun e => (HO.out.tsep b e.symm).1 hb)
    · intro z hz
      refine (H2.out.lab z hz).kept G3.out ?_
      cases hb : z.V.ownBlock with
      | none => exact .inl rfl
      | some b =>
        refine .inr fun e => ?_
        obtain ⟨i, hi, rfl⟩ := List.getElem_of_mem hz
        have hi2 : i < zs.length := by rw [mkJ_len] at hi; exact hi
        exact (HO.out.tsep b e.symm).2.1 zs[i] (List.getElem_mem _) (by rw [← mkJ_V zs p k i hi2]; exact hb)
  · unfold mkS; rw [HZL.out, HO.out.es, ← HQ.out, HO.out.lt]; exact HTO.out
  · exact fun b hb => ⟨(HO.out.tsep b hb).1, fun z hz h => by
      obtain ⟨i, hi, rfl⟩ := List.getElem_of_mem hz
      have hi2 : i < zs.length := by rw [mkJ_len] at hi; exact hi
      exact (HO.out.tsep b hb).2.1 zs[i] (List.getElem_mem _) (by rw [← mkJ_V zs p k i hi2]; exact h), (HO.out.tsep b hb).2.2⟩
  · have h1 : Keep (fun k => k < lo ∨ hi ≤ k) w wa := Keep.of_below BA.out
    have h2 : Keep (fun k => k < lo ∨ hi ≤ k) wa w2 := WI.out.mono (fun b hb => ⟨fun e => by
      have a1 := (HO.out.nodes.row.lt b e).1
      have a2 := HO.out.nodes.le b e
      omega, fun z hz e => by
      have a1 := ((HO.out.nodes.lab z hz).lt b e).1
      have a2 := (HO.out.nodes.sep z hz b e).2
      omega⟩)
    have h3 : Keep (fun k => k < lo ∨ hi ≤ k) w2 w3 := Keep.grown G3.out (fun b hb hx => by
      have a1 := (HO.out.ties.lt b hb).1
      have a2 := (HO.out.tsep b hb).2.2
      omega)
    exact ((h1.trans h2).trans h3).within

end Go.Proofs.YtgajodcgedhikaaGreatDoor

namespace Go.Proofs.YtgajodcgedhikaaGreatDoor
open Go.RowKit
set_option linter.unusedVariables false
set_option linter.unusedSimpArgs false

/-- A literal. -/
def litB (x : Int) : Bool := decide (x ≠ 0) && (decide (-3 ≤ x) && decide (x ≤ 3))
def absI (x : Int) : Int := if x < 0 then -x else x
theorem litB_of {x : Int} (h : litB x = true) : x ≠ 0 ∧ -3 ≤ x ∧ x ≤ 3 := by
  unfold litB at h
  rw [Bool.and_eq_true, Bool.and_eq_true] at h
  exact ⟨of_decide_eq_true h.1, of_decide_eq_true h.2.1, of_decide_eq_true h.2.2⟩
theorem litB_abs {x : Int} (h : litB x = true) : 1 ≤ absI x ∧ absI x ≤ 3 := by
  have := litB_of h
  unfold absI; split <;> omega
/-- The element is a literal, its proposition above that of the one before it. -/
def labS (l : List Int) (j : Nat) (x : Int) : Bool := litB x && (decide (j = 0) || decide (absI (l[j - 1]?.getD 0) < absI x))
def labJ (l : List Int) : Nat → Bool
  | 0 => true
  | j + 1 => labJ l j && labS l j (l[j]?.getD 0)
def labR (l : List Int) : Bool := labJ l l.length
theorem labJ_no {l : List Int} {j : Nat} (h : labJ l j = false) : ∀ {m : Nat}, j ≤ m → labJ l m = false
  | 0, hm => by obtain rfl : j = 0 := by omega
                exact h
  | m + 1, hm => by
    by_cases e : j = m + 1
    · subst e; exact h
    · unfold labJ; rw [labJ_no h (show j ≤ m by omega), Bool.false_and]
theorem labJ_next {l : List Int} {j : Nat} : labJ l (j + 1) = (labJ l j && labS l j (l[j]?.getD 0)) := rfl
theorem labJ_lit {l : List Int} : ∀ {m j : Nat}, labJ l m = true → j < m → litB (l[j]?.getD 0) = true
  | 0, j, _, h => by omega
  | m + 1, j, h, hj => by
    unfold labJ at h
    rw [Bool.and_eq_true] at h
    by_cases e : j = m
    · subst e; unfold labS at h; rw [Bool.and_eq_true] at h; exact h.2.1
    · exact labJ_lit h.1 (by omega)
theorem labJ_asc {l : List Int} : ∀ {m j : Nat}, labJ l m = true → j < m → (j : Int) + 1 ≤ absI (l[j]?.getD 0)
  | 0, j, _, h => by omega
  | m + 1, j, h, hj => by
    have hl := labJ_lit h hj
    have hab := litB_abs hl
    unfold labJ at h
    rw [Bool.and_eq_true] at h
    by_cases e : j = m
    · subst e
      rcases Nat.eq_zero_or_pos j with h0 | h0
      · subst h0; omega
      · have hs := h.2
        unfold labS at hs
        rw [Bool.and_eq_true, Bool.or_eq_true, decide_eq_true_eq, decide_eq_true_eq] at hs
        have := labJ_asc h.1 (show j - 1 < j by omega)
        rcases hs.2 with h1 | h1
        · omega
        · omega
    · exact labJ_asc h.1 (by omega)
theorem labR_len {l : List Int} (h : labR l = true) : l.length ≤ 3 := by
  unfold labR at h
  rcases Nat.eq_zero_or_pos l.length with h0 | h0
  · omega
  · have a := labJ_asc h (show l.length - 1 < l.length by omega)
    have b := (litB_abs (labJ_lit h (show l.length - 1 < l.length by omega))).2
    omega
theorem labR_lit {l : List Int} (h : labR l = true) {x : Int} (hx : x ∈ l) : litB x = true := by
  obtain ⟨j, hj, rfl⟩ := List.getElem_of_mem hx
  have := labJ_lit h hj
  rwa [List.getElem?_eq_getElem hj] at this
def valB (x : Int) : Bool := decide (-1 ≤ x) && decide (x ≤ 1)
def valR (v : List Int) : Bool := v.all valB && decide (v.length = 3)
theorem valR_ok {v : List Int} (h : valR v = true) : v.length = 3 ∧ ∀ x ∈ v, -1 ≤ x ∧ x ≤ 1 := by
  unfold valR at h
  rw [Bool.and_eq_true, List.all_eq_true] at h
  refine ⟨of_decide_eq_true h.2, fun x hx => ?_⟩
  have := h.1 x hx
  unfold valB at this
  rw [Bool.and_eq_true] at this
  exact ⟨of_decide_eq_true this.1, of_decide_eq_true this.2⟩
theorem allV_take_of (v : List Int) (k : Nat) (h : k < v.length) (ha : (v.take k).all valB = true) (hp : valB v[k] = true) : (v.take (k + 1)).all valB = true := by
  rw [List.take_add_one, List.getElem?_eq_getElem h, List.all_append, ha]; simpa using hp
theorem valR_not {v : List Int} {k : Nat} (h : k < v.length) (hp : valB v[k] = false) : valR v = false := by
  have : v.all valB = false := by rw [List.all_eq_false]; exact ⟨v[k], List.getElem_mem _, by simp [hp]⟩
  unfold valR; rw [this, Bool.false_and]
theorem valR_all {v : List Int} (ha : (v.take v.length).all valB = true) : valR v = decide (v.length = 3) := by
  rw [List.take_of_length_le (Nat.le_refl _)] at ha
  unfold valR; rw [ha, Bool.true_and]
/-- The state of a literal under values. -/
def litV (v : List Int) (x : Int) : Int := if x < 0 then -(v[(absI x - 1).toNat]?.getD 0) else v[(absI x - 1).toNat]?.getD 0
def stJ (l v : List Int) : Nat → Int
  | 0 => 1
  | j + 1 => min (stJ l v j) (litV v (l[j]?.getD 0))
def stR (l v : List Int) : Int := if labR l && valR v then stJ l v l.length else -1
theorem litV_rng {v : List Int} (h : valR v = true) {x : Int} (hx : litB x = true) : -1 ≤ litV v x ∧ litV v x ≤ 1 := by
  obtain ⟨h1, h2⟩ := valR_ok h
  have hab := litB_abs hx
  have hm : ∃ y, v[(absI x - 1).toNat]? = some y ∧ y ∈ v := ⟨_, List.getElem?_eq_getElem (by omega), List.getElem_mem _⟩
  obtain ⟨y, hy, hym⟩ := hm
  have := h2 y hym
  unfold litV
  rw [hy]
  simp only [Option.getD_some]
  split <;> omega
theorem stJ_rng {l v : List Int} (hv : valR v = true) : ∀ {j : Nat}, labJ l j = true → -1 ≤ stJ l v j ∧ stJ l v j ≤ 1
  | 0, _ => by simp [stJ]
  | j + 1, h => by
    have hl := labJ_lit h (show j < j + 1 by omega)
    have hr := litV_rng hv hl
    unfold labJ at h
    rw [Bool.and_eq_true] at h
    have := stJ_rng hv h.1
    unfold stJ
    omega
def hasR (l : List Int) (n : Int) : Bool := l.any (fun x => decide (x = n))
theorem hasR_at {l : List Int} {n : Int} {j : Nat} (hj : j < l.length) (h : l[j] = n) : hasR l n = true := by
  unfold hasR; rw [List.any_eq_true]; exact ⟨l[j], List.getElem_mem _, by simp [h]⟩
theorem hasR_none {l : List Int} {n : Int} (h : (l.take l.length).any (fun x => decide (x = n)) = false) : hasR l n = false := by
  rw [List.take_of_length_le (Nat.le_refl _)] at h; exact h
theorem anyH_take {l : List Int} {n : Int} {j : Nat} (hj : j < l.length) (ha : (l.take j).any (fun x => decide (x = n)) = false) (hx : l[j] ≠ n) : (l.take (j + 1)).any (fun x => decide (x = n)) = false := by
  rw [List.take_add_one, List.getElem?_eq_getElem hj, List.any_append, ha]; simpa using hx
def impR (a b : List Int) : Bool := (labR a && labR b) && b.all (hasR a)
theorem allI2_take_of (a b : List Int) (k : Nat) (h : k < b.length) (ha : (b.take k).all (hasR a) = true) (hp : hasR a b[k] = true) : (b.take (k + 1)).all (hasR a) = true := by
  rw [List.take_add_one, List.getElem?_eq_getElem h, List.all_append, ha]; simpa using hp
theorem impR_not {a b : List Int} {k : Nat} (h : k < b.length) (hp : hasR a b[k] = false) : impR a b = false := by
  have : b.all (hasR a) = false := by rw [List.all_eq_false]; exact ⟨b[k], List.getElem_mem _, by simp [hp]⟩
  unfold impR; rw [this, Bool.and_false]
def woR (l : List Int) (p : Int) : List Int := l.filter (fun x => decide (x ≠ p) && decide (x ≠ IntKind.i64.wrap (-p)))
theorem wo_next {l : List Int} {p : Int} {j : Nat} {x : Int} (h : l[j]? = some x) : woR (l.take (j + 1)) p = woR (l.take j) p ++ (if x ≠ p ∧ x ≠ IntKind.i64.wrap (-p) then [x] else []) := by
  unfold woR
  rw [List.take_add_one, h, List.filter_append]
  congr 1
  by_cases e : x ≠ p ∧ x ≠ IntKind.i64.wrap (-p)
  · rw [if_pos e]; simp [e.1, e.2]
  · rw [if_neg e]
    simp
    intro h1; exact Classical.byContradiction fun h2 => e ⟨h1, h2⟩
theorem wo_len (l : List Int) (p : Int) (j : Nat) : (woR (l.take j) p).length ≤ j := by
  unfold woR
  have h1 := List.length_filter_le (fun x => decide (x ≠ p) && decide (x ≠ IntKind.i64.wrap (-p))) (l.take j)
  rw [List.length_take] at h1
  omega
def czR (v : List Int) : Int := ((v.filter (fun x => decide (x = 0))).length : Nat)
theorem cz_next {ts : List Int} {j : Nat} {x : Int} (h : ts[j]? = some x) : czR (ts.take (j + 1)) = czR (ts.take j) + (if x = 0 then 1 else 0) := by
  unfold czR
  rw [List.take_add_one, h, List.filter_append]
  by_cases e : x = 0
  · simp [e]
  · simp [e]
theorem cz_le (ts : List Int) (j : Nat) : 0 ≤ czR (ts.take j) ∧ czR (ts.take j) ≤ j := by
  unfold czR
  have h1 := List.length_filter_le (fun x : Int => decide (x = 0)) (ts.take j)
  rw [List.length_take] at h1
  omega
/-- The label that joins two. -/
def jnP (a b : List Int) (p : Nat) : Option (List Int) :=
  if hasR a p || hasR b p then (if hasR a (-(p : Int)) || hasR b (-(p : Int)) then none else some [(p : Int)]) else (if hasR a (-(p : Int)) || hasR b (-(p : Int)) then some [-(p : Int)] else some [])
def jnJ (a b : List Int) : Nat → Option (List Int)
  | 0 => some []
  | j + 1 => match jnJ a b j with | some o => (match jnP a b (j + 1) with | some q => some (o ++ q) | none => none) | none => none
def jnR (a b : List Int) : List Int × Bool := if labR a && labR b then (match jnJ a b 3 with | some o => (o, true) | none => ([], false)) else ([], false)
theorem jnJ_none {a b : List Int} {j : Nat} (h : jnJ a b j = none) : ∀ {m : Nat}, j ≤ m → jnJ a b m = none
  | 0, hm => by obtain rfl : j = 0 := by omega
                exact h
  | m + 1, hm => by
    by_cases e : j = m + 1
    · subst e; exact h
    · unfold jnJ; rw [jnJ_none h (show j ≤ m by omega)]
theorem jnP_len {a b : List Int} {p : Nat} {q : List Int} (h : jnP a b p = some q) : q.length ≤ 1 := by
  unfold jnP at h
  split at h <;> split at h <;> first | (injection h with h; subst h; simp) | cases h
theorem jnJ_len {a b : List Int} : ∀ {j : Nat} {o : List Int}, jnJ a b j = some o → o.length ≤ j
  | 0, o, h => by unfold jnJ at h; injection h with h; subst h; simp
  | j + 1, o, h => by
    unfold jnJ at h
    split at h
    · next o1 h1 =>
      split at h
      · next q hq =>
        injection h with h
        subst h
        have := jnJ_len h1
        have := jnP_len hq
        rw [List.length_append]; omega
      · cases h
    · cases h
theorem jnR_len (a b : List Int) : (jnR a b).1.length ≤ 3 := by
  unfold jnR
  split
  · split
    · next o ho => exact jnJ_len ho
    · simp
  · simp

end Go.Proofs.YtgajodcgedhikaaGreatDoor
