/-
  WALKS of the laws' comparisons of shows: eqNode, eqNodeS, eqTie, eqTieS, eqShow.
  PLAIN: labels and values.
  PLAIN: what makes a show valid; its watchers, its free ties, its chosen nodes; equal shows.
  WALKS of eqGraph, hasNode, spec.GraphOk and impl.GraphOk: a graph that is one.
  WALKS of spec.l07Prop, spec.LabelOk, spec.ValuesOk, spec.CountValues, spec.l07Has, spec.ImpliesLabel.
  WALK of spec.FormatInt: the numeral that strconv.Itoa gives.
-/
import Derived.Test.YtgajodcgedhikaaDoorBdShO
import Derived.Test.YtgajodcgedhikaaDoorBdDig
import Derived.Test.YtgajodcgedhikaaDoorBdIvOk
import Derived.Deep.RegionHeld3
import Derived.Test.YtgajodcgedhikaaDoorProg
import Derived.Lib.ItoaNum
import Derived.Lib.ItoaMem
import Derived.Lib.ItoaLen
namespace Go.Proofs.YtgajodcgedhikaaDoor
open Go.RowKit
set_option linter.unusedVariables false
set_option linter.unusedSimpArgs false

set_option maxRecDepth 100000 in
set_option maxHeartbeats 4000000 in
theorem eqNode_same (e : GN) (L M : Option Addr) (c d k : Nat) (w : World) (hk : e.lab.length = k) (hm : k ≤ 1048576) (hr : RowAt w L (e.lab.map intV)) (hr2 : RowAt w M (e.lab.map intV)) :
    Calls Tryd.prog 42 #[.agg #[.string e.name, .slice L k c, .int .i64 e.wat], .agg #[.string e.name, .slice M k d, .int .i64 e.wat]] w fun x w' => x = .returned (.bool true) ∧ Below w.heap.size w w' := by
  obtain ⟨nm, lab, wat⟩ := e
  dsimp only at hk hr hr2 ⊢
  have HC := Lib.hid (fun W h1 h2 => eqIntS_same lab L M k c d W hk (by unfold maxLen; omega) h1 h2)
  have HR := Lib.hid hr
  have HR2 := Lib.hid hr2
  clear hr hr2 hk
  have h2 : ((wat : Int) != wat) = false := by simp
  go_enter Tryd.func42, Tryd.ntmps42
  go_wp2_with fail
  refine (HC.out _ (HR.out.below (by repeat (first | exact Below.refl _ _ | refine below_step (by assumption) (by first | omega | (simp; done) | (simp; omega)) ?_ | refine below_drewN ?_ _ | refine Below.drew ?_ | refine Below.setCell ?_ (by first | omega | (simp; done) | (simp; omega)) _ | refine Below.alloc ?_ (by first | omega | (simp; done) | (simp; omega)) _))) (HR2.out.below (by repeat (first | exact Below.refl _ _ | refine below_step (by assumption) (by first | omega | (simp; done) | (simp; omega)) ?_ | refine below_drewN ?_ _ | refine Below.drew ?_ | refine Below.setCell ?_ (by first | omega | (simp; done) | (simp; omega)) _ | refine Below.alloc ?_ (by first | omega | (simp; done) | (simp; omega)) _)))).mono ?_
  rintro x w1 ⟨rfl, r1, rfl⟩
  go_wp2_with fail
  go_ret
  exact ⟨rfl, (by repeat (first | exact Below.refl _ _ | refine below_step (by assumption) (by first | omega | (simp; done) | (simp; omega)) ?_ | refine below_drewN ?_ _ | refine Below.drew ?_ | refine Below.setCell ?_ (by first | omega | (simp; done) | (simp; omega)) _ | refine Below.alloc ?_ (by first | omega | (simp; done) | (simp; omega)) _))⟩

set_option maxRecDepth 100000 in
set_option maxHeartbeats 4000000 in
theorem eqTie_any (e : GT) (w : World) :
    Calls Tryd.prog 43 #[e.val, e.val] w fun x w' => x = .returned (.bool true) ∧ Below w.heap.size w w' := by
  obtain ⟨u, v, lo, hi, fr⟩ := e
  unfold GT.val
  have h1 : ((u : Int) != u) = false := by simp
  have h2 : ((v : Int) != v) = false := by simp
  have h3 : ((lo : Int) != lo) = false := by simp
  have h4 : ((hi : Int) != hi) = false := by simp
  have h5 : ((fr : Bool) != fr) = false := by simp
  go_enter Tryd.func43, Tryd.ntmps43
  go_wp2_with fail
  go_ret
  exact ⟨rfl, (by repeat (first | exact Below.refl _ _ | refine below_step (by assumption) (by first | omega | (simp; done) | (simp; omega)) ?_ | refine below_drewN ?_ _ | refine Below.drew ?_ | refine Below.setCell ?_ (by first | omega | (simp; done) | (simp; omega)) _ | refine Below.alloc ?_ (by first | omega | (simp; done) | (simp; omega)) _))⟩

set_option maxRecDepth 100000 in
set_option maxHeartbeats 4000000 in
theorem eqNodeS_same (ns : List GN) (A B : Option Addr) (n ca cb : Nat) (w : World) (hn : ns.length = n) (hm : n ≤ 1048576) (hl : ∀ e ∈ ns, e.lab.length ≤ 1048576) (ha : NodesAt w A ns) (hb : NodesAt w B ns) :
    Calls Tryd.prog 26 #[.slice A n ca, .slice B n cb] w fun e w' => e = .returned (.bool true) ∧ Below w.heap.size w w' := by
  have HA := Lib.hid ha
  have HB := Lib.hid hb
  have HL := Lib.hid hn
  have HLL := Lib.hid hl
  clear ha hb hn hl
  have hne : ((n : Int) != (n : Int)) = false := by simp
  go_enter Tryd.func26, Tryd.ntmps26
  go_wp2_with fail
  go_loopw [5] (fun i wr => ∃ k : Nat, k ≤ n ∧ i = .int .i64 k ∧ Below w.heap.size w wr) (fun i _ => n - (intOf i).toNat)
  case atStart => exact ⟨0, Nat.zero_le _, rfl, Below.refl _ _⟩
  case round =>
    obtain ⟨k, hk, rfl, hbw⟩ := hrel
    by_cases hlt : k < n
    · have hl := HL.out
      obtain ⟨g, o, rfl, hg, hc⟩ := HA.out (by omega)
      obtain ⟨g', o', rfl, hg', hc'⟩ := HB.out (by omega)
      have hc1 := hc k (by omega)
      have hd1 := hc' k (by omega)
      have hl1 := HLL.out ns[k] (List.getElem_mem _)
      obtain ⟨e, he⟩ : ∃ e, e = ns[k]'(by omega) := ⟨_, rfl⟩
      rw [← he] at hc1 hd1 hl1
      obtain ⟨c0, c2, L, cl, c1, hrow⟩ := hc1
      obtain ⟨d0, d2, M, dl, d1, hrow2⟩ := hd1
      obtain ⟨q, hq⟩ : ∃ q, q = e.lab.length := ⟨_, rfl⟩
      rw [← hq] at c1 d1 hl1
      have k0 := (hbw.cell (p := ⟨g, o + k * 3, none⟩) hg).trans c0
      have k1 := (hbw.cell (p := ⟨g, o + k * 3 + 1, none⟩) hg).trans c1
      have k2 := (hbw.cell (p := ⟨g, o + k * 3 + 2, none⟩) hg).trans c2
      have l0 := (hbw.cell (p := ⟨g', o' + k * 3, none⟩) hg').trans d0
      have l1 := (hbw.cell (p := ⟨g', o' + k * 3 + 1, none⟩) hg').trans d1
      have l2 := (hbw.cell (p := ⟨g', o' + k * 3 + 2, none⟩) hg').trans d2
      have HRA := Lib.hid (hrow.below hbw)
      have HRB := Lib.hid (hrow2.below hbw)
      have HQ := Lib.hid (fun W h1 h2 => eqNode_same e L M cl dl q W hq.symm hl1 h1 h2)
      clear hc hc' c0 c1 c2 d0 d1 d2 he hl hq hrow hrow2 hl1
      go_wp2_with fail
      go_region_with (go_at_call 42; refine (HQ.out _ (HRA.out.below (by repeat (first | exact Below.refl _ _ | refine below_step (by assumption) (by first | omega | (simp; done) | (simp; omega)) ?_ | refine below_drewN ?_ _ | refine Below.drew ?_ | refine Below.setCell ?_ (by first | omega | (simp; done) | (simp; omega)) _ | refine Below.alloc ?_ (by first | omega | (simp; done) | (simp; omega)) _))) (HRB.out.below (by repeat (first | exact Below.refl _ _ | refine below_step (by assumption) (by first | omega | (simp; done) | (simp; omega)) ?_ | refine below_drewN ?_ _ | refine Below.drew ?_ | refine Below.setCell ?_ (by first | omega | (simp; done) | (simp; omega)) _ | refine Below.alloc ?_ (by first | omega | (simp; done) | (simp; omega)) _)))).mono ?_; rintro x w2 ⟨rfl, b2⟩)
      all_goals
        have hbw2 : Below w.heap.size w w2 := hbw.drew.trans (Below.mono b2 hbw.size)
        go_wp2_with fail
        go_roundw
        case rel => exact ⟨k + 1, by omega, by go_num, hbw2⟩
        case measure => simp [intOf]; omega
    · go_wp2_with fail
      go_ret
      exact ⟨rfl, hbw⟩

set_option maxRecDepth 100000 in
set_option maxHeartbeats 4000000 in
theorem eqTieS_same (es : List GT) (A B : Option Addr) (n ca cb : Nat) (w : World) (hn : es.length = n) (hm : n ≤ 1048576) (ha : TieAt w A es) (hb : TieAt w B es) :
    Calls Tryd.prog 27 #[.slice A n ca, .slice B n cb] w fun e w' => e = .returned (.bool true) ∧ Below w.heap.size w w' := by
  have HA := Lib.hid ha
  have HB := Lib.hid hb
  have HL := Lib.hid hn
  clear ha hb hn
  have hne : ((n : Int) != (n : Int)) = false := by simp
  go_enter Tryd.func27, Tryd.ntmps27
  go_wp2_with fail
  go_loopw [5] (fun i wr => ∃ k : Nat, k ≤ n ∧ i = .int .i64 k ∧ Below w.heap.size w wr) (fun i _ => n - (intOf i).toNat)
  case atStart => exact ⟨0, Nat.zero_le _, rfl, Below.refl _ _⟩
  case round =>
    obtain ⟨k, hk, rfl, hbw⟩ := hrel
    by_cases hlt : k < n
    · have hl := HL.out
      obtain ⟨g, o, rfl, hg, hc⟩ := HA.out (by omega)
      obtain ⟨g', o', rfl, hg', hc'⟩ := HB.out (by omega)
      have hc1 := hc k (by omega)
      have hd1 := hc' k (by omega)
      obtain ⟨e, he⟩ : ∃ e, e = es[k]'(by omega) := ⟨_, rfl⟩
      rw [← he] at hc1 hd1
      obtain ⟨c0, c1, c2, c3, c4⟩ := hc1
      obtain ⟨d0, d1, d2, d3, d4⟩ := hd1
      have k0 := (hbw.cell (p := ⟨g, o + k * 5, none⟩) hg).trans c0
      have k1 := (hbw.cell (p := ⟨g, o + k * 5 + 1, none⟩) hg).trans c1
      have k2 := (hbw.cell (p := ⟨g, o + k * 5 + 2, none⟩) hg).trans c2
      have k3 := (hbw.cell (p := ⟨g, o + k * 5 + 3, none⟩) hg).trans c3
      have k4 := (hbw.cell (p := ⟨g, o + k * 5 + 4, none⟩) hg).trans c4
      have l0 := (hbw.cell (p := ⟨g', o' + k * 5, none⟩) hg').trans d0
      have l1 := (hbw.cell (p := ⟨g', o' + k * 5 + 1, none⟩) hg').trans d1
      have l2 := (hbw.cell (p := ⟨g', o' + k * 5 + 2, none⟩) hg').trans d2
      have l3 := (hbw.cell (p := ⟨g', o' + k * 5 + 3, none⟩) hg').trans d3
      have l4 := (hbw.cell (p := ⟨g', o' + k * 5 + 4, none⟩) hg').trans d4
      have hq := eqTie_any e
      unfold GT.val at hq
      have HQ := Lib.hid hq
      clear hc hc' c0 c1 c2 c3 c4 d0 d1 d2 d3 d4 he hl hq
      go_wp2_with fail
      go_region_with (go_at_call 43; refine (HQ.out _).mono ?_; rintro x w2 ⟨rfl, b2⟩)
      all_goals
        have hbw2 : Below w.heap.size w w2 := hbw.drew.trans (Below.mono b2 hbw.size)
        go_wp2_with fail
        go_roundw
        case rel => exact ⟨k + 1, by omega, by go_num, hbw2⟩
        case measure => simp [intOf]; omega
    · go_wp2_with fail
      go_ret
      exact ⟨rfl, hbw⟩

set_option maxRecDepth 100000 in
set_option maxHeartbeats 4000000 in
theorem eqShow_same (s : GS) (A : Option Addr) (k c : Nat) (B : Option Addr) (m d : Nat) (A2 : Option Addr) (c2 : Nat) (B2 : Option Addr) (d2 : Nat) (w : World) (hs : ShB s) (ha : ShowAt w s A k B m) (hb : ShowAt w s A2 k B2 m) :
    Calls Tryd.prog 10 #[shV A k c B m d s.h, shV A2 k c2 B2 m d2 s.h] w fun x w' => x = .returned (.bool true) ∧ Below w.heap.size w w' := by
  have HN := Lib.hid (fun W h h2 => eqNodeS_same s.ns A A2 k c c2 W ha.ln (by have := hs.ns; have := ha.ln; omega) (fun e he => (hs.each e he).2) h h2)
  have HT := Lib.hid (fun W h h2 => eqTieS_same s.ts B B2 m d d2 W ha.lt (by have := hs.ts; have := ha.lt; omega) h h2)
  have HA := Lib.hid ha
  have HB := Lib.hid hb
  clear ha hb hs
  obtain ⟨h, hh⟩ : ∃ h, h = s.h := ⟨_, rfl⟩
  rw [← hh]
  clear hh
  have hne : ((h : Int) != h) = false := by simp
  unfold shV
  go_enter Tryd.func10, Tryd.ntmps10
  go_wp2_with fail
  refine (HN.out _ (HA.out.nodes.below (by repeat (first | exact Below.refl _ _ | refine below_step (by assumption) (by first | omega | (simp; done) | (simp; omega)) ?_ | refine below_drewN ?_ _ | refine Below.drew ?_ | refine Below.setCell ?_ (by first | omega | (simp; done) | (simp; omega)) _ | refine Below.alloc ?_ (by first | omega | (simp; done) | (simp; omega)) _))) (HB.out.nodes.below (by repeat (first | exact Below.refl _ _ | refine below_step (by assumption) (by first | omega | (simp; done) | (simp; omega)) ?_ | refine below_drewN ?_ _ | refine Below.drew ?_ | refine Below.setCell ?_ (by first | omega | (simp; done) | (simp; omega)) _ | refine Below.alloc ?_ (by first | omega | (simp; done) | (simp; omega)) _)))).mono ?_
  rintro e w1 ⟨rfl, b1⟩
  have c0_w1 : w1.cell? ⟨w.heap.size, 0, none⟩ = some (.slice A k c) := (b1.cell (p := ⟨w.heap.size, 0, none⟩) (by first | omega | (simp; done) | (simp; omega))).trans (by first | assumption | go_simp)
  have c1_w1 : w1.cell? ⟨w.heap.size, 1, none⟩ = some (.slice B m d) := (b1.cell (p := ⟨w.heap.size, 1, none⟩) (by first | omega | (simp; done) | (simp; omega))).trans (by first | assumption | go_simp)
  have c2_w1 : w1.cell? ⟨w.heap.size, 2, none⟩ = some (.int .i64 h) := (b1.cell (p := ⟨w.heap.size, 2, none⟩) (by first | omega | (simp; done) | (simp; omega))).trans (by first | assumption | go_simp)
  have c3_w1 : w1.cell? ⟨w.heap.size + 1, 0, none⟩ = some (.slice A2 k c2) := (b1.cell (p := ⟨w.heap.size + 1, 0, none⟩) (by first | omega | (simp; done) | (simp; omega))).trans (by first | assumption | go_simp)
  have c4_w1 : w1.cell? ⟨w.heap.size + 1, 1, none⟩ = some (.slice B2 m d2) := (b1.cell (p := ⟨w.heap.size + 1, 1, none⟩) (by first | omega | (simp; done) | (simp; omega))).trans (by first | assumption | go_simp)
  have c5_w1 : w1.cell? ⟨w.heap.size + 1, 2, none⟩ = some (.int .i64 h) := (b1.cell (p := ⟨w.heap.size + 1, 2, none⟩) (by first | omega | (simp; done) | (simp; omega))).trans (by first | assumption | go_simp)
  have s0_w1 : w.heap.size < w1.heap.size := Nat.lt_of_lt_of_le (by first | omega | (simp; done) | (simp; omega)) b1.size
  have s1_w1 : w.heap.size + 1 < w1.heap.size := Nat.lt_of_lt_of_le (by first | omega | (simp; done) | (simp; omega)) b1.size
  have B_w1 : Below w.heap.size w w1 := (by repeat (first | exact Below.refl _ _ | refine below_step (by assumption) (by first | omega | (simp; done) | (simp; omega)) ?_ | refine below_drewN ?_ _ | refine Below.drew ?_ | refine Below.setCell ?_ (by first | omega | (simp; done) | (simp; omega)) _ | refine Below.alloc ?_ (by first | omega | (simp; done) | (simp; omega)) _))
  clear b1  
  go_wp2_with fail
  refine (HT.out _ (HA.out.ties.below (by repeat (first | exact Below.refl _ _ | refine below_step (by assumption) (by first | omega | (simp; done) | (simp; omega)) ?_ | refine below_drewN ?_ _ | refine Below.drew ?_ | refine Below.setCell ?_ (by first | omega | (simp; done) | (simp; omega)) _ | refine Below.alloc ?_ (by first | omega | (simp; done) | (simp; omega)) _))) (HB.out.ties.below (by repeat (first | exact Below.refl _ _ | refine below_step (by assumption) (by first | omega | (simp; done) | (simp; omega)) ?_ | refine below_drewN ?_ _ | refine Below.drew ?_ | refine Below.setCell ?_ (by first | omega | (simp; done) | (simp; omega)) _ | refine Below.alloc ?_ (by first | omega | (simp; done) | (simp; omega)) _)))).mono ?_
  rintro e w2 ⟨rfl, b2⟩
  have c0_w2 : w2.cell? ⟨w.heap.size, 0, none⟩ = some (.slice A k c) := (b2.cell (p := ⟨w.heap.size, 0, none⟩) (by first | omega | (simp; done) | (simp; omega))).trans (by first | assumption | go_simp)
  have c1_w2 : w2.cell? ⟨w.heap.size, 1, none⟩ = some (.slice B m d) := (b2.cell (p := ⟨w.heap.size, 1, none⟩) (by first | omega | (simp; done) | (simp; omega))).trans (by first | assumption | go_simp)
  have c2_w2 : w2.cell? ⟨w.heap.size, 2, none⟩ = some (.int .i64 h) := (b2.cell (p := ⟨w.heap.size, 2, none⟩) (by first | omega | (simp; done) | (simp; omega))).trans (by first | assumption | go_simp)
  have c3_w2 : w2.cell? ⟨w.heap.size + 1, 0, none⟩ = some (.slice A2 k c2) := (b2.cell (p := ⟨w.heap.size + 1, 0, none⟩) (by first | omega | (simp; done) | (simp; omega))).trans (by first | assumption | go_simp)
  have c4_w2 : w2.cell? ⟨w.heap.size + 1, 1, none⟩ = some (.slice B2 m d2) := (b2.cell (p := ⟨w.heap.size + 1, 1, none⟩) (by first | omega | (simp; done) | (simp; omega))).trans (by first | assumption | go_simp)
  have c5_w2 : w2.cell? ⟨w.heap.size + 1, 2, none⟩ = some (.int .i64 h) := (b2.cell (p := ⟨w.heap.size + 1, 2, none⟩) (by first | omega | (simp; done) | (simp; omega))).trans (by first | assumption | go_simp)
  have s0_w2 : w.heap.size < w2.heap.size := Nat.lt_of_lt_of_le (by first | omega | (simp; done) | (simp; omega)) b2.size
  have s1_w2 : w.heap.size + 1 < w2.heap.size := Nat.lt_of_lt_of_le (by first | omega | (simp; done) | (simp; omega)) b2.size
  have B_w2 : Below w.heap.size w w2 := (by repeat (first | exact Below.refl _ _ | refine below_step (by assumption) (by first | omega | (simp; done) | (simp; omega)) ?_ | refine below_drewN ?_ _ | refine Below.drew ?_ | refine Below.setCell ?_ (by first | omega | (simp; done) | (simp; omega)) _ | refine Below.alloc ?_ (by first | omega | (simp; done) | (simp; omega)) _))
  clear b2 c0_w1 c1_w1 c2_w1 c3_w1 c4_w1 c5_w1 s0_w1 s1_w1 B_w1
  go_wp2_with fail
  go_ret
  exact ⟨rfl, B_w2⟩

end Go.Proofs.YtgajodcgedhikaaDoor

namespace Go.Proofs.YtgajodcgedhikaaDoor
open Go.RowKit
set_option linter.unusedVariables false
set_option linter.unusedSimpArgs false

/-- A literal. -/
def litB (x : Int) : Bool := decide (x ≠ 0) && (decide (-3 ≤ x) && decide (x ≤ 3))
def absI (x : Int) : Int := if x < 0 then -x else x
theorem litB_of {x : Int} (h : litB x = true) : x ≠ 0 ∧ -3 ≤ x ∧ x ≤ 3 := by
  unfold litB at h
  rw [Bool.and_eq_true, Bool.and_eq_true] at h
  exact ⟨of_decide_eq_true h.1, of_decide_eq_true h.2.1, of_decide_eq_true h.2.2⟩
theorem litB_abs {x : Int} (h : litB x = true) : 1 ≤ absI x ∧ absI x ≤ 3 := by
  have := litB_of h
  unfold absI; split <;> omega
/-- The element is a literal, its proposition above that of the one before it. -/
def labS (l : List Int) (j : Nat) (x : Int) : Bool := litB x && (decide (j = 0) || decide (absI (l[j - 1]?.getD 0) < absI x))
def labJ (l : List Int) : Nat → Bool
  | 0 => true
  | j + 1 => labJ l j && labS l j (l[j]?.getD 0)
def labR (l : List Int) : Bool := labJ l l.length
theorem labJ_no {l : List Int} {j : Nat} (h : labJ l j = false) : ∀ {m : Nat}, j ≤ m → labJ l m = false
  | 0, hm => by obtain rfl : j = 0 := by omega
                exact h
  | m + 1, hm => by
    by_cases e : j = m + 1
    · subst e; exact h
    · unfold labJ; rw [labJ_no h (show j ≤ m by omega), Bool.false_and]
theorem labJ_next {l : List Int} {j : Nat} : labJ l (j + 1) = (labJ l j && labS l j (l[j]?.getD 0)) := rfl
theorem labJ_lit {l : List Int} : ∀ {m j : Nat}, labJ l m = true → j < m → litB (l[j]?.getD 0) = true
  | 0, j, _, h => by omega
  | m + 1, j, h, hj => by
    unfold labJ at h
    rw [Bool.and_eq_true] at h
    by_cases e : j = m
    · subst e; unfold labS at h; rw [Bool.and_eq_true] at h; exact h.2.1
    · exact labJ_lit h.1 (by omega)
theorem labJ_asc {l : List Int} : ∀ {m j : Nat}, labJ l m = true → j < m → (j : Int) + 1 ≤ absI (l[j]?.getD 0)
  | 0, j, _, h => by omega
  | m + 1, j, h, hj => by
    have hl := labJ_lit h hj
    have hab := litB_abs hl
    unfold labJ at h
    rw [Bool.and_eq_true] at h
    by_cases e : j = m
    · subst e
      rcases Nat.eq_zero_or_pos j with h0 | h0
      · subst h0; omega
      · have hs := h.2
        unfold labS at hs
        rw [Bool.and_eq_true, Bool.or_eq_true, decide_eq_true_eq, decide_eq_true_eq] at hs
        have := labJ_asc h.1 (show j - 1 < j by omega)
        rcases hs.2 with h1 | h1
        · omega
        · omega
    · exact labJ_asc h.1 (by omega)
theorem labR_len {l : List Int} (h : labR l = true) : l.length ≤ 3 := by
  unfold labR at h
  rcases Nat.eq_zero_or_pos l.length with h0 | h0
  · omega
  · have a := labJ_asc h (show l.length - 1 < l.length by omega)
    have b := (litB_abs (labJ_lit h (show l.length - 1 < l.length by omega))).2
    omega
theorem labR_lit {l : List Int} (h : labR l = true) {x : Int} (hx : x ∈ l) : litB x = true := by
  obtain ⟨j, hj, rfl⟩ := List.getElem_of_mem hx
  have := labJ_lit h hj
  rwa [List.getElem?_eq_getElem hj] at this
def valB (x : Int) : Bool := decide (-1 ≤ x) && decide (x ≤ 1)
def valR (v : List Int) : Bool := v.all valB && decide (v.length = 3)
theorem valR_ok {v : List Int} (h : valR v = true) : v.length = 3 ∧ ∀ x ∈ v, -1 ≤ x ∧ x ≤ 1 := by
  unfold valR at h
  rw [Bool.and_eq_true, List.all_eq_true] at h
  refine ⟨of_decide_eq_true h.2, fun x hx => ?_⟩
  have := h.1 x hx
  unfold valB at this
  rw [Bool.and_eq_true] at this
  exact ⟨of_decide_eq_true this.1, of_decide_eq_true this.2⟩
theorem allV_take_of (v : List Int) (k : Nat) (h : k < v.length) (ha : (v.take k).all valB = true) (hp : valB v[k] = true) : (v.take (k + 1)).all valB = true := by
  rw [List.take_add_one, List.getElem?_eq_getElem h, List.all_append, ha]; simpa using hp
theorem valR_not {v : List Int} {k : Nat} (h : k < v.length) (hp : valB v[k] = false) : valR v = false := by
  have : v.all valB = false := by rw [List.all_eq_false]; exact ⟨v[k], List.getElem_mem _, by simp [hp]⟩
  unfold valR; rw [this, Bool.false_and]
theorem valR_all {v : List Int} (ha : (v.take v.length).all valB = true) : valR v = decide (v.length = 3) := by
  rw [List.take_of_length_le (Nat.le_refl _)] at ha
  unfold valR; rw [ha, Bool.true_and]
/-- The state of a literal under values. -/
def litV (v : List Int) (x : Int) : Int := if x < 0 then -(v[(absI x - 1).toNat]?.getD 0) else v[(absI x - 1).toNat]?.getD 0
def stJ (l v : List Int) : Nat → Int
  | 0 => 1
  | j + 1 => min (stJ l v j) (litV v (l[j]?.getD 0))
def stR (l v : List Int) : Int := if labR l && valR v then stJ l v l.length else -1
theorem litV_rng {v : List Int} (h : valR v = true) {x : Int} (hx : litB x = true) : -1 ≤ litV v x ∧ litV v x ≤ 1 := by
  obtain ⟨h1, h2⟩ := valR_ok h
  have hab := litB_abs hx
  have hm : ∃ y, v[(absI x - 1).toNat]? = some y ∧ y ∈ v := ⟨_, List.getElem?_eq_getElem (by omega), List.getElem_mem _⟩
  obtain ⟨y, hy, hym⟩ := hm
  have := h2 y hym
  unfold litV
  rw [hy]
  simp only [Option.getD_some]
  split <;> omega
theorem stJ_rng {l v : List Int} (hv : valR v = true) : ∀ {j : Nat}, labJ l j = true → -1 ≤ stJ l v j ∧ stJ l v j ≤ 1
  | 0, _ => by simp [stJ]
  | j + 1, h => by
    have hl := labJ_lit h (show j < j + 1 by omega)
    have hr := litV_rng hv hl
    unfold labJ at h
    rw [Bool.and_eq_true] at h
    have := stJ_rng hv h.1
    unfold stJ
    omega
def hasR (l : List Int) (n : Int) : Bool := l.any (fun x => decide (x = n))
theorem hasR_at {l : List Int} {n : Int} {j : Nat} (hj : j < l.length) (h : l[j] = n) : hasR l n = true := by
  unfold hasR; rw [List.any_eq_true]; exact ⟨l[j], List.getElem_mem _, by simp [h]⟩
theorem hasR_none {l : List Int} {n : Int} (h : (l.take l.length).any (fun x => decide (x = n)) = false) : hasR l n = false := by
  rw [List.take_of_length_le (Nat.le_refl _)] at h; exact h
theorem anyH_take {l : List Int} {n : Int} {j : Nat} (hj : j < l.length) (ha : (l.take j).any (fun x => decide (x = n)) = false) (hx : l[j] ≠ n) : (l.take (j + 1)).any (fun x => decide (x = n)) = false := by
  rw [List.take_add_one, List.getElem?_eq_getElem hj, List.any_append, ha]; simpa using hx
def impR (a b : List Int) : Bool := (labR a && labR b) && b.all (hasR a)
theorem allI2_take_of (a b : List Int) (k : Nat) (h : k < b.length) (ha : (b.take k).all (hasR a) = true) (hp : hasR a b[k] = true) : (b.take (k + 1)).all (hasR a) = true := by
  rw [List.take_add_one, List.getElem?_eq_getElem h, List.all_append, ha]; simpa using hp
theorem impR_not {a b : List Int} {k : Nat} (h : k < b.length) (hp : hasR a b[k] = false) : impR a b = false := by
  have : b.all (hasR a) = false := by rw [List.all_eq_false]; exact ⟨b[k], List.getElem_mem _, by simp [hp]⟩
  unfold impR; rw [this, Bool.and_false]
def woR (l : List Int) (p : Int) : List Int := l.filter (fun x => decide (x ≠ p) && decide (x ≠ IntKind.i64.wrap (-p)))
theorem wo_next {l : List Int} {p : Int} {j : Nat} {x : Int} (h : l[j]? = some x) : woR (l.take (j + 1)) p = woR (l.take j) p ++ (if x ≠ p ∧ x ≠ IntKind.i64.wrap (-p) then [x] else []) := by
  unfold woR
  rw [List.take_add_one, h, List.filter_append]
  congr 1
  by_cases e : x ≠ p ∧ x ≠ IntKind.i64.wrap (-p)
  · rw [if_pos e]; simp [e.1, e.2]
  · rw [if_neg e]
    simp
    intro h1; exact Classical.byContradiction fun h2 => e ⟨h1, h2⟩
theorem wo_len (l : List Int) (p : Int) (j : Nat) : (woR (l.take j) p).length ≤ j := by
  unfold woR
  have h1 := List.length_filter_le (fun x => decide (x ≠ p) && decide (x ≠ IntKind.i64.wrap (-p))) (l.take j)
  rw [List.length_take] at h1
  omega
def czR (v : List Int) : Int := ((v.filter (fun x => decide (x = 0))).length : Nat)
theorem cz_next {ts : List Int} {j : Nat} {x : Int} (h : ts[j]? = some x) : czR (ts.take (j + 1)) = czR (ts.take j) + (if x = 0 then 1 else 0) := by
  unfold czR
  rw [List.take_add_one, h, List.filter_append]
  by_cases e : x = 0
  · simp [e]
  · simp [e]
theorem cz_le (ts : List Int) (j : Nat) : 0 ≤ czR (ts.take j) ∧ czR (ts.take j) ≤ j := by
  unfold czR
  have h1 := List.length_filter_le (fun x : Int => decide (x = 0)) (ts.take j)
  rw [List.length_take] at h1
  omega
/-- The label that joins two. -/
def jnP (a b : List Int) (p : Nat) : Option (List Int) :=
  if hasR a p || hasR b p then (if hasR a (-(p : Int)) || hasR b (-(p : Int)) then none else some [(p : Int)]) else (if hasR a (-(p : Int)) || hasR b (-(p : Int)) then some [-(p : Int)] else some [])
def jnJ (a b : List Int) : Nat → Option (List Int)
  | 0 => some []
  | j + 1 => match jnJ a b j with | some o => (match jnP a b (j + 1) with | some q => some (o ++ q) | none => none) | none => none
def jnR (a b : List Int) : List Int × Bool := if labR a && labR b then (match jnJ a b 3 with | some o => (o, true) | none => ([], false)) else ([], false)
theorem jnJ_none {a b : List Int} {j : Nat} (h : jnJ a b j = none) : ∀ {m : Nat}, j ≤ m → jnJ a b m = none
  | 0, hm => by obtain rfl : j = 0 := by omega
                exact h
  | m + 1, hm => by
    by_cases e : j = m + 1
    · subst e; exact h
    · unfold jnJ; rw [jnJ_none h (show j ≤ m by omega)]
theorem jnP_len {a b : List Int} {p : Nat} {q : List Int} (h : jnP a b p = some q) : q.length ≤ 1 := by
  unfold jnP at h
  split at h <;> split at h <;> first | (injection h with h; subst h; simp) | cases h
theorem jnJ_len {a b : List Int} : ∀ {j : Nat} {o : List Int}, jnJ a b j = some o → o.length ≤ j
  | 0, o, h => by unfold jnJ at h; injection h with h; subst h; simp
  | j + 1, o, h => by
    unfold jnJ at h
    split at h
    · next o1 h1 =>
      split at h
      · next q hq =>
        injection h with h
        subst h
        have := jnJ_len h1
        have := jnP_len hq
        rw [List.length_append]; omega
      · cases h
    · cases h
theorem jnR_len (a b : List Int) : (jnR a b).1.length ≤ 3 := by
  unfold jnR
  split
  · split
    · next o ho => exact jnJ_len ho
    · simp
  · simp

end Go.Proofs.YtgajodcgedhikaaDoor

namespace Go.Proofs.YtgajodcgedhikaaDoor
open Go.RowKit
set_option linter.unusedVariables false
set_option linter.unusedSimpArgs false

/-- The index of the first element that f holds of, or -1. -/
def firJ {T : Type} (f : T → Bool) : List T → Nat → Int
  | [], _ => -1
  | x :: l, i => if f x then (i : Int) else firJ f l (i + 1)
def fir {T : Type} (f : T → Bool) (l : List T) : Int := firJ f l 0
theorem firJ_all {T : Type} {f : T → Bool} : ∀ {l : List T} {i : Nat}, (∀ x ∈ l, f x = false) → firJ f l i = -1
  | [], _, _ => rfl
  | x :: l, i, h => by
    unfold firJ
    rw [if_neg (by rw [h x (List.mem_cons_self ..)]; simp)]
    exact firJ_all (fun y hy => h y (List.mem_cons_of_mem _ hy))
theorem firJ_at {T : Type} {f : T → Bool} : ∀ {l : List T} {i j : Nat} (hj : j < l.length), (∀ q (hq : q < j), f (l[q]'(by omega)) = false) → f l[j] = true → firJ f l i = ((i + j : Nat) : Int)
  | [], _, j, hj, _, _ => by simp at hj
  | x :: l, i, 0, hj, _, h => by
    unfold firJ
    have : f x = true := h
    rw [if_pos this]; rfl
  | x :: l, i, j + 1, hj, h0, h => by
    have hx : f x = false := h0 0 (by omega)
    unfold firJ
    rw [if_neg (by rw [hx]; simp), firJ_at (l := l) (i := i + 1) (j := j) (by simpa using hj) (fun q hq => h0 (q + 1) (by omega)) h]
    congr 1; omega
theorem firJ_rng {T : Type} {f : T → Bool} : ∀ {l : List T} {i : Nat}, firJ f l i = -1 ∨ ∃ j, ∃ hj : j < l.length, firJ f l i = ((i + j : Nat) : Int) ∧ f l[j] = true
  | [], _ => .inl rfl
  | x :: l, i => by
    unfold firJ
    by_cases hx : f x = true
    · rw [if_pos hx]; exact .inr ⟨0, by simp, rfl, hx⟩
    · rw [if_neg hx]
      rcases firJ_rng (f := f) (l := l) (i := i + 1) with h | ⟨j, hj, h, h2⟩
      · exact .inl h
      · exact .inr ⟨j + 1, by simpa using hj, by rw [h]; congr 1; omega, h2⟩
theorem fir_all {T : Type} {f : T → Bool} {l : List T} {j : Nat} (h : ∀ q (hq : q < j) (hl : q < l.length), f l[q] = false) (hj : l.length ≤ j) : fir f l = -1 :=
  firJ_all fun x hx => by
    obtain ⟨q, hq, rfl⟩ := List.getElem_of_mem hx
    exact h q (by omega) hq
theorem fir_at {T : Type} {f : T → Bool} {l : List T} {j : Nat} (hj : j < l.length) (h : ∀ q (hq : q < j) (hl : q < l.length), f l[q] = false) (hf : f l[j] = true) : fir f l = (j : Int) := by
  have := firJ_at (i := 0) hj (fun q hq => h q hq (by omega)) hf
  unfold fir; rw [this, Nat.zero_add]
theorem fir_rng {T : Type} (f : T → Bool) (l : List T) : fir f l = -1 ∨ ∃ j, ∃ hj : j < l.length, fir f l = (j : Int) ∧ f l[j] = true := by
  rcases firJ_rng (f := f) (l := l) (i := 0) with h | ⟨j, hj, h, h2⟩
  · exact .inl h
  · exact .inr ⟨j, hj, by unfold fir; rw [h, Nat.zero_add], h2⟩
/-- A list whose elements hold, up to an index. -/
def allJ (f : Nat → Bool) : Nat → Bool
  | 0 => true
  | j + 1 => allJ f j && f j
theorem allJ_no {f : Nat → Bool} {j : Nat} (h : allJ f j = false) : ∀ {m : Nat}, j ≤ m → allJ f m = false
  | 0, hm => by obtain rfl : j = 0 := by omega
                exact h
  | m + 1, hm => by
    by_cases e : j = m + 1
    · subst e; exact h
    · unfold allJ; rw [allJ_no h (show j ≤ m by omega), Bool.false_and]
theorem allJ_next {f : Nat → Bool} {j : Nat} : allJ f (j + 1) = (allJ f j && f j) := rfl
theorem allJ_of {f : Nat → Bool} : ∀ {m j : Nat}, allJ f m = true → j < m → f j = true
  | 0, j, _, h => by omega
  | m + 1, j, h, hj => by
    unfold allJ at h
    rw [Bool.and_eq_true] at h
    by_cases e : j = m
    · subst e; exact h.2
    · exact allJ_of h.1 (by omega)

def gT0 : GT := ⟨0, 0, 0, 0, false⟩
def nodB (e : GN) : Bool := nameB e.name.data.toList && (labR e.lab && (decide (0 ≤ e.wat) && decide (e.wat ≤ 3)))
def watR (ns : List GN) (p : Int) : Int := fir (fun e => decide (e.wat = p)) ns
def namR (ns : List GN) (s : ByteArray) : Int := fir (fun e => decide (e.name = s)) ns
def freR (ts : List GT) (v : Int) : Int := fir (fun t => t.fr && decide (t.v = v)) ts
def ndA (ns : List GN) (i : Nat) : Bool := nodB (ns[i]?.getD gN0) && (decide (namR ns (ns[i]?.getD gN0).name = i) && (decide ((ns[i]?.getD gN0).wat = 0) || decide (watR ns (ns[i]?.getD gN0).wat = i)))
/-- A literal of a label, as the node that watches its proposition asks. -/
def ndX (ns : List GN) (l : List Int) (x : Int) : Bool :=
  decide (0 ≤ watR ns (absI x)) && (!hasR (ns[(watR ns (absI x)).toNat]?.getD gN0).lab x && (!hasR (ns[(watR ns (absI x)).toNat]?.getD gN0).lab (-x) && impR l (ns[(watR ns (absI x)).toNat]?.getD gN0).lab))
def ndB (ns : List GN) (i : Nat) : Bool := allJ (fun q => ndX ns (ns[i]?.getD gN0).lab ((ns[i]?.getD gN0).lab[q]?.getD 0)) (ns[i]?.getD gN0).lab.length
def ndH (ns : List GN) : Bool := decide (1 ≤ ns.length ∧ ns.length ≤ 7) && (decide ((ns[0]?.getD gN0).lab.length = 0) && decide ((ns[0]?.getD gN0).wat = 0))
def ndsR (ns : List GN) : Bool := ndH ns && (allJ (ndA ns) ns.length && allJ (ndB ns) ns.length)
def tiB (ns : List GN) (ts : List GT) (i : Nat) : Bool :=
  let t := ts[i]?.getD gT0
  (decide (0 ≤ t.u) && decide (t.u ≤ (ns.length : Int) - 1)) && ((decide (0 ≤ t.v) && decide (t.v ≤ (ns.length : Int) - 1)) && (decide (t.u ≠ t.v) && (decide (-20 ≤ t.lo) && (decide (t.hi ≤ 20) && (decide (t.lo ≤ t.hi) &&
    (!t.fr || (decide (1 ≤ t.lo) && (decide (t.v ≠ 0) && (decide ((ns[t.v.toNat]?.getD gN0).wat = 0) && (decide ((ns[t.u.toNat]?.getD gN0).lab = (ns[t.v.toNat]?.getD gN0).lab) && decide (freR ts t.v = i)))))))))))
def shR (s : GS) : Bool := ndsR s.ns && (decide (s.ts.length ≤ 14) && ((decide (1 ≤ s.h) && decide (s.h ≤ 10)) && allJ (tiB s.ns s.ts) s.ts.length))
def frR (s : GS) (v : Int) : Int := if shR s then freR s.ts v else -1
def woR8 (s : GS) (p : Int) : Int := if (decide (1 ≤ p) && decide (p ≤ 3)) && shR s then watR s.ns p else -1
def chJ (s : GS) : Nat → List Int
  | 0 => []
  | j + 1 => chJ s j ++ (if 0 < j ∧ freR s.ts j < 0 then [(j : Int)] else [])
def chR (s : GS) : List Int := if shR s then chJ s s.ns.length else []
theorem chJ_len (s : GS) : ∀ j, (chJ s j).length ≤ j
  | 0 => by simp [chJ]
  | j + 1 => by
    have := chJ_len s j
    unfold chJ
    rw [List.length_append]
    split <;> simp <;> omega
def nodE (a b : GN) : Bool := decide (a.name = b.name) && (decide (a.wat = b.wat) && decide (a.lab = b.lab))
def tieE (a b : GT) : Bool := decide (a.u = b.u) && (decide (a.v = b.v) && (decide (a.lo = b.lo) && (decide (a.hi = b.hi) && decide (a.fr = b.fr))))
def smR (a b : GS) : Bool := decide (a.ns.length = b.ns.length ∧ a.ts.length = b.ts.length ∧ a.h = b.h) && (allJ (fun i => nodE (a.ns[i]?.getD gN0) (b.ns[i]?.getD gN0)) a.ns.length && allJ (fun i => tieE (a.ts[i]?.getD gT0) (b.ts[i]?.getD gT0)) a.ts.length)
theorem shR_rng {s : GS} (h : shR s = true) : 1 ≤ s.ns.length ∧ s.ns.length ≤ 7 ∧ s.ts.length ≤ 14 ∧ 1 ≤ s.h ∧ s.h ≤ 10 := by
  unfold shR ndsR ndH at h
  simp only [Bool.and_eq_true, decide_eq_true_eq] at h
  omega

end Go.Proofs.YtgajodcgedhikaaDoor

namespace Go.Proofs.YtgajodcgedhikaaDoor
open Go.RowKit
set_option linter.unusedVariables false
set_option linter.unusedSimpArgs false

def okE (n : Int) (e : GE) : Bool := decide (0 ≤ e.u ∧ e.u < n) && decide (0 ≤ e.v ∧ e.v < n) && decide (-1000000 < e.c ∧ e.c < 1000000)
def okG (n : Int) (es : List GE) : Bool := decide (0 ≤ n ∧ n ≤ 8 ∧ es.length ≤ 80) && es.all (okE n)

theorem all_take_of (es : List GE) (p : GE → Bool) (k : Nat) (h : k < es.length) (ha : (es.take k).all p = true) (hp : p es[k] = true) : (es.take (k + 1)).all p = true := by
  rw [List.take_add_one, List.getElem?_eq_getElem h, List.all_append, ha]; simpa using hp
theorem all_not_of (es : List GE) (p : GE → Bool) (k : Nat) (h : k < es.length) (hp : p es[k] = false) : es.all p = false := by
  rw [List.all_eq_false]; exact ⟨es[k], List.getElem_mem _, by simp [hp]⟩
theorem okG_not (n : Int) (es : List GE) (k : Nat) (h : k < es.length) (hp : okE n es[k] = false) : okG n es = false := by
  unfold okG; rw [all_not_of es _ k h hp, Bool.and_false]
theorem okG_big (n : Int) (es : List GE) (h : ¬ (0 ≤ n ∧ n ≤ 8 ∧ es.length ≤ 80)) : okG n es = false := by
  unfold okG; rw [decide_eq_false h, Bool.false_and]
theorem okG_all (n : Int) (es : List GE) (h : 0 ≤ n ∧ n ≤ 8 ∧ es.length ≤ 80) (ha : (es.take es.length).all (okE n) = true) : okG n es = true := by
  rw [List.take_of_length_le (Nat.le_refl _)] at ha
  unfold okG; rw [decide_eq_true h, ha]; rfl
theorem ret_b {a b : Bool} (h : a = b) : Ending.returned (.bool a) = .returned (.bool b) := by rw [h]

end Go.Proofs.YtgajodcgedhikaaDoor

namespace Go.Proofs.YtgajodcgedhikaaDoor
open Go.RowKit
set_option linter.unusedVariables false
set_option linter.unusedSimpArgs false

theorem row_getB {w : World} {A : Option Addr} {zs : List Int} (h : RowAt w A (zs.map intV)) {q : Nat} (hq : q < zs.length) : ∃ g o, A = some ⟨g, o, none⟩ ∧ g < w.heap.size ∧ w.cell? ⟨g, o + q, none⟩ = some (.int .i64 zs[q]) := by
  obtain ⟨g, o, hA, hg, hc⟩ := h (by simp; omega)
  refine ⟨g, o, hA, hg, ?_⟩
  have := hc q (by simp; omega)
  simpa [intV] using this
set_option maxRecDepth 100000 in
set_option maxHeartbeats 4000000 in
theorem prop_any (x : Int) (h : -3 ≤ x ∧ x ≤ 3) (w : World) : Calls Tryd.prog 45 #[.int .i64 x] w fun e w' => e = .returned (.int .i64 (absI x)) ∧ w = w' := by
  by_cases h0 : x < 0
  · go_enter Tryd.func45, Tryd.ntmps45
    go_wp2
    go_ret
    exact ⟨int_ans (by unfold absI; rw [if_pos (by omega)]), rfl⟩
  · go_enter Tryd.func45, Tryd.ntmps45
    go_wp2
    go_ret
    exact ⟨int_ans (by unfold absI; rw [if_neg (by omega)]), rfl⟩

set_option maxRecDepth 100000 in
set_option maxHeartbeats 4000000 in
theorem spec_LabelOk (l : List Int) (A : Option Addr) (k c : Nat) (w : World) (hl : l.length = k) (hm : k ≤ 1048576) (hr : RowAt w A (l.map intV)) : Calls Tryd.prog 44 #[.slice A k c] w fun e w' => e = .returned (.bool (labR l)) ∧ w = w' := by
  have HR := Lib.hid hr
  have HL := Lib.hid hl
  clear hr hl
  go_enter Tryd.func44, Tryd.ntmps44
  go_wp2_with fail
  go_loopw [7] (fun i wr => ∃ j : Nat, j ≤ k ∧ i = .int .i64 j ∧ labJ l j = true ∧ wr = w) (fun i _ => k - (intOf i).toNat)
  case atStart => exact ⟨0, Nat.zero_le _, rfl, rfl, rfl⟩
  case round =>
    obtain ⟨j, hj, rfl, hall, hw⟩ := hrel
    obtain rfl : w = wr := hw.symm
    have HA := Lib.hid hall
    clear hall hw
    by_cases hlt : j < k
    · have hjl : ((j : Int) < (k : Int)) := by omega
      obtain ⟨g, o, rfl, hg, hc⟩ := row_getB HR.out (q := j) (by have := HL.out; omega)
      obtain ⟨x, hx⟩ : ∃ x, x = l[j]'(by have := HL.out; omega) := ⟨_, rfl⟩
      have hxd : l[j]?.getD 0 = x := by rw [hx, List.getElem?_eq_getElem (by have := HL.out; omega)]; rfl
      rw [← hx] at hc
      have HXD := Lib.hid hxd
      have HNO := Lib.hid (fun (h : labS l j x = false) => show labR l = false from by unfold labR; exact labJ_no (j := j + 1) (by rw [labJ_next, hxd, h, Bool.and_false]) (by have := HL.out; omega))
      have HYES := Lib.hid (fun (h : labS l j x = true) => show labJ l (j + 1) = true from by rw [labJ_next, hxd, h, HA.out]; rfl)
      clear hx hxd
      have h0 := l01In_any x (-3) 3
      obtain ⟨bi, hbi⟩ : ∃ b, b = (decide (-3 ≤ x) && decide (x ≤ 3)) := ⟨_, rfl⟩
      rw [← hbi] at h0
      have H0 := Lib.hid h0
      have HBI := Lib.hid hbi
      clear h0 hbi
      by_cases hx0 : x = 0
      · have hxb : (x == 0) = true := by simp [hx0]
        have HV := Lib.hid (HNO.out (by unfold labS litB; rw [decide_eq_false (by omega)]; rfl))
        clear hx0
        go_wp2_with fail
        go_ret
        exact ⟨ret_b HV.out.symm, rfl⟩
      · have hxb : (x == 0) = false := by simp [hx0]
        have HX0 := Lib.hid hx0
        clear hx0
        cases bi with
        | false =>
          have HV := Lib.hid (HNO.out (by unfold labS litB; rw [← HBI.out, Bool.and_false, Bool.false_and]))
          go_wp2_with fail
          refine (H0.out _).mono ?_
          rintro e w2 ⟨rfl, rfl⟩
          go_wp2_with fail
          go_ret
          exact ⟨ret_b HV.out.symm, rfl⟩
        | true =>
          have hlit : litB x = true := by unfold litB; rw [← HBI.out, decide_eq_true HX0.out]; rfl
          have hx3 : -3 ≤ x ∧ x ≤ 3 := by have := litB_of hlit; omega
          have HLT := Lib.hid hlit
          clear hlit
          by_cases hj0 : j = 0
          · have hjn : ¬ ((0 : Int) < (j : Int)) := by omega
            have HV := Lib.hid (HYES.out (by unfold labS; rw [HLT.out, decide_eq_true hj0]; rfl))
            clear hj0
            go_wp2_with fail
            refine (H0.out _).mono ?_
            rintro e w2 ⟨rfl, rfl⟩
            go_wp2_with fail
            go_roundw
            case rel => exact ⟨j + 1, by omega, by go_num, HV.out, by first | rfl | trivial⟩
            case measure => simp [intOf]; omega
          · have hjn : ((0 : Int) < (j : Int)) := by omega
            obtain ⟨q, hq⟩ : ∃ q : Nat, j = q + 1 := ⟨j - 1, by omega⟩
            have hjq : (j : Int) - 1 = (q : Int) := by omega
            have iq0 : (0 : Int) ≤ (q : Int) := by omega
            have iq1 : (q : Int) < (k : Int) := by omega
            obtain ⟨g2, o2, hT2, hg2, hc2⟩ := row_getB HR.out (q := q) (by have := HL.out; omega)
            injection hT2 with hT2
            injection hT2 with h4 h5
            subst h4 h5
            obtain ⟨y, hy⟩ : ∃ y, y = l[q]'(by have := HL.out; omega) := ⟨_, rfl⟩
            have hyd : l[j - 1]?.getD 0 = y := by rw [hy, show j - 1 = q by omega, List.getElem?_eq_getElem (by have := HL.out; omega)]; rfl
            rw [← hy] at hc2
            have hly : litB y = true := by rw [← hyd]; exact labJ_lit HA.out (by omega)
            have hy3 : -3 ≤ y ∧ y ≤ 3 := by have := litB_of hly; omega
            have ha : labS l j x = decide (absI y < absI x) := by unfold labS; rw [HLT.out, hyd, decide_eq_false hj0]; rfl
            have hpy := prop_any y hy3
            have hpx := prop_any x hx3
            obtain ⟨p, hp⟩ : ∃ p, p = absI y := ⟨_, rfl⟩
            obtain ⟨r, hr⟩ : ∃ r, r = absI x := ⟨_, rfl⟩
            rw [← hp] at hpy ha
            rw [← hr] at hpx ha
            have HPY := Lib.hid hpy
            have HPX := Lib.hid hpx
            have HAS := Lib.hid ha
            clear hy hyd hly ha hpy hpx hp hr hq hj0
            by_cases hpr : p < r
            · have hge : ¬ (r ≤ p) := by omega
              have HV := Lib.hid (HYES.out (by rw [HAS.out]; exact decide_eq_true hpr))
              go_wp2_with fail
              refine (H0.out _).mono ?_
              rintro e w2 ⟨rfl, rfl⟩
              go_wp2_with fail
              refine (HPY.out _).mono ?_
              rintro e w3 ⟨rfl, rfl⟩
              go_wp2_with fail
              refine (HPX.out _).mono ?_
              rintro e w4 ⟨rfl, rfl⟩
              go_wp2_with fail
              go_roundw
              case rel => exact ⟨j + 1, by omega, by go_num, HV.out, by first | rfl | trivial⟩
              case measure => simp [intOf]; omega
            · have hge : r ≤ p := by omega
              have HV := Lib.hid (HNO.out (by rw [HAS.out]; exact decide_eq_false hpr))
              go_wp2_with fail
              refine (H0.out _).mono ?_
              rintro e w2 ⟨rfl, rfl⟩
              go_wp2_with fail
              refine (HPY.out _).mono ?_
              rintro e w3 ⟨rfl, rfl⟩
              go_wp2_with fail
              refine (HPX.out _).mono ?_
              rintro e w4 ⟨rfl, rfl⟩
              go_wp2_with fail
              go_ret
              exact ⟨ret_b HV.out.symm, rfl⟩
    · have hjl : ¬ ((j : Int) < (k : Int)) := by omega
      go_wp2_with fail
      go_ret
      exact ⟨ret_b (by unfold labR; have := HA.out; rw [show j = l.length from by have := HL.out; omega] at this; exact this.symm), rfl⟩

set_option maxRecDepth 100000 in
set_option maxHeartbeats 4000000 in
theorem has_any (n : Int) (l : List Int) (A : Option Addr) (k c : Nat) (w : World) (hl : l.length = k) (hm : k ≤ 1048576) (hr : RowAt w A (l.map intV)) : Calls Tryd.prog 54 #[.slice A k c, .int .i64 n] w fun e w' => e = .returned (.bool (hasR l n)) ∧ w = w' := by
  have HR := Lib.hid hr
  have HL := Lib.hid hl
  clear hr hl
  go_enter Tryd.func54, Tryd.ntmps54
  go_wp2_with fail
  go_loopw [9] (fun i wr => ∃ j : Nat, j ≤ k ∧ i = .int .i64 j ∧ (l.take j).any (fun x => decide (x = n)) = false ∧ wr = w) (fun i _ => k - (intOf i).toNat)
  case atStart => exact ⟨0, Nat.zero_le _, rfl, rfl, rfl⟩
  case round =>
    obtain ⟨j, hj, rfl, hall, hw⟩ := hrel
    obtain rfl : w = wr := hw.symm
    have HA := Lib.hid hall
    clear hall hw
    by_cases hlt : j < k
    · have hjl : ((j : Int) < (k : Int)) := by omega
      obtain ⟨g, o, rfl, hg, hc⟩ := row_getB HR.out (q := j) (by have := HL.out; omega)
      have HK1 := Lib.hid (anyH_take (l := l) (n := n) (j := j) (by have := HL.out; omega) HA.out)
      have HK2 := Lib.hid (hasR_at (l := l) (n := n) (j := j) (by have := HL.out; omega))
      obtain ⟨x, hx⟩ : ∃ x, x = l[j]'(by have := HL.out; omega) := ⟨_, rfl⟩
      rw [← hx] at hc HK1 HK2
      clear hx
      by_cases hxn : x = n
      · have hxb : (x == n) = true := by simp [hxn]
        have HV := Lib.hid (HK2.out hxn)
        clear hxn
        go_wp2_with fail
        go_ret
        exact ⟨ret_b HV.out.symm, rfl⟩
      · have hxb : (x == n) = false := by simp [hxn]
        have HV := Lib.hid (HK1.out hxn)
        clear hxn
        go_wp2_with fail
        go_roundw
        case rel => exact ⟨j + 1, by omega, by go_num, HV.out, by first | rfl | trivial⟩
        case measure => simp [intOf]; omega
    · have hjl : ¬ ((j : Int) < (k : Int)) := by omega
      go_wp2_with fail
      go_ret
      exact ⟨ret_b (hasR_none (by have := HA.out; rw [show j = l.length from by have := HL.out; omega] at this; exact this)).symm, rfl⟩

set_option maxRecDepth 100000 in
set_option maxHeartbeats 4000000 in
theorem spec_ImpliesLabel (a b : List Int) (A : Option Addr) (k c : Nat) (B : Option Addr) (m d : Nat) (w : World) (hl : a.length = k) (hm : k ≤ 1048576) (hlb : b.length = m) (hmb : m ≤ 1048576) (hr : RowAt w A (a.map intV)) (hrb : RowAt w B (b.map intV)) : Calls Tryd.prog 55 #[.slice A k c, .slice B m d] w fun e w' => e = .returned (.bool (impR a b)) ∧ w = w' := by
  have HOA := Lib.hid (spec_LabelOk a A k c w hl hm hr)
  have HOB := Lib.hid (spec_LabelOk b B m d w hlb hmb hrb)
  have HHA := Lib.hid (fun n => has_any n a A k c w hl hm hr)
  have HR := Lib.hid hrb
  have HL := Lib.hid hlb
  clear hr hrb hl hlb
  obtain ⟨b1, hb1⟩ : ∃ x, x = labR a := ⟨_, rfl⟩
  obtain ⟨b2, hb2⟩ : ∃ x, x = labR b := ⟨_, rfl⟩
  rw [← hb1] at HOA
  rw [← hb2] at HOB
  have H1 := Lib.hid hb1.symm
  have H2 := Lib.hid hb2.symm
  clear hb1 hb2
  cases b1 with
  | false =>
    go_enter Tryd.func55, Tryd.ntmps55
    go_wp2_with fail
    refine HOA.out.mono ?_
    rintro e w1 ⟨rfl, rfl⟩
    go_wp2_with fail
    go_ret
    exact ⟨ret_b (by unfold impR; rw [H1.out]; rfl), rfl⟩
  | true =>
    cases b2 with
    | false =>
      go_enter Tryd.func55, Tryd.ntmps55
      go_wp2_with fail
      refine HOA.out.mono ?_
      rintro e w1 ⟨rfl, rfl⟩
      go_wp2_with fail
      refine HOB.out.mono ?_
      rintro e w1 ⟨rfl, rfl⟩
      go_wp2_with fail
      go_ret
      exact ⟨ret_b (by unfold impR; rw [H1.out, H2.out]; rfl), rfl⟩
    | true =>
      go_enter Tryd.func55, Tryd.ntmps55
      go_wp2_with fail
      refine HOA.out.mono ?_
      rintro e w1 ⟨rfl, hw1⟩
      subst hw1
      go_wp2_with fail
      refine HOB.out.mono ?_
      rintro e w1 ⟨rfl, hw1⟩
      subst hw1
      go_wp2_with fail
      go_loopw [17] (fun i wr => ∃ j : Nat, j ≤ m ∧ i = .int .i64 j ∧ (b.take j).all (hasR a) = true ∧ wr = w) (fun i _ => m - (intOf i).toNat)
      case atStart => exact ⟨0, Nat.zero_le _, rfl, rfl, rfl⟩
      case round =>
        obtain ⟨j, hj, rfl, hall, hw⟩ := hrel
        obtain rfl : w = wr := hw.symm
        have HA := Lib.hid hall
        clear hall hw
        by_cases hlt : j < m
        · have hjl : ((j : Int) < (m : Int)) := by omega
          obtain ⟨g, o, rfl, hg, hc⟩ := row_getB HR.out (q := j) (by have := HL.out; omega)
          have HK1 := Lib.hid (allI2_take_of a b j (by have := HL.out; omega) HA.out)
          have HK2 := Lib.hid (impR_not (a := a) (b := b) (k := j) (by have := HL.out; omega))
          obtain ⟨x, hx⟩ : ∃ x, x = b[j]'(by have := HL.out; omega) := ⟨_, rfl⟩
          rw [← hx] at hc HK1 HK2
          have hh := HHA.out x
          obtain ⟨t, ht⟩ : ∃ t, t = hasR a x := ⟨_, rfl⟩
          rw [← ht] at hh HK1 HK2
          have HH := Lib.hid hh
          clear hx ht hh
          cases t with
          | false =>
            go_wp2_with fail
            refine HH.out.mono ?_
            rintro e w1 ⟨rfl, rfl⟩
            go_wp2_with fail
            go_ret
            exact ⟨ret_b (HK2.out (by simp)).symm, rfl⟩
          | true =>
            go_wp2_with fail
            refine HH.out.mono ?_
            rintro e w1 ⟨rfl, hw1⟩
            subst hw1
            go_wp2_with fail
            go_roundw
            case rel => exact ⟨j + 1, by omega, by go_num, HK1.out (by simp), by first | rfl | trivial⟩
            case measure => simp [intOf]; omega
        · have hjl : ¬ ((j : Int) < (m : Int)) := by omega
          go_wp2_with fail
          go_ret
          exact ⟨ret_b (by unfold impR; rw [H1.out, H2.out]; have := HA.out; rw [List.take_of_length_le (by have := HL.out; omega)] at this; rw [this]; rfl), rfl⟩

end Go.Proofs.YtgajodcgedhikaaDoor

namespace Go.Proofs.YtgajodcgedhikaaDoor
open Go.RowKit
set_option linter.unusedVariables false
set_option linter.unusedSimpArgs false

/-- The numeral of n, as a string. -/
def numB (n : Int) : ByteArray := ⟨(Lib.itoa n).toArray⟩
def decB (u : Nat) : ByteArray := ⟨(Lib.decDigits u).toArray⟩
theorem numB_pos (u : Nat) : numB u = decB u := by unfold numB decB; rw [Lib.itoa_nonneg]
theorem numB_neg (u : Nat) (h : 1 ≤ u) : numB (-(u : Int)) = ⟨#[45]⟩ ++ decB u := by
  apply ByteArray.ext; apply Array.toList_inj.1
  unfold numB decB; rw [Lib.itoa_neg u h]; simp
theorem decB_small (u : Nat) (h : u < 10) : decB u = byteB (48 + u) := by
  unfold decB byteB; rw [Lib.decDigits_one h]
theorem decB_big (u : Nat) (h : 10 ≤ u) : decB u = decB (u / 10) ++ byteB (48 + u % 10) := by
  apply ByteArray.ext; apply Array.toList_inj.1
  unfold decB byteB; rw [Lib.decDigits, dif_neg (by omega)]; simp
theorem decB_size (u : Nat) (h : u ≤ 9223372036854775807) : (decB u).size ≤ 21 := by
  have h1 := Lib.itoa_length_le u (by omega) (by omega)
  rw [Lib.itoa_nonneg] at h1
  show (Lib.decDigits u).toArray.size ≤ 21
  simpa using h1

set_option maxRecDepth 100000 in
set_option maxHeartbeats 400000 in
theorem spec_FormatInt_pos (u : Nat) (w : World) (hu : u ≤ 9223372036854775807) :
    Calls Tryd.prog 28 #[.int .i64 u] w fun e w' => e = .returned (.string (decB u)) ∧ Below w.heap.size w w' := by
  have hs := decB_size u hu
  go_enter Tryd.func28, Tryd.ntmps28
  go_wp2
  go_loopw [0, 3] (fun i o wr => ∃ (m : Nat) (x : ByteArray), i = .int .i64 m ∧ o = .string x ∧ m ≤ u ∧ Hid (decB m ++ x = decB u) ∧ x.size ≤ 21 ∧ Below w.heap.size w wr) (fun i _ _ => (intOf i).toNat)
  case atStart => exact ⟨u, ⟨#[]⟩, rfl, rfl, Nat.le_refl _, Lib.hid (by apply ByteArray.ext; simp), by decide, Below.refl _ _⟩
  case round =>
    obtain ⟨m, x, rfl, rfl, hm, HM, hx, hbw⟩ := hrel
    by_cases hn : 9 < m
    · have hcv := conv_one wr (48 + m % 10) (by omega)
      have ec : ((48 + m % 10 : Nat) : Int) = 48 + (m : Int) % 10 := by omega
      rw [ec] at hcv
      clear ec
      have hbs : (byteB (48 + m % 10)).size ≤ 1 := Nat.le_refl _
      have ed : ((m : Int) / 10) = ((m / 10 : Nat) : Int) := by omega
      have HD := Lib.hid ed
      clear ed
      have hstep : Hid (decB (m / 10) ++ (byteB (48 + m % 10) ++ x) = decB u) := Lib.hid (by rw [← HM.out, decB_big m (by omega), ByteArray.append_assoc])
      have hxs : (byteB (48 + m % 10) ++ x).size ≤ 21 := by
        have h1 : (decB (m / 10) ++ (byteB (48 + m % 10) ++ x)).size = (decB (m / 10)).size + (byteB (48 + m % 10) ++ x).size := ByteArray.size_append
        rw [hstep.out] at h1
        omega
      go_wp2
      go_roundw
      case rel => exact ⟨m / 10, byteB (48 + m % 10) ++ x, by rw [HD.out], rfl, by omega, hstep, hxs, hbw.alloc hbw.size _⟩
      case measure => simp [intOf]; omega
    · have hcv := conv_one wr (48 + m) (by omega)
      have ec : ((48 + m : Nat) : Int) = 48 + (m : Int) := by omega
      rw [ec] at hcv
      clear ec
      have hbs : (byteB (48 + m)).size ≤ 1 := Nat.le_refl _
      have hend : Hid (byteB (48 + m) ++ x = decB u) := Lib.hid (by rw [← HM.out, decB_small m (by omega)])
      go_wp2
      go_ret
      exact ⟨by rw [← hend.out]; rfl, hbw.alloc hbw.size _⟩

theorem cell_after {W w1 : World} (hb : Below W.heap.size W w1) {g : Nat} {x : Value} (h : W.cell? ⟨g, 0, none⟩ = some x) : w1.cell? ⟨g, 0, none⟩ = some x := by
  refine (hb.cell (p := ⟨g, 0, none⟩) ?_).trans h
  rcases Nat.lt_or_ge g W.heap.size with hlt | hge
  · exact hlt
  · have : W.heap[g]? = none := Array.getElem?_eq_none hge
    simp [World.cell?, this] at h
theorem below_call_alloc {w w1 : World} (hb : Below w.drew.heap.size w.drew w1) (o : Obj) : Below w.heap.size w (w1.alloc o) :=
  Below.alloc (show Below w.heap.size w w1 from ⟨hb.os, hb.tape, hb.output, hb.size, hb.block⟩) hb.size o
theorem below_alloc_call {w w1 : World} {o : Obj} (hb : Below (w.alloc o).drew.heap.size (w.alloc o).drew w1) : Below w.heap.size w w1 :=
  (((Below.refl w.heap.size w).alloc (Nat.le_refl _) o).drew).trans (hb.mono (by show w.heap.size ≤ (w.alloc o).heap.size; simp))
theorem cell_new (w : World) (x : Value) (t : TypeId) : (w.alloc (.cells #[x] t)).cell? ⟨w.heap.size, 0, none⟩ = some x := cell_one_new w x t 0 x rfl
theorem not_big (y b : ByteArray) (hy : y.size ≤ 22) (hb : b.size ≤ 1) : ¬ 9223372036854775807 < y.size + b.size := by omega

set_option maxRecDepth 100000 in
set_option maxHeartbeats 1000000 in
theorem spec_FormatInt_neg : ∀ (u : Nat) (w : World), 1 ≤ u → u ≤ 9223372036854775808 →
    Calls Tryd.prog 28 #[.int .i64 (-(u : Int))] w fun e w' => e = .returned (.string (⟨#[45]⟩ ++ decB u)) ∧ Below w.heap.size w w' := by
  intro u
  induction u using Nat.strongRecOn with
  | _ u ih =>
    intro w h1 h2
    by_cases hb : u < 10
    · have hcv := conv_one w (48 + u) (by omega)
      have ec : ((48 + u : Nat) : Int) = 48 + (u : Int) := by omega
      rw [ec] at hcv
      clear ec
      have HE := Lib.hid (decB_small u hb)
      have hq : ((-(u : Int)).tdiv 10 == 0) = true := by
        rw [Int.neg_tdiv, Int.tdiv_eq_ediv_of_nonneg (by omega)]
        simp; omega
      go_enter Tryd.func28, Tryd.ntmps28
      go_wp2
      go_ret
      exact ⟨by rw [HE.out]; rfl, (Below.refl _ _).alloc (Nat.le_refl _) _⟩
    · obtain ⟨b, hb0⟩ : ∃ b, b = byteB (48 + u % 10) := ⟨_, rfl⟩
      have HB := Lib.hid hb0
      have hbs : b.size ≤ 1 := by rw [hb0]; exact Nat.le_refl _
      have hct : ∀ W, Calls Tryd.prog 28 #[.int .i64 (-((u : Int) / 10))] W fun e w' => ∃ y : ByteArray, e = .returned (.string y) ∧ y.size ≤ 22 ∧ Hid (y = ⟨#[45]⟩ ++ decB (u / 10)) ∧ Below W.heap.size W w' := by
        intro W
        have := ih (u / 10) (by omega) W (by omega) (by omega)
        rw [show ((u / 10 : Nat) : Int) = (u : Int) / 10 from by omega] at this
        refine this.mono fun e w' ⟨he, hb⟩ => ⟨_, he, ?_, Lib.hid rfl, hb⟩
        have h3 : ((⟨#[45]⟩ : ByteArray) ++ decB (u / 10)).size = 1 + (decB (u / 10)).size := ByteArray.size_append
        have := decB_size (u / 10) (by omega)
        omega
      have HC := Lib.hid hct
      have hcv : ∀ W : World, (convert 71 9 (.slice (some ⟨W.heap.size, 0, none⟩) 1 1)).run Tryd.prog (W.alloc (.cells #[.int .u8 (48 + (u : Int) % 10)] 5)) = .ok (.string b) (W.alloc (.cells #[.int .u8 (48 + (u : Int) % 10)] 5)) := by
        intro W
        have := conv_one W (48 + u % 10) (by omega)
        rw [show ((48 + u % 10 : Nat) : Int) = 48 + (u : Int) % 10 from by omega, ← hb0] at this
        exact this
      have hca := conv_at (48 + u % 10) (by omega)
      rw [show ((48 + u % 10 : Nat) : Int) = 48 + (u : Int) % 10 from by omega, ← hb0] at hca
      have HA := Lib.hid hca
      have hcvd := fun W : World => hca (W.alloc (.cells #[.int .u8 (48 + (u : Int) % 10)] 5)).drew W.heap.size (cell_new W (.int .u8 (48 + (u : Int) % 10)) 5)
      have hq : ((-(u : Int)) / 10 == 0) = false := by simp; omega
      have hq2 : (-((u : Int) / 10) == 0) = false := by simp; omega
      have HE := Lib.hid (decB_big u (by omega))
      have hw1 : IntKind.i64.wrap (-((u : Int) / 10)) = -((u : Int) / 10) := IntWalk.i64_in _ (by omega)
      have hw2 : ((u : Int)).tmod 10 = (u : Int) % 10 := Int.tmod_eq_emod_of_nonneg (by omega)
      have hw3 : IntKind.i64.wrap (48 + (u : Int) % 10) = 48 + (u : Int) % 10 := IntWalk.i64_in _ (by omega)
      have hw4 : IntKind.u8.wrap (48 + (u : Int) % 10) = 48 + (u : Int) % 10 := IntWalk.u8_in _ (by omega)
      clear hct hca ih hb0
      go_enter Tryd.func28, Tryd.ntmps28
      go_wp2
      go_region_with (first | (go_at_call 28; refine (HC.out _).mono ?_; rintro e w1 ⟨y, rfl, hy, HY, hb1⟩; have hcv2 := HA.out w1 w.heap.size (cell_after hb1 (cell_new w (.int .u8 (48 + (u : Int) % 10)) 5)); have hcat := not_big y b hy hbs) | (go_at_call 28; refine (HC.out _).mono ?_; rintro e w1 ⟨y, rfl, hy, HY, hb1⟩; have hcat := not_big y b hy hbs))
      all_goals
        go_wp2
        go_ret
        have hfin : (⟨#[45]⟩ : ByteArray) ++ decB u = y ++ b := by rw [HE.out, HY.out, HB.out, ByteArray.append_assoc]
        refine ⟨by rw [hfin]; rfl, ?_⟩
        first | exact below_call_alloc hb1 _ | exact below_alloc_call hb1

end Go.Proofs.YtgajodcgedhikaaDoor
