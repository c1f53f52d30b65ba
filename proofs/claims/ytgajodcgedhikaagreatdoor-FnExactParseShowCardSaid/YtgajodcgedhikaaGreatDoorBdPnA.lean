/-
  WALKS of impl's hasNode, NodeOk, freeTie, tieOk.
  WALK of impl's watchersOf.
-/
import Derived.Test.YtgajodcgedhikaaGreatDoorShQ
import Derived.Test.YtgajodcgedhikaaGreatDoorBdStP
import Derived.Maps.RangeWalk
namespace Go.Proofs.YtgajodcgedhikaaGreatDoor
open Go.RowKit
set_option linter.unusedVariables false
set_option linter.unusedSimpArgs false

set_option maxRecDepth 100000 in
set_option maxHeartbeats 1000000 in
theorem showNode_any (A : Option Addr) (k c : Nat) (B : Option Addr) (m d : Nat) (h x : Int) (w : World) :
    Calls Tryz.prog 83 #[shV A k c B m d h, .int .i64 x] w fun e w' => e = .returned (.bool (decide (0 ≤ x) && decide (x < k))) ∧ Below w.heap.size w w' := by
  unfold shV
  by_cases h0 : 0 ≤ x
  · have t0 : decide (0 ≤ x) = true := decide_eq_true h0
    go_enter Tryz.func83, Tryz.ntmps83
    go_wp2_with fail
    go_ret
    exact ⟨ret_b (by simp [t0]), (by repeat (first | exact Below.refl _ _ | refine below_step (by assumption) (by first | omega | (simp; done) | (simp; omega)) ?_ | refine below_drewN ?_ _ | refine Below.drew ?_ | refine Below.setCell ?_ (by first | omega | (simp; done) | (simp; omega)) _ | refine Below.alloc ?_ (by first | omega | (simp; done) | (simp; omega)) _))⟩
  · have t0 : decide (0 ≤ x) = false := decide_eq_false h0
    go_enter Tryz.func83, Tryz.ntmps83
    go_wp2_with fail
    go_ret
    exact ⟨ret_b (by simp [t0]), (by repeat (first | exact Below.refl _ _ | refine below_step (by assumption) (by first | omega | (simp; done) | (simp; omega)) ?_ | refine below_drewN ?_ _ | refine Below.drew ?_ | refine Below.setCell ?_ (by first | omega | (simp; done) | (simp; omega)) _ | refine Below.alloc ?_ (by first | omega | (simp; done) | (simp; omega)) _))⟩

set_option maxRecDepth 100000 in
set_option maxHeartbeats 4000000 in
theorem impl_NodeOk (e : GN) (L : Option Addr) (c k : Nat) (w : World) (hk : e.lab.length = k) (hm : k ≤ 1048576) (hn : e.name.size ≤ maxLen) (hr : RowAt w L (e.lab.map intV)) :
    Calls Tryz.prog 64 #[.agg #[.string e.name, .slice L k c, .int .i64 e.wat]] w fun x w' => x = .returned (.bool (nodB e)) ∧ Below w.heap.size w w' := by
  obtain ⟨nm, lab, wat⟩ := e
  have HV := Lib.hid (nodB_eq nm lab wat)
  dsimp only at hk hr hn ⊢
  have HNM := Lib.hid (fun W => impl_IsName nm W hn)
  have HLB := Lib.hid (fun W h => impl_LabelOk0 lab L k c W hk hm h)
  have HR := Lib.hid hr
  clear hr hk hn
  obtain ⟨b1, hb1⟩ : ∃ b, b = nameB nm.data.toList := ⟨_, rfl⟩
  obtain ⟨b2, hb2⟩ : ∃ b, b = labR lab := ⟨_, rfl⟩
  rw [← hb1] at HNM HV
  rw [← hb2] at HLB HV
  clear hb1 hb2
  cases b1 with
  | false =>
    go_enter Tryz.func64, Tryz.ntmps64
    go_wp2_with fail
    refine (HNM.out _).mono ?_
    rintro x w1 ⟨rfl, b1⟩
    go_wp2_with fail
    go_ret
    exact ⟨ret_b (by rw [HV.out]; rfl), (by repeat (first | exact Below.refl _ _ | refine below_step (by assumption) (by first | omega | (simp; done) | (simp; omega)) ?_ | refine below_drewN ?_ _ | refine Below.drew ?_ | refine Below.setCell ?_ (by first | omega | (simp; done) | (simp; omega)) _ | refine Below.alloc ?_ (by first | omega | (simp; done) | (simp; omega)) _))⟩
  | true =>
    go_enter Tryz.func64, Tryz.ntmps64
    go_wp2_with fail
    refine (HNM.out _).mono ?_
    rintro x w1 ⟨rfl, b1⟩
    have c0 : w1.cell? ⟨w.heap.size, 0, none⟩ = some (.string nm) := (b1.cell (p := ⟨w.heap.size, 0, none⟩) (by first | omega | (simp; done) | (simp; omega))).trans (by first | assumption | go_simp)
    have c1 : w1.cell? ⟨w.heap.size, 1, none⟩ = some (.slice L k c) := (b1.cell (p := ⟨w.heap.size, 1, none⟩) (by first | omega | (simp; done) | (simp; omega))).trans (by first | assumption | go_simp)
    have c2 : w1.cell? ⟨w.heap.size, 2, none⟩ = some (.int .i64 wat) := (b1.cell (p := ⟨w.heap.size, 2, none⟩) (by first | omega | (simp; done) | (simp; omega))).trans (by first | assumption | go_simp)
    have B1 : Below w.heap.size w w1 := (by repeat (first | exact Below.refl _ _ | refine below_step (by assumption) (by first | omega | (simp; done) | (simp; omega)) ?_ | refine below_drewN ?_ _ | refine Below.drew ?_ | refine Below.setCell ?_ (by first | omega | (simp; done) | (simp; omega)) _ | refine Below.alloc ?_ (by first | omega | (simp; done) | (simp; omega)) _))
    have hlt : w.heap.size < w1.heap.size := Nat.lt_of_lt_of_le (by first | omega | (simp; done) | (simp; omega)) b1.size
    clear b1
    go_wp2_with fail
    refine (HLB.out _ (HR.out.below B1)).mono ?_
    rintro x w2 ⟨rfl, rfl⟩
    cases b2 with
    | false =>
      go_wp2_with fail
      go_ret
      exact ⟨ret_b (by rw [HV.out]; rfl), (by repeat (first | exact Below.refl _ _ | refine below_step (by assumption) (by first | omega | (simp; done) | (simp; omega)) ?_ | refine below_drewN ?_ _ | refine Below.drew ?_ | refine Below.setCell ?_ (by first | omega | (simp; done) | (simp; omega)) _ | refine Below.alloc ?_ (by first | omega | (simp; done) | (simp; omega)) _))⟩
    | true =>
      by_cases h0 : 0 ≤ wat
      · by_cases h3 : wat ≤ 3
        · go_wp2_with fail
          go_ret
          exact ⟨ret_b (by rw [HV.out, decide_eq_true h0, decide_eq_true h3]; rfl), (by repeat (first | exact Below.refl _ _ | refine below_step (by assumption) (by first | omega | (simp; done) | (simp; omega)) ?_ | refine below_drewN ?_ _ | refine Below.drew ?_ | refine Below.setCell ?_ (by first | omega | (simp; done) | (simp; omega)) _ | refine Below.alloc ?_ (by first | omega | (simp; done) | (simp; omega)) _))⟩
        · go_wp2_with fail
          go_ret
          exact ⟨ret_b (by rw [HV.out, decide_eq_true h0, decide_eq_false (show ¬ wat ≤ 3 by omega)]; rfl), (by repeat (first | exact Below.refl _ _ | refine below_step (by assumption) (by first | omega | (simp; done) | (simp; omega)) ?_ | refine below_drewN ?_ _ | refine Below.drew ?_ | refine Below.setCell ?_ (by first | omega | (simp; done) | (simp; omega)) _ | refine Below.alloc ?_ (by first | omega | (simp; done) | (simp; omega)) _))⟩
      · go_wp2_with fail
        go_ret
        exact ⟨ret_b (by rw [HV.out, decide_eq_false (show ¬ 0 ≤ wat by omega)]; rfl), (by repeat (first | exact Below.refl _ _ | refine below_step (by assumption) (by first | omega | (simp; done) | (simp; omega)) ?_ | refine below_drewN ?_ _ | refine Below.drew ?_ | refine Below.setCell ?_ (by first | omega | (simp; done) | (simp; omega)) _ | refine Below.alloc ?_ (by first | omega | (simp; done) | (simp; omega)) _))⟩

set_option maxRecDepth 100000 in
set_option maxHeartbeats 4000000 in
theorem free_any (s : GS) (x : Int) (A : Option Addr) (k c : Nat) (B : Option Addr) (m d : Nat) (w : World) (hm : m ≤ 1048576) (ha : ShowAt w s A k B m) :
    Calls Tryz.prog 85 #[shV A k c B m d s.h, .int .i64 x] w fun e w' => e = .returned (.int .i64 (freR s.ts x)) ∧ Below w.heap.size w w' := by
  have HA := Lib.hid ha
  clear ha
  obtain ⟨h, hh⟩ : ∃ h, h = s.h := ⟨_, rfl⟩
  rw [← hh]
  clear hh
  unfold shV
  go_enter Tryz.func85, Tryz.ntmps85
  go_wp2_with fail
  go_loopw [10] (fun i wr => ∃ j : Nat, j ≤ m ∧ i = .int .i64 j ∧ (∀ q (hq : q < j) (hl : q < s.ts.length), ((s.ts[q]).fr && decide ((s.ts[q]).v = x)) = false) ∧ Below w.heap.size w wr) (fun i _ => m - (intOf i).toNat)
  case atStart => exact ⟨0, Nat.zero_le _, rfl, fun q hq => by omega, (by repeat (first | exact Below.refl _ _ | refine below_step (by assumption) (by first | omega | (simp; done) | (simp; omega)) ?_ | refine below_drewN ?_ _ | refine Below.drew ?_ | refine Below.setCell ?_ (by first | omega | (simp; done) | (simp; omega)) _ | refine Below.alloc ?_ (by first | omega | (simp; done) | (simp; omega)) _))⟩
  case round =>
    obtain ⟨j, hj, rfl, hall, hbw⟩ := hrel
    have HALL := Lib.hid hall
    clear hall
    by_cases hlt : j < m
    · have hjk : ((j : Int) < (m : Int)) := by omega
      have hl := HA.out.lt
      obtain ⟨g, o, rfl, hg, hc⟩ := HA.out.ties (by omega)
      have hc1 := hc j (by omega)
      obtain ⟨e, he⟩ : ∃ e, e = s.ts[j]'(by omega) := ⟨_, rfl⟩
      rw [← he] at hc1
      obtain ⟨eu, ev, elo, ehi, ef⟩ := e
      obtain ⟨d0, d1, d2, d3, d4⟩ := hc1
      dsimp only at d0 d1 d2 d3 d4
      have k0 := (hbw.cell (p := ⟨g, o + j * 5, none⟩) hg).trans d0
      have k1 := (hbw.cell (p := ⟨g, o + j * 5 + 1, none⟩) hg).trans d1
      have k2 := (hbw.cell (p := ⟨g, o + j * 5 + 2, none⟩) hg).trans d2
      have k3 := (hbw.cell (p := ⟨g, o + j * 5 + 3, none⟩) hg).trans d3
      have k4 := (hbw.cell (p := ⟨g, o + j * 5 + 4, none⟩) hg).trans d4
      have zr := hbw.size
      have BW := Lib.hid hbw
      have HE : Hid (∀ h : j < s.ts.length, s.ts[j]'h = ⟨eu, ev, elo, ehi, ef⟩) := Lib.hid (fun _ => he.symm)
      have HNO : Hid ((ef && decide (ev = x)) = false → ∀ q (hq : q < j + 1) (hl : q < s.ts.length), ((s.ts[q]).fr && decide ((s.ts[q]).v = x)) = false) := Lib.hid (fun h0 q hq hl => by
        by_cases eq : q = j
        · subst eq; rw [← he]; exact h0
        · exact HALL.out q (by omega) hl)
      clear hc d0 d1 d2 d3 d4 he hl hbw
      cases ef with
      | false =>
        go_wp2_with fail
        go_roundw
        case rel => exact ⟨j + 1, by omega, by go_num, HNO.out rfl, BW.out.alloc zr _⟩
        case measure => simp [intOf]; omega
      | true =>
        by_cases hx : ev = x
        · have hb : (ev == x) = true := by simp [hx]
          have HX := Lib.hid hx
          clear hx
          go_wp2_with fail
          go_ret
          refine ⟨int_ans ?_, BW.out.alloc zr _⟩
          unfold freR
          rw [fir_at (j := j) (by have := HA.out.lt; omega) HALL.out (by rw [HE.out]; dsimp only; rw [decide_eq_true HX.out]; rfl)]
        · have hb : (ev == x) = false := by simp [hx]
          have HX := Lib.hid hx
          clear hx
          go_wp2_with fail
          go_roundw
          case rel => exact ⟨j + 1, by omega, by go_num, HNO.out (by rw [decide_eq_false HX.out]; rfl), BW.out.alloc zr _⟩
          case measure => simp [intOf]; omega
    · have hjk : ¬ ((j : Int) < (m : Int)) := by omega
      go_wp2_with fail
      go_ret
      refine ⟨int_ans ?_, hbw⟩
      unfold freR
      rw [fir_all (j := j) HALL.out (by have := HA.out.lt; omega)]

def tkB (k : Nat) (t : GT) : Bool := (decide (0 ≤ t.u) && decide (t.u < k)) && ((decide (0 ≤ t.v) && decide (t.v < k)) && (decide (t.u ≠ t.v) && (decide (-20 ≤ t.lo) && (decide (t.lo ≤ t.hi) && decide (t.hi ≤ 20)))))

set_option maxRecDepth 100000 in
set_option maxHeartbeats 4000000 in
theorem tieOk_any (A : Option Addr) (k c : Nat) (B : Option Addr) (m d : Nat) (h : Int) (t : GT) (w : World) :
    Calls Tryz.prog 66 #[shV A k c B m d h, t.val] w fun e w' => e = .returned (.bool (tkB k t)) ∧ Below w.heap.size w w' := by
  obtain ⟨u, v, lo, hi, fr⟩ := t
  have H1 := Lib.hid (fun W => showNode_any A k c B m d h u W)
  have H2 := Lib.hid (fun W => showNode_any A k c B m d h v W)
  have HV : Hid (tkB k ⟨u, v, lo, hi, fr⟩ = ((decide (0 ≤ u) && decide (u < k)) && ((decide (0 ≤ v) && decide (v < k)) && (decide (u ≠ v) && (decide (-20 ≤ lo) && (decide (lo ≤ hi) && decide (hi ≤ 20))))))) := Lib.hid rfl
  unfold shV at H1 H2 ⊢
  unfold GT.val
  dsimp only
  obtain ⟨b1, hb1⟩ : ∃ b, b = (decide (0 ≤ u) && decide (u < k)) := ⟨_, rfl⟩
  obtain ⟨b2, hb2⟩ : ∃ b, b = (decide (0 ≤ v) && decide (v < k)) := ⟨_, rfl⟩
  rw [← hb1] at H1 HV
  rw [← hb2] at H2 HV
  clear hb1 hb2
  cases b1 with
  | false =>
    go_enter Tryz.func66, Tryz.ntmps66
    go_wp2_with fail
    refine (H1.out _).mono ?_
    rintro e w1 ⟨rfl, b1⟩
    have c0_w1 : w1.cell? ⟨w.heap.size, 0, none⟩ = some (.slice A k c) := (b1.cell (p := ⟨w.heap.size, 0, none⟩) (by first | omega | (simp; done) | (simp; omega))).trans (by first | assumption | go_simp)
    have c1_w1 : w1.cell? ⟨w.heap.size, 1, none⟩ = some (.slice B m d) := (b1.cell (p := ⟨w.heap.size, 1, none⟩) (by first | omega | (simp; done) | (simp; omega))).trans (by first | assumption | go_simp)
    have c2_w1 : w1.cell? ⟨w.heap.size, 2, none⟩ = some (.int .i64 h) := (b1.cell (p := ⟨w.heap.size, 2, none⟩) (by first | omega | (simp; done) | (simp; omega))).trans (by first | assumption | go_simp)
    have c3_w1 : w1.cell? ⟨w.heap.size + 1, 0, none⟩ = some (.int .i64 u) := (b1.cell (p := ⟨w.heap.size + 1, 0, none⟩) (by first | omega | (simp; done) | (simp; omega))).trans (by first | assumption | go_simp)
    have c4_w1 : w1.cell? ⟨w.heap.size + 1, 1, none⟩ = some (.int .i64 v) := (b1.cell (p := ⟨w.heap.size + 1, 1, none⟩) (by first | omega | (simp; done) | (simp; omega))).trans (by first | assumption | go_simp)
    have c5_w1 : w1.cell? ⟨w.heap.size + 1, 2, none⟩ = some (.int .i64 lo) := (b1.cell (p := ⟨w.heap.size + 1, 2, none⟩) (by first | omega | (simp; done) | (simp; omega))).trans (by first | assumption | go_simp)
    have c6_w1 : w1.cell? ⟨w.heap.size + 1, 3, none⟩ = some (.int .i64 hi) := (b1.cell (p := ⟨w.heap.size + 1, 3, none⟩) (by first | omega | (simp; done) | (simp; omega))).trans (by first | assumption | go_simp)
    have c7_w1 : w1.cell? ⟨w.heap.size + 1, 4, none⟩ = some (.bool fr) := (b1.cell (p := ⟨w.heap.size + 1, 4, none⟩) (by first | omega | (simp; done) | (simp; omega))).trans (by first | assumption | go_simp)
    have s0_w1 : w.heap.size < w1.heap.size := Nat.lt_of_lt_of_le (by first | omega | (simp; done) | (simp; omega)) b1.size
    have s1_w1 : w.heap.size + 1 < w1.heap.size := Nat.lt_of_lt_of_le (by first | omega | (simp; done) | (simp; omega)) b1.size
    have B_w1 : Below w.heap.size w w1 := (by repeat (first | exact Below.refl _ _ | refine below_step (by assumption) (by first | omega | (simp; done) | (simp; omega)) ?_ | refine below_drewN ?_ _ | refine Below.drew ?_ | refine Below.setCell ?_ (by first | omega | (simp; done) | (simp; omega)) _ | refine Below.alloc ?_ (by first | omega | (simp; done) | (simp; omega)) _))
    clear b1  
    go_wp2_with fail
    go_ret
    exact ⟨ret_b (by rw [HV.out]; rfl), B_w1⟩
  | true =>
    cases b2 with
    | false =>
      go_enter Tryz.func66, Tryz.ntmps66
      go_wp2_with fail
      refine (H1.out _).mono ?_
      rintro e w1 ⟨rfl, b1⟩
      have c0_w1 : w1.cell? ⟨w.heap.size, 0, none⟩ = some (.slice A k c) := (b1.cell (p := ⟨w.heap.size, 0, none⟩) (by first | omega | (simp; done) | (simp; omega))).trans (by first | assumption | go_simp)
      have c1_w1 : w1.cell? ⟨w.heap.size, 1, none⟩ = some (.slice B m d) := (b1.cell (p := ⟨w.heap.size, 1, none⟩) (by first | omega | (simp; done) | (simp; omega))).trans (by first | assumption | go_simp)
      have c2_w1 : w1.cell? ⟨w.heap.size, 2, none⟩ = some (.int .i64 h) := (b1.cell (p := ⟨w.heap.size, 2, none⟩) (by first | omega | (simp; done) | (simp; omega))).trans (by first | assumption | go_simp)
      have c3_w1 : w1.cell? ⟨w.heap.size + 1, 0, none⟩ = some (.int .i64 u) := (b1.cell (p := ⟨w.heap.size + 1, 0, none⟩) (by first | omega | (simp; done) | (simp; omega))).trans (by first | assumption | go_simp)
      have c4_w1 : w1.cell? ⟨w.heap.size + 1, 1, none⟩ = some (.int .i64 v) := (b1.cell (p := ⟨w.heap.size + 1, 1, none⟩) (by first | omega | (simp; done) | (simp; omega))).trans (by first | assumption | go_simp)
      have c5_w1 : w1.cell? ⟨w.heap.size + 1, 2, none⟩ = some (.int .i64 lo) := (b1.cell (p := ⟨w.heap.size + 1, 2, none⟩) (by first | omega | (simp; done) | (simp; omega))).trans (by first | assumption | go_simp)
      have c6_w1 : w1.cell? ⟨w.heap.size + 1, 3, none⟩ = some (.int .i64 hi) := (b1.cell (p := ⟨w.heap.size + 1, 3, none⟩) (by first | omega | (simp; done) | (simp; omega))).trans (by first | assumption | go_simp)
      have c7_w1 : w1.cell? ⟨w.heap.size + 1, 4, none⟩ = some (.bool fr) := (b1.cell (p := ⟨w.heap.size + 1, 4, none⟩) (by first | omega | (simp; done) | (simp; omega))).trans (by first | assumption | go_simp)
      have s0_w1 : w.heap.size < w1.heap.size := Nat.lt_of_lt_of_le (by first | omega | (simp; done) | (simp; omega)) b1.size
      have s1_w1 : w.heap.size + 1 < w1.heap.size := Nat.lt_of_lt_of_le (by first | omega | (simp; done) | (simp; omega)) b1.size
      have B_w1 : Below w.heap.size w w1 := (by repeat (first | exact Below.refl _ _ | refine below_step (by assumption) (by first | omega | (simp; done) | (simp; omega)) ?_ | refine below_drewN ?_ _ | refine Below.drew ?_ | refine Below.setCell ?_ (by first | omega | (simp; done) | (simp; omega)) _ | refine Below.alloc ?_ (by first | omega | (simp; done) | (simp; omega)) _))
      clear b1  
      go_wp2_with fail
      refine (H2.out _).mono ?_
      rintro e w2 ⟨rfl, b2⟩
      have c0_w2 : w2.cell? ⟨w.heap.size, 0, none⟩ = some (.slice A k c) := (b2.cell (p := ⟨w.heap.size, 0, none⟩) (by first | omega | (simp; done) | (simp; omega))).trans (by first | assumption | go_simp)
      have c1_w2 : w2.cell? ⟨w.heap.size, 1, none⟩ = some (.slice B m d) := (b2.cell (p := ⟨w.heap.size, 1, none⟩) (by first | omega | (simp; done) | (simp; omega))).trans (by first | assumption | go_simp)
      have c2_w2 : w2.cell? ⟨w.heap.size, 2, none⟩ = some (.int .i64 h) := (b2.cell (p := ⟨w.heap.size, 2, none⟩) (by first | omega | (simp; done) | (simp; omega))).trans (by first | assumption | go_simp)
      have c3_w2 : w2.cell? ⟨w.heap.size + 1, 0, none⟩ = some (.int .i64 u) := (b2.cell (p := ⟨w.heap.size + 1, 0, none⟩) (by first | omega | (simp; done) | (simp; omega))).trans (by first | assumption | go_simp)
      have c4_w2 : w2.cell? ⟨w.heap.size + 1, 1, none⟩ = some (.int .i64 v) := (b2.cell (p := ⟨w.heap.size + 1, 1, none⟩) (by first | omega | (simp; done) | (simp; omega))).trans (by first | assumption | go_simp)
      have c5_w2 : w2.cell? ⟨w.heap.size + 1, 2, none⟩ = some (.int .i64 lo) := (b2.cell (p := ⟨w.heap.size + 1, 2, none⟩) (by first | omega | (simp; done) | (simp; omega))).trans (by first | assumption | go_simp)
      have c6_w2 : w2.cell? ⟨w.heap.size + 1, 3, none⟩ = some (.int .i64 hi) := (b2.cell (p := ⟨w.heap.size + 1, 3, none⟩) (by first | omega | (simp; done) | (simp; omega))).trans (by first | assumption | go_simp)
      have c7_w2 : w2.cell? ⟨w.heap.size + 1, 4, none⟩ = some (.bool fr) := (b2.cell (p := ⟨w.heap.size + 1, 4, none⟩) (by first | omega | (simp; done) | (simp; omega))).trans (by first | assumption | go_simp)
      have s0_w2 : w.heap.size < w2.heap.size := Nat.lt_of_lt_of_le (by first | omega | (simp; done) | (simp; omega)) b2.size
      have s1_w2 : w.heap.size + 1 < w2.heap.size := Nat.lt_of_lt_of_le (by first | omega | (simp; done) | (simp; omega)) b2.size
      have B_w2 : Below w.heap.size w w2 := (by repeat (first | exact Below.refl _ _ | refine below_step (by assumption) (by first | omega | (simp; done) | (simp; omega)) ?_ | refine below_drewN ?_ _ | refine Below.drew ?_ | refine Below.setCell ?_ (by first | omega | (simp; done) | (simp; omega)) _ | refine Below.alloc ?_ (by first | omega | (simp; done) | (simp; omega)) _))
      clear b2 c0_w1 c1_w1 c2_w1 c3_w1 c4_w1 c5_w1 c6_w1 c7_w1 s0_w1 s1_w1 B_w1
      go_wp2_with fail
      go_ret
      exact ⟨ret_b (by rw [HV.out]; rfl), B_w2⟩
    | true =>
      by_cases e1 : u = v
      · have t1 : (u != v) = false := by simp [e1]
        have HE1 := Lib.hid (decide_eq_false (show ¬ u ≠ v from fun e => e e1))
        clear e1
        go_enter Tryz.func66, Tryz.ntmps66
        go_wp2_with fail
        refine (H1.out _).mono ?_
        rintro e w1 ⟨rfl, b1⟩
        have c0_w1 : w1.cell? ⟨w.heap.size, 0, none⟩ = some (.slice A k c) := (b1.cell (p := ⟨w.heap.size, 0, none⟩) (by first | omega | (simp; done) | (simp; omega))).trans (by first | assumption | go_simp)
        have c1_w1 : w1.cell? ⟨w.heap.size, 1, none⟩ = some (.slice B m d) := (b1.cell (p := ⟨w.heap.size, 1, none⟩) (by first | omega | (simp; done) | (simp; omega))).trans (by first | assumption | go_simp)
        have c2_w1 : w1.cell? ⟨w.heap.size, 2, none⟩ = some (.int .i64 h) := (b1.cell (p := ⟨w.heap.size, 2, none⟩) (by first | omega | (simp; done) | (simp; omega))).trans (by first | assumption | go_simp)
        have c3_w1 : w1.cell? ⟨w.heap.size + 1, 0, none⟩ = some (.int .i64 u) := (b1.cell (p := ⟨w.heap.size + 1, 0, none⟩) (by first | omega | (simp; done) | (simp; omega))).trans (by first | assumption | go_simp)
        have c4_w1 : w1.cell? ⟨w.heap.size + 1, 1, none⟩ = some (.int .i64 v) := (b1.cell (p := ⟨w.heap.size + 1, 1, none⟩) (by first | omega | (simp; done) | (simp; omega))).trans (by first | assumption | go_simp)
        have c5_w1 : w1.cell? ⟨w.heap.size + 1, 2, none⟩ = some (.int .i64 lo) := (b1.cell (p := ⟨w.heap.size + 1, 2, none⟩) (by first | omega | (simp; done) | (simp; omega))).trans (by first | assumption | go_simp)
        have c6_w1 : w1.cell? ⟨w.heap.size + 1, 3, none⟩ = some (.int .i64 hi) := (b1.cell (p := ⟨w.heap.size + 1, 3, none⟩) (by first | omega | (simp; done) | (simp; omega))).trans (by first | assumption | go_simp)
        have c7_w1 : w1.cell? ⟨w.heap.size + 1, 4, none⟩ = some (.bool fr) := (b1.cell (p := ⟨w.heap.size + 1, 4, none⟩) (by first | omega | (simp; done) | (simp; omega))).trans (by first | assumption | go_simp)
        have s0_w1 : w.heap.size < w1.heap.size := Nat.lt_of_lt_of_le (by first | omega | (simp; done) | (simp; omega)) b1.size
        have s1_w1 : w.heap.size + 1 < w1.heap.size := Nat.lt_of_lt_of_le (by first | omega | (simp; done) | (simp; omega)) b1.size
        have B_w1 : Below w.heap.size w w1 := (by repeat (first | exact Below.refl _ _ | refine below_step (by assumption) (by first | omega | (simp; done) | (simp; omega)) ?_ | refine below_drewN ?_ _ | refine Below.drew ?_ | refine Below.setCell ?_ (by first | omega | (simp; done) | (simp; omega)) _ | refine Below.alloc ?_ (by first | omega | (simp; done) | (simp; omega)) _))
        clear b1  
        go_wp2_with fail
        refine (H2.out _).mono ?_
        rintro e w2 ⟨rfl, b2⟩
        have c0_w2 : w2.cell? ⟨w.heap.size, 0, none⟩ = some (.slice A k c) := (b2.cell (p := ⟨w.heap.size, 0, none⟩) (by first | omega | (simp; done) | (simp; omega))).trans (by first | assumption | go_simp)
        have c1_w2 : w2.cell? ⟨w.heap.size, 1, none⟩ = some (.slice B m d) := (b2.cell (p := ⟨w.heap.size, 1, none⟩) (by first | omega | (simp; done) | (simp; omega))).trans (by first | assumption | go_simp)
        have c2_w2 : w2.cell? ⟨w.heap.size, 2, none⟩ = some (.int .i64 h) := (b2.cell (p := ⟨w.heap.size, 2, none⟩) (by first | omega | (simp; done) | (simp; omega))).trans (by first | assumption | go_simp)
        have c3_w2 : w2.cell? ⟨w.heap.size + 1, 0, none⟩ = some (.int .i64 u) := (b2.cell (p := ⟨w.heap.size + 1, 0, none⟩) (by first | omega | (simp; done) | (simp; omega))).trans (by first | assumption | go_simp)
        have c4_w2 : w2.cell? ⟨w.heap.size + 1, 1, none⟩ = some (.int .i64 v) := (b2.cell (p := ⟨w.heap.size + 1, 1, none⟩) (by first | omega | (simp; done) | (simp; omega))).trans (by first | assumption | go_simp)
        have c5_w2 : w2.cell? ⟨w.heap.size + 1, 2, none⟩ = some (.int .i64 lo) := (b2.cell (p := ⟨w.heap.size + 1, 2, none⟩) (by first | omega | (simp; done) | (simp; omega))).trans (by first | assumption | go_simp)
        have c6_w2 : w2.cell? ⟨w.heap.size + 1, 3, none⟩ = some (.int .i64 hi) := (b2.cell (p := ⟨w.heap.size + 1, 3, none⟩) (by first | omega | (simp; done) | (simp; omega))).trans (by first | assumption | go_simp)
        have c7_w2 : w2.cell? ⟨w.heap.size + 1, 4, none⟩ = some (.bool fr) := (b2.cell (p := ⟨w.heap.size + 1, 4, none⟩) (by first | omega | (simp; done) | (simp; omega))).trans (by first | assumption | go_simp)
        have s0_w2 : w.heap.size < w2.heap.size := Nat.lt_of_lt_of_le (by first | omega | (simp; done) | (simp; omega)) b2.size
        have s1_w2 : w.heap.size + 1 < w2.heap.size := Nat.lt_of_lt_of_le (by first | omega | (simp; done) | (simp; omega)) b2.size
        have B_w2 : Below w.heap.size w w2 := (by repeat (first | exact Below.refl _ _ | refine below_step (by assumption) (by first | omega | (simp; done) | (simp; omega)) ?_ | refine below_drewN ?_ _ | refine Below.drew ?_ | refine Below.setCell ?_ (by first | omega | (simp; done) | (simp; omega)) _ | refine Below.alloc ?_ (by first | omega | (simp; done) | (simp; omega)) _))
        clear b2 c0_w1 c1_w1 c2_w1 c3_w1 c4_w1 c5_w1 c6_w1 c7_w1 s0_w1 s1_w1 B_w1
        go_wp2_with fail
        go_ret
        exact ⟨ret_b (by rw [HV.out, HE1.out]; rfl), B_w2⟩
      · have t1 : (u != v) = true := by simp [e1]
        have HE1 := Lib.hid (decide_eq_true (show u ≠ v from e1))
        clear e1
        by_cases e2 : -20 ≤ lo
        · have HE2 := Lib.hid (decide_eq_true e2)
          by_cases e3 : lo ≤ hi
          · have HE3 := Lib.hid (decide_eq_true e3)
            go_enter Tryz.func66, Tryz.ntmps66
            go_wp2_with fail
            refine (H1.out _).mono ?_
            rintro e w1 ⟨rfl, b1⟩
            have c0_w1 : w1.cell? ⟨w.heap.size, 0, none⟩ = some (.slice A k c) := (b1.cell (p := ⟨w.heap.size, 0, none⟩) (by first | omega | (simp; done) | (simp; omega))).trans (by first | assumption | go_simp)
            have c1_w1 : w1.cell? ⟨w.heap.size, 1, none⟩ = some (.slice B m d) := (b1.cell (p := ⟨w.heap.size, 1, none⟩) (by first | omega | (simp; done) | (simp; omega))).trans (by first | assumption | go_simp)
            have c2_w1 : w1.cell? ⟨w.heap.size, 2, none⟩ = some (.int .i64 h) := (b1.cell (p := ⟨w.heap.size, 2, none⟩) (by first | omega | (simp; done) | (simp; omega))).trans (by first | assumption | go_simp)
            have c3_w1 : w1.cell? ⟨w.heap.size + 1, 0, none⟩ = some (.int .i64 u) := (b1.cell (p := ⟨w.heap.size + 1, 0, none⟩) (by first | omega | (simp; done) | (simp; omega))).trans (by first | assumption | go_simp)
            have c4_w1 : w1.cell? ⟨w.heap.size + 1, 1, none⟩ = some (.int .i64 v) := (b1.cell (p := ⟨w.heap.size + 1, 1, none⟩) (by first | omega | (simp; done) | (simp; omega))).trans (by first | assumption | go_simp)
            have c5_w1 : w1.cell? ⟨w.heap.size + 1, 2, none⟩ = some (.int .i64 lo) := (b1.cell (p := ⟨w.heap.size + 1, 2, none⟩) (by first | omega | (simp; done) | (simp; omega))).trans (by first | assumption | go_simp)
            have c6_w1 : w1.cell? ⟨w.heap.size + 1, 3, none⟩ = some (.int .i64 hi) := (b1.cell (p := ⟨w.heap.size + 1, 3, none⟩) (by first | omega | (simp; done) | (simp; omega))).trans (by first | assumption | go_simp)
            have c7_w1 : w1.cell? ⟨w.heap.size + 1, 4, none⟩ = some (.bool fr) := (b1.cell (p := ⟨w.heap.size + 1, 4, none⟩) (by first | omega | (simp; done) | (simp; omega))).trans (by first | assumption | go_simp)
            have s0_w1 : w.heap.size < w1.heap.size := Nat.lt_of_lt_of_le (by first | omega | (simp; done) | (simp; omega)) b1.size
            have s1_w1 : w.heap.size + 1 < w1.heap.size := Nat.lt_of_lt_of_le (by first | omega | (simp; done) | (simp; omega)) b1.size
            have B_w1 : Below w.heap.size w w1 := (by repeat (first | exact Below.refl _ _ | refine below_step (by assumption) (by first | omega | (simp; done) | (simp; omega)) ?_ | refine below_drewN ?_ _ | refine Below.drew ?_ | refine Below.setCell ?_ (by first | omega | (simp; done) | (simp; omega)) _ | refine Below.alloc ?_ (by first | omega | (simp; done) | (simp; omega)) _))
            clear b1  
            go_wp2_with fail
            refine (H2.out _).mono ?_
            rintro e w2 ⟨rfl, b2⟩
            have c0_w2 : w2.cell? ⟨w.heap.size, 0, none⟩ = some (.slice A k c) := (b2.cell (p := ⟨w.heap.size, 0, none⟩) (by first | omega | (simp; done) | (simp; omega))).trans (by first | assumption | go_simp)
            have c1_w2 : w2.cell? ⟨w.heap.size, 1, none⟩ = some (.slice B m d) := (b2.cell (p := ⟨w.heap.size, 1, none⟩) (by first | omega | (simp; done) | (simp; omega))).trans (by first | assumption | go_simp)
            have c2_w2 : w2.cell? ⟨w.heap.size, 2, none⟩ = some (.int .i64 h) := (b2.cell (p := ⟨w.heap.size, 2, none⟩) (by first | omega | (simp; done) | (simp; omega))).trans (by first | assumption | go_simp)
            have c3_w2 : w2.cell? ⟨w.heap.size + 1, 0, none⟩ = some (.int .i64 u) := (b2.cell (p := ⟨w.heap.size + 1, 0, none⟩) (by first | omega | (simp; done) | (simp; omega))).trans (by first | assumption | go_simp)
            have c4_w2 : w2.cell? ⟨w.heap.size + 1, 1, none⟩ = some (.int .i64 v) := (b2.cell (p := ⟨w.heap.size + 1, 1, none⟩) (by first | omega | (simp; done) | (simp; omega))).trans (by first | assumption | go_simp)
            have c5_w2 : w2.cell? ⟨w.heap.size + 1, 2, none⟩ = some (.int .i64 lo) := (b2.cell (p := ⟨w.heap.size + 1, 2, none⟩) (by first | omega | (simp; done) | (simp; omega))).trans (by first | assumption | go_simp)
            have c6_w2 : w2.cell? ⟨w.heap.size + 1, 3, none⟩ = some (.int .i64 hi) := (b2.cell (p := ⟨w.heap.size + 1, 3, none⟩) (by first | omega | (simp; done) | (simp; omega))).trans (by first | assumption | go_simp)
            have c7_w2 : w2.cell? ⟨w.heap.size + 1, 4, none⟩ = some (.bool fr) := (b2.cell (p := ⟨w.heap.size + 1, 4, none⟩) (by first | omega | (simp; done) | (simp; omega))).trans (by first | assumption | go_simp)
            have s0_w2 : w.heap.size < w2.heap.size := Nat.lt_of_lt_of_le (by first | omega | (simp; done) | (simp; omega)) b2.size
            have s1_w2 : w.heap.size + 1 < w2.heap.size := Nat.lt_of_lt_of_le (by first | omega | (simp; done) | (simp; omega)) b2.size
            have B_w2 : Below w.heap.size w w2 := (by repeat (first | exact Below.refl _ _ | refine below_step (by assumption) (by first | omega | (simp; done) | (simp; omega)) ?_ | refine below_drewN ?_ _ | refine Below.drew ?_ | refine Below.setCell ?_ (by first | omega | (simp; done) | (simp; omega)) _ | refine Below.alloc ?_ (by first | omega | (simp; done) | (simp; omega)) _))
            clear b2 c0_w1 c1_w1 c2_w1 c3_w1 c4_w1 c5_w1 c6_w1 c7_w1 s0_w1 s1_w1 B_w1
            go_wp2_with fail
            go_ret
            exact ⟨ret_b (by rw [HV.out, HE1.out, HE2.out, HE3.out]; rfl), B_w2⟩
          · have HE3 := Lib.hid (decide_eq_false e3)
            go_enter Tryz.func66, Tryz.ntmps66
            go_wp2_with fail
            refine (H1.out _).mono ?_
            rintro e w1 ⟨rfl, b1⟩
            have c0_w1 : w1.cell? ⟨w.heap.size, 0, none⟩ = some (.slice A k c) := (b1.cell (p := ⟨w.heap.size, 0, none⟩) (by first | omega | (simp; done) | (simp; omega))).trans (by first | assumption | go_simp)
            have c1_w1 : w1.cell? ⟨w.heap.size, 1, none⟩ = some (.slice B m d) := (b1.cell (p := ⟨w.heap.size, 1, none⟩) (by first | omega | (simp; done) | (simp; omega))).trans (by first | assumption | go_simp)
            have c2_w1 : w1.cell? ⟨w.heap.size, 2, none⟩ = some (.int .i64 h) := (b1.cell (p := ⟨w.heap.size, 2, none⟩) (by first | omega | (simp; done) | (simp; omega))).trans (by first | assumption | go_simp)
            have c3_w1 : w1.cell? ⟨w.heap.size + 1, 0, none⟩ = some (.int .i64 u) := (b1.cell (p := ⟨w.heap.size + 1, 0, none⟩) (by first | omega | (simp; done) | (simp; omega))).trans (by first | assumption | go_simp)
            have c4_w1 : w1.cell? ⟨w.heap.size + 1, 1, none⟩ = some (.int .i64 v) := (b1.cell (p := ⟨w.heap.size + 1, 1, none⟩) (by first | omega | (simp; done) | (simp; omega))).trans (by first | assumption | go_simp)
            have c5_w1 : w1.cell? ⟨w.heap.size + 1, 2, none⟩ = some (.int .i64 lo) := (b1.cell (p := ⟨w.heap.size + 1, 2, none⟩) (by first | omega | (simp; done) | (simp; omega))).trans (by first | assumption | go_simp)
            have c6_w1 : w1.cell? ⟨w.heap.size + 1, 3, none⟩ = some (.int .i64 hi) := (b1.cell (p := ⟨w.heap.size + 1, 3, none⟩) (by first | omega | (simp; done) | (simp; omega))).trans (by first | assumption | go_simp)
            have c7_w1 : w1.cell? ⟨w.heap.size + 1, 4, none⟩ = some (.bool fr) := (b1.cell (p := ⟨w.heap.size + 1, 4, none⟩) (by first | omega | (simp; done) | (simp; omega))).trans (by first | assumption | go_simp)
            have s0_w1 : w.heap.size < w1.heap.size := Nat.lt_of_lt_of_le (by first | omega | (simp; done) | (simp; omega)) b1.size
            have s1_w1 : w.heap.size + 1 < w1.heap.size := Nat.lt_of_lt_of_le (by first | omega | (simp; done) | (simp; omega)) b1.size
            have B_w1 : Below w.heap.size w w1 := (by repeat (first | exact Below.refl _ _ | refine below_step (by assumption) (by first | omega | (simp; done) | (simp; omega)) ?_ | refine below_drewN ?_ _ | refine Below.drew ?_ | refine Below.setCell ?_ (by first | omega | (simp; done) | (simp; omega)) _ | refine Below.alloc ?_ (by first | omega | (simp; done) | (simp; omega)) _))
            clear b1  
            go_wp2_with fail
            refine (H2.out _).mono ?_
            rintro e w2 ⟨rfl, b2⟩
            have c0_w2 : w2.cell? ⟨w.heap.size, 0, none⟩ = some (.slice A k c) := (b2.cell (p := ⟨w.heap.size, 0, none⟩) (by first | omega | (simp; done) | (simp; omega))).trans (by first | assumption | go_simp)
            have c1_w2 : w2.cell? ⟨w.heap.size, 1, none⟩ = some (.slice B m d) := (b2.cell (p := ⟨w.heap.size, 1, none⟩) (by first | omega | (simp; done) | (simp; omega))).trans (by first | assumption | go_simp)
            have c2_w2 : w2.cell? ⟨w.heap.size, 2, none⟩ = some (.int .i64 h) := (b2.cell (p := ⟨w.heap.size, 2, none⟩) (by first | omega | (simp; done) | (simp; omega))).trans (by first | assumption | go_simp)
            have c3_w2 : w2.cell? ⟨w.heap.size + 1, 0, none⟩ = some (.int .i64 u) := (b2.cell (p := ⟨w.heap.size + 1, 0, none⟩) (by first | omega | (simp; done) | (simp; omega))).trans (by first | assumption | go_simp)
            have c4_w2 : w2.cell? ⟨w.heap.size + 1, 1, none⟩ = some (.int .i64 v) := (b2.cell (p := ⟨w.heap.size + 1, 1, none⟩) (by first | omega | (simp; done) | (simp; omega))).trans (by first | assumption | go_simp)
            have c5_w2 : w2.cell? ⟨w.heap.size + 1, 2, none⟩ = some (.int .i64 lo) := (b2.cell (p := ⟨w.heap.size + 1, 2, none⟩) (by first | omega | (simp; done) | (simp; omega))).trans (by first | assumption | go_simp)
            have c6_w2 : w2.cell? ⟨w.heap.size + 1, 3, none⟩ = some (.int .i64 hi) := (b2.cell (p := ⟨w.heap.size + 1, 3, none⟩) (by first | omega | (simp; done) | (simp; omega))).trans (by first | assumption | go_simp)
            have c7_w2 : w2.cell? ⟨w.heap.size + 1, 4, none⟩ = some (.bool fr) := (b2.cell (p := ⟨w.heap.size + 1, 4, none⟩) (by first | omega | (simp; done) | (simp; omega))).trans (by first | assumption | go_simp)
            have s0_w2 : w.heap.size < w2.heap.size := Nat.lt_of_lt_of_le (by first | omega | (simp; done) | (simp; omega)) b2.size
            have s1_w2 : w.heap.size + 1 < w2.heap.size := Nat.lt_of_lt_of_le (by first | omega | (simp; done) | (simp; omega)) b2.size
            have B_w2 : Below w.heap.size w w2 := (by repeat (first | exact Below.refl _ _ | refine below_step (by assumption) (by first | omega | (simp; done) | (simp; omega)) ?_ | refine below_drewN ?_ _ | refine Below.drew ?_ | refine Below.setCell ?_ (by first | omega | (simp; done) | (simp; omega)) _ | refine Below.alloc ?_ (by first | omega | (simp; done) | (simp; omega)) _))
            clear b2 c0_w1 c1_w1 c2_w1 c3_w1 c4_w1 c5_w1 c6_w1 c7_w1 s0_w1 s1_w1 B_w1
            go_wp2_with fail
            go_ret
            exact ⟨ret_b (by rw [HV.out, HE1.out, HE2.out, HE3.out]; rfl), B_w2⟩
        · have HE2 := Lib.hid (decide_eq_false e2)
          go_enter Tryz.func66, Tryz.ntmps66
          go_wp2_with fail
          refine (H1.out _).mono ?_
          rintro e w1 ⟨rfl, b1⟩
          have c0_w1 : w1.cell? ⟨w.heap.size, 0, none⟩ = some (.slice A k c) := (b1.cell (p := ⟨w.heap.size, 0, none⟩) (by first | omega | (simp; done) | (simp; omega))).trans (by first | assumption | go_simp)
          have c1_w1 : w1.cell? ⟨w.heap.size, 1, none⟩ = some (.slice B m d) := (b1.cell (p := ⟨w.heap.size, 1, none⟩) (by first | omega | (simp; done) | (simp; omega))).trans (by first | assumption | go_simp)
          have c2_w1 : w1.cell? ⟨w.heap.size, 2, none⟩ = some (.int .i64 h) := (b1.cell (p := ⟨w.heap.size, 2, none⟩) (by first | omega | (simp; done) | (simp; omega))).trans (by first | assumption | go_simp)
          have c3_w1 : w1.cell? ⟨w.heap.size + 1, 0, none⟩ = some (.int .i64 u) := (b1.cell (p := ⟨w.heap.size + 1, 0, none⟩) (by first | omega | (simp; done) | (simp; omega))).trans (by first | assumption | go_simp)
          have c4_w1 : w1.cell? ⟨w.heap.size + 1, 1, none⟩ = some (.int .i64 v) := (b1.cell (p := ⟨w.heap.size + 1, 1, none⟩) (by first | omega | (simp; done) | (simp; omega))).trans (by first | assumption | go_simp)
          have c5_w1 : w1.cell? ⟨w.heap.size + 1, 2, none⟩ = some (.int .i64 lo) := (b1.cell (p := ⟨w.heap.size + 1, 2, none⟩) (by first | omega | (simp; done) | (simp; omega))).trans (by first | assumption | go_simp)
          have c6_w1 : w1.cell? ⟨w.heap.size + 1, 3, none⟩ = some (.int .i64 hi) := (b1.cell (p := ⟨w.heap.size + 1, 3, none⟩) (by first | omega | (simp; done) | (simp; omega))).trans (by first | assumption | go_simp)
          have c7_w1 : w1.cell? ⟨w.heap.size + 1, 4, none⟩ = some (.bool fr) := (b1.cell (p := ⟨w.heap.size + 1, 4, none⟩) (by first | omega | (simp; done) | (simp; omega))).trans (by first | assumption | go_simp)
          have s0_w1 : w.heap.size < w1.heap.size := Nat.lt_of_lt_of_le (by first | omega | (simp; done) | (simp; omega)) b1.size
          have s1_w1 : w.heap.size + 1 < w1.heap.size := Nat.lt_of_lt_of_le (by first | omega | (simp; done) | (simp; omega)) b1.size
          have B_w1 : Below w.heap.size w w1 := (by repeat (first | exact Below.refl _ _ | refine below_step (by assumption) (by first | omega | (simp; done) | (simp; omega)) ?_ | refine below_drewN ?_ _ | refine Below.drew ?_ | refine Below.setCell ?_ (by first | omega | (simp; done) | (simp; omega)) _ | refine Below.alloc ?_ (by first | omega | (simp; done) | (simp; omega)) _))
          clear b1  
          go_wp2_with fail
          refine (H2.out _).mono ?_
          rintro e w2 ⟨rfl, b2⟩
          have c0_w2 : w2.cell? ⟨w.heap.size, 0, none⟩ = some (.slice A k c) := (b2.cell (p := ⟨w.heap.size, 0, none⟩) (by first | omega | (simp; done) | (simp; omega))).trans (by first | assumption | go_simp)
          have c1_w2 : w2.cell? ⟨w.heap.size, 1, none⟩ = some (.slice B m d) := (b2.cell (p := ⟨w.heap.size, 1, none⟩) (by first | omega | (simp; done) | (simp; omega))).trans (by first | assumption | go_simp)
          have c2_w2 : w2.cell? ⟨w.heap.size, 2, none⟩ = some (.int .i64 h) := (b2.cell (p := ⟨w.heap.size, 2, none⟩) (by first | omega | (simp; done) | (simp; omega))).trans (by first | assumption | go_simp)
          have c3_w2 : w2.cell? ⟨w.heap.size + 1, 0, none⟩ = some (.int .i64 u) := (b2.cell (p := ⟨w.heap.size + 1, 0, none⟩) (by first | omega | (simp; done) | (simp; omega))).trans (by first | assumption | go_simp)
          have c4_w2 : w2.cell? ⟨w.heap.size + 1, 1, none⟩ = some (.int .i64 v) := (b2.cell (p := ⟨w.heap.size + 1, 1, none⟩) (by first | omega | (simp; done) | (simp; omega))).trans (by first | assumption | go_simp)
          have c5_w2 : w2.cell? ⟨w.heap.size + 1, 2, none⟩ = some (.int .i64 lo) := (b2.cell (p := ⟨w.heap.size + 1, 2, none⟩) (by first | omega | (simp; done) | (simp; omega))).trans (by first | assumption | go_simp)
          have c6_w2 : w2.cell? ⟨w.heap.size + 1, 3, none⟩ = some (.int .i64 hi) := (b2.cell (p := ⟨w.heap.size + 1, 3, none⟩) (by first | omega | (simp; done) | (simp; omega))).trans (by first | assumption | go_simp)
          have c7_w2 : w2.cell? ⟨w.heap.size + 1, 4, none⟩ = some (.bool fr) := (b2.cell (p := ⟨w.heap.size + 1, 4, none⟩) (by first | omega | (simp; done) | (simp; omega))).trans (by first | assumption | go_simp)
          have s0_w2 : w.heap.size < w2.heap.size := Nat.lt_of_lt_of_le (by first | omega | (simp; done) | (simp; omega)) b2.size
          have s1_w2 : w.heap.size + 1 < w2.heap.size := Nat.lt_of_lt_of_le (by first | omega | (simp; done) | (simp; omega)) b2.size
          have B_w2 : Below w.heap.size w w2 := (by repeat (first | exact Below.refl _ _ | refine below_step (by assumption) (by first | omega | (simp; done) | (simp; omega)) ?_ | refine below_drewN ?_ _ | refine Below.drew ?_ | refine Below.setCell ?_ (by first | omega | (simp; done) | (simp; omega)) _ | refine Below.alloc ?_ (by first | omega | (simp; done) | (simp; omega)) _))
          clear b2 c0_w1 c1_w1 c2_w1 c3_w1 c4_w1 c5_w1 c6_w1 c7_w1 s0_w1 s1_w1 B_w1
          go_wp2_with fail
          go_ret
          exact ⟨ret_b (by rw [HV.out, HE1.out, HE2.out]; rfl), B_w2⟩

end Go.Proofs.YtgajodcgedhikaaGreatDoor

namespace Go.Proofs.YtgajodcgedhikaaGreatDoor
open Go.RowKit
open Go.Maps (Keyed int_keyed string_keyed keyOf_int_mk)
set_option linter.unusedVariables false
set_option linter.unusedSimpArgs false

theorem keyedI : Keyed Tryz.prog 3 := int_keyed Tryz.underlying3
/-- Block b holds a map from int to int that reads as D. -/
abbrev MapII (w : World) (b n : Nat) (D : DU) : Prop := w.ownsMap Tryz.prog 3 (plainElem (H := Unit) Tryz.prog 3) b n D
theorem zeroI (w : World) : (zeroValue 3).run Tryz.prog w = .ok (.int .i64 0) w := by kernel_rfl
theorem own_map_below {P : Program} {kt : TypeId} {R : Value → Option (DU × List MemPlace)} {w w' : World} {b n : Nat} {D : DU} (h : w.ownsMap P kt R b n D) (hb : Below w.heap.size w w') : w'.ownsMap P kt R b n D :=
  h.kept (row := none) ⟨hb.os, hb.tape, hb.output, hb.size, fun i hi _ => hb.block i hi⟩ (by simp)

set_option maxRecDepth 100000 in
set_option maxHeartbeats 4000000 in
theorem watchers_any (ns : List GN) (A : Option Addr) (k c : Nat) (w : World) (hk : ns.length = k) (hkm : k ≤ 1048576) (hw : ∀ e ∈ ns, e.wf) (ha : NodesAt w A ns) :
    Calls Tryz.prog 63 #[.slice A k c] w fun e w' => e = .returned (.map (some w.heap.size)) ∧ MapII w' w.heap.size k (waD ns k) ∧ Below w.heap.size w w' := by
  have HA := Lib.hid ha
  have HK := Lib.hid hk
  have HW := Lib.hid hw
  clear ha hk hw
  have hmm := @run_makeMap Tryz.prog
  have hm0 := World.ownsMap_made w Tryz.prog 3 (plainElem (H := Unit) Tryz.prog 3)
  have HM0 := Lib.hid hm0
  clear hm0
  go_enter Tryz.func63, Tryz.ntmps63
  go_wp2_with fail
  clear hmm
  go_loopw [9] (fun i wr => ∃ j : Nat, j ≤ k ∧ i = .int .i64 j ∧ MapII wr w.heap.size j (waD ns j) ∧ Below w.heap.size w wr) (fun i _ => k - (intOf i).toNat)
  case atStart => exact ⟨0, Nat.zero_le _, rfl, HM0.out, (by repeat (first | exact Below.refl _ _ | refine below_step (by assumption) (by first | omega | (simp; done) | (simp; omega)) ?_ | refine below_drewN ?_ _ | refine Below.drew ?_ | refine Below.setCell ?_ (by first | omega | (simp; done) | (simp; omega)) _ | refine Below.alloc ?_ (by first | omega | (simp; done) | (simp; omega)) _))⟩
  case round =>
    obtain ⟨j, hj, rfl, hown, hbw⟩ := hrel
    by_cases hlt : j < k
    · have hjk : ((j : Int) < (k : Int)) := by omega
      obtain ⟨e, he⟩ : ∃ f, ns[j]? = some f := ⟨_, List.getElem?_eq_getElem (by have := HK.out; omega)⟩
      obtain ⟨g, o, L, cl, rfl, hg, d0, d1, d2, _⟩ := node_facts HA.out he
      have hwe := HW.out e (List.mem_of_getElem? he)
      have hsn : (ns[j]?.getD gN0) = e := by rw [he]; rfl
      obtain ⟨q, hq⟩ : ∃ q, q = e.lab.length := ⟨_, rfl⟩
      rw [← hq] at d1
      have k0 := (hbw.cell (p := ⟨g, o + j * 3, none⟩) hg).trans d0
      have k1 := (hbw.cell (p := ⟨g, o + j * 3 + 1, none⟩) hg).trans d1
      have k2 := (hbw.cell (p := ⟨g, o + j * 3 + 2, none⟩) hg).trans d2
      have zr := hbw.size
      have zb : w.heap.size < wr.heap.size := hown.lt
      have BW := Lib.hid hbw
      have HO := Lib.hid hown
      have HWE := Lib.hid hwe
      have HSN := Lib.hid hsn
      clear d0 d1 d2 he hbw hq hwe hsn hown
      by_cases hx : e.wat = 0
      · have hb : (e.wat != 0) = false := by simp [hx]
        have HX : Hid (waD ns (j + 1) = waD ns j) := Lib.hid (by rw [waD, if_pos (by rw [HSN.out]; exact hx)])
        clear hx
        go_wp2_with fail
        go_roundw
        case rel => exact ⟨j + 1, by omega, by go_num, by rw [HX.out]; exact (HO.out.alloc _).mono (by omega), BW.out.alloc zr _⟩
        case measure => simp [intOf]; omega
      · have hb : (e.wat != 0) = true := by simp [hx]
        have HX : Hid (waD ns (j + 1) = (waD ns j).put (kI e.wat) (vI j)) := Lib.hid (by rw [waD, if_neg (by rw [HSN.out]; exact hx), HSN.out])
        have hkey := keyOf_int_mk Tryz.underlying3 HWE.out.2.2.2
        have HKEY := Lib.hid hkey
        clear hx hkey
        go_wp2_with (first | (at_mapUpdate; refine wpList_mapUpdate_own _ rfl _ _ _ 85 rfl 3 3 keyedI Tryz.underlying85 _ w.heap.size j _ rfl (HO.out.alloc _) (by unfold maxLen; omega) _ _ _ rfl rfl HKEY.out _ [] (plainElem_int Tryz.underlying3 (WalkArith.wf_i64 (by omega))) ?_; intro w1 hown1 hgrow1))
        have HG := Lib.hid hgrow1
        have HO1 := Lib.hid hown1
        clear hgrow1 hown1
        go_wp2_with fail
        go_roundw
        case rel => exact ⟨j + 1, by omega, by go_num, by rw [HX.out]; exact HO1.out, (BW.out.alloc zr _).grown HG.out (by simp; omega) (fun r hr => by cases hr; exact Nat.le_refl _)⟩
        case measure => simp [intOf]; omega
    · have hjk : ¬ ((j : Int) < (k : Int)) := by omega
      have : j = k := by omega
      subst this
      go_wp2_with fail
      go_ret
      exact ⟨rfl, hown, hbw⟩

end Go.Proofs.YtgajodcgedhikaaGreatDoor
