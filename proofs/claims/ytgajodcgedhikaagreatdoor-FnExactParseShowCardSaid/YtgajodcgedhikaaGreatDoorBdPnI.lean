/-
  WALKS of impl's tiesOk, ShowOk.
  WALK of spec.ChosenNodes.
  WALKS of impl's FreeTie, IsFree, WatcherOf, NodeNamed, ChosenNodes.
  THE CONTRACTS OF Go's LIBRARY AT THIS TRANSLATION: strings.Builder's WriteString and String (the shelf's theorems, laid by their structures).
  WALKS of impl.joinParts, impl.Join.
-/
import Derived.Test.YtgajodcgedhikaaGreatDoorPnH
import Derived.Test.YtgajodcgedhikaaGreatDoorBdLwM
import Derived.Deep.AppendLies
import Derived.Deep.CutRange
import Derived.Test.YtgajodcgedhikaaGreatDoorBdPnC
import Derived.Shelf.Strings.BuilderK
import Derived.Test.YtgajodcgedhikaaGreatDoorProg
import Derived.Test.YtgajodcgedhikaaGreatDoorBdDig
import Derived.Test.YtgajodcgedhikaaGreatDoorBdNum
namespace Go.Proofs.YtgajodcgedhikaaGreatDoor
open Go.RowKit
set_option linter.unusedVariables false
set_option linter.unusedSimpArgs false

def tisB (ns : List GN) (ts : List GT) : Bool := decide (ts.length ≤ 14) && allJ (tiB ns ts) ts.length

set_option maxRecDepth 100000 in
set_option maxHeartbeats 8000000 in
theorem tiesOk_any (s : GS) (A : Option Addr) (k c : Nat) (B : Option Addr) (m d : Nat) (w : World) (hs : ShB s) (ha : ShowAt w s A k B m) :
    Calls Tryz.prog 38 #[shV A k c B m d s.h] w fun e w' => e = .returned (.bool (tisB s.ns s.ts)) ∧ Below w.heap.size w w' := by
  have HLN := Lib.hid ha.ln
  have HLT := Lib.hid ha.lt
  have HT := Lib.hid (fun t W => tieOk_any A k c B m d s.h t W)
  have HF := Lib.hid (fun i t W ht h => freeOk_any s i t A k c B m d W hs ht h)
  have HA := Lib.hid ha
  have HV : Hid (tisB s.ns s.ts = (decide (m ≤ 14) && allJ (tiB s.ns s.ts) m)) := Lib.hid (by unfold tisB; rw [ha.lt])
  clear ha hs
  obtain ⟨h, hh⟩ : ∃ h, h = s.h := ⟨_, rfl⟩
  rw [← hh] at HT HF
  rw [← hh]
  clear hh
  unfold shV at HT HF ⊢
  obtain ⟨w1, hw1⟩ : ∃ W, W = w.alloc (.cells #[.slice A k c, .slice B m d, .int .i64 h] 25) := ⟨_, rfl⟩
  have B_w1 : Below w.heap.size w w1 := by rw [hw1]; exact (Below.refl _ _).alloc (Nat.le_refl _) _
  have z_w1 : w.heap.size < w1.heap.size := by rw [hw1]; simp
  have c0_w1 : w1.cell? ⟨w.heap.size, 0, none⟩ = some (.slice A k c) := by rw [hw1]; go_simp
  have c1_w1 : w1.cell? ⟨w.heap.size, 1, none⟩ = some (.slice B m d) := by rw [hw1]; go_simp
  have c2_w1 : w1.cell? ⟨w.heap.size, 2, none⟩ = some (.int .i64 h) := by rw [hw1]; go_simp
  have HA1 := Lib.hid (HA.out.below B_w1)
  have BW1 := Lib.hid B_w1
  have HW1 := Lib.hid hw1
  clear hw1 B_w1
  by_cases hm : m ≤ 14
  · have hmi : ¬ ((14 : Int) < (m : Int)) := by omega
    have HM := Lib.hid (decide_eq_true hm)
    go_enter Tryz.func38, Tryz.ntmps38
    go_upto_region 1 with (fail)
    rw [← HW1.out]
    go_wp2_with fail
    go_loopw [12] (fun i wr => ∃ j : Nat, j ≤ m ∧ i = .int .i64 j ∧ allJ (tiB s.ns s.ts) j = true ∧ Below w1.heap.size w1 wr) (fun i _ => m - (intOf i).toNat)
    case atStart => exact ⟨0, Nat.zero_le _, rfl, rfl, Below.refl _ _⟩
    case round =>
      obtain ⟨j, hj, rfl, hall, hbw⟩ := hrel
      have HALL := Lib.hid hall
      clear hall
      by_cases hlt : j < m
      · have hjm : ((j : Int) < (m : Int)) := by omega
        obtain ⟨⟨u, v, lo, hi2, fr⟩, he⟩ : ∃ e, s.ts[j]? = some e := ⟨_, List.getElem?_eq_getElem (by have := HLT.out; omega)⟩
        have HEQ := Lib.hid (tiB_tk (ns := s.ns) he)
        obtain ⟨gt, ot, rfl, hgt, t0, t1, t2, t3, t4⟩ := tie_facts HA1.out.ties he
        have k0 := (hbw.cell (p := ⟨gt, ot + j * 5, none⟩) hgt).trans t0
        have k1 := (hbw.cell (p := ⟨gt, ot + j * 5 + 1, none⟩) hgt).trans t1
        have k2 := (hbw.cell (p := ⟨gt, ot + j * 5 + 2, none⟩) hgt).trans t2
        have k3 := (hbw.cell (p := ⟨gt, ot + j * 5 + 3, none⟩) hgt).trans t3
        have k4 := (hbw.cell (p := ⟨gt, ot + j * 5 + 4, none⟩) hgt).trans t4
        have zr := hbw.size
        have zw := Nat.lt_of_lt_of_le z_w1 zr
        have c0_wr := (hbw.cell (p := ⟨w.heap.size, 0, none⟩) z_w1).trans c0_w1
        have c1_wr := (hbw.cell (p := ⟨w.heap.size, 1, none⟩) z_w1).trans c1_w1
        have c2_wr := (hbw.cell (p := ⟨w.heap.size, 2, none⟩) z_w1).trans c2_w1
        have e1 : (wr.heap.size = w.heap.size) = False := eq_false (by omega)
        have e2 : (w.heap.size = wr.heap.size) = False := eq_false (by omega)
        have HAR := Lib.hid (HA1.out.below hbw)
        have BW := Lib.hid hbw
        rw [HLN.out] at HEQ
        have HBAD : Hid (tiB s.ns s.ts j = false → tisB s.ns s.ts = false) := Lib.hid (fun hx => by rw [HV.out, allJ_no (f := tiB s.ns s.ts) (j := j + 1) (by rw [allJ_next, hx, Bool.and_false]) (show j + 1 ≤ m by omega), Bool.and_false])
        have HGOOD : Hid (tiB s.ns s.ts j = true → allJ (tiB s.ns s.ts) (j + 1) = true) := Lib.hid (fun hx => by rw [allJ_next, HALL.out, hx]; rfl)
        have htt := HT.out ⟨u, v, lo, hi2, fr⟩
        have hff := HF.out (j : Int) ⟨u, v, lo, hi2, fr⟩
        obtain ⟨b1, hb1⟩ : ∃ b, b = tkB k ⟨u, v, lo, hi2, fr⟩ := ⟨_, rfl⟩
        obtain ⟨b2, hb2⟩ : ∃ b, b = frB s.ns s.ts (j : Int) ⟨u, v, lo, hi2, fr⟩ := ⟨_, rfl⟩
        rw [← hb1] at htt hff HEQ
        rw [← hb2] at hff HEQ
        unfold GT.val at htt hff
        dsimp only at htt hff HEQ
        have HTT := Lib.hid htt
        have HFF := Lib.hid hff
        clear he t0 t1 t2 t3 t4 hbw hb1 hb2 htt hff c0_w1 c1_w1 c2_w1
        cases b1 with
        | false =>
          have hbw0 := BW.out
          go_wp2_with fail
          refine (HTT.out _).mono ?_
          rintro e w3 ⟨rfl, b3⟩
          have c0_w3 : w3.cell? ⟨w.heap.size, 0, none⟩ = some (.slice A k c) := (b3.cell (p := ⟨w.heap.size, 0, none⟩) (by first | omega | (simp; done) | (simp; omega))).trans (by first | assumption | go_simp)
          have c1_w3 : w3.cell? ⟨w.heap.size, 1, none⟩ = some (.slice (some ⟨gt, ot, none⟩) m d) := (b3.cell (p := ⟨w.heap.size, 1, none⟩) (by first | omega | (simp; done) | (simp; omega))).trans (by first | assumption | go_simp)
          have c2_w3 : w3.cell? ⟨w.heap.size, 2, none⟩ = some (.int .i64 h) := (b3.cell (p := ⟨w.heap.size, 2, none⟩) (by first | omega | (simp; done) | (simp; omega))).trans (by first | assumption | go_simp)
          have c3_w3 : w3.cell? ⟨wr.heap.size, 0, none⟩ = some (.int .i64 u) := (b3.cell (p := ⟨wr.heap.size, 0, none⟩) (by first | omega | (simp; done) | (simp; omega))).trans (by first | assumption | go_simp)
          have c4_w3 : w3.cell? ⟨wr.heap.size, 1, none⟩ = some (.int .i64 v) := (b3.cell (p := ⟨wr.heap.size, 1, none⟩) (by first | omega | (simp; done) | (simp; omega))).trans (by first | assumption | go_simp)
          have c5_w3 : w3.cell? ⟨wr.heap.size, 2, none⟩ = some (.int .i64 lo) := (b3.cell (p := ⟨wr.heap.size, 2, none⟩) (by first | omega | (simp; done) | (simp; omega))).trans (by first | assumption | go_simp)
          have c6_w3 : w3.cell? ⟨wr.heap.size, 3, none⟩ = some (.int .i64 hi2) := (b3.cell (p := ⟨wr.heap.size, 3, none⟩) (by first | omega | (simp; done) | (simp; omega))).trans (by first | assumption | go_simp)
          have c7_w3 : w3.cell? ⟨wr.heap.size, 4, none⟩ = some (.bool fr) := (b3.cell (p := ⟨wr.heap.size, 4, none⟩) (by first | omega | (simp; done) | (simp; omega))).trans (by first | assumption | go_simp)
          have B_r3 : Below wr.heap.size wr w3 := (by repeat (first | exact Below.refl _ _ | refine below_step (by assumption) (by first | omega | (simp; done) | (simp; omega)) ?_ | refine below_drewN ?_ _ | refine Below.drew ?_ | refine Below.setCell ?_ (by first | omega | (simp; done) | (simp; omega)) _ | refine Below.alloc ?_ (by first | omega | (simp; done) | (simp; omega)) _))
          have B_w3 : Below w1.heap.size w1 w3 := BW.out.trans (B_r3.mono zr)
          have z_w3 := B_w3.size
          have s0_w3 : w.heap.size < w3.heap.size := Nat.lt_of_lt_of_le (by first | omega | (simp; done) | (simp; omega)) b3.size
          have s1_w3 : wr.heap.size < w3.heap.size := Nat.lt_of_lt_of_le (by first | omega | (simp; done) | (simp; omega)) b3.size
          have HAR3 := Lib.hid (HAR.out.below B_r3)
          clear b3 hbw0 B_r3
          go_wp2_with fail
          go_ret
          exact ⟨ret_b (HBAD.out (by rw [HEQ.out]; rfl)).symm, BW1.out.trans (B_w3.mono BW1.out.size)⟩
        | true =>
          cases fr with
          | false =>
            have hbw0 := BW.out
            go_wp2_with fail
            refine (HTT.out _).mono ?_
            rintro e w3 ⟨rfl, b3⟩
            have c0_w3 : w3.cell? ⟨w.heap.size, 0, none⟩ = some (.slice A k c) := (b3.cell (p := ⟨w.heap.size, 0, none⟩) (by first | omega | (simp; done) | (simp; omega))).trans (by first | assumption | go_simp)
            have c1_w3 : w3.cell? ⟨w.heap.size, 1, none⟩ = some (.slice (some ⟨gt, ot, none⟩) m d) := (b3.cell (p := ⟨w.heap.size, 1, none⟩) (by first | omega | (simp; done) | (simp; omega))).trans (by first | assumption | go_simp)
            have c2_w3 : w3.cell? ⟨w.heap.size, 2, none⟩ = some (.int .i64 h) := (b3.cell (p := ⟨w.heap.size, 2, none⟩) (by first | omega | (simp; done) | (simp; omega))).trans (by first | assumption | go_simp)
            have c3_w3 : w3.cell? ⟨wr.heap.size, 0, none⟩ = some (.int .i64 u) := (b3.cell (p := ⟨wr.heap.size, 0, none⟩) (by first | omega | (simp; done) | (simp; omega))).trans (by first | assumption | go_simp)
            have c4_w3 : w3.cell? ⟨wr.heap.size, 1, none⟩ = some (.int .i64 v) := (b3.cell (p := ⟨wr.heap.size, 1, none⟩) (by first | omega | (simp; done) | (simp; omega))).trans (by first | assumption | go_simp)
            have c5_w3 : w3.cell? ⟨wr.heap.size, 2, none⟩ = some (.int .i64 lo) := (b3.cell (p := ⟨wr.heap.size, 2, none⟩) (by first | omega | (simp; done) | (simp; omega))).trans (by first | assumption | go_simp)
            have c6_w3 : w3.cell? ⟨wr.heap.size, 3, none⟩ = some (.int .i64 hi2) := (b3.cell (p := ⟨wr.heap.size, 3, none⟩) (by first | omega | (simp; done) | (simp; omega))).trans (by first | assumption | go_simp)
            have c7_w3 : w3.cell? ⟨wr.heap.size, 4, none⟩ = some (.bool false) := (b3.cell (p := ⟨wr.heap.size, 4, none⟩) (by first | omega | (simp; done) | (simp; omega))).trans (by first | assumption | go_simp)
            have B_r3 : Below wr.heap.size wr w3 := (by repeat (first | exact Below.refl _ _ | refine below_step (by assumption) (by first | omega | (simp; done) | (simp; omega)) ?_ | refine below_drewN ?_ _ | refine Below.drew ?_ | refine Below.setCell ?_ (by first | omega | (simp; done) | (simp; omega)) _ | refine Below.alloc ?_ (by first | omega | (simp; done) | (simp; omega)) _))
            have B_w3 : Below w1.heap.size w1 w3 := BW.out.trans (B_r3.mono zr)
            have z_w3 := B_w3.size
            have s0_w3 : w.heap.size < w3.heap.size := Nat.lt_of_lt_of_le (by first | omega | (simp; done) | (simp; omega)) b3.size
            have s1_w3 : wr.heap.size < w3.heap.size := Nat.lt_of_lt_of_le (by first | omega | (simp; done) | (simp; omega)) b3.size
            have HAR3 := Lib.hid (HAR.out.below B_r3)
            clear b3 hbw0 B_r3
            go_wp2_with fail
            go_roundw
            case rel => exact ⟨j + 1, by omega, by go_num, HGOOD.out (by rw [HEQ.out]; rfl), B_w3⟩
            case measure => simp [intOf]; omega
          | true =>
            have hbw0 := BW.out
            go_wp2_with fail
            refine (HTT.out _).mono ?_
            rintro e w3 ⟨rfl, b3⟩
            have c0_w3 : w3.cell? ⟨w.heap.size, 0, none⟩ = some (.slice A k c) := (b3.cell (p := ⟨w.heap.size, 0, none⟩) (by first | omega | (simp; done) | (simp; omega))).trans (by first | assumption | go_simp)
            have c1_w3 : w3.cell? ⟨w.heap.size, 1, none⟩ = some (.slice (some ⟨gt, ot, none⟩) m d) := (b3.cell (p := ⟨w.heap.size, 1, none⟩) (by first | omega | (simp; done) | (simp; omega))).trans (by first | assumption | go_simp)
            have c2_w3 : w3.cell? ⟨w.heap.size, 2, none⟩ = some (.int .i64 h) := (b3.cell (p := ⟨w.heap.size, 2, none⟩) (by first | omega | (simp; done) | (simp; omega))).trans (by first | assumption | go_simp)
            have c3_w3 : w3.cell? ⟨wr.heap.size, 0, none⟩ = some (.int .i64 u) := (b3.cell (p := ⟨wr.heap.size, 0, none⟩) (by first | omega | (simp; done) | (simp; omega))).trans (by first | assumption | go_simp)
            have c4_w3 : w3.cell? ⟨wr.heap.size, 1, none⟩ = some (.int .i64 v) := (b3.cell (p := ⟨wr.heap.size, 1, none⟩) (by first | omega | (simp; done) | (simp; omega))).trans (by first | assumption | go_simp)
            have c5_w3 : w3.cell? ⟨wr.heap.size, 2, none⟩ = some (.int .i64 lo) := (b3.cell (p := ⟨wr.heap.size, 2, none⟩) (by first | omega | (simp; done) | (simp; omega))).trans (by first | assumption | go_simp)
            have c6_w3 : w3.cell? ⟨wr.heap.size, 3, none⟩ = some (.int .i64 hi2) := (b3.cell (p := ⟨wr.heap.size, 3, none⟩) (by first | omega | (simp; done) | (simp; omega))).trans (by first | assumption | go_simp)
            have c7_w3 : w3.cell? ⟨wr.heap.size, 4, none⟩ = some (.bool true) := (b3.cell (p := ⟨wr.heap.size, 4, none⟩) (by first | omega | (simp; done) | (simp; omega))).trans (by first | assumption | go_simp)
            have B_r3 : Below wr.heap.size wr w3 := (by repeat (first | exact Below.refl _ _ | refine below_step (by assumption) (by first | omega | (simp; done) | (simp; omega)) ?_ | refine below_drewN ?_ _ | refine Below.drew ?_ | refine Below.setCell ?_ (by first | omega | (simp; done) | (simp; omega)) _ | refine Below.alloc ?_ (by first | omega | (simp; done) | (simp; omega)) _))
            have B_w3 : Below w1.heap.size w1 w3 := BW.out.trans (B_r3.mono zr)
            have z_w3 := B_w3.size
            have s0_w3 : w.heap.size < w3.heap.size := Nat.lt_of_lt_of_le (by first | omega | (simp; done) | (simp; omega)) b3.size
            have s1_w3 : wr.heap.size < w3.heap.size := Nat.lt_of_lt_of_le (by first | omega | (simp; done) | (simp; omega)) b3.size
            have HAR3 := Lib.hid (HAR.out.below B_r3)
            clear b3 hbw0 B_r3
            go_wp2_with fail
            refine (HFF.out _ (by trivial) HAR3.out).mono ?_
            rintro e4 w4 ⟨rfl, b4⟩
            have B_w4 : Below w1.heap.size w1 w4 := B_w3.trans (b4.mono z_w3)
            clear b4 c0_w3 c1_w3 c2_w3 c3_w3 c4_w3 c5_w3 c6_w3 c7_w3
            cases b2 with
            | false =>
              go_wp2_with fail
              go_ret
              exact ⟨ret_b (HBAD.out (by rw [HEQ.out]; rfl)).symm, BW1.out.trans (B_w4.mono BW1.out.size)⟩
            | true =>
              go_wp2_with fail
              go_roundw
              case rel => exact ⟨j + 1, by omega, by go_num, HGOOD.out (by rw [HEQ.out]; rfl), B_w4⟩
              case measure => simp [intOf]; omega
      · have hjm : ¬ ((j : Int) < (m : Int)) := by omega
        have HYES := Lib.hid (show allJ (tiB s.ns s.ts) m = true from by rw [show m = j from by omega]; exact HALL.out)
        go_wp2_with fail
        go_ret
        exact ⟨ret_b (by rw [HV.out, HM.out, HYES.out]; rfl), BW1.out.trans (hbw.mono BW1.out.size)⟩
  · have hmi : ((14 : Int) < (m : Int)) := by omega
    have HM := Lib.hid (decide_eq_false hm)
    go_enter Tryz.func38, Tryz.ntmps38
    go_upto_region 1 with (fail)
    rw [← HW1.out]
    go_wp2_with fail
    go_ret
    exact ⟨ret_b (by rw [HV.out, HM.out]; rfl), BW1.out⟩

theorem shR_parts (s : GS) : shR s = (ndsR s.ns && (tisB s.ns s.ts && (decide (1 ≤ s.h) && decide (s.h ≤ 10)))) := by
  rw [shR_at]
  unfold tisB
  cases ndsR s.ns <;> cases decide (s.ts.length ≤ 14) <;> cases decide (1 ≤ s.h) <;> cases decide (s.h ≤ 10) <;> cases allJ (tiB s.ns s.ts) s.ts.length <;> rfl

set_option maxRecDepth 100000 in
set_option maxHeartbeats 8000000 in
theorem impl_ShowOk (s : GS) (A : Option Addr) (k c : Nat) (B : Option Addr) (m d : Nat) (w : World) (hs : ShB s) (hw : ∀ e ∈ s.ns, e.wf) (ha : ShowAt w s A k B m) :
    Calls Tryz.prog 18 #[shV A k c B m d s.h] w fun e w' => e = .returned (.bool (shR s)) ∧ Below w.heap.size w w' := by
  have HN := Lib.hid (fun W h => nodesOk_any s A k c B m d W hs hw h)
  have HT := Lib.hid (fun W h => tiesOk_any s A k c B m d W hs h)
  have HV := Lib.hid (shR_parts s)
  have HA := Lib.hid ha
  clear ha hs hw
  obtain ⟨h, hh⟩ : ∃ h, h = s.h := ⟨_, rfl⟩
  rw [← hh] at HN HT HV
  rw [← hh]
  clear hh
  unfold shV at HN HT ⊢
  obtain ⟨b1, hb1⟩ : ∃ b, b = ndsR s.ns := ⟨_, rfl⟩
  obtain ⟨b2, hb2⟩ : ∃ b, b = tisB s.ns s.ts := ⟨_, rfl⟩
  rw [← hb1] at HN HV
  rw [← hb2] at HT HV
  clear hb1 hb2
  cases b1 with
  | false =>
    go_enter Tryz.func18, Tryz.ntmps18
    go_wp2_with fail
    refine (HN.out _ (HA.out.below (w := w) (by repeat (first | exact Below.refl _ _ | refine below_step (by assumption) (by first | omega | (simp; done) | (simp; omega)) ?_ | refine below_drewN ?_ _ | refine Below.drew ?_ | refine Below.setCell ?_ (by first | omega | (simp; done) | (simp; omega)) _ | refine Below.alloc ?_ (by first | omega | (simp; done) | (simp; omega)) _)))).mono ?_
    rintro e w1 ⟨rfl, v1⟩
    have c0_w1 : w1.cell? ⟨w.heap.size, 0, none⟩ = some (.slice A k c) := (v1.cell (p := ⟨w.heap.size, 0, none⟩) (by first | omega | (simp; done) | (simp; omega))).trans (by first | assumption | go_simp)
    have c1_w1 : w1.cell? ⟨w.heap.size, 1, none⟩ = some (.slice B m d) := (v1.cell (p := ⟨w.heap.size, 1, none⟩) (by first | omega | (simp; done) | (simp; omega))).trans (by first | assumption | go_simp)
    have c2_w1 : w1.cell? ⟨w.heap.size, 2, none⟩ = some (.int .i64 h) := (v1.cell (p := ⟨w.heap.size, 2, none⟩) (by first | omega | (simp; done) | (simp; omega))).trans (by first | assumption | go_simp)
    have s0_w1 : w.heap.size < w1.heap.size := Nat.lt_of_lt_of_le (by first | omega | (simp; done) | (simp; omega)) v1.size
    have B_w1 : Below w.heap.size w w1 := (by repeat (first | exact Below.refl _ _ | refine below_step (by assumption) (by first | omega | (simp; done) | (simp; omega)) ?_ | refine below_drewN ?_ _ | refine Below.drew ?_ | refine Below.setCell ?_ (by first | omega | (simp; done) | (simp; omega)) _ | refine Below.alloc ?_ (by first | omega | (simp; done) | (simp; omega)) _))
    clear v1  
    go_wp2_with fail
    go_ret
    exact ⟨ret_b (by rw [HV.out]; rfl), B_w1⟩
  | true =>
    cases b2 with
    | false =>
      go_enter Tryz.func18, Tryz.ntmps18
      go_wp2_with fail
      refine (HN.out _ (HA.out.below (w := w) (by repeat (first | exact Below.refl _ _ | refine below_step (by assumption) (by first | omega | (simp; done) | (simp; omega)) ?_ | refine below_drewN ?_ _ | refine Below.drew ?_ | refine Below.setCell ?_ (by first | omega | (simp; done) | (simp; omega)) _ | refine Below.alloc ?_ (by first | omega | (simp; done) | (simp; omega)) _)))).mono ?_
      rintro e w1 ⟨rfl, v1⟩
      have c0_w1 : w1.cell? ⟨w.heap.size, 0, none⟩ = some (.slice A k c) := (v1.cell (p := ⟨w.heap.size, 0, none⟩) (by first | omega | (simp; done) | (simp; omega))).trans (by first | assumption | go_simp)
      have c1_w1 : w1.cell? ⟨w.heap.size, 1, none⟩ = some (.slice B m d) := (v1.cell (p := ⟨w.heap.size, 1, none⟩) (by first | omega | (simp; done) | (simp; omega))).trans (by first | assumption | go_simp)
      have c2_w1 : w1.cell? ⟨w.heap.size, 2, none⟩ = some (.int .i64 h) := (v1.cell (p := ⟨w.heap.size, 2, none⟩) (by first | omega | (simp; done) | (simp; omega))).trans (by first | assumption | go_simp)
      have s0_w1 : w.heap.size < w1.heap.size := Nat.lt_of_lt_of_le (by first | omega | (simp; done) | (simp; omega)) v1.size
      have B_w1 : Below w.heap.size w w1 := (by repeat (first | exact Below.refl _ _ | refine below_step (by assumption) (by first | omega | (simp; done) | (simp; omega)) ?_ | refine below_drewN ?_ _ | refine Below.drew ?_ | refine Below.setCell ?_ (by first | omega | (simp; done) | (simp; omega)) _ | refine Below.alloc ?_ (by first | omega | (simp; done) | (simp; omega)) _))
      clear v1  
      go_wp2_with fail
      refine (HT.out _ (HA.out.below (w := w) (by repeat (first | exact Below.refl _ _ | refine below_step (by assumption) (by first | omega | (simp; done) | (simp; omega)) ?_ | refine below_drewN ?_ _ | refine Below.drew ?_ | refine Below.setCell ?_ (by first | omega | (simp; done) | (simp; omega)) _ | refine Below.alloc ?_ (by first | omega | (simp; done) | (simp; omega)) _)))).mono ?_
      rintro e w2 ⟨rfl, v2⟩
      have c0_w2 : w2.cell? ⟨w.heap.size, 0, none⟩ = some (.slice A k c) := (v2.cell (p := ⟨w.heap.size, 0, none⟩) (by first | omega | (simp; done) | (simp; omega))).trans (by first | assumption | go_simp)
      have c1_w2 : w2.cell? ⟨w.heap.size, 1, none⟩ = some (.slice B m d) := (v2.cell (p := ⟨w.heap.size, 1, none⟩) (by first | omega | (simp; done) | (simp; omega))).trans (by first | assumption | go_simp)
      have c2_w2 : w2.cell? ⟨w.heap.size, 2, none⟩ = some (.int .i64 h) := (v2.cell (p := ⟨w.heap.size, 2, none⟩) (by first | omega | (simp; done) | (simp; omega))).trans (by first | assumption | go_simp)
      have s0_w2 : w.heap.size < w2.heap.size := Nat.lt_of_lt_of_le (by first | omega | (simp; done) | (simp; omega)) v2.size
      have B_w2 : Below w.heap.size w w2 := (by repeat (first | exact Below.refl _ _ | refine below_step (by assumption) (by first | omega | (simp; done) | (simp; omega)) ?_ | refine below_drewN ?_ _ | refine Below.drew ?_ | refine Below.setCell ?_ (by first | omega | (simp; done) | (simp; omega)) _ | refine Below.alloc ?_ (by first | omega | (simp; done) | (simp; omega)) _))
      clear v2 c0_w1 c1_w1 c2_w1 s0_w1 B_w1
      go_wp2_with fail
      go_ret
      exact ⟨ret_b (by rw [HV.out]; rfl), B_w2⟩
    | true =>
      by_cases h1 : 1 ≤ h
      · have HD1 := Lib.hid (decide_eq_true h1)
        by_cases h2 : h ≤ 10
        · have HD2 := Lib.hid (decide_eq_true h2)
          go_enter Tryz.func18, Tryz.ntmps18
          go_wp2_with fail
          refine (HN.out _ (HA.out.below (w := w) (by repeat (first | exact Below.refl _ _ | refine below_step (by assumption) (by first | omega | (simp; done) | (simp; omega)) ?_ | refine below_drewN ?_ _ | refine Below.drew ?_ | refine Below.setCell ?_ (by first | omega | (simp; done) | (simp; omega)) _ | refine Below.alloc ?_ (by first | omega | (simp; done) | (simp; omega)) _)))).mono ?_
          rintro e w1 ⟨rfl, v1⟩
          have c0_w1 : w1.cell? ⟨w.heap.size, 0, none⟩ = some (.slice A k c) := (v1.cell (p := ⟨w.heap.size, 0, none⟩) (by first | omega | (simp; done) | (simp; omega))).trans (by first | assumption | go_simp)
          have c1_w1 : w1.cell? ⟨w.heap.size, 1, none⟩ = some (.slice B m d) := (v1.cell (p := ⟨w.heap.size, 1, none⟩) (by first | omega | (simp; done) | (simp; omega))).trans (by first | assumption | go_simp)
          have c2_w1 : w1.cell? ⟨w.heap.size, 2, none⟩ = some (.int .i64 h) := (v1.cell (p := ⟨w.heap.size, 2, none⟩) (by first | omega | (simp; done) | (simp; omega))).trans (by first | assumption | go_simp)
          have s0_w1 : w.heap.size < w1.heap.size := Nat.lt_of_lt_of_le (by first | omega | (simp; done) | (simp; omega)) v1.size
          have B_w1 : Below w.heap.size w w1 := (by repeat (first | exact Below.refl _ _ | refine below_step (by assumption) (by first | omega | (simp; done) | (simp; omega)) ?_ | refine below_drewN ?_ _ | refine Below.drew ?_ | refine Below.setCell ?_ (by first | omega | (simp; done) | (simp; omega)) _ | refine Below.alloc ?_ (by first | omega | (simp; done) | (simp; omega)) _))
          clear v1  
          go_wp2_with fail
          refine (HT.out _ (HA.out.below (w := w) (by repeat (first | exact Below.refl _ _ | refine below_step (by assumption) (by first | omega | (simp; done) | (simp; omega)) ?_ | refine below_drewN ?_ _ | refine Below.drew ?_ | refine Below.setCell ?_ (by first | omega | (simp; done) | (simp; omega)) _ | refine Below.alloc ?_ (by first | omega | (simp; done) | (simp; omega)) _)))).mono ?_
          rintro e w2 ⟨rfl, v2⟩
          have c0_w2 : w2.cell? ⟨w.heap.size, 0, none⟩ = some (.slice A k c) := (v2.cell (p := ⟨w.heap.size, 0, none⟩) (by first | omega | (simp; done) | (simp; omega))).trans (by first | assumption | go_simp)
          have c1_w2 : w2.cell? ⟨w.heap.size, 1, none⟩ = some (.slice B m d) := (v2.cell (p := ⟨w.heap.size, 1, none⟩) (by first | omega | (simp; done) | (simp; omega))).trans (by first | assumption | go_simp)
          have c2_w2 : w2.cell? ⟨w.heap.size, 2, none⟩ = some (.int .i64 h) := (v2.cell (p := ⟨w.heap.size, 2, none⟩) (by first | omega | (simp; done) | (simp; omega))).trans (by first | assumption | go_simp)
          have s0_w2 : w.heap.size < w2.heap.size := Nat.lt_of_lt_of_le (by first | omega | (simp; done) | (simp; omega)) v2.size
          have B_w2 : Below w.heap.size w w2 := (by repeat (first | exact Below.refl _ _ | refine below_step (by assumption) (by first | omega | (simp; done) | (simp; omega)) ?_ | refine below_drewN ?_ _ | refine Below.drew ?_ | refine Below.setCell ?_ (by first | omega | (simp; done) | (simp; omega)) _ | refine Below.alloc ?_ (by first | omega | (simp; done) | (simp; omega)) _))
          clear v2 c0_w1 c1_w1 c2_w1 s0_w1 B_w1
          go_wp2_with fail
          go_ret
          exact ⟨ret_b (by rw [HV.out, HD1.out, HD2.out]; rfl), B_w2⟩
        · have HD2 := Lib.hid (decide_eq_false h2)
          go_enter Tryz.func18, Tryz.ntmps18
          go_wp2_with fail
          refine (HN.out _ (HA.out.below (w := w) (by repeat (first | exact Below.refl _ _ | refine below_step (by assumption) (by first | omega | (simp; done) | (simp; omega)) ?_ | refine below_drewN ?_ _ | refine Below.drew ?_ | refine Below.setCell ?_ (by first | omega | (simp; done) | (simp; omega)) _ | refine Below.alloc ?_ (by first | omega | (simp; done) | (simp; omega)) _)))).mono ?_
          rintro e w1 ⟨rfl, v1⟩
          have c0_w1 : w1.cell? ⟨w.heap.size, 0, none⟩ = some (.slice A k c) := (v1.cell (p := ⟨w.heap.size, 0, none⟩) (by first | omega | (simp; done) | (simp; omega))).trans (by first | assumption | go_simp)
          have c1_w1 : w1.cell? ⟨w.heap.size, 1, none⟩ = some (.slice B m d) := (v1.cell (p := ⟨w.heap.size, 1, none⟩) (by first | omega | (simp; done) | (simp; omega))).trans (by first | assumption | go_simp)
          have c2_w1 : w1.cell? ⟨w.heap.size, 2, none⟩ = some (.int .i64 h) := (v1.cell (p := ⟨w.heap.size, 2, none⟩) (by first | omega | (simp; done) | (simp; omega))).trans (by first | assumption | go_simp)
          have s0_w1 : w.heap.size < w1.heap.size := Nat.lt_of_lt_of_le (by first | omega | (simp; done) | (simp; omega)) v1.size
          have B_w1 : Below w.heap.size w w1 := (by repeat (first | exact Below.refl _ _ | refine below_step (by assumption) (by first | omega | (simp; done) | (simp; omega)) ?_ | refine below_drewN ?_ _ | refine Below.drew ?_ | refine Below.setCell ?_ (by first | omega | (simp; done) | (simp; omega)) _ | refine Below.alloc ?_ (by first | omega | (simp; done) | (simp; omega)) _))
          clear v1  
          go_wp2_with fail
          refine (HT.out _ (HA.out.below (w := w) (by repeat (first | exact Below.refl _ _ | refine below_step (by assumption) (by first | omega | (simp; done) | (simp; omega)) ?_ | refine below_drewN ?_ _ | refine Below.drew ?_ | refine Below.setCell ?_ (by first | omega | (simp; done) | (simp; omega)) _ | refine Below.alloc ?_ (by first | omega | (simp; done) | (simp; omega)) _)))).mono ?_
          rintro e w2 ⟨rfl, v2⟩
          have c0_w2 : w2.cell? ⟨w.heap.size, 0, none⟩ = some (.slice A k c) := (v2.cell (p := ⟨w.heap.size, 0, none⟩) (by first | omega | (simp; done) | (simp; omega))).trans (by first | assumption | go_simp)
          have c1_w2 : w2.cell? ⟨w.heap.size, 1, none⟩ = some (.slice B m d) := (v2.cell (p := ⟨w.heap.size, 1, none⟩) (by first | omega | (simp; done) | (simp; omega))).trans (by first | assumption | go_simp)
          have c2_w2 : w2.cell? ⟨w.heap.size, 2, none⟩ = some (.int .i64 h) := (v2.cell (p := ⟨w.heap.size, 2, none⟩) (by first | omega | (simp; done) | (simp; omega))).trans (by first | assumption | go_simp)
          have s0_w2 : w.heap.size < w2.heap.size := Nat.lt_of_lt_of_le (by first | omega | (simp; done) | (simp; omega)) v2.size
          have B_w2 : Below w.heap.size w w2 := (by repeat (first | exact Below.refl _ _ | refine below_step (by assumption) (by first | omega | (simp; done) | (simp; omega)) ?_ | refine below_drewN ?_ _ | refine Below.drew ?_ | refine Below.setCell ?_ (by first | omega | (simp; done) | (simp; omega)) _ | refine Below.alloc ?_ (by first | omega | (simp; done) | (simp; omega)) _))
          clear v2 c0_w1 c1_w1 c2_w1 s0_w1 B_w1
          go_wp2_with fail
          go_ret
          exact ⟨ret_b (by rw [HV.out, HD1.out, HD2.out]; rfl), B_w2⟩
      · have HD1 := Lib.hid (decide_eq_false h1)
        go_enter Tryz.func18, Tryz.ntmps18
        go_wp2_with fail
        refine (HN.out _ (HA.out.below (w := w) (by repeat (first | exact Below.refl _ _ | refine below_step (by assumption) (by first | omega | (simp; done) | (simp; omega)) ?_ | refine below_drewN ?_ _ | refine Below.drew ?_ | refine Below.setCell ?_ (by first | omega | (simp; done) | (simp; omega)) _ | refine Below.alloc ?_ (by first | omega | (simp; done) | (simp; omega)) _)))).mono ?_
        rintro e w1 ⟨rfl, v1⟩
        have c0_w1 : w1.cell? ⟨w.heap.size, 0, none⟩ = some (.slice A k c) := (v1.cell (p := ⟨w.heap.size, 0, none⟩) (by first | omega | (simp; done) | (simp; omega))).trans (by first | assumption | go_simp)
        have c1_w1 : w1.cell? ⟨w.heap.size, 1, none⟩ = some (.slice B m d) := (v1.cell (p := ⟨w.heap.size, 1, none⟩) (by first | omega | (simp; done) | (simp; omega))).trans (by first | assumption | go_simp)
        have c2_w1 : w1.cell? ⟨w.heap.size, 2, none⟩ = some (.int .i64 h) := (v1.cell (p := ⟨w.heap.size, 2, none⟩) (by first | omega | (simp; done) | (simp; omega))).trans (by first | assumption | go_simp)
        have s0_w1 : w.heap.size < w1.heap.size := Nat.lt_of_lt_of_le (by first | omega | (simp; done) | (simp; omega)) v1.size
        have B_w1 : Below w.heap.size w w1 := (by repeat (first | exact Below.refl _ _ | refine below_step (by assumption) (by first | omega | (simp; done) | (simp; omega)) ?_ | refine below_drewN ?_ _ | refine Below.drew ?_ | refine Below.setCell ?_ (by first | omega | (simp; done) | (simp; omega)) _ | refine Below.alloc ?_ (by first | omega | (simp; done) | (simp; omega)) _))
        clear v1  
        go_wp2_with fail
        refine (HT.out _ (HA.out.below (w := w) (by repeat (first | exact Below.refl _ _ | refine below_step (by assumption) (by first | omega | (simp; done) | (simp; omega)) ?_ | refine below_drewN ?_ _ | refine Below.drew ?_ | refine Below.setCell ?_ (by first | omega | (simp; done) | (simp; omega)) _ | refine Below.alloc ?_ (by first | omega | (simp; done) | (simp; omega)) _)))).mono ?_
        rintro e w2 ⟨rfl, v2⟩
        have c0_w2 : w2.cell? ⟨w.heap.size, 0, none⟩ = some (.slice A k c) := (v2.cell (p := ⟨w.heap.size, 0, none⟩) (by first | omega | (simp; done) | (simp; omega))).trans (by first | assumption | go_simp)
        have c1_w2 : w2.cell? ⟨w.heap.size, 1, none⟩ = some (.slice B m d) := (v2.cell (p := ⟨w.heap.size, 1, none⟩) (by first | omega | (simp; done) | (simp; omega))).trans (by first | assumption | go_simp)
        have c2_w2 : w2.cell? ⟨w.heap.size, 2, none⟩ = some (.int .i64 h) := (v2.cell (p := ⟨w.heap.size, 2, none⟩) (by first | omega | (simp; done) | (simp; omega))).trans (by first | assumption | go_simp)
        have s0_w2 : w.heap.size < w2.heap.size := Nat.lt_of_lt_of_le (by first | omega | (simp; done) | (simp; omega)) v2.size
        have B_w2 : Below w.heap.size w w2 := (by repeat (first | exact Below.refl _ _ | refine below_step (by assumption) (by first | omega | (simp; done) | (simp; omega)) ?_ | refine below_drewN ?_ _ | refine Below.drew ?_ | refine Below.setCell ?_ (by first | omega | (simp; done) | (simp; omega)) _ | refine Below.alloc ?_ (by first | omega | (simp; done) | (simp; omega)) _))
        clear v2 c0_w1 c1_w1 c2_w1 s0_w1 B_w1
        go_wp2_with fail
        go_ret
        exact ⟨ret_b (by rw [HV.out, HD1.out]; rfl), B_w2⟩

end Go.Proofs.YtgajodcgedhikaaGreatDoor

namespace Go.Proofs.YtgajodcgedhikaaGreatDoor
open Go.RowKit
set_option linter.unusedVariables false
set_option linter.unusedSimpArgs false

theorem own_empV {W : World} {B s : Nat} {t : TypeId} (b : Nat) (hB : B ≤ b) (h : W.heap[b]? = some (.cells #[] t (0, 0))) : W.ownsRow B t s (.slice (some ⟨b, 0, none⟩) 0 0) 0 [] :=
  ⟨by simp, .inr ⟨b, 0, #[], rfl, hB, h, Nat.le_refl _, Nat.zero_le _, by simp, by simp⟩⟩
theorem heap_newV (w : World) (o : Obj) (g : Nat) (h : g = w.heap.size) : (w.alloc o).heap[g]? = some o := by rw [h]; exact heap_alloc_new w o
theorem one_c1V (a : Int) : ∀ u ∈ [Value.int .i64 a], u.oneCell' = true := fun u hu => by simp at hu; subst hu; rfl
theorem chR_no {s : GS} (h : shR s = false) : chR s = [] := by unfold chR; rw [if_neg (by rw [h]; simp)]
theorem chR_yes {s : GS} (h : shR s = true) : chR s = chJ s s.ns.length := by unfold chR; rw [if_pos h]
theorem chJ_next (s : GS) (j : Nat) : chJ s (j + 1) = chJ s j ++ (if 0 < j ∧ freR s.ts j < 0 then [(j : Int)] else []) := rfl
theorem chR_len (s : GS) : (chR s).length ≤ 7 := by
  cases h : shR s with
  | false => rw [chR_no h]; simp
  | true => rw [chR_yes h]; have := chJ_len s s.ns.length; have := (shR_rng h).2.1; omega

end Go.Proofs.YtgajodcgedhikaaGreatDoor

namespace Go.Proofs.YtgajodcgedhikaaGreatDoor
open Go.RowKit
open Go.Maps (Keyed int_keyed string_keyed keyOf_int_mk has)
set_option linter.unusedVariables false
set_option linter.unusedSimpArgs false

theorem int_ansP {a b : Int} (h : a = b) : Ending.returned (.int .i64 a) = .returned (.int .i64 b) := by rw [h]
theorem frR_yes {s : GS} {x : Int} (h : shR s = true) : frR s x = freR s.ts x := by unfold frR; rw [if_pos h]
theorem frR_no {s : GS} {x : Int} (h : shR s = false) : frR s x = -1 := by unfold frR; rw [if_neg (by rw [h]; simp)]
theorem frR_rng (s : GS) (x : Int) : frR s x = -1 ∨ 0 ≤ frR s x := by
  unfold frR
  split
  · rcases fir_rng (fun t : GT => t.fr && decide (t.v = x)) s.ts with h | ⟨j, _, h, _⟩
    · exact .inl h
    · refine .inr ?_
      unfold freR
      rw [h]; omega
  · exact .inl rfl
theorem wo_parts (s : GS) (x : Int) : woR8 s x = if 0 ≤ lasR s.ns x ∧ shR s = true then lasR s.ns x else -1 := by
  unfold woR8
  by_cases hs : shR s = true
  · rw [hs, Bool.and_true]
    have h1 := hs
    unfold shR at h1
    rw [Bool.and_eq_true] at h1
    have h2 := h1.1
    unfold ndsR at h2
    rw [Bool.and_eq_true, Bool.and_eq_true] at h2
    have ha : ∀ i, i < s.ns.length → ndA s.ns i = true := fun i hi => allJ_of h2.2.1 hi
    obtain ⟨hok, hlw⟩ := ndA_parts ha
    by_cases hx : 1 ≤ x ∧ x ≤ 3
    · rw [if_pos (by rw [decide_eq_true hx.1, decide_eq_true hx.2]; rfl), hlw x (by omega)]
      rcases watR_rngW s.ns x with h3 | ⟨i, _, h3, _⟩
      · rw [h3, if_neg (by omega)]
      · rw [h3, if_pos ⟨by omega, rfl⟩]
    · rw [if_neg (by simp only [Bool.and_eq_true, decide_eq_true_eq]; exact hx)]
      rcases lasR_rng s.ns x with h3 | ⟨i, hi, h3, h4⟩
      · rw [if_neg (by omega)]
      · by_cases h0 : x = 0
        · have : lasR s.ns x = -1 := by unfold lasR; rw [if_pos h0]
          omega
        · have := nodB_wat (hok i hi)
          omega
  · have hs2 : shR s = false := by simpa using hs
    rw [hs2, Bool.and_false, if_neg (by simp), if_neg (by simp)]

set_option maxRecDepth 100000 in
set_option maxHeartbeats 8000000 in
theorem impl_NodeNamed (s : GS) (x : ByteArray) (A : Option Addr) (k c : Nat) (B : Option Addr) (m d : Nat) (w : World) (hk : k ≤ 1048576) (hw : ∀ e ∈ s.ns, e.wf) (hx : x.size ≤ maxLen) (ha : ShowAt w s A k B m) :
    Calls Tryz.prog 91 #[shV A k c B m d s.h, .string x] w fun e w' => e = .returned (.int .i64 (namR s.ns x)) ∧ Below w.heap.size w w' := by
  have HWT := Lib.hid (fun W h => names_any s.ns A k c W ha.ln hk hw h)
  have HKS := Lib.hid (Go.WideMaps.keyOf_string_mk Tryz.underlying9 hx)
  have HA := Lib.hid ha
  have HR := Lib.hid (namR_rng s.ns x)
  clear ha hw
  obtain ⟨h, hh⟩ : ∃ h, h = s.h := ⟨_, rfl⟩
  rw [← hh]
  clear hh
  unfold shV
  have HHAS : Hid (has (nmR s.ns 0) (.string x.data.toList) = decide (0 ≤ namR s.ns x)) := Lib.hid (nmR_has x s.ns 0)
  obtain ⟨z, hz⟩ : ∃ z, z = namR s.ns x := ⟨_, rfl⟩
  have HZ := Lib.hid hz
  rw [← hz] at HHAS HR
  rw [← hz]
  clear hz
  by_cases h0 : 0 ≤ z
  · have HD := Lib.hid (decide_eq_true h0)
    go_enter Tryz.func91, Tryz.ntmps91
    go_wp2_with fail
    refine (HWT.out _ (HA.out.nodes.below (w := w) (by repeat (first | exact Below.refl _ _ | refine below_step (by assumption) (by first | omega | (simp; done) | (simp; omega)) ?_ | refine below_drewN ?_ _ | refine Below.drew ?_ | refine Below.setCell ?_ (by first | omega | (simp; done) | (simp; omega)) _ | refine Below.alloc ?_ (by first | omega | (simp; done) | (simp; omega)) _)))).mono ?_
    rintro e w1 ⟨rfl, hm1, v1⟩
    have c0_w1 : w1.cell? ⟨w.heap.size, 0, none⟩ = some (.slice A k c) := (v1.cell (p := ⟨w.heap.size, 0, none⟩) (by first | omega | (simp; done) | (simp; omega))).trans (by first | assumption | go_simp)
    have c1_w1 : w1.cell? ⟨w.heap.size, 1, none⟩ = some (.slice B m d) := (v1.cell (p := ⟨w.heap.size, 1, none⟩) (by first | omega | (simp; done) | (simp; omega))).trans (by first | assumption | go_simp)
    have c2_w1 : w1.cell? ⟨w.heap.size, 2, none⟩ = some (.int .i64 h) := (v1.cell (p := ⟨w.heap.size, 2, none⟩) (by first | omega | (simp; done) | (simp; omega))).trans (by first | assumption | go_simp)
    have s0_w1 : w.heap.size < w1.heap.size := Nat.lt_of_lt_of_le (by first | omega | (simp; done) | (simp; omega)) v1.size
    have B_w1 : Below w.heap.size w w1 := (by repeat (first | exact Below.refl _ _ | refine below_step (by assumption) (by first | omega | (simp; done) | (simp; omega)) ?_ | refine below_drewN ?_ _ | refine Below.drew ?_ | refine Below.setCell ?_ (by first | omega | (simp; done) | (simp; omega)) _ | refine Below.alloc ?_ (by first | omega | (simp; done) | (simp; omega)) _))
    clear v1  
    have HM1 := Lib.hid hm1
    clear hm1
    obtain ⟨y1, q1, hrun1, hat1⟩ := HM1.out.look_ok keyedS Tryz.underlying83 (zeroI _) (zd := .lit (.int .i64 0)) (zp := []) (plainElem_int Tryz.underlying3 (by decide)) HKS.out
    obtain ⟨y2, rfl, hat2, _⟩ := plainElem_int_inv Tryz.underlying3 hat1
    have hat3 : (nmR s.ns 0).atKey (.string x.data.toList) (.lit (.int .i64 0)) = (.lit (.int .i64 y2) : DU) := congrArg Prod.fst hat2
    rw [HHAS.out, HD.out, World.size_alloc] at hrun1
    have HY := Lib.hid ((at_name hat3).trans (by rw [← HZ.out]))
    clear hat1 hat2 hat3
    go_wp2_with fail
    go_ret
    exact ⟨int_ansP (by rw [HY.out]; unfold idxZ; rw [if_pos h0]), B_w1⟩
  · have HD := Lib.hid (decide_eq_false h0)
    go_enter Tryz.func91, Tryz.ntmps91
    go_wp2_with fail
    refine (HWT.out _ (HA.out.nodes.below (w := w) (by repeat (first | exact Below.refl _ _ | refine below_step (by assumption) (by first | omega | (simp; done) | (simp; omega)) ?_ | refine below_drewN ?_ _ | refine Below.drew ?_ | refine Below.setCell ?_ (by first | omega | (simp; done) | (simp; omega)) _ | refine Below.alloc ?_ (by first | omega | (simp; done) | (simp; omega)) _)))).mono ?_
    rintro e w1 ⟨rfl, hm1, v1⟩
    have c0_w1 : w1.cell? ⟨w.heap.size, 0, none⟩ = some (.slice A k c) := (v1.cell (p := ⟨w.heap.size, 0, none⟩) (by first | omega | (simp; done) | (simp; omega))).trans (by first | assumption | go_simp)
    have c1_w1 : w1.cell? ⟨w.heap.size, 1, none⟩ = some (.slice B m d) := (v1.cell (p := ⟨w.heap.size, 1, none⟩) (by first | omega | (simp; done) | (simp; omega))).trans (by first | assumption | go_simp)
    have c2_w1 : w1.cell? ⟨w.heap.size, 2, none⟩ = some (.int .i64 h) := (v1.cell (p := ⟨w.heap.size, 2, none⟩) (by first | omega | (simp; done) | (simp; omega))).trans (by first | assumption | go_simp)
    have s0_w1 : w.heap.size < w1.heap.size := Nat.lt_of_lt_of_le (by first | omega | (simp; done) | (simp; omega)) v1.size
    have B_w1 : Below w.heap.size w w1 := (by repeat (first | exact Below.refl _ _ | refine below_step (by assumption) (by first | omega | (simp; done) | (simp; omega)) ?_ | refine below_drewN ?_ _ | refine Below.drew ?_ | refine Below.setCell ?_ (by first | omega | (simp; done) | (simp; omega)) _ | refine Below.alloc ?_ (by first | omega | (simp; done) | (simp; omega)) _))
    clear v1  
    have HM1 := Lib.hid hm1
    clear hm1
    obtain ⟨y1, q1, hrun1, hat1⟩ := HM1.out.look_ok keyedS Tryz.underlying83 (zeroI _) (zd := .lit (.int .i64 0)) (zp := []) (plainElem_int Tryz.underlying3 (by decide)) HKS.out
    obtain ⟨y2, rfl, hat2, _⟩ := plainElem_int_inv Tryz.underlying3 hat1
    have hat3 : (nmR s.ns 0).atKey (.string x.data.toList) (.lit (.int .i64 0)) = (.lit (.int .i64 y2) : DU) := congrArg Prod.fst hat2
    rw [HHAS.out, HD.out, World.size_alloc] at hrun1
    have HY := Lib.hid ((at_name hat3).trans (by rw [← HZ.out]))
    clear hat1 hat2 hat3
    go_wp2_with fail
    go_ret
    exact ⟨int_ansP (by rcases HR.out with q | ⟨i, _, q⟩ <;> omega), B_w1⟩

end Go.Proofs.YtgajodcgedhikaaGreatDoor

namespace Go.Proofs.YtgajodcgedhikaaGreatDoor
open Go.Shelf

def lays240_ren : Go.Shelf.Ren := ⟨fun | 240 => 86 | 276 => 99 | n => n, fun | 0 => 0 | 4 => 4 | 9 => 9 | 20 => 20 | 37 => 76 | 70 => 90 | 72 => 92 | 164 => 109 | n => n, fun | n => n⟩
theorem lays240 : Go.Proofs.Lays.n240 Tryz.prog lays240_ren := {
  mixed := by kernel_rfl
  f240 := Tryz.func86.trans (congrArg some (by kernel_rfl))
  f276 := Tryz.func99.trans (congrArg some (by kernel_rfl))
  t0 := Tryz.underlying0
  a0 := Tryz.isAgg0
  z0 := Tryz.sizeOf0
  v0 := Tryz.zeroValue0
  t4 := Tryz.underlying4
  a4 := Tryz.isAgg4
  z4 := Tryz.sizeOf4
  v4 := Tryz.zeroValue4
  t9 := Tryz.underlying9
  a9 := Tryz.isAgg9
  z9 := Tryz.sizeOf9
  v9 := Tryz.zeroValue9
  t20 := Tryz.underlying20
  a20 := Tryz.isAgg20
  z20 := Tryz.sizeOf20
  v20 := Tryz.zeroValue20
  t70 := Tryz.underlying90
  a70 := Tryz.isAgg90
  z70 := Tryz.sizeOf90
  v70 := Tryz.zeroValue90
  t72 := Tryz.underlying92
  a72 := Tryz.isAgg92
  z72 := Tryz.sizeOf92
  v72 := Tryz.zeroValue92
  t164 := Tryz.underlying109
  a164 := Tryz.isAgg109
  z164 := Tryz.sizeOf109
  v164 := Tryz.zeroValue109 }
def lays166_ren : Go.Shelf.Ren := ⟨fun | 166 => 68 | 240 => 86 | 276 => 99 | n => n, fun | 0 => 0 | 3 => 3 | 4 => 4 | 5 => 5 | 9 => 9 | 20 => 20 | 37 => 76 | 70 => 90 | 72 => 92 | 75 => 94 | 80 => 70 | 164 => 109 | n => n, fun | n => n⟩
theorem lays166 : Go.Proofs.Lays.n166 Tryz.prog lays166_ren := {
  mixed := by kernel_rfl
  f166 := Tryz.func68.trans (congrArg some (by kernel_rfl))
  f240 := Tryz.func86.trans (congrArg some (by kernel_rfl))
  f276 := Tryz.func99.trans (congrArg some (by kernel_rfl))
  t0 := Tryz.underlying0
  a0 := Tryz.isAgg0
  z0 := Tryz.sizeOf0
  v0 := Tryz.zeroValue0
  t3 := Tryz.underlying3
  a3 := Tryz.isAgg3
  z3 := Tryz.sizeOf3
  v3 := Tryz.zeroValue3
  t4 := Tryz.underlying4
  a4 := Tryz.isAgg4
  z4 := Tryz.sizeOf4
  v4 := Tryz.zeroValue4
  t9 := Tryz.underlying9
  a9 := Tryz.isAgg9
  z9 := Tryz.sizeOf9
  v9 := Tryz.zeroValue9
  t20 := Tryz.underlying20
  a20 := Tryz.isAgg20
  z20 := Tryz.sizeOf20
  v20 := Tryz.zeroValue20
  t37 := Tryz.underlying76
  a37 := Tryz.isAgg76
  z37 := Tryz.sizeOf76
  v37 := Tryz.zeroValue76
  t70 := Tryz.underlying90
  a70 := Tryz.isAgg90
  z70 := Tryz.sizeOf90
  v70 := Tryz.zeroValue90
  t72 := Tryz.underlying92
  a72 := Tryz.isAgg92
  z72 := Tryz.sizeOf92
  v72 := Tryz.zeroValue92
  t75 := Tryz.underlying94
  a75 := Tryz.isAgg94
  z75 := Tryz.sizeOf94
  v75 := Tryz.zeroValue94
  t164 := Tryz.underlying109
  a164 := Tryz.isAgg109
  z164 := Tryz.sizeOf109
  v164 := Tryz.zeroValue109 }
theorem extra166 : Builder.Extra Tryz.prog lays166_ren := {
  sizeBuilder := by kernel_rfl
  liesBuilder := by kernel_rfl
  t5 := Tryz.underlying5
  a5 := Tryz.isAgg5
  z5 := Tryz.sizeOf5
  v5 := Tryz.zeroValue5
  infoByte := by kernel_rfl
  cellsByte := by kernel_rfl
  sizeByte := by kernel_rfl
  neB5 := by decide }
def lays169_ren : Go.Shelf.Ren := ⟨fun | 169 => 69 | n => n, fun | 0 => 0 | 3 => 3 | 5 => 5 | 9 => 9 | 37 => 76 | 70 => 90 | 72 => 92 | 127 => 103 | n => n, fun | n => n⟩
theorem lays169 : Go.Proofs.Lays.n169 Tryz.prog lays169_ren := {
  mixed := by kernel_rfl
  f169 := Tryz.func69.trans (congrArg some (by kernel_rfl))
  t0 := Tryz.underlying0
  a0 := Tryz.isAgg0
  z0 := Tryz.sizeOf0
  v0 := Tryz.zeroValue0
  t3 := Tryz.underlying3
  a3 := Tryz.isAgg3
  z3 := Tryz.sizeOf3
  v3 := Tryz.zeroValue3
  t9 := Tryz.underlying9
  a9 := Tryz.isAgg9
  z9 := Tryz.sizeOf9
  v9 := Tryz.zeroValue9
  t37 := Tryz.underlying76
  a37 := Tryz.isAgg76
  z37 := Tryz.sizeOf76
  v37 := Tryz.zeroValue76
  t70 := Tryz.underlying90
  a70 := Tryz.isAgg90
  z70 := Tryz.sizeOf90
  v70 := Tryz.zeroValue90
  t72 := Tryz.underlying92
  a72 := Tryz.isAgg92
  z72 := Tryz.sizeOf92
  v72 := Tryz.zeroValue92
  t127 := Tryz.underlying103
  a127 := Tryz.isAgg103
  z127 := Tryz.sizeOf103
  v127 := Tryz.zeroValue103 }
theorem extra169 : Builder.Extra Tryz.prog lays169_ren := {
  sizeBuilder := by kernel_rfl
  liesBuilder := by kernel_rfl
  t5 := Tryz.underlying5
  a5 := Tryz.isAgg5
  z5 := Tryz.sizeOf5
  v5 := Tryz.zeroValue5
  infoByte := by kernel_rfl
  cellsByte := by kernel_rfl
  sizeByte := by kernel_rfl
  neB5 := by decide }

open Go.RowKit in
theorem Builder_WriteString (B b : Nat) (bs : List Value) (s : ByteArray) (w : World) (h : Lib.IsBuilderF 92 5 B b bs w) (hlen : bs.length + s.size ≤ 140737488355328) (hBw : B ≤ w.heap.size) :
    Calls Tryz.prog 68 #[.pointer (some ⟨b, 0, none⟩), .string s] w fun e w' => e = .returned (.tuple #[.int .i64 s.size, .nilIface]) ∧ (Lib.BuilderAtF 92 5 B b (.pointer (some ⟨b, 0, none⟩)) (bs ++ Lib.strCells s) w' ∧ Below B w w' ∧ Lib.OthersKept 5 (some b) w w') :=
  Any.Builder_WriteString_k lays166 extra166 B b bs s w h hlen hBw
open Go.RowKit in
theorem Builder_String (B b : Nat) (l : List UInt8) (w : World) (h : Lib.IsBuilderF 92 5 B b (Lib.byteCells l) w) (hBw : B ≤ w.heap.size) :
    Calls Tryz.prog 69 #[.pointer (some ⟨b, 0, none⟩)] w fun e w' => e = .returned (.string ⟨l.toArray⟩) ∧ (Lib.IsBuilderF 92 5 B b (Lib.byteCells l) w' ∧ Below B w w' ∧ Lib.OthersKept 5 (some b) w w') :=
  Any.Builder_String_any_k lays169 extra169 B b l w h hBw

end Go.Proofs.YtgajodcgedhikaaGreatDoor

namespace Go.Proofs.YtgajodcgedhikaaGreatDoor
open Go.RowKit
set_option linter.unusedVariables false
set_option linter.unusedSimpArgs false

theorem bytes_of (x : ByteArray) : (⟨x.data.toList.toArray⟩ : ByteArray) = x := by
  apply ByteArray.ext; simp
theorem cells_join (x y : ByteArray) : Lib.byteCells x.data.toList ++ Lib.strCells y = Lib.byteCells (x ++ y).data.toList := by
  simp [Lib.byteCells, Lib.strCells]
theorem cells_len (x : ByteArray) : (Lib.byteCells x.data.toList).length = x.size := by simp [Lib.byteCells]

set_option maxRecDepth 100000 in
set_option maxHeartbeats 1000000 in
theorem impl_joinParts (ss : List ByteArray) (sep : ByteArray) (A : Option Addr) (n c : Nat) (w : World) (hn : ss.length = n) (hm : n ≤ 1048576) (hsep : sep.size ≤ 1048576) (hss : ∀ x ∈ ss, x.size ≤ 1048576) (hr : RowAt w A (ss.map Value.string)) :
    Calls Tryz.prog 39 #[.string sep, .slice A n c] w fun e w' => e = .returned (.string (joinB ss sep)) ∧ Below w.heap.size w w' := by
  have HR := Lib.hid hr
  have HL := Lib.hid hn
  have HS := Lib.hid hss
  clear hr hn hss
  go_enter Tryz.func39, Tryz.ntmps39
  go_wp2
  go_loopw [10] (fun i wr => ∃ (k : Nat) (y : ByteArray), k ≤ n ∧ i = .int .i64 k ∧ Hid (joinTo ss sep k = y) ∧ Lib.IsBuilderF 92 5 w.heap.size w.heap.size (Lib.byteCells y.data.toList) wr ∧ Below w.heap.size w wr) (fun i _ => n - (intOf i).toNat)
  case atStart => exact ⟨0, ⟨#[]⟩, Nat.zero_le _, rfl, Lib.hid rfl, Lib.IsBuilderF.of (Lib.fresh_isBuilder _ _ w), (Below.refl _ w).alloc (Nat.le_refl _) _⟩
  case round =>
    obtain ⟨k, y, hk, rfl, HY, hI, hbw⟩ := hrel
    by_cases hlt : k < n
    · have hl := HL.out
      obtain ⟨g, o, rfl, hg, hc⟩ := HR.out (by simp; omega)
      obtain ⟨x, h1, hx2⟩ : ∃ x : ByteArray, wr.cell? ⟨g, o + k, none⟩ = some (.string x) ∧ Hid (ss.getD k ⟨#[]⟩ = x) :=
        ⟨ss[k]'(by omega), (hbw.cell (p := ⟨g, o + k, none⟩) hg).trans ((hc k (by simp; omega)).trans (by rw [List.getElem_map])), Lib.hid (by rw [List.getD_eq_getElem?_getD, List.getElem?_eq_getElem (by omega)]; rfl)⟩
      have hxs : x.size ≤ 1048576 := by
        have := hx2.out
        rw [List.getD_eq_getElem?_getD, List.getElem?_eq_getElem (by omega)] at this
        exact HS.out x (by rw [← this]; exact List.getElem_mem _)
      have hys : y.size ≤ 2199023255552 := by
        have := joinTo_size ss sep hsep HS.out k
        rw [HY.out] at this
        omega
      clear hc hl
      have hstep : Hid (joinTo ss sep (k + 1) = (if 0 < k then y ++ sep else y) ++ x) := Lib.hid (by rw [joinTo, hx2.out, HY.out])
      clear hx2
      have HI := Lib.hid hI
      clear hI
      by_cases h0 : 0 < k
      · rw [if_pos h0] at hstep
        go_wp2_with fail
        refine (Builder_WriteString w.heap.size w.heap.size _ sep wr HI.out (by rw [cells_len]; omega) hbw.size).mono ?_
        rintro e w1 ⟨rfl, h2, b2, _⟩
        rw [cells_join] at h2
        have H2 := Lib.hid (Or.inr h2 : Lib.IsBuilderF 92 5 w.heap.size w.heap.size (Lib.byteCells (y ++ sep).data.toList) w1)
        have hb1 := hbw.trans b2
        clear h2 b2
        go_wp2_with fail
        refine (Builder_WriteString w.heap.size w.heap.size _ x w1 H2.out (by rw [cells_len, ByteArray.size_append]; omega) hb1.size).mono ?_
        rintro e w2 ⟨rfl, h3, b3, _⟩
        rw [cells_join] at h3
        have H3 := Lib.hid (Or.inr h3 : Lib.IsBuilderF 92 5 w.heap.size w.heap.size (Lib.byteCells (y ++ sep ++ x).data.toList) w2)
        have hb2 := hb1.trans b3
        clear h3 b3
        go_wp2
        go_roundw
        case rel => exact ⟨k + 1, _, by omega, by go_num, hstep, H3.out, hb2⟩
        case measure => simp [intOf]; omega
      · rw [if_neg h0] at hstep
        have hk0 : k = 0 := by omega
        subst hk0
        rw [Nat.add_zero] at h1
        go_wp2_with fail
        refine (Builder_WriteString w.heap.size w.heap.size _ x wr HI.out (by rw [cells_len]; omega) hbw.size).mono ?_
        rintro e w2 ⟨rfl, h3, b3, _⟩
        rw [cells_join] at h3
        have H3 := Lib.hid (Or.inr h3 : Lib.IsBuilderF 92 5 w.heap.size w.heap.size (Lib.byteCells (y ++ x).data.toList) w2)
        have hb2 := hbw.trans b3
        clear h3 b3
        go_wp2
        go_roundw
        case rel => exact ⟨1, _, by omega, by go_num, hstep, H3.out, hb2⟩
        case measure => simp [intOf]; omega
    · have hkn : k = n := by omega
      have HI := Lib.hid hI
      clear hI
      go_wp2_with fail
      refine (Builder_String w.heap.size w.heap.size _ wr HI.out hbw.size).mono ?_
      rintro e w1 ⟨rfl, _, b1, _⟩
      have hb1 := hbw.trans b1
      clear b1
      go_wp2
      go_ret
      subst hkn
      exact ⟨by unfold joinB; rw [HL.out, HY.out, bytes_of]; rfl, hb1⟩

set_option maxRecDepth 100000 in
set_option maxHeartbeats 400000 in
theorem impl_Join (ss : List ByteArray) (sep : ByteArray) (A : Option Addr) (n c : Nat) (w : World) (hn : ss.length = n) (hm : n ≤ 1048576) (hsep : sep.size ≤ 1048576) (hss : ∀ x ∈ ss, x.size ≤ 1048576) (hr : RowAt w A (ss.map Value.string)) :
    Calls Tryz.prog 43 #[.slice A n c, .string sep] w fun e w' => e = .returned (.string (joinB ss sep)) ∧ Below w.heap.size w w' := by
  go_enter Tryz.func43, Tryz.ntmps43
  have HC := Lib.hid (impl_joinParts ss sep A n c w hn hm hsep hss hr)
  clear hr hss hn
  go_wp2_with fail
  refine HC.out.mono ?_
  rintro e w1 ⟨rfl, hb⟩
  go_wp2
  go_ret
  exact ⟨rfl, hb⟩

end Go.Proofs.YtgajodcgedhikaaGreatDoor
