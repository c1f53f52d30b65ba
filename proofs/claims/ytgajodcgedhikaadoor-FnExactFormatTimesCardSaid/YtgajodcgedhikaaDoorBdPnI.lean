/-
  WALKS of impl's tiesOk, ShowOk.
  THE CONTRACTS OF Go's LIBRARY AT THIS TRANSLATION: strings.Builder's WriteString and String (the shelf's theorems, laid by their structures).
  WALKS of impl.joinParts, impl.Join.
  WALKS of the program: a literal's word, FormatLabel.
-/
import Derived.Test.YtgajodcgedhikaaDoorPnH
import Derived.Test.YtgajodcgedhikaaDoorBdShR
import Derived.Shelf.Strings.BuilderK
import Derived.Test.YtgajodcgedhikaaDoorProg
import Derived.Test.YtgajodcgedhikaaDoorBdDig
import Derived.Test.YtgajodcgedhikaaDoorBdConv
import Derived.Test.YtgajodcgedhikaaDoorBdLwP
import Derived.Deep.AppendLies
import Derived.Deep.CutRange
namespace Go.Proofs.YtgajodcgedhikaaDoor
open Go.RowKit
set_option linter.unusedVariables false
set_option linter.unusedSimpArgs false

def tisB (ns : List GN) (ts : List GT) : Bool := decide (ts.length ≤ 14) && allJ (tiB ns ts) ts.length

set_option maxRecDepth 100000 in
set_option maxHeartbeats 8000000 in
theorem tiesOk_any (s : GS) (A : Option Addr) (k c : Nat) (B : Option Addr) (m d : Nat) (w : World) (hs : ShB s) (ha : ShowAt w s A k B m) :
    Calls Tryd.prog 41 #[shV A k c B m d s.h] w fun e w' => e = .returned (.bool (tisB s.ns s.ts)) ∧ Below w.heap.size w w' := by
  have HLN := Lib.hid ha.ln
  have HLT := Lib.hid ha.lt
  have HT := Lib.hid (fun t W => tieOk_any A k c B m d s.h t W)
  have HF := Lib.hid (fun i t W ht h => freeOk_any s i t A k c B m d W hs ht h)
  have HA := Lib.hid ha
  have HV : Hid (tisB s.ns s.ts = (decide (m ≤ 14) && allJ (tiB s.ns s.ts) m)) := Lib.hid (by unfold tisB; rw [ha.lt])
  clear ha hs
  obtain ⟨h, hh⟩ : ∃ h, h = s.h := ⟨_, rfl⟩
  rw [← hh] at HT HF
  rw [← hh]
  clear hh
  unfold shV at HT HF ⊢
  obtain ⟨w1, hw1⟩ : ∃ W, W = w.alloc (.cells #[.slice A k c, .slice B m d, .int .i64 h] 31) := ⟨_, rfl⟩
  have B_w1 : Below w.heap.size w w1 := by rw [hw1]; exact (Below.refl _ _).alloc (Nat.le_refl _) _
  have z_w1 : w.heap.size < w1.heap.size := by rw [hw1]; simp
  have c0_w1 : w1.cell? ⟨w.heap.size, 0, none⟩ = some (.slice A k c) := by rw [hw1]; go_simp
  have c1_w1 : w1.cell? ⟨w.heap.size, 1, none⟩ = some (.slice B m d) := by rw [hw1]; go_simp
  have c2_w1 : w1.cell? ⟨w.heap.size, 2, none⟩ = some (.int .i64 h) := by rw [hw1]; go_simp
  have HA1 := Lib.hid (HA.out.below B_w1)
  have BW1 := Lib.hid B_w1
  have HW1 := Lib.hid hw1
  clear hw1 B_w1
  by_cases hm : m ≤ 14
  · have hmi : ¬ ((14 : Int) < (m : Int)) := by omega
    have HM := Lib.hid (decide_eq_true hm)
    go_enter Tryd.func41, Tryd.ntmps41
    go_upto_region 1 with (fail)
    rw [← HW1.out]
    go_wp2_with fail
    go_loopw [12] (fun i wr => ∃ j : Nat, j ≤ m ∧ i = .int .i64 j ∧ allJ (tiB s.ns s.ts) j = true ∧ Below w1.heap.size w1 wr) (fun i _ => m - (intOf i).toNat)
    case atStart => exact ⟨0, Nat.zero_le _, rfl, rfl, Below.refl _ _⟩
    case round =>
      obtain ⟨j, hj, rfl, hall, hbw⟩ := hrel
      have HALL := Lib.hid hall
      clear hall
      by_cases hlt : j < m
      · have hjm : ((j : Int) < (m : Int)) := by omega
        obtain ⟨⟨u, v, lo, hi2, fr⟩, he⟩ : ∃ e, s.ts[j]? = some e := ⟨_, List.getElem?_eq_getElem (by have := HLT.out; omega)⟩
        have HEQ := Lib.hid (tiB_tk (ns := s.ns) he)
        obtain ⟨gt, ot, rfl, hgt, t0, t1, t2, t3, t4⟩ := tie_facts HA1.out.ties he
        have k0 := (hbw.cell (p := ⟨gt, ot + j * 5, none⟩) hgt).trans t0
        have k1 := (hbw.cell (p := ⟨gt, ot + j * 5 + 1, none⟩) hgt).trans t1
        have k2 := (hbw.cell (p := ⟨gt, ot + j * 5 + 2, none⟩) hgt).trans t2
        have k3 := (hbw.cell (p := ⟨gt, ot + j * 5 + 3, none⟩) hgt).trans t3
        have k4 := (hbw.cell (p := ⟨gt, ot + j * 5 + 4, none⟩) hgt).trans t4
        have zr := hbw.size
        have zw := Nat.lt_of_lt_of_le z_w1 zr
        have c0_wr := (hbw.cell (p := ⟨w.heap.size, 0, none⟩) z_w1).trans c0_w1
        have c1_wr := (hbw.cell (p := ⟨w.heap.size, 1, none⟩) z_w1).trans c1_w1
        have c2_wr := (hbw.cell (p := ⟨w.heap.size, 2, none⟩) z_w1).trans c2_w1
        have e1 : (wr.heap.size = w.heap.size) = False := eq_false (by omega)
        have e2 : (w.heap.size = wr.heap.size) = False := eq_false (by omega)
        have HAR := Lib.hid (HA1.out.below hbw)
        have BW := Lib.hid hbw
        rw [HLN.out] at HEQ
        have HBAD : Hid (tiB s.ns s.ts j = false → tisB s.ns s.ts = false) := Lib.hid (fun hx => by rw [HV.out, allJ_no (f := tiB s.ns s.ts) (j := j + 1) (by rw [allJ_next, hx, Bool.and_false]) (show j + 1 ≤ m by omega), Bool.and_false])
        have HGOOD : Hid (tiB s.ns s.ts j = true → allJ (tiB s.ns s.ts) (j + 1) = true) := Lib.hid (fun hx => by rw [allJ_next, HALL.out, hx]; rfl)
        have htt := HT.out ⟨u, v, lo, hi2, fr⟩
        have hff := HF.out (j : Int) ⟨u, v, lo, hi2, fr⟩
        obtain ⟨b1, hb1⟩ : ∃ b, b = tkB k ⟨u, v, lo, hi2, fr⟩ := ⟨_, rfl⟩
        obtain ⟨b2, hb2⟩ : ∃ b, b = frB s.ns s.ts (j : Int) ⟨u, v, lo, hi2, fr⟩ := ⟨_, rfl⟩
        rw [← hb1] at htt hff HEQ
        rw [← hb2] at hff HEQ
        unfold GT.val at htt hff
        dsimp only at htt hff HEQ
        have HTT := Lib.hid htt
        have HFF := Lib.hid hff
        clear he t0 t1 t2 t3 t4 hbw hb1 hb2 htt hff c0_w1 c1_w1 c2_w1
        cases b1 with
        | false =>
          have hbw0 := BW.out
          go_wp2_with fail
          refine (HTT.out _).mono ?_
          rintro e w3 ⟨rfl, b3⟩
          have c0_w3 : w3.cell? ⟨w.heap.size, 0, none⟩ = some (.slice A k c) := (b3.cell (p := ⟨w.heap.size, 0, none⟩) (by first | omega | (simp; done) | (simp; omega))).trans (by first | assumption | go_simp)
          have c1_w3 : w3.cell? ⟨w.heap.size, 1, none⟩ = some (.slice (some ⟨gt, ot, none⟩) m d) := (b3.cell (p := ⟨w.heap.size, 1, none⟩) (by first | omega | (simp; done) | (simp; omega))).trans (by first | assumption | go_simp)
          have c2_w3 : w3.cell? ⟨w.heap.size, 2, none⟩ = some (.int .i64 h) := (b3.cell (p := ⟨w.heap.size, 2, none⟩) (by first | omega | (simp; done) | (simp; omega))).trans (by first | assumption | go_simp)
          have c3_w3 : w3.cell? ⟨wr.heap.size, 0, none⟩ = some (.int .i64 u) := (b3.cell (p := ⟨wr.heap.size, 0, none⟩) (by first | omega | (simp; done) | (simp; omega))).trans (by first | assumption | go_simp)
          have c4_w3 : w3.cell? ⟨wr.heap.size, 1, none⟩ = some (.int .i64 v) := (b3.cell (p := ⟨wr.heap.size, 1, none⟩) (by first | omega | (simp; done) | (simp; omega))).trans (by first | assumption | go_simp)
          have c5_w3 : w3.cell? ⟨wr.heap.size, 2, none⟩ = some (.int .i64 lo) := (b3.cell (p := ⟨wr.heap.size, 2, none⟩) (by first | omega | (simp; done) | (simp; omega))).trans (by first | assumption | go_simp)
          have c6_w3 : w3.cell? ⟨wr.heap.size, 3, none⟩ = some (.int .i64 hi2) := (b3.cell (p := ⟨wr.heap.size, 3, none⟩) (by first | omega | (simp; done) | (simp; omega))).trans (by first | assumption | go_simp)
          have c7_w3 : w3.cell? ⟨wr.heap.size, 4, none⟩ = some (.bool fr) := (b3.cell (p := ⟨wr.heap.size, 4, none⟩) (by first | omega | (simp; done) | (simp; omega))).trans (by first | assumption | go_simp)
          have B_r3 : Below wr.heap.size wr w3 := (by repeat (first | exact Below.refl _ _ | refine below_step (by assumption) (by first | omega | (simp; done) | (simp; omega)) ?_ | refine below_drewN ?_ _ | refine Below.drew ?_ | refine Below.setCell ?_ (by first | omega | (simp; done) | (simp; omega)) _ | refine Below.alloc ?_ (by first | omega | (simp; done) | (simp; omega)) _))
          have B_w3 : Below w1.heap.size w1 w3 := BW.out.trans (B_r3.mono zr)
          have z_w3 := B_w3.size
          have s0_w3 : w.heap.size < w3.heap.size := Nat.lt_of_lt_of_le (by first | omega | (simp; done) | (simp; omega)) b3.size
          have s1_w3 : wr.heap.size < w3.heap.size := Nat.lt_of_lt_of_le (by first | omega | (simp; done) | (simp; omega)) b3.size
          have HAR3 := Lib.hid (HAR.out.below B_r3)
          clear b3 hbw0 B_r3
          go_wp2_with fail
          go_ret
          exact ⟨ret_b (HBAD.out (by rw [HEQ.out]; rfl)).symm, BW1.out.trans (B_w3.mono BW1.out.size)⟩
        | true =>
          cases fr with
          | false =>
            have hbw0 := BW.out
            go_wp2_with fail
            refine (HTT.out _).mono ?_
            rintro e w3 ⟨rfl, b3⟩
            have c0_w3 : w3.cell? ⟨w.heap.size, 0, none⟩ = some (.slice A k c) := (b3.cell (p := ⟨w.heap.size, 0, none⟩) (by first | omega | (simp; done) | (simp; omega))).trans (by first | assumption | go_simp)
            have c1_w3 : w3.cell? ⟨w.heap.size, 1, none⟩ = some (.slice (some ⟨gt, ot, none⟩) m d) := (b3.cell (p := ⟨w.heap.size, 1, none⟩) (by first | omega | (simp; done) | (simp; omega))).trans (by first | assumption | go_simp)
            have c2_w3 : w3.cell? ⟨w.heap.size, 2, none⟩ = some (.int .i64 h) := (b3.cell (p := ⟨w.heap.size, 2, none⟩) (by first | omega | (simp; done) | (simp; omega))).trans (by first | assumption | go_simp)
            have c3_w3 : w3.cell? ⟨wr.heap.size, 0, none⟩ = some (.int .i64 u) := (b3.cell (p := ⟨wr.heap.size, 0, none⟩) (by first | omega | (simp; done) | (simp; omega))).trans (by first | assumption | go_simp)
            have c4_w3 : w3.cell? ⟨wr.heap.size, 1, none⟩ = some (.int .i64 v) := (b3.cell (p := ⟨wr.heap.size, 1, none⟩) (by first | omega | (simp; done) | (simp; omega))).trans (by first | assumption | go_simp)
            have c5_w3 : w3.cell? ⟨wr.heap.size, 2, none⟩ = some (.int .i64 lo) := (b3.cell (p := ⟨wr.heap.size, 2, none⟩) (by first | omega | (simp; done) | (simp; omega))).trans (by first | assumption | go_simp)
            have c6_w3 : w3.cell? ⟨wr.heap.size, 3, none⟩ = some (.int .i64 hi2) := (b3.cell (p := ⟨wr.heap.size, 3, none⟩) (by first | omega | (simp; done) | (simp; omega))).trans (by first | assumption | go_simp)
            have c7_w3 : w3.cell? ⟨wr.heap.size, 4, none⟩ = some (.bool false) := (b3.cell (p := ⟨wr.heap.size, 4, none⟩) (by first | omega | (simp; done) | (simp; omega))).trans (by first | assumption | go_simp)
            have B_r3 : Below wr.heap.size wr w3 := (by repeat (first | exact Below.refl _ _ | refine below_step (by assumption) (by first | omega | (simp; done) | (simp; omega)) ?_ | refine below_drewN ?_ _ | refine Below.drew ?_ | refine Below.setCell ?_ (by first | omega | (simp; done) | (simp; omega)) _ | refine Below.alloc ?_ (by first | omega | (simp; done) | (simp; omega)) _))
            have B_w3 : Below w1.heap.size w1 w3 := BW.out.trans (B_r3.mono zr)
            have z_w3 := B_w3.size
            have s0_w3 : w.heap.size < w3.heap.size := Nat.lt_of_lt_of_le (by first | omega | (simp; done) | (simp; omega)) b3.size
            have s1_w3 : wr.heap.size < w3.heap.size := Nat.lt_of_lt_of_le (by first | omega | (simp; done) | (simp; omega)) b3.size
            have HAR3 := Lib.hid (HAR.out.below B_r3)
            clear b3 hbw0 B_r3
            go_wp2_with fail
            go_roundw
            case rel => exact ⟨j + 1, by omega, by go_num, HGOOD.out (by rw [HEQ.out]; rfl), B_w3⟩
            case measure => simp [intOf]; omega
          | true =>
            have hbw0 := BW.out
            go_wp2_with fail
            refine (HTT.out _).mono ?_
            rintro e w3 ⟨rfl, b3⟩
            have c0_w3 : w3.cell? ⟨w.heap.size, 0, none⟩ = some (.slice A k c) := (b3.cell (p := ⟨w.heap.size, 0, none⟩) (by first | omega | (simp; done) | (simp; omega))).trans (by first | assumption | go_simp)
            have c1_w3 : w3.cell? ⟨w.heap.size, 1, none⟩ = some (.slice (some ⟨gt, ot, none⟩) m d) := (b3.cell (p := ⟨w.heap.size, 1, none⟩) (by first | omega | (simp; done) | (simp; omega))).trans (by first | assumption | go_simp)
            have c2_w3 : w3.cell? ⟨w.heap.size, 2, none⟩ = some (.int .i64 h) := (b3.cell (p := ⟨w.heap.size, 2, none⟩) (by first | omega | (simp; done) | (simp; omega))).trans (by first | assumption | go_simp)
            have c3_w3 : w3.cell? ⟨wr.heap.size, 0, none⟩ = some (.int .i64 u) := (b3.cell (p := ⟨wr.heap.size, 0, none⟩) (by first | omega | (simp; done) | (simp; omega))).trans (by first | assumption | go_simp)
            have c4_w3 : w3.cell? ⟨wr.heap.size, 1, none⟩ = some (.int .i64 v) := (b3.cell (p := ⟨wr.heap.size, 1, none⟩) (by first | omega | (simp; done) | (simp; omega))).trans (by first | assumption | go_simp)
            have c5_w3 : w3.cell? ⟨wr.heap.size, 2, none⟩ = some (.int .i64 lo) := (b3.cell (p := ⟨wr.heap.size, 2, none⟩) (by first | omega | (simp; done) | (simp; omega))).trans (by first | assumption | go_simp)
            have c6_w3 : w3.cell? ⟨wr.heap.size, 3, none⟩ = some (.int .i64 hi2) := (b3.cell (p := ⟨wr.heap.size, 3, none⟩) (by first | omega | (simp; done) | (simp; omega))).trans (by first | assumption | go_simp)
            have c7_w3 : w3.cell? ⟨wr.heap.size, 4, none⟩ = some (.bool true) := (b3.cell (p := ⟨wr.heap.size, 4, none⟩) (by first | omega | (simp; done) | (simp; omega))).trans (by first | assumption | go_simp)
            have B_r3 : Below wr.heap.size wr w3 := (by repeat (first | exact Below.refl _ _ | refine below_step (by assumption) (by first | omega | (simp; done) | (simp; omega)) ?_ | refine below_drewN ?_ _ | refine Below.drew ?_ | refine Below.setCell ?_ (by first | omega | (simp; done) | (simp; omega)) _ | refine Below.alloc ?_ (by first | omega | (simp; done) | (simp; omega)) _))
            have B_w3 : Below w1.heap.size w1 w3 := BW.out.trans (B_r3.mono zr)
            have z_w3 := B_w3.size
            have s0_w3 : w.heap.size < w3.heap.size := Nat.lt_of_lt_of_le (by first | omega | (simp; done) | (simp; omega)) b3.size
            have s1_w3 : wr.heap.size < w3.heap.size := Nat.lt_of_lt_of_le (by first | omega | (simp; done) | (simp; omega)) b3.size
            have HAR3 := Lib.hid (HAR.out.below B_r3)
            clear b3 hbw0 B_r3
            go_wp2_with fail
            refine (HFF.out _ (by trivial) HAR3.out).mono ?_
            rintro e4 w4 ⟨rfl, b4⟩
            have B_w4 : Below w1.heap.size w1 w4 := B_w3.trans (b4.mono z_w3)
            clear b4 c0_w3 c1_w3 c2_w3 c3_w3 c4_w3 c5_w3 c6_w3 c7_w3
            cases b2 with
            | false =>
              go_wp2_with fail
              go_ret
              exact ⟨ret_b (HBAD.out (by rw [HEQ.out]; rfl)).symm, BW1.out.trans (B_w4.mono BW1.out.size)⟩
            | true =>
              go_wp2_with fail
              go_roundw
              case rel => exact ⟨j + 1, by omega, by go_num, HGOOD.out (by rw [HEQ.out]; rfl), B_w4⟩
              case measure => simp [intOf]; omega
      · have hjm : ¬ ((j : Int) < (m : Int)) := by omega
        have HYES := Lib.hid (show allJ (tiB s.ns s.ts) m = true from by rw [show m = j from by omega]; exact HALL.out)
        go_wp2_with fail
        go_ret
        exact ⟨ret_b (by rw [HV.out, HM.out, HYES.out]; rfl), BW1.out.trans (hbw.mono BW1.out.size)⟩
  · have hmi : ((14 : Int) < (m : Int)) := by omega
    have HM := Lib.hid (decide_eq_false hm)
    go_enter Tryd.func41, Tryd.ntmps41
    go_upto_region 1 with (fail)
    rw [← HW1.out]
    go_wp2_with fail
    go_ret
    exact ⟨ret_b (by rw [HV.out, HM.out]; rfl), BW1.out⟩

theorem shR_parts (s : GS) : shR s = (ndsR s.ns && (tisB s.ns s.ts && (decide (1 ≤ s.h) && decide (s.h ≤ 10)))) := by
  rw [shR_at]
  unfold tisB
  cases ndsR s.ns <;> cases decide (s.ts.length ≤ 14) <;> cases decide (1 ≤ s.h) <;> cases decide (s.h ≤ 10) <;> cases allJ (tiB s.ns s.ts) s.ts.length <;> rfl

set_option maxRecDepth 100000 in
set_option maxHeartbeats 8000000 in
theorem impl_ShowOk (s : GS) (A : Option Addr) (k c : Nat) (B : Option Addr) (m d : Nat) (w : World) (hs : ShB s) (hw : ∀ e ∈ s.ns, e.wf) (ha : ShowAt w s A k B m) :
    Calls Tryd.prog 24 #[shV A k c B m d s.h] w fun e w' => e = .returned (.bool (shR s)) ∧ Below w.heap.size w w' := by
  have HN := Lib.hid (fun W h => nodesOk_any s A k c B m d W hs hw h)
  have HT := Lib.hid (fun W h => tiesOk_any s A k c B m d W hs h)
  have HV := Lib.hid (shR_parts s)
  have HA := Lib.hid ha
  clear ha hs hw
  obtain ⟨h, hh⟩ : ∃ h, h = s.h := ⟨_, rfl⟩
  rw [← hh] at HN HT HV
  rw [← hh]
  clear hh
  unfold shV at HN HT ⊢
  obtain ⟨b1, hb1⟩ : ∃ b, b = ndsR s.ns := ⟨_, rfl⟩
  obtain ⟨b2, hb2⟩ : ∃ b, b = tisB s.ns s.ts := ⟨_, rfl⟩
  rw [← hb1] at HN HV
  rw [← hb2] at HT HV
  clear hb1 hb2
  cases b1 with
  | false =>
    go_enter Tryd.func24, Tryd.ntmps24
    go_wp2_with fail
    refine (HN.out _ (HA.out.below (w := w) (by repeat (first | exact Below.refl _ _ | refine below_step (by assumption) (by first | omega | (simp; done) | (simp; omega)) ?_ | refine below_drewN ?_ _ | refine Below.drew ?_ | refine Below.setCell ?_ (by first | omega | (simp; done) | (simp; omega)) _ | refine Below.alloc ?_ (by first | omega | (simp; done) | (simp; omega)) _)))).mono ?_
    rintro e w1 ⟨rfl, v1⟩
    have c0_w1 : w1.cell? ⟨w.heap.size, 0, none⟩ = some (.slice A k c) := (v1.cell (p := ⟨w.heap.size, 0, none⟩) (by first | omega | (simp; done) | (simp; omega))).trans (by first | assumption | go_simp)
    have c1_w1 : w1.cell? ⟨w.heap.size, 1, none⟩ = some (.slice B m d) := (v1.cell (p := ⟨w.heap.size, 1, none⟩) (by first | omega | (simp; done) | (simp; omega))).trans (by first | assumption | go_simp)
    have c2_w1 : w1.cell? ⟨w.heap.size, 2, none⟩ = some (.int .i64 h) := (v1.cell (p := ⟨w.heap.size, 2, none⟩) (by first | omega | (simp; done) | (simp; omega))).trans (by first | assumption | go_simp)
    have s0_w1 : w.heap.size < w1.heap.size := Nat.lt_of_lt_of_le (by first | omega | (simp; done) | (simp; omega)) v1.size
    have B_w1 : Below w.heap.size w w1 := (by repeat (first | exact Below.refl _ _ | refine below_step (by assumption) (by first | omega | (simp; done) | (simp; omega)) ?_ | refine below_drewN ?_ _ | refine Below.drew ?_ | refine Below.setCell ?_ (by first | omega | (simp; done) | (simp; omega)) _ | refine Below.alloc ?_ (by first | omega | (simp; done) | (simp; omega)) _))
    clear v1  
    go_wp2_with fail
    go_ret
    exact ⟨ret_b (by rw [HV.out]; rfl), B_w1⟩
  | true =>
    cases b2 with
    | false =>
      go_enter Tryd.func24, Tryd.ntmps24
      go_wp2_with fail
      refine (HN.out _ (HA.out.below (w := w) (by repeat (first | exact Below.refl _ _ | refine below_step (by assumption) (by first | omega | (simp; done) | (simp; omega)) ?_ | refine below_drewN ?_ _ | refine Below.drew ?_ | refine Below.setCell ?_ (by first | omega | (simp; done) | (simp; omega)) _ | refine Below.alloc ?_ (by first | omega | (simp; done) | (simp; omega)) _)))).mono ?_
      rintro e w1 ⟨rfl, v1⟩
      have c0_w1 : w1.cell? ⟨w.heap.size, 0, none⟩ = some (.slice A k c) := (v1.cell (p := ⟨w.heap.size, 0, none⟩) (by first | omega | (simp; done) | (simp; omega))).trans (by first | assumption | go_simp)
      have c1_w1 : w1.cell? ⟨w.heap.size, 1, none⟩ = some (.slice B m d) := (v1.cell (p := ⟨w.heap.size, 1, none⟩) (by first | omega | (simp; done) | (simp; omega))).trans (by first | assumption | go_simp)
      have c2_w1 : w1.cell? ⟨w.heap.size, 2, none⟩ = some (.int .i64 h) := (v1.cell (p := ⟨w.heap.size, 2, none⟩) (by first | omega | (simp; done) | (simp; omega))).trans (by first | assumption | go_simp)
      have s0_w1 : w.heap.size < w1.heap.size := Nat.lt_of_lt_of_le (by first | omega | (simp; done) | (simp; omega)) v1.size
      have B_w1 : Below w.heap.size w w1 := (by repeat (first | exact Below.refl _ _ | refine below_step (by assumption) (by first | omega | (simp; done) | (simp; omega)) ?_ | refine below_drewN ?_ _ | refine Below.drew ?_ | refine Below.setCell ?_ (by first | omega | (simp; done) | (simp; omega)) _ | refine Below.alloc ?_ (by first | omega | (simp; done) | (simp; omega)) _))
      clear v1  
      go_wp2_with fail
      refine (HT.out _ (HA.out.below (w := w) (by repeat (first | exact Below.refl _ _ | refine below_step (by assumption) (by first | omega | (simp; done) | (simp; omega)) ?_ | refine below_drewN ?_ _ | refine Below.drew ?_ | refine Below.setCell ?_ (by first | omega | (simp; done) | (simp; omega)) _ | refine Below.alloc ?_ (by first | omega | (simp; done) | (simp; omega)) _)))).mono ?_
      rintro e w2 ⟨rfl, v2⟩
      have c0_w2 : w2.cell? ⟨w.heap.size, 0, none⟩ = some (.slice A k c) := (v2.cell (p := ⟨w.heap.size, 0, none⟩) (by first | omega | (simp; done) | (simp; omega))).trans (by first | assumption | go_simp)
      have c1_w2 : w2.cell? ⟨w.heap.size, 1, none⟩ = some (.slice B m d) := (v2.cell (p := ⟨w.heap.size, 1, none⟩) (by first | omega | (simp; done) | (simp; omega))).trans (by first | assumption | go_simp)
      have c2_w2 : w2.cell? ⟨w.heap.size, 2, none⟩ = some (.int .i64 h) := (v2.cell (p := ⟨w.heap.size, 2, none⟩) (by first | omega | (simp; done) | (simp; omega))).trans (by first | assumption | go_simp)
      have s0_w2 : w.heap.size < w2.heap.size := Nat.lt_of_lt_of_le (by first | omega | (simp; done) | (simp; omega)) v2.size
      have B_w2 : Below w.heap.size w w2 := (by repeat (first | exact Below.refl _ _ | refine below_step (by assumption) (by first | omega | (simp; done) | (simp; omega)) ?_ | refine below_drewN ?_ _ | refine Below.drew ?_ | refine Below.setCell ?_ (by first | omega | (simp; done) | (simp; omega)) _ | refine Below.alloc ?_ (by first | omega | (simp; done) | (simp; omega)) _))
      clear v2 c0_w1 c1_w1 c2_w1 s0_w1 B_w1
      go_wp2_with fail
      go_ret
      exact ⟨ret_b (by rw [HV.out]; rfl), B_w2⟩
    | true =>
      by_cases h1 : 1 ≤ h
      · have HD1 := Lib.hid (decide_eq_true h1)
        by_cases h2 : h ≤ 10
        · have HD2 := Lib.hid (decide_eq_true h2)
          go_enter Tryd.func24, Tryd.ntmps24
          go_wp2_with fail
          refine (HN.out _ (HA.out.below (w := w) (by repeat (first | exact Below.refl _ _ | refine below_step (by assumption) (by first | omega | (simp; done) | (simp; omega)) ?_ | refine below_drewN ?_ _ | refine Below.drew ?_ | refine Below.setCell ?_ (by first | omega | (simp; done) | (simp; omega)) _ | refine Below.alloc ?_ (by first | omega | (simp; done) | (simp; omega)) _)))).mono ?_
          rintro e w1 ⟨rfl, v1⟩
          have c0_w1 : w1.cell? ⟨w.heap.size, 0, none⟩ = some (.slice A k c) := (v1.cell (p := ⟨w.heap.size, 0, none⟩) (by first | omega | (simp; done) | (simp; omega))).trans (by first | assumption | go_simp)
          have c1_w1 : w1.cell? ⟨w.heap.size, 1, none⟩ = some (.slice B m d) := (v1.cell (p := ⟨w.heap.size, 1, none⟩) (by first | omega | (simp; done) | (simp; omega))).trans (by first | assumption | go_simp)
          have c2_w1 : w1.cell? ⟨w.heap.size, 2, none⟩ = some (.int .i64 h) := (v1.cell (p := ⟨w.heap.size, 2, none⟩) (by first | omega | (simp; done) | (simp; omega))).trans (by first | assumption | go_simp)
          have s0_w1 : w.heap.size < w1.heap.size := Nat.lt_of_lt_of_le (by first | omega | (simp; done) | (simp; omega)) v1.size
          have B_w1 : Below w.heap.size w w1 := (by repeat (first | exact Below.refl _ _ | refine below_step (by assumption) (by first | omega | (simp; done) | (simp; omega)) ?_ | refine below_drewN ?_ _ | refine Below.drew ?_ | refine Below.setCell ?_ (by first | omega | (simp; done) | (simp; omega)) _ | refine Below.alloc ?_ (by first | omega | (simp; done) | (simp; omega)) _))
          clear v1  
          go_wp2_with fail
          refine (HT.out _ (HA.out.below (w := w) (by repeat (first | exact Below.refl _ _ | refine below_step (by assumption) (by first | omega | (simp; done) | (simp; omega)) ?_ | refine below_drewN ?_ _ | refine Below.drew ?_ | refine Below.setCell ?_ (by first | omega | (simp; done) | (simp; omega)) _ | refine Below.alloc ?_ (by first | omega | (simp; done) | (simp; omega)) _)))).mono ?_
          rintro e w2 ⟨rfl, v2⟩
          have c0_w2 : w2.cell? ⟨w.heap.size, 0, none⟩ = some (.slice A k c) := (v2.cell (p := ⟨w.heap.size, 0, none⟩) (by first | omega | (simp; done) | (simp; omega))).trans (by first | assumption | go_simp)
          have c1_w2 : w2.cell? ⟨w.heap.size, 1, none⟩ = some (.slice B m d) := (v2.cell (p := ⟨w.heap.size, 1, none⟩) (by first | omega | (simp; done) | (simp; omega))).trans (by first | assumption | go_simp)
          have c2_w2 : w2.cell? ⟨w.heap.size, 2, none⟩ = some (.int .i64 h) := (v2.cell (p := ⟨w.heap.size, 2, none⟩) (by first | omega | (simp; done) | (simp; omega))).trans (by first | assumption | go_simp)
          have s0_w2 : w.heap.size < w2.heap.size := Nat.lt_of_lt_of_le (by first | omega | (simp; done) | (simp; omega)) v2.size
          have B_w2 : Below w.heap.size w w2 := (by repeat (first | exact Below.refl _ _ | refine below_step (by assumption) (by first | omega | (simp; done) | (simp; omega)) ?_ | refine below_drewN ?_ _ | refine Below.drew ?_ | refine Below.setCell ?_ (by first | omega | (simp; done) | (simp; omega)) _ | refine Below.alloc ?_ (by first | omega | (simp; done) | (simp; omega)) _))
          clear v2 c0_w1 c1_w1 c2_w1 s0_w1 B_w1
          go_wp2_with fail
          go_ret
          exact ⟨ret_b (by rw [HV.out, HD1.out, HD2.out]; rfl), B_w2⟩
        · have HD2 := Lib.hid (decide_eq_false h2)
          go_enter Tryd.func24, Tryd.ntmps24
          go_wp2_with fail
          refine (HN.out _ (HA.out.below (w := w) (by repeat (first | exact Below.refl _ _ | refine below_step (by assumption) (by first | omega | (simp; done) | (simp; omega)) ?_ | refine below_drewN ?_ _ | refine Below.drew ?_ | refine Below.setCell ?_ (by first | omega | (simp; done) | (simp; omega)) _ | refine Below.alloc ?_ (by first | omega | (simp; done) | (simp; omega)) _)))).mono ?_
          rintro e w1 ⟨rfl, v1⟩
          have c0_w1 : w1.cell? ⟨w.heap.size, 0, none⟩ = some (.slice A k c) := (v1.cell (p := ⟨w.heap.size, 0, none⟩) (by first | omega | (simp; done) | (simp; omega))).trans (by first | assumption | go_simp)
          have c1_w1 : w1.cell? ⟨w.heap.size, 1, none⟩ = some (.slice B m d) := (v1.cell (p := ⟨w.heap.size, 1, none⟩) (by first | omega | (simp; done) | (simp; omega))).trans (by first | assumption | go_simp)
          have c2_w1 : w1.cell? ⟨w.heap.size, 2, none⟩ = some (.int .i64 h) := (v1.cell (p := ⟨w.heap.size, 2, none⟩) (by first | omega | (simp; done) | (simp; omega))).trans (by first | assumption | go_simp)
          have s0_w1 : w.heap.size < w1.heap.size := Nat.lt_of_lt_of_le (by first | omega | (simp; done) | (simp; omega)) v1.size
          have B_w1 : Below w.heap.size w w1 := (by repeat (first | exact Below.refl _ _ | refine below_step (by assumption) (by first | omega | (simp; done) | (simp; omega)) ?_ | refine below_drewN ?_ _ | refine Below.drew ?_ | refine Below.setCell ?_ (by first | omega | (simp; done) | (simp; omega)) _ | refine Below.alloc ?_ (by first | omega | (simp; done) | (simp; omega)) _))
          clear v1  
          go_wp2_with fail
          refine (HT.out _ (HA.out.below (w := w) (by repeat (first | exact Below.refl _ _ | refine below_step (by assumption) (by first | omega | (simp; done) | (simp; omega)) ?_ | refine below_drewN ?_ _ | refine Below.drew ?_ | refine Below.setCell ?_ (by first | omega | (simp; done) | (simp; omega)) _ | refine Below.alloc ?_ (by first | omega | (simp; done) | (simp; omega)) _)))).mono ?_
          rintro e w2 ⟨rfl, v2⟩
          have c0_w2 : w2.cell? ⟨w.heap.size, 0, none⟩ = some (.slice A k c) := (v2.cell (p := ⟨w.heap.size, 0, none⟩) (by first | omega | (simp; done) | (simp; omega))).trans (by first | assumption | go_simp)
          have c1_w2 : w2.cell? ⟨w.heap.size, 1, none⟩ = some (.slice B m d) := (v2.cell (p := ⟨w.heap.size, 1, none⟩) (by first | omega | (simp; done) | (simp; omega))).trans (by first | assumption | go_simp)
          have c2_w2 : w2.cell? ⟨w.heap.size, 2, none⟩ = some (.int .i64 h) := (v2.cell (p := ⟨w.heap.size, 2, none⟩) (by first | omega | (simp; done) | (simp; omega))).trans (by first | assumption | go_simp)
          have s0_w2 : w.heap.size < w2.heap.size := Nat.lt_of_lt_of_le (by first | omega | (simp; done) | (simp; omega)) v2.size
          have B_w2 : Below w.heap.size w w2 := (by repeat (first | exact Below.refl _ _ | refine below_step (by assumption) (by first | omega | (simp; done) | (simp; omega)) ?_ | refine below_drewN ?_ _ | refine Below.drew ?_ | refine Below.setCell ?_ (by first | omega | (simp; done) | (simp; omega)) _ | refine Below.alloc ?_ (by first | omega | (simp; done) | (simp; omega)) _))
          clear v2 c0_w1 c1_w1 c2_w1 s0_w1 B_w1
          go_wp2_with fail
          go_ret
          exact ⟨ret_b (by rw [HV.out, HD1.out, HD2.out]; rfl), B_w2⟩
      · have HD1 := Lib.hid (decide_eq_false h1)
        go_enter Tryd.func24, Tryd.ntmps24
        go_wp2_with fail
        refine (HN.out _ (HA.out.below (w := w) (by repeat (first | exact Below.refl _ _ | refine below_step (by assumption) (by first | omega | (simp; done) | (simp; omega)) ?_ | refine below_drewN ?_ _ | refine Below.drew ?_ | refine Below.setCell ?_ (by first | omega | (simp; done) | (simp; omega)) _ | refine Below.alloc ?_ (by first | omega | (simp; done) | (simp; omega)) _)))).mono ?_
        rintro e w1 ⟨rfl, v1⟩
        have c0_w1 : w1.cell? ⟨w.heap.size, 0, none⟩ = some (.slice A k c) := (v1.cell (p := ⟨w.heap.size, 0, none⟩) (by first | omega | (simp; done) | (simp; omega))).trans (by first | assumption | go_simp)
        have c1_w1 : w1.cell? ⟨w.heap.size, 1, none⟩ = some (.slice B m d) := (v1.cell (p := ⟨w.heap.size, 1, none⟩) (by first | omega | (simp; done) | (simp; omega))).trans (by first | assumption | go_simp)
        have c2_w1 : w1.cell? ⟨w.heap.size, 2, none⟩ = some (.int .i64 h) := (v1.cell (p := ⟨w.heap.size, 2, none⟩) (by first | omega | (simp; done) | (simp; omega))).trans (by first | assumption | go_simp)
        have s0_w1 : w.heap.size < w1.heap.size := Nat.lt_of_lt_of_le (by first | omega | (simp; done) | (simp; omega)) v1.size
        have B_w1 : Below w.heap.size w w1 := (by repeat (first | exact Below.refl _ _ | refine below_step (by assumption) (by first | omega | (simp; done) | (simp; omega)) ?_ | refine below_drewN ?_ _ | refine Below.drew ?_ | refine Below.setCell ?_ (by first | omega | (simp; done) | (simp; omega)) _ | refine Below.alloc ?_ (by first | omega | (simp; done) | (simp; omega)) _))
        clear v1  
        go_wp2_with fail
        refine (HT.out _ (HA.out.below (w := w) (by repeat (first | exact Below.refl _ _ | refine below_step (by assumption) (by first | omega | (simp; done) | (simp; omega)) ?_ | refine below_drewN ?_ _ | refine Below.drew ?_ | refine Below.setCell ?_ (by first | omega | (simp; done) | (simp; omega)) _ | refine Below.alloc ?_ (by first | omega | (simp; done) | (simp; omega)) _)))).mono ?_
        rintro e w2 ⟨rfl, v2⟩
        have c0_w2 : w2.cell? ⟨w.heap.size, 0, none⟩ = some (.slice A k c) := (v2.cell (p := ⟨w.heap.size, 0, none⟩) (by first | omega | (simp; done) | (simp; omega))).trans (by first | assumption | go_simp)
        have c1_w2 : w2.cell? ⟨w.heap.size, 1, none⟩ = some (.slice B m d) := (v2.cell (p := ⟨w.heap.size, 1, none⟩) (by first | omega | (simp; done) | (simp; omega))).trans (by first | assumption | go_simp)
        have c2_w2 : w2.cell? ⟨w.heap.size, 2, none⟩ = some (.int .i64 h) := (v2.cell (p := ⟨w.heap.size, 2, none⟩) (by first | omega | (simp; done) | (simp; omega))).trans (by first | assumption | go_simp)
        have s0_w2 : w.heap.size < w2.heap.size := Nat.lt_of_lt_of_le (by first | omega | (simp; done) | (simp; omega)) v2.size
        have B_w2 : Below w.heap.size w w2 := (by repeat (first | exact Below.refl _ _ | refine below_step (by assumption) (by first | omega | (simp; done) | (simp; omega)) ?_ | refine below_drewN ?_ _ | refine Below.drew ?_ | refine Below.setCell ?_ (by first | omega | (simp; done) | (simp; omega)) _ | refine Below.alloc ?_ (by first | omega | (simp; done) | (simp; omega)) _))
        clear v2 c0_w1 c1_w1 c2_w1 s0_w1 B_w1
        go_wp2_with fail
        go_ret
        exact ⟨ret_b (by rw [HV.out, HD1.out]; rfl), B_w2⟩

end Go.Proofs.YtgajodcgedhikaaDoor

namespace Go.Proofs.YtgajodcgedhikaaDoor
open Go.Shelf

def lays240_ren : Go.Shelf.Ren := ⟨fun | 240 => 64 | 276 => 77 | n => n, fun | 0 => 0 | 4 => 4 | 9 => 9 | 20 => 20 | 37 => 71 | 70 => 74 | 72 => 76 | 164 => 101 | n => n, fun | n => n⟩
theorem lays240 : Go.Proofs.Lays.n240 Tryd.prog lays240_ren := {
  mixed := by kernel_rfl
  f240 := Tryd.func64.trans (congrArg some (by kernel_rfl))
  f276 := Tryd.func77.trans (congrArg some (by kernel_rfl))
  t0 := Tryd.underlying0
  a0 := Tryd.isAgg0
  z0 := Tryd.sizeOf0
  v0 := Tryd.zeroValue0
  t4 := Tryd.underlying4
  a4 := Tryd.isAgg4
  z4 := Tryd.sizeOf4
  v4 := Tryd.zeroValue4
  t9 := Tryd.underlying9
  a9 := Tryd.isAgg9
  z9 := Tryd.sizeOf9
  v9 := Tryd.zeroValue9
  t20 := Tryd.underlying20
  a20 := Tryd.isAgg20
  z20 := Tryd.sizeOf20
  v20 := Tryd.zeroValue20
  t70 := Tryd.underlying74
  a70 := Tryd.isAgg74
  z70 := Tryd.sizeOf74
  v70 := Tryd.zeroValue74
  t72 := Tryd.underlying76
  a72 := Tryd.isAgg76
  z72 := Tryd.sizeOf76
  v72 := Tryd.zeroValue76
  t164 := Tryd.underlying101
  a164 := Tryd.isAgg101
  z164 := Tryd.sizeOf101
  v164 := Tryd.zeroValue101 }
def lays166_ren : Go.Shelf.Ren := ⟨fun | 166 => 46 | 240 => 64 | 276 => 77 | n => n, fun | 0 => 0 | 3 => 3 | 4 => 4 | 5 => 5 | 9 => 9 | 20 => 20 | 37 => 71 | 70 => 74 | 72 => 76 | 75 => 78 | 80 => 60 | 164 => 101 | n => n, fun | n => n⟩
theorem lays166 : Go.Proofs.Lays.n166 Tryd.prog lays166_ren := {
  mixed := by kernel_rfl
  f166 := Tryd.func46.trans (congrArg some (by kernel_rfl))
  f240 := Tryd.func64.trans (congrArg some (by kernel_rfl))
  f276 := Tryd.func77.trans (congrArg some (by kernel_rfl))
  t0 := Tryd.underlying0
  a0 := Tryd.isAgg0
  z0 := Tryd.sizeOf0
  v0 := Tryd.zeroValue0
  t3 := Tryd.underlying3
  a3 := Tryd.isAgg3
  z3 := Tryd.sizeOf3
  v3 := Tryd.zeroValue3
  t4 := Tryd.underlying4
  a4 := Tryd.isAgg4
  z4 := Tryd.sizeOf4
  v4 := Tryd.zeroValue4
  t9 := Tryd.underlying9
  a9 := Tryd.isAgg9
  z9 := Tryd.sizeOf9
  v9 := Tryd.zeroValue9
  t20 := Tryd.underlying20
  a20 := Tryd.isAgg20
  z20 := Tryd.sizeOf20
  v20 := Tryd.zeroValue20
  t37 := Tryd.underlying71
  a37 := Tryd.isAgg71
  z37 := Tryd.sizeOf71
  v37 := Tryd.zeroValue71
  t70 := Tryd.underlying74
  a70 := Tryd.isAgg74
  z70 := Tryd.sizeOf74
  v70 := Tryd.zeroValue74
  t72 := Tryd.underlying76
  a72 := Tryd.isAgg76
  z72 := Tryd.sizeOf76
  v72 := Tryd.zeroValue76
  t75 := Tryd.underlying78
  a75 := Tryd.isAgg78
  z75 := Tryd.sizeOf78
  v75 := Tryd.zeroValue78
  t164 := Tryd.underlying101
  a164 := Tryd.isAgg101
  z164 := Tryd.sizeOf101
  v164 := Tryd.zeroValue101 }
theorem extra166 : Builder.Extra Tryd.prog lays166_ren := {
  sizeBuilder := by kernel_rfl
  liesBuilder := by kernel_rfl
  t5 := Tryd.underlying5
  a5 := Tryd.isAgg5
  z5 := Tryd.sizeOf5
  v5 := Tryd.zeroValue5
  infoByte := by kernel_rfl
  cellsByte := by kernel_rfl
  sizeByte := by kernel_rfl
  neB5 := by decide }
def lays169_ren : Go.Shelf.Ren := ⟨fun | 169 => 47 | n => n, fun | 0 => 0 | 3 => 3 | 5 => 5 | 9 => 9 | 37 => 71 | 70 => 74 | 72 => 76 | 127 => 93 | n => n, fun | n => n⟩
theorem lays169 : Go.Proofs.Lays.n169 Tryd.prog lays169_ren := {
  mixed := by kernel_rfl
  f169 := Tryd.func47.trans (congrArg some (by kernel_rfl))
  t0 := Tryd.underlying0
  a0 := Tryd.isAgg0
  z0 := Tryd.sizeOf0
  v0 := Tryd.zeroValue0
  t3 := Tryd.underlying3
  a3 := Tryd.isAgg3
  z3 := Tryd.sizeOf3
  v3 := Tryd.zeroValue3
  t9 := Tryd.underlying9
  a9 := Tryd.isAgg9
  z9 := Tryd.sizeOf9
  v9 := Tryd.zeroValue9
  t37 := Tryd.underlying71
  a37 := Tryd.isAgg71
  z37 := Tryd.sizeOf71
  v37 := Tryd.zeroValue71
  t70 := Tryd.underlying74
  a70 := Tryd.isAgg74
  z70 := Tryd.sizeOf74
  v70 := Tryd.zeroValue74
  t72 := Tryd.underlying76
  a72 := Tryd.isAgg76
  z72 := Tryd.sizeOf76
  v72 := Tryd.zeroValue76
  t127 := Tryd.underlying93
  a127 := Tryd.isAgg93
  z127 := Tryd.sizeOf93
  v127 := Tryd.zeroValue93 }
theorem extra169 : Builder.Extra Tryd.prog lays169_ren := {
  sizeBuilder := by kernel_rfl
  liesBuilder := by kernel_rfl
  t5 := Tryd.underlying5
  a5 := Tryd.isAgg5
  z5 := Tryd.sizeOf5
  v5 := Tryd.zeroValue5
  infoByte := by kernel_rfl
  cellsByte := by kernel_rfl
  sizeByte := by kernel_rfl
  neB5 := by decide }

open Go.RowKit in
theorem Builder_WriteString (B b : Nat) (bs : List Value) (s : ByteArray) (w : World) (h : Lib.IsBuilderF 76 5 B b bs w) (hlen : bs.length + s.size ≤ 140737488355328) (hBw : B ≤ w.heap.size) :
    Calls Tryd.prog 46 #[.pointer (some ⟨b, 0, none⟩), .string s] w fun e w' => e = .returned (.tuple #[.int .i64 s.size, .nilIface]) ∧ (Lib.BuilderAtF 76 5 B b (.pointer (some ⟨b, 0, none⟩)) (bs ++ Lib.strCells s) w' ∧ Below B w w' ∧ Lib.OthersKept 5 (some b) w w') :=
  Any.Builder_WriteString_k lays166 extra166 B b bs s w h hlen hBw
open Go.RowKit in
theorem Builder_String (B b : Nat) (l : List UInt8) (w : World) (h : Lib.IsBuilderF 76 5 B b (Lib.byteCells l) w) (hBw : B ≤ w.heap.size) :
    Calls Tryd.prog 47 #[.pointer (some ⟨b, 0, none⟩)] w fun e w' => e = .returned (.string ⟨l.toArray⟩) ∧ (Lib.IsBuilderF 76 5 B b (Lib.byteCells l) w' ∧ Below B w w' ∧ Lib.OthersKept 5 (some b) w w') :=
  Any.Builder_String_any_k lays169 extra169 B b l w h hBw

end Go.Proofs.YtgajodcgedhikaaDoor

namespace Go.Proofs.YtgajodcgedhikaaDoor
open Go.RowKit
set_option linter.unusedVariables false
set_option linter.unusedSimpArgs false

theorem bytes_of (x : ByteArray) : (⟨x.data.toList.toArray⟩ : ByteArray) = x := by
  apply ByteArray.ext; simp
theorem cells_join (x y : ByteArray) : Lib.byteCells x.data.toList ++ Lib.strCells y = Lib.byteCells (x ++ y).data.toList := by
  simp [Lib.byteCells, Lib.strCells]
theorem cells_len (x : ByteArray) : (Lib.byteCells x.data.toList).length = x.size := by simp [Lib.byteCells]

set_option maxRecDepth 100000 in
set_option maxHeartbeats 1000000 in
theorem impl_joinParts (ss : List ByteArray) (sep : ByteArray) (A : Option Addr) (n c : Nat) (w : World) (hn : ss.length = n) (hm : n ≤ 1048576) (hsep : sep.size ≤ 1048576) (hss : ∀ x ∈ ss, x.size ≤ 1048576) (hr : RowAt w A (ss.map Value.string)) :
    Calls Tryd.prog 30 #[.string sep, .slice A n c] w fun e w' => e = .returned (.string (joinB ss sep)) ∧ Below w.heap.size w w' := by
  have HR := Lib.hid hr
  have HL := Lib.hid hn
  have HS := Lib.hid hss
  clear hr hn hss
  go_enter Tryd.func30, Tryd.ntmps30
  go_wp2
  go_loopw [10] (fun i wr => ∃ (k : Nat) (y : ByteArray), k ≤ n ∧ i = .int .i64 k ∧ Hid (joinTo ss sep k = y) ∧ Lib.IsBuilderF 76 5 w.heap.size w.heap.size (Lib.byteCells y.data.toList) wr ∧ Below w.heap.size w wr) (fun i _ => n - (intOf i).toNat)
  case atStart => exact ⟨0, ⟨#[]⟩, Nat.zero_le _, rfl, Lib.hid rfl, Lib.IsBuilderF.of (Lib.fresh_isBuilder _ _ w), (Below.refl _ w).alloc (Nat.le_refl _) _⟩
  case round =>
    obtain ⟨k, y, hk, rfl, HY, hI, hbw⟩ := hrel
    by_cases hlt : k < n
    · have hl := HL.out
      obtain ⟨g, o, rfl, hg, hc⟩ := HR.out (by simp; omega)
      obtain ⟨x, h1, hx2⟩ : ∃ x : ByteArray, wr.cell? ⟨g, o + k, none⟩ = some (.string x) ∧ Hid (ss.getD k ⟨#[]⟩ = x) :=
        ⟨ss[k]'(by omega), (hbw.cell (p := ⟨g, o + k, none⟩) hg).trans ((hc k (by simp; omega)).trans (by rw [List.getElem_map])), Lib.hid (by rw [List.getD_eq_getElem?_getD, List.getElem?_eq_getElem (by omega)]; rfl)⟩
      have hxs : x.size ≤ 1048576 := by
        have := hx2.out
        rw [List.getD_eq_getElem?_getD, List.getElem?_eq_getElem (by omega)] at this
        exact HS.out x (by rw [← this]; exact List.getElem_mem _)
      have hys : y.size ≤ 2199023255552 := by
        have := joinTo_size ss sep hsep HS.out k
        rw [HY.out] at this
        omega
      clear hc hl
      have hstep : Hid (joinTo ss sep (k + 1) = (if 0 < k then y ++ sep else y) ++ x) := Lib.hid (by rw [joinTo, hx2.out, HY.out])
      clear hx2
      have HI := Lib.hid hI
      clear hI
      by_cases h0 : 0 < k
      · rw [if_pos h0] at hstep
        go_wp2_with fail
        refine (Builder_WriteString w.heap.size w.heap.size _ sep wr HI.out (by rw [cells_len]; omega) hbw.size).mono ?_
        rintro e w1 ⟨rfl, h2, b2, _⟩
        rw [cells_join] at h2
        have H2 := Lib.hid (Or.inr h2 : Lib.IsBuilderF 76 5 w.heap.size w.heap.size (Lib.byteCells (y ++ sep).data.toList) w1)
        have hb1 := hbw.trans b2
        clear h2 b2
        go_wp2_with fail
        refine (Builder_WriteString w.heap.size w.heap.size _ x w1 H2.out (by rw [cells_len, ByteArray.size_append]; omega) hb1.size).mono ?_
        rintro e w2 ⟨rfl, h3, b3, _⟩
        rw [cells_join] at h3
        have H3 := Lib.hid (Or.inr h3 : Lib.IsBuilderF 76 5 w.heap.size w.heap.size (Lib.byteCells (y ++ sep ++ x).data.toList) w2)
        have hb2 := hb1.trans b3
        clear h3 b3
        go_wp2
        go_roundw
        case rel => exact ⟨k + 1, _, by omega, by go_num, hstep, H3.out, hb2⟩
        case measure => simp [intOf]; omega
      · rw [if_neg h0] at hstep
        have hk0 : k = 0 := by omega
        subst hk0
        rw [Nat.add_zero] at h1
        go_wp2_with fail
        refine (Builder_WriteString w.heap.size w.heap.size _ x wr HI.out (by rw [cells_len]; omega) hbw.size).mono ?_
        rintro e w2 ⟨rfl, h3, b3, _⟩
        rw [cells_join] at h3
        have H3 := Lib.hid (Or.inr h3 : Lib.IsBuilderF 76 5 w.heap.size w.heap.size (Lib.byteCells (y ++ x).data.toList) w2)
        have hb2 := hbw.trans b3
        clear h3 b3
        go_wp2
        go_roundw
        case rel => exact ⟨1, _, by omega, by go_num, hstep, H3.out, hb2⟩
        case measure => simp [intOf]; omega
    · have hkn : k = n := by omega
      have HI := Lib.hid hI
      clear hI
      go_wp2_with fail
      refine (Builder_String w.heap.size w.heap.size _ wr HI.out hbw.size).mono ?_
      rintro e w1 ⟨rfl, _, b1, _⟩
      have hb1 := hbw.trans b1
      clear b1
      go_wp2
      go_ret
      subst hkn
      exact ⟨by unfold joinB; rw [HL.out, HY.out, bytes_of]; rfl, hb1⟩

set_option maxRecDepth 100000 in
set_option maxHeartbeats 400000 in
theorem impl_Join (ss : List ByteArray) (sep : ByteArray) (A : Option Addr) (n c : Nat) (w : World) (hn : ss.length = n) (hm : n ≤ 1048576) (hsep : sep.size ≤ 1048576) (hss : ∀ x ∈ ss, x.size ≤ 1048576) (hr : RowAt w A (ss.map Value.string)) :
    Calls Tryd.prog 33 #[.slice A n c, .string sep] w fun e w' => e = .returned (.string (joinB ss sep)) ∧ Below w.heap.size w w' := by
  go_enter Tryd.func33, Tryd.ntmps33
  have HC := Lib.hid (impl_joinParts ss sep A n c w hn hm hsep hss hr)
  clear hr hss hn
  go_wp2_with fail
  refine HC.out.mono ?_
  rintro e w1 ⟨rfl, hb⟩
  go_wp2
  go_ret
  exact ⟨rfl, hb⟩

end Go.Proofs.YtgajodcgedhikaaDoor

namespace Go.Proofs.YtgajodcgedhikaaDoor
open Go.RowKit
set_option linter.unusedVariables false
set_option linter.unusedSimpArgs false

theorem join_twoL (x y : ByteArray) : joinB [x, y] ⟨#[]⟩ = x ++ y := by
  apply ByteArray.ext; apply Array.toList_inj.1
  simp [joinB, joinTo]
theorem row_twoL (w : World) (x y : ByteArray) : RowAt (w.alloc (.cells #[.string x, .string y] 9)) (some ⟨w.heap.size, 0, none⟩) ([x, y].map Value.string) := by
  intro _
  refine ⟨w.heap.size, 0, rfl, by simp, fun j hj => ?_⟩
  have h := cell_of_row (w.alloc (.cells #[.string x, .string y] 9)) w.heap.size (0 + j) #[.string x, .string y] 9 (0, 0) (heap_alloc_new w _)
  rw [h, Nat.zero_add]
  match j, hj with
  | 0, _ => rfl
  | 1, _ => rfl
theorem pow_kept {w w' : World} (h : Pow10 w) (hb : Below w.heap.size w w') : Pow10 w' := var_kept hb h

set_option maxRecDepth 100000 in
set_option maxHeartbeats 4000000 in
theorem word_pos (x : Int) (w : World) (hx : 1 ≤ x ∧ x ≤ 3) (ht : Pow10 w) : Calls Tryd.prog 67 #[.int .i64 x] w fun e w' => e = .returned (.string (litW x)) ∧ Below w.heap.size w w' := by
  have HF := Lib.hid (impl_FormatInt x w (by omega) (by omega) ht)
  have hw : litW x = ⟨#[112]⟩ ++ numB x := by unfold litW absI; rw [if_neg (by omega), if_neg (by omega)]
  have hl : litB x = true := by unfold litB; rw [decide_eq_true (by omega), decide_eq_true (by omega), decide_eq_true (by omega)]; rfl
  have hsz := num_three hl
  rw [show absI x = x from by unfold absI; rw [if_neg (by omega)]] at hsz
  obtain ⟨nb, hnb⟩ : ∃ t, t = numB x := ⟨_, rfl⟩
  rw [← hnb] at HF hw hsz
  have HW := Lib.hid hw
  have hn : ¬ (x < 0) := by omega
  clear hw hl hnb ht hx
  go_enter Tryd.func67, Tryd.ntmps67
  go_wp2_with fail
  refine HF.out.mono ?_
  rintro e w1 ⟨rfl, b1⟩
  have hs1 := b1.size
  go_wp2_with fail
  refine (impl_joinParts [⟨#[112]⟩, nb] ⟨#[]⟩ _ 2 2 _ rfl (by omega) (by decide) (by
    intro y hy
    simp at hy
    rcases hy with rfl | rfl
    · decide
    · omega) (row_twoL w1 ⟨#[112]⟩ nb)).mono ?_
  rintro e w2 ⟨rfl, b2⟩
  have hb : Below w.heap.size w w2 := (b1.alloc b1.size _).trans (b2.mono (by simp; omega))
  rw [join_twoL]
  clear b1 b2
  go_wp2_with fail
  go_ret
  exact ⟨by rw [HW.out]; rfl, hb⟩

set_option maxRecDepth 100000 in
set_option maxHeartbeats 4000000 in
theorem word_lw (x : Int) (w : World) (hx : litB x = true) (ht : Pow10 w) : Calls Tryd.prog 67 #[.int .i64 x] w fun e w' => e = .returned (.string (litW x)) ∧ Below w.heap.size w w' := by
  have h3 := litB_of hx
  by_cases h0 : x < 0
  · have HP := Lib.hid (word_pos (-x) w (by omega) ht)
    have hw : litW x = ⟨#[33]⟩ ++ litW (-x) := by unfold litW absI; rw [if_pos h0, if_pos h0, if_neg (by omega), if_neg (by omega)]
    have hy : litB (-x) = true := by unfold litB; rw [decide_eq_true (by omega), decide_eq_true (by omega), decide_eq_true (by omega)]; rfl
    have hsz := litW_size hy
    obtain ⟨nb, hnb⟩ : ∃ t, t = litW (-x) := ⟨_, rfl⟩
    rw [← hnb] at HP hw hsz
    have HW := Lib.hid hw
    clear hw hy hnb ht hx
    go_enter Tryd.func67, Tryd.ntmps67
    go_wp2_with fail
    refine HP.out.mono ?_
    rintro e w1 ⟨rfl, b1⟩
    have hs1 := b1.size
    go_wp2_with fail
    refine (impl_joinParts [⟨#[33]⟩, nb] ⟨#[]⟩ _ 2 2 _ rfl (by omega) (by decide) (by
      intro y hy
      simp at hy
      rcases hy with rfl | rfl
      · decide
      · omega) (row_twoL w1 ⟨#[33]⟩ nb)).mono ?_
    rintro e w2 ⟨rfl, b2⟩
    have hb : Below w.heap.size w w2 := (b1.alloc b1.size _).trans (b2.mono (by simp; omega))
    rw [join_twoL]
    clear b1 b2
    go_wp2_with fail
    go_ret
    exact ⟨by rw [HW.out]; rfl, hb⟩
  · exact word_pos x w (by omega) ht

set_option maxRecDepth 100000 in
set_option maxHeartbeats 4000000 in
theorem impl_FormatLabel (l : List Int) (A : Option Addr) (k c : Nat) (w : World) (hl : l.length = k) (hk : k ≤ 1048576) (hr : RowAt w A (l.map intV)) (ht : Pow10 w) :
    Calls Tryd.prog 49 #[.slice A k c] w fun e w' => e = .returned (.string (fmtL l)) ∧ Below w.heap.size w w' := by
  obtain ⟨i1, hii, hy0, hy1, hy2⟩ := info_parts Tryd.info9
  have HOK := Lib.hid (impl_LabelOk0 l A k c w hl hk hr)
  have HR := Lib.hid hr
  have HL := Lib.hid hl
  have HT := Lib.hid ht
  clear hr hl ht
  cases hlab : labR l with
  | false =>
    have HF := Lib.hid (fmt_no hlab)
    rw [hlab] at HOK
    clear hlab
    go_enter Tryd.func49, Tryd.ntmps49
    go_wp2_with fail
    refine HOK.out.mono ?_
    rintro e w1 ⟨rfl, hw1⟩
    subst hw1
    go_wp2_with fail
    go_ret
    exact ⟨str_ans HF.out.symm, Below.refl _ _⟩
  | true =>
    have HLB := Lib.hid hlab
    rw [hlab] at HOK
    clear hlab
    by_cases h0 : k = 0
    · have HF := Lib.hid (fmt_nil HLB.out (by have := HL.out; omega))
      have hk0 : ((k : Int) == 0) = true := by simp [h0]
      clear h0
      go_enter Tryd.func49, Tryd.ntmps49
      go_wp2_with fail
      refine HOK.out.mono ?_
      rintro e w1 ⟨rfl, hw1⟩
      subst hw1
      go_wp2_with fail
      go_ret
      exact ⟨str_ans HF.out.symm, Below.refl _ _⟩
    · have HF := Lib.hid (fmt_lit HLB.out (by have := HL.out; omega))
      have hk0 : ((k : Int) == 0) = false := by simp; omega
      go_enter Tryd.func49, Tryd.ntmps49
      go_wp2_with fail
      refine HOK.out.mono ?_
      rintro e w1 ⟨rfl, hw1⟩
      subst hw1
      go_wp2_with fail
      go_loopw [14, 3] (fun i s wr => ∃ (j : Nat) (A2 : Option Addr) (d2 : Nat), j ≤ k ∧ i = .int .i64 j ∧ s = .slice A2 j d2 ∧ wr.ownsRow w.heap.size 9 1 (.slice A2 j d2) j (((l.take j).map litW).map Value.string) ∧ Below w.heap.size w wr) (fun i _ _ => k - (intOf i).toNat)
      case atStart => exact ⟨0, none, 0, Nat.zero_le _, rfl, rfl, World.ownsRow_nil _ _ _ _, Below.refl _ _⟩
      case round =>
        obtain ⟨j, A2, d2, hj, rfl, rfl, hown, hb⟩ := hrel
        have OW := Lib.hid hown
        have HB := Lib.hid hb
        clear hown hb
        by_cases hlt : j < k
        · have hjl : ((j : Int) < (k : Int)) := by omega
          obtain ⟨g, o, rfl, hg, hc⟩ := row_getB HR.out (q := j) (by have := HL.out; omega)
          have HNX := Lib.hid (litW_next (l := l) (j := j) (by have := HL.out; omega))
          obtain ⟨x, hx⟩ : ∃ x, x = l[j]'(by have := HL.out; omega) := ⟨_, rfl⟩
          have hlx : litB x = true := by rw [hx]; exact labR_lit HLB.out (List.getElem_mem _)
          rw [← hx] at hc HNX
          have x1 := (HB.out.cell (p := ⟨g, o + j, none⟩) hg).trans hc
          have HWD := Lib.hid (word_lw x wr hlx (pow_kept HT.out HB.out))
          have hws := litW_size hlx
          obtain ⟨W9, hW9⟩ : ∃ t, t = litW x := ⟨_, rfl⟩
          rw [← hW9] at HNX HWD hws
          clear hc hx hlx hW9
          go_wp2_with fail
          refine HWD.out.mono ?_
          rintro e w3 ⟨rfl, bh⟩
          have HB3 := Lib.hid (HB.out.trans (bh.mono HB.out.size))
          have OW3 := Lib.hid (own_below OW.out bh)
          have hbs := HB3.out.size
          clear bh OW HB
          go_wp2_with (at_builtin; refine wpList_append_lies _ rfl _ _ 59 rfl (w.heap.size) 9 i1 (.string ⟨#[]⟩) 1 16 Tryd.underlying59 hii hy0 hy1 hy2 rfl (by decide) _ _ _ rfl (OW3.out.alloc _) ⟨_, 0, none⟩ 1 1 _ rfl rfl (World.news_of_block (heap_newS _ _ _ (by first | rfl | simp))) (one_c1S _) (by decide) (by unfold maxLen; omega) (by omega) (by simp; omega) _ rfl ?_)
          intro g3 cap w6 ho6 hg6 hat6 hl6
          go_wp2_with fail
          go_roundw
          case rel =>
            refine ⟨j + 1, some ⟨g3, 0, none⟩, cap, by omega, by go_num, rfl, ?_, (HB3.out.alloc hbs _).grown hg6 (by simp; omega) (fun r hr => (OW3.out.lt r hr).1)⟩
            rw [HNX.out]; simpa using ho6
          case measure => simp [intOf]; omega
        · have hjl : ¬ ((j : Int) < (k : Int)) := by omega
          have ht : l.take j = l := List.take_of_length_le (by have := HL.out; omega)
          have hjk : j = k := by omega
          subst hjk
          have o9 := OW.out
          rw [ht] at o9
          have HJ := Lib.hid (fun W h => impl_joinParts (l.map litW) ⟨#[38]⟩ A2 j d2 W (by rw [List.length_map]; exact HL.out) hk (by decide) (fun y hy => by obtain ⟨z, hz, rfl⟩ := List.mem_map.1 hy; exact Nat.le_trans (litW_size (labR_lit HLB.out hz)) (by decide)) h)
          have RW := Lib.hid (own_row o9)
          clear o9 ht
          go_wp2_with fail
          refine (HJ.out _ RW.out).mono ?_
          rintro e w2 ⟨rfl, b2⟩
          have HB2 := Lib.hid (HB.out.trans (b2.mono HB.out.size))
          clear b2
          go_wp2_with fail
          go_ret
          exact ⟨str_ans HF.out.symm, HB2.out⟩

end Go.Proofs.YtgajodcgedhikaaDoor
