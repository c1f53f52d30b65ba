/-
  WALKS of impl's tiesOk, ShowOk.
-/
import Derived.Test.YtgnehihnkkoneaaPnH
import Derived.Test.YtgnehihnkkoneaaBdShU
namespace Go.Proofs.Ytgnehihnkkoneaa
open Go.RowKit
set_option linter.unusedVariables false
set_option linter.unusedSimpArgs false

def tisB (ns : List GN) (ts : List GT) : Bool := decide (ts.length ≤ 14) && allJ (tiB ns ts) ts.length

set_option maxRecDepth 100000 in
set_option maxHeartbeats 8000000 in
theorem tiesOk_any (s : GS) (A : Option Addr) (k c : Nat) (B : Option Addr) (m d : Nat) (w : World) (hs : ShB s) (ha : ShowAt w s A k B m) :
    Calls Try.prog 51 #[shV A k c B m d s.h] w fun e w' => e = .returned (.bool (tisB s.ns s.ts)) ∧ Below w.heap.size w w' := by
  have HLN := Lib.hid ha.ln
  have HLT := Lib.hid ha.lt
  have HT := Lib.hid (fun t W => tieOk_any A k c B m d s.h t W)
  have HF := Lib.hid (fun i t W ht h => freeOk_any s i t A k c B m d W hs ht h)
  have HA := Lib.hid ha
  have HV : Hid (tisB s.ns s.ts = (decide (m ≤ 14) && allJ (tiB s.ns s.ts) m)) := Lib.hid (by unfold tisB; rw [ha.lt])
  clear ha hs
  obtain ⟨h, hh⟩ : ∃ h, h = s.h := ⟨_, rfl⟩
  rw [← hh] at HT HF
  rw [← hh]
  clear hh
  unfold shV at HT HF ⊢
  obtain ⟨w1, hw1⟩ : ∃ W, W = w.alloc (.cells #[.slice A k c, .slice B m d, .int .i64 h] 40) := ⟨_, rfl⟩
  have B_w1 : Below w.heap.size w w1 := by rw [hw1]; exact (Below.refl _ _).alloc (Nat.le_refl _) _
  have z_w1 : w.heap.size < w1.heap.size := by rw [hw1]; simp
  have c0_w1 : w1.cell? ⟨w.heap.size, 0, none⟩ = some (.slice A k c) := by rw [hw1]; go_simp
  have c1_w1 : w1.cell? ⟨w.heap.size, 1, none⟩ = some (.slice B m d) := by rw [hw1]; go_simp
  have c2_w1 : w1.cell? ⟨w.heap.size, 2, none⟩ = some (.int .i64 h) := by rw [hw1]; go_simp
  have HA1 := Lib.hid (HA.out.below B_w1)
  have BW1 := Lib.hid B_w1
  have HW1 := Lib.hid hw1
  clear hw1 B_w1
  by_cases hm : m ≤ 14
  · have hmi : ¬ ((14 : Int) < (m : Int)) := by omega
    have HM := Lib.hid (decide_eq_true hm)
    go_enter Try.func51, Try.ntmps51
    go_upto_region 1 with (fail)
    rw [← HW1.out]
    go_wp2_with fail
    go_loopw [12] (fun i wr => ∃ j : Nat, j ≤ m ∧ i = .int .i64 j ∧ allJ (tiB s.ns s.ts) j = true ∧ Below w1.heap.size w1 wr) (fun i _ => m - (intOf i).toNat)
    case atStart => exact ⟨0, Nat.zero_le _, rfl, rfl, Below.refl _ _⟩
    case round =>
      obtain ⟨j, hj, rfl, hall, hbw⟩ := hrel
      have HALL := Lib.hid hall
      clear hall
      by_cases hlt : j < m
      · have hjm : ((j : Int) < (m : Int)) := by omega
        obtain ⟨⟨u, v, lo, hi2, fr⟩, he⟩ : ∃ e, s.ts[j]? = some e := ⟨_, List.getElem?_eq_getElem (by have := HLT.out; omega)⟩
        have HEQ := Lib.hid (tiB_tk (ns := s.ns) he)
        obtain ⟨gt, ot, rfl, hgt, t0, t1, t2, t3, t4⟩ := tie_facts HA1.out.ties he
        have k0 := (hbw.cell (p := ⟨gt, ot + j * 5, none⟩) hgt).trans t0
        have k1 := (hbw.cell (p := ⟨gt, ot + j * 5 + 1, none⟩) hgt).trans t1
        have k2 := (hbw.cell (p := ⟨gt, ot + j * 5 + 2, none⟩) hgt).trans t2
        have k3 := (hbw.cell (p := ⟨gt, ot + j * 5 + 3, none⟩) hgt).trans t3
        have k4 := (hbw.cell (p := ⟨gt, ot + j * 5 + 4, none⟩) hgt).trans t4
        have zr := hbw.size
        have zw := Nat.lt_of_lt_of_le z_w1 zr
        have c0_wr := (hbw.cell (p := ⟨w.heap.size, 0, none⟩) z_w1).trans c0_w1
        have c1_wr := (hbw.cell (p := ⟨w.heap.size, 1, none⟩) z_w1).trans c1_w1
        have c2_wr := (hbw.cell (p := ⟨w.heap.size, 2, none⟩) z_w1).trans c2_w1
        have e1 : (wr.heap.size = w.heap.size) = False := eq_false (by omega)
        have e2 : (w.heap.size = wr.heap.size) = False := eq_false (by omega)
        have HAR := Lib.hid (HA1.out.below hbw)
        have BW := Lib.hid hbw
        rw [HLN.out] at HEQ
        have HBAD : Hid (tiB s.ns s.ts j = false → tisB s.ns s.ts = false) := Lib.hid (fun hx => by rw [HV.out, allJ_no (f := tiB s.ns s.ts) (j := j + 1) (by rw [allJ_next, hx, Bool.and_false]) (show j + 1 ≤ m by omega), Bool.and_false])
        have HGOOD : Hid (tiB s.ns s.ts j = true → allJ (tiB s.ns s.ts) (j + 1) = true) := Lib.hid (fun hx => by rw [allJ_next, HALL.out, hx]; rfl)
        have htt := HT.out ⟨u, v, lo, hi2, fr⟩
        have hff := HF.out (j : Int) ⟨u, v, lo, hi2, fr⟩
        obtain ⟨b1, hb1⟩ : ∃ b, b = tkB k ⟨u, v, lo, hi2, fr⟩ := ⟨_, rfl⟩
        obtain ⟨b2, hb2⟩ : ∃ b, b = frB s.ns s.ts (j : Int) ⟨u, v, lo, hi2, fr⟩ := ⟨_, rfl⟩
        rw [← hb1] at htt hff HEQ
        rw [← hb2] at hff HEQ
        unfold GT.val at htt hff
        dsimp only at htt hff HEQ
        have HTT := Lib.hid htt
        have HFF := Lib.hid hff
        clear he t0 t1 t2 t3 t4 hbw hb1 hb2 htt hff c0_w1 c1_w1 c2_w1
        cases b1 with
        | false =>
          have hbw0 := BW.out
          go_wp2_with fail
          refine (HTT.out _).mono ?_
          rintro e w3 ⟨rfl, b3⟩
          have c0_w3 : w3.cell? ⟨w.heap.size, 0, none⟩ = some (.slice A k c) := (b3.cell (p := ⟨w.heap.size, 0, none⟩) (by first | omega | (simp; done) | (simp; omega))).trans (by first | assumption | go_simp)
          have c1_w3 : w3.cell? ⟨w.heap.size, 1, none⟩ = some (.slice (some ⟨gt, ot, none⟩) m d) := (b3.cell (p := ⟨w.heap.size, 1, none⟩) (by first | omega | (simp; done) | (simp; omega))).trans (by first | assumption | go_simp)
          have c2_w3 : w3.cell? ⟨w.heap.size, 2, none⟩ = some (.int .i64 h) := (b3.cell (p := ⟨w.heap.size, 2, none⟩) (by first | omega | (simp; done) | (simp; omega))).trans (by first | assumption | go_simp)
          have c3_w3 : w3.cell? ⟨wr.heap.size, 0, none⟩ = some (.int .i64 u) := (b3.cell (p := ⟨wr.heap.size, 0, none⟩) (by first | omega | (simp; done) | (simp; omega))).trans (by first | assumption | go_simp)
          have c4_w3 : w3.cell? ⟨wr.heap.size, 1, none⟩ = some (.int .i64 v) := (b3.cell (p := ⟨wr.heap.size, 1, none⟩) (by first | omega | (simp; done) | (simp; omega))).trans (by first | assumption | go_simp)
          have c5_w3 : w3.cell? ⟨wr.heap.size, 2, none⟩ = some (.int .i64 lo) := (b3.cell (p := ⟨wr.heap.size, 2, none⟩) (by first | omega | (simp; done) | (simp; omega))).trans (by first | assumption | go_simp)
          have c6_w3 : w3.cell? ⟨wr.heap.size, 3, none⟩ = some (.int .i64 hi2) := (b3.cell (p := ⟨wr.heap.size, 3, none⟩) (by first | omega | (simp; done) | (simp; omega))).trans (by first | assumption | go_simp)
          have c7_w3 : w3.cell? ⟨wr.heap.size, 4, none⟩ = some (.bool fr) := (b3.cell (p := ⟨wr.heap.size, 4, none⟩) (by first | omega | (simp; done) | (simp; omega))).trans (by first | assumption | go_simp)
          have B_r3 : Below wr.heap.size wr w3 := (by repeat (first | exact Below.refl _ _ | refine below_step (by assumption) (by first | omega | (simp; done) | (simp; omega)) ?_ | refine below_drewN ?_ _ | refine Below.drew ?_ | refine Below.setCell ?_ (by first | omega | (simp; done) | (simp; omega)) _ | refine Below.alloc ?_ (by first | omega | (simp; done) | (simp; omega)) _))
          have B_w3 : Below w1.heap.size w1 w3 := BW.out.trans (B_r3.mono zr)
          have z_w3 := B_w3.size
          have s0_w3 : w.heap.size < w3.heap.size := Nat.lt_of_lt_of_le (by first | omega | (simp; done) | (simp; omega)) b3.size
          have s1_w3 : wr.heap.size < w3.heap.size := Nat.lt_of_lt_of_le (by first | omega | (simp; done) | (simp; omega)) b3.size
          have HAR3 := Lib.hid (HAR.out.below B_r3)
          clear b3 hbw0 B_r3
          go_wp2_with fail
          go_ret
          exact ⟨ret_b (HBAD.out (by rw [HEQ.out]; rfl)).symm, BW1.out.trans (B_w3.mono BW1.out.size)⟩
        | true =>
          cases fr with
          | false =>
            have hbw0 := BW.out
            go_wp2_with fail
            refine (HTT.out _).mono ?_
            rintro e w3 ⟨rfl, b3⟩
            have c0_w3 : w3.cell? ⟨w.heap.size, 0, none⟩ = some (.slice A k c) := (b3.cell (p := ⟨w.heap.size, 0, none⟩) (by first | omega | (simp; done) | (simp; omega))).trans (by first | assumption | go_simp)
            have c1_w3 : w3.cell? ⟨w.heap.size, 1, none⟩ = some (.slice (some ⟨gt, ot, none⟩) m d) := (b3.cell (p := ⟨w.heap.size, 1, none⟩) (by first | omega | (simp; done) | (simp; omega))).trans (by first | assumption | go_simp)
            have c2_w3 : w3.cell? ⟨w.heap.size, 2, none⟩ = some (.int .i64 h) := (b3.cell (p := ⟨w.heap.size, 2, none⟩) (by first | omega | (simp; done) | (simp; omega))).trans (by first | assumption | go_simp)
            have c3_w3 : w3.cell? ⟨wr.heap.size, 0, none⟩ = some (.int .i64 u) := (b3.cell (p := ⟨wr.heap.size, 0, none⟩) (by first | omega | (simp; done) | (simp; omega))).trans (by first | assumption | go_simp)
            have c4_w3 : w3.cell? ⟨wr.heap.size, 1, none⟩ = some (.int .i64 v) := (b3.cell (p := ⟨wr.heap.size, 1, none⟩) (by first | omega | (simp; done) | (simp; omega))).trans (by first | assumption | go_simp)
            have c5_w3 : w3.cell? ⟨wr.heap.size, 2, none⟩ = some (.int .i64 lo) := (b3.cell (p := ⟨wr.heap.size, 2, none⟩) (by first | omega | (simp; done) | (simp; omega))).trans (by first | assumption | go_simp)
            have c6_w3 : w3.cell? ⟨wr.heap.size, 3, none⟩ = some (.int .i64 hi2) := (b3.cell (p := ⟨wr.heap.size, 3, none⟩) (by first | omega | (simp; done) | (simp; omega))).trans (by first | assumption | go_simp)
            have c7_w3 : w3.cell? ⟨wr.heap.size, 4, none⟩ = some (.bool false) := (b3.cell (p := ⟨wr.heap.size, 4, none⟩) (by first | omega | (simp; done) | (simp; omega))).trans (by first | assumption | go_simp)
            have B_r3 : Below wr.heap.size wr w3 := (by repeat (first | exact Below.refl _ _ | refine below_step (by assumption) (by first | omega | (simp; done) | (simp; omega)) ?_ | refine below_drewN ?_ _ | refine Below.drew ?_ | refine Below.setCell ?_ (by first | omega | (simp; done) | (simp; omega)) _ | refine Below.alloc ?_ (by first | omega | (simp; done) | (simp; omega)) _))
            have B_w3 : Below w1.heap.size w1 w3 := BW.out.trans (B_r3.mono zr)
            have z_w3 := B_w3.size
            have s0_w3 : w.heap.size < w3.heap.size := Nat.lt_of_lt_of_le (by first | omega | (simp; done) | (simp; omega)) b3.size
            have s1_w3 : wr.heap.size < w3.heap.size := Nat.lt_of_lt_of_le (by first | omega | (simp; done) | (simp; omega)) b3.size
            have HAR3 := Lib.hid (HAR.out.below B_r3)
            clear b3 hbw0 B_r3
            go_wp2_with fail
            go_roundw
            case rel => exact ⟨j + 1, by omega, by go_num, HGOOD.out (by rw [HEQ.out]; rfl), B_w3⟩
            case measure => simp [intOf]; omega
          | true =>
            have hbw0 := BW.out
            go_wp2_with fail
            refine (HTT.out _).mono ?_
            rintro e w3 ⟨rfl, b3⟩
            have c0_w3 : w3.cell? ⟨w.heap.size, 0, none⟩ = some (.slice A k c) := (b3.cell (p := ⟨w.heap.size, 0, none⟩) (by first | omega | (simp; done) | (simp; omega))).trans (by first | assumption | go_simp)
            have c1_w3 : w3.cell? ⟨w.heap.size, 1, none⟩ = some (.slice (some ⟨gt, ot, none⟩) m d) := (b3.cell (p := ⟨w.heap.size, 1, none⟩) (by first | omega | (simp; done) | (simp; omega))).trans (by first | assumption | go_simp)
            have c2_w3 : w3.cell? ⟨w.heap.size, 2, none⟩ = some (.int .i64 h) := (b3.cell (p := ⟨w.heap.size, 2, none⟩) (by first | omega | (simp; done) | (simp; omega))).trans (by first | assumption | go_simp)
            have c3_w3 : w3.cell? ⟨wr.heap.size, 0, none⟩ = some (.int .i64 u) := (b3.cell (p := ⟨wr.heap.size, 0, none⟩) (by first | omega | (simp; done) | (simp; omega))).trans (by first | assumption | go_simp)
            have c4_w3 : w3.cell? ⟨wr.heap.size, 1, none⟩ = some (.int .i64 v) := (b3.cell (p := ⟨wr.heap.size, 1, none⟩) (by first | omega | (simp; done) | (simp; omega))).trans (by first | assumption | go_simp)
            have c5_w3 : w3.cell? ⟨wr.heap.size, 2, none⟩ = some (.int .i64 lo) := (b3.cell (p := ⟨wr.heap.size, 2, none⟩) (by first | omega | (simp; done) | (simp; omega))).trans (by first | assumption | go_simp)
            have c6_w3 : w3.cell? ⟨wr.heap.size, 3, none⟩ = some (.int .i64 hi2) := (b3.cell (p := ⟨wr.heap.size, 3, none⟩) (by first | omega | (simp; done) | (simp; omega))).trans (by first | assumption | go_simp)
            have c7_w3 : w3.cell? ⟨wr.heap.size, 4, none⟩ = some (.bool true) := (b3.cell (p := ⟨wr.heap.size, 4, none⟩) (by first | omega | (simp; done) | (simp; omega))).trans (by first | assumption | go_simp)
            have B_r3 : Below wr.heap.size wr w3 := (by repeat (first | exact Below.refl _ _ | refine below_step (by assumption) (by first | omega | (simp; done) | (simp; omega)) ?_ | refine below_drewN ?_ _ | refine Below.drew ?_ | refine Below.setCell ?_ (by first | omega | (simp; done) | (simp; omega)) _ | refine Below.alloc ?_ (by first | omega | (simp; done) | (simp; omega)) _))
            have B_w3 : Below w1.heap.size w1 w3 := BW.out.trans (B_r3.mono zr)
            have z_w3 := B_w3.size
            have s0_w3 : w.heap.size < w3.heap.size := Nat.lt_of_lt_of_le (by first | omega | (simp; done) | (simp; omega)) b3.size
            have s1_w3 : wr.heap.size < w3.heap.size := Nat.lt_of_lt_of_le (by first | omega | (simp; done) | (simp; omega)) b3.size
            have HAR3 := Lib.hid (HAR.out.below B_r3)
            clear b3 hbw0 B_r3
            go_wp2_with fail
            refine (HFF.out _ (by trivial) HAR3.out).mono ?_
            rintro e4 w4 ⟨rfl, b4⟩
            have B_w4 : Below w1.heap.size w1 w4 := B_w3.trans (b4.mono z_w3)
            clear b4 c0_w3 c1_w3 c2_w3 c3_w3 c4_w3 c5_w3 c6_w3 c7_w3
            cases b2 with
            | false =>
              go_wp2_with fail
              go_ret
              exact ⟨ret_b (HBAD.out (by rw [HEQ.out]; rfl)).symm, BW1.out.trans (B_w4.mono BW1.out.size)⟩
            | true =>
              go_wp2_with fail
              go_roundw
              case rel => exact ⟨j + 1, by omega, by go_num, HGOOD.out (by rw [HEQ.out]; rfl), B_w4⟩
              case measure => simp [intOf]; omega
      · have hjm : ¬ ((j : Int) < (m : Int)) := by omega
        have HYES := Lib.hid (show allJ (tiB s.ns s.ts) m = true from by rw [show m = j from by omega]; exact HALL.out)
        go_wp2_with fail
        go_ret
        exact ⟨ret_b (by rw [HV.out, HM.out, HYES.out]; rfl), BW1.out.trans (hbw.mono BW1.out.size)⟩
  · have hmi : ((14 : Int) < (m : Int)) := by omega
    have HM := Lib.hid (decide_eq_false hm)
    go_enter Try.func51, Try.ntmps51
    go_upto_region 1 with (fail)
    rw [← HW1.out]
    go_wp2_with fail
    go_ret
    exact ⟨ret_b (by rw [HV.out, HM.out]; rfl), BW1.out⟩

theorem shR_parts (s : GS) : shR s = (ndsR s.ns && (tisB s.ns s.ts && (decide (1 ≤ s.h) && decide (s.h ≤ 10)))) := by
  rw [shR_at]
  unfold tisB
  cases ndsR s.ns <;> cases decide (s.ts.length ≤ 14) <;> cases decide (1 ≤ s.h) <;> cases decide (s.h ≤ 10) <;> cases allJ (tiB s.ns s.ts) s.ts.length <;> rfl

set_option maxRecDepth 100000 in
set_option maxHeartbeats 8000000 in
theorem impl_ShowOk (s : GS) (A : Option Addr) (k c : Nat) (B : Option Addr) (m d : Nat) (w : World) (hs : ShB s) (hw : ∀ e ∈ s.ns, e.wf) (ha : ShowAt w s A k B m) :
    Calls Try.prog 19 #[shV A k c B m d s.h] w fun e w' => e = .returned (.bool (shR s)) ∧ Below w.heap.size w w' := by
  have HN := Lib.hid (fun W h => nodesOk_any s A k c B m d W hs hw h)
  have HT := Lib.hid (fun W h => tiesOk_any s A k c B m d W hs h)
  have HV := Lib.hid (shR_parts s)
  have HA := Lib.hid ha
  clear ha hs hw
  obtain ⟨h, hh⟩ : ∃ h, h = s.h := ⟨_, rfl⟩
  rw [← hh] at HN HT HV
  rw [← hh]
  clear hh
  unfold shV at HN HT ⊢
  obtain ⟨b1, hb1⟩ : ∃ b, b = ndsR s.ns := ⟨_, rfl⟩
  obtain ⟨b2, hb2⟩ : ∃ b, b = tisB s.ns s.ts := ⟨_, rfl⟩
  rw [← hb1] at HN HV
  rw [← hb2] at HT HV
  clear hb1 hb2
  cases b1 with
  | false =>
    go_enter Try.func19, Try.ntmps19
    go_wp2_with fail
    refine (HN.out _ (HA.out.below (w := w) (by repeat (first | exact Below.refl _ _ | refine below_step (by assumption) (by first | omega | (simp; done) | (simp; omega)) ?_ | refine below_drewN ?_ _ | refine Below.drew ?_ | refine Below.setCell ?_ (by first | omega | (simp; done) | (simp; omega)) _ | refine Below.alloc ?_ (by first | omega | (simp; done) | (simp; omega)) _)))).mono ?_
    rintro e w1 ⟨rfl, v1⟩
    have c0_w1 : w1.cell? ⟨w.heap.size, 0, none⟩ = some (.slice A k c) := (v1.cell (p := ⟨w.heap.size, 0, none⟩) (by first | omega | (simp; done) | (simp; omega))).trans (by first | assumption | go_simp)
    have c1_w1 : w1.cell? ⟨w.heap.size, 1, none⟩ = some (.slice B m d) := (v1.cell (p := ⟨w.heap.size, 1, none⟩) (by first | omega | (simp; done) | (simp; omega))).trans (by first | assumption | go_simp)
    have c2_w1 : w1.cell? ⟨w.heap.size, 2, none⟩ = some (.int .i64 h) := (v1.cell (p := ⟨w.heap.size, 2, none⟩) (by first | omega | (simp; done) | (simp; omega))).trans (by first | assumption | go_simp)
    have s0_w1 : w.heap.size < w1.heap.size := Nat.lt_of_lt_of_le (by first | omega | (simp; done) | (simp; omega)) v1.size
    have B_w1 : Below w.heap.size w w1 := (by repeat (first | exact Below.refl _ _ | refine below_step (by assumption) (by first | omega | (simp; done) | (simp; omega)) ?_ | refine below_drewN ?_ _ | refine Below.drew ?_ | refine Below.setCell ?_ (by first | omega | (simp; done) | (simp; omega)) _ | refine Below.alloc ?_ (by first | omega | (simp; done) | (simp; omega)) _))
    clear v1  
    go_wp2_with fail
    go_ret
    exact ⟨ret_b (by rw [HV.out]; rfl), B_w1⟩
  | true =>
    cases b2 with
    | false =>
      go_enter Try.func19, Try.ntmps19
      go_wp2_with fail
      refine (HN.out _ (HA.out.below (w := w) (by repeat (first | exact Below.refl _ _ | refine below_step (by assumption) (by first | omega | (simp; done) | (simp; omega)) ?_ | refine below_drewN ?_ _ | refine Below.drew ?_ | refine Below.setCell ?_ (by first | omega | (simp; done) | (simp; omega)) _ | refine Below.alloc ?_ (by first | omega | (simp; done) | (simp; omega)) _)))).mono ?_
      rintro e w1 ⟨rfl, v1⟩
      have c0_w1 : w1.cell? ⟨w.heap.size, 0, none⟩ = some (.slice A k c) := (v1.cell (p := ⟨w.heap.size, 0, none⟩) (by first | omega | (simp; done) | (simp; omega))).trans (by first | assumption | go_simp)
      have c1_w1 : w1.cell? ⟨w.heap.size, 1, none⟩ = some (.slice B m d) := (v1.cell (p := ⟨w.heap.size, 1, none⟩) (by first | omega | (simp; done) | (simp; omega))).trans (by first | assumption | go_simp)
      have c2_w1 : w1.cell? ⟨w.heap.size, 2, none⟩ = some (.int .i64 h) := (v1.cell (p := ⟨w.heap.size, 2, none⟩) (by first | omega | (simp; done) | (simp; omega))).trans (by first | assumption | go_simp)
      have s0_w1 : w.heap.size < w1.heap.size := Nat.lt_of_lt_of_le (by first | omega | (simp; done) | (simp; omega)) v1.size
      have B_w1 : Below w.heap.size w w1 := (by repeat (first | exact Below.refl _ _ | refine below_step (by assumption) (by first | omega | (simp; done) | (simp; omega)) ?_ | refine below_drewN ?_ _ | refine Below.drew ?_ | refine Below.setCell ?_ (by first | omega | (simp; done) | (simp; omega)) _ | refine Below.alloc ?_ (by first | omega | (simp; done) | (simp; omega)) _))
      clear v1  
      go_wp2_with fail
      refine (HT.out _ (HA.out.below (w := w) (by repeat (first | exact Below.refl _ _ | refine below_step (by assumption) (by first | omega | (simp; done) | (simp; omega)) ?_ | refine below_drewN ?_ _ | refine Below.drew ?_ | refine Below.setCell ?_ (by first | omega | (simp; done) | (simp; omega)) _ | refine Below.alloc ?_ (by first | omega | (simp; done) | (simp; omega)) _)))).mono ?_
      rintro e w2 ⟨rfl, v2⟩
      have c0_w2 : w2.cell? ⟨w.heap.size, 0, none⟩ = some (.slice A k c) := (v2.cell (p := ⟨w.heap.size, 0, none⟩) (by first | omega | (simp; done) | (simp; omega))).trans (by first | assumption | go_simp)
      have c1_w2 : w2.cell? ⟨w.heap.size, 1, none⟩ = some (.slice B m d) := (v2.cell (p := ⟨w.heap.size, 1, none⟩) (by first | omega | (simp; done) | (simp; omega))).trans (by first | assumption | go_simp)
      have c2_w2 : w2.cell? ⟨w.heap.size, 2, none⟩ = some (.int .i64 h) := (v2.cell (p := ⟨w.heap.size, 2, none⟩) (by first | omega | (simp; done) | (simp; omega))).trans (by first | assumption | go_simp)
      have s0_w2 : w.heap.size < w2.heap.size := Nat.lt_of_lt_of_le (by first | omega | (simp; done) | (simp; omega)) v2.size
      have B_w2 : Below w.heap.size w w2 := (by repeat (first | exact Below.refl _ _ | refine below_step (by assumption) (by first | omega | (simp; done) | (simp; omega)) ?_ | refine below_drewN ?_ _ | refine Below.drew ?_ | refine Below.setCell ?_ (by first | omega | (simp; done) | (simp; omega)) _ | refine Below.alloc ?_ (by first | omega | (simp; done) | (simp; omega)) _))
      clear v2 c0_w1 c1_w1 c2_w1 s0_w1 B_w1
      go_wp2_with fail
      go_ret
      exact ⟨ret_b (by rw [HV.out]; rfl), B_w2⟩
    | true =>
      by_cases h1 : 1 ≤ h
      · have HD1 := Lib.hid (decide_eq_true h1)
        by_cases h2 : h ≤ 10
        · have HD2 := Lib.hid (decide_eq_true h2)
          go_enter Try.func19, Try.ntmps19
          go_wp2_with fail
          refine (HN.out _ (HA.out.below (w := w) (by repeat (first | exact Below.refl _ _ | refine below_step (by assumption) (by first | omega | (simp; done) | (simp; omega)) ?_ | refine below_drewN ?_ _ | refine Below.drew ?_ | refine Below.setCell ?_ (by first | omega | (simp; done) | (simp; omega)) _ | refine Below.alloc ?_ (by first | omega | (simp; done) | (simp; omega)) _)))).mono ?_
          rintro e w1 ⟨rfl, v1⟩
          have c0_w1 : w1.cell? ⟨w.heap.size, 0, none⟩ = some (.slice A k c) := (v1.cell (p := ⟨w.heap.size, 0, none⟩) (by first | omega | (simp; done) | (simp; omega))).trans (by first | assumption | go_simp)
          have c1_w1 : w1.cell? ⟨w.heap.size, 1, none⟩ = some (.slice B m d) := (v1.cell (p := ⟨w.heap.size, 1, none⟩) (by first | omega | (simp; done) | (simp; omega))).trans (by first | assumption | go_simp)
          have c2_w1 : w1.cell? ⟨w.heap.size, 2, none⟩ = some (.int .i64 h) := (v1.cell (p := ⟨w.heap.size, 2, none⟩) (by first | omega | (simp; done) | (simp; omega))).trans (by first | assumption | go_simp)
          have s0_w1 : w.heap.size < w1.heap.size := Nat.lt_of_lt_of_le (by first | omega | (simp; done) | (simp; omega)) v1.size
          have B_w1 : Below w.heap.size w w1 := (by repeat (first | exact Below.refl _ _ | refine below_step (by assumption) (by first | omega | (simp; done) | (simp; omega)) ?_ | refine below_drewN ?_ _ | refine Below.drew ?_ | refine Below.setCell ?_ (by first | omega | (simp; done) | (simp; omega)) _ | refine Below.alloc ?_ (by first | omega | (simp; done) | (simp; omega)) _))
          clear v1  
          go_wp2_with fail
          refine (HT.out _ (HA.out.below (w := w) (by repeat (first | exact Below.refl _ _ | refine below_step (by assumption) (by first | omega | (simp; done) | (simp; omega)) ?_ | refine below_drewN ?_ _ | refine Below.drew ?_ | refine Below.setCell ?_ (by first | omega | (simp; done) | (simp; omega)) _ | refine Below.alloc ?_ (by first | omega | (simp; done) | (simp; omega)) _)))).mono ?_
          rintro e w2 ⟨rfl, v2⟩
          have c0_w2 : w2.cell? ⟨w.heap.size, 0, none⟩ = some (.slice A k c) := (v2.cell (p := ⟨w.heap.size, 0, none⟩) (by first | omega | (simp; done) | (simp; omega))).trans (by first | assumption | go_simp)
          have c1_w2 : w2.cell? ⟨w.heap.size, 1, none⟩ = some (.slice B m d) := (v2.cell (p := ⟨w.heap.size, 1, none⟩) (by first | omega | (simp; done) | (simp; omega))).trans (by first | assumption | go_simp)
          have c2_w2 : w2.cell? ⟨w.heap.size, 2, none⟩ = some (.int .i64 h) := (v2.cell (p := ⟨w.heap.size, 2, none⟩) (by first | omega | (simp; done) | (simp; omega))).trans (by first | assumption | go_simp)
          have s0_w2 : w.heap.size < w2.heap.size := Nat.lt_of_lt_of_le (by first | omega | (simp; done) | (simp; omega)) v2.size
          have B_w2 : Below w.heap.size w w2 := (by repeat (first | exact Below.refl _ _ | refine below_step (by assumption) (by first | omega | (simp; done) | (simp; omega)) ?_ | refine below_drewN ?_ _ | refine Below.drew ?_ | refine Below.setCell ?_ (by first | omega | (simp; done) | (simp; omega)) _ | refine Below.alloc ?_ (by first | omega | (simp; done) | (simp; omega)) _))
          clear v2 c0_w1 c1_w1 c2_w1 s0_w1 B_w1
          go_wp2_with fail
          go_ret
          exact ⟨ret_b (by rw [HV.out, HD1.out, HD2.out]; rfl), B_w2⟩
        · have HD2 := Lib.hid (decide_eq_false h2)
          go_enter Try.func19, Try.ntmps19
          go_wp2_with fail
          refine (HN.out _ (HA.out.below (w := w) (by repeat (first | exact Below.refl _ _ | refine below_step (by assumption) (by first | omega | (simp; done) | (simp; omega)) ?_ | refine below_drewN ?_ _ | refine Below.drew ?_ | refine Below.setCell ?_ (by first | omega | (simp; done) | (simp; omega)) _ | refine Below.alloc ?_ (by first | omega | (simp; done) | (simp; omega)) _)))).mono ?_
          rintro e w1 ⟨rfl, v1⟩
          have c0_w1 : w1.cell? ⟨w.heap.size, 0, none⟩ = some (.slice A k c) := (v1.cell (p := ⟨w.heap.size, 0, none⟩) (by first | omega | (simp; done) | (simp; omega))).trans (by first | assumption | go_simp)
          have c1_w1 : w1.cell? ⟨w.heap.size, 1, none⟩ = some (.slice B m d) := (v1.cell (p := ⟨w.heap.size, 1, none⟩) (by first | omega | (simp; done) | (simp; omega))).trans (by first | assumption | go_simp)
          have c2_w1 : w1.cell? ⟨w.heap.size, 2, none⟩ = some (.int .i64 h) := (v1.cell (p := ⟨w.heap.size, 2, none⟩) (by first | omega | (simp; done) | (simp; omega))).trans (by first | assumption | go_simp)
          have s0_w1 : w.heap.size < w1.heap.size := Nat.lt_of_lt_of_le (by first | omega | (simp; done) | (simp; omega)) v1.size
          have B_w1 : Below w.heap.size w w1 := (by repeat (first | exact Below.refl _ _ | refine below_step (by assumption) (by first | omega | (simp; done) | (simp; omega)) ?_ | refine below_drewN ?_ _ | refine Below.drew ?_ | refine Below.setCell ?_ (by first | omega | (simp; done) | (simp; omega)) _ | refine Below.alloc ?_ (by first | omega | (simp; done) | (simp; omega)) _))
          clear v1  
          go_wp2_with fail
          refine (HT.out _ (HA.out.below (w := w) (by repeat (first | exact Below.refl _ _ | refine below_step (by assumption) (by first | omega | (simp; done) | (simp; omega)) ?_ | refine below_drewN ?_ _ | refine Below.drew ?_ | refine Below.setCell ?_ (by first | omega | (simp; done) | (simp; omega)) _ | refine Below.alloc ?_ (by first | omega | (simp; done) | (simp; omega)) _)))).mono ?_
          rintro e w2 ⟨rfl, v2⟩
          have c0_w2 : w2.cell? ⟨w.heap.size, 0, none⟩ = some (.slice A k c) := (v2.cell (p := ⟨w.heap.size, 0, none⟩) (by first | omega | (simp; done) | (simp; omega))).trans (by first | assumption | go_simp)
          have c1_w2 : w2.cell? ⟨w.heap.size, 1, none⟩ = some (.slice B m d) := (v2.cell (p := ⟨w.heap.size, 1, none⟩) (by first | omega | (simp; done) | (simp; omega))).trans (by first | assumption | go_simp)
          have c2_w2 : w2.cell? ⟨w.heap.size, 2, none⟩ = some (.int .i64 h) := (v2.cell (p := ⟨w.heap.size, 2, none⟩) (by first | omega | (simp; done) | (simp; omega))).trans (by first | assumption | go_simp)
          have s0_w2 : w.heap.size < w2.heap.size := Nat.lt_of_lt_of_le (by first | omega | (simp; done) | (simp; omega)) v2.size
          have B_w2 : Below w.heap.size w w2 := (by repeat (first | exact Below.refl _ _ | refine below_step (by assumption) (by first | omega | (simp; done) | (simp; omega)) ?_ | refine below_drewN ?_ _ | refine Below.drew ?_ | refine Below.setCell ?_ (by first | omega | (simp; done) | (simp; omega)) _ | refine Below.alloc ?_ (by first | omega | (simp; done) | (simp; omega)) _))
          clear v2 c0_w1 c1_w1 c2_w1 s0_w1 B_w1
          go_wp2_with fail
          go_ret
          exact ⟨ret_b (by rw [HV.out, HD1.out, HD2.out]; rfl), B_w2⟩
      · have HD1 := Lib.hid (decide_eq_false h1)
        go_enter Try.func19, Try.ntmps19
        go_wp2_with fail
        refine (HN.out _ (HA.out.below (w := w) (by repeat (first | exact Below.refl _ _ | refine below_step (by assumption) (by first | omega | (simp; done) | (simp; omega)) ?_ | refine below_drewN ?_ _ | refine Below.drew ?_ | refine Below.setCell ?_ (by first | omega | (simp; done) | (simp; omega)) _ | refine Below.alloc ?_ (by first | omega | (simp; done) | (simp; omega)) _)))).mono ?_
        rintro e w1 ⟨rfl, v1⟩
        have c0_w1 : w1.cell? ⟨w.heap.size, 0, none⟩ = some (.slice A k c) := (v1.cell (p := ⟨w.heap.size, 0, none⟩) (by first | omega | (simp; done) | (simp; omega))).trans (by first | assumption | go_simp)
        have c1_w1 : w1.cell? ⟨w.heap.size, 1, none⟩ = some (.slice B m d) := (v1.cell (p := ⟨w.heap.size, 1, none⟩) (by first | omega | (simp; done) | (simp; omega))).trans (by first | assumption | go_simp)
        have c2_w1 : w1.cell? ⟨w.heap.size, 2, none⟩ = some (.int .i64 h) := (v1.cell (p := ⟨w.heap.size, 2, none⟩) (by first | omega | (simp; done) | (simp; omega))).trans (by first | assumption | go_simp)
        have s0_w1 : w.heap.size < w1.heap.size := Nat.lt_of_lt_of_le (by first | omega | (simp; done) | (simp; omega)) v1.size
        have B_w1 : Below w.heap.size w w1 := (by repeat (first | exact Below.refl _ _ | refine below_step (by assumption) (by first | omega | (simp; done) | (simp; omega)) ?_ | refine below_drewN ?_ _ | refine Below.drew ?_ | refine Below.setCell ?_ (by first | omega | (simp; done) | (simp; omega)) _ | refine Below.alloc ?_ (by first | omega | (simp; done) | (simp; omega)) _))
        clear v1  
        go_wp2_with fail
        refine (HT.out _ (HA.out.below (w := w) (by repeat (first | exact Below.refl _ _ | refine below_step (by assumption) (by first | omega | (simp; done) | (simp; omega)) ?_ | refine below_drewN ?_ _ | refine Below.drew ?_ | refine Below.setCell ?_ (by first | omega | (simp; done) | (simp; omega)) _ | refine Below.alloc ?_ (by first | omega | (simp; done) | (simp; omega)) _)))).mono ?_
        rintro e w2 ⟨rfl, v2⟩
        have c0_w2 : w2.cell? ⟨w.heap.size, 0, none⟩ = some (.slice A k c) := (v2.cell (p := ⟨w.heap.size, 0, none⟩) (by first | omega | (simp; done) | (simp; omega))).trans (by first | assumption | go_simp)
        have c1_w2 : w2.cell? ⟨w.heap.size, 1, none⟩ = some (.slice B m d) := (v2.cell (p := ⟨w.heap.size, 1, none⟩) (by first | omega | (simp; done) | (simp; omega))).trans (by first | assumption | go_simp)
        have c2_w2 : w2.cell? ⟨w.heap.size, 2, none⟩ = some (.int .i64 h) := (v2.cell (p := ⟨w.heap.size, 2, none⟩) (by first | omega | (simp; done) | (simp; omega))).trans (by first | assumption | go_simp)
        have s0_w2 : w.heap.size < w2.heap.size := Nat.lt_of_lt_of_le (by first | omega | (simp; done) | (simp; omega)) v2.size
        have B_w2 : Below w.heap.size w w2 := (by repeat (first | exact Below.refl _ _ | refine below_step (by assumption) (by first | omega | (simp; done) | (simp; omega)) ?_ | refine below_drewN ?_ _ | refine Below.drew ?_ | refine Below.setCell ?_ (by first | omega | (simp; done) | (simp; omega)) _ | refine Below.alloc ?_ (by first | omega | (simp; done) | (simp; omega)) _))
        clear v2 c0_w1 c1_w1 c2_w1 s0_w1 B_w1
        go_wp2_with fail
        go_ret
        exact ⟨ret_b (by rw [HV.out, HD1.out]; rfl), B_w2⟩

end Go.Proofs.Ytgnehihnkkoneaa

