/-
  WALKS of spec.ShowOk, FreeTie, IsFree, WatcherOf.
  WALK of spec.ChosenNodes.
  WALK of spec.SameShows.
  WALKS of slices.Min and slices.Max at []int.
-/
import Derived.Test.YtgnehihnkkoneaaShR
import Derived.Deep.AppendLies
import Derived.Deep.CutRange
import Derived.BigQuiet
import Derived.Deep.QuietTactic
import Derived.Deep.Cut
import Derived.Laws.StructEq
import Derived.Test.YtgnehihnkkoneaaBdShE
namespace Go.Proofs.Ytgnehihnkkoneaa
open Go.RowKit
set_option linter.unusedVariables false
set_option linter.unusedSimpArgs false

theorem shR_at (s : GS) : shR s = (ndsR s.ns && (decide (s.ts.length ≤ 14) && ((decide (1 ≤ s.h) && decide (s.h ≤ 10)) && allJ (tiB s.ns s.ts) s.ts.length))) := rfl

set_option maxRecDepth 100000 in
set_option maxHeartbeats 8000000 in
theorem spec_ShowOk (s : GS) (A : Option Addr) (k c : Nat) (B : Option Addr) (m d : Nat) (w : World) (hs : ShB s) (ha : ShowAt w s A k B m) :
    Calls Try.prog 17 #[shV A k c B m d s.h] w fun e w' => e = .returned (.bool (shR s)) ∧ Below w.heap.size w w' := by
  have HN := Lib.hid (fun W h => spec_l08Nodes s A k c B m d W hs h)
  have HT := Lib.hid (fun i W h1 h => spec_l08Tie s i A k c B m d W hs h1 h)
  have HI := Lib.hid (l01In_any s.h 1 10)
  have HLT := Lib.hid ha.lt
  have HV := Lib.hid (shR_at s)
  rw [ha.lt] at HV
  have HA := Lib.hid ha
  have hh : ∃ h, h = s.h := ⟨_, rfl⟩
  obtain ⟨w1, hw1⟩ : ∃ W, W = w.alloc (.cells #[.slice A k c, .slice B m d, .int .i64 s.h] 40) := ⟨_, rfl⟩
  have B_w1 : Below w.heap.size w w1 := by rw [hw1]; exact (Below.refl _ _).alloc (Nat.le_refl _) _
  have z_w1 : w.heap.size < w1.heap.size := by rw [hw1]; simp
  have c0_w1 : w1.cell? ⟨w.heap.size, 0, none⟩ = some (.slice A k c) := by rw [hw1]; go_simp
  have c1_w1 : w1.cell? ⟨w.heap.size, 1, none⟩ = some (.slice B m d) := by rw [hw1]; go_simp
  have c2_w1 : w1.cell? ⟨w.heap.size, 2, none⟩ = some (.int .i64 s.h) := by rw [hw1]; go_simp
  have HA1 := Lib.hid (ha.below B_w1)
  have BW1 := Lib.hid B_w1
  have HW1 := Lib.hid hw1
  clear ha hh hw1 B_w1
  unfold shV at HN HT ⊢
  obtain ⟨h, hh⟩ : ∃ h, h = s.h := ⟨_, rfl⟩
  rw [← hh] at HN HT HI HV HW1 c2_w1 ⊢
  clear hh
  obtain ⟨b1, hb1⟩ : ∃ b, b = ndsR s.ns := ⟨_, rfl⟩
  obtain ⟨b3, hb3⟩ : ∃ b, b = (decide (1 ≤ h) && decide (h ≤ 10)) := ⟨_, rfl⟩
  rw [← hb1] at HN HV
  rw [← hb3] at HI HV
  clear hb1 hb3
  cases b1 with
  | false =>
    go_enter Try.func17, Try.ntmps17
    go_wp2_with fail
    rw [← HW1.out]
    refine (HN.out _ HA1.out).mono ?_
    rintro e w2 ⟨rfl, b2⟩
    have c0_w2 : w2.cell? ⟨w.heap.size, 0, none⟩ = some (.slice A k c) := (b2.cell (p := ⟨w.heap.size, 0, none⟩) (by first | omega | (simp; done) | (simp; omega))).trans (by first | assumption | go_simp)
    have c1_w2 : w2.cell? ⟨w.heap.size, 1, none⟩ = some (.slice B m d) := (b2.cell (p := ⟨w.heap.size, 1, none⟩) (by first | omega | (simp; done) | (simp; omega))).trans (by first | assumption | go_simp)
    have c2_w2 : w2.cell? ⟨w.heap.size, 2, none⟩ = some (.int .i64 h) := (b2.cell (p := ⟨w.heap.size, 2, none⟩) (by first | omega | (simp; done) | (simp; omega))).trans (by first | assumption | go_simp)
    have B_w2 : Below w1.heap.size w1 w2 := (by repeat (first | exact Below.refl _ _ | refine below_step (by assumption) (by first | omega | (simp; done) | (simp; omega)) ?_ | refine below_drewN ?_ _ | refine Below.drew ?_ | refine Below.setCell ?_ (by first | omega | (simp; done) | (simp; omega)) _ | refine Below.alloc ?_ (by first | omega | (simp; done) | (simp; omega)) _))
    have z_w2 := B_w2.size
    clear b2 c0_w1 c1_w1 c2_w1
    go_wp2_with fail
    go_ret
    exact ⟨ret_b (by rw [HV.out]; rfl), BW1.out.trans (B_w2.mono BW1.out.size)⟩
  | true =>
    by_cases hm : m ≤ 14
    · have hmi : ¬ ((14 : Int) < (m : Int)) := by omega
      have HM := Lib.hid (decide_eq_true hm)
      go_enter Try.func17, Try.ntmps17
      go_wp2_with fail
      rw [← HW1.out]
      refine (HN.out _ HA1.out).mono ?_
      rintro e w2 ⟨rfl, b2⟩
      have c0_w2 : w2.cell? ⟨w.heap.size, 0, none⟩ = some (.slice A k c) := (b2.cell (p := ⟨w.heap.size, 0, none⟩) (by first | omega | (simp; done) | (simp; omega))).trans (by first | assumption | go_simp)
      have c1_w2 : w2.cell? ⟨w.heap.size, 1, none⟩ = some (.slice B m d) := (b2.cell (p := ⟨w.heap.size, 1, none⟩) (by first | omega | (simp; done) | (simp; omega))).trans (by first | assumption | go_simp)
      have c2_w2 : w2.cell? ⟨w.heap.size, 2, none⟩ = some (.int .i64 h) := (b2.cell (p := ⟨w.heap.size, 2, none⟩) (by first | omega | (simp; done) | (simp; omega))).trans (by first | assumption | go_simp)
      have B_w2 : Below w1.heap.size w1 w2 := (by repeat (first | exact Below.refl _ _ | refine below_step (by assumption) (by first | omega | (simp; done) | (simp; omega)) ?_ | refine below_drewN ?_ _ | refine Below.drew ?_ | refine Below.setCell ?_ (by first | omega | (simp; done) | (simp; omega)) _ | refine Below.alloc ?_ (by first | omega | (simp; done) | (simp; omega)) _))
      have z_w2 := B_w2.size
      clear b2 c0_w1 c1_w1 c2_w1
      go_wp2_with fail
      refine (HI.out _).mono ?_
      rintro e wx ⟨rfl, hwx⟩
      subst hwx
      cases b3 with
      | false =>
        go_wp2_with fail
        go_ret
        exact ⟨ret_b (by rw [HV.out, HM.out]; rfl), BW1.out.trans (B_w2.mono BW1.out.size)⟩
      | true =>
        have BW2 := Lib.hid B_w2
        have HA2 := Lib.hid (HA1.out.below B_w2)
        go_wp2_with fail
        go_loopw [22] (fun i wr => ∃ j : Nat, j ≤ m ∧ i = .int .i64 j ∧ allJ (tiB s.ns s.ts) j = true ∧ Below w2.heap.size w2 wr) (fun i _ => m - (intOf i).toNat)
        case atStart => exact ⟨0, Nat.zero_le _, rfl, rfl, Below.refl _ _⟩
        case round =>
          obtain ⟨j, hj, rfl, hall, hbw⟩ := hrel
          have HALL := Lib.hid hall
          clear hall
          have zs2 : w.heap.size < w2.heap.size := Nat.lt_of_lt_of_le z_w1 z_w2
          have k0 := (hbw.cell (p := ⟨w.heap.size, 0, none⟩) zs2).trans c0_w2
          have k1 := (hbw.cell (p := ⟨w.heap.size, 1, none⟩) zs2).trans c1_w2
          have k2 := (hbw.cell (p := ⟨w.heap.size, 2, none⟩) zs2).trans c2_w2
          have BW := Lib.hid hbw
          clear hbw
          by_cases hlt : j < m
          · have hjm : ((j : Int) < (m : Int)) := by omega
            have hti := fun W hh => HT.out j W hlt hh
            obtain ⟨b, hb⟩ : ∃ b, b = tiB s.ns s.ts j := ⟨_, rfl⟩
            rw [← hb] at hti
            have HTI := Lib.hid hti
            have HB := Lib.hid hb.symm
            clear hti hb
            go_wp2_with fail
            refine (HTI.out _ (HA2.out.below BW.out)).mono ?_
            rintro e w3 ⟨rfl, b3⟩
            have B3 := Lib.hid (BW.out.trans (b3.mono BW.out.size))
            clear b3 k0 k1 k2
            cases b with
            | false =>
              have HNO := Lib.hid (allJ_no (f := tiB s.ns s.ts) (j := j + 1) (by rw [allJ_next, HB.out, Bool.and_false]) (show j + 1 ≤ m by omega))
              go_wp2_with fail
              go_ret
              exact ⟨ret_b (by rw [HV.out, HM.out, HNO.out]; rfl), BW1.out.trans ((BW2.out.trans (B3.out.mono BW2.out.size)).mono BW1.out.size)⟩
            | true =>
              go_wp2_with fail
              go_roundw
              case rel => exact ⟨j + 1, by omega, by go_num, by rw [allJ_next, HALL.out, HB.out]; rfl, B3.out⟩
              case measure => simp [intOf]; omega
          · have hjm : ¬ ((j : Int) < (m : Int)) := by omega
            have HYES := Lib.hid (show allJ (tiB s.ns s.ts) m = true from by rw [show m = j from by omega]; exact HALL.out)
            go_wp2_with fail
            go_ret
            exact ⟨ret_b (by rw [HV.out, HM.out, HYES.out]; rfl), BW1.out.trans ((BW2.out.trans (BW.out.mono BW2.out.size)).mono BW1.out.size)⟩
    · have hmi : ((14 : Int) < (m : Int)) := by omega
      have HM := Lib.hid (decide_eq_false hm)
      go_enter Try.func17, Try.ntmps17
      go_wp2_with fail
      rw [← HW1.out]
      refine (HN.out _ HA1.out).mono ?_
      rintro e w2 ⟨rfl, b2⟩
      have c0_w2 : w2.cell? ⟨w.heap.size, 0, none⟩ = some (.slice A k c) := (b2.cell (p := ⟨w.heap.size, 0, none⟩) (by first | omega | (simp; done) | (simp; omega))).trans (by first | assumption | go_simp)
      have c1_w2 : w2.cell? ⟨w.heap.size, 1, none⟩ = some (.slice B m d) := (b2.cell (p := ⟨w.heap.size, 1, none⟩) (by first | omega | (simp; done) | (simp; omega))).trans (by first | assumption | go_simp)
      have c2_w2 : w2.cell? ⟨w.heap.size, 2, none⟩ = some (.int .i64 h) := (b2.cell (p := ⟨w.heap.size, 2, none⟩) (by first | omega | (simp; done) | (simp; omega))).trans (by first | assumption | go_simp)
      have B_w2 : Below w1.heap.size w1 w2 := (by repeat (first | exact Below.refl _ _ | refine below_step (by assumption) (by first | omega | (simp; done) | (simp; omega)) ?_ | refine below_drewN ?_ _ | refine Below.drew ?_ | refine Below.setCell ?_ (by first | omega | (simp; done) | (simp; omega)) _ | refine Below.alloc ?_ (by first | omega | (simp; done) | (simp; omega)) _))
      have z_w2 := B_w2.size
      clear b2 c0_w1 c1_w1 c2_w1
      go_wp2_with fail
      go_ret
      exact ⟨ret_b (by rw [HV.out, HM.out]; rfl), BW1.out.trans (B_w2.mono BW1.out.size)⟩

set_option maxRecDepth 100000 in
set_option maxHeartbeats 8000000 in
theorem spec_FreeTie (s : GS) (x : Int) (A : Option Addr) (k c : Nat) (B : Option Addr) (m d : Nat) (w : World) (hs : ShB s) (ha : ShowAt w s A k B m) :
    Calls Try.prog 21 #[shV A k c B m d s.h, .int .i64 x] w fun e w' => e = .returned (.int .i64 (frR s x)) ∧ Below w.heap.size w w' := by
  have hmm : m ≤ 1048576 := by have := hs.ts; have := ha.lt; omega
  have HN := Lib.hid (fun W h => spec_ShowOk s A k c B m d W hs h)
  have HF := Lib.hid (fun W h => spec_l08Free s x A k c B m d W hmm h)
  have HV : Hid (frR s x = if shR s then freR s.ts x else -1) := Lib.hid rfl
  have HA := Lib.hid ha
  have hh : ∃ h, h = s.h := ⟨_, rfl⟩
  obtain ⟨w1, hw1⟩ : ∃ W, W = w.alloc (.cells #[.slice A k c, .slice B m d, .int .i64 s.h] 40) := ⟨_, rfl⟩
  have B_w1 : Below w.heap.size w w1 := by rw [hw1]; exact (Below.refl _ _).alloc (Nat.le_refl _) _
  have z_w1 : w.heap.size < w1.heap.size := by rw [hw1]; simp
  have c0_w1 : w1.cell? ⟨w.heap.size, 0, none⟩ = some (.slice A k c) := by rw [hw1]; go_simp
  have c1_w1 : w1.cell? ⟨w.heap.size, 1, none⟩ = some (.slice B m d) := by rw [hw1]; go_simp
  have c2_w1 : w1.cell? ⟨w.heap.size, 2, none⟩ = some (.int .i64 s.h) := by rw [hw1]; go_simp
  have HA1 := Lib.hid (ha.below B_w1)
  have BW1 := Lib.hid B_w1
  have HW1 := Lib.hid hw1
  clear ha hh hw1 B_w1
  unfold shV at HN HF ⊢
  obtain ⟨h, hh⟩ : ∃ h, h = s.h := ⟨_, rfl⟩
  rw [← hh] at HN HF HW1 c2_w1 ⊢
  clear hh
  obtain ⟨b1, hb1⟩ : ∃ b, b = shR s := ⟨_, rfl⟩
  rw [← hb1] at HN HV
  clear hb1
  cases b1 with
  | false =>
    go_enter Try.func21, Try.ntmps21
    go_wp2_with fail
    rw [← HW1.out]
    refine (HN.out _ HA1.out).mono ?_
    rintro e w2 ⟨rfl, b2⟩
    have c0_w2 : w2.cell? ⟨w.heap.size, 0, none⟩ = some (.slice A k c) := (b2.cell (p := ⟨w.heap.size, 0, none⟩) (by first | omega | (simp; done) | (simp; omega))).trans (by first | assumption | go_simp)
    have c1_w2 : w2.cell? ⟨w.heap.size, 1, none⟩ = some (.slice B m d) := (b2.cell (p := ⟨w.heap.size, 1, none⟩) (by first | omega | (simp; done) | (simp; omega))).trans (by first | assumption | go_simp)
    have c2_w2 : w2.cell? ⟨w.heap.size, 2, none⟩ = some (.int .i64 h) := (b2.cell (p := ⟨w.heap.size, 2, none⟩) (by first | omega | (simp; done) | (simp; omega))).trans (by first | assumption | go_simp)
    have B_w2 : Below w1.heap.size w1 w2 := (by repeat (first | exact Below.refl _ _ | refine below_step (by assumption) (by first | omega | (simp; done) | (simp; omega)) ?_ | refine below_drewN ?_ _ | refine Below.drew ?_ | refine Below.setCell ?_ (by first | omega | (simp; done) | (simp; omega)) _ | refine Below.alloc ?_ (by first | omega | (simp; done) | (simp; omega)) _))
    have z_w2 := B_w2.size
    clear b2 c0_w1 c1_w1 c2_w1
    go_wp2_with fail
    go_ret
    exact ⟨int_ans (by rw [HV.out]; rfl), BW1.out.trans (B_w2.mono BW1.out.size)⟩
  | true =>
    go_enter Try.func21, Try.ntmps21
    go_wp2_with fail
    rw [← HW1.out]
    refine (HN.out _ HA1.out).mono ?_
    rintro e w2 ⟨rfl, b2⟩
    have c0_w2 : w2.cell? ⟨w.heap.size, 0, none⟩ = some (.slice A k c) := (b2.cell (p := ⟨w.heap.size, 0, none⟩) (by first | omega | (simp; done) | (simp; omega))).trans (by first | assumption | go_simp)
    have c1_w2 : w2.cell? ⟨w.heap.size, 1, none⟩ = some (.slice B m d) := (b2.cell (p := ⟨w.heap.size, 1, none⟩) (by first | omega | (simp; done) | (simp; omega))).trans (by first | assumption | go_simp)
    have c2_w2 : w2.cell? ⟨w.heap.size, 2, none⟩ = some (.int .i64 h) := (b2.cell (p := ⟨w.heap.size, 2, none⟩) (by first | omega | (simp; done) | (simp; omega))).trans (by first | assumption | go_simp)
    have B_w2 : Below w1.heap.size w1 w2 := (by repeat (first | exact Below.refl _ _ | refine below_step (by assumption) (by first | omega | (simp; done) | (simp; omega)) ?_ | refine below_drewN ?_ _ | refine Below.drew ?_ | refine Below.setCell ?_ (by first | omega | (simp; done) | (simp; omega)) _ | refine Below.alloc ?_ (by first | omega | (simp; done) | (simp; omega)) _))
    have z_w2 := B_w2.size
    clear b2 c0_w1 c1_w1 c2_w1
    go_wp2_with fail
    refine (HF.out _ (HA1.out.below B_w2)).mono ?_
    rintro e w3 ⟨rfl, b3⟩
    have B_w3 : Below w1.heap.size w1 w3 := (by repeat (first | exact Below.refl _ _ | refine below_step (by assumption) (by first | omega | (simp; done) | (simp; omega)) ?_ | refine below_drewN ?_ _ | refine Below.drew ?_ | refine Below.setCell ?_ (by first | omega | (simp; done) | (simp; omega)) _ | refine Below.alloc ?_ (by first | omega | (simp; done) | (simp; omega)) _))
    clear b3
    go_wp2_with fail
    go_ret
    exact ⟨int_ans (by rw [HV.out]; rfl), BW1.out.trans (B_w3.mono BW1.out.size)⟩

set_option maxRecDepth 100000 in
set_option maxHeartbeats 8000000 in
theorem spec_IsFree (s : GS) (x : Int) (A : Option Addr) (k c : Nat) (B : Option Addr) (m d : Nat) (w : World) (hs : ShB s) (ha : ShowAt w s A k B m) :
    Calls Try.prog 23 #[shV A k c B m d s.h, .int .i64 x] w fun e w' => e = .returned (.bool (decide (0 ≤ frR s x))) ∧ Below w.heap.size w w' := by
  have HN := Lib.hid (fun W h => spec_FreeTie s x A k c B m d W hs h)
  have HA := Lib.hid ha
  have hh : ∃ h, h = s.h := ⟨_, rfl⟩
  obtain ⟨w1, hw1⟩ : ∃ W, W = w.alloc (.cells #[.slice A k c, .slice B m d, .int .i64 s.h] 40) := ⟨_, rfl⟩
  have B_w1 : Below w.heap.size w w1 := by rw [hw1]; exact (Below.refl _ _).alloc (Nat.le_refl _) _
  have z_w1 : w.heap.size < w1.heap.size := by rw [hw1]; simp
  have c0_w1 : w1.cell? ⟨w.heap.size, 0, none⟩ = some (.slice A k c) := by rw [hw1]; go_simp
  have c1_w1 : w1.cell? ⟨w.heap.size, 1, none⟩ = some (.slice B m d) := by rw [hw1]; go_simp
  have c2_w1 : w1.cell? ⟨w.heap.size, 2, none⟩ = some (.int .i64 s.h) := by rw [hw1]; go_simp
  have HA1 := Lib.hid (ha.below B_w1)
  have BW1 := Lib.hid B_w1
  have HW1 := Lib.hid hw1
  clear ha hh hw1 B_w1
  unfold shV at HN ⊢
  obtain ⟨h, hh⟩ : ∃ h, h = s.h := ⟨_, rfl⟩
  rw [← hh] at HN HW1 c2_w1 ⊢
  clear hh
  obtain ⟨z, hz⟩ : ∃ b, b = frR s x := ⟨_, rfl⟩
  rw [← hz] at HN ⊢
  clear hz
  go_enter Try.func23, Try.ntmps23
  go_wp2_with fail
  rw [← HW1.out]
  refine (HN.out _ HA1.out).mono ?_
  rintro e w2 ⟨rfl, b2⟩
  by_cases h0 : 0 ≤ z
  · have HD := Lib.hid (decide_eq_true h0)
    go_wp2_with fail
    go_ret
    exact ⟨ret_b (by first | rfl | exact HD.out.symm | (rw [HD.out]; rfl)), BW1.out.trans (b2.mono BW1.out.size)⟩
  · have HD := Lib.hid (decide_eq_false h0)
    go_wp2_with fail
    go_ret
    exact ⟨ret_b (by first | rfl | exact HD.out.symm | (rw [HD.out]; rfl)), BW1.out.trans (b2.mono BW1.out.size)⟩

set_option maxRecDepth 100000 in
set_option maxHeartbeats 8000000 in
theorem spec_WatcherOf (s : GS) (x : Int) (A : Option Addr) (k c : Nat) (B : Option Addr) (m d : Nat) (w : World) (hs : ShB s) (ha : ShowAt w s A k B m) :
    Calls Try.prog 25 #[shV A k c B m d s.h, .int .i64 x] w fun e w' => e = .returned (.int .i64 (woR8 s x)) ∧ Below w.heap.size w w' := by
  have hkk : k ≤ 1048576 := by have := hs.ns; have := ha.ln; omega
  have HN := Lib.hid (fun W h => spec_ShowOk s A k c B m d W hs h)
  have HF := Lib.hid (fun W h => spec_l08Watcher s x A k c B m d W hkk h)
  have HI := Lib.hid (l01In_any x 1 3)
  have HV : Hid (woR8 s x = if (decide (1 ≤ x) && decide (x ≤ 3)) && shR s then watR s.ns x else -1) := Lib.hid rfl
  have HA := Lib.hid ha
  have hh : ∃ h, h = s.h := ⟨_, rfl⟩
  obtain ⟨w1, hw1⟩ : ∃ W, W = w.alloc (.cells #[.slice A k c, .slice B m d, .int .i64 s.h] 40) := ⟨_, rfl⟩
  have B_w1 : Below w.heap.size w w1 := by rw [hw1]; exact (Below.refl _ _).alloc (Nat.le_refl _) _
  have z_w1 : w.heap.size < w1.heap.size := by rw [hw1]; simp
  have c0_w1 : w1.cell? ⟨w.heap.size, 0, none⟩ = some (.slice A k c) := by rw [hw1]; go_simp
  have c1_w1 : w1.cell? ⟨w.heap.size, 1, none⟩ = some (.slice B m d) := by rw [hw1]; go_simp
  have c2_w1 : w1.cell? ⟨w.heap.size, 2, none⟩ = some (.int .i64 s.h) := by rw [hw1]; go_simp
  have HA1 := Lib.hid (ha.below B_w1)
  have BW1 := Lib.hid B_w1
  have HW1 := Lib.hid hw1
  clear ha hh hw1 B_w1
  unfold shV at HN HF ⊢
  obtain ⟨h, hh⟩ : ∃ h, h = s.h := ⟨_, rfl⟩
  rw [← hh] at HN HF HW1 c2_w1 ⊢
  clear hh
  obtain ⟨b0, hb0⟩ : ∃ b, b = (decide (1 ≤ x) && decide (x ≤ 3)) := ⟨_, rfl⟩
  obtain ⟨b1, hb1⟩ : ∃ b, b = shR s := ⟨_, rfl⟩
  rw [← hb0] at HI HV
  rw [← hb1] at HN HV
  clear hb0 hb1
  cases b0 with
  | false =>
    go_enter Try.func25, Try.ntmps25
    go_wp2_with fail
    rw [← HW1.out]
    refine (HI.out _).mono ?_
    rintro e wx ⟨rfl, hwx⟩
    subst hwx
    go_wp2_with fail
    go_ret
    exact ⟨int_ans (by rw [HV.out]; rfl), BW1.out⟩
  | true =>
    cases b1 with
    | false =>
      go_enter Try.func25, Try.ntmps25
      go_wp2_with fail
      rw [← HW1.out]
      refine (HI.out _).mono ?_
      rintro e wx ⟨rfl, hwx⟩
      subst hwx
      go_wp2_with fail
      refine (HN.out _ HA1.out).mono ?_
      rintro e w2 ⟨rfl, b2⟩
      have c0_w2 : w2.cell? ⟨w.heap.size, 0, none⟩ = some (.slice A k c) := (b2.cell (p := ⟨w.heap.size, 0, none⟩) (by first | omega | (simp; done) | (simp; omega))).trans (by first | assumption | go_simp)
      have c1_w2 : w2.cell? ⟨w.heap.size, 1, none⟩ = some (.slice B m d) := (b2.cell (p := ⟨w.heap.size, 1, none⟩) (by first | omega | (simp; done) | (simp; omega))).trans (by first | assumption | go_simp)
      have c2_w2 : w2.cell? ⟨w.heap.size, 2, none⟩ = some (.int .i64 h) := (b2.cell (p := ⟨w.heap.size, 2, none⟩) (by first | omega | (simp; done) | (simp; omega))).trans (by first | assumption | go_simp)
      have B_w2 : Below w1.heap.size w1 w2 := (by repeat (first | exact Below.refl _ _ | refine below_step (by assumption) (by first | omega | (simp; done) | (simp; omega)) ?_ | refine below_drewN ?_ _ | refine Below.drew ?_ | refine Below.setCell ?_ (by first | omega | (simp; done) | (simp; omega)) _ | refine Below.alloc ?_ (by first | omega | (simp; done) | (simp; omega)) _))
      have z_w2 := B_w2.size
      clear b2 c0_w1 c1_w1 c2_w1
      go_wp2_with fail
      go_ret
      exact ⟨int_ans (by rw [HV.out]; rfl), BW1.out.trans (B_w2.mono BW1.out.size)⟩
    | true =>
      go_enter Try.func25, Try.ntmps25
      go_wp2_with fail
      rw [← HW1.out]
      refine (HI.out _).mono ?_
      rintro e wx ⟨rfl, hwx⟩
      subst hwx
      go_wp2_with fail
      refine (HN.out _ HA1.out).mono ?_
      rintro e w2 ⟨rfl, b2⟩
      have c0_w2 : w2.cell? ⟨w.heap.size, 0, none⟩ = some (.slice A k c) := (b2.cell (p := ⟨w.heap.size, 0, none⟩) (by first | omega | (simp; done) | (simp; omega))).trans (by first | assumption | go_simp)
      have c1_w2 : w2.cell? ⟨w.heap.size, 1, none⟩ = some (.slice B m d) := (b2.cell (p := ⟨w.heap.size, 1, none⟩) (by first | omega | (simp; done) | (simp; omega))).trans (by first | assumption | go_simp)
      have c2_w2 : w2.cell? ⟨w.heap.size, 2, none⟩ = some (.int .i64 h) := (b2.cell (p := ⟨w.heap.size, 2, none⟩) (by first | omega | (simp; done) | (simp; omega))).trans (by first | assumption | go_simp)
      have B_w2 : Below w1.heap.size w1 w2 := (by repeat (first | exact Below.refl _ _ | refine below_step (by assumption) (by first | omega | (simp; done) | (simp; omega)) ?_ | refine below_drewN ?_ _ | refine Below.drew ?_ | refine Below.setCell ?_ (by first | omega | (simp; done) | (simp; omega)) _ | refine Below.alloc ?_ (by first | omega | (simp; done) | (simp; omega)) _))
      have z_w2 := B_w2.size
      clear b2 c0_w1 c1_w1 c2_w1
      go_wp2_with fail
      refine (HF.out _ (HA1.out.below B_w2)).mono ?_
      rintro e w3 ⟨rfl, b3⟩
      have B_w3 : Below w1.heap.size w1 w3 := (by repeat (first | exact Below.refl _ _ | refine below_step (by assumption) (by first | omega | (simp; done) | (simp; omega)) ?_ | refine below_drewN ?_ _ | refine Below.drew ?_ | refine Below.setCell ?_ (by first | omega | (simp; done) | (simp; omega)) _ | refine Below.alloc ?_ (by first | omega | (simp; done) | (simp; omega)) _))
      clear b3
      go_wp2_with fail
      go_ret
      exact ⟨int_ans (by rw [HV.out]; rfl), BW1.out.trans (B_w3.mono BW1.out.size)⟩

end Go.Proofs.Ytgnehihnkkoneaa

namespace Go.Proofs.Ytgnehihnkkoneaa
open Go.RowKit
set_option linter.unusedVariables false
set_option linter.unusedSimpArgs false

theorem own_empV {W : World} {B s : Nat} {t : TypeId} (b : Nat) (hB : B ≤ b) (h : W.heap[b]? = some (.cells #[] t (0, 0))) : W.ownsRow B t s (.slice (some ⟨b, 0, none⟩) 0 0) 0 [] :=
  ⟨by simp, .inr ⟨b, 0, #[], rfl, hB, h, Nat.le_refl _, Nat.zero_le _, by simp, by simp⟩⟩
theorem heap_newV (w : World) (o : Obj) (g : Nat) (h : g = w.heap.size) : (w.alloc o).heap[g]? = some o := by rw [h]; exact heap_alloc_new w o
theorem one_c1V (a : Int) : ∀ u ∈ [Value.int .i64 a], u.oneCell' = true := fun u hu => by simp at hu; subst hu; rfl
theorem chR_no {s : GS} (h : shR s = false) : chR s = [] := by unfold chR; rw [if_neg (by rw [h]; simp)]
theorem chR_yes {s : GS} (h : shR s = true) : chR s = chJ s s.ns.length := by unfold chR; rw [if_pos h]
theorem chJ_next (s : GS) (j : Nat) : chJ s (j + 1) = chJ s j ++ (if 0 < j ∧ freR s.ts j < 0 then [(j : Int)] else []) := rfl
theorem chR_len (s : GS) : (chR s).length ≤ 7 := by
  cases h : shR s with
  | false => rw [chR_no h]; simp
  | true => rw [chR_yes h]; have := chJ_len s s.ns.length; have := (shR_rng h).2.1; omega

set_option maxRecDepth 100000 in
set_option maxHeartbeats 8000000 in
theorem spec_ChosenNodes (s : GS) (A : Option Addr) (k c : Nat) (B : Option Addr) (m d : Nat) (w : World) (hs : ShB s) (ha : ShowAt w s A k B m) :
    Calls Try.prog 29 #[shV A k c B m d s.h] w fun e w' => ∃ C q cb, e = .returned (.slice C q cb) ∧ q = (chR s).length ∧ w'.ownsRow w.heap.size 3 1 (.slice C q cb) q ((chR s).map intV) ∧ Below w.heap.size w w' := by
  obtain ⟨i1, hii, hy0, hy1, hy2⟩ := info_parts Try.info3
  have hmm : m ≤ 1048576 := by have := hs.ts; have := ha.lt; omega
  have HN := Lib.hid (fun W h => spec_ShowOk s A k c B m d W hs h)
  have HF := Lib.hid (fun x W h => spec_l08Free s x A k c B m d W hmm h)
  have HLN := Lib.hid ha.ln
  have HA := Lib.hid ha
  have hh : ∃ h, h = s.h := ⟨_, rfl⟩
  obtain ⟨w1, hw1⟩ : ∃ W, W = w.alloc (.cells #[.slice A k c, .slice B m d, .int .i64 s.h] 40) := ⟨_, rfl⟩
  have B_w1 : Below w.heap.size w w1 := by rw [hw1]; exact (Below.refl _ _).alloc (Nat.le_refl _) _
  have z_w1 : w.heap.size < w1.heap.size := by rw [hw1]; simp
  have c0_w1 : w1.cell? ⟨w.heap.size, 0, none⟩ = some (.slice A k c) := by rw [hw1]; go_simp
  have c1_w1 : w1.cell? ⟨w.heap.size, 1, none⟩ = some (.slice B m d) := by rw [hw1]; go_simp
  have c2_w1 : w1.cell? ⟨w.heap.size, 2, none⟩ = some (.int .i64 s.h) := by rw [hw1]; go_simp
  have HA1 := Lib.hid (ha.below B_w1)
  have BW1 := Lib.hid B_w1
  have HW1 := Lib.hid hw1
  clear ha hh hw1 B_w1
  unfold shV at HN HF ⊢
  obtain ⟨h, hh⟩ : ∃ h, h = s.h := ⟨_, rfl⟩
  rw [← hh] at HN HF HW1 c2_w1 ⊢
  clear hh
  obtain ⟨b1, hb1⟩ : ∃ b, b = shR s := ⟨_, rfl⟩
  rw [← hb1] at HN
  have HSH := Lib.hid hb1.symm
  clear hb1
  have ZW1 : Hid (w1.heap.size = w.heap.size + 1) := Lib.hid (by rw [HW1.out]; simp)
  obtain ⟨wa, hwa⟩ : ∃ W, W = w1.alloc (.cells #[] 3) := ⟨_, rfl⟩
  have ba : Below w1.heap.size w1 wa := by rw [hwa]; exact (Below.refl _ _).alloc (Nat.le_refl _) _
  have OA : Hid (wa.ownsRow w1.heap.size 3 1 (.slice (some ⟨w1.heap.size, 0, none⟩) 0 0) 0 []) := Lib.hid (own_empV w1.heap.size (Nat.le_refl _) (by rw [hwa]; exact heap_alloc_new _ _))
  have za := ba.size
  have c0_wa := (ba.cell (p := ⟨w.heap.size, 0, none⟩) z_w1).trans c0_w1
  have c1_wa := (ba.cell (p := ⟨w.heap.size, 1, none⟩) z_w1).trans c1_w1
  have c2_wa := (ba.cell (p := ⟨w.heap.size, 2, none⟩) z_w1).trans c2_w1
  have BA := Lib.hid ba
  have HWA := Lib.hid hwa
  clear hwa ba c0_w1 c1_w1 c2_w1
  go_enter Try.func29, Try.ntmps29
  go_upto_region 2 with (fail)
  rw [← HW1.out, ← HWA.out]
  cases b1 with
  | false =>
    go_wp2_with fail
    refine (HN.out _ (HA1.out.below BA.out)).mono ?_
    rintro e w2 ⟨rfl, b2⟩
    go_wp2_with fail
    go_ret
    exact ⟨none, 0, 0, rfl, by rw [chR_no HSH.out]; rfl, by rw [chR_no HSH.out]; exact World.ownsRow_nil _ _ _ _, BW1.out.trans ((BA.out.trans (b2.mono za)).mono BW1.out.size)⟩
  | true =>
    have hk7 : k ≤ 7 := by have := (shR_rng HSH.out).2.1; have := HLN.out; omega
    go_wp2_with fail
    refine (HN.out _ (HA1.out.below BA.out)).mono ?_
    rintro e w2 ⟨rfl, b2⟩
    have zwa : w.heap.size < wa.heap.size := by omega
    have c0_w2 := (b2.cell (p := ⟨w.heap.size, 0, none⟩) zwa).trans c0_wa
    have c1_w2 := (b2.cell (p := ⟨w.heap.size, 1, none⟩) zwa).trans c1_wa
    have c2_w2 := (b2.cell (p := ⟨w.heap.size, 2, none⟩) zwa).trans c2_wa
    have O2 := Lib.hid (own_below OA.out b2)
    have B2 := Lib.hid (BA.out.trans (b2.mono za))
    have z2 := b2.size
    clear b2 c0_wa c1_wa c2_wa
    go_wp2_with fail
    clear c0_w2 c1_w2 c2_w2
    go_loopw [12, 3] (fun i q wr => ∃ (j p : Nat) (C : Option Addr) (cb : Nat), j ≤ k ∧ i = .int .i64 j ∧ q = .slice C p cb ∧ p = (chJ s j).length ∧ wr.ownsRow w1.heap.size 3 1 (.slice C p cb) p ((chJ s j).map intV) ∧ Below w1.heap.size w1 wr ∧ wr.cell? ⟨w.heap.size, 0, none⟩ = some (.slice A k c) ∧ wr.cell? ⟨w.heap.size, 1, none⟩ = some (.slice B m d) ∧ wr.cell? ⟨w.heap.size, 2, none⟩ = some (.int .i64 h)) (fun i _ _ => k - (intOf i).toNat)
    case atStart => exact ⟨0, 0, _, _, Nat.zero_le _, rfl, rfl, rfl, by rw [← ZW1.out]; exact O2.out, B2.out, (B2.out.cell (p := ⟨w.heap.size, 0, none⟩) z_w1).trans (by rw [HW1.out]; go_simp), (B2.out.cell (p := ⟨w.heap.size, 1, none⟩) z_w1).trans (by rw [HW1.out]; go_simp), (B2.out.cell (p := ⟨w.heap.size, 2, none⟩) z_w1).trans (by rw [HW1.out]; go_simp)⟩
    case round =>
      obtain ⟨j, p, C, cb, hj, rfl, rfl, hp, hown, hbw, k0, k1, k2⟩ := hrel
      have HP := Lib.hid hp
      have HO := Lib.hid hown
      have BW := Lib.hid hbw
      have zr := hbw.size
      have HNX := Lib.hid (chJ_next s j)
      have hp8 : p ≤ 8 := by have := chJ_len s j; omega
      have zwr : w.heap.size < wr.heap.size := by omega
      clear hp hown hbw
      by_cases hlt : j < k
      · have hjk : ((j : Int) < (k : Int)) := by omega
        by_cases hj0 : j = 0
        · have hjz : ¬ ((0 : Int) < (j : Int)) := by omega
          have HE : Hid (chJ s (j + 1) = chJ s j) := Lib.hid (by rw [HNX.out, if_neg (by omega), List.append_nil])
          clear hj0
          go_wp2_with fail
          go_roundw
          case rel => exact ⟨j + 1, p, C, cb, by omega, by go_num, rfl, by rw [HE.out]; exact HP.out, by rw [HE.out]; exact HO.out, BW.out, k0, k1, k2⟩
          case measure => simp [intOf]; omega
        · have hjz : ((0 : Int) < (j : Int)) := by omega
          have hfr := fun W hh => HF.out j W hh
          obtain ⟨z, hz⟩ : ∃ z, z = freR s.ts j := ⟨_, rfl⟩
          rw [← hz] at hfr
          have HFR := Lib.hid hfr
          have HZ := Lib.hid hz
          clear hfr hz
          by_cases hneg : z < 0
          · have HE : Hid (chJ s (j + 1) = chJ s j ++ [(j : Int)]) := Lib.hid (by rw [HNX.out, if_pos ⟨by omega, by rw [← HZ.out]; exact hneg⟩])
            go_wp2_with fail
            refine (HFR.out _ (HA1.out.below BW.out)).mono ?_
            rintro e w3 ⟨rfl, b3⟩
            have O3 := Lib.hid (own_below HO.out b3)
            have B3 := Lib.hid (BW.out.trans (b3.mono zr))
            have k03 := (b3.cell (p := ⟨w.heap.size, 0, none⟩) zwr).trans k0
            have k13 := (b3.cell (p := ⟨w.heap.size, 1, none⟩) zwr).trans k1
            have k23 := (b3.cell (p := ⟨w.heap.size, 2, none⟩) zwr).trans k2
            have z3 := B3.out.size
            clear b3 k0 k1 k2
            go_wp2_with (at_builtin; refine wpList_append_lies _ rfl _ _ 22 rfl (w1.heap.size) 3 i1 (.int .i64 0) 1 8 Try.underlying22 hii hy0 hy1 hy2 rfl (by decide) _ _ _ rfl (O3.out.alloc _) ⟨_, 0, none⟩ 1 1 _ rfl rfl (World.news_of_block (heap_newV _ _ _ (by first | rfl | simp))) (one_c1V _) (by decide) (by unfold maxLen; omega) (by omega) (by simp; omega) _ rfl ?_)
            intro g5 cap w6 ho6 hg6 hat6 hl6
            have hb6 : Below w1.heap.size w1 w6 := (B3.out.alloc z3 _).grown hg6 (by simp; omega) (fun r hr => (O3.out.lt r hr).1)
            have hne : ∀ r, (Value.slice C p cb).ownBlock = some r → w.heap.size ≠ r := fun r hr e => by have := (O3.out.lt r hr).1; omega
            have q0 : w6.cell? ⟨w.heap.size, 0, none⟩ = some (.slice A k c) := (hb6.cell (p := ⟨w.heap.size, 0, none⟩) z_w1).trans (by rw [HW1.out]; go_simp)
            have q1 : w6.cell? ⟨w.heap.size, 1, none⟩ = some (.slice B m d) := (hb6.cell (p := ⟨w.heap.size, 1, none⟩) z_w1).trans (by rw [HW1.out]; go_simp)
            have q2 : w6.cell? ⟨w.heap.size, 2, none⟩ = some (.int .i64 h) := (hb6.cell (p := ⟨w.heap.size, 2, none⟩) z_w1).trans (by rw [HW1.out]; go_simp)
            have HO6 := Lib.hid ho6
            clear hg6 hat6 hl6 ho6 k03 k13 k23
            go_wp2_with fail
            go_roundw
            case rel => exact ⟨j + 1, p + 1, some ⟨g5, 0, none⟩, cap, by omega, by go_num, rfl, by rw [HE.out, List.length_append, HP.out]; rfl, by rw [HE.out]; simpa [intV] using HO6.out, hb6, q0, q1, q2⟩
            case measure => simp [intOf]; omega
          · have HE : Hid (chJ s (j + 1) = chJ s j) := Lib.hid (by rw [HNX.out, if_neg (by rw [← HZ.out]; omega), List.append_nil])
            go_wp2_with fail
            refine (HFR.out _ (HA1.out.below BW.out)).mono ?_
            rintro e w3 ⟨rfl, b3⟩
            have O3 := Lib.hid (own_below HO.out b3)
            have B3 := Lib.hid (BW.out.trans (b3.mono zr))
            have k03 := (b3.cell (p := ⟨w.heap.size, 0, none⟩) zwr).trans k0
            have k13 := (b3.cell (p := ⟨w.heap.size, 1, none⟩) zwr).trans k1
            have k23 := (b3.cell (p := ⟨w.heap.size, 2, none⟩) zwr).trans k2
            clear b3 k0 k1 k2
            go_wp2_with fail
            go_roundw
            case rel => exact ⟨j + 1, p, C, cb, by omega, by go_num, rfl, by rw [HE.out]; exact HP.out, by rw [HE.out]; exact O3.out, B3.out, k03, k13, k23⟩
            case measure => simp [intOf]; omega
      · have hjk : ¬ ((j : Int) < (k : Int)) := by omega
        have HFIN : Hid (chR s = chJ s j) := Lib.hid (by rw [chR_yes HSH.out, HLN.out, show j = k from by omega])
        go_wp2_with fail
        go_ret
        exact ⟨C, p, cb, rfl, by rw [HFIN.out]; exact HP.out, by rw [HFIN.out]; exact own_base HO.out (by omega), BW1.out.trans (BW.out.mono BW1.out.size)⟩

end Go.Proofs.Ytgnehihnkkoneaa

namespace Go.Proofs.Ytgnehihnkkoneaa
open Go.RowKit
set_option linter.unusedVariables false
set_option linter.unusedSimpArgs false

theorem bytes_nsame {a b : ByteArray} (h : a = b) : (a.toList != b.toList) = false := by rw [h]; simp
theorem bytes_nother {a b : ByteArray} (h : ¬ a = b) : (a.toList != b.toList) = true := by
  have := bytes_otherP h
  rw [bne, this]; rfl

set_option maxRecDepth 100000 in
set_option maxHeartbeats 16000000 in
theorem spec_SameShows (a b : GS) (A : Option Addr) (k c : Nat) (B : Option Addr) (m d : Nat) (A2 : Option Addr) (k2 c2 : Nat) (B2 : Option Addr) (m2 d2 : Nat) (w : World) (hs : ShB a) (hs2 : ShB b) (ha : ShowAt w a A k B m) (hb : ShowAt w b A2 k2 B2 m2) :
    Calls Try.prog 35 #[shV A k c B m d a.h, shV A2 k2 c2 B2 m2 d2 b.h] w fun e w' => e = .returned (.bool (smR a b)) ∧ Below w.heap.size w w' := by
  have hkk : k ≤ 1048576 := by have := hs.ns; have := ha.ln; omega
  have hmm : m ≤ 1048576 := by have := hs.ts; have := ha.lt; omega
  have HLN := Lib.hid ha.ln
  have HLT := Lib.hid ha.lt
  have HLN2 := Lib.hid hb.ln
  have HLT2 := Lib.hid hb.lt
  have HEACH := Lib.hid hs.each
  have HEACH2 := Lib.hid hs2.each
  have HV : Hid (smR a b = (decide (k = k2 ∧ m = m2 ∧ a.h = b.h) && (allJ (fun i => nodE (a.ns[i]?.getD gN0) (b.ns[i]?.getD gN0)) k && allJ (fun i => tieE (a.ts[i]?.getD gT0) (b.ts[i]?.getD gT0)) m))) := Lib.hid (by unfold smR; rw [ha.ln, ha.lt, hb.ln, hb.lt])
  obtain ⟨x, hx⟩ : ∃ h, h = a.h := ⟨_, rfl⟩
  obtain ⟨y, hy⟩ : ∃ h, h = b.h := ⟨_, rfl⟩
  rw [← hx, ← hy] at HV
  rw [← hx, ← hy]
  unfold shV
  obtain ⟨w1, hw1⟩ : ∃ W, W = (w.alloc (.cells #[.slice A k c, .slice B m d, .int .i64 x] 40)).alloc (.cells #[.slice A2 k2 c2, .slice B2 m2 d2, .int .i64 y] 40) := ⟨_, rfl⟩
  have B_w1 : Below w.heap.size w w1 := by rw [hw1]; exact (by repeat (first | exact Below.refl _ _ | refine below_step (by assumption) (by first | omega | (simp; done) | (simp; omega)) ?_ | refine below_drewN ?_ _ | refine Below.drew ?_ | refine Below.setCell ?_ (by first | omega | (simp; done) | (simp; omega)) _ | refine Below.alloc ?_ (by first | omega | (simp; done) | (simp; omega)) _))
  have z_w1 : w.heap.size + 1 < w1.heap.size := by rw [hw1]; simp
  have c0_w1 : w1.cell? ⟨w.heap.size, 0, none⟩ = some (.slice A k c) := by rw [hw1]; go_simp
  have c1_w1 : w1.cell? ⟨w.heap.size, 1, none⟩ = some (.slice B m d) := by rw [hw1]; go_simp
  have c2_w1 : w1.cell? ⟨w.heap.size, 2, none⟩ = some (.int .i64 x) := by rw [hw1]; go_simp
  have c3_w1 : w1.cell? ⟨w.heap.size + 1, 0, none⟩ = some (.slice A2 k2 c2) := by rw [hw1]; go_simp
  have c4_w1 : w1.cell? ⟨w.heap.size + 1, 1, none⟩ = some (.slice B2 m2 d2) := by rw [hw1]; go_simp
  have c5_w1 : w1.cell? ⟨w.heap.size + 1, 2, none⟩ = some (.int .i64 y) := by rw [hw1]; go_simp
  have HA := Lib.hid (ha.below B_w1)
  have HB := Lib.hid (hb.below B_w1)
  have BW1 := Lib.hid B_w1
  have HW1 := Lib.hid hw1
  clear ha hb hs hs2 hx hy hw1 B_w1
  go_enter Try.func35, Try.ntmps35
  go_upto_region 1 with (fail)
  rw [← HW1.out]
  by_cases hk : k = k2
  · by_cases hm : m = m2
    · by_cases hxy : x = y
      · have t1 : ((k : Int) != (k2 : Int)) = false := by simp [hk]
        have t2 : ((m : Int) != (m2 : Int)) = false := by simp [hm]
        have t3 : (x != y) = false := by simp [hxy]
        have HD := Lib.hid (decide_eq_true (show k = k2 ∧ m = m2 ∧ x = y from ⟨hk, hm, hxy⟩))
        have HKK := Lib.hid hk
        have HMM := Lib.hid hm
        clear hk hm hxy
        go_wp2_with fail
        clear t1 t2 t3
        go_loopw [36] (fun i wr => ∃ j : Nat, j ≤ k ∧ i = .int .i64 j ∧ allJ (fun i => nodE (a.ns[i]?.getD gN0) (b.ns[i]?.getD gN0)) j = true ∧ Below w1.heap.size w1 wr) (fun i _ => k - (intOf i).toNat)
        case atStart => exact ⟨0, Nat.zero_le _, rfl, rfl, Below.refl _ _⟩
        case round =>
          obtain ⟨j, hj, rfl, hall, hbw⟩ := hrel
          have HALL := Lib.hid hall
          have BW := Lib.hid hbw
          have zr := hbw.size
          have zw0 : w.heap.size + 1 < wr.heap.size := Nat.lt_of_lt_of_le z_w1 zr
          have k0 := (hbw.cell (p := ⟨w.heap.size, 0, none⟩) (by dsimp only; omega)).trans c0_w1
          have k1 := (hbw.cell (p := ⟨w.heap.size, 1, none⟩) (by dsimp only; omega)).trans c1_w1
          have k3 := (hbw.cell (p := ⟨w.heap.size + 1, 0, none⟩) (by dsimp only; omega)).trans c3_w1
          have k4 := (hbw.cell (p := ⟨w.heap.size + 1, 1, none⟩) (by dsimp only; omega)).trans c4_w1
          clear hall
          by_cases hlt : j < k
          · have hjk : ((j : Int) < (k : Int)) := by omega
            have hjk2 : ((j : Int) < (k2 : Int)) := by have := HKK.out; omega
            have hj0 : (0 : Int) ≤ (j : Int) := by omega
            obtain ⟨e, he⟩ : ∃ f, a.ns[j]? = some f := ⟨_, List.getElem?_eq_getElem (by have := HLN.out; omega)⟩
            obtain ⟨f, hf⟩ : ∃ f, b.ns[j]? = some f := ⟨_, List.getElem?_eq_getElem (by have := HLN2.out; have := HKK.out; omega)⟩
            obtain ⟨g, o, L, cl, rfl, hg, d0, d1, dd2, hrow⟩ := node_facts HA.out.nodes he
            obtain ⟨g', o', L', cl', rfl, hg', e0, e1, e2, hrow'⟩ := node_facts HB.out.nodes hf
            have hem := (HEACH.out e (List.mem_of_getElem? he)).2
            have hfm := (HEACH2.out f (List.mem_of_getElem? hf)).2
            obtain ⟨q, hq⟩ : ∃ q, q = e.lab.length := ⟨_, rfl⟩
            obtain ⟨q', hq'⟩ : ∃ q, q = f.lab.length := ⟨_, rfl⟩
            rw [← hq] at d1 hem
            rw [← hq'] at e1 hfm
            have m0 := (hbw.cell (p := ⟨g, o + j * 3, none⟩) hg).trans d0
            have m1 := (hbw.cell (p := ⟨g, o + j * 3 + 1, none⟩) hg).trans d1
            have m22 := (hbw.cell (p := ⟨g, o + j * 3 + 2, none⟩) hg).trans dd2
            have n0 := (hbw.cell (p := ⟨g', o' + j * 3, none⟩) hg').trans e0
            have n1 := (hbw.cell (p := ⟨g', o' + j * 3 + 1, none⟩) hg').trans e1
            have n2 := (hbw.cell (p := ⟨g', o' + j * 3 + 2, none⟩) hg').trans e2
            have hg2 : g < wr.heap.size := Nat.lt_of_lt_of_le hg zr
            have hg3 : g' < wr.heap.size := Nat.lt_of_lt_of_le hg' zr
            have u1 : (g' = wr.heap.size) = False := eq_false (by omega)
            have u2 : (wr.heap.size = g') = False := eq_false (by omega)
            have u3 : (w.heap.size + 1 = wr.heap.size) = False := eq_false (by omega)
            have u4 : (wr.heap.size = w.heap.size + 1) = False := eq_false (by omega)
            have HSM := Lib.hid (fun W h1 h2 => same_below e.lab f.lab L q cl L' q' cl' W hq.symm hem hq'.symm hfm h1 h2)
            have HR1 := Lib.hid (hrow.below hbw)
            have HR2 := Lib.hid (hrow'.below hbw)
            have HNE : Hid (nodE (a.ns[j]?.getD gN0) (b.ns[j]?.getD gN0) = (decide (e.name = f.name) && (decide (e.wat = f.wat) && decide (e.lab = f.lab)))) := Lib.hid (by rw [he, hf]; rfl)
            have HBAD : Hid (nodE (a.ns[j]?.getD gN0) (b.ns[j]?.getD gN0) = false → smR a b = false) := Lib.hid (fun hz => by rw [HV.out, allJ_no (f := fun i => nodE (a.ns[i]?.getD gN0) (b.ns[i]?.getD gN0)) (j := j + 1) (by rw [allJ_next, hz, Bool.and_false]) (show j + 1 ≤ k by omega), Bool.false_and, Bool.and_false])
            have HGOOD : Hid (nodE (a.ns[j]?.getD gN0) (b.ns[j]?.getD gN0) = true → allJ (fun i => nodE (a.ns[i]?.getD gN0) (b.ns[i]?.getD gN0)) (j + 1) = true) := Lib.hid (fun hz => by rw [allJ_next, HALL.out, hz]; rfl)
            obtain ⟨sm, hsm⟩ : ∃ t, t = decide (e.lab = f.lab) := ⟨_, rfl⟩
            rw [← hsm] at HSM HNE
            clear he hf d0 d1 dd2 e0 e1 e2 hrow hrow' hq hq' hbw hsm c0_w1 c1_w1 c2_w1 c3_w1 c4_w1 c5_w1
            by_cases hn : e.name = f.name
            · have v1 := bytes_sameP hn
              have v2 := bytes_nsame hn
              have HX := Lib.hid (decide_eq_true hn)
              clear hn
              by_cases hw : e.wat = f.wat
              · have v3 : (e.wat != f.wat) = false := by simp [hw]
                have HY := Lib.hid (decide_eq_true hw)
                clear hw
                go_wp2_with fail
                refine (HSM.out _ (HR1.out.below (by repeat (first | exact Below.refl _ _ | refine below_step (by assumption) (by first | omega | (simp; done) | (simp; omega)) ?_ | refine below_drewN ?_ _ | refine Below.drew ?_ | refine Below.setCell ?_ (by first | omega | (simp; done) | (simp; omega)) _ | refine Below.alloc ?_ (by first | omega | (simp; done) | (simp; omega)) _))) (HR2.out.below (by repeat (first | exact Below.refl _ _ | refine below_step (by assumption) (by first | omega | (simp; done) | (simp; omega)) ?_ | refine below_drewN ?_ _ | refine Below.drew ?_ | refine Below.setCell ?_ (by first | omega | (simp; done) | (simp; omega)) _ | refine Below.alloc ?_ (by first | omega | (simp; done) | (simp; omega)) _)))).mono ?_
                rintro e3 w3 ⟨rfl, b3⟩
                have B3 := Lib.hid (show Below wr.heap.size wr w3 from (by repeat (first | exact Below.refl _ _ | refine below_step (by assumption) (by first | omega | (simp; done) | (simp; omega)) ?_ | refine below_drewN ?_ _ | refine Below.drew ?_ | refine Below.setCell ?_ (by first | omega | (simp; done) | (simp; omega)) _ | refine Below.alloc ?_ (by first | omega | (simp; done) | (simp; omega)) _)))
                clear b3
                cases sm with
                | false =>
                  go_wp2_with fail
                  go_ret
                  exact ⟨ret_b (HBAD.out (by rw [HNE.out, HX.out, HY.out]; rfl)).symm, BW1.out.trans ((BW.out.trans (B3.out.mono zr)).mono BW1.out.size)⟩
                | true =>
                  go_wp2_with fail
                  go_roundw
                  case rel => exact ⟨j + 1, by omega, by go_num, HGOOD.out (by rw [HNE.out, HX.out, HY.out]; rfl), BW.out.trans (B3.out.mono zr)⟩
                  case measure => simp [intOf]; omega
              · have v3 : (e.wat != f.wat) = true := by simp [hw]
                have HY := Lib.hid (decide_eq_false hw)
                clear hw
                go_wp2_with fail
                go_ret
                exact ⟨ret_b (HBAD.out (by rw [HNE.out, HX.out, HY.out]; rfl)).symm, BW1.out.trans ((BW.out.trans ((show Below wr.heap.size wr _ from (by repeat (first | exact Below.refl _ _ | refine below_step (by assumption) (by first | omega | (simp; done) | (simp; omega)) ?_ | refine below_drewN ?_ _ | refine Below.drew ?_ | refine Below.setCell ?_ (by first | omega | (simp; done) | (simp; omega)) _ | refine Below.alloc ?_ (by first | omega | (simp; done) | (simp; omega)) _))).mono zr)).mono BW1.out.size)⟩
            · have v1 := bytes_otherP hn
              have v2 := bytes_nother hn
              have HX := Lib.hid (decide_eq_false hn)
              clear hn
              go_wp2_with fail
              go_ret
              exact ⟨ret_b (HBAD.out (by rw [HNE.out, HX.out]; rfl)).symm, BW1.out.trans ((BW.out.trans ((show Below wr.heap.size wr _ from (by repeat (first | exact Below.refl _ _ | refine below_step (by assumption) (by first | omega | (simp; done) | (simp; omega)) ?_ | refine below_drewN ?_ _ | refine Below.drew ?_ | refine Below.setCell ?_ (by first | omega | (simp; done) | (simp; omega)) _ | refine Below.alloc ?_ (by first | omega | (simp; done) | (simp; omega)) _))).mono zr)).mono BW1.out.size)⟩
          · have hjk : ¬ ((j : Int) < (k : Int)) := by omega
            have HALLK := Lib.hid (show allJ (fun i => nodE (a.ns[i]?.getD gN0) (b.ns[i]?.getD gN0)) k = true from by rw [show k = j from by omega]; exact HALL.out)
            clear c0_w1 c1_w1 c2_w1 c3_w1 c4_w1 c5_w1 hbw HALL
            rename World => wo
            go_wp2_with fail
            clear k0 k1 hjk
            go_loopw [70] (fun i wr => ∃ j : Nat, j ≤ m ∧ i = .int .i64 j ∧ allJ (fun i => tieE (a.ts[i]?.getD gT0) (b.ts[i]?.getD gT0)) j = true ∧ Below wo.heap.size wo wr) (fun i _ => m - (intOf i).toNat)
            case atStart => exact ⟨0, Nat.zero_le _, rfl, rfl, Below.refl _ _⟩
            case round =>
              obtain ⟨j, hj, rfl, hall, hbw⟩ := hrel
              have HALL := Lib.hid hall
              have BWT := Lib.hid hbw
              have zrt := hbw.size
              have zw1 : w.heap.size + 1 < wr.heap.size := Nat.lt_of_lt_of_le zw0 zrt
              have l3 := (hbw.cell (p := ⟨w.heap.size + 1, 0, none⟩) zw0).trans k3
              have l4 := (hbw.cell (p := ⟨w.heap.size + 1, 1, none⟩) zw0).trans k4
              clear hall
              by_cases hlt : j < m
              · have hjm : ((j : Int) < (m : Int)) := by omega
                have hjm2 : ((j : Int) < (m2 : Int)) := by have := HMM.out; omega
                have hj0 : (0 : Int) ≤ (j : Int) := by omega
                obtain ⟨⟨au, av, al, ah, af⟩, he⟩ : ∃ f, a.ts[j]? = some f := ⟨_, List.getElem?_eq_getElem (by have := HLT.out; omega)⟩
                obtain ⟨⟨bu, bv, bl, bh, bf⟩, hf⟩ : ∃ f, b.ts[j]? = some f := ⟨_, List.getElem?_eq_getElem (by have := HLT2.out; have := HMM.out; omega)⟩
                obtain ⟨g, o, rfl, hg, d0, d1, dd2, d3, d4⟩ := tie_facts (HA.out.ties.below BW.out) he
                obtain ⟨g', o', rfl, hg', e0, e1, e2, e3, e4⟩ := tie_facts (HB.out.ties.below BW.out) hf
                have m0 := (hbw.cell (p := ⟨g, o + j * 5, none⟩) hg).trans d0
                have m1 := (hbw.cell (p := ⟨g, o + j * 5 + 1, none⟩) hg).trans d1
                have m22 := (hbw.cell (p := ⟨g, o + j * 5 + 2, none⟩) hg).trans dd2
                have m3 := (hbw.cell (p := ⟨g, o + j * 5 + 3, none⟩) hg).trans d3
                have m4 := (hbw.cell (p := ⟨g, o + j * 5 + 4, none⟩) hg).trans d4
                have n0 := (hbw.cell (p := ⟨g', o' + j * 5, none⟩) hg').trans e0
                have n1 := (hbw.cell (p := ⟨g', o' + j * 5 + 1, none⟩) hg').trans e1
                have n2 := (hbw.cell (p := ⟨g', o' + j * 5 + 2, none⟩) hg').trans e2
                have n3 := (hbw.cell (p := ⟨g', o' + j * 5 + 3, none⟩) hg').trans e3
                have n4 := (hbw.cell (p := ⟨g', o' + j * 5 + 4, none⟩) hg').trans e4
                have hg2 : g < wr.heap.size := Nat.lt_of_lt_of_le hg zrt
                have hg3 : g' < wr.heap.size := Nat.lt_of_lt_of_le hg' zrt
                have u1 : (g' = wr.heap.size) = False := eq_false (by omega)
                have u2 : (wr.heap.size = g') = False := eq_false (by omega)
                have u3 : (w.heap.size + 1 = wr.heap.size) = False := eq_false (by omega)
                have u4 : (wr.heap.size = w.heap.size + 1) = False := eq_false (by omega)
                have HTE : Hid (tieE (a.ts[j]?.getD gT0) (b.ts[j]?.getD gT0) = (decide (au = bu) && (decide (av = bv) && (decide (al = bl) && (decide (ah = bh) && decide (af = bf)))))) := Lib.hid (by rw [he, hf]; rfl)
                clear he hf d0 d1 dd2 d3 d4 e0 e1 e2 e3 e4 hbw
                have HBT : Hid (tieE (a.ts[j]?.getD gT0) (b.ts[j]?.getD gT0) = false → smR a b = false) := Lib.hid (fun hz => by rw [HV.out, allJ_no (f := fun i => tieE (a.ts[i]?.getD gT0) (b.ts[i]?.getD gT0)) (j := j + 1) (by rw [allJ_next, hz, Bool.and_false]) (show j + 1 ≤ m by omega), Bool.and_false, Bool.and_false])
                have HGT : Hid (tieE (a.ts[j]?.getD gT0) (b.ts[j]?.getD gT0) = true → allJ (fun i => tieE (a.ts[i]?.getD gT0) (b.ts[i]?.getD gT0)) (j + 1) = true) := Lib.hid (fun hz => by rw [allJ_next, HALL.out, hz]; rfl)
                by_cases q0 : au = bu
                · have HQ0 := Lib.hid (decide_eq_true q0)
                  subst q0
                  by_cases q1 : av = bv
                  · have HQ1 := Lib.hid (decide_eq_true q1)
                    subst q1
                    by_cases q2 : al = bl
                    · have HQ2 := Lib.hid (decide_eq_true q2)
                      subst q2
                      by_cases q3 : ah = bh
                      · have HQ3 := Lib.hid (decide_eq_true q3)
                        subst q3
                        by_cases q4 : af = bf
                        · have HQ4 := Lib.hid (decide_eq_true q4)
                          subst q4
                          go_wp2_with fail
                          go_quiet (fail)
                          go_wp2_with fail
                          go_roundw
                          case rel => exact ⟨j + 1, by omega, by go_num, HGT.out (by rw [HTE.out]; simp), BWT.out.trans ((show Below wr.heap.size wr _ from (by repeat (first | exact Below.refl _ _ | refine below_step (by assumption) (by first | omega | (simp; done) | (simp; omega)) ?_ | refine below_drewN ?_ _ | refine Below.drew ?_ | refine Below.setCell ?_ (by first | omega | (simp; done) | (simp; omega)) _ | refine Below.alloc ?_ (by first | omega | (simp; done) | (simp; omega)) _))).mono zrt)⟩
                          case measure => simp [intOf]; omega
                        · have HQ4 := Lib.hid (decide_eq_false q4)
                          go_wp2_with fail
                          go_quiet (fail)
                          go_wp2_with fail
                          go_ret
                          exact ⟨ret_b (HBT.out (by rw [HTE.out, HQ4.out]; simp)).symm, BW1.out.trans ((BW.out.trans ((BWT.out.trans ((show Below wr.heap.size wr _ from (by repeat (first | exact Below.refl _ _ | refine below_step (by assumption) (by first | omega | (simp; done) | (simp; omega)) ?_ | refine below_drewN ?_ _ | refine Below.drew ?_ | refine Below.setCell ?_ (by first | omega | (simp; done) | (simp; omega)) _ | refine Below.alloc ?_ (by first | omega | (simp; done) | (simp; omega)) _))).mono zrt)).mono zr)).mono BW1.out.size)⟩
                      · have HQ3 := Lib.hid (decide_eq_false q3)
                        go_wp2_with fail
                        go_quiet (fail)
                        go_wp2_with fail
                        go_ret
                        exact ⟨ret_b (HBT.out (by rw [HTE.out, HQ3.out]; simp)).symm, BW1.out.trans ((BW.out.trans ((BWT.out.trans ((show Below wr.heap.size wr _ from (by repeat (first | exact Below.refl _ _ | refine below_step (by assumption) (by first | omega | (simp; done) | (simp; omega)) ?_ | refine below_drewN ?_ _ | refine Below.drew ?_ | refine Below.setCell ?_ (by first | omega | (simp; done) | (simp; omega)) _ | refine Below.alloc ?_ (by first | omega | (simp; done) | (simp; omega)) _))).mono zrt)).mono zr)).mono BW1.out.size)⟩
                    · have HQ2 := Lib.hid (decide_eq_false q2)
                      go_wp2_with fail
                      go_quiet (fail)
                      go_wp2_with fail
                      go_ret
                      exact ⟨ret_b (HBT.out (by rw [HTE.out, HQ2.out]; simp)).symm, BW1.out.trans ((BW.out.trans ((BWT.out.trans ((show Below wr.heap.size wr _ from (by repeat (first | exact Below.refl _ _ | refine below_step (by assumption) (by first | omega | (simp; done) | (simp; omega)) ?_ | refine below_drewN ?_ _ | refine Below.drew ?_ | refine Below.setCell ?_ (by first | omega | (simp; done) | (simp; omega)) _ | refine Below.alloc ?_ (by first | omega | (simp; done) | (simp; omega)) _))).mono zrt)).mono zr)).mono BW1.out.size)⟩
                  · have HQ1 := Lib.hid (decide_eq_false q1)
                    go_wp2_with fail
                    go_quiet (fail)
                    go_wp2_with fail
                    go_ret
                    exact ⟨ret_b (HBT.out (by rw [HTE.out, HQ1.out]; simp)).symm, BW1.out.trans ((BW.out.trans ((BWT.out.trans ((show Below wr.heap.size wr _ from (by repeat (first | exact Below.refl _ _ | refine below_step (by assumption) (by first | omega | (simp; done) | (simp; omega)) ?_ | refine below_drewN ?_ _ | refine Below.drew ?_ | refine Below.setCell ?_ (by first | omega | (simp; done) | (simp; omega)) _ | refine Below.alloc ?_ (by first | omega | (simp; done) | (simp; omega)) _))).mono zrt)).mono zr)).mono BW1.out.size)⟩
                · have HQ0 := Lib.hid (decide_eq_false q0)
                  go_wp2_with fail
                  go_quiet (fail)
                  go_wp2_with fail
                  go_ret
                  exact ⟨ret_b (HBT.out (by rw [HTE.out, HQ0.out]; simp)).symm, BW1.out.trans ((BW.out.trans ((BWT.out.trans ((show Below wr.heap.size wr _ from (by repeat (first | exact Below.refl _ _ | refine below_step (by assumption) (by first | omega | (simp; done) | (simp; omega)) ?_ | refine below_drewN ?_ _ | refine Below.drew ?_ | refine Below.setCell ?_ (by first | omega | (simp; done) | (simp; omega)) _ | refine Below.alloc ?_ (by first | omega | (simp; done) | (simp; omega)) _))).mono zrt)).mono zr)).mono BW1.out.size)⟩
              · have hjm : ¬ ((j : Int) < (m : Int)) := by omega
                have HT := Lib.hid (show allJ (fun i => tieE (a.ts[i]?.getD gT0) (b.ts[i]?.getD gT0)) m = true from by rw [show m = j from by omega]; exact HALL.out)
                go_wp2_with fail
                go_ret
                exact ⟨ret_b (by rw [HV.out, HD.out, HALLK.out, HT.out]; rfl), BW1.out.trans ((BW.out.trans (BWT.out.mono zr)).mono BW1.out.size)⟩
      · have t1 : ((k : Int) != (k2 : Int)) = false := by simp [hk]
        have t2 : ((m : Int) != (m2 : Int)) = false := by simp [hm]
        have t3 : (x != y) = true := by simp [hxy]
        have HD := Lib.hid (decide_eq_false (show ¬ (k = k2 ∧ m = m2 ∧ x = y) from fun q => hxy q.2.2))
        clear hk hm hxy
        go_wp2_with fail
        go_ret
        exact ⟨ret_b (by rw [HV.out, HD.out]; rfl), BW1.out⟩
    · have t1 : ((k : Int) != (k2 : Int)) = false := by simp [hk]
      have t2 : ((m : Int) != (m2 : Int)) = true := by simp; omega
      have HD := Lib.hid (decide_eq_false (show ¬ (k = k2 ∧ m = m2 ∧ x = y) from fun q => hm q.2.1))
      clear hk hm
      go_wp2_with fail
      go_ret
      exact ⟨ret_b (by rw [HV.out, HD.out]; rfl), BW1.out⟩
  · have t1 : ((k : Int) != (k2 : Int)) = true := by simp; omega
    have HD := Lib.hid (decide_eq_false (show ¬ (k = k2 ∧ m = m2 ∧ x = y) from fun q => hk q.1))
    clear hk
    go_wp2_with fail
    go_ret
    exact ⟨ret_b (by rw [HV.out, HD.out]; rfl), BW1.out⟩

end Go.Proofs.Ytgnehihnkkoneaa

namespace Go.Proofs.Ytgnehihnkkoneaa
open Go.RowKit
set_option linter.unusedVariables false
set_option linter.unusedSimpArgs false
/-- The least and the greatest of the first elements. -/
def minL (ts : List Int) : Nat → Int
  | 0 => ts[0]?.getD 0
  | j + 1 => if ts[j + 1]?.getD 0 < minL ts j then ts[j + 1]?.getD 0 else minL ts j
def maxL (ts : List Int) : Nat → Int
  | 0 => ts[0]?.getD 0
  | j + 1 => if maxL ts j < ts[j + 1]?.getD 0 then ts[j + 1]?.getD 0 else maxL ts j
theorem minL_iff (ts : List Int) (b : Int) : ∀ j, b ≤ minL ts j ↔ ∀ i, i ≤ j → b ≤ ts[i]?.getD 0
  | 0 => ⟨fun h i hi => by obtain rfl : i = 0 := by omega
                           exact h, fun h => h 0 (Nat.le_refl _)⟩
  | j + 1 => by
    have ih := minL_iff ts b j
    unfold minL
    constructor
    · intro h i hi
      have h1 : b ≤ minL ts j ∧ b ≤ ts[j + 1]?.getD 0 := by split at h <;> omega
      by_cases e : i = j + 1
      · subst e; exact h1.2
      · exact ih.1 h1.1 i (by omega)
    · intro h
      have h1 := ih.2 (fun i hi => h i (by omega))
      have h2 := h (j + 1) (Nat.le_refl _)
      split <;> omega
theorem maxL_iff (ts : List Int) (b : Int) : ∀ j, maxL ts j < b ↔ ∀ i, i ≤ j → ts[i]?.getD 0 < b
  | 0 => ⟨fun h i hi => by obtain rfl : i = 0 := by omega
                           exact h, fun h => h 0 (Nat.le_refl _)⟩
  | j + 1 => by
    have ih := maxL_iff ts b j
    unfold maxL
    constructor
    · intro h i hi
      have h1 : maxL ts j < b ∧ ts[j + 1]?.getD 0 < b := by split at h <;> omega
      by_cases e : i = j + 1
      · subst e; exact h1.2
      · exact ih.1 h1.1 i (by omega)
    · intro h
      have h1 := ih.2 (fun i hi => h i (by omega))
      have h2 := h (j + 1) (Nat.le_refl _)
      split <;> omega

theorem val_form {v : List Int} (hl : v.length = 3) : valR v = (decide (-1 ≤ minL v 2) && decide (maxL v 2 ≤ 1)) := by
  unfold valR
  rw [decide_eq_true hl, Bool.and_true, Bool.eq_iff_iff, List.all_eq_true, Bool.and_eq_true, decide_eq_true_eq, decide_eq_true_eq, minL_iff, show maxL v 2 ≤ 1 ↔ maxL v 2 < 2 from by omega, maxL_iff]
  constructor
  · intro h
    have h3 : ∀ i, i ≤ 2 → -1 ≤ v[i]?.getD 0 ∧ v[i]?.getD 0 ≤ 1 := by
      intro i hi
      have h4 := h (v[i]'(by omega)) (List.getElem_mem _)
      unfold valB at h4
      rw [Bool.and_eq_true, decide_eq_true_eq, decide_eq_true_eq] at h4
      rw [List.getElem?_eq_getElem (by omega)]
      exact h4
    exact ⟨fun i hi => (h3 i hi).1, fun i hi => by have := (h3 i hi).2; omega⟩
  · rintro ⟨h2, h3⟩ x hx
    obtain ⟨i, hi, rfl⟩ := List.getElem_of_mem hx
    have h4 := h2 i (by omega)
    have h5 := h3 i (by omega)
    rw [List.getElem?_eq_getElem hi, Option.getD_some] at h4 h5
    unfold valB
    rw [decide_eq_true h4, decide_eq_true (by omega)]; rfl

end Go.Proofs.Ytgnehihnkkoneaa
