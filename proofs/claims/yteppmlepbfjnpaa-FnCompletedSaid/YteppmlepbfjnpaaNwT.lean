/-
  WALKS of impl.isTimed, impl.BrokenLink and impl.IsSchedule.
-/
import Derived.Test.YteppmlepbfjnpaaNwO
import Derived.Test.YteppmlepbfjnpaaBdSmF
import Derived.Deep.RegionHeld3
import Derived.Deep.CutRange
namespace Go.Proofs.Yteppmlepbfjnpaa
open Go.RowKit
set_option linter.unusedVariables false
set_option linter.unusedSimpArgs false
set_option maxRecDepth 100000 in
set_option maxHeartbeats 8000000 in
theorem impl_isTimed (n : Int) (es : List GL) (A : Option Addr) (k c : Nat) (ts : List Int) (T : Option Addr) (m d : Nat) (w : World) (hn : es.length = k) (hm : k ≤ 1048576) (hl : ts.length = m) (hr : LinkAt w A es) (ht : RowAt w T (ts.map intV)) :
    Calls Try.prog 59 #[grV n A k c, .slice T m d] w fun e w' => e = .returned (.bool (tmR n es ts)) ∧ Below w.heap.size w w' := by
  have HS := Lib.hid (fun W h => impl_SimpleOk n es A k c W hn hm h)
  have HR := Lib.hid hr
  have HT := Lib.hid ht
  have HL := Lib.hid hl
  clear hr hn ht hl
  obtain ⟨ok, hok⟩ : ∃ b, b = okS n es := ⟨_, rfl⟩
  rw [← hok] at HS
  have HO := Lib.hid hok.symm
  clear hok
  unfold grV at HS ⊢
  cases ok with
  | false =>
    go_enter Try.func59, Try.ntmps59
    go_wp2_with fail
    refine (HS.out _ (HR.out.below (by repeat (first | exact Below.refl _ _ | refine below_step (by assumption) (by first | omega | (simp; done) | (simp; omega)) ?_ | refine below_drewN ?_ _ | refine Below.drew ?_ | refine Below.setCell ?_ (by first | omega | (simp; done) | (simp; omega)) _ | refine Below.alloc ?_ (by first | omega | (simp; done) | (simp; omega)) _)))).mono ?_
    rintro e w1 ⟨rfl, b1⟩
    go_wp2_with fail
    go_ret
    exact ⟨ret_b (by unfold tmR; rw [HO.out]; rfl), (by repeat (first | exact Below.refl _ _ | refine below_step (by assumption) (by first | omega | (simp; done) | (simp; omega)) ?_ | refine below_drewN ?_ _ | refine Below.drew ?_ | refine Below.setCell ?_ (by first | omega | (simp; done) | (simp; omega)) _ | refine Below.alloc ?_ (by first | omega | (simp; done) | (simp; omega)) _))⟩
  | true =>
    by_cases hmn : (m : Int) = n
    · have hne : ((m : Int) != n) = false := by simp [hmn]
      have hm8 : m ≤ 8 := by have := okS_rng HO.out; omega
      go_enter Try.func59, Try.ntmps59
      go_wp2_with fail
      refine (HS.out _ (HR.out.below (by repeat (first | exact Below.refl _ _ | refine below_step (by assumption) (by first | omega | (simp; done) | (simp; omega)) ?_ | refine below_drewN ?_ _ | refine Below.drew ?_ | refine Below.setCell ?_ (by first | omega | (simp; done) | (simp; omega)) _ | refine Below.alloc ?_ (by first | omega | (simp; done) | (simp; omega)) _)))).mono ?_
      rintro e w1 ⟨rfl, b1⟩
      have c0_w1 : w1.cell? ⟨w.heap.size, 0, none⟩ = some (.int .i64 n) := (b1.cell (p := ⟨w.heap.size, 0, none⟩) (by first | omega | (simp; done) | (simp; omega))).trans (by first | assumption | go_simp)
      have c1_w1 : w1.cell? ⟨w.heap.size, 1, none⟩ = some (.slice A k c) := (b1.cell (p := ⟨w.heap.size, 1, none⟩) (by first | omega | (simp; done) | (simp; omega))).trans (by first | assumption | go_simp)
      have s0_w1 : w.heap.size < w1.heap.size := Nat.lt_of_lt_of_le (by first | omega | (simp; done) | (simp; omega)) b1.size
      have B1 : Below w.heap.size w w1 := (by repeat (first | exact Below.refl _ _ | refine below_step (by assumption) (by first | omega | (simp; done) | (simp; omega)) ?_ | refine below_drewN ?_ _ | refine Below.drew ?_ | refine Below.setCell ?_ (by first | omega | (simp; done) | (simp; omega)) _ | refine Below.alloc ?_ (by first | omega | (simp; done) | (simp; omega)) _))
      clear b1
      go_wp2_with fail
      go_loopw [19] (fun i wr => ∃ j : Nat, j ≤ m ∧ i = .int .i64 j ∧ (ts.take j).all inB = true ∧ wr = w1) (fun i _ => m - (intOf i).toNat)
      case atStart => exact ⟨0, Nat.zero_le _, rfl, rfl, rfl⟩
      case round =>
        obtain ⟨j, hj, rfl, hall, rfl⟩ := hrel
        have HA := Lib.hid hall
        clear hall
        by_cases hlt : j < m
        · obtain ⟨g, o, rfl, hg, hc⟩ := row_get (HT.out.below B1) (q := j) (by have := HL.out; omega)
          have HK1 := Lib.hid (allI_take_of ts j (by have := HL.out; omega) HA.out)
          have HK2 := Lib.hid (tmR_not (n := n) (es := es) (ts := ts) (k := j) (by have := HL.out; omega))
          obtain ⟨x, hx⟩ : ∃ x, x = ts[j]'(by have := HL.out; omega) := ⟨_, rfl⟩
          rw [← hx] at hc HK1 HK2
          have h0 := impl_ClampBound x
          obtain ⟨b, hbb⟩ : ∃ b, b = inB x := ⟨_, rfl⟩
          obtain ⟨y, hy⟩ : ∃ y, y = clampI x := ⟨_, rfl⟩
          have hne : (x != y) = !b := by rw [hbb, hy]; unfold inB clampI; rw [Bool.eq_iff_iff]; simp; (repeat' split) <;> omega
          rw [← hbb] at HK1 HK2
          rw [← hy] at h0
          have H0 := Lib.hid h0
          clear h0 hbb hx hy
          cases b with
          | false =>
            have hx1 : (x != y) = true := by simpa using hne
            clear hne
            go_wp2_with fail
            refine (H0.out _).mono ?_
            rintro e w2 ⟨rfl, rfl⟩
            go_wp2_with fail
            go_ret
            exact ⟨ret_b (HK2.out (by simp)).symm, B1⟩
          | true =>
            have hx1 : (x != y) = false := by simpa using hne
            clear hne
            go_wp2_with fail
            refine (H0.out _).mono ?_
            rintro e w2 ⟨rfl, rfl⟩
            go_wp2_with fail
            go_roundw
            case rel => exact ⟨j + 1, by omega, by go_num, HK1.out (by simp), by first | rfl | trivial⟩
            case measure => simp [intOf]; omega
        · go_wp2_with fail
          go_ret
          have hl := HL.out
          exact ⟨ret_b (tmR_yes HO.out (by omega) (by have := HA.out; rw [show j = ts.length from by omega] at this; exact this)).symm, B1⟩
    · have hne : ((m : Int) != n) = true := by simp [hmn]
      go_enter Try.func59, Try.ntmps59
      go_wp2_with fail
      refine (HS.out _ (HR.out.below (by repeat (first | exact Below.refl _ _ | refine below_step (by assumption) (by first | omega | (simp; done) | (simp; omega)) ?_ | refine below_drewN ?_ _ | refine Below.drew ?_ | refine Below.setCell ?_ (by first | omega | (simp; done) | (simp; omega)) _ | refine Below.alloc ?_ (by first | omega | (simp; done) | (simp; omega)) _)))).mono ?_
      rintro e w1 ⟨rfl, b1⟩
      have c0_w1 : w1.cell? ⟨w.heap.size, 0, none⟩ = some (.int .i64 n) := (b1.cell (p := ⟨w.heap.size, 0, none⟩) (by first | omega | (simp; done) | (simp; omega))).trans (by first | assumption | go_simp)
      have c1_w1 : w1.cell? ⟨w.heap.size, 1, none⟩ = some (.slice A k c) := (b1.cell (p := ⟨w.heap.size, 1, none⟩) (by first | omega | (simp; done) | (simp; omega))).trans (by first | assumption | go_simp)
      have s0_w1 : w.heap.size < w1.heap.size := Nat.lt_of_lt_of_le (by first | omega | (simp; done) | (simp; omega)) b1.size
      go_wp2_with fail
      go_ret
      exact ⟨ret_b (by have := HL.out; unfold tmR; rw [HO.out, decide_eq_false (by omega)]; rfl), (by repeat (first | exact Below.refl _ _ | refine below_step (by assumption) (by first | omega | (simp; done) | (simp; omega)) ?_ | refine below_drewN ?_ _ | refine Below.drew ?_ | refine Below.setCell ?_ (by first | omega | (simp; done) | (simp; omega)) _ | refine Below.alloc ?_ (by first | omega | (simp; done) | (simp; omega)) _))⟩

set_option maxRecDepth 100000 in
set_option maxHeartbeats 8000000 in
theorem impl_BrokenLink (n : Int) (es : List GL) (A : Option Addr) (k c : Nat) (ts : List Int) (T : Option Addr) (m d : Nat) (w : World) (hn : es.length = k) (hm : k ≤ 1048576) (hl : ts.length = m) (hr : LinkAt w A es) (ht : RowAt w T (ts.map intV)) :
    Calls Try.prog 62 #[grV n A k c, .slice T m d] w fun e w' => e = .returned (.int .i64 (brR n es ts)) ∧ Below w.heap.size w w' := by
  have HS := Lib.hid (fun W h h2 => impl_isTimed n es A k c ts T m d W hn hm hl h h2)
  have HR := Lib.hid hr
  have HT := Lib.hid ht
  have HL := Lib.hid hl
  have HN := Lib.hid hn
  clear hr hn ht hl
  obtain ⟨ok, hok⟩ : ∃ b, b = tmR n es ts := ⟨_, rfl⟩
  rw [← hok] at HS
  have HO := Lib.hid hok.symm
  clear hok
  unfold grV at HS ⊢
  cases ok with
  | false =>
    go_enter Try.func62, Try.ntmps62
    go_wp2_with fail
    refine (HS.out _ (HR.out.below (by repeat (first | exact Below.refl _ _ | refine below_step (by assumption) (by first | omega | (simp; done) | (simp; omega)) ?_ | refine below_drewN ?_ _ | refine Below.drew ?_ | refine Below.setCell ?_ (by first | omega | (simp; done) | (simp; omega)) _ | refine Below.alloc ?_ (by first | omega | (simp; done) | (simp; omega)) _))) (HT.out.below (by repeat (first | exact Below.refl _ _ | refine below_step (by assumption) (by first | omega | (simp; done) | (simp; omega)) ?_ | refine below_drewN ?_ _ | refine Below.drew ?_ | refine Below.setCell ?_ (by first | omega | (simp; done) | (simp; omega)) _ | refine Below.alloc ?_ (by first | omega | (simp; done) | (simp; omega)) _)))).mono ?_
    rintro e w1 ⟨rfl, b1⟩
    go_wp2_with fail
    go_ret
    exact ⟨int_ans (by unfold brR; rw [HO.out]; rfl), (by repeat (first | exact Below.refl _ _ | refine below_step (by assumption) (by first | omega | (simp; done) | (simp; omega)) ?_ | refine below_drewN ?_ _ | refine Below.drew ?_ | refine Below.setCell ?_ (by first | omega | (simp; done) | (simp; omega)) _ | refine Below.alloc ?_ (by first | omega | (simp; done) | (simp; omega)) _))⟩
  | true =>
    have hbr : brR n es ts = brJ es ts := by unfold brR; rw [if_pos HO.out]
    rw [hbr]
    clear hbr
    obtain ⟨hok, hln, hrg⟩ := tmR_ok HO.out
    have HOK := Lib.hid hok
    have HLN := Lib.hid hln
    have HRG := Lib.hid hrg
    have hk40 : k ≤ 40 := by have := okS_rng hok; have := HN.out; omega
    clear hok hln hrg
    go_enter Try.func62, Try.ntmps62
    go_wp2_with fail
    refine (HS.out _ (HR.out.below (by repeat (first | exact Below.refl _ _ | refine below_step (by assumption) (by first | omega | (simp; done) | (simp; omega)) ?_ | refine below_drewN ?_ _ | refine Below.drew ?_ | refine Below.setCell ?_ (by first | omega | (simp; done) | (simp; omega)) _ | refine Below.alloc ?_ (by first | omega | (simp; done) | (simp; omega)) _))) (HT.out.below (by repeat (first | exact Below.refl _ _ | refine below_step (by assumption) (by first | omega | (simp; done) | (simp; omega)) ?_ | refine below_drewN ?_ _ | refine Below.drew ?_ | refine Below.setCell ?_ (by first | omega | (simp; done) | (simp; omega)) _ | refine Below.alloc ?_ (by first | omega | (simp; done) | (simp; omega)) _)))).mono ?_
    rintro e w1 ⟨rfl, b1⟩
    have c0_w1 : w1.cell? ⟨w.heap.size, 0, none⟩ = some (.int .i64 n) := (b1.cell (p := ⟨w.heap.size, 0, none⟩) (by first | omega | (simp; done) | (simp; omega))).trans (by first | assumption | go_simp)
    have c1_w1 : w1.cell? ⟨w.heap.size, 1, none⟩ = some (.slice A k c) := (b1.cell (p := ⟨w.heap.size, 1, none⟩) (by first | omega | (simp; done) | (simp; omega))).trans (by first | assumption | go_simp)
    have s0_w1 : w.heap.size < w1.heap.size := Nat.lt_of_lt_of_le (by first | omega | (simp; done) | (simp; omega)) b1.size
    have B1 : Below w.heap.size w w1 := (by repeat (first | exact Below.refl _ _ | refine below_step (by assumption) (by first | omega | (simp; done) | (simp; omega)) ?_ | refine below_drewN ?_ _ | refine Below.drew ?_ | refine Below.setCell ?_ (by first | omega | (simp; done) | (simp; omega)) _ | refine Below.alloc ?_ (by first | omega | (simp; done) | (simp; omega)) _))
    have HT1 := Lib.hid (HT.out.below B1)
    clear b1
    go_wp2_with fail
    go_loopw [14] (fun i wr => ∃ j : Nat, j ≤ k ∧ i = .int .i64 j ∧ (es.take j).all (holdsL ts) = true ∧ Below w1.heap.size w1 wr) (fun i _ => k - (intOf i).toNat)
    case atStart => exact ⟨0, Nat.zero_le _, rfl, rfl, Below.refl _ _⟩
    case round =>
      obtain ⟨j, hj, rfl, hall, hbw⟩ := hrel
      have HA := Lib.hid hall
      clear hall
      by_cases hlt : j < k
      · have hl := HN.out
        have hbww := B1.trans (hbw.mono B1.size)
        obtain ⟨g, o, rfl, hg, hc⟩ := (HR.out.below hbww) (by omega)
        obtain ⟨c0, c1, c2, c3⟩ := hc j (by omega)
        have hlk := okS_link HOK.out (List.getElem_mem (show j < es.length by omega))
        have HK1 := Lib.hid (allH_take_of es ts j (by omega) HA.out)
        have HK2 := Lib.hid (brJ_at (ts := ts) (show j < es.length by omega) HA.out)
        obtain ⟨e, he⟩ : ∃ e, e = es[j]'(by omega) := ⟨_, rfl⟩
        rw [← he] at c0 c1 c2 c3 hlk HK1 HK2
        obtain ⟨u, v, lo, hi⟩ := e
        obtain ⟨⟨hu0, hun⟩, ⟨hv0, hvn⟩, _⟩ := hlk
        dsimp only at c0 c1 c2 c3 hu0 hun hv0 hvn
        obtain ⟨x, rfl⟩ : ∃ x : Nat, u = x := ⟨u.toNat, by omega⟩
        obtain ⟨y, rfl⟩ : ∃ y : Nat, v = y := ⟨v.toNat, by omega⟩
        have hlm := HL.out
        have hln := HLN.out
        have hx : x < ts.length := by omega
        have hy : y < ts.length := by omega
        obtain ⟨g2, o2, hT2, hg2, x1⟩ := row_get (HT1.out.below hbw) hx
        obtain ⟨g3, o3, hT3, hg3, x2⟩ := row_get (HT1.out.below hbw) hy
        rw [hT2] at hT3
        injection hT3 with hT3
        injection hT3 with h4 h5
        subst h4 h5 hT2
        have ra := HRG.out ts[x] (List.getElem_mem _)
        have rb := HRG.out ts[y] (List.getElem_mem _)
        have hho : holdsL ts ⟨(x : Int), (y : Int), lo, hi⟩ = inI lo hi (ts[y] - ts[x]) := by unfold holdsL; dsimp only; simp [List.getElem?_eq_getElem hx, List.getElem?_eq_getElem hy]
        obtain ⟨p, hp⟩ : ∃ p, p = ts[x] := ⟨_, rfl⟩
        obtain ⟨q, hq⟩ : ∃ q, q = ts[y] := ⟨_, rfl⟩
        rw [← hp] at x1 ra
        rw [← hq] at x2 rb
        rw [← hp, ← hq] at hho
        have hwp : IntKind.i64.wrap (q - p) = q - p := (IntWalk.i64_left _).trans (by unfold wrap64; omega)
        have b1x : (0 : Int) ≤ (x : Int) := by omega
        have b2x : (x : Int) < (m : Int) := by omega
        have b1y : (0 : Int) ≤ (y : Int) := by omega
        have b2y : (y : Int) < (m : Int) := by omega
        have ng2 : (g = wr.heap.size) = False := eq_false (by omega)
        have ng3 : (g2 = wr.heap.size) = False := eq_false (by omega)
        obtain ⟨b, hb⟩ : ∃ b, b = inI lo hi (q - p) := ⟨_, rfl⟩
        rw [hho, ← hb] at HK1 HK2
        have hcc := impl_Contains lo hi (q - p)
        rw [← hb] at hcc
        unfold ivV at hcc
        have HC := Lib.hid hcc
        have HB := Lib.hid hbww
        clear hc he hl hu0 hun hv0 hvn hlm hln hx hy ra rb hho hp hq hb hcc hbww
        obtain ⟨wa, hwa⟩ : ∃ W, W = wr.alloc (.cells #[.int .i64 x, .int .i64 y, .int .i64 lo, .int .i64 hi] 76) := ⟨_, rfl⟩
        have ba : Below wr.heap.size wr wa := by rw [hwa]; exact (Below.refl _ _).alloc (Nat.le_refl _) _
        have m0 : wa.cell? ⟨wr.heap.size, 0, none⟩ = some (.int .i64 x) := by rw [hwa]; go_simp
        have m1 : wa.cell? ⟨wr.heap.size, 1, none⟩ = some (.int .i64 y) := by rw [hwa]; go_simp
        have m2 : wa.cell? ⟨wr.heap.size, 2, none⟩ = some (.int .i64 lo) := by rw [hwa]; go_simp
        have m3 : wa.cell? ⟨wr.heap.size, 3, none⟩ = some (.int .i64 hi) := by rw [hwa]; go_simp
        have y1 := (ba.cell (p := ⟨g2, o2 + x, none⟩) hg2).trans x1
        have y2 := (ba.cell (p := ⟨g2, o2 + y, none⟩) hg2).trans x2
        have sza : wr.heap.size < wa.heap.size := by rw [hwa]; simp
        cases b with
        | false =>
          go_upto_region 6 with (fail)
          rw [← hwa]
          clear hwa
          go_region_held3 (fun W => W.cell? ⟨wr.heap.size, 0, none⟩ = some (.int .i64 x) ∧ W.cell? ⟨wr.heap.size, 1, none⟩ = some (.int .i64 y) ∧ W.cell? ⟨wr.heap.size, 2, none⟩ = some (.int .i64 lo) ∧ W.cell? ⟨wr.heap.size, 3, none⟩ = some (.int .i64 hi) ∧ W.cell? ⟨g2, o2 + x, none⟩ = some (.int .i64 p) ∧ W.cell? ⟨g2, o2 + y, none⟩ = some (.int .i64 q)) (go_keep) (first | (go_at_call 18; refine (HC.out _).mono ?_; rintro e w3 ⟨rfl, b3⟩; have q0 : w3.cell? ⟨wr.heap.size, 0, none⟩ = some (.int .i64 x) := (b3.cell (p := ⟨wr.heap.size, 0, none⟩) (by first | omega | (simp; done) | (simp; omega))).trans m0; have q1 : w3.cell? ⟨wr.heap.size, 1, none⟩ = some (.int .i64 y) := (b3.cell (p := ⟨wr.heap.size, 1, none⟩) (by first | omega | (simp; done) | (simp; omega))).trans m1; have q2 : w3.cell? ⟨wr.heap.size, 2, none⟩ = some (.int .i64 lo) := (b3.cell (p := ⟨wr.heap.size, 2, none⟩) (by first | omega | (simp; done) | (simp; omega))).trans m2; have q3 : w3.cell? ⟨wr.heap.size, 3, none⟩ = some (.int .i64 hi) := (b3.cell (p := ⟨wr.heap.size, 3, none⟩) (by first | omega | (simp; done) | (simp; omega))).trans m3; have q4 : w3.cell? ⟨g2, o2 + x, none⟩ = some (.int .i64 p) := (b3.cell (p := ⟨g2, o2 + x, none⟩) (by first | omega | (simp; done) | (simp; omega))).trans y1; have q5 : w3.cell? ⟨g2, o2 + y, none⟩ = some (.int .i64 q) := (b3.cell (p := ⟨g2, o2 + y, none⟩) (by first | omega | (simp; done) | (simp; omega))).trans y2))
          all_goals go_wp2_with fail
          all_goals go_ret
          all_goals exact ⟨int_ans (HK2.out (by simp)).symm, HB.out.trans ((ba.trans ((Below.refl _ _).drew.trans (b3.mono (by first | exact Nat.le_refl _ | (simp; done))) |>.mono ba.size)).mono HB.out.size)⟩
        | true =>
          go_upto_region 6 with (fail)
          rw [← hwa]
          clear hwa
          go_region_held3 (fun W => W.cell? ⟨wr.heap.size, 0, none⟩ = some (.int .i64 x) ∧ W.cell? ⟨wr.heap.size, 1, none⟩ = some (.int .i64 y) ∧ W.cell? ⟨wr.heap.size, 2, none⟩ = some (.int .i64 lo) ∧ W.cell? ⟨wr.heap.size, 3, none⟩ = some (.int .i64 hi) ∧ W.cell? ⟨g2, o2 + x, none⟩ = some (.int .i64 p) ∧ W.cell? ⟨g2, o2 + y, none⟩ = some (.int .i64 q)) (go_keep) (first | (go_at_call 18; refine (HC.out _).mono ?_; rintro e w3 ⟨rfl, b3⟩; have q0 : w3.cell? ⟨wr.heap.size, 0, none⟩ = some (.int .i64 x) := (b3.cell (p := ⟨wr.heap.size, 0, none⟩) (by first | omega | (simp; done) | (simp; omega))).trans m0; have q1 : w3.cell? ⟨wr.heap.size, 1, none⟩ = some (.int .i64 y) := (b3.cell (p := ⟨wr.heap.size, 1, none⟩) (by first | omega | (simp; done) | (simp; omega))).trans m1; have q2 : w3.cell? ⟨wr.heap.size, 2, none⟩ = some (.int .i64 lo) := (b3.cell (p := ⟨wr.heap.size, 2, none⟩) (by first | omega | (simp; done) | (simp; omega))).trans m2; have q3 : w3.cell? ⟨wr.heap.size, 3, none⟩ = some (.int .i64 hi) := (b3.cell (p := ⟨wr.heap.size, 3, none⟩) (by first | omega | (simp; done) | (simp; omega))).trans m3; have q4 : w3.cell? ⟨g2, o2 + x, none⟩ = some (.int .i64 p) := (b3.cell (p := ⟨g2, o2 + x, none⟩) (by first | omega | (simp; done) | (simp; omega))).trans y1; have q5 : w3.cell? ⟨g2, o2 + y, none⟩ = some (.int .i64 q) := (b3.cell (p := ⟨g2, o2 + y, none⟩) (by first | omega | (simp; done) | (simp; omega))).trans y2))
          all_goals go_wp2_with fail
          all_goals go_roundw
          all_goals (first | (case rel => exact ⟨j + 1, by omega, by go_num, HK1.out (by simp), hbw.trans ((ba.trans ((Below.refl _ _).drew.trans (b3.mono (by first | exact Nat.le_refl _ | (simp; done))) |>.mono ba.size)).mono hbw.size)⟩) | (case measure => simp [intOf]; omega))
      · go_wp2_with fail
        go_ret
        have hl := HN.out
        exact ⟨int_ans (brJ_none (by have := HA.out; rw [show j = es.length from by omega] at this; exact this)).symm, B1.trans (hbw.mono B1.size)⟩

set_option maxRecDepth 100000 in
set_option maxHeartbeats 8000000 in
theorem impl_IsSchedule (n : Int) (es : List GL) (A : Option Addr) (k c : Nat) (ts : List Int) (T : Option Addr) (m d : Nat) (w : World) (hn : es.length = k) (hm : k ≤ 1048576) (hl : ts.length = m) (hr : LinkAt w A es) (ht : RowAt w T (ts.map intV)) :
    Calls Try.prog 24 #[grV n A k c, .slice T m d] w fun e w' => e = .returned (.bool (schR n es ts)) ∧ Below w.heap.size w w' := by
  have HS := Lib.hid (fun W h h2 => impl_isTimed n es A k c ts T m d W hn hm hl h h2)
  have HBR := Lib.hid (fun W h h2 => impl_BrokenLink n es A k c ts T m d W hn hm hl h h2)
  have HR := Lib.hid hr
  have HT := Lib.hid ht
  have HL := Lib.hid hl
  clear hr hn ht hl
  obtain ⟨ok, hok⟩ : ∃ b, b = tmR n es ts := ⟨_, rfl⟩
  rw [← hok] at HS
  have HO := Lib.hid hok.symm
  clear hok
  obtain ⟨q, hq⟩ : ∃ q, q = brR n es ts := ⟨_, rfl⟩
  rw [← hq] at HBR
  have HQ := Lib.hid hq.symm
  clear hq
  unfold grV at HS HBR ⊢
  cases ok with
  | false =>
    go_enter Try.func24, Try.ntmps24
    go_wp2_with fail
    refine (HS.out _ (HR.out.below (by repeat (first | exact Below.refl _ _ | refine below_step (by assumption) (by first | omega | (simp; done) | (simp; omega)) ?_ | refine below_drewN ?_ _ | refine Below.drew ?_ | refine Below.setCell ?_ (by first | omega | (simp; done) | (simp; omega)) _ | refine Below.alloc ?_ (by first | omega | (simp; done) | (simp; omega)) _))) (HT.out.below (by repeat (first | exact Below.refl _ _ | refine below_step (by assumption) (by first | omega | (simp; done) | (simp; omega)) ?_ | refine below_drewN ?_ _ | refine Below.drew ?_ | refine Below.setCell ?_ (by first | omega | (simp; done) | (simp; omega)) _ | refine Below.alloc ?_ (by first | omega | (simp; done) | (simp; omega)) _)))).mono ?_
    rintro e w1 ⟨rfl, b1⟩
    go_wp2_with fail
    go_ret
    exact ⟨ret_b (by unfold schR; rw [HO.out]; rfl), (by repeat (first | exact Below.refl _ _ | refine below_step (by assumption) (by first | omega | (simp; done) | (simp; omega)) ?_ | refine below_drewN ?_ _ | refine Below.drew ?_ | refine Below.setCell ?_ (by first | omega | (simp; done) | (simp; omega)) _ | refine Below.alloc ?_ (by first | omega | (simp; done) | (simp; omega)) _))⟩
  | true =>
    obtain ⟨hok, hln, _⟩ := tmR_ok HO.out
    have hrg := okS_rng hok
    have hm0 : 0 < m := by have := HL.out; omega
    clear hok hln hrg
    go_enter Try.func24, Try.ntmps24
    go_wp2_with fail
    refine (HS.out _ (HR.out.below (by repeat (first | exact Below.refl _ _ | refine below_step (by assumption) (by first | omega | (simp; done) | (simp; omega)) ?_ | refine below_drewN ?_ _ | refine Below.drew ?_ | refine Below.setCell ?_ (by first | omega | (simp; done) | (simp; omega)) _ | refine Below.alloc ?_ (by first | omega | (simp; done) | (simp; omega)) _))) (HT.out.below (by repeat (first | exact Below.refl _ _ | refine below_step (by assumption) (by first | omega | (simp; done) | (simp; omega)) ?_ | refine below_drewN ?_ _ | refine Below.drew ?_ | refine Below.setCell ?_ (by first | omega | (simp; done) | (simp; omega)) _ | refine Below.alloc ?_ (by first | omega | (simp; done) | (simp; omega)) _)))).mono ?_
    rintro e w1 ⟨rfl, b1⟩
    have c0_w1 : w1.cell? ⟨w.heap.size, 0, none⟩ = some (.int .i64 n) := (b1.cell (p := ⟨w.heap.size, 0, none⟩) (by first | omega | (simp; done) | (simp; omega))).trans (by first | assumption | go_simp)
    have c1_w1 : w1.cell? ⟨w.heap.size, 1, none⟩ = some (.slice A k c) := (b1.cell (p := ⟨w.heap.size, 1, none⟩) (by first | omega | (simp; done) | (simp; omega))).trans (by first | assumption | go_simp)
    have s0_w1 : w.heap.size < w1.heap.size := Nat.lt_of_lt_of_le (by first | omega | (simp; done) | (simp; omega)) b1.size
    have B1 : Below w.heap.size w w1 := (by repeat (first | exact Below.refl _ _ | refine below_step (by assumption) (by first | omega | (simp; done) | (simp; omega)) ?_ | refine below_drewN ?_ _ | refine Below.drew ?_ | refine Below.setCell ?_ (by first | omega | (simp; done) | (simp; omega)) _ | refine Below.alloc ?_ (by first | omega | (simp; done) | (simp; omega)) _))
    obtain ⟨g, o, rfl, hg, hc⟩ := row_get (HT.out.below B1) (q := 0) (by have := HL.out; omega)
    rw [Nat.add_zero] at hc
    obtain ⟨x, hx⟩ : ∃ x, x = ts[0]'(by have := HL.out; omega) := ⟨_, rfl⟩
    rw [← hx] at hc
    have HX := Lib.hid (show ts[0]?.getD 0 = x from by rw [hx, List.getElem?_eq_getElem (by have := HL.out; omega)]; rfl)
    clear b1 hx
    by_cases hx0 : x = 0
    · have hxb : (x == 0) = true := by simp [hx0]
      have HX0 := Lib.hid hx0
      clear hx0
      go_wp2_with fail
      refine (HBR.out _ (HR.out.below (by repeat (first | exact Below.refl _ _ | refine below_step (by assumption) (by first | omega | (simp; done) | (simp; omega)) ?_ | refine below_drewN ?_ _ | refine Below.drew ?_ | refine Below.setCell ?_ (by first | omega | (simp; done) | (simp; omega)) _ | refine Below.alloc ?_ (by first | omega | (simp; done) | (simp; omega)) _))) (HT.out.below (by repeat (first | exact Below.refl _ _ | refine below_step (by assumption) (by first | omega | (simp; done) | (simp; omega)) ?_ | refine below_drewN ?_ _ | refine Below.drew ?_ | refine Below.setCell ?_ (by first | omega | (simp; done) | (simp; omega)) _ | refine Below.alloc ?_ (by first | omega | (simp; done) | (simp; omega)) _)))).mono ?_
      rintro e w2 ⟨rfl, b2⟩
      have hqq : schR n es ts = decide (q < 0) := by unfold schR; rw [HO.out, HX.out, HQ.out, decide_eq_true HX0.out]; rfl
      have hq1 : -1 ≤ q := by rw [← HQ.out]; unfold brR; rw [if_pos HO.out]; exact brJ_rng _ _
      by_cases hq0 : q < 0
      · have hqb : (q == -1) = true := by simp; omega
        go_wp2_with fail
        go_ret
        exact ⟨ret_b (by rw [hqq, decide_eq_true (by omega)]), (by repeat (first | exact Below.refl _ _ | refine below_step (by assumption) (by first | omega | (simp; done) | (simp; omega)) ?_ | refine below_drewN ?_ _ | refine Below.drew ?_ | refine Below.setCell ?_ (by first | omega | (simp; done) | (simp; omega)) _ | refine Below.alloc ?_ (by first | omega | (simp; done) | (simp; omega)) _))⟩
      · have hqb : (q == -1) = false := by simp; omega
        go_wp2_with fail
        go_ret
        exact ⟨ret_b (by rw [hqq, decide_eq_false (by omega)]), (by repeat (first | exact Below.refl _ _ | refine below_step (by assumption) (by first | omega | (simp; done) | (simp; omega)) ?_ | refine below_drewN ?_ _ | refine Below.drew ?_ | refine Below.setCell ?_ (by first | omega | (simp; done) | (simp; omega)) _ | refine Below.alloc ?_ (by first | omega | (simp; done) | (simp; omega)) _))⟩
    · have hxb : (x == 0) = false := by simp [hx0]
      have HX0 := Lib.hid hx0
      clear hx0
      go_wp2_with fail
      go_ret
      exact ⟨ret_b (by unfold schR; rw [HO.out, HX.out, decide_eq_false HX0.out]; rfl), (by repeat (first | exact Below.refl _ _ | refine below_step (by assumption) (by first | omega | (simp; done) | (simp; omega)) ?_ | refine below_drewN ?_ _ | refine Below.drew ?_ | refine Below.setCell ?_ (by first | omega | (simp; done) | (simp; omega)) _ | refine Below.alloc ?_ (by first | omega | (simp; done) | (simp; omega)) _))⟩

end Go.Proofs.Yteppmlepbfjnpaa

