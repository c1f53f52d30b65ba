/-
  WALKS of impl.isTimed, impl.BrokenLink and impl.IsSchedule.
  WALKS of impl.addEdge and impl.addLink: a network behind a pointer, its edges and their origins in memory of their own.
-/
import Derived.Test.YtnhdfnfiicioiaaNwO
import Derived.Test.YtnhdfnfiicioiaaBdSmT
import Derived.Deep.RegionHeld3
import Derived.Deep.CutRange
import Derived.Test.YtnhdfnfiicioiaaBdSmF
import Derived.Deep.AppendLies
import Derived.Deep.RegionLaw
namespace Go.Proofs.Ytnhdfnfiicioiaa
open Go.RowKit
set_option linter.unusedVariables false
set_option linter.unusedSimpArgs false
set_option maxRecDepth 100000 in
set_option maxHeartbeats 8000000 in
theorem impl_isTimed (n : Int) (es : List GL) (A : Option Addr) (k c : Nat) (ts : List Int) (T : Option Addr) (m d : Nat) (w : World) (hn : es.length = k) (hm : k ≤ 1048576) (hl : ts.length = m) (hr : LinkAt w A es) (ht : RowAt w T (ts.map intV)) :
    Calls Try.prog 61 #[grV n A k c, .slice T m d] w fun e w' => e = .returned (.bool (tmR n es ts)) ∧ Below w.heap.size w w' := by
  have HS := Lib.hid (fun W h => impl_SimpleOk n es A k c W hn hm h)
  have HR := Lib.hid hr
  have HT := Lib.hid ht
  have HL := Lib.hid hl
  clear hr hn ht hl
  obtain ⟨ok, hok⟩ : ∃ b, b = okS n es := ⟨_, rfl⟩
  rw [← hok] at HS
  have HO := Lib.hid hok.symm
  clear hok
  unfold grV at HS ⊢
  cases ok with
  | false =>
    go_enter Try.func61, Try.ntmps61
    go_wp2_with fail
    refine (HS.out _ (HR.out.below (by repeat (first | exact Below.refl _ _ | refine below_step (by assumption) (by first | omega | (simp; done) | (simp; omega)) ?_ | refine below_drewN ?_ _ | refine Below.drew ?_ | refine Below.setCell ?_ (by first | omega | (simp; done) | (simp; omega)) _ | refine Below.alloc ?_ (by first | omega | (simp; done) | (simp; omega)) _)))).mono ?_
    rintro e w1 ⟨rfl, b1⟩
    go_wp2_with fail
    go_ret
    exact ⟨ret_b (by unfold tmR; rw [HO.out]; rfl), (by repeat (first | exact Below.refl _ _ | refine below_step (by assumption) (by first | omega | (simp; done) | (simp; omega)) ?_ | refine below_drewN ?_ _ | refine Below.drew ?_ | refine Below.setCell ?_ (by first | omega | (simp; done) | (simp; omega)) _ | refine Below.alloc ?_ (by first | omega | (simp; done) | (simp; omega)) _))⟩
  | true =>
    by_cases hmn : (m : Int) = n
    · have hne : ((m : Int) != n) = false := by simp [hmn]
      have hm8 : m ≤ 8 := by have := okS_rng HO.out; omega
      go_enter Try.func61, Try.ntmps61
      go_wp2_with fail
      refine (HS.out _ (HR.out.below (by repeat (first | exact Below.refl _ _ | refine below_step (by assumption) (by first | omega | (simp; done) | (simp; omega)) ?_ | refine below_drewN ?_ _ | refine Below.drew ?_ | refine Below.setCell ?_ (by first | omega | (simp; done) | (simp; omega)) _ | refine Below.alloc ?_ (by first | omega | (simp; done) | (simp; omega)) _)))).mono ?_
      rintro e w1 ⟨rfl, b1⟩
      have c0_w1 : w1.cell? ⟨w.heap.size, 0, none⟩ = some (.int .i64 n) := (b1.cell (p := ⟨w.heap.size, 0, none⟩) (by first | omega | (simp; done) | (simp; omega))).trans (by first | assumption | go_simp)
      have c1_w1 : w1.cell? ⟨w.heap.size, 1, none⟩ = some (.slice A k c) := (b1.cell (p := ⟨w.heap.size, 1, none⟩) (by first | omega | (simp; done) | (simp; omega))).trans (by first | assumption | go_simp)
      have s0_w1 : w.heap.size < w1.heap.size := Nat.lt_of_lt_of_le (by first | omega | (simp; done) | (simp; omega)) b1.size
      have B1 : Below w.heap.size w w1 := (by repeat (first | exact Below.refl _ _ | refine below_step (by assumption) (by first | omega | (simp; done) | (simp; omega)) ?_ | refine below_drewN ?_ _ | refine Below.drew ?_ | refine Below.setCell ?_ (by first | omega | (simp; done) | (simp; omega)) _ | refine Below.alloc ?_ (by first | omega | (simp; done) | (simp; omega)) _))
      clear b1
      go_wp2_with fail
      go_loopw [19] (fun i wr => ∃ j : Nat, j ≤ m ∧ i = .int .i64 j ∧ (ts.take j).all inB = true ∧ wr = w1) (fun i _ => m - (intOf i).toNat)
      case atStart => exact ⟨0, Nat.zero_le _, rfl, rfl, rfl⟩
      case round =>
        obtain ⟨j, hj, rfl, hall, rfl⟩ := hrel
        have HA := Lib.hid hall
        clear hall
        by_cases hlt : j < m
        · obtain ⟨g, o, rfl, hg, hc⟩ := row_get (HT.out.below B1) (q := j) (by have := HL.out; omega)
          have HK1 := Lib.hid (allI_take_of ts j (by have := HL.out; omega) HA.out)
          have HK2 := Lib.hid (tmR_not (n := n) (es := es) (ts := ts) (k := j) (by have := HL.out; omega))
          obtain ⟨x, hx⟩ : ∃ x, x = ts[j]'(by have := HL.out; omega) := ⟨_, rfl⟩
          rw [← hx] at hc HK1 HK2
          have h0 := impl_ClampBound x
          obtain ⟨b, hbb⟩ : ∃ b, b = inB x := ⟨_, rfl⟩
          obtain ⟨y, hy⟩ : ∃ y, y = clampI x := ⟨_, rfl⟩
          have hne : (x != y) = !b := by rw [hbb, hy]; unfold inB clampI; rw [Bool.eq_iff_iff]; simp; (repeat' split) <;> omega
          rw [← hbb] at HK1 HK2
          rw [← hy] at h0
          have H0 := Lib.hid h0
          clear h0 hbb hx hy
          cases b with
          | false =>
            have hx1 : (x != y) = true := by simpa using hne
            clear hne
            go_wp2_with fail
            refine (H0.out _).mono ?_
            rintro e w2 ⟨rfl, rfl⟩
            go_wp2_with fail
            go_ret
            exact ⟨ret_b (HK2.out (by simp)).symm, B1⟩
          | true =>
            have hx1 : (x != y) = false := by simpa using hne
            clear hne
            go_wp2_with fail
            refine (H0.out _).mono ?_
            rintro e w2 ⟨rfl, rfl⟩
            go_wp2_with fail
            go_roundw
            case rel => exact ⟨j + 1, by omega, by go_num, HK1.out (by simp), by first | rfl | trivial⟩
            case measure => simp [intOf]; omega
        · go_wp2_with fail
          go_ret
          have hl := HL.out
          exact ⟨ret_b (tmR_yes HO.out (by omega) (by have := HA.out; rw [show j = ts.length from by omega] at this; exact this)).symm, B1⟩
    · have hne : ((m : Int) != n) = true := by simp [hmn]
      go_enter Try.func61, Try.ntmps61
      go_wp2_with fail
      refine (HS.out _ (HR.out.below (by repeat (first | exact Below.refl _ _ | refine below_step (by assumption) (by first | omega | (simp; done) | (simp; omega)) ?_ | refine below_drewN ?_ _ | refine Below.drew ?_ | refine Below.setCell ?_ (by first | omega | (simp; done) | (simp; omega)) _ | refine Below.alloc ?_ (by first | omega | (simp; done) | (simp; omega)) _)))).mono ?_
      rintro e w1 ⟨rfl, b1⟩
      have c0_w1 : w1.cell? ⟨w.heap.size, 0, none⟩ = some (.int .i64 n) := (b1.cell (p := ⟨w.heap.size, 0, none⟩) (by first | omega | (simp; done) | (simp; omega))).trans (by first | assumption | go_simp)
      have c1_w1 : w1.cell? ⟨w.heap.size, 1, none⟩ = some (.slice A k c) := (b1.cell (p := ⟨w.heap.size, 1, none⟩) (by first | omega | (simp; done) | (simp; omega))).trans (by first | assumption | go_simp)
      have s0_w1 : w.heap.size < w1.heap.size := Nat.lt_of_lt_of_le (by first | omega | (simp; done) | (simp; omega)) b1.size
      go_wp2_with fail
      go_ret
      exact ⟨ret_b (by have := HL.out; unfold tmR; rw [HO.out, decide_eq_false (by omega)]; rfl), (by repeat (first | exact Below.refl _ _ | refine below_step (by assumption) (by first | omega | (simp; done) | (simp; omega)) ?_ | refine below_drewN ?_ _ | refine Below.drew ?_ | refine Below.setCell ?_ (by first | omega | (simp; done) | (simp; omega)) _ | refine Below.alloc ?_ (by first | omega | (simp; done) | (simp; omega)) _))⟩

set_option maxRecDepth 100000 in
set_option maxHeartbeats 8000000 in
theorem impl_BrokenLink (n : Int) (es : List GL) (A : Option Addr) (k c : Nat) (ts : List Int) (T : Option Addr) (m d : Nat) (w : World) (hn : es.length = k) (hm : k ≤ 1048576) (hl : ts.length = m) (hr : LinkAt w A es) (ht : RowAt w T (ts.map intV)) :
    Calls Try.prog 23 #[grV n A k c, .slice T m d] w fun e w' => e = .returned (.int .i64 (brR n es ts)) ∧ Below w.heap.size w w' := by
  have HS := Lib.hid (fun W h h2 => impl_isTimed n es A k c ts T m d W hn hm hl h h2)
  have HR := Lib.hid hr
  have HT := Lib.hid ht
  have HL := Lib.hid hl
  have HN := Lib.hid hn
  clear hr hn ht hl
  obtain ⟨ok, hok⟩ : ∃ b, b = tmR n es ts := ⟨_, rfl⟩
  rw [← hok] at HS
  have HO := Lib.hid hok.symm
  clear hok
  unfold grV at HS ⊢
  cases ok with
  | false =>
    go_enter Try.func23, Try.ntmps23
    go_wp2_with fail
    refine (HS.out _ (HR.out.below (by repeat (first | exact Below.refl _ _ | refine below_step (by assumption) (by first | omega | (simp; done) | (simp; omega)) ?_ | refine below_drewN ?_ _ | refine Below.drew ?_ | refine Below.setCell ?_ (by first | omega | (simp; done) | (simp; omega)) _ | refine Below.alloc ?_ (by first | omega | (simp; done) | (simp; omega)) _))) (HT.out.below (by repeat (first | exact Below.refl _ _ | refine below_step (by assumption) (by first | omega | (simp; done) | (simp; omega)) ?_ | refine below_drewN ?_ _ | refine Below.drew ?_ | refine Below.setCell ?_ (by first | omega | (simp; done) | (simp; omega)) _ | refine Below.alloc ?_ (by first | omega | (simp; done) | (simp; omega)) _)))).mono ?_
    rintro e w1 ⟨rfl, b1⟩
    go_wp2_with fail
    go_ret
    exact ⟨int_ans (by unfold brR; rw [HO.out]; rfl), (by repeat (first | exact Below.refl _ _ | refine below_step (by assumption) (by first | omega | (simp; done) | (simp; omega)) ?_ | refine below_drewN ?_ _ | refine Below.drew ?_ | refine Below.setCell ?_ (by first | omega | (simp; done) | (simp; omega)) _ | refine Below.alloc ?_ (by first | omega | (simp; done) | (simp; omega)) _))⟩
  | true =>
    have hbr : brR n es ts = brJ es ts := by unfold brR; rw [if_pos HO.out]
    rw [hbr]
    clear hbr
    obtain ⟨hok, hln, hrg⟩ := tmR_ok HO.out
    have HOK := Lib.hid hok
    have HLN := Lib.hid hln
    have HRG := Lib.hid hrg
    have hk40 : k ≤ 40 := by have := okS_rng hok; have := HN.out; omega
    clear hok hln hrg
    go_enter Try.func23, Try.ntmps23
    go_wp2_with fail
    refine (HS.out _ (HR.out.below (by repeat (first | exact Below.refl _ _ | refine below_step (by assumption) (by first | omega | (simp; done) | (simp; omega)) ?_ | refine below_drewN ?_ _ | refine Below.drew ?_ | refine Below.setCell ?_ (by first | omega | (simp; done) | (simp; omega)) _ | refine Below.alloc ?_ (by first | omega | (simp; done) | (simp; omega)) _))) (HT.out.below (by repeat (first | exact Below.refl _ _ | refine below_step (by assumption) (by first | omega | (simp; done) | (simp; omega)) ?_ | refine below_drewN ?_ _ | refine Below.drew ?_ | refine Below.setCell ?_ (by first | omega | (simp; done) | (simp; omega)) _ | refine Below.alloc ?_ (by first | omega | (simp; done) | (simp; omega)) _)))).mono ?_
    rintro e w1 ⟨rfl, b1⟩
    have c0_w1 : w1.cell? ⟨w.heap.size, 0, none⟩ = some (.int .i64 n) := (b1.cell (p := ⟨w.heap.size, 0, none⟩) (by first | omega | (simp; done) | (simp; omega))).trans (by first | assumption | go_simp)
    have c1_w1 : w1.cell? ⟨w.heap.size, 1, none⟩ = some (.slice A k c) := (b1.cell (p := ⟨w.heap.size, 1, none⟩) (by first | omega | (simp; done) | (simp; omega))).trans (by first | assumption | go_simp)
    have s0_w1 : w.heap.size < w1.heap.size := Nat.lt_of_lt_of_le (by first | omega | (simp; done) | (simp; omega)) b1.size
    have B1 : Below w.heap.size w w1 := (by repeat (first | exact Below.refl _ _ | refine below_step (by assumption) (by first | omega | (simp; done) | (simp; omega)) ?_ | refine below_drewN ?_ _ | refine Below.drew ?_ | refine Below.setCell ?_ (by first | omega | (simp; done) | (simp; omega)) _ | refine Below.alloc ?_ (by first | omega | (simp; done) | (simp; omega)) _))
    have HT1 := Lib.hid (HT.out.below B1)
    clear b1
    go_wp2_with fail
    go_loopw [14] (fun i wr => ∃ j : Nat, j ≤ k ∧ i = .int .i64 j ∧ (es.take j).all (holdsL ts) = true ∧ Below w1.heap.size w1 wr) (fun i _ => k - (intOf i).toNat)
    case atStart => exact ⟨0, Nat.zero_le _, rfl, rfl, Below.refl _ _⟩
    case round =>
      obtain ⟨j, hj, rfl, hall, hbw⟩ := hrel
      have HA := Lib.hid hall
      clear hall
      by_cases hlt : j < k
      · have hl := HN.out
        have hbww := B1.trans (hbw.mono B1.size)
        obtain ⟨g, o, rfl, hg, hc⟩ := (HR.out.below hbww) (by omega)
        obtain ⟨c0, c1, c2, c3⟩ := hc j (by omega)
        have hlk := okS_link HOK.out (List.getElem_mem (show j < es.length by omega))
        have HK1 := Lib.hid (allH_take_of es ts j (by omega) HA.out)
        have HK2 := Lib.hid (brJ_at (ts := ts) (show j < es.length by omega) HA.out)
        obtain ⟨e, he⟩ : ∃ e, e = es[j]'(by omega) := ⟨_, rfl⟩
        rw [← he] at c0 c1 c2 c3 hlk HK1 HK2
        obtain ⟨u, v, lo, hi⟩ := e
        obtain ⟨⟨hu0, hun⟩, ⟨hv0, hvn⟩, _⟩ := hlk
        dsimp only at c0 c1 c2 c3 hu0 hun hv0 hvn
        obtain ⟨x, rfl⟩ : ∃ x : Nat, u = x := ⟨u.toNat, by omega⟩
        obtain ⟨y, rfl⟩ : ∃ y : Nat, v = y := ⟨v.toNat, by omega⟩
        have hlm := HL.out
        have hln := HLN.out
        have hx : x < ts.length := by omega
        have hy : y < ts.length := by omega
        obtain ⟨g2, o2, hT2, hg2, x1⟩ := row_get (HT1.out.below hbw) hx
        obtain ⟨g3, o3, hT3, hg3, x2⟩ := row_get (HT1.out.below hbw) hy
        rw [hT2] at hT3
        injection hT3 with hT3
        injection hT3 with h4 h5
        subst h4 h5 hT2
        have ra := HRG.out ts[x] (List.getElem_mem _)
        have rb := HRG.out ts[y] (List.getElem_mem _)
        have hho : holdsL ts ⟨(x : Int), (y : Int), lo, hi⟩ = inI lo hi (ts[y] - ts[x]) := by unfold holdsL; dsimp only; simp [List.getElem?_eq_getElem hx, List.getElem?_eq_getElem hy]
        obtain ⟨p, hp⟩ : ∃ p, p = ts[x] := ⟨_, rfl⟩
        obtain ⟨q, hq⟩ : ∃ q, q = ts[y] := ⟨_, rfl⟩
        rw [← hp] at x1 ra
        rw [← hq] at x2 rb
        rw [← hp, ← hq] at hho
        have hwp : IntKind.i64.wrap (q - p) = q - p := (IntWalk.i64_left _).trans (by unfold wrap64; omega)
        have b1x : (0 : Int) ≤ (x : Int) := by omega
        have b2x : (x : Int) < (m : Int) := by omega
        have b1y : (0 : Int) ≤ (y : Int) := by omega
        have b2y : (y : Int) < (m : Int) := by omega
        have ng2 : (g = wr.heap.size) = False := eq_false (by omega)
        have ng3 : (g2 = wr.heap.size) = False := eq_false (by omega)
        obtain ⟨b, hb⟩ : ∃ b, b = inI lo hi (q - p) := ⟨_, rfl⟩
        rw [hho, ← hb] at HK1 HK2
        have hcc := impl_Contains lo hi (q - p)
        rw [← hb] at hcc
        unfold ivV at hcc
        have HC := Lib.hid hcc
        have HB := Lib.hid hbww
        clear hc he hl hu0 hun hv0 hvn hlm hln hx hy ra rb hho hp hq hb hcc hbww
        obtain ⟨wa, hwa⟩ : ∃ W, W = wr.alloc (.cells #[.int .i64 x, .int .i64 y, .int .i64 lo, .int .i64 hi] 42) := ⟨_, rfl⟩
        have ba : Below wr.heap.size wr wa := by rw [hwa]; exact (Below.refl _ _).alloc (Nat.le_refl _) _
        have m0 : wa.cell? ⟨wr.heap.size, 0, none⟩ = some (.int .i64 x) := by rw [hwa]; go_simp
        have m1 : wa.cell? ⟨wr.heap.size, 1, none⟩ = some (.int .i64 y) := by rw [hwa]; go_simp
        have m2 : wa.cell? ⟨wr.heap.size, 2, none⟩ = some (.int .i64 lo) := by rw [hwa]; go_simp
        have m3 : wa.cell? ⟨wr.heap.size, 3, none⟩ = some (.int .i64 hi) := by rw [hwa]; go_simp
        have y1 := (ba.cell (p := ⟨g2, o2 + x, none⟩) hg2).trans x1
        have y2 := (ba.cell (p := ⟨g2, o2 + y, none⟩) hg2).trans x2
        have sza : wr.heap.size < wa.heap.size := by rw [hwa]; simp
        cases b with
        | false =>
          go_upto_region 6 with (fail)
          rw [← hwa]
          clear hwa
          go_region_held3 (fun W => W.cell? ⟨wr.heap.size, 0, none⟩ = some (.int .i64 x) ∧ W.cell? ⟨wr.heap.size, 1, none⟩ = some (.int .i64 y) ∧ W.cell? ⟨wr.heap.size, 2, none⟩ = some (.int .i64 lo) ∧ W.cell? ⟨wr.heap.size, 3, none⟩ = some (.int .i64 hi) ∧ W.cell? ⟨g2, o2 + x, none⟩ = some (.int .i64 p) ∧ W.cell? ⟨g2, o2 + y, none⟩ = some (.int .i64 q)) (go_keep) (first | (go_at_call 25; refine (HC.out _).mono ?_; rintro e w3 ⟨rfl, b3⟩; have q0 : w3.cell? ⟨wr.heap.size, 0, none⟩ = some (.int .i64 x) := (b3.cell (p := ⟨wr.heap.size, 0, none⟩) (by first | omega | (simp; done) | (simp; omega))).trans m0; have q1 : w3.cell? ⟨wr.heap.size, 1, none⟩ = some (.int .i64 y) := (b3.cell (p := ⟨wr.heap.size, 1, none⟩) (by first | omega | (simp; done) | (simp; omega))).trans m1; have q2 : w3.cell? ⟨wr.heap.size, 2, none⟩ = some (.int .i64 lo) := (b3.cell (p := ⟨wr.heap.size, 2, none⟩) (by first | omega | (simp; done) | (simp; omega))).trans m2; have q3 : w3.cell? ⟨wr.heap.size, 3, none⟩ = some (.int .i64 hi) := (b3.cell (p := ⟨wr.heap.size, 3, none⟩) (by first | omega | (simp; done) | (simp; omega))).trans m3; have q4 : w3.cell? ⟨g2, o2 + x, none⟩ = some (.int .i64 p) := (b3.cell (p := ⟨g2, o2 + x, none⟩) (by first | omega | (simp; done) | (simp; omega))).trans y1; have q5 : w3.cell? ⟨g2, o2 + y, none⟩ = some (.int .i64 q) := (b3.cell (p := ⟨g2, o2 + y, none⟩) (by first | omega | (simp; done) | (simp; omega))).trans y2))
          all_goals go_wp2_with fail
          all_goals go_ret
          all_goals exact ⟨int_ans (HK2.out (by simp)).symm, HB.out.trans ((ba.trans ((Below.refl _ _).drew.trans (b3.mono (by first | exact Nat.le_refl _ | (simp; done))) |>.mono ba.size)).mono HB.out.size)⟩
        | true =>
          go_upto_region 6 with (fail)
          rw [← hwa]
          clear hwa
          go_region_held3 (fun W => W.cell? ⟨wr.heap.size, 0, none⟩ = some (.int .i64 x) ∧ W.cell? ⟨wr.heap.size, 1, none⟩ = some (.int .i64 y) ∧ W.cell? ⟨wr.heap.size, 2, none⟩ = some (.int .i64 lo) ∧ W.cell? ⟨wr.heap.size, 3, none⟩ = some (.int .i64 hi) ∧ W.cell? ⟨g2, o2 + x, none⟩ = some (.int .i64 p) ∧ W.cell? ⟨g2, o2 + y, none⟩ = some (.int .i64 q)) (go_keep) (first | (go_at_call 25; refine (HC.out _).mono ?_; rintro e w3 ⟨rfl, b3⟩; have q0 : w3.cell? ⟨wr.heap.size, 0, none⟩ = some (.int .i64 x) := (b3.cell (p := ⟨wr.heap.size, 0, none⟩) (by first | omega | (simp; done) | (simp; omega))).trans m0; have q1 : w3.cell? ⟨wr.heap.size, 1, none⟩ = some (.int .i64 y) := (b3.cell (p := ⟨wr.heap.size, 1, none⟩) (by first | omega | (simp; done) | (simp; omega))).trans m1; have q2 : w3.cell? ⟨wr.heap.size, 2, none⟩ = some (.int .i64 lo) := (b3.cell (p := ⟨wr.heap.size, 2, none⟩) (by first | omega | (simp; done) | (simp; omega))).trans m2; have q3 : w3.cell? ⟨wr.heap.size, 3, none⟩ = some (.int .i64 hi) := (b3.cell (p := ⟨wr.heap.size, 3, none⟩) (by first | omega | (simp; done) | (simp; omega))).trans m3; have q4 : w3.cell? ⟨g2, o2 + x, none⟩ = some (.int .i64 p) := (b3.cell (p := ⟨g2, o2 + x, none⟩) (by first | omega | (simp; done) | (simp; omega))).trans y1; have q5 : w3.cell? ⟨g2, o2 + y, none⟩ = some (.int .i64 q) := (b3.cell (p := ⟨g2, o2 + y, none⟩) (by first | omega | (simp; done) | (simp; omega))).trans y2))
          all_goals go_wp2_with fail
          all_goals go_roundw
          all_goals (first | (case rel => exact ⟨j + 1, by omega, by go_num, HK1.out (by simp), hbw.trans ((ba.trans ((Below.refl _ _).drew.trans (b3.mono (by first | exact Nat.le_refl _ | (simp; done))) |>.mono ba.size)).mono hbw.size)⟩) | (case measure => simp [intOf]; omega))
      · go_wp2_with fail
        go_ret
        have hl := HN.out
        exact ⟨int_ans (brJ_none (by have := HA.out; rw [show j = es.length from by omega] at this; exact this)).symm, B1.trans (hbw.mono B1.size)⟩

set_option maxRecDepth 100000 in
set_option maxHeartbeats 8000000 in
theorem impl_IsSchedule (n : Int) (es : List GL) (A : Option Addr) (k c : Nat) (ts : List Int) (T : Option Addr) (m d : Nat) (w : World) (hn : es.length = k) (hm : k ≤ 1048576) (hl : ts.length = m) (hr : LinkAt w A es) (ht : RowAt w T (ts.map intV)) :
    Calls Try.prog 21 #[grV n A k c, .slice T m d] w fun e w' => e = .returned (.bool (schR n es ts)) ∧ Below w.heap.size w w' := by
  have HS := Lib.hid (fun W h h2 => impl_isTimed n es A k c ts T m d W hn hm hl h h2)
  have HBR := Lib.hid (fun W h h2 => impl_BrokenLink n es A k c ts T m d W hn hm hl h h2)
  have HR := Lib.hid hr
  have HT := Lib.hid ht
  have HL := Lib.hid hl
  clear hr hn ht hl
  obtain ⟨ok, hok⟩ : ∃ b, b = tmR n es ts := ⟨_, rfl⟩
  rw [← hok] at HS
  have HO := Lib.hid hok.symm
  clear hok
  obtain ⟨q, hq⟩ : ∃ q, q = brR n es ts := ⟨_, rfl⟩
  rw [← hq] at HBR
  have HQ := Lib.hid hq.symm
  clear hq
  unfold grV at HS HBR ⊢
  cases ok with
  | false =>
    go_enter Try.func21, Try.ntmps21
    go_wp2_with fail
    refine (HS.out _ (HR.out.below (by repeat (first | exact Below.refl _ _ | refine below_step (by assumption) (by first | omega | (simp; done) | (simp; omega)) ?_ | refine below_drewN ?_ _ | refine Below.drew ?_ | refine Below.setCell ?_ (by first | omega | (simp; done) | (simp; omega)) _ | refine Below.alloc ?_ (by first | omega | (simp; done) | (simp; omega)) _))) (HT.out.below (by repeat (first | exact Below.refl _ _ | refine below_step (by assumption) (by first | omega | (simp; done) | (simp; omega)) ?_ | refine below_drewN ?_ _ | refine Below.drew ?_ | refine Below.setCell ?_ (by first | omega | (simp; done) | (simp; omega)) _ | refine Below.alloc ?_ (by first | omega | (simp; done) | (simp; omega)) _)))).mono ?_
    rintro e w1 ⟨rfl, b1⟩
    go_wp2_with fail
    go_ret
    exact ⟨ret_b (by unfold schR; rw [HO.out]; rfl), (by repeat (first | exact Below.refl _ _ | refine below_step (by assumption) (by first | omega | (simp; done) | (simp; omega)) ?_ | refine below_drewN ?_ _ | refine Below.drew ?_ | refine Below.setCell ?_ (by first | omega | (simp; done) | (simp; omega)) _ | refine Below.alloc ?_ (by first | omega | (simp; done) | (simp; omega)) _))⟩
  | true =>
    obtain ⟨hok, hln, _⟩ := tmR_ok HO.out
    have hrg := okS_rng hok
    have hm0 : 0 < m := by have := HL.out; omega
    clear hok hln hrg
    go_enter Try.func21, Try.ntmps21
    go_wp2_with fail
    refine (HS.out _ (HR.out.below (by repeat (first | exact Below.refl _ _ | refine below_step (by assumption) (by first | omega | (simp; done) | (simp; omega)) ?_ | refine below_drewN ?_ _ | refine Below.drew ?_ | refine Below.setCell ?_ (by first | omega | (simp; done) | (simp; omega)) _ | refine Below.alloc ?_ (by first | omega | (simp; done) | (simp; omega)) _))) (HT.out.below (by repeat (first | exact Below.refl _ _ | refine below_step (by assumption) (by first | omega | (simp; done) | (simp; omega)) ?_ | refine below_drewN ?_ _ | refine Below.drew ?_ | refine Below.setCell ?_ (by first | omega | (simp; done) | (simp; omega)) _ | refine Below.alloc ?_ (by first | omega | (simp; done) | (simp; omega)) _)))).mono ?_
    rintro e w1 ⟨rfl, b1⟩
    have c0_w1 : w1.cell? ⟨w.heap.size, 0, none⟩ = some (.int .i64 n) := (b1.cell (p := ⟨w.heap.size, 0, none⟩) (by first | omega | (simp; done) | (simp; omega))).trans (by first | assumption | go_simp)
    have c1_w1 : w1.cell? ⟨w.heap.size, 1, none⟩ = some (.slice A k c) := (b1.cell (p := ⟨w.heap.size, 1, none⟩) (by first | omega | (simp; done) | (simp; omega))).trans (by first | assumption | go_simp)
    have s0_w1 : w.heap.size < w1.heap.size := Nat.lt_of_lt_of_le (by first | omega | (simp; done) | (simp; omega)) b1.size
    have B1 : Below w.heap.size w w1 := (by repeat (first | exact Below.refl _ _ | refine below_step (by assumption) (by first | omega | (simp; done) | (simp; omega)) ?_ | refine below_drewN ?_ _ | refine Below.drew ?_ | refine Below.setCell ?_ (by first | omega | (simp; done) | (simp; omega)) _ | refine Below.alloc ?_ (by first | omega | (simp; done) | (simp; omega)) _))
    obtain ⟨g, o, rfl, hg, hc⟩ := row_get (HT.out.below B1) (q := 0) (by have := HL.out; omega)
    rw [Nat.add_zero] at hc
    obtain ⟨x, hx⟩ : ∃ x, x = ts[0]'(by have := HL.out; omega) := ⟨_, rfl⟩
    rw [← hx] at hc
    have HX := Lib.hid (show ts[0]?.getD 0 = x from by rw [hx, List.getElem?_eq_getElem (by have := HL.out; omega)]; rfl)
    clear b1 hx
    by_cases hx0 : x = 0
    · have hxb : (x == 0) = true := by simp [hx0]
      have HX0 := Lib.hid hx0
      clear hx0
      go_wp2_with fail
      refine (HBR.out _ (HR.out.below (by repeat (first | exact Below.refl _ _ | refine below_step (by assumption) (by first | omega | (simp; done) | (simp; omega)) ?_ | refine below_drewN ?_ _ | refine Below.drew ?_ | refine Below.setCell ?_ (by first | omega | (simp; done) | (simp; omega)) _ | refine Below.alloc ?_ (by first | omega | (simp; done) | (simp; omega)) _))) (HT.out.below (by repeat (first | exact Below.refl _ _ | refine below_step (by assumption) (by first | omega | (simp; done) | (simp; omega)) ?_ | refine below_drewN ?_ _ | refine Below.drew ?_ | refine Below.setCell ?_ (by first | omega | (simp; done) | (simp; omega)) _ | refine Below.alloc ?_ (by first | omega | (simp; done) | (simp; omega)) _)))).mono ?_
      rintro e w2 ⟨rfl, b2⟩
      have hqq : schR n es ts = decide (q < 0) := by unfold schR; rw [HO.out, HX.out, HQ.out, decide_eq_true HX0.out]; rfl
      have hq1 : -1 ≤ q := by rw [← HQ.out]; unfold brR; rw [if_pos HO.out]; exact brJ_rng _ _
      by_cases hq0 : q < 0
      · have hqb : (q == -1) = true := by simp; omega
        go_wp2_with fail
        go_ret
        exact ⟨ret_b (by rw [hqq, decide_eq_true (by omega)]), (by repeat (first | exact Below.refl _ _ | refine below_step (by assumption) (by first | omega | (simp; done) | (simp; omega)) ?_ | refine below_drewN ?_ _ | refine Below.drew ?_ | refine Below.setCell ?_ (by first | omega | (simp; done) | (simp; omega)) _ | refine Below.alloc ?_ (by first | omega | (simp; done) | (simp; omega)) _))⟩
      · have hqb : (q == -1) = false := by simp; omega
        go_wp2_with fail
        go_ret
        exact ⟨ret_b (by rw [hqq, decide_eq_false (by omega)]), (by repeat (first | exact Below.refl _ _ | refine below_step (by assumption) (by first | omega | (simp; done) | (simp; omega)) ?_ | refine below_drewN ?_ _ | refine Below.drew ?_ | refine Below.setCell ?_ (by first | omega | (simp; done) | (simp; omega)) _ | refine Below.alloc ?_ (by first | omega | (simp; done) | (simp; omega)) _))⟩
    · have hxb : (x == 0) = false := by simp [hx0]
      have HX0 := Lib.hid hx0
      clear hx0
      go_wp2_with fail
      go_ret
      exact ⟨ret_b (by unfold schR; rw [HO.out, HX.out, decide_eq_false HX0.out]; rfl), (by repeat (first | exact Below.refl _ _ | refine below_step (by assumption) (by first | omega | (simp; done) | (simp; omega)) ?_ | refine below_drewN ?_ _ | refine Below.drew ?_ | refine Below.setCell ?_ (by first | omega | (simp; done) | (simp; omega)) _ | refine Below.alloc ?_ (by first | omega | (simp; done) | (simp; omega)) _))⟩

end Go.Proofs.Ytnhdfnfiicioiaa

namespace Go.Proofs.Ytnhdfnfiicioiaa
open Go.RowKit
set_option linter.unusedVariables false
set_option linter.unusedSimpArgs false

/-- The network in the box bx: two rows of its own, apart from each other, above the box. -/
structure NetR (W : World) (bx : Nat) (n : Int) (ca cb va vb : Value) (sa sb : Nat) (E : List GE) (T : List Int) : Prop where
  c0 : W.cell? ⟨bx, 0, none⟩ = some (.int .i64 n)
  c1 : W.cell? ⟨bx, 1, none⟩ = some ca
  c2 : W.cell? ⟨bx, 2, none⟩ = some cb
  f1 : W.frozen? ⟨bx, 1, none⟩ = false
  f2 : W.frozen? ⟨bx, 2, none⟩ = false
  rowE : W.ownsRow (bx + 1) 115 3 va sa (cellsE E)
  rowT : W.ownsRow (bx + 1) 3 1 vb sb (T.map intV)
  apart : ∀ q, va.ownBlock = some q → vb.ownBlock ≠ some q
  lt : bx < W.heap.size
/-- What a call on the network leaves. -/
structure NetStep (w W : World) (bx : Nat) (va0 vb0 va vb : Value) : Prop where
  os : W.os = w.os
  tape : W.tape = w.tape
  output : W.output = w.output
  size : w.heap.size ≤ W.heap.size
  block : ∀ k, k < w.heap.size → k ≠ bx → va0.ownBlock ≠ some k → vb0.ownBlock ≠ some k → W.heap[k]? = w.heap[k]?
  newE : ∀ q, va.ownBlock = some q → va0.ownBlock = some q ∨ w.heap.size ≤ q
  newT : ∀ q, vb.ownBlock = some q → vb0.ownBlock = some q ∨ w.heap.size ≤ q

section
variable {w W W' : World} {bx : Nat} {n : Int} {ca cb va vb va0 vb0 : Value} {sa sb : Nat} {E : List GE} {T : List Int}
theorem own_below2 {W W' : World} {B e s n : Nat} {v : Value} {xs : List Value} (h : W.ownsRow B e s v n xs) (hb : Below W.heap.size W W') : W'.ownsRow B e s v n xs := own_below h hb
theorem NetR.below (h : NetR W bx n ca cb va vb sa sb E T) (hb : Below W.heap.size W W') : NetR W' bx n ca cb va vb sa sb E T :=
  ⟨(hb.cell h.lt).trans h.c0, (hb.cell h.lt).trans h.c1, (hb.cell h.lt).trans h.c2, (hb.frozen h.lt).trans h.f1, (hb.frozen h.lt).trans h.f2, own_below2 h.rowE hb, own_below2 h.rowT hb, h.apart, Nat.lt_of_lt_of_le h.lt hb.size⟩
theorem NetR.alloc (h : NetR W bx n ca cb va vb sa sb E T) (o : Obj) : NetR (W.alloc o) bx n ca cb va vb sa sb E T := h.below ((Below.refl _ _).alloc (Nat.le_refl _) o)
theorem NetR.drew (h : NetR W bx n ca cb va vb sa sb E T) : NetR W.drew bx n ca cb va vb sa sb E T := h.below ((Below.refl _ _).drew)
theorem grown_freeN {w w' : World} {row : Option Nat} (hg : w.grownBy w' row) {b o : Nat} (hb : b < w.heap.size) (h : w.frozen? ⟨b, o, none⟩ = false) (hr : row ≠ some b) : w'.frozen? ⟨b, o, none⟩ = false :=
  (World.frozen?_of_block (a := ⟨b, o, none⟩) (hg.block b hb (fun e => hr e.symm))).trans h
theorem NetR.growE {g cap : Nat} {x y z : Int} (h : NetR W bx n ca cb va vb sa sb E T)
    (ho : W'.ownsRow (bx + 1) 115 3 (.slice (some ⟨g, 0, none⟩) (sa + 1) cap) (sa + 1) (cellsE E ++ [.int .i64 x, .int .i64 y, .int .i64 z])) (hg : W.grownBy W' va.ownBlock) (hat : va.ownBlock = some g ∨ g = W.heap.size) :
    NetR W' bx n ca cb (.slice (some ⟨g, 0, none⟩) (sa + 1) cap) vb (sa + 1) sb (E ++ [⟨x, y, z⟩]) T := by
  have ltE := h.rowE.lt
  have ltT := h.rowT.lt
  have n0 : va.ownBlock ≠ some bx := fun hq => by have := (ltE _ hq).1; omega
  have hE : cellsE E ++ [.int .i64 x, .int .i64 y, .int .i64 z] = cellsE (E ++ [⟨x, y, z⟩]) := by rw [cellsE_append]; simp [cellsE, GE.cells]
  refine ⟨grown_cellS hg h.c0 n0, grown_cellS hg h.c1 n0, grown_cellS hg h.c2 n0, grown_freeN hg h.lt h.f1 n0, grown_freeN hg h.lt h.f2 n0, hE ▸ ho, h.rowT.kept hg ?_, ?_, Nat.lt_of_lt_of_le h.lt hg.size⟩
  · cases hb : vb.ownBlock with
    | none => exact .inl rfl
    | some q => exact .inr (fun e => h.apart q e.symm hb)
  · intro q hq hb
    have hgq : g = q := by simpa [Value.ownBlock] using hq
    subst hgq
    rcases hat with h1 | h1
    · exact h.apart _ h1 hb
    · have := (ltT _ hb).2; omega
theorem NetR.growT {g cap : Nat} {L : List Value} (x : Int) (h : NetR W bx n ca cb va vb sa sb E T) (hL : L = (T ++ [x]).map intV)
    (ho : W'.ownsRow (bx + 1) 3 1 (.slice (some ⟨g, 0, none⟩) (sb + 1) cap) (sb + 1) L) (hg : W.grownBy W' vb.ownBlock) (hat : vb.ownBlock = some g ∨ g = W.heap.size) :
    NetR W' bx n ca cb va (.slice (some ⟨g, 0, none⟩) (sb + 1) cap) sa (sb + 1) E (T ++ [x]) := by
  have ltE := h.rowE.lt
  have ltT := h.rowT.lt
  have n0 : vb.ownBlock ≠ some bx := fun hq => by have := (ltT _ hq).1; omega
  refine ⟨grown_cellS hg h.c0 n0, grown_cellS hg h.c1 n0, grown_cellS hg h.c2 n0, grown_freeN hg h.lt h.f1 n0, grown_freeN hg h.lt h.f2 n0, h.rowE.kept hg ?_, hL ▸ ho, ?_, Nat.lt_of_lt_of_le h.lt hg.size⟩
  · cases hb : va.ownBlock with
    | none => exact .inl rfl
    | some q => exact .inr (fun e => h.apart q hb e.symm)
  · intro q hq hb
    have hgq : g = q := by simpa [Value.ownBlock] using hb
    subst hgq
    rcases hat with h1 | h1
    · exact h.apart _ hq h1
    · have := (ltE _ hq).2; omega
theorem NetR.store1 (h : NetR W bx n ca cb va vb sa sb E T) (hv : va.oneCell' = true) : NetR (W.setCell ⟨bx, 1, none⟩ va) bx n va cb va vb sa sb E T := by
  have := h.c0; have := h.c1; have := h.c2; have := h.f1; have := h.f2
  refine ⟨by go_simp, by go_simp, by go_simp, by go_simp, by go_simp, own_set h.rowE _ _ (by dsimp only; omega), own_set h.rowT _ _ (by dsimp only; omega), h.apart, by have := h.lt; simpa using this⟩
theorem NetR.store2 (h : NetR W bx n ca cb va vb sa sb E T) (hv : vb.oneCell' = true) : NetR (W.setCell ⟨bx, 2, none⟩ vb) bx n ca vb va vb sa sb E T := by
  have := h.c0; have := h.c1; have := h.c2; have := h.f1; have := h.f2
  refine ⟨by go_simp, by go_simp, by go_simp, by go_simp, by go_simp, own_set h.rowE _ _ (by dsimp only; omega), own_set h.rowT _ _ (by dsimp only; omega), h.apart, by have := h.lt; simpa using this⟩
theorem NetR.facts (h : NetR W bx n ca cb va vb sa sb E T) : W.cell? ⟨bx, 0, none⟩ = some (.int .i64 n) ∧ W.cell? ⟨bx, 1, none⟩ = some ca ∧ W.cell? ⟨bx, 2, none⟩ = some cb ∧ W.frozen? ⟨bx, 1, none⟩ = false ∧ W.frozen? ⟨bx, 2, none⟩ = false ∧ bx < W.heap.size ∧ (bx = W.heap.size) = False ∧ (W.heap.size = bx) = False :=
  ⟨h.c0, h.c1, h.c2, h.f1, h.f2, h.lt, eq_false (by have := h.lt; omega), eq_false (by have := h.lt; omega)⟩

theorem NetStep.refl (W : World) (bx : Nat) (va vb : Value) : NetStep W W bx va vb va vb := ⟨rfl, rfl, rfl, Nat.le_refl _, fun _ _ _ _ _ => rfl, fun _ h => .inl h, fun _ h => .inl h⟩
theorem NetStep.below (h : NetStep w W bx va0 vb0 va vb) (hb : Below W.heap.size W W') : NetStep w W' bx va0 vb0 va vb :=
  ⟨hb.os.trans h.os, hb.tape.trans h.tape, hb.output.trans h.output, Nat.le_trans h.size hb.size, fun k hk h1 h2 h3 => (hb.block k (Nat.lt_of_lt_of_le hk h.size)).trans (h.block k hk h1 h2 h3), h.newE, h.newT⟩
theorem NetStep.alloc (h : NetStep w W bx va0 vb0 va vb) (o : Obj) : NetStep w (W.alloc o) bx va0 vb0 va vb := h.below ((Below.refl _ _).alloc (Nat.le_refl _) o)
theorem NetStep.drew (h : NetStep w W bx va0 vb0 va vb) : NetStep w W.drew bx va0 vb0 va vb := h.below ((Below.refl _ _).drew)
theorem NetStep.set (h : NetStep w W bx va0 vb0 va vb) (j : Nat) (v : Value) : NetStep w (W.setCell ⟨bx, j, none⟩ v) bx va0 vb0 va vb :=
  ⟨h.os, h.tape, h.output, by simpa using h.size, fun k hk h1 h2 h3 => (Below.heap_setCell _ _ _ _ h1).trans (h.block k hk h1 h2 h3), h.newE, h.newT⟩
theorem NetStep.growE {g s cap : Nat} (h : NetStep w W bx va0 vb0 va vb) (hg : W.grownBy W' va.ownBlock) (hat : va.ownBlock = some g ∨ g = W.heap.size) : NetStep w W' bx va0 vb0 (.slice (some ⟨g, 0, none⟩) s cap) vb := by
  refine ⟨hg.os.trans h.os, hg.tape.trans h.tape, hg.output.trans h.output, Nat.le_trans h.size hg.size, fun k hk h1 h2 h3 => (hg.block k (Nat.lt_of_lt_of_le hk h.size) ?_).trans (h.block k hk h1 h2 h3), ?_, h.newT⟩
  · intro e
    rcases h.newE k e.symm with e2 | e2
    · exact h2 e2
    · omega
  · intro q hq
    have hgq : g = q := by simpa [Value.ownBlock] using hq
    subst hgq
    rcases hat with h1 | h1
    · exact h.newE _ h1
    · right; have := h.size; omega
theorem NetStep.growT {g s cap : Nat} (h : NetStep w W bx va0 vb0 va vb) (hg : W.grownBy W' vb.ownBlock) (hat : vb.ownBlock = some g ∨ g = W.heap.size) : NetStep w W' bx va0 vb0 va (.slice (some ⟨g, 0, none⟩) s cap) := by
  refine ⟨hg.os.trans h.os, hg.tape.trans h.tape, hg.output.trans h.output, Nat.le_trans h.size hg.size, fun k hk h1 h2 h3 => (hg.block k (Nat.lt_of_lt_of_le hk h.size) ?_).trans (h.block k hk h1 h2 h3), h.newE, ?_⟩
  · intro e
    rcases h.newT k e.symm with e2 | e2
    · exact h3 e2
    · omega
  · intro q hq
    have hgq : g = q := by simpa [Value.ownBlock] using hq
    subst hgq
    rcases hat with h1 | h1
    · exact h.newT _ h1
    · right; have := h.size; omega
theorem NetStep.trans {w W W' : World} {bx : Nat} {va0 vb0 va vb va1 vb1 : Value} (h : NetStep w W bx va0 vb0 va vb) (k : NetStep W W' bx va vb va1 vb1) : NetStep w W' bx va0 vb0 va1 vb1 := by
  refine ⟨k.os.trans h.os, k.tape.trans h.tape, k.output.trans h.output, Nat.le_trans h.size k.size, fun i hi h1 h2 h3 => (k.block i (Nat.lt_of_lt_of_le hi h.size) h1 ?_ ?_).trans (h.block i hi h1 h2 h3), ?_, ?_⟩
  · intro e
    rcases h.newE i e with e2 | e2
    · exact h2 e2
    · omega
  · intro e
    rcases h.newT i e with e2 | e2
    · exact h3 e2
    · omega
  · intro q hq
    rcases k.newE q hq with e2 | e2
    · exact h.newE q e2
    · right; have := h.size; omega
  · intro q hq
    rcases k.newT q hq with e2 | e2
    · exact h.newT q e2
    · right; have := h.size; omega
/-- Below the box nothing turns. -/
theorem NetStep.base (h : NetStep w W bx va vb va0 vb0) (hr : NetR w bx n ca cb va vb sa sb E T) : Below bx w W :=
  ⟨h.os, h.tape, h.output, h.size, fun k hk => h.block k (Nat.lt_trans hk hr.lt) (by omega) (fun e => by have := (hr.rowE.lt _ e).1; omega) (fun e => by have := (hr.rowT.lt _ e).1; omega)⟩
/-- A block beside the network's. -/
theorem NetStep.beside (h : NetStep w W bx va vb va0 vb0) {k j : Nat} {v : Value} (hc : w.cell? ⟨k, j, none⟩ = some v) (h1 : k < w.heap.size) (h2 : k ≠ bx) (h3 : va.ownBlock ≠ some k) (h4 : vb.ownBlock ≠ some k) : W.cell? ⟨k, j, none⟩ = some v :=
  (World.cell?_of_block (a := ⟨k, j, none⟩) (h.block k h1 h2 h3 h4)).trans hc

end
/-- What a call on the network ends in. -/
def NetDone (w : World) (bx : Nat) (n : Int) (va vb : Value) (sa sb : Nat) (E : List GE) (T : List Int) (e : Ending) (w' : World) : Prop :=
  e = .returned (.tuple #[]) ∧ ∃ A c B d, NetR w' bx n (.slice A sa c) (.slice B sb d) (.slice A sa c) (.slice B sb d) sa sb E T ∧ NetStep w w' bx va vb (.slice A sa c) (.slice B sb d)

set_option maxRecDepth 100000 in
set_option maxHeartbeats 8000000 in
theorem addEdge_any (bx : Nat) (n : Int) (A : Option Addr) (sa c : Nat) (B : Option Addr) (sb d : Nat) (E : List GE) (T : List Int) (x p q r : Int) (w : World) (hsa : sa ≤ 1000) (hsb : sb ≤ 1000) (h : NetR w bx n (.slice A sa c) (.slice B sb d) (.slice A sa c) (.slice B sb d) sa sb E T) :
    Calls Try.prog 111 #[.pointer (some ⟨bx, 0, none⟩), .int .i64 x, .agg #[.int .i64 p, .int .i64 q, .int .i64 r]] w fun e w' => NetDone w bx n (.slice A sa c) (.slice B sb d) (sa + 1) (sb + 1) (E ++ [⟨p, q, r⟩]) (T ++ [x]) e w' := by
  have X0 := Lib.hid h
  have S0 := Lib.hid (NetStep.refl w bx (.slice A sa c) (.slice B sb d))
  obtain ⟨i0, hi, hz0, hz1, hz2⟩ := info_parts Try.info115
  obtain ⟨i1, hii, hy0, hy1, hy2⟩ := info_parts Try.info3
  obtain ⟨k0, k1, k2, h1, h2, s0, ng0, ng1⟩ := X0.out.facts
  clear h
  go_enter Try.func111, Try.ntmps111
  go_wp2_with fail
  go_region_law (first | (refine step_append_lies _ rfl _ _ 52 rfl (bx + 1) 115 i0 (.agg #[.int .i64 0, .int .i64 0, .int .i64 0]) 3 24 Try.underlying52 hi hz0 hz1 hz2 rfl (by decide) _ _ _ rfl ((by first | exact X0.out.rowE.alloc _ | exact ((X0.out.alloc _).rowE.alloc _) | exact X0.out.drew.rowE.alloc _ | exact ((X0.out.alloc _).drew.rowE.alloc _))) ⟨_, 0, none⟩ 1 1 _ rfl rfl (World.news_of_block (heap_made _ _ _ (by first | rfl | omega | (simp; done) | (simp; omega)))) (one_c3 _ _ _) (by decide) (by unfold maxLen; omega) (by omega) (by first | omega | (simp; done) | (simp; omega)) _ rfl ?_; intro g1 cap1 w1 ho1 hg1 hat1 hl1; have D1 := Lib.hid (NetR.growE (W := _) (by first | exact (X0.out.alloc _) | exact ((X0.out.alloc _).alloc _) | exact (X0.out.drew.alloc _) | exact ((X0.out.alloc _).drew.alloc _)) ho1 hg1 (hat1.imp id (fun h => h.trans (by first | rfl | (simp; done))))); have T1 := Lib.hid (NetStep.growE (W := _) (s := sa + 1) (cap := cap1) (by first | exact (S0.out.alloc _) | exact ((S0.out.alloc _).alloc _) | exact (S0.out.drew.alloc _) | exact ((S0.out.alloc _).drew.alloc _)) hg1 (hat1.imp id (fun h => h.trans (by first | rfl | (simp; done))))); clear hg1 ho1 hat1 hl1 k0 k1 k2 h1 h2 s0 ng0 ng1; obtain ⟨k0, k1, k2, h1, h2, s0, ng0, ng1⟩ := D1.out.facts))
  all_goals
    have X1 := Lib.hid (D1.out.store1 rfl)
    have S1 := Lib.hid (T1.out.set 1 (.slice (some ⟨g1, 0, none⟩) (sa + 1) cap1))
    go_wp2_with (at_builtin; refine wpList_append_lies _ rfl _ _ 28 rfl (bx + 1) 3 i1 (.int .i64 0) 1 8 Try.underlying28 hii hy0 hy1 hy2 rfl (by decide) _ _ _ rfl ((by first | exact X1.out.rowT.alloc _ | exact ((X1.out.alloc _).rowT.alloc _) | exact X1.out.drew.rowT.alloc _ | exact ((X1.out.alloc _).drew.rowT.alloc _))) ⟨_, 0, none⟩ 1 1 _ rfl rfl (World.news_of_block (heap_made _ _ _ (by first | rfl | omega | (simp; done) | (simp; omega)))) (one_c1 _) (by decide) (by unfold maxLen; omega) (by omega) (by first | omega | (simp; done) | (simp; omega)) _ rfl ?_)
    intro g2 cap2 w2 ho2 hg2 hat2 hl2
    ( have D2 := Lib.hid (NetR.growT (W := _) x (by first | exact (X1.out.alloc _) | exact ((X1.out.alloc _).alloc _) | exact (X1.out.drew.alloc _) | exact ((X1.out.alloc _).drew.alloc _)) (by simp [intV]) ho2 hg2 (hat2.imp id (fun h => h.trans (by first | rfl | (simp; done))))); have T2 := Lib.hid (NetStep.growT (W := _) (s := sb + 1) (cap := cap2) (by first | exact (S1.out.alloc _) | exact ((S1.out.alloc _).alloc _) | exact (S1.out.drew.alloc _) | exact ((S1.out.alloc _).drew.alloc _)) hg2 (hat2.imp id (fun h => h.trans (by first | rfl | (simp; done))))); clear hg2 ho2 hat2 hl2 k0 k1 k2 h1 h2 s0 ng0 ng1; obtain ⟨k0, k1, k2, h1, h2, s0, ng0, ng1⟩ := D2.out.facts)
    have X2 := Lib.hid (D2.out.store2 rfl)
    have S2 := Lib.hid (T2.out.set 2 (.slice (some ⟨g2, 0, none⟩) (sb + 1) cap2))
    go_wp2_with fail
    go_end0
    exact ⟨rfl, _, _, _, _, X2.out, S2.out⟩

theorem lkE_of (e : GL) : lkE e = (if e.h = 1000000 then [] else [⟨e.f, e.t, e.h⟩]) ++ (if e.l = -1000000 then [] else [⟨e.t, e.f, -e.l⟩]) := rfl
set_option maxRecDepth 100000 in
set_option maxHeartbeats 8000000 in
theorem addLink_any (bx : Nat) (n : Int) (A : Option Addr) (sa c : Nat) (B : Option Addr) (sb d : Nat) (E : List GE) (T : List Int) (i f t lo hi : Int) (w : World) (hok : okI lo hi = true) (hsa : sa ≤ 900) (hsb : sb ≤ 900) (h : NetR w bx n (.slice A sa c) (.slice B sb d) (.slice A sa c) (.slice B sb d) sa sb E T) :
    Calls Try.prog 89 #[.pointer (some ⟨bx, 0, none⟩), .int .i64 i, .agg #[.int .i64 f, .int .i64 t, .int .i64 lo, .int .i64 hi]] w fun e w' => NetDone w bx n (.slice A sa c) (.slice B sb d) (sa + (lkE ⟨f, t, lo, hi⟩).length) (sb + (lkI ⟨f, t, lo, hi⟩ i).length) (E ++ lkE ⟨f, t, lo, hi⟩) (T ++ lkI ⟨f, t, lo, hi⟩ i) e w' := by
  have hwr : IntKind.i64.wrap (-lo) = -lo := okL_wrap hok
  have hlt := h.lt
  have ltE := h.rowE.lt
  have ltT := h.rowT.lt
  have X0 := Lib.hid (h.alloc (.cells #[.int .i64 f, .int .i64 t, .int .i64 lo, .int .i64 hi] 42))
  have S0 := Lib.hid ((NetStep.refl w bx (.slice A sa c) (.slice B sb d)).alloc (.cells #[.int .i64 f, .int .i64 t, .int .i64 lo, .int .i64 hi] 42))
  have HA := Lib.hid (fun A' c' B' d' x p q r W E' T' sa' sb' h1 h2 hh => addEdge_any bx n A' sa' c' B' sb' d' E' T' x p q r W h1 h2 hh)
  have NE : Hid ((Value.slice A sa c).ownBlock ≠ some w.heap.size ∧ (Value.slice B sb d).ownBlock ≠ some w.heap.size ∧ w.heap.size ≠ bx) := Lib.hid ⟨fun e => by have := (ltE _ e).2; omega, fun e => by have := (ltT _ e).2; omega, by omega⟩
  have ng : (bx = w.heap.size) = False := eq_false (by omega)
  have ng2 : (w.heap.size = bx) = False := eq_false (by omega)
  clear h ltE ltT
  by_cases hH : hi = 1000000
  · subst hH
    have nH : ((1000000 : Int) != 1000000) = false := by simp
    by_cases hL : lo = -1000000
    · subst hL
      have nL : ((-1000000 : Int) != -1000000) = false := by simp
      go_enter Try.func89, Try.ntmps89
      go_wp2_with fail
      go_end0
      exact ⟨rfl, A, c, B, d, by simpa [lkE, lkH, lkL, lkI] using X0.out, S0.out⟩
    · have nL : (lo != -1000000) = true := by simp [hL]
      have HL := Lib.hid hL
      clear hL
      go_enter Try.func89, Try.ntmps89
      go_wp2_with fail
      refine (HA.out A c B d _ _ _ _ _ _ _ _ _ (by omega) (by omega) X0.out).mono ?_
      rintro e w1 ⟨rfl, A1, c1, B1, d1, x1, s1⟩
      go_wp2_with fail
      go_end0
      have e1 : lkE ⟨f, t, lo, 1000000⟩ = [⟨t, f, -lo⟩] := by simp [lkE, lkH, lkL, HL.out]
      have e2 : lkI ⟨f, t, lo, 1000000⟩ i = [i] := by simp [lkI, HL.out]
      rw [e1, e2]
      exact ⟨rfl, A1, c1, B1, d1, x1, S0.out.trans s1⟩
  · have nH : (hi != 1000000) = true := by simp [hH]
    have HH := Lib.hid hH
    clear hH
    by_cases hL : lo = -1000000
    · subst hL
      have nL : ((-1000000 : Int) != -1000000) = false := by simp
      go_enter Try.func89, Try.ntmps89
      go_wp2_with fail
      refine (HA.out A c B d _ _ _ _ _ _ _ _ _ (by omega) (by omega) X0.out).mono ?_
      rintro e w1 ⟨rfl, A1, c1, B1, d1, x1, s1⟩
      have q0 : w1.cell? ⟨w.heap.size, 0, none⟩ = some (.int .i64 f) := s1.beside (by go_simp) (by simp) NE.out.2.2 NE.out.1 NE.out.2.1
      have q1 : w1.cell? ⟨w.heap.size, 1, none⟩ = some (.int .i64 t) := s1.beside (by go_simp) (by simp) NE.out.2.2 NE.out.1 NE.out.2.1
      have q2 : w1.cell? ⟨w.heap.size, 2, none⟩ = some (.int .i64 (-1000000)) := s1.beside (by go_simp) (by simp) NE.out.2.2 NE.out.1 NE.out.2.1
      have q3 : w1.cell? ⟨w.heap.size, 3, none⟩ = some (.int .i64 hi) := s1.beside (by go_simp) (by simp) NE.out.2.2 NE.out.1 NE.out.2.1
      have X1 := Lib.hid x1
      have S1 := Lib.hid (S0.out.trans s1)
      clear x1 s1
      go_wp2_with fail
      go_end0
      have e1 : lkE ⟨f, t, -1000000, hi⟩ = [⟨f, t, hi⟩] := by simp [lkE, lkH, lkL, HH.out]
      have e2 : lkI ⟨f, t, -1000000, hi⟩ i = [i] := by simp [lkI, HH.out]
      rw [e1, e2]
      exact ⟨rfl, A1, c1, B1, d1, X1.out, S1.out⟩
    · have nL : (lo != -1000000) = true := by simp [hL]
      have HL := Lib.hid hL
      clear hL
      go_enter Try.func89, Try.ntmps89
      go_wp2_with fail
      refine (HA.out A c B d _ _ _ _ _ _ _ _ _ (by omega) (by omega) X0.out).mono ?_
      rintro e w1 ⟨rfl, A1, c1, B1, d1, x1, s1⟩
      have q0 : w1.cell? ⟨w.heap.size, 0, none⟩ = some (.int .i64 f) := s1.beside (by go_simp) (by simp) NE.out.2.2 NE.out.1 NE.out.2.1
      have q1 : w1.cell? ⟨w.heap.size, 1, none⟩ = some (.int .i64 t) := s1.beside (by go_simp) (by simp) NE.out.2.2 NE.out.1 NE.out.2.1
      have q2 : w1.cell? ⟨w.heap.size, 2, none⟩ = some (.int .i64 lo) := s1.beside (by go_simp) (by simp) NE.out.2.2 NE.out.1 NE.out.2.1
      have q3 : w1.cell? ⟨w.heap.size, 3, none⟩ = some (.int .i64 hi) := s1.beside (by go_simp) (by simp) NE.out.2.2 NE.out.1 NE.out.2.1
      have X1 := Lib.hid x1
      have S1 := Lib.hid (S0.out.trans s1)
      clear x1 s1
      go_wp2_with fail
      refine (HA.out A1 c1 B1 d1 _ _ _ _ _ _ _ _ _ (by omega) (by omega) X1.out).mono ?_
      rintro e w2 ⟨rfl, A2, c2, B2, d2, x2, s2⟩
      have X2 := Lib.hid x2
      have S2 := Lib.hid (S1.out.trans s2)
      clear x2 s2
      go_wp2_with fail
      go_end0
      have e1 : lkE ⟨f, t, lo, hi⟩ = [⟨f, t, hi⟩, ⟨t, f, -lo⟩] := by simp [lkE, lkH, lkL, HH.out, HL.out]
      have e2 : lkI ⟨f, t, lo, hi⟩ i = [i, i] := by simp [lkI, HH.out, HL.out]
      rw [e1, e2]
      exact ⟨rfl, A2, c2, B2, d2, by simpa using X2.out, S2.out⟩

end Go.Proofs.Ytnhdfnfiicioiaa
