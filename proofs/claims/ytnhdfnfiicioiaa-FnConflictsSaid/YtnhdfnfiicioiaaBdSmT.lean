/-
  WALKS of spec.l05Times, spec.BrokenLink and spec.IsSchedule.
  WALKS of markEdgeS, markGraph.
  TABLES: a table that comes in; WALKS of the laws' helpers over tables: szIntS, szTable, toTable, eqTable, markTable, heldTable.
  WALK of impl.GraphOk: a graph that is one.
  WALKS of hasEdge, sumOf, spec.PathWeight and impl.PathWeight: the sum of the weights of the edges with these indices.
  WALKS of spec.PathWeight and impl.PathWeight.
  WALKS of spec.IsNegativeCycle, isClosedWalk and impl.IsNegativeCycle.
-/
import Derived.Test.YtnhdfnfiicioiaaBdSmO
import Derived.Test.YtnhdfnfiicioiaaBdIvOk
import Derived.Deep.RegionHeld3
import Derived.Deep.CutRange
import Derived.Test.YtnhdfnfiicioiaaBdDig
import Derived.Lib.SmallJoins
import Derived.Deep.Slices
import Derived.Deep.RegionWith
namespace Go.Proofs.Ytnhdfnfiicioiaa
open Go.RowKit
set_option linter.unusedVariables false
set_option linter.unusedSimpArgs false

def inB (x : Int) : Bool := decide (-1000000 ≤ x) && decide (x ≤ 1000000)
/-- Times that fit a valid network. -/
def tmR (n : Int) (es : List GL) (ts : List Int) : Bool := okS n es && decide ((ts.length : Int) = n) && ts.all inB
def holdsL (ts : List Int) (e : GL) : Bool := inI e.l e.h (ts[e.t.toNat]?.getD 0 - ts[e.f.toNat]?.getD 0)
def brJ (es : List GL) (ts : List Int) : Int := if es.findIdx (fun e => !holdsL ts e) < es.length then (es.findIdx (fun e => !holdsL ts e) : Nat) else -1
def brR (n : Int) (es : List GL) (ts : List Int) : Int := if tmR n es ts then brJ es ts else -1
def schR (n : Int) (es : List GL) (ts : List Int) : Bool := tmR n es ts && decide (ts[0]?.getD 0 = 0) && decide (brR n es ts < 0)
theorem tmR_ok {n : Int} {es : List GL} {ts : List Int} (h : tmR n es ts = true) : okS n es = true ∧ (ts.length : Int) = n ∧ ∀ x ∈ ts, -1000000 ≤ x ∧ x ≤ 1000000 := by
  unfold tmR at h
  rw [Bool.and_eq_true, Bool.and_eq_true, List.all_eq_true] at h
  refine ⟨h.1.1, of_decide_eq_true h.1.2, fun x hx => ?_⟩
  have := h.2 x hx
  unfold inB at this
  rw [Bool.and_eq_true] at this
  exact ⟨of_decide_eq_true this.1, of_decide_eq_true this.2⟩
theorem allI_take_of (ts : List Int) (k : Nat) (h : k < ts.length) (ha : (ts.take k).all inB = true) (hp : inB ts[k] = true) : (ts.take (k + 1)).all inB = true := by
  rw [List.take_add_one, List.getElem?_eq_getElem h, List.all_append, ha]; simpa using hp
theorem tmR_not {n : Int} {es : List GL} {ts : List Int} {k : Nat} (h : k < ts.length) (hp : inB ts[k] = false) : tmR n es ts = false := by
  have : ts.all inB = false := by rw [List.all_eq_false]; exact ⟨ts[k], List.getElem_mem _, by simp [hp]⟩
  unfold tmR; rw [this, Bool.and_false]
theorem tmR_yes {n : Int} {es : List GL} {ts : List Int} (h : okS n es = true) (hl : (ts.length : Int) = n) (ha : (ts.take ts.length).all inB = true) : tmR n es ts = true := by
  rw [List.take_of_length_le (Nat.le_refl _)] at ha
  unfold tmR; rw [h, decide_eq_true hl, ha]; rfl
theorem brJ_at {es : List GL} {ts : List Int} {j : Nat} (hj : j < es.length) (ha : (es.take j).all (holdsL ts) = true) (hp : holdsL ts es[j] = false) : brJ es ts = j := by
  have h : es.findIdx (fun e => !holdsL ts e) = j := by
    rw [List.findIdx_eq hj]
    refine ⟨by simp [hp], fun i hi => ?_⟩
    rw [List.all_eq_true] at ha
    have := ha es[i] (List.mem_take_iff_getElem.2 ⟨i, by omega, rfl⟩)
    simp [this]
  unfold brJ; rw [h, if_pos hj]
theorem brJ_none {es : List GL} {ts : List Int} (ha : (es.take es.length).all (holdsL ts) = true) : brJ es ts = -1 := by
  rw [List.take_of_length_le (Nat.le_refl _)] at ha
  rw [List.all_eq_true] at ha
  have h : es.findIdx (fun e => !holdsL ts e) = es.length := by
    rw [List.findIdx_eq_length]
    intro x hx
    simp [ha x hx]
  unfold brJ; rw [h, if_neg (by omega)]
theorem allH_take_of (es : List GL) (ts : List Int) (k : Nat) (h : k < es.length) (ha : (es.take k).all (holdsL ts) = true) (hp : holdsL ts es[k] = true) : (es.take (k + 1)).all (holdsL ts) = true := allL_take_of es _ k h ha hp
theorem brJ_rng (es : List GL) (ts : List Int) : -1 ≤ brJ es ts := by unfold brJ; split <;> omega
theorem row_get {w : World} {A : Option Addr} {zs : List Int} (h : RowAt w A (zs.map intV)) {q : Nat} (hq : q < zs.length) : ∃ g o, A = some ⟨g, o, none⟩ ∧ g < w.heap.size ∧ w.cell? ⟨g, o + q, none⟩ = some (.int .i64 zs[q]) := by
  obtain ⟨g, o, hA, hg, hc⟩ := h (by simp; omega)
  refine ⟨g, o, hA, hg, ?_⟩
  have := hc q (by simp; omega)
  simpa [intV] using this

set_option maxRecDepth 100000 in
set_option maxHeartbeats 8000000 in
theorem spec_l05Times (n : Int) (es : List GL) (A : Option Addr) (k c : Nat) (ts : List Int) (T : Option Addr) (m d : Nat) (w : World) (hn : es.length = k) (hm : k ≤ 1048576) (hl : ts.length = m) (hr : LinkAt w A es) (ht : RowAt w T (ts.map intV)) :
    Calls Try.prog 83 #[grV n A k c, .slice T m d] w fun e w' => e = .returned (.bool (tmR n es ts)) ∧ Below w.heap.size w w' := by
  have HS := Lib.hid (fun W h => spec_SimpleOk n es A k c W hn hm h)
  have HR := Lib.hid hr
  have HT := Lib.hid ht
  have HL := Lib.hid hl
  clear hr hn ht hl
  obtain ⟨ok, hok⟩ : ∃ b, b = okS n es := ⟨_, rfl⟩
  rw [← hok] at HS
  have HO := Lib.hid hok.symm
  clear hok
  unfold grV at HS ⊢
  cases ok with
  | false =>
    go_enter Try.func83, Try.ntmps83
    go_wp2_with fail
    refine (HS.out _ (HR.out.below (by repeat (first | exact Below.refl _ _ | refine below_step (by assumption) (by first | omega | (simp; done) | (simp; omega)) ?_ | refine below_drewN ?_ _ | refine Below.drew ?_ | refine Below.setCell ?_ (by first | omega | (simp; done) | (simp; omega)) _ | refine Below.alloc ?_ (by first | omega | (simp; done) | (simp; omega)) _)))).mono ?_
    rintro e w1 ⟨rfl, b1⟩
    go_wp2_with fail
    go_ret
    exact ⟨ret_b (by unfold tmR; rw [HO.out]; rfl), (by repeat (first | exact Below.refl _ _ | refine below_step (by assumption) (by first | omega | (simp; done) | (simp; omega)) ?_ | refine below_drewN ?_ _ | refine Below.drew ?_ | refine Below.setCell ?_ (by first | omega | (simp; done) | (simp; omega)) _ | refine Below.alloc ?_ (by first | omega | (simp; done) | (simp; omega)) _))⟩
  | true =>
    by_cases hmn : (m : Int) = n
    · have hne : ((m : Int) != n) = false := by simp [hmn]
      have hm8 : m ≤ 8 := by have := okS_rng HO.out; omega
      go_enter Try.func83, Try.ntmps83
      go_wp2_with fail
      refine (HS.out _ (HR.out.below (by repeat (first | exact Below.refl _ _ | refine below_step (by assumption) (by first | omega | (simp; done) | (simp; omega)) ?_ | refine below_drewN ?_ _ | refine Below.drew ?_ | refine Below.setCell ?_ (by first | omega | (simp; done) | (simp; omega)) _ | refine Below.alloc ?_ (by first | omega | (simp; done) | (simp; omega)) _)))).mono ?_
      rintro e w1 ⟨rfl, b1⟩
      have c0_w1 : w1.cell? ⟨w.heap.size, 0, none⟩ = some (.int .i64 n) := (b1.cell (p := ⟨w.heap.size, 0, none⟩) (by first | omega | (simp; done) | (simp; omega))).trans (by first | assumption | go_simp)
      have c1_w1 : w1.cell? ⟨w.heap.size, 1, none⟩ = some (.slice A k c) := (b1.cell (p := ⟨w.heap.size, 1, none⟩) (by first | omega | (simp; done) | (simp; omega))).trans (by first | assumption | go_simp)
      have s0_w1 : w.heap.size < w1.heap.size := Nat.lt_of_lt_of_le (by first | omega | (simp; done) | (simp; omega)) b1.size
      have B1 : Below w.heap.size w w1 := (by repeat (first | exact Below.refl _ _ | refine below_step (by assumption) (by first | omega | (simp; done) | (simp; omega)) ?_ | refine below_drewN ?_ _ | refine Below.drew ?_ | refine Below.setCell ?_ (by first | omega | (simp; done) | (simp; omega)) _ | refine Below.alloc ?_ (by first | omega | (simp; done) | (simp; omega)) _))
      clear b1
      go_wp2_with fail
      go_loopw [19] (fun i wr => ∃ j : Nat, j ≤ m ∧ i = .int .i64 j ∧ (ts.take j).all inB = true ∧ wr = w1) (fun i _ => m - (intOf i).toNat)
      case atStart => exact ⟨0, Nat.zero_le _, rfl, rfl, rfl⟩
      case round =>
        obtain ⟨j, hj, rfl, hall, rfl⟩ := hrel
        have HA := Lib.hid hall
        clear hall
        by_cases hlt : j < m
        · obtain ⟨g, o, rfl, hg, hc⟩ := row_get (HT.out.below B1) (q := j) (by have := HL.out; omega)
          have HK1 := Lib.hid (allI_take_of ts j (by have := HL.out; omega) HA.out)
          have HK2 := Lib.hid (tmR_not (n := n) (es := es) (ts := ts) (k := j) (by have := HL.out; omega))
          obtain ⟨x, hx⟩ : ∃ x, x = ts[j]'(by have := HL.out; omega) := ⟨_, rfl⟩
          rw [← hx] at hc HK1 HK2
          have h0 := l01In_any x (-1000000) 1000000
          have hb : inB x = (decide (-1000000 ≤ x) && decide (x ≤ 1000000)) := rfl
          obtain ⟨b, hbb⟩ : ∃ b, b = inB x := ⟨_, rfl⟩
          rw [← hbb] at HK1 HK2
          rw [← hb, ← hbb] at h0
          have H0 := Lib.hid h0
          clear h0 hb hbb hx
          cases b with
          | false =>
            go_wp2_with (go_at_call 71; refine (H0.out _).mono ?_; rintro x w2 ⟨rfl, rfl⟩)
            go_ret
            exact ⟨ret_b (HK2.out (by simp)).symm, B1⟩
          | true =>
            go_wp2_with (go_at_call 71; refine (H0.out _).mono ?_; rintro x w2 ⟨rfl, rfl⟩)
            go_roundw
            case rel => exact ⟨j + 1, by omega, by go_num, HK1.out (by simp), by first | rfl | trivial⟩
            case measure => simp [intOf]; omega
        · go_wp2_with fail
          go_ret
          have hl := HL.out
          exact ⟨ret_b (tmR_yes HO.out (by omega) (by have := HA.out; rw [show j = ts.length from by omega] at this; exact this)).symm, B1⟩
    · have hne : ((m : Int) != n) = true := by simp [hmn]
      go_enter Try.func83, Try.ntmps83
      go_wp2_with fail
      refine (HS.out _ (HR.out.below (by repeat (first | exact Below.refl _ _ | refine below_step (by assumption) (by first | omega | (simp; done) | (simp; omega)) ?_ | refine below_drewN ?_ _ | refine Below.drew ?_ | refine Below.setCell ?_ (by first | omega | (simp; done) | (simp; omega)) _ | refine Below.alloc ?_ (by first | omega | (simp; done) | (simp; omega)) _)))).mono ?_
      rintro e w1 ⟨rfl, b1⟩
      have c0_w1 : w1.cell? ⟨w.heap.size, 0, none⟩ = some (.int .i64 n) := (b1.cell (p := ⟨w.heap.size, 0, none⟩) (by first | omega | (simp; done) | (simp; omega))).trans (by first | assumption | go_simp)
      have c1_w1 : w1.cell? ⟨w.heap.size, 1, none⟩ = some (.slice A k c) := (b1.cell (p := ⟨w.heap.size, 1, none⟩) (by first | omega | (simp; done) | (simp; omega))).trans (by first | assumption | go_simp)
      have s0_w1 : w.heap.size < w1.heap.size := Nat.lt_of_lt_of_le (by first | omega | (simp; done) | (simp; omega)) b1.size
      go_wp2_with fail
      go_ret
      exact ⟨ret_b (by have := HL.out; unfold tmR; rw [HO.out, decide_eq_false (by omega)]; rfl), (by repeat (first | exact Below.refl _ _ | refine below_step (by assumption) (by first | omega | (simp; done) | (simp; omega)) ?_ | refine below_drewN ?_ _ | refine Below.drew ?_ | refine Below.setCell ?_ (by first | omega | (simp; done) | (simp; omega)) _ | refine Below.alloc ?_ (by first | omega | (simp; done) | (simp; omega)) _))⟩

set_option maxRecDepth 100000 in
set_option maxHeartbeats 8000000 in
theorem spec_BrokenLink (n : Int) (es : List GL) (A : Option Addr) (k c : Nat) (ts : List Int) (T : Option Addr) (m d : Nat) (w : World) (hn : es.length = k) (hm : k ≤ 1048576) (hl : ts.length = m) (hr : LinkAt w A es) (ht : RowAt w T (ts.map intV)) :
    Calls Try.prog 46 #[grV n A k c, .slice T m d] w fun e w' => e = .returned (.int .i64 (brR n es ts)) ∧ Below w.heap.size w w' := by
  have HS := Lib.hid (fun W h h2 => spec_l05Times n es A k c ts T m d W hn hm hl h h2)
  have HR := Lib.hid hr
  have HT := Lib.hid ht
  have HL := Lib.hid hl
  have HN := Lib.hid hn
  clear hr hn ht hl
  obtain ⟨ok, hok⟩ : ∃ b, b = tmR n es ts := ⟨_, rfl⟩
  rw [← hok] at HS
  have HO := Lib.hid hok.symm
  clear hok
  unfold grV at HS ⊢
  cases ok with
  | false =>
    go_enter Try.func46, Try.ntmps46
    go_wp2_with fail
    refine (HS.out _ (HR.out.below (by repeat (first | exact Below.refl _ _ | refine below_step (by assumption) (by first | omega | (simp; done) | (simp; omega)) ?_ | refine below_drewN ?_ _ | refine Below.drew ?_ | refine Below.setCell ?_ (by first | omega | (simp; done) | (simp; omega)) _ | refine Below.alloc ?_ (by first | omega | (simp; done) | (simp; omega)) _))) (HT.out.below (by repeat (first | exact Below.refl _ _ | refine below_step (by assumption) (by first | omega | (simp; done) | (simp; omega)) ?_ | refine below_drewN ?_ _ | refine Below.drew ?_ | refine Below.setCell ?_ (by first | omega | (simp; done) | (simp; omega)) _ | refine Below.alloc ?_ (by first | omega | (simp; done) | (simp; omega)) _)))).mono ?_
    rintro e w1 ⟨rfl, b1⟩
    go_wp2_with fail
    go_ret
    exact ⟨int_ans (by unfold brR; rw [HO.out]; rfl), (by repeat (first | exact Below.refl _ _ | refine below_step (by assumption) (by first | omega | (simp; done) | (simp; omega)) ?_ | refine below_drewN ?_ _ | refine Below.drew ?_ | refine Below.setCell ?_ (by first | omega | (simp; done) | (simp; omega)) _ | refine Below.alloc ?_ (by first | omega | (simp; done) | (simp; omega)) _))⟩
  | true =>
    have hbr : brR n es ts = brJ es ts := by unfold brR; rw [if_pos HO.out]
    rw [hbr]
    clear hbr
    obtain ⟨hok, hln, hrg⟩ := tmR_ok HO.out
    have HOK := Lib.hid hok
    have HLN := Lib.hid hln
    have HRG := Lib.hid hrg
    have hk40 : k ≤ 40 := by have := okS_rng hok; have := HN.out; omega
    clear hok hln hrg
    go_enter Try.func46, Try.ntmps46
    go_wp2_with fail
    refine (HS.out _ (HR.out.below (by repeat (first | exact Below.refl _ _ | refine below_step (by assumption) (by first | omega | (simp; done) | (simp; omega)) ?_ | refine below_drewN ?_ _ | refine Below.drew ?_ | refine Below.setCell ?_ (by first | omega | (simp; done) | (simp; omega)) _ | refine Below.alloc ?_ (by first | omega | (simp; done) | (simp; omega)) _))) (HT.out.below (by repeat (first | exact Below.refl _ _ | refine below_step (by assumption) (by first | omega | (simp; done) | (simp; omega)) ?_ | refine below_drewN ?_ _ | refine Below.drew ?_ | refine Below.setCell ?_ (by first | omega | (simp; done) | (simp; omega)) _ | refine Below.alloc ?_ (by first | omega | (simp; done) | (simp; omega)) _)))).mono ?_
    rintro e w1 ⟨rfl, b1⟩
    have c0_w1 : w1.cell? ⟨w.heap.size, 0, none⟩ = some (.int .i64 n) := (b1.cell (p := ⟨w.heap.size, 0, none⟩) (by first | omega | (simp; done) | (simp; omega))).trans (by first | assumption | go_simp)
    have c1_w1 : w1.cell? ⟨w.heap.size, 1, none⟩ = some (.slice A k c) := (b1.cell (p := ⟨w.heap.size, 1, none⟩) (by first | omega | (simp; done) | (simp; omega))).trans (by first | assumption | go_simp)
    have s0_w1 : w.heap.size < w1.heap.size := Nat.lt_of_lt_of_le (by first | omega | (simp; done) | (simp; omega)) b1.size
    have B1 : Below w.heap.size w w1 := (by repeat (first | exact Below.refl _ _ | refine below_step (by assumption) (by first | omega | (simp; done) | (simp; omega)) ?_ | refine below_drewN ?_ _ | refine Below.drew ?_ | refine Below.setCell ?_ (by first | omega | (simp; done) | (simp; omega)) _ | refine Below.alloc ?_ (by first | omega | (simp; done) | (simp; omega)) _))
    have HT1 := Lib.hid (HT.out.below B1)
    clear b1
    go_wp2_with fail
    go_loopw [14] (fun i wr => ∃ j : Nat, j ≤ k ∧ i = .int .i64 j ∧ (es.take j).all (holdsL ts) = true ∧ Below w1.heap.size w1 wr) (fun i _ => k - (intOf i).toNat)
    case atStart => exact ⟨0, Nat.zero_le _, rfl, rfl, Below.refl _ _⟩
    case round =>
      obtain ⟨j, hj, rfl, hall, hbw⟩ := hrel
      have HA := Lib.hid hall
      clear hall
      by_cases hlt : j < k
      · have hl := HN.out
        have hbww := B1.trans (hbw.mono B1.size)
        obtain ⟨g, o, rfl, hg, hc⟩ := (HR.out.below hbww) (by omega)
        obtain ⟨c0, c1, c2, c3⟩ := hc j (by omega)
        have hlk := okS_link HOK.out (List.getElem_mem (show j < es.length by omega))
        have HK1 := Lib.hid (allH_take_of es ts j (by omega) HA.out)
        have HK2 := Lib.hid (brJ_at (ts := ts) (show j < es.length by omega) HA.out)
        obtain ⟨e, he⟩ : ∃ e, e = es[j]'(by omega) := ⟨_, rfl⟩
        rw [← he] at c0 c1 c2 c3 hlk HK1 HK2
        obtain ⟨u, v, lo, hi⟩ := e
        obtain ⟨⟨hu0, hun⟩, ⟨hv0, hvn⟩, _⟩ := hlk
        dsimp only at c0 c1 c2 c3 hu0 hun hv0 hvn
        obtain ⟨x, rfl⟩ : ∃ x : Nat, u = x := ⟨u.toNat, by omega⟩
        obtain ⟨y, rfl⟩ : ∃ y : Nat, v = y := ⟨v.toNat, by omega⟩
        have hlm := HL.out
        have hln := HLN.out
        have hx : x < ts.length := by omega
        have hy : y < ts.length := by omega
        obtain ⟨g2, o2, hT2, hg2, x1⟩ := row_get (HT1.out.below hbw) hx
        obtain ⟨g3, o3, hT3, hg3, x2⟩ := row_get (HT1.out.below hbw) hy
        rw [hT2] at hT3
        injection hT3 with hT3
        injection hT3 with h4 h5
        subst h4 h5 hT2
        have ra := HRG.out ts[x] (List.getElem_mem _)
        have rb := HRG.out ts[y] (List.getElem_mem _)
        have hho : holdsL ts ⟨(x : Int), (y : Int), lo, hi⟩ = inI lo hi (ts[y] - ts[x]) := by unfold holdsL; dsimp only; simp [List.getElem?_eq_getElem hx, List.getElem?_eq_getElem hy]
        obtain ⟨p, hp⟩ : ∃ p, p = ts[x] := ⟨_, rfl⟩
        obtain ⟨q, hq⟩ : ∃ q, q = ts[y] := ⟨_, rfl⟩
        rw [← hp] at x1 ra
        rw [← hq] at x2 rb
        rw [← hp, ← hq] at hho
        have hwp : IntKind.i64.wrap (q - p) = q - p := (IntWalk.i64_left _).trans (by unfold wrap64; omega)
        have b1x : (0 : Int) ≤ (x : Int) := by omega
        have b2x : (x : Int) < (m : Int) := by omega
        have b1y : (0 : Int) ≤ (y : Int) := by omega
        have b2y : (y : Int) < (m : Int) := by omega
        have ng2 : (g = wr.heap.size) = False := eq_false (by omega)
        have ng3 : (g2 = wr.heap.size) = False := eq_false (by omega)
        obtain ⟨b, hb⟩ : ∃ b, b = inI lo hi (q - p) := ⟨_, rfl⟩
        rw [hho, ← hb] at HK1 HK2
        have hcc := spec_Contains lo hi (q - p)
        rw [← hb] at hcc
        unfold ivV at hcc
        have HC := Lib.hid hcc
        have HB := Lib.hid hbww
        clear hc he hl hu0 hun hv0 hvn hlm hln hx hy ra rb hho hp hq hb hcc hbww
        obtain ⟨wa, hwa⟩ : ∃ W, W = wr.alloc (.cells #[.int .i64 x, .int .i64 y, .int .i64 lo, .int .i64 hi] 42) := ⟨_, rfl⟩
        have ba : Below wr.heap.size wr wa := by rw [hwa]; exact (Below.refl _ _).alloc (Nat.le_refl _) _
        have m0 : wa.cell? ⟨wr.heap.size, 0, none⟩ = some (.int .i64 x) := by rw [hwa]; go_simp
        have m1 : wa.cell? ⟨wr.heap.size, 1, none⟩ = some (.int .i64 y) := by rw [hwa]; go_simp
        have m2 : wa.cell? ⟨wr.heap.size, 2, none⟩ = some (.int .i64 lo) := by rw [hwa]; go_simp
        have m3 : wa.cell? ⟨wr.heap.size, 3, none⟩ = some (.int .i64 hi) := by rw [hwa]; go_simp
        have y1 := (ba.cell (p := ⟨g2, o2 + x, none⟩) hg2).trans x1
        have y2 := (ba.cell (p := ⟨g2, o2 + y, none⟩) hg2).trans x2
        have sza : wr.heap.size < wa.heap.size := by rw [hwa]; simp
        cases b with
        | false =>
          go_upto_region 6 with (fail)
          rw [← hwa]
          clear hwa
          go_region_held3 (fun W => W.cell? ⟨wr.heap.size, 0, none⟩ = some (.int .i64 x) ∧ W.cell? ⟨wr.heap.size, 1, none⟩ = some (.int .i64 y) ∧ W.cell? ⟨wr.heap.size, 2, none⟩ = some (.int .i64 lo) ∧ W.cell? ⟨wr.heap.size, 3, none⟩ = some (.int .i64 hi) ∧ W.cell? ⟨g2, o2 + x, none⟩ = some (.int .i64 p) ∧ W.cell? ⟨g2, o2 + y, none⟩ = some (.int .i64 q)) (go_keep) (first | (go_at_call 84; refine (HC.out _).mono ?_; rintro e w3 ⟨rfl, b3⟩; have q0 : w3.cell? ⟨wr.heap.size, 0, none⟩ = some (.int .i64 x) := (b3.cell (p := ⟨wr.heap.size, 0, none⟩) (by first | omega | (simp; done) | (simp; omega))).trans m0; have q1 : w3.cell? ⟨wr.heap.size, 1, none⟩ = some (.int .i64 y) := (b3.cell (p := ⟨wr.heap.size, 1, none⟩) (by first | omega | (simp; done) | (simp; omega))).trans m1; have q2 : w3.cell? ⟨wr.heap.size, 2, none⟩ = some (.int .i64 lo) := (b3.cell (p := ⟨wr.heap.size, 2, none⟩) (by first | omega | (simp; done) | (simp; omega))).trans m2; have q3 : w3.cell? ⟨wr.heap.size, 3, none⟩ = some (.int .i64 hi) := (b3.cell (p := ⟨wr.heap.size, 3, none⟩) (by first | omega | (simp; done) | (simp; omega))).trans m3; have q4 : w3.cell? ⟨g2, o2 + x, none⟩ = some (.int .i64 p) := (b3.cell (p := ⟨g2, o2 + x, none⟩) (by first | omega | (simp; done) | (simp; omega))).trans y1; have q5 : w3.cell? ⟨g2, o2 + y, none⟩ = some (.int .i64 q) := (b3.cell (p := ⟨g2, o2 + y, none⟩) (by first | omega | (simp; done) | (simp; omega))).trans y2))
          all_goals go_wp2_with fail
          all_goals go_ret
          all_goals exact ⟨int_ans (HK2.out (by simp)).symm, HB.out.trans ((ba.trans ((Below.refl _ _).drew.trans (b3.mono (by first | exact Nat.le_refl _ | (simp; done))) |>.mono ba.size)).mono HB.out.size)⟩
        | true =>
          go_upto_region 6 with (fail)
          rw [← hwa]
          clear hwa
          go_region_held3 (fun W => W.cell? ⟨wr.heap.size, 0, none⟩ = some (.int .i64 x) ∧ W.cell? ⟨wr.heap.size, 1, none⟩ = some (.int .i64 y) ∧ W.cell? ⟨wr.heap.size, 2, none⟩ = some (.int .i64 lo) ∧ W.cell? ⟨wr.heap.size, 3, none⟩ = some (.int .i64 hi) ∧ W.cell? ⟨g2, o2 + x, none⟩ = some (.int .i64 p) ∧ W.cell? ⟨g2, o2 + y, none⟩ = some (.int .i64 q)) (go_keep) (first | (go_at_call 84; refine (HC.out _).mono ?_; rintro e w3 ⟨rfl, b3⟩; have q0 : w3.cell? ⟨wr.heap.size, 0, none⟩ = some (.int .i64 x) := (b3.cell (p := ⟨wr.heap.size, 0, none⟩) (by first | omega | (simp; done) | (simp; omega))).trans m0; have q1 : w3.cell? ⟨wr.heap.size, 1, none⟩ = some (.int .i64 y) := (b3.cell (p := ⟨wr.heap.size, 1, none⟩) (by first | omega | (simp; done) | (simp; omega))).trans m1; have q2 : w3.cell? ⟨wr.heap.size, 2, none⟩ = some (.int .i64 lo) := (b3.cell (p := ⟨wr.heap.size, 2, none⟩) (by first | omega | (simp; done) | (simp; omega))).trans m2; have q3 : w3.cell? ⟨wr.heap.size, 3, none⟩ = some (.int .i64 hi) := (b3.cell (p := ⟨wr.heap.size, 3, none⟩) (by first | omega | (simp; done) | (simp; omega))).trans m3; have q4 : w3.cell? ⟨g2, o2 + x, none⟩ = some (.int .i64 p) := (b3.cell (p := ⟨g2, o2 + x, none⟩) (by first | omega | (simp; done) | (simp; omega))).trans y1; have q5 : w3.cell? ⟨g2, o2 + y, none⟩ = some (.int .i64 q) := (b3.cell (p := ⟨g2, o2 + y, none⟩) (by first | omega | (simp; done) | (simp; omega))).trans y2))
          all_goals go_wp2_with fail
          all_goals go_roundw
          all_goals (first | (case rel => exact ⟨j + 1, by omega, by go_num, HK1.out (by simp), hbw.trans ((ba.trans ((Below.refl _ _).drew.trans (b3.mono (by first | exact Nat.le_refl _ | (simp; done))) |>.mono ba.size)).mono hbw.size)⟩) | (case measure => simp [intOf]; omega))
      · go_wp2_with fail
        go_ret
        have hl := HN.out
        exact ⟨int_ans (brJ_none (by have := HA.out; rw [show j = es.length from by omega] at this; exact this)).symm, B1.trans (hbw.mono B1.size)⟩

set_option maxRecDepth 100000 in
set_option maxHeartbeats 8000000 in
theorem spec_IsSchedule (n : Int) (es : List GL) (A : Option Addr) (k c : Nat) (ts : List Int) (T : Option Addr) (m d : Nat) (w : World) (hn : es.length = k) (hm : k ≤ 1048576) (hl : ts.length = m) (hr : LinkAt w A es) (ht : RowAt w T (ts.map intV)) :
    Calls Try.prog 48 #[grV n A k c, .slice T m d] w fun e w' => e = .returned (.bool (schR n es ts)) ∧ Below w.heap.size w w' := by
  have HS := Lib.hid (fun W h h2 => spec_l05Times n es A k c ts T m d W hn hm hl h h2)
  have HBR := Lib.hid (fun W h h2 => spec_BrokenLink n es A k c ts T m d W hn hm hl h h2)
  have HR := Lib.hid hr
  have HT := Lib.hid ht
  have HL := Lib.hid hl
  clear hr hn ht hl
  obtain ⟨ok, hok⟩ : ∃ b, b = tmR n es ts := ⟨_, rfl⟩
  rw [← hok] at HS
  have HO := Lib.hid hok.symm
  clear hok
  obtain ⟨q, hq⟩ : ∃ q, q = brR n es ts := ⟨_, rfl⟩
  rw [← hq] at HBR
  have HQ := Lib.hid hq.symm
  clear hq
  unfold grV at HS HBR ⊢
  cases ok with
  | false =>
    go_enter Try.func48, Try.ntmps48
    go_wp2_with fail
    refine (HS.out _ (HR.out.below (by repeat (first | exact Below.refl _ _ | refine below_step (by assumption) (by first | omega | (simp; done) | (simp; omega)) ?_ | refine below_drewN ?_ _ | refine Below.drew ?_ | refine Below.setCell ?_ (by first | omega | (simp; done) | (simp; omega)) _ | refine Below.alloc ?_ (by first | omega | (simp; done) | (simp; omega)) _))) (HT.out.below (by repeat (first | exact Below.refl _ _ | refine below_step (by assumption) (by first | omega | (simp; done) | (simp; omega)) ?_ | refine below_drewN ?_ _ | refine Below.drew ?_ | refine Below.setCell ?_ (by first | omega | (simp; done) | (simp; omega)) _ | refine Below.alloc ?_ (by first | omega | (simp; done) | (simp; omega)) _)))).mono ?_
    rintro e w1 ⟨rfl, b1⟩
    go_wp2_with fail
    go_ret
    exact ⟨ret_b (by unfold schR; rw [HO.out]; rfl), (by repeat (first | exact Below.refl _ _ | refine below_step (by assumption) (by first | omega | (simp; done) | (simp; omega)) ?_ | refine below_drewN ?_ _ | refine Below.drew ?_ | refine Below.setCell ?_ (by first | omega | (simp; done) | (simp; omega)) _ | refine Below.alloc ?_ (by first | omega | (simp; done) | (simp; omega)) _))⟩
  | true =>
    obtain ⟨hok, hln, _⟩ := tmR_ok HO.out
    have hrg := okS_rng hok
    have hm0 : 0 < m := by have := HL.out; omega
    clear hok hln hrg
    go_enter Try.func48, Try.ntmps48
    go_wp2_with fail
    refine (HS.out _ (HR.out.below (by repeat (first | exact Below.refl _ _ | refine below_step (by assumption) (by first | omega | (simp; done) | (simp; omega)) ?_ | refine below_drewN ?_ _ | refine Below.drew ?_ | refine Below.setCell ?_ (by first | omega | (simp; done) | (simp; omega)) _ | refine Below.alloc ?_ (by first | omega | (simp; done) | (simp; omega)) _))) (HT.out.below (by repeat (first | exact Below.refl _ _ | refine below_step (by assumption) (by first | omega | (simp; done) | (simp; omega)) ?_ | refine below_drewN ?_ _ | refine Below.drew ?_ | refine Below.setCell ?_ (by first | omega | (simp; done) | (simp; omega)) _ | refine Below.alloc ?_ (by first | omega | (simp; done) | (simp; omega)) _)))).mono ?_
    rintro e w1 ⟨rfl, b1⟩
    have c0_w1 : w1.cell? ⟨w.heap.size, 0, none⟩ = some (.int .i64 n) := (b1.cell (p := ⟨w.heap.size, 0, none⟩) (by first | omega | (simp; done) | (simp; omega))).trans (by first | assumption | go_simp)
    have c1_w1 : w1.cell? ⟨w.heap.size, 1, none⟩ = some (.slice A k c) := (b1.cell (p := ⟨w.heap.size, 1, none⟩) (by first | omega | (simp; done) | (simp; omega))).trans (by first | assumption | go_simp)
    have s0_w1 : w.heap.size < w1.heap.size := Nat.lt_of_lt_of_le (by first | omega | (simp; done) | (simp; omega)) b1.size
    have B1 : Below w.heap.size w w1 := (by repeat (first | exact Below.refl _ _ | refine below_step (by assumption) (by first | omega | (simp; done) | (simp; omega)) ?_ | refine below_drewN ?_ _ | refine Below.drew ?_ | refine Below.setCell ?_ (by first | omega | (simp; done) | (simp; omega)) _ | refine Below.alloc ?_ (by first | omega | (simp; done) | (simp; omega)) _))
    obtain ⟨g, o, rfl, hg, hc⟩ := row_get (HT.out.below B1) (q := 0) (by have := HL.out; omega)
    rw [Nat.add_zero] at hc
    obtain ⟨x, hx⟩ : ∃ x, x = ts[0]'(by have := HL.out; omega) := ⟨_, rfl⟩
    rw [← hx] at hc
    have HX := Lib.hid (show ts[0]?.getD 0 = x from by rw [hx, List.getElem?_eq_getElem (by have := HL.out; omega)]; rfl)
    clear b1 hx
    by_cases hx0 : x = 0
    · have hxb : (x == 0) = true := by simp [hx0]
      have HX0 := Lib.hid hx0
      clear hx0
      go_wp2_with fail
      refine (HBR.out _ (HR.out.below (by repeat (first | exact Below.refl _ _ | refine below_step (by assumption) (by first | omega | (simp; done) | (simp; omega)) ?_ | refine below_drewN ?_ _ | refine Below.drew ?_ | refine Below.setCell ?_ (by first | omega | (simp; done) | (simp; omega)) _ | refine Below.alloc ?_ (by first | omega | (simp; done) | (simp; omega)) _))) (HT.out.below (by repeat (first | exact Below.refl _ _ | refine below_step (by assumption) (by first | omega | (simp; done) | (simp; omega)) ?_ | refine below_drewN ?_ _ | refine Below.drew ?_ | refine Below.setCell ?_ (by first | omega | (simp; done) | (simp; omega)) _ | refine Below.alloc ?_ (by first | omega | (simp; done) | (simp; omega)) _)))).mono ?_
      rintro e w2 ⟨rfl, b2⟩
      have hqq : schR n es ts = decide (q < 0) := by unfold schR; rw [HO.out, HX.out, HQ.out, decide_eq_true HX0.out]; rfl
      by_cases hq0 : q < 0
      · go_wp2_with fail
        go_ret
        exact ⟨ret_b (by rw [hqq, decide_eq_true (by omega)]), (by repeat (first | exact Below.refl _ _ | refine below_step (by assumption) (by first | omega | (simp; done) | (simp; omega)) ?_ | refine below_drewN ?_ _ | refine Below.drew ?_ | refine Below.setCell ?_ (by first | omega | (simp; done) | (simp; omega)) _ | refine Below.alloc ?_ (by first | omega | (simp; done) | (simp; omega)) _))⟩
      · go_wp2_with fail
        go_ret
        exact ⟨ret_b (by rw [hqq, decide_eq_false (by omega)]), (by repeat (first | exact Below.refl _ _ | refine below_step (by assumption) (by first | omega | (simp; done) | (simp; omega)) ?_ | refine below_drewN ?_ _ | refine Below.drew ?_ | refine Below.setCell ?_ (by first | omega | (simp; done) | (simp; omega)) _ | refine Below.alloc ?_ (by first | omega | (simp; done) | (simp; omega)) _))⟩
    · have hxb : (x == 0) = false := by simp [hx0]
      have HX0 := Lib.hid hx0
      clear hx0
      go_wp2_with fail
      go_ret
      exact ⟨ret_b (by unfold schR; rw [HO.out, HX.out, decide_eq_false HX0.out]; rfl), (by repeat (first | exact Below.refl _ _ | refine below_step (by assumption) (by first | omega | (simp; done) | (simp; omega)) ?_ | refine below_drewN ?_ _ | refine Below.drew ?_ | refine Below.setCell ?_ (by first | omega | (simp; done) | (simp; omega)) _ | refine Below.alloc ?_ (by first | omega | (simp; done) | (simp; omega)) _))⟩

end Go.Proofs.Ytnhdfnfiicioiaa

namespace Go.Proofs.Ytnhdfnfiicioiaa
open Go.RowKit Go.ChangeShapes Go.WideShapes Go.ChangeAt Go.WideMaps Go.WideElems
set_option linter.unusedVariables false
set_option linter.unusedSimpArgs false

set_option maxRecDepth 100000 in
set_option maxHeartbeats 2000000 in
theorem markEdgeS_any (A : Option Addr) (n c B k : Nat) (xs : List Value) (w : World) (hn : k + 3 * n ≤ 1099511627776) (hown : w.ownsRow B 115 3 (.slice A n c) n xs) :
    Calls Try.prog 78 #[.slice A n c, .int .i64 k] w fun e w' => e = .returned (.int .i64 ((k : Int) + 3 * n)) ∧ w.grownBy w' (Value.slice A n c).ownBlock := by
  have HO := Lib.hid hown
  clear hown
  go_enter Try.func78, Try.ntmps78
  go_wp2
  go_loopw [1, 5] (fun kk i wr => ∃ j : Nat, j ≤ n ∧ i = .int .i64 j ∧ kk = .int .i64 ((k : Int) + 3 * j) ∧ (∃ xs, wr.ownsRow B 115 3 (.slice A n c) n xs) ∧ w.grownBy wr (Value.slice A n c).ownBlock) (fun _ i _ => n - (intOf i).toNat)
  case atStart => exact ⟨0, Nat.zero_le _, rfl, by simp, ⟨_, HO.out⟩, World.grownBy.refl _ _⟩
  case round =>
    obtain ⟨j, hj, rfl, rfl, ⟨xs, hown⟩, hgr⟩ := hrel
    by_cases hlt : j < n
    · obtain ⟨g, cap, hA, hBg, hg⟩ := hown.form (by omega)
      obtain ⟨rfl, rfl⟩ : A = some ⟨g, 0, none⟩ ∧ c = cap := by simpa using hA
      clear hA
      have hlen : xs.length = n * 3 := hown.1
      obtain ⟨y0, hy0⟩ : ∃ y, wr.cell? ⟨g, j * 3, none⟩ = some y := ⟨_, (hown.cellAt (j * 3) (by omega)).trans (List.getElem?_eq_getElem (by omega))⟩
      obtain ⟨y1, hy1⟩ : ∃ y, wr.cell? ⟨g, j * 3 + 1, none⟩ = some y := ⟨_, (hown.cellAt (j * 3 + 1) (by omega)).trans (List.getElem?_eq_getElem (by omega))⟩
      obtain ⟨y2, hy2⟩ : ∃ y, wr.cell? ⟨g, j * 3 + 2, none⟩ = some y := ⟨_, (hown.cellAt (j * 3 + 2) (by omega)).trans (List.getElem?_eq_getElem (by omega))⟩
      have f0 := hown.frozenAt (j * 3)
      have f1 := hown.frozenAt (j * 3 + 1)
      have f2 := hown.frozenAt (j * 3 + 2)
      have h1 := hown.stored (j * 3) (.int .i64 ((k : Int) + 3 * j))
      have h2 := h1.1.stored (j * 3 + 1) (.int .i64 ((k : Int) + 3 * j + 1))
      have h3 := h2.1.stored (j * 3 + 2) (.int .i64 ((k : Int) + 3 * j + 1 + 1))
      have HS := Lib.hid h3.1
      have HG := Lib.hid (grown_trans (grown_trans (grown_trans hgr h1.2) h2.2) h3.2)
      clear hown hgr h1 h2 h3 hlen
      go_wp2
      go_roundw
      case rel => exact ⟨j + 1, by omega, by go_num, by rw [show ((j + 1 : Nat) : Int) = (j : Int) + 1 from by omega, show (k : Int) + 3 * ((j : Int) + 1) = (k : Int) + 3 * j + 1 + 1 + 1 from by omega], ⟨_, HS.out⟩, HG.out⟩
      case measure => simp [intOf]; omega
    · go_wp2
      go_ret
      have hjn : j = n := by omega
      subst hjn
      exact ⟨rfl, hgr⟩

set_option maxRecDepth 100000 in
set_option maxHeartbeats 1000000 in
theorem markGraph_any (N : Int) (A : Option Addr) (n c B k : Nat) (xs : List Value) (w : World) (hn : k + 3 * n ≤ 1099511627776) (hown : w.ownsRow B 115 3 (.slice A n c) n xs) :
    Calls Try.prog 35 #[grV N A n c, .int .i64 k] w fun e w' => e = .returned (.int .i64 ((k : Int) + 3 * n)) ∧ (w.alloc (.cells #[.int .i64 N, .slice A n c] 54)).grownBy w' (Value.slice A n c).ownBlock := by
  unfold grV
  have HM := Lib.hid (fun W h => markEdgeS_any A n c B k xs W hn h)
  have HO := Lib.hid (hown.alloc (.cells #[.int .i64 N, .slice A n c] 54))
  clear hown
  go_enter Try.func35, Try.ntmps35
  go_wp2_with (go_at_call 78; refine (HM.out _ HO.out).mono ?_; rintro x w1 ⟨rfl, hg⟩)
  go_ret
  exact ⟨rfl, hg⟩

end Go.Proofs.Ytnhdfnfiicioiaa

namespace Go.Proofs.Ytnhdfnfiicioiaa
open Go.RowKit Go.ChangeShapes Go.WideShapes Go.ChangeAt Go.WideMaps Go.WideElems
set_option linter.unusedVariables false
set_option linter.unusedSimpArgs false

end Go.Proofs.Ytnhdfnfiicioiaa

namespace Go.Proofs.Ytnhdfnfiicioiaa
open Go.RowKit
set_option linter.unusedVariables false
set_option linter.unusedSimpArgs false

set_option maxRecDepth 100000 in
set_option maxHeartbeats 2000000 in
theorem impl_GraphOk (n : Int) (es : List GE) (A : Option Addr) (k c : Nat) (w : World) (hn : es.length = k) (hm : k ≤ 1048576) (hr : EdgeAt w A es) :
    Calls Try.prog 90 #[grV n A k c] w fun e w' => e = .returned (.bool (okG n es)) ∧ Below w.heap.size w w' := by
  have HND := Lib.hid (hasNode_any n A k c)
  unfold grV at HND ⊢
  have HR := Lib.hid hr
  have HL := Lib.hid hn
  clear hr hn
  by_cases h0 : 0 ≤ n
  · by_cases h8 : n ≤ 8
    · by_cases h80 : k ≤ 80
      · have hk80 : ¬ ((80 : Int) < k) := by omega
        have hn8 : ¬ (8 < n) := by omega
        have hn0 : ¬ (n < 0) := by omega
        go_enter Try.func90, Try.ntmps90
        go_wp2_with fail
        go_loopw [22] (fun i wr => ∃ j : Nat, j ≤ k ∧ i = .int .i64 j ∧ (es.take j).all (okE n) = true ∧ wr.cell? ⟨w.heap.size, 0, none⟩ = some (.int .i64 n) ∧ wr.cell? ⟨w.heap.size, 1, none⟩ = some (.slice A k c) ∧ Below w.heap.size w wr ∧ w.heap.size < wr.heap.size) (fun i _ => k - (intOf i).toNat)
        case atStart => exact ⟨0, Nat.zero_le _, rfl, rfl, by go_simp, by go_simp, (by repeat (first | exact Below.refl _ _ | refine below_step (by assumption) (by first | omega | (simp; done) | (simp; omega)) ?_ | refine below_drewN ?_ _ | refine Below.drew ?_ | refine Below.setCell ?_ (by first | omega | (simp; done) | (simp; omega)) _ | refine Below.alloc ?_ (by first | omega | (simp; done) | (simp; omega)) _)), by simp⟩
        case round =>
          obtain ⟨j, hj, rfl, hall, hcn, hca, hbw, hsz⟩ := hrel
          have HA := Lib.hid hall
          clear hall
          by_cases hlt : j < k
          · have hl := HL.out
            obtain ⟨g, o, rfl, hg, hc⟩ := HR.out (by omega)
            have hc1 := hc j (by omega)
            have HK1 := Lib.hid (all_take_of es (okE n) j (by omega) HA.out)
            have HK2 := Lib.hid (okG_not n es j (by omega))
            obtain ⟨e, he⟩ : ∃ e, e = es[j]'(by omega) := ⟨_, rfl⟩
            rw [← he] at hc1 HK1 HK2
            obtain ⟨c0, c1, c2⟩ := hc1
            have k0 := (hbw.cell (p := ⟨g, o + j * 3, none⟩) hg).trans c0
            have k1 := (hbw.cell (p := ⟨g, o + j * 3 + 1, none⟩) hg).trans c1
            have k2 := (hbw.cell (p := ⟨g, o + j * 3 + 2, none⟩) hg).trans c2
            have ng : (w.heap.size = wr.heap.size) = False := eq_false (by omega)
            have ng2 : (wr.heap.size = w.heap.size) = False := eq_false (by omega)
            clear hc c0 c1 c2 he hl
            obtain ⟨u, v, cc⟩ := e
            dsimp only at k0 k1 k2
            obtain ⟨bu, hbu⟩ : ∃ b, b = decide (0 ≤ u ∧ u < n) := ⟨_, rfl⟩
            obtain ⟨bv, hbv⟩ : ∃ b, b = decide (0 ≤ v ∧ v < n) := ⟨_, rfl⟩
            have hcu := fun W => HND.out u W
            have hcv := fun W => HND.out v W
            rw [← hbu] at hcu
            rw [← hbv] at hcv
            have HU := Lib.hid hcu
            have HV := Lib.hid hcv
            have hok : okE n ⟨u, v, cc⟩ = (bu && bv && decide (-1000000 < cc ∧ cc < 1000000)) := by
              rw [hbu, hbv]; rfl
            rw [hok] at HK1 HK2
            clear hcu hcv hbu hbv hok
            cases bu with
            | false =>
              go_wp2_with (first | (go_at_call_of 55 (Value.int .i64 u); refine (HU.out _).mono ?_; rintro x w2 ⟨rfl, b2⟩))
              go_ret
              exact ⟨ret_b (HK2.out rfl).symm, (by repeat (first | exact Below.refl _ _ | refine below_step (by assumption) (by first | omega | (simp; done) | (simp; omega)) ?_ | refine below_drewN ?_ _ | refine Below.drew ?_ | refine Below.setCell ?_ (by first | omega | (simp; done) | (simp; omega)) _ | refine Below.alloc ?_ (by first | omega | (simp; done) | (simp; omega)) _))⟩
            | true =>
              cases bv with
              | false =>
                go_wp2_with (first | (go_at_call_of 55 (Value.int .i64 u); refine (HU.out _).mono ?_; rintro x w2 ⟨rfl, b2⟩; have kA_w2 : w2.cell? ⟨w.heap.size, 0, none⟩ = some (.int .i64 n) := (b2.cell (p := ⟨w.heap.size, 0, none⟩) (by first | omega | (simp; done) | (simp; omega))).trans (by first | assumption | go_simp); have kB_w2 : w2.cell? ⟨w.heap.size, 1, none⟩ = some (.slice (some ⟨g, o, none⟩) k c) := (b2.cell (p := ⟨w.heap.size, 1, none⟩) (by first | omega | (simp; done) | (simp; omega))).trans (by first | assumption | go_simp); have kC_w2 : w2.cell? ⟨wr.heap.size, 1, none⟩ = some (.int .i64 v) := (b2.cell (p := ⟨wr.heap.size, 1, none⟩) (by first | omega | (simp; done) | (simp; omega))).trans (by first | assumption | go_simp); have kD_w2 : w2.cell? ⟨wr.heap.size, 2, none⟩ = some (.int .i64 cc) := (b2.cell (p := ⟨wr.heap.size, 2, none⟩) (by first | omega | (simp; done) | (simp; omega))).trans (by first | assumption | go_simp); have s_w2 : w.heap.size < w2.heap.size := Nat.lt_of_lt_of_le (by first | omega | (simp; done) | (simp; omega)) b2.size; have t_w2 : wr.heap.size < w2.heap.size := Nat.lt_of_lt_of_le (by first | omega | (simp; done) | (simp; omega)) b2.size) | (go_at_call_of 55 (Value.int .i64 v); refine (HV.out _).mono ?_; rintro x w3 ⟨rfl, b3⟩; have kA_w3 : w3.cell? ⟨w.heap.size, 0, none⟩ = some (.int .i64 n) := (b3.cell (p := ⟨w.heap.size, 0, none⟩) (by first | omega | (simp; done) | (simp; omega))).trans (by first | assumption | go_simp); have kB_w3 : w3.cell? ⟨w.heap.size, 1, none⟩ = some (.slice (some ⟨g, o, none⟩) k c) := (b3.cell (p := ⟨w.heap.size, 1, none⟩) (by first | omega | (simp; done) | (simp; omega))).trans (by first | assumption | go_simp); have kC_w3 : w3.cell? ⟨wr.heap.size, 1, none⟩ = some (.int .i64 v) := (b3.cell (p := ⟨wr.heap.size, 1, none⟩) (by first | omega | (simp; done) | (simp; omega))).trans (by first | assumption | go_simp); have kD_w3 : w3.cell? ⟨wr.heap.size, 2, none⟩ = some (.int .i64 cc) := (b3.cell (p := ⟨wr.heap.size, 2, none⟩) (by first | omega | (simp; done) | (simp; omega))).trans (by first | assumption | go_simp); have s_w3 : w.heap.size < w3.heap.size := Nat.lt_of_lt_of_le (by first | omega | (simp; done) | (simp; omega)) b3.size; have t_w3 : wr.heap.size < w3.heap.size := Nat.lt_of_lt_of_le (by first | omega | (simp; done) | (simp; omega)) b3.size))
                go_ret
                exact ⟨ret_b (HK2.out rfl).symm, (by repeat (first | exact Below.refl _ _ | refine below_step (by assumption) (by first | omega | (simp; done) | (simp; omega)) ?_ | refine below_drewN ?_ _ | refine Below.drew ?_ | refine Below.setCell ?_ (by first | omega | (simp; done) | (simp; omega)) _ | refine Below.alloc ?_ (by first | omega | (simp; done) | (simp; omega)) _))⟩
              | true =>
                by_cases hlo : cc ≤ -1000000
                · go_wp2_with (first | (go_at_call_of 55 (Value.int .i64 u); refine (HU.out _).mono ?_; rintro x w2 ⟨rfl, b2⟩; have kA_w2 : w2.cell? ⟨w.heap.size, 0, none⟩ = some (.int .i64 n) := (b2.cell (p := ⟨w.heap.size, 0, none⟩) (by first | omega | (simp; done) | (simp; omega))).trans (by first | assumption | go_simp); have kB_w2 : w2.cell? ⟨w.heap.size, 1, none⟩ = some (.slice (some ⟨g, o, none⟩) k c) := (b2.cell (p := ⟨w.heap.size, 1, none⟩) (by first | omega | (simp; done) | (simp; omega))).trans (by first | assumption | go_simp); have kC_w2 : w2.cell? ⟨wr.heap.size, 1, none⟩ = some (.int .i64 v) := (b2.cell (p := ⟨wr.heap.size, 1, none⟩) (by first | omega | (simp; done) | (simp; omega))).trans (by first | assumption | go_simp); have kD_w2 : w2.cell? ⟨wr.heap.size, 2, none⟩ = some (.int .i64 cc) := (b2.cell (p := ⟨wr.heap.size, 2, none⟩) (by first | omega | (simp; done) | (simp; omega))).trans (by first | assumption | go_simp); have s_w2 : w.heap.size < w2.heap.size := Nat.lt_of_lt_of_le (by first | omega | (simp; done) | (simp; omega)) b2.size; have t_w2 : wr.heap.size < w2.heap.size := Nat.lt_of_lt_of_le (by first | omega | (simp; done) | (simp; omega)) b2.size) | (go_at_call_of 55 (Value.int .i64 v); refine (HV.out _).mono ?_; rintro x w3 ⟨rfl, b3⟩; have kA_w3 : w3.cell? ⟨w.heap.size, 0, none⟩ = some (.int .i64 n) := (b3.cell (p := ⟨w.heap.size, 0, none⟩) (by first | omega | (simp; done) | (simp; omega))).trans (by first | assumption | go_simp); have kB_w3 : w3.cell? ⟨w.heap.size, 1, none⟩ = some (.slice (some ⟨g, o, none⟩) k c) := (b3.cell (p := ⟨w.heap.size, 1, none⟩) (by first | omega | (simp; done) | (simp; omega))).trans (by first | assumption | go_simp); have kC_w3 : w3.cell? ⟨wr.heap.size, 1, none⟩ = some (.int .i64 v) := (b3.cell (p := ⟨wr.heap.size, 1, none⟩) (by first | omega | (simp; done) | (simp; omega))).trans (by first | assumption | go_simp); have kD_w3 : w3.cell? ⟨wr.heap.size, 2, none⟩ = some (.int .i64 cc) := (b3.cell (p := ⟨wr.heap.size, 2, none⟩) (by first | omega | (simp; done) | (simp; omega))).trans (by first | assumption | go_simp); have s_w3 : w.heap.size < w3.heap.size := Nat.lt_of_lt_of_le (by first | omega | (simp; done) | (simp; omega)) b3.size; have t_w3 : wr.heap.size < w3.heap.size := Nat.lt_of_lt_of_le (by first | omega | (simp; done) | (simp; omega)) b3.size))
                  go_ret
                  exact ⟨ret_b (HK2.out (by simp; omega)).symm, (by repeat (first | exact Below.refl _ _ | refine below_step (by assumption) (by first | omega | (simp; done) | (simp; omega)) ?_ | refine below_drewN ?_ _ | refine Below.drew ?_ | refine Below.setCell ?_ (by first | omega | (simp; done) | (simp; omega)) _ | refine Below.alloc ?_ (by first | omega | (simp; done) | (simp; omega)) _))⟩
                · have hlo2 : ¬ (cc ≤ -1000000) := hlo
                  by_cases hhi : 1000000 ≤ cc
                  · go_wp2_with (first | (go_at_call_of 55 (Value.int .i64 u); refine (HU.out _).mono ?_; rintro x w2 ⟨rfl, b2⟩; have kA_w2 : w2.cell? ⟨w.heap.size, 0, none⟩ = some (.int .i64 n) := (b2.cell (p := ⟨w.heap.size, 0, none⟩) (by first | omega | (simp; done) | (simp; omega))).trans (by first | assumption | go_simp); have kB_w2 : w2.cell? ⟨w.heap.size, 1, none⟩ = some (.slice (some ⟨g, o, none⟩) k c) := (b2.cell (p := ⟨w.heap.size, 1, none⟩) (by first | omega | (simp; done) | (simp; omega))).trans (by first | assumption | go_simp); have kC_w2 : w2.cell? ⟨wr.heap.size, 1, none⟩ = some (.int .i64 v) := (b2.cell (p := ⟨wr.heap.size, 1, none⟩) (by first | omega | (simp; done) | (simp; omega))).trans (by first | assumption | go_simp); have kD_w2 : w2.cell? ⟨wr.heap.size, 2, none⟩ = some (.int .i64 cc) := (b2.cell (p := ⟨wr.heap.size, 2, none⟩) (by first | omega | (simp; done) | (simp; omega))).trans (by first | assumption | go_simp); have s_w2 : w.heap.size < w2.heap.size := Nat.lt_of_lt_of_le (by first | omega | (simp; done) | (simp; omega)) b2.size; have t_w2 : wr.heap.size < w2.heap.size := Nat.lt_of_lt_of_le (by first | omega | (simp; done) | (simp; omega)) b2.size) | (go_at_call_of 55 (Value.int .i64 v); refine (HV.out _).mono ?_; rintro x w3 ⟨rfl, b3⟩; have kA_w3 : w3.cell? ⟨w.heap.size, 0, none⟩ = some (.int .i64 n) := (b3.cell (p := ⟨w.heap.size, 0, none⟩) (by first | omega | (simp; done) | (simp; omega))).trans (by first | assumption | go_simp); have kB_w3 : w3.cell? ⟨w.heap.size, 1, none⟩ = some (.slice (some ⟨g, o, none⟩) k c) := (b3.cell (p := ⟨w.heap.size, 1, none⟩) (by first | omega | (simp; done) | (simp; omega))).trans (by first | assumption | go_simp); have kC_w3 : w3.cell? ⟨wr.heap.size, 1, none⟩ = some (.int .i64 v) := (b3.cell (p := ⟨wr.heap.size, 1, none⟩) (by first | omega | (simp; done) | (simp; omega))).trans (by first | assumption | go_simp); have kD_w3 : w3.cell? ⟨wr.heap.size, 2, none⟩ = some (.int .i64 cc) := (b3.cell (p := ⟨wr.heap.size, 2, none⟩) (by first | omega | (simp; done) | (simp; omega))).trans (by first | assumption | go_simp); have s_w3 : w.heap.size < w3.heap.size := Nat.lt_of_lt_of_le (by first | omega | (simp; done) | (simp; omega)) b3.size; have t_w3 : wr.heap.size < w3.heap.size := Nat.lt_of_lt_of_le (by first | omega | (simp; done) | (simp; omega)) b3.size))
                    go_ret
                    exact ⟨ret_b (HK2.out (by simp; omega)).symm, (by repeat (first | exact Below.refl _ _ | refine below_step (by assumption) (by first | omega | (simp; done) | (simp; omega)) ?_ | refine below_drewN ?_ _ | refine Below.drew ?_ | refine Below.setCell ?_ (by first | omega | (simp; done) | (simp; omega)) _ | refine Below.alloc ?_ (by first | omega | (simp; done) | (simp; omega)) _))⟩
                  · go_wp2_with (first | (go_at_call_of 55 (Value.int .i64 u); refine (HU.out _).mono ?_; rintro x w2 ⟨rfl, b2⟩; have kA_w2 : w2.cell? ⟨w.heap.size, 0, none⟩ = some (.int .i64 n) := (b2.cell (p := ⟨w.heap.size, 0, none⟩) (by first | omega | (simp; done) | (simp; omega))).trans (by first | assumption | go_simp); have kB_w2 : w2.cell? ⟨w.heap.size, 1, none⟩ = some (.slice (some ⟨g, o, none⟩) k c) := (b2.cell (p := ⟨w.heap.size, 1, none⟩) (by first | omega | (simp; done) | (simp; omega))).trans (by first | assumption | go_simp); have kC_w2 : w2.cell? ⟨wr.heap.size, 1, none⟩ = some (.int .i64 v) := (b2.cell (p := ⟨wr.heap.size, 1, none⟩) (by first | omega | (simp; done) | (simp; omega))).trans (by first | assumption | go_simp); have kD_w2 : w2.cell? ⟨wr.heap.size, 2, none⟩ = some (.int .i64 cc) := (b2.cell (p := ⟨wr.heap.size, 2, none⟩) (by first | omega | (simp; done) | (simp; omega))).trans (by first | assumption | go_simp); have s_w2 : w.heap.size < w2.heap.size := Nat.lt_of_lt_of_le (by first | omega | (simp; done) | (simp; omega)) b2.size; have t_w2 : wr.heap.size < w2.heap.size := Nat.lt_of_lt_of_le (by first | omega | (simp; done) | (simp; omega)) b2.size) | (go_at_call_of 55 (Value.int .i64 v); refine (HV.out _).mono ?_; rintro x w3 ⟨rfl, b3⟩; have kA_w3 : w3.cell? ⟨w.heap.size, 0, none⟩ = some (.int .i64 n) := (b3.cell (p := ⟨w.heap.size, 0, none⟩) (by first | omega | (simp; done) | (simp; omega))).trans (by first | assumption | go_simp); have kB_w3 : w3.cell? ⟨w.heap.size, 1, none⟩ = some (.slice (some ⟨g, o, none⟩) k c) := (b3.cell (p := ⟨w.heap.size, 1, none⟩) (by first | omega | (simp; done) | (simp; omega))).trans (by first | assumption | go_simp); have kC_w3 : w3.cell? ⟨wr.heap.size, 1, none⟩ = some (.int .i64 v) := (b3.cell (p := ⟨wr.heap.size, 1, none⟩) (by first | omega | (simp; done) | (simp; omega))).trans (by first | assumption | go_simp); have kD_w3 : w3.cell? ⟨wr.heap.size, 2, none⟩ = some (.int .i64 cc) := (b3.cell (p := ⟨wr.heap.size, 2, none⟩) (by first | omega | (simp; done) | (simp; omega))).trans (by first | assumption | go_simp); have s_w3 : w.heap.size < w3.heap.size := Nat.lt_of_lt_of_le (by first | omega | (simp; done) | (simp; omega)) b3.size; have t_w3 : wr.heap.size < w3.heap.size := Nat.lt_of_lt_of_le (by first | omega | (simp; done) | (simp; omega)) b3.size))
                    go_roundw
                    case rel => exact ⟨j + 1, by omega, by go_num, HK1.out (by simp; omega), by first | assumption | go_simp, by first | assumption | go_simp, (by repeat (first | exact Below.refl _ _ | refine below_step (by assumption) (by first | omega | (simp; done) | (simp; omega)) ?_ | refine below_drewN ?_ _ | refine Below.drew ?_ | refine Below.setCell ?_ (by first | omega | (simp; done) | (simp; omega)) _ | refine Below.alloc ?_ (by first | omega | (simp; done) | (simp; omega)) _)), (by first | omega | (simp; done) | (simp; omega))⟩
                    case measure => simp [intOf]; omega
          · go_wp2_with fail
            go_ret
            have hl := HL.out
            exact ⟨ret_b (okG_all n es (by omega) (by have := HA.out; rw [show j = es.length from by omega] at this; exact this)).symm, (by repeat (first | exact Below.refl _ _ | refine below_step (by assumption) (by first | omega | (simp; done) | (simp; omega)) ?_ | refine below_drewN ?_ _ | refine Below.drew ?_ | refine Below.setCell ?_ (by first | omega | (simp; done) | (simp; omega)) _ | refine Below.alloc ?_ (by first | omega | (simp; done) | (simp; omega)) _))⟩
      · have hk80 : ((80 : Int) < k) := by omega
        have hn8 : ¬ (8 < n) := by omega
        have hn0 : ¬ (n < 0) := by omega
        go_enter Try.func90, Try.ntmps90
        go_wp2_with fail
        go_ret
        exact ⟨ret_b (okG_big n es (by have := HL.out; omega)).symm, (by repeat (first | exact Below.refl _ _ | refine below_step (by assumption) (by first | omega | (simp; done) | (simp; omega)) ?_ | refine below_drewN ?_ _ | refine Below.drew ?_ | refine Below.setCell ?_ (by first | omega | (simp; done) | (simp; omega)) _ | refine Below.alloc ?_ (by first | omega | (simp; done) | (simp; omega)) _))⟩
    · have hn8 : (8 < n) := by omega
      have hn0 : ¬ (n < 0) := by omega
      go_enter Try.func90, Try.ntmps90
      go_wp2_with fail
      go_ret
      exact ⟨ret_b (okG_big n es (by omega)).symm, (by repeat (first | exact Below.refl _ _ | refine below_step (by assumption) (by first | omega | (simp; done) | (simp; omega)) ?_ | refine below_drewN ?_ _ | refine Below.drew ?_ | refine Below.setCell ?_ (by first | omega | (simp; done) | (simp; omega)) _ | refine Below.alloc ?_ (by first | omega | (simp; done) | (simp; omega)) _))⟩
  · have hn0 : (n < 0) := by omega
    go_enter Try.func90, Try.ntmps90
    go_wp2_with fail
    go_ret
    exact ⟨ret_b (okG_big n es (by omega)).symm, (by repeat (first | exact Below.refl _ _ | refine below_step (by assumption) (by first | omega | (simp; done) | (simp; omega)) ?_ | refine below_drewN ?_ _ | refine Below.drew ?_ | refine Below.setCell ?_ (by first | omega | (simp; done) | (simp; omega)) _ | refine Below.alloc ?_ (by first | omega | (simp; done) | (simp; omega)) _))⟩

end Go.Proofs.Ytnhdfnfiicioiaa

namespace Go.Proofs.Ytnhdfnfiicioiaa
open Go.RowKit
set_option linter.unusedVariables false
set_option linter.unusedSimpArgs false

def wtE (es : List GE) (z : Int) : Int := if 0 ≤ z then (match es[z.toNat]? with | some e => e.c | none => 0) else 0
def sumTo (es : List GE) (zs : List Int) : Nat → Int
  | 0 => 0
  | j + 1 => sumTo es zs j + (match zs[j]? with | some z => wtE es z | none => 0)

theorem okG_edge {n : Int} {es : List GE} (h : okG n es = true) {j : Nat} {e : GE} (he : es[j]? = some e) :
    (0 ≤ e.u ∧ e.u < n) ∧ (0 ≤ e.v ∧ e.v < n) ∧ (-1000000 < e.c ∧ e.c < 1000000) := by
  unfold okG at h
  simp only [Bool.and_eq_true, List.all_eq_true] at h
  have := h.2 e (List.mem_of_getElem? he)
  unfold okE at this
  simp only [Bool.and_eq_true, decide_eq_true_eq] at this
  exact ⟨this.1.1, this.1.2, this.2⟩
theorem okG_rng {n : Int} {es : List GE} (h : okG n es = true) : 0 ≤ n ∧ n ≤ 8 ∧ es.length ≤ 80 := by
  unfold okG at h
  simp only [Bool.and_eq_true, decide_eq_true_eq] at h
  exact h.1
theorem wtE_rng {n : Int} {es : List GE} (h : okG n es = true) (z : Int) : -1000000 ≤ wtE es z ∧ wtE es z ≤ 1000000 := by
  unfold wtE
  split
  · split
    · next e he => have := okG_edge h he; omega
    · omega
  · omega
theorem sumTo_rng {n : Int} {es : List GE} (h : okG n es = true) (zs : List Int) (j : Nat) : -1000000 * (j : Int) ≤ sumTo es zs j ∧ sumTo es zs j ≤ 1000000 * (j : Int) := by
  induction j with
  | zero => simp [sumTo]
  | succ j ih =>
    unfold sumTo
    split
    · next z _ => have := wtE_rng h z; omega
    · omega
theorem sumTo_in {es : List GE} {zs : List Int} {j q : Nat} {e : GE} (hz : zs[j]? = some (q : Int)) (he : es[q]? = some e) : sumTo es zs (j + 1) = sumTo es zs j + e.c := by
  conv => lhs; unfold sumTo
  simp [hz, wtE, he]
theorem sumTo_out {es : List GE} {zs : List Int} {j : Nat} {z : Int} (hz : zs[j]? = some z) (ho : ¬ (0 ≤ z ∧ z < es.length)) : sumTo es zs (j + 1) = sumTo es zs j := by
  conv => lhs; unfold sumTo
  simp only [hz]
  have : wtE es z = 0 := by
    unfold wtE
    split
    · rw [List.getElem?_eq_none (by omega)]
    · rfl
  omega

end Go.Proofs.Ytnhdfnfiicioiaa

namespace Go.Proofs.Ytnhdfnfiicioiaa
open Go.RowKit
set_option linter.unusedVariables false
set_option linter.unusedSimpArgs false

def pathW (n : Int) (es : List GE) (zs : List Int) : Int := if okG n es = true ∧ zs.length ≤ 80 then sumTo es zs zs.length else 0
theorem ret_i {a b : Int} (h : a = b) : Ending.returned (.int .i64 a) = .returned (.int .i64 b) := by rw [h]

end Go.Proofs.Ytnhdfnfiicioiaa

namespace Go.Proofs.Ytnhdfnfiicioiaa
open Go.RowKit
set_option linter.unusedVariables false
set_option linter.unusedSimpArgs false

def inE (es : List GE) (z : Int) : Bool := decide (0 ≤ z ∧ z < es.length)
def edE (es : List GE) (z : Int) : GE := (es[z.toNat]?).getD ⟨0, 0, 0⟩
def linkE (es : List GE) (zs : List Int) (j : Nat) : Bool :=
  match zs[j]?, zs[(j + zs.length - 1) % zs.length]? with
  | some z, some b => inE es z && inE es b && decide ((edE es b).v = (edE es z).u)
  | _, _ => false
def closedTo (es : List GE) (zs : List Int) : Nat → Bool
  | 0 => true
  | j + 1 => closedTo es zs j && linkE es zs j
theorem closedTo_not (es : List GE) (zs : List Int) {j : Nat} (h : linkE es zs j = false) : ∀ m, j < m → closedTo es zs m = false := by
  intro m hm
  induction m with
  | zero => omega
  | succ m ih =>
    unfold closedTo
    by_cases he : j = m
    · subst he; rw [h, Bool.and_false]
    · rw [ih (by omega), Bool.false_and]
theorem closedTo_next (es : List GE) (zs : List Int) {j : Nat} (h : linkE es zs j = true) (hj : closedTo es zs j = true) : closedTo es zs (j + 1) = true := by
  unfold closedTo; rw [h, hj]; rfl
def negC (n : Int) (es : List GE) (zs : List Int) : Bool := okG n es && decide (0 < zs.length) && closedTo es zs zs.length && decide (sumTo es zs zs.length < 0)

theorem link_eq (es : List GE) (zs : List Int) {j m : Nat} {z b : Int} (hm : zs.length = m) (hz : zs[j]? = some z) (hb : zs[(j + m - 1) % m]? = some b) :
    linkE es zs j = (inE es z && inE es b && decide ((edE es b).v = (edE es z).u)) := by
  subst hm
  unfold linkE; rw [hz, hb]
theorem edE_at (es : List GE) {q : Nat} {x : GE} (h : es[q]? = some x) : edE es (q : Int) = x := by simp [edE, h]

end Go.Proofs.Ytnhdfnfiicioiaa
