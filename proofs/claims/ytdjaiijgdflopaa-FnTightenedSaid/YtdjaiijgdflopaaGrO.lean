/-
  WALKS of eqGraph, hasNode, spec.GraphOk and impl.GraphOk: a graph that is one.
-/
import Derived.Test.YtdjaiijgdflopaaGrE
import Derived.Test.YtdjaiijgdflopaaDig
namespace Go.Proofs.Ytdjaiijgdflopaa
open Go.RowKit
set_option linter.unusedVariables false
set_option linter.unusedSimpArgs false

def okE (n : Int) (e : GE) : Bool := decide (0 ≤ e.u ∧ e.u < n) && decide (0 ≤ e.v ∧ e.v < n) && decide (-1000000 < e.c ∧ e.c < 1000000)
def okG (n : Int) (es : List GE) : Bool := decide (0 ≤ n ∧ n ≤ 8 ∧ es.length ≤ 80) && es.all (okE n)

theorem all_take_of (es : List GE) (p : GE → Bool) (k : Nat) (h : k < es.length) (ha : (es.take k).all p = true) (hp : p es[k] = true) : (es.take (k + 1)).all p = true := by
  rw [List.take_add_one, List.getElem?_eq_getElem h, List.all_append, ha]; simpa using hp
theorem all_not_of (es : List GE) (p : GE → Bool) (k : Nat) (h : k < es.length) (hp : p es[k] = false) : es.all p = false := by
  rw [List.all_eq_false]; exact ⟨es[k], List.getElem_mem _, by simp [hp]⟩
theorem okG_not (n : Int) (es : List GE) (k : Nat) (h : k < es.length) (hp : okE n es[k] = false) : okG n es = false := by
  unfold okG; rw [all_not_of es _ k h hp, Bool.and_false]
theorem okG_big (n : Int) (es : List GE) (h : ¬ (0 ≤ n ∧ n ≤ 8 ∧ es.length ≤ 80)) : okG n es = false := by
  unfold okG; rw [decide_eq_false h, Bool.false_and]
theorem okG_all (n : Int) (es : List GE) (h : 0 ≤ n ∧ n ≤ 8 ∧ es.length ≤ 80) (ha : (es.take es.length).all (okE n) = true) : okG n es = true := by
  rw [List.take_of_length_le (Nat.le_refl _)] at ha
  unfold okG; rw [decide_eq_true h, ha]; rfl
theorem ret_b {a b : Bool} (h : a = b) : Ending.returned (.bool a) = .returned (.bool b) := by rw [h]

set_option maxRecDepth 100000 in
set_option maxHeartbeats 1000000 in
theorem hasNode_any (n : Int) (A : Option Addr) (k c : Nat) (i : Int) (w : World) :
    Calls Try.prog 55 #[grV n A k c, .int .i64 i] w fun e w' => e = .returned (.bool (decide (0 ≤ i ∧ i < n))) ∧ Below w.heap.size w w' := by
  unfold grV
  by_cases h1 : 0 ≤ i
  · by_cases h2 : i < n
    all_goals
      go_enter Try.func55, Try.ntmps55
      go_wp2
      go_ret
      exact ⟨ret_b (by simp [h1, h2]), (by repeat (first | exact Below.refl _ _ | refine below_step (by assumption) (by first | omega | (simp; done) | (simp; omega)) ?_ | refine below_drewN ?_ _ | refine Below.drew ?_ | refine Below.setCell ?_ (by first | omega | (simp; done) | (simp; omega)) _ | refine Below.alloc ?_ (by first | omega | (simp; done) | (simp; omega)) _))⟩
  · go_enter Try.func55, Try.ntmps55
    go_wp2
    go_ret
    exact ⟨ret_b (by simp; intro; omega), (by repeat (first | exact Below.refl _ _ | refine below_step (by assumption) (by first | omega | (simp; done) | (simp; omega)) ?_ | refine below_drewN ?_ _ | refine Below.drew ?_ | refine Below.setCell ?_ (by first | omega | (simp; done) | (simp; omega)) _ | refine Below.alloc ?_ (by first | omega | (simp; done) | (simp; omega)) _))⟩

set_option maxRecDepth 100000 in
set_option maxHeartbeats 1000000 in
theorem eqGraph_same (n : Int) (es : List GE) (A B : Option Addr) (k ca cb : Nat) (w : World) (hn : es.length = k) (hm : k ≤ maxLen) (ha : EdgeAt w A es) (hb : EdgeAt w B es) :
    Calls Try.prog 35 #[grV n A k ca, grV n B k cb] w fun e w' => e = .returned (.bool true) ∧ Below w.heap.size w w' := by
  unfold grV
  have hne : ((n : Int) != n) = false := by simp
  go_enter Try.func35, Try.ntmps35
  go_wp2_with (go_at_call 46; refine (eqEdgeS_same es A B k ca cb _ hn hm (ha.below (by repeat (first | exact Below.refl _ _ | refine below_step (by assumption) (by first | omega | (simp; done) | (simp; omega)) ?_ | refine below_drewN ?_ _ | refine Below.drew ?_ | refine Below.setCell ?_ (by first | omega | (simp; done) | (simp; omega)) _ | refine Below.alloc ?_ (by first | omega | (simp; done) | (simp; omega)) _))) (hb.below (by repeat (first | exact Below.refl _ _ | refine below_step (by assumption) (by first | omega | (simp; done) | (simp; omega)) ?_ | refine below_drewN ?_ _ | refine Below.drew ?_ | refine Below.setCell ?_ (by first | omega | (simp; done) | (simp; omega)) _ | refine Below.alloc ?_ (by first | omega | (simp; done) | (simp; omega)) _)))).mono ?_; rintro x w2 ⟨rfl, b2⟩)
  go_ret
  exact ⟨rfl, (by repeat (first | exact Below.refl _ _ | refine below_step (by assumption) (by first | omega | (simp; done) | (simp; omega)) ?_ | refine below_drewN ?_ _ | refine Below.drew ?_ | refine Below.setCell ?_ (by first | omega | (simp; done) | (simp; omega)) _ | refine Below.alloc ?_ (by first | omega | (simp; done) | (simp; omega)) _))⟩

set_option maxRecDepth 100000 in
set_option maxHeartbeats 2000000 in
theorem spec_GraphOk (n : Int) (es : List GE) (A : Option Addr) (k c : Nat) (w : World) (hn : es.length = k) (hm : k ≤ 1048576) (hr : EdgeAt w A es) :
    Calls Try.prog 77 #[grV n A k c] w fun e w' => e = .returned (.bool (okG n es)) ∧ Below w.heap.size w w' := by
  unfold grV
  have HR := Lib.hid hr
  have HL := Lib.hid hn
  clear hr hn
  obtain ⟨b, hb⟩ : ∃ b, b = (decide ((0 : Int) ≤ n) && decide (n ≤ 8)) := ⟨_, rfl⟩
  have h0 := l01In_any n 0 8
  rw [← hb] at h0
  have H0 := Lib.hid h0
  have HB := Lib.hid hb
  clear h0 hb
  cases b with
  | false =>
    go_enter Try.func77, Try.ntmps77
    go_wp2_with (go_at_call 72; refine (H0.out _).mono ?_; rintro x w2 ⟨rfl, rfl⟩)
    go_ret
    exact ⟨ret_b (okG_big n es (by have := HB.out; simp at this; omega)).symm, (by repeat (first | exact Below.refl _ _ | refine below_step (by assumption) (by first | omega | (simp; done) | (simp; omega)) ?_ | refine below_drewN ?_ _ | refine Below.drew ?_ | refine Below.setCell ?_ (by first | omega | (simp; done) | (simp; omega)) _ | refine Below.alloc ?_ (by first | omega | (simp; done) | (simp; omega)) _))⟩
  | true =>
    by_cases h80 : k ≤ 80
    · have hk80 : ¬ ((80 : Int) < k) := by omega
      have hn8 : 0 ≤ n ∧ n ≤ 8 := by have := HB.out; simpa using this.symm
      go_enter Try.func77, Try.ntmps77
      go_wp2_with (go_at_call 72; refine (H0.out _).mono ?_; rintro x w2 ⟨rfl, rfl⟩)
      go_loopw [18] (fun i wr => ∃ j : Nat, j ≤ k ∧ i = .int .i64 j ∧ (es.take j).all (okE n) = true ∧ wr.cell? ⟨w.heap.size, 0, none⟩ = some (.int .i64 n) ∧ Below w.heap.size w wr ∧ w.heap.size < wr.heap.size) (fun i _ => k - (intOf i).toNat)
      case atStart => exact ⟨0, Nat.zero_le _, rfl, rfl, by go_simp, (by repeat (first | exact Below.refl _ _ | refine below_step (by assumption) (by first | omega | (simp; done) | (simp; omega)) ?_ | refine below_drewN ?_ _ | refine Below.drew ?_ | refine Below.setCell ?_ (by first | omega | (simp; done) | (simp; omega)) _ | refine Below.alloc ?_ (by first | omega | (simp; done) | (simp; omega)) _)), by simp⟩
      case round =>
        obtain ⟨j, hj, rfl, hall, hcn, hbw, hsz⟩ := hrel
        have HA := Lib.hid hall
        clear hall
        by_cases hlt : j < k
        · have hl := HL.out
          obtain ⟨g, o, rfl, hg, hc⟩ := HR.out (by omega)
          have hc1 := hc j (by omega)
          have HK1 := Lib.hid (all_take_of es (okE n) j (by omega) HA.out)
          have HK2 := Lib.hid (okG_not n es j (by omega))
          obtain ⟨e, he⟩ : ∃ e, e = es[j]'(by omega) := ⟨_, rfl⟩
          rw [← he] at hc1 HK1 HK2
          obtain ⟨c0, c1, c2⟩ := hc1
          have k0 := (hbw.cell (p := ⟨g, o + j * 3, none⟩) hg).trans c0
          have k1 := (hbw.cell (p := ⟨g, o + j * 3 + 1, none⟩) hg).trans c1
          have k2 := (hbw.cell (p := ⟨g, o + j * 3 + 2, none⟩) hg).trans c2
          have ng : (w.heap.size = wr.heap.size) = False := eq_false (by omega)
          have ng2 : (wr.heap.size = w.heap.size) = False := eq_false (by omega)
          clear hc c0 c1 c2 he hl
          obtain ⟨u, v, c⟩ := e
          dsimp only at k0 k1 k2
          obtain ⟨bu, hbu⟩ : ∃ b, b = (decide ((0 : Int) ≤ u) && decide (u ≤ n - 1)) := ⟨_, rfl⟩
          obtain ⟨bv, hbv⟩ : ∃ b, b = (decide ((0 : Int) ≤ v) && decide (v ≤ n - 1)) := ⟨_, rfl⟩
          obtain ⟨bc, hbc⟩ : ∃ b, b = (decide ((-999999 : Int) ≤ c) && decide (c ≤ 999999)) := ⟨_, rfl⟩
          have hcu := l01In_any u 0 (n - 1)
          have hcv := l01In_any v 0 (n - 1)
          have hcc := l01In_any c (-999999) 999999
          rw [← hbu] at hcu
          rw [← hbv] at hcv
          rw [← hbc] at hcc
          have HU := Lib.hid hcu
          have HV := Lib.hid hcv
          have HC := Lib.hid hcc
          have hok : okE n ⟨u, v, c⟩ = (bu && bv && bc) := by
            rw [hbu, hbv, hbc]; unfold okE
            congr 1
            · congr 1
              · rw [Bool.eq_iff_iff]; simp; omega
              · rw [Bool.eq_iff_iff]; simp; omega
            · rw [Bool.eq_iff_iff]; simp; omega
          rw [hok] at HK1 HK2
          clear hcu hcv hcc hbu hbv hbc hok
          cases bu with
          | false =>
            go_wp2_with (first | (go_at_call_of 72 (Value.int .i64 u); refine (HU.out _).mono ?_; rintro x w2 ⟨rfl, rfl⟩))
            go_ret
            exact ⟨ret_b (HK2.out rfl).symm, (by repeat (first | exact Below.refl _ _ | refine below_step (by assumption) (by first | omega | (simp; done) | (simp; omega)) ?_ | refine below_drewN ?_ _ | refine Below.drew ?_ | refine Below.setCell ?_ (by first | omega | (simp; done) | (simp; omega)) _ | refine Below.alloc ?_ (by first | omega | (simp; done) | (simp; omega)) _))⟩
          | true =>
            cases bv with
            | false =>
              go_wp2_with (first | (go_at_call_of 72 (Value.int .i64 u); refine (HU.out _).mono ?_; rintro x w2 ⟨rfl, rfl⟩) | (go_at_call_of 72 (Value.int .i64 v); refine (HV.out _).mono ?_; rintro x w2 ⟨rfl, rfl⟩))
              go_ret
              exact ⟨ret_b (HK2.out rfl).symm, (by repeat (first | exact Below.refl _ _ | refine below_step (by assumption) (by first | omega | (simp; done) | (simp; omega)) ?_ | refine below_drewN ?_ _ | refine Below.drew ?_ | refine Below.setCell ?_ (by first | omega | (simp; done) | (simp; omega)) _ | refine Below.alloc ?_ (by first | omega | (simp; done) | (simp; omega)) _))⟩
            | true =>
              cases bc with
              | false =>
                go_wp2_with (first | (go_at_call_of 72 (Value.int .i64 u); refine (HU.out _).mono ?_; rintro x w2 ⟨rfl, rfl⟩) | (go_at_call_of 72 (Value.int .i64 v); refine (HV.out _).mono ?_; rintro x w2 ⟨rfl, rfl⟩) | (go_at_call_of 72 (Value.int .i64 c); refine (HC.out _).mono ?_; rintro x w2 ⟨rfl, rfl⟩))
                go_ret
                exact ⟨ret_b (HK2.out rfl).symm, (by repeat (first | exact Below.refl _ _ | refine below_step (by assumption) (by first | omega | (simp; done) | (simp; omega)) ?_ | refine below_drewN ?_ _ | refine Below.drew ?_ | refine Below.setCell ?_ (by first | omega | (simp; done) | (simp; omega)) _ | refine Below.alloc ?_ (by first | omega | (simp; done) | (simp; omega)) _))⟩
              | true =>
                go_wp2_with (first | (go_at_call_of 72 (Value.int .i64 u); refine (HU.out _).mono ?_; rintro x w2 ⟨rfl, rfl⟩) | (go_at_call_of 72 (Value.int .i64 v); refine (HV.out _).mono ?_; rintro x w2 ⟨rfl, rfl⟩) | (go_at_call_of 72 (Value.int .i64 c); refine (HC.out _).mono ?_; rintro x w2 ⟨rfl, rfl⟩))
                go_roundw
                case rel => exact ⟨j + 1, by omega, by go_num, HK1.out rfl, by go_simp, (by repeat (first | exact Below.refl _ _ | refine below_step (by assumption) (by first | omega | (simp; done) | (simp; omega)) ?_ | refine below_drewN ?_ _ | refine Below.drew ?_ | refine Below.setCell ?_ (by first | omega | (simp; done) | (simp; omega)) _ | refine Below.alloc ?_ (by first | omega | (simp; done) | (simp; omega)) _)), by simp; omega⟩
                case measure => simp [intOf]; omega
        · go_wp2_with fail
          go_ret
          have hl := HL.out
          exact ⟨ret_b (okG_all n es (by omega) (by have := HA.out; rw [show j = es.length from by omega] at this; exact this)).symm, (by repeat (first | exact Below.refl _ _ | refine below_step (by assumption) (by first | omega | (simp; done) | (simp; omega)) ?_ | refine below_drewN ?_ _ | refine Below.drew ?_ | refine Below.setCell ?_ (by first | omega | (simp; done) | (simp; omega)) _ | refine Below.alloc ?_ (by first | omega | (simp; done) | (simp; omega)) _))⟩
    · have hk80 : ((80 : Int) < k) := by omega
      go_enter Try.func77, Try.ntmps77
      go_wp2_with (go_at_call 72; refine (H0.out _).mono ?_; rintro x w2 ⟨rfl, rfl⟩)
      go_ret
      exact ⟨ret_b (okG_big n es (by have := HL.out; omega)).symm, (by repeat (first | exact Below.refl _ _ | refine below_step (by assumption) (by first | omega | (simp; done) | (simp; omega)) ?_ | refine below_drewN ?_ _ | refine Below.drew ?_ | refine Below.setCell ?_ (by first | omega | (simp; done) | (simp; omega)) _ | refine Below.alloc ?_ (by first | omega | (simp; done) | (simp; omega)) _))⟩

end Go.Proofs.Ytdjaiijgdflopaa
