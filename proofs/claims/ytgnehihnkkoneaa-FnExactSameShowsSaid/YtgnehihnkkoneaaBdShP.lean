/-
  WALKS of spec.NodeOk, l08Same, l08Watcher, NodeNamed, l08Free.
  A REGION THAT DRAWS ITS ORDER, WHOSE OPERATIONS YIELD ONE VALUE IN EVERY WORLD OF A CLASS AND LEAVE A WORLD OF THE CLASS: one lexical walk, at any class.
-/
import Derived.Test.YtgnehihnkkoneaaBdShE
import Derived.Test.YtgnehihnkkoneaaBdDig
import Derived.Test.YtgnehihnkkoneaaProg
import Derived.Deep.QuietTactic
import Derived.BigQuiet
namespace Go.Proofs.Ytgnehihnkkoneaa
open Go.RowKit
set_option linter.unusedVariables false
set_option linter.unusedSimpArgs false

theorem bytes_sameP {a b : ByteArray} (h : a = b) : (a.toList == b.toList) = true := by rw [h]; simp
theorem bytes_otherP {s t : ByteArray} (h : ¬ s = t) : (s.toList == t.toList) = false := by
  simp only [beq_eq_false_iff_ne, ne_eq]
  rw [Lib.toList_data, Lib.toList_data]
  intro e
  exact h (by apply ByteArray.ext; apply Array.toList_inj.1; exact e)
theorem nodB_eq (nm : ByteArray) (lab : List Int) (wat : Int) : nodB ⟨nm, lab, wat⟩ = (nameB nm.data.toList && (labR lab && (decide (0 ≤ wat) && decide (wat ≤ 3)))) := rfl

set_option maxRecDepth 100000 in
set_option maxHeartbeats 4000000 in
theorem spec_NodeOk (e : GN) (L : Option Addr) (c k : Nat) (w : World) (hk : e.lab.length = k) (hm : k ≤ 1048576) (hn : e.name.size ≤ maxLen) (hr : RowAt w L (e.lab.map intV)) :
    Calls Try.prog 12 #[.agg #[.string e.name, .slice L k c, .int .i64 e.wat]] w fun x w' => x = .returned (.bool (nodB e)) ∧ Below w.heap.size w w' := by
  obtain ⟨nm, lab, wat⟩ := e
  have HV := Lib.hid (nodB_eq nm lab wat)
  dsimp only at hk hr hn ⊢
  have HNM := Lib.hid (fun W => spec_IsName nm W hn)
  have HLB := Lib.hid (fun W h => spec_LabelOk lab L k c W hk hm h)
  have HIN := Lib.hid (l01In_any wat 0 3)
  have HR := Lib.hid hr
  clear hr hk hn
  obtain ⟨b1, hb1⟩ : ∃ b, b = nameB nm.data.toList := ⟨_, rfl⟩
  obtain ⟨b2, hb2⟩ : ∃ b, b = labR lab := ⟨_, rfl⟩
  obtain ⟨b3, hb3⟩ : ∃ b, b = (decide (0 ≤ wat) && decide (wat ≤ 3)) := ⟨_, rfl⟩
  rw [← hb1] at HNM HV
  rw [← hb2] at HLB HV
  rw [← hb3] at HIN HV
  clear hb1 hb2 hb3
  cases b1 with
  | false =>
    go_enter Try.func12, Try.ntmps12
    go_wp2_with fail
    refine (HNM.out _).mono ?_
    rintro x w1 ⟨rfl, rfl⟩
    go_wp2_with fail
    go_ret
    exact ⟨ret_b (by rw [HV.out]; rfl), (by repeat (first | exact Below.refl _ _ | refine below_step (by assumption) (by first | omega | (simp; done) | (simp; omega)) ?_ | refine below_drewN ?_ _ | refine Below.drew ?_ | refine Below.setCell ?_ (by first | omega | (simp; done) | (simp; omega)) _ | refine Below.alloc ?_ (by first | omega | (simp; done) | (simp; omega)) _))⟩
  | true =>
    cases b2 with
    | false =>
      go_enter Try.func12, Try.ntmps12
      go_wp2_with fail
      refine (HNM.out _).mono ?_
      rintro x w1 ⟨rfl, rfl⟩
      go_wp2_with fail
      refine (HLB.out _ (HR.out.below (by repeat (first | exact Below.refl _ _ | refine below_step (by assumption) (by first | omega | (simp; done) | (simp; omega)) ?_ | refine below_drewN ?_ _ | refine Below.drew ?_ | refine Below.setCell ?_ (by first | omega | (simp; done) | (simp; omega)) _ | refine Below.alloc ?_ (by first | omega | (simp; done) | (simp; omega)) _)))).mono ?_
      rintro x w1 ⟨rfl, rfl⟩
      go_wp2_with fail
      go_ret
      exact ⟨ret_b (by rw [HV.out]; rfl), (by repeat (first | exact Below.refl _ _ | refine below_step (by assumption) (by first | omega | (simp; done) | (simp; omega)) ?_ | refine below_drewN ?_ _ | refine Below.drew ?_ | refine Below.setCell ?_ (by first | omega | (simp; done) | (simp; omega)) _ | refine Below.alloc ?_ (by first | omega | (simp; done) | (simp; omega)) _))⟩
    | true =>
      go_enter Try.func12, Try.ntmps12
      go_wp2_with fail
      refine (HNM.out _).mono ?_
      rintro x w1 ⟨rfl, rfl⟩
      go_wp2_with fail
      refine (HLB.out _ (HR.out.below (by repeat (first | exact Below.refl _ _ | refine below_step (by assumption) (by first | omega | (simp; done) | (simp; omega)) ?_ | refine below_drewN ?_ _ | refine Below.drew ?_ | refine Below.setCell ?_ (by first | omega | (simp; done) | (simp; omega)) _ | refine Below.alloc ?_ (by first | omega | (simp; done) | (simp; omega)) _)))).mono ?_
      rintro x w1 ⟨rfl, rfl⟩
      go_wp2_with fail
      refine (HIN.out _).mono ?_
      rintro x w1 ⟨rfl, rfl⟩
      cases b3 with
      | false =>
        go_wp2_with fail
        go_ret
        exact ⟨ret_b (by rw [HV.out]; rfl), (by repeat (first | exact Below.refl _ _ | refine below_step (by assumption) (by first | omega | (simp; done) | (simp; omega)) ?_ | refine below_drewN ?_ _ | refine Below.drew ?_ | refine Below.setCell ?_ (by first | omega | (simp; done) | (simp; omega)) _ | refine Below.alloc ?_ (by first | omega | (simp; done) | (simp; omega)) _))⟩
      | true =>
        go_wp2_with fail
        go_ret
        exact ⟨ret_b (by rw [HV.out]; rfl), (by repeat (first | exact Below.refl _ _ | refine below_step (by assumption) (by first | omega | (simp; done) | (simp; omega)) ?_ | refine below_drewN ?_ _ | refine Below.drew ?_ | refine Below.setCell ?_ (by first | omega | (simp; done) | (simp; omega)) _ | refine Below.alloc ?_ (by first | omega | (simp; done) | (simp; omega)) _))⟩

set_option maxRecDepth 100000 in
set_option maxHeartbeats 4000000 in
theorem spec_l08Same (a b : List Int) (A : Option Addr) (k c : Nat) (B : Option Addr) (m d : Nat) (w : World) (hl : a.length = k) (hm : k ≤ 1048576) (hlb : b.length = m) (hmb : m ≤ 1048576) (hr : RowAt w A (a.map intV)) (hrb : RowAt w B (b.map intV)) :
    Calls Try.prog 61 #[.slice A k c, .slice B m d] w fun e w' => e = .returned (.bool (decide (a = b))) ∧ w = w' := by
  have HA := Lib.hid hr
  have HB := Lib.hid hrb
  have HL := Lib.hid hl
  have HLB := Lib.hid hlb
  clear hr hrb hl hlb
  by_cases hkm : k = m
  · subst hkm
    have hne : ((k : Int) != (k : Int)) = false := by simp
    go_enter Try.func61, Try.ntmps61
    go_wp2_with fail
    go_loopw [14] (fun i wr => ∃ j : Nat, j ≤ k ∧ i = .int .i64 j ∧ a.take j = b.take j ∧ wr = w) (fun i _ => k - (intOf i).toNat)
    case atStart => exact ⟨0, Nat.zero_le _, rfl, rfl, rfl⟩
    case round =>
      obtain ⟨j, hj, rfl, hall, hw⟩ := hrel
      obtain rfl : w = wr := hw.symm
      have HT := Lib.hid hall
      clear hall hw
      by_cases hlt : j < k
      · have hjk : ((j : Int) < (k : Int)) := by omega
        obtain ⟨g, o, rfl, hg, hc⟩ := row_getB HA.out (q := j) (by have := HL.out; omega)
        obtain ⟨g2, o2, rfl, hg2, hc2⟩ := row_getB HB.out (q := j) (by have := HLB.out; omega)
        obtain ⟨x, hx⟩ : ∃ x, x = a[j]'(by have := HL.out; omega) := ⟨_, rfl⟩
        obtain ⟨y, hy⟩ : ∃ x, x = b[j]'(by have := HLB.out; omega) := ⟨_, rfl⟩
        rw [← hx] at hc
        rw [← hy] at hc2
        have HX := Lib.hid hx
        have HY := Lib.hid hy
        clear hx hy
        by_cases hxy : x = y
        · have hb : (x != y) = false := by simp [hxy]
          have HXY := Lib.hid hxy
          clear hxy
          go_wp2_with fail
          go_roundw
          case rel => exact ⟨j + 1, by omega, by go_num, by rw [List.take_add_one, List.take_add_one, HT.out, List.getElem?_eq_getElem (by have := HL.out; omega), List.getElem?_eq_getElem (by have := HLB.out; omega), ← HX.out, ← HY.out, HXY.out], by first | rfl | trivial⟩
          case measure => simp [intOf]; omega
        · have hb : (x != y) = true := by simp [hxy]
          have HXY := Lib.hid hxy
          clear hxy
          go_wp2_with fail
          go_ret
          exact ⟨ret_b (decide_eq_false (fun e => HXY.out (by rw [HX.out, HY.out]; simp [e]))).symm, rfl⟩
      · have hjk : ¬ ((j : Int) < (k : Int)) := by omega
        go_wp2_with fail
        go_ret
        exact ⟨ret_b (decide_eq_true (by have := HT.out; rwa [List.take_of_length_le (by have := HL.out; omega), List.take_of_length_le (by have := HLB.out; omega)] at this)).symm, rfl⟩
  · have hne : ((k : Int) != (m : Int)) = true := by simp; omega
    go_enter Try.func61, Try.ntmps61
    go_wp2_with fail
    go_ret
    exact ⟨ret_b (decide_eq_false (fun e => hkm (by rw [← HL.out, ← HLB.out, e]))).symm, rfl⟩

set_option maxRecDepth 100000 in
set_option maxHeartbeats 4000000 in
theorem spec_l08Watcher (s : GS) (x : Int) (A : Option Addr) (k c : Nat) (B : Option Addr) (m d : Nat) (w : World) (hk : k ≤ 1048576) (ha : ShowAt w s A k B m) :
    Calls Try.prog 56 #[shV A k c B m d s.h, .int .i64 x] w fun e w' => e = .returned (.int .i64 (watR s.ns x)) ∧ Below w.heap.size w w' := by
  have HA := Lib.hid ha
  clear ha
  obtain ⟨h, hh⟩ : ∃ h, h = s.h := ⟨_, rfl⟩
  rw [← hh]
  clear hh
  unfold shV
  go_enter Try.func56, Try.ntmps56
  go_wp2_with fail
  go_loopw [10] (fun i wr => ∃ j : Nat, j ≤ k ∧ i = .int .i64 j ∧ (∀ q (hq : q < j) (hl : q < s.ns.length), decide ((s.ns[q]).wat = x) = false) ∧ Below w.heap.size w wr) (fun i _ => k - (intOf i).toNat)
  case atStart => exact ⟨0, Nat.zero_le _, rfl, fun q hq => by omega, (by repeat (first | exact Below.refl _ _ | refine below_step (by assumption) (by first | omega | (simp; done) | (simp; omega)) ?_ | refine below_drewN ?_ _ | refine Below.drew ?_ | refine Below.setCell ?_ (by first | omega | (simp; done) | (simp; omega)) _ | refine Below.alloc ?_ (by first | omega | (simp; done) | (simp; omega)) _))⟩
  case round =>
    obtain ⟨j, hj, rfl, hall, hbw⟩ := hrel
    have HALL := Lib.hid hall
    clear hall
    by_cases hlt : j < k
    · have hjk : ((j : Int) < (k : Int)) := by omega
      have hl := HA.out.ln
      obtain ⟨g, o, rfl, hg, hc⟩ := HA.out.nodes (by omega)
      have hc1 := hc j (by omega)
      obtain ⟨e, he⟩ : ∃ e, e = s.ns[j]'(by omega) := ⟨_, rfl⟩
      rw [← he] at hc1
      obtain ⟨d0, d2, L, cl, d1, _⟩ := hc1
      obtain ⟨q, hq⟩ : ∃ q, q = e.lab.length := ⟨_, rfl⟩
      rw [← hq] at d1
      have k0 := (hbw.cell (p := ⟨g, o + j * 3, none⟩) hg).trans d0
      have k1 := (hbw.cell (p := ⟨g, o + j * 3 + 1, none⟩) hg).trans d1
      have k2 := (hbw.cell (p := ⟨g, o + j * 3 + 2, none⟩) hg).trans d2
      have zr := hbw.size
      have BW := Lib.hid hbw
      have HE : Hid (∀ h : j < s.ns.length, s.ns[j]'h = e) := Lib.hid (fun _ => he.symm)
      clear hc d0 d1 d2 he hl hbw hq
      by_cases hx : e.wat = x
      · have hb : (e.wat == x) = true := by simp [hx]
        have HX := Lib.hid hx
        clear hx
        go_wp2_with fail
        go_ret
        refine ⟨int_ans ?_, BW.out.alloc zr _⟩
        unfold watR
        rw [fir_at (j := j) (by have := HA.out.ln; omega) HALL.out (by rw [HE.out]; exact decide_eq_true HX.out)]
      · have hb : (e.wat == x) = false := by simp [hx]
        have HX := Lib.hid hx
        clear hx
        go_wp2_with fail
        go_roundw
        case rel =>
          refine ⟨j + 1, by omega, by go_num, fun q hq hl => ?_, BW.out.alloc zr _⟩
          by_cases eq : q = j
          · subst eq; rw [HE.out]; exact decide_eq_false HX.out
          · exact HALL.out q (by omega) hl
        case measure => simp [intOf]; omega
    · have hjk : ¬ ((j : Int) < (k : Int)) := by omega
      go_wp2_with fail
      go_ret
      refine ⟨int_ans ?_, hbw⟩
      unfold watR
      rw [fir_all (j := j) HALL.out (by have := HA.out.ln; omega)]

set_option maxRecDepth 100000 in
set_option maxHeartbeats 4000000 in
theorem spec_NodeNamed (s : GS) (x : ByteArray) (A : Option Addr) (k c : Nat) (B : Option Addr) (m d : Nat) (w : World) (hk : k ≤ 1048576) (ha : ShowAt w s A k B m) :
    Calls Try.prog 27 #[shV A k c B m d s.h, .string x] w fun e w' => e = .returned (.int .i64 (namR s.ns x)) ∧ Below w.heap.size w w' := by
  have HA := Lib.hid ha
  clear ha
  obtain ⟨h, hh⟩ : ∃ h, h = s.h := ⟨_, rfl⟩
  rw [← hh]
  clear hh
  unfold shV
  go_enter Try.func27, Try.ntmps27
  go_wp2_with fail
  go_loopw [10] (fun i wr => ∃ j : Nat, j ≤ k ∧ i = .int .i64 j ∧ (∀ q (hq : q < j) (hl : q < s.ns.length), decide ((s.ns[q]).name = x) = false) ∧ Below w.heap.size w wr) (fun i _ => k - (intOf i).toNat)
  case atStart => exact ⟨0, Nat.zero_le _, rfl, fun q hq => by omega, (by repeat (first | exact Below.refl _ _ | refine below_step (by assumption) (by first | omega | (simp; done) | (simp; omega)) ?_ | refine below_drewN ?_ _ | refine Below.drew ?_ | refine Below.setCell ?_ (by first | omega | (simp; done) | (simp; omega)) _ | refine Below.alloc ?_ (by first | omega | (simp; done) | (simp; omega)) _))⟩
  case round =>
    obtain ⟨j, hj, rfl, hall, hbw⟩ := hrel
    have HALL := Lib.hid hall
    clear hall
    by_cases hlt : j < k
    · have hjk : ((j : Int) < (k : Int)) := by omega
      have hl := HA.out.ln
      obtain ⟨g, o, rfl, hg, hc⟩ := HA.out.nodes (by omega)
      have hc1 := hc j (by omega)
      obtain ⟨e, he⟩ : ∃ e, e = s.ns[j]'(by omega) := ⟨_, rfl⟩
      rw [← he] at hc1
      obtain ⟨d0, d2, L, cl, d1, _⟩ := hc1
      obtain ⟨q, hq⟩ : ∃ q, q = e.lab.length := ⟨_, rfl⟩
      rw [← hq] at d1
      have k0 := (hbw.cell (p := ⟨g, o + j * 3, none⟩) hg).trans d0
      have k1 := (hbw.cell (p := ⟨g, o + j * 3 + 1, none⟩) hg).trans d1
      have k2 := (hbw.cell (p := ⟨g, o + j * 3 + 2, none⟩) hg).trans d2
      have zr := hbw.size
      have BW := Lib.hid hbw
      have HE : Hid (∀ h : j < s.ns.length, s.ns[j]'h = e) := Lib.hid (fun _ => he.symm)
      clear hc d0 d1 d2 he hl hbw hq
      by_cases hx : e.name = x
      · have hb := bytes_sameP hx
        have HX := Lib.hid hx
        clear hx
        go_wp2_with fail
        go_ret
        refine ⟨int_ans ?_, BW.out.alloc zr _⟩
        unfold namR
        rw [fir_at (j := j) (by have := HA.out.ln; omega) HALL.out (by rw [HE.out]; exact decide_eq_true HX.out)]
      · have hb := bytes_otherP hx
        have HX := Lib.hid hx
        clear hx
        go_wp2_with fail
        go_roundw
        case rel =>
          refine ⟨j + 1, by omega, by go_num, fun q hq hl => ?_, BW.out.alloc zr _⟩
          by_cases eq : q = j
          · subst eq; rw [HE.out]; exact decide_eq_false HX.out
          · exact HALL.out q (by omega) hl
        case measure => simp [intOf]; omega
    · have hjk : ¬ ((j : Int) < (k : Int)) := by omega
      go_wp2_with fail
      go_ret
      refine ⟨int_ans ?_, hbw⟩
      unfold namR
      rw [fir_all (j := j) HALL.out (by have := HA.out.ln; omega)]

set_option maxRecDepth 100000 in
set_option maxHeartbeats 4000000 in
theorem spec_l08Free (s : GS) (x : Int) (A : Option Addr) (k c : Nat) (B : Option Addr) (m d : Nat) (w : World) (hm : m ≤ 1048576) (ha : ShowAt w s A k B m) :
    Calls Try.prog 54 #[shV A k c B m d s.h, .int .i64 x] w fun e w' => e = .returned (.int .i64 (freR s.ts x)) ∧ Below w.heap.size w w' := by
  have HA := Lib.hid ha
  clear ha
  obtain ⟨h, hh⟩ : ∃ h, h = s.h := ⟨_, rfl⟩
  rw [← hh]
  clear hh
  unfold shV
  go_enter Try.func54, Try.ntmps54
  go_wp2_with fail
  go_loopw [10] (fun i wr => ∃ j : Nat, j ≤ m ∧ i = .int .i64 j ∧ (∀ q (hq : q < j) (hl : q < s.ts.length), ((s.ts[q]).fr && decide ((s.ts[q]).v = x)) = false) ∧ Below w.heap.size w wr) (fun i _ => m - (intOf i).toNat)
  case atStart => exact ⟨0, Nat.zero_le _, rfl, fun q hq => by omega, (by repeat (first | exact Below.refl _ _ | refine below_step (by assumption) (by first | omega | (simp; done) | (simp; omega)) ?_ | refine below_drewN ?_ _ | refine Below.drew ?_ | refine Below.setCell ?_ (by first | omega | (simp; done) | (simp; omega)) _ | refine Below.alloc ?_ (by first | omega | (simp; done) | (simp; omega)) _))⟩
  case round =>
    obtain ⟨j, hj, rfl, hall, hbw⟩ := hrel
    have HALL := Lib.hid hall
    clear hall
    by_cases hlt : j < m
    · have hjk : ((j : Int) < (m : Int)) := by omega
      have hl := HA.out.lt
      obtain ⟨g, o, rfl, hg, hc⟩ := HA.out.ties (by omega)
      have hc1 := hc j (by omega)
      obtain ⟨e, he⟩ : ∃ e, e = s.ts[j]'(by omega) := ⟨_, rfl⟩
      rw [← he] at hc1
      obtain ⟨eu, ev, elo, ehi, ef⟩ := e
      obtain ⟨d0, d1, d2, d3, d4⟩ := hc1
      dsimp only at d0 d1 d2 d3 d4
      have k0 := (hbw.cell (p := ⟨g, o + j * 5, none⟩) hg).trans d0
      have k1 := (hbw.cell (p := ⟨g, o + j * 5 + 1, none⟩) hg).trans d1
      have k2 := (hbw.cell (p := ⟨g, o + j * 5 + 2, none⟩) hg).trans d2
      have k3 := (hbw.cell (p := ⟨g, o + j * 5 + 3, none⟩) hg).trans d3
      have k4 := (hbw.cell (p := ⟨g, o + j * 5 + 4, none⟩) hg).trans d4
      have zr := hbw.size
      have BW := Lib.hid hbw
      have HE : Hid (∀ h : j < s.ts.length, s.ts[j]'h = ⟨eu, ev, elo, ehi, ef⟩) := Lib.hid (fun _ => he.symm)
      have HNO : Hid ((ef && decide (ev = x)) = false → ∀ q (hq : q < j + 1) (hl : q < s.ts.length), ((s.ts[q]).fr && decide ((s.ts[q]).v = x)) = false) := Lib.hid (fun h0 q hq hl => by
        by_cases eq : q = j
        · subst eq; rw [← he]; exact h0
        · exact HALL.out q (by omega) hl)
      clear hc d0 d1 d2 d3 d4 he hl hbw
      cases ef with
      | false =>
        go_wp2_with fail
        go_roundw
        case rel => exact ⟨j + 1, by omega, by go_num, HNO.out rfl, BW.out.alloc zr _⟩
        case measure => simp [intOf]; omega
      | true =>
        by_cases hx : ev = x
        · have hb : (ev == x) = true := by simp [hx]
          have HX := Lib.hid hx
          clear hx
          go_wp2_with fail
          go_ret
          refine ⟨int_ans ?_, BW.out.alloc zr _⟩
          unfold freR
          rw [fir_at (j := j) (by have := HA.out.lt; omega) HALL.out (by rw [HE.out]; dsimp only; rw [decide_eq_true HX.out]; rfl)]
        · have hb : (ev == x) = false := by simp [hx]
          have HX := Lib.hid hx
          clear hx
          go_wp2_with fail
          go_roundw
          case rel => exact ⟨j + 1, by omega, by go_num, HNO.out (by rw [decide_eq_false HX.out]; rfl), BW.out.alloc zr _⟩
          case measure => simp [intOf]; omega
    · have hjk : ¬ ((j : Int) < (m : Int)) := by omega
      go_wp2_with fail
      go_ret
      refine ⟨int_ans ?_, hbw⟩
      unfold freR
      rw [fir_all (j := j) HALL.out (by have := HA.out.lt; omega)]

end Go.Proofs.Ytgnehihnkkoneaa

namespace Go.Proofs.Ytgnehihnkkoneaa
set_option linter.unusedVariables false

/-- A world of the class C. -/
structure WC (C : World → Prop) where
  w : World
  h : C w

theorem region_wc {P : Program} (C : World → Prop) {id : Nat} {Q : Exit → Act → World → Prop} {a : Act} {w : World} {l : List Oper} (hm : P.follows .mixedOrders = true) (hB : Region.lexB .any l.toArray = true)
    (hC : C w.drew) (h : wpQuiet P l.toArray (fun w' => ∃ x : WC C, w' = x.w) (fun a' => ∀ w', (∃ x : WC C, w' = x.w) → Q .normal a' w') l a) : (Code.region id l.toArray true).wp P Q a w :=
  wp_region_quiet (C := fun w' => ∃ x : WC C, w' = x.w) hm hB ⟨⟨_, hC⟩, rfl⟩ (by simpa using h)

/-- A callee's contract, met in a world of the class. -/
theorem wc_calls {P : Program} {C : World → Prop} {f : FuncId} {args : Array Value} {x : WC C} {v : Value} (h : Calls P f args x.w fun e w' => e = .returned v ∧ C w') :
    Calls P f args x.w fun e w' => e = .returned v ∧ ∃ y : WC C, w' = y.w :=
  h.mono fun _ _ ⟨he, hc⟩ => ⟨he, ⟨_, hc⟩, rfl⟩

end Go.Proofs.Ytgnehihnkkoneaa
