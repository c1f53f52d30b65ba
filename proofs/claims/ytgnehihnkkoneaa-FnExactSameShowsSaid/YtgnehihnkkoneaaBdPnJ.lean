/-
  WALKS of impl's FreeTie, IsFree, WatcherOf, NodeNamed, ChosenNodes.
  WALKS of slices.EqualFunc at nodes, impl.SameShows.
  THE CONTRACTS OF impl's chapter 9: NodeOk, ShowOk, FreeTie, IsFree, WatcherOf, NodeNamed, ChosenNodes, SameShows.
-/
import Derived.Test.YtgnehihnkkoneaaPnI
import Derived.Test.YtgnehihnkkoneaaBdShU
import Derived.Test.YtgnehihnkkoneaaBdPnC
import Derived.Deep.AppendLies
import Derived.Deep.CutRange
import Derived.Test.YtgnehihnkkoneaaBdPnE
namespace Go.Proofs.Ytgnehihnkkoneaa
open Go.RowKit
open Go.Maps (Keyed int_keyed string_keyed keyOf_int_mk has)
set_option linter.unusedVariables false
set_option linter.unusedSimpArgs false

theorem int_ansP {a b : Int} (h : a = b) : Ending.returned (.int .i64 a) = .returned (.int .i64 b) := by rw [h]
theorem frR_yes {s : GS} {x : Int} (h : shR s = true) : frR s x = freR s.ts x := by unfold frR; rw [if_pos h]
theorem frR_no {s : GS} {x : Int} (h : shR s = false) : frR s x = -1 := by unfold frR; rw [if_neg (by rw [h]; simp)]
theorem frR_rng (s : GS) (x : Int) : frR s x = -1 ∨ 0 ≤ frR s x := by
  unfold frR
  split
  · rcases fir_rng (fun t : GT => t.fr && decide (t.v = x)) s.ts with h | ⟨j, _, h, _⟩
    · exact .inl h
    · refine .inr ?_
      unfold freR
      rw [h]; omega
  · exact .inl rfl
theorem wo_parts (s : GS) (x : Int) : woR8 s x = if 0 ≤ lasR s.ns x ∧ shR s = true then lasR s.ns x else -1 := by
  unfold woR8
  by_cases hs : shR s = true
  · rw [hs, Bool.and_true]
    have h1 := hs
    unfold shR at h1
    rw [Bool.and_eq_true] at h1
    have h2 := h1.1
    unfold ndsR at h2
    rw [Bool.and_eq_true, Bool.and_eq_true] at h2
    have ha : ∀ i, i < s.ns.length → ndA s.ns i = true := fun i hi => allJ_of h2.2.1 hi
    obtain ⟨hok, hlw⟩ := ndA_parts ha
    by_cases hx : 1 ≤ x ∧ x ≤ 3
    · rw [if_pos (by rw [decide_eq_true hx.1, decide_eq_true hx.2]; rfl), hlw x (by omega)]
      rcases watR_rngW s.ns x with h3 | ⟨i, _, h3, _⟩
      · rw [h3, if_neg (by omega)]
      · rw [h3, if_pos ⟨by omega, rfl⟩]
    · rw [if_neg (by simp only [Bool.and_eq_true, decide_eq_true_eq]; exact hx)]
      rcases lasR_rng s.ns x with h3 | ⟨i, hi, h3, h4⟩
      · rw [if_neg (by omega)]
      · by_cases h0 : x = 0
        · have : lasR s.ns x = -1 := by unfold lasR; rw [if_pos h0]
          omega
        · have := nodB_wat (hok i hi)
          omega
  · have hs2 : shR s = false := by simpa using hs
    rw [hs2, Bool.and_false, if_neg (by simp), if_neg (by simp)]

set_option maxRecDepth 100000 in
set_option maxHeartbeats 8000000 in
theorem impl_FreeTie (s : GS) (x : Int) (A : Option Addr) (k c : Nat) (B : Option Addr) (m d : Nat) (w : World) (hs : ShB s) (hw : ∀ e ∈ s.ns, e.wf) (ha : ShowAt w s A k B m) :
    Calls Try.prog 22 #[shV A k c B m d s.h, .int .i64 x] w fun e w' => e = .returned (.int .i64 (frR s x)) ∧ Below w.heap.size w w' := by
  have hmm : m ≤ 1048576 := by have := hs.ts; have := ha.lt; omega
  have HN := Lib.hid (fun W h => impl_ShowOk s A k c B m d W hs hw h)
  have HT := Lib.hid (fun W h => free_any s x A k c B m d W hmm h)
  have HY := Lib.hid (fun h => frR_yes (s := s) (x := x) h)
  have HNO := Lib.hid (fun h => frR_no (s := s) (x := x) h)
  have HA := Lib.hid ha
  clear ha hs hw
  obtain ⟨h, hh⟩ : ∃ h, h = s.h := ⟨_, rfl⟩
  rw [← hh] at HN HT
  rw [← hh]
  clear hh
  unfold shV at HN HT ⊢
  obtain ⟨b1, hb1⟩ : ∃ b, b = shR s := ⟨_, rfl⟩
  rw [← hb1] at HN HY HNO
  clear hb1
  obtain ⟨z, hz⟩ : ∃ z, z = freR s.ts x := ⟨_, rfl⟩
  rw [← hz] at HT HY
  clear hz
  cases b1 with
  | false =>
    have HX := Lib.hid (HNO.out rfl)
    clear HNO HY
    go_enter Try.func22, Try.ntmps22
    go_wp2_with fail
    refine (HN.out _ (HA.out.below (w := w) (by repeat (first | exact Below.refl _ _ | refine below_step (by assumption) (by first | omega | (simp; done) | (simp; omega)) ?_ | refine below_drewN ?_ _ | refine Below.drew ?_ | refine Below.setCell ?_ (by first | omega | (simp; done) | (simp; omega)) _ | refine Below.alloc ?_ (by first | omega | (simp; done) | (simp; omega)) _)))).mono ?_
    rintro e w1 ⟨rfl, v1⟩
    have c0_w1 : w1.cell? ⟨w.heap.size, 0, none⟩ = some (.slice A k c) := (v1.cell (p := ⟨w.heap.size, 0, none⟩) (by first | omega | (simp; done) | (simp; omega))).trans (by first | assumption | go_simp)
    have c1_w1 : w1.cell? ⟨w.heap.size, 1, none⟩ = some (.slice B m d) := (v1.cell (p := ⟨w.heap.size, 1, none⟩) (by first | omega | (simp; done) | (simp; omega))).trans (by first | assumption | go_simp)
    have c2_w1 : w1.cell? ⟨w.heap.size, 2, none⟩ = some (.int .i64 h) := (v1.cell (p := ⟨w.heap.size, 2, none⟩) (by first | omega | (simp; done) | (simp; omega))).trans (by first | assumption | go_simp)
    have s0_w1 : w.heap.size < w1.heap.size := Nat.lt_of_lt_of_le (by first | omega | (simp; done) | (simp; omega)) v1.size
    have B_w1 : Below w.heap.size w w1 := (by repeat (first | exact Below.refl _ _ | refine below_step (by assumption) (by first | omega | (simp; done) | (simp; omega)) ?_ | refine below_drewN ?_ _ | refine Below.drew ?_ | refine Below.setCell ?_ (by first | omega | (simp; done) | (simp; omega)) _ | refine Below.alloc ?_ (by first | omega | (simp; done) | (simp; omega)) _))
    clear v1  
    go_wp2_with fail
    go_ret
    exact ⟨int_ansP HX.out.symm, B_w1⟩
  | true =>
    have HX := Lib.hid (HY.out rfl)
    clear HNO HY
    go_enter Try.func22, Try.ntmps22
    go_wp2_with fail
    refine (HN.out _ (HA.out.below (w := w) (by repeat (first | exact Below.refl _ _ | refine below_step (by assumption) (by first | omega | (simp; done) | (simp; omega)) ?_ | refine below_drewN ?_ _ | refine Below.drew ?_ | refine Below.setCell ?_ (by first | omega | (simp; done) | (simp; omega)) _ | refine Below.alloc ?_ (by first | omega | (simp; done) | (simp; omega)) _)))).mono ?_
    rintro e w1 ⟨rfl, v1⟩
    have c0_w1 : w1.cell? ⟨w.heap.size, 0, none⟩ = some (.slice A k c) := (v1.cell (p := ⟨w.heap.size, 0, none⟩) (by first | omega | (simp; done) | (simp; omega))).trans (by first | assumption | go_simp)
    have c1_w1 : w1.cell? ⟨w.heap.size, 1, none⟩ = some (.slice B m d) := (v1.cell (p := ⟨w.heap.size, 1, none⟩) (by first | omega | (simp; done) | (simp; omega))).trans (by first | assumption | go_simp)
    have c2_w1 : w1.cell? ⟨w.heap.size, 2, none⟩ = some (.int .i64 h) := (v1.cell (p := ⟨w.heap.size, 2, none⟩) (by first | omega | (simp; done) | (simp; omega))).trans (by first | assumption | go_simp)
    have s0_w1 : w.heap.size < w1.heap.size := Nat.lt_of_lt_of_le (by first | omega | (simp; done) | (simp; omega)) v1.size
    have B_w1 : Below w.heap.size w w1 := (by repeat (first | exact Below.refl _ _ | refine below_step (by assumption) (by first | omega | (simp; done) | (simp; omega)) ?_ | refine below_drewN ?_ _ | refine Below.drew ?_ | refine Below.setCell ?_ (by first | omega | (simp; done) | (simp; omega)) _ | refine Below.alloc ?_ (by first | omega | (simp; done) | (simp; omega)) _))
    clear v1  
    go_wp2_with fail
    refine (HT.out _ (HA.out.below (w := w) (by repeat (first | exact Below.refl _ _ | refine below_step (by assumption) (by first | omega | (simp; done) | (simp; omega)) ?_ | refine below_drewN ?_ _ | refine Below.drew ?_ | refine Below.setCell ?_ (by first | omega | (simp; done) | (simp; omega)) _ | refine Below.alloc ?_ (by first | omega | (simp; done) | (simp; omega)) _)))).mono ?_
    rintro e w2 ⟨rfl, v2⟩
    have c0_w2 : w2.cell? ⟨w.heap.size, 0, none⟩ = some (.slice A k c) := (v2.cell (p := ⟨w.heap.size, 0, none⟩) (by first | omega | (simp; done) | (simp; omega))).trans (by first | assumption | go_simp)
    have c1_w2 : w2.cell? ⟨w.heap.size, 1, none⟩ = some (.slice B m d) := (v2.cell (p := ⟨w.heap.size, 1, none⟩) (by first | omega | (simp; done) | (simp; omega))).trans (by first | assumption | go_simp)
    have c2_w2 : w2.cell? ⟨w.heap.size, 2, none⟩ = some (.int .i64 h) := (v2.cell (p := ⟨w.heap.size, 2, none⟩) (by first | omega | (simp; done) | (simp; omega))).trans (by first | assumption | go_simp)
    have s0_w2 : w.heap.size < w2.heap.size := Nat.lt_of_lt_of_le (by first | omega | (simp; done) | (simp; omega)) v2.size
    have B_w2 : Below w.heap.size w w2 := (by repeat (first | exact Below.refl _ _ | refine below_step (by assumption) (by first | omega | (simp; done) | (simp; omega)) ?_ | refine below_drewN ?_ _ | refine Below.drew ?_ | refine Below.setCell ?_ (by first | omega | (simp; done) | (simp; omega)) _ | refine Below.alloc ?_ (by first | omega | (simp; done) | (simp; omega)) _))
    clear v2 c0_w1 c1_w1 c2_w1 s0_w1 B_w1
    go_wp2_with fail
    go_ret
    exact ⟨int_ansP HX.out.symm, B_w2⟩

set_option maxRecDepth 100000 in
set_option maxHeartbeats 8000000 in
theorem impl_IsFree (s : GS) (x : Int) (A : Option Addr) (k c : Nat) (B : Option Addr) (m d : Nat) (w : World) (hs : ShB s) (hw : ∀ e ∈ s.ns, e.wf) (ha : ShowAt w s A k B m) :
    Calls Try.prog 24 #[shV A k c B m d s.h, .int .i64 x] w fun e w' => e = .returned (.bool (decide (0 ≤ frR s x))) ∧ Below w.heap.size w w' := by
  have HT := Lib.hid (fun W h => impl_FreeTie s x A k c B m d W hs hw h)
  have HR := Lib.hid (frR_rng s x)
  have HA := Lib.hid ha
  clear ha hs hw
  obtain ⟨h, hh⟩ : ∃ h, h = s.h := ⟨_, rfl⟩
  rw [← hh] at HT
  rw [← hh]
  clear hh
  unfold shV at HT ⊢
  obtain ⟨z, hz⟩ : ∃ z, z = frR s x := ⟨_, rfl⟩
  rw [← hz] at HT HR
  rw [← hz]
  clear hz
  by_cases h0 : z = -1
  · have t1 : (z != -1) = false := by simp [h0]
    have HD := Lib.hid (decide_eq_false (show ¬ 0 ≤ z by omega))
    clear h0
    go_enter Try.func24, Try.ntmps24
    go_wp2_with fail
    refine (HT.out _ (HA.out.below (w := w) (by repeat (first | exact Below.refl _ _ | refine below_step (by assumption) (by first | omega | (simp; done) | (simp; omega)) ?_ | refine below_drewN ?_ _ | refine Below.drew ?_ | refine Below.setCell ?_ (by first | omega | (simp; done) | (simp; omega)) _ | refine Below.alloc ?_ (by first | omega | (simp; done) | (simp; omega)) _)))).mono ?_
    rintro e w1 ⟨rfl, v1⟩
    have c0_w1 : w1.cell? ⟨w.heap.size, 0, none⟩ = some (.slice A k c) := (v1.cell (p := ⟨w.heap.size, 0, none⟩) (by first | omega | (simp; done) | (simp; omega))).trans (by first | assumption | go_simp)
    have c1_w1 : w1.cell? ⟨w.heap.size, 1, none⟩ = some (.slice B m d) := (v1.cell (p := ⟨w.heap.size, 1, none⟩) (by first | omega | (simp; done) | (simp; omega))).trans (by first | assumption | go_simp)
    have c2_w1 : w1.cell? ⟨w.heap.size, 2, none⟩ = some (.int .i64 h) := (v1.cell (p := ⟨w.heap.size, 2, none⟩) (by first | omega | (simp; done) | (simp; omega))).trans (by first | assumption | go_simp)
    have s0_w1 : w.heap.size < w1.heap.size := Nat.lt_of_lt_of_le (by first | omega | (simp; done) | (simp; omega)) v1.size
    have B_w1 : Below w.heap.size w w1 := (by repeat (first | exact Below.refl _ _ | refine below_step (by assumption) (by first | omega | (simp; done) | (simp; omega)) ?_ | refine below_drewN ?_ _ | refine Below.drew ?_ | refine Below.setCell ?_ (by first | omega | (simp; done) | (simp; omega)) _ | refine Below.alloc ?_ (by first | omega | (simp; done) | (simp; omega)) _))
    clear v1  
    go_wp2_with fail
    go_ret
    exact ⟨ret_b HD.out.symm, B_w1⟩
  · have t1 : (z != -1) = true := by simp [h0]
    have HD := Lib.hid (decide_eq_true (show 0 ≤ z by have := HR.out; omega))
    clear h0
    go_enter Try.func24, Try.ntmps24
    go_wp2_with fail
    refine (HT.out _ (HA.out.below (w := w) (by repeat (first | exact Below.refl _ _ | refine below_step (by assumption) (by first | omega | (simp; done) | (simp; omega)) ?_ | refine below_drewN ?_ _ | refine Below.drew ?_ | refine Below.setCell ?_ (by first | omega | (simp; done) | (simp; omega)) _ | refine Below.alloc ?_ (by first | omega | (simp; done) | (simp; omega)) _)))).mono ?_
    rintro e w1 ⟨rfl, v1⟩
    have c0_w1 : w1.cell? ⟨w.heap.size, 0, none⟩ = some (.slice A k c) := (v1.cell (p := ⟨w.heap.size, 0, none⟩) (by first | omega | (simp; done) | (simp; omega))).trans (by first | assumption | go_simp)
    have c1_w1 : w1.cell? ⟨w.heap.size, 1, none⟩ = some (.slice B m d) := (v1.cell (p := ⟨w.heap.size, 1, none⟩) (by first | omega | (simp; done) | (simp; omega))).trans (by first | assumption | go_simp)
    have c2_w1 : w1.cell? ⟨w.heap.size, 2, none⟩ = some (.int .i64 h) := (v1.cell (p := ⟨w.heap.size, 2, none⟩) (by first | omega | (simp; done) | (simp; omega))).trans (by first | assumption | go_simp)
    have s0_w1 : w.heap.size < w1.heap.size := Nat.lt_of_lt_of_le (by first | omega | (simp; done) | (simp; omega)) v1.size
    have B_w1 : Below w.heap.size w w1 := (by repeat (first | exact Below.refl _ _ | refine below_step (by assumption) (by first | omega | (simp; done) | (simp; omega)) ?_ | refine below_drewN ?_ _ | refine Below.drew ?_ | refine Below.setCell ?_ (by first | omega | (simp; done) | (simp; omega)) _ | refine Below.alloc ?_ (by first | omega | (simp; done) | (simp; omega)) _))
    clear v1  
    go_wp2_with fail
    go_ret
    exact ⟨ret_b HD.out.symm, B_w1⟩

set_option maxRecDepth 100000 in
set_option maxHeartbeats 8000000 in
theorem impl_WatcherOf (s : GS) (x : Int) (A : Option Addr) (k c : Nat) (B : Option Addr) (m d : Nat) (w : World) (hs : ShB s) (hw : ∀ e ∈ s.ns, e.wf) (ha : ShowAt w s A k B m) (hx : (Lit.int .i64 x).wf = true) :
    Calls Try.prog 26 #[shV A k c B m d s.h, .int .i64 x] w fun e w' => e = .returned (.int .i64 (woR8 s x)) ∧ Below w.heap.size w w' := by
  have hkk : k ≤ 1048576 := by have := hs.ns; have := ha.ln; omega
  have HN := Lib.hid (fun W h => impl_ShowOk s A k c B m d W hs hw h)
  have HWT := Lib.hid (fun W h => watchers_any s.ns A k c W ha.ln hkk hw h)
  have HV := Lib.hid (wo_parts s x)
  have HLN := Lib.hid ha.ln
  have HKI := Lib.hid (keyOf_int_mk Try.underlying3 hx)
  have HA := Lib.hid ha
  clear ha hs hw
  obtain ⟨h, hh⟩ : ∃ h, h = s.h := ⟨_, rfl⟩
  rw [← hh] at HN
  rw [← hh]
  clear hh
  unfold shV at HN ⊢
  obtain ⟨b2, hb2⟩ : ∃ b, b = shR s := ⟨_, rfl⟩
  rw [← hb2] at HN HV
  clear hb2
  have HHAS : Hid (has (waD s.ns k) (.int .i64 x) = decide (0 ≤ lasR s.ns x)) := Lib.hid (by rw [← HLN.out]; exact waR_has s.ns x)
  obtain ⟨z, hz⟩ : ∃ z, z = lasR s.ns x := ⟨_, rfl⟩
  have HZ := Lib.hid hz
  rw [← hz] at HV HHAS
  clear hz
  by_cases h0 : 0 ≤ z
  · have HD := Lib.hid (decide_eq_true h0)
    cases b2 with
    | false =>
      have HX := Lib.hid (show woR8 s x = -1 from by rw [HV.out, if_neg (by simp)])
      clear HV
      go_enter Try.func26, Try.ntmps26
      go_wp2_with fail
      refine (HWT.out _ (HA.out.nodes.below (w := w) (by repeat (first | exact Below.refl _ _ | refine below_step (by assumption) (by first | omega | (simp; done) | (simp; omega)) ?_ | refine below_drewN ?_ _ | refine Below.drew ?_ | refine Below.setCell ?_ (by first | omega | (simp; done) | (simp; omega)) _ | refine Below.alloc ?_ (by first | omega | (simp; done) | (simp; omega)) _)))).mono ?_
      rintro e w1 ⟨rfl, hm1, v1⟩
      have c0_w1 : w1.cell? ⟨w.heap.size, 0, none⟩ = some (.slice A k c) := (v1.cell (p := ⟨w.heap.size, 0, none⟩) (by first | omega | (simp; done) | (simp; omega))).trans (by first | assumption | go_simp)
      have c1_w1 : w1.cell? ⟨w.heap.size, 1, none⟩ = some (.slice B m d) := (v1.cell (p := ⟨w.heap.size, 1, none⟩) (by first | omega | (simp; done) | (simp; omega))).trans (by first | assumption | go_simp)
      have c2_w1 : w1.cell? ⟨w.heap.size, 2, none⟩ = some (.int .i64 h) := (v1.cell (p := ⟨w.heap.size, 2, none⟩) (by first | omega | (simp; done) | (simp; omega))).trans (by first | assumption | go_simp)
      have s0_w1 : w.heap.size < w1.heap.size := Nat.lt_of_lt_of_le (by first | omega | (simp; done) | (simp; omega)) v1.size
      have B_w1 : Below w.heap.size w w1 := (by repeat (first | exact Below.refl _ _ | refine below_step (by assumption) (by first | omega | (simp; done) | (simp; omega)) ?_ | refine below_drewN ?_ _ | refine Below.drew ?_ | refine Below.setCell ?_ (by first | omega | (simp; done) | (simp; omega)) _ | refine Below.alloc ?_ (by first | omega | (simp; done) | (simp; omega)) _))
      clear v1  
      have HM1 := Lib.hid hm1
      clear hm1
      obtain ⟨y1, q1, hrun1, hat1⟩ := HM1.out.look_ok keyedI Try.underlying66 (zeroI _) (zd := .lit (.int .i64 0)) (zp := []) (plainElem_int Try.underlying3 (by decide)) HKI.out
      obtain ⟨y2, rfl, hat2, _⟩ := plainElem_int_inv Try.underlying3 hat1
      have hat3 : (waD s.ns s.ns.length).atKey (.int .i64 x) (.lit (.int .i64 0)) = (.lit (.int .i64 y2) : DU) := by rw [HLN.out]; exact congrArg Prod.fst hat2
      rw [HHAS.out, HD.out, World.size_alloc] at hrun1
      have HY := Lib.hid ((at_watch hat3).trans (by rw [← HZ.out]))
      clear hat1 hat2 hat3
      have N1 := HM1
      go_wp2_with fail
      refine (HN.out _ (HA.out.below (w := w) (by repeat (first | exact Below.refl _ _ | refine below_step (by assumption) (by first | omega | (simp; done) | (simp; omega)) ?_ | refine below_drewN ?_ _ | refine Below.drew ?_ | refine Below.setCell ?_ (by first | omega | (simp; done) | (simp; omega)) _ | refine Below.alloc ?_ (by first | omega | (simp; done) | (simp; omega)) _)))).mono ?_
      rintro e w2 ⟨rfl, v2⟩
      have c0_w2 : w2.cell? ⟨w.heap.size, 0, none⟩ = some (.slice A k c) := (v2.cell (p := ⟨w.heap.size, 0, none⟩) (by first | omega | (simp; done) | (simp; omega))).trans (by first | assumption | go_simp)
      have c1_w2 : w2.cell? ⟨w.heap.size, 1, none⟩ = some (.slice B m d) := (v2.cell (p := ⟨w.heap.size, 1, none⟩) (by first | omega | (simp; done) | (simp; omega))).trans (by first | assumption | go_simp)
      have c2_w2 : w2.cell? ⟨w.heap.size, 2, none⟩ = some (.int .i64 h) := (v2.cell (p := ⟨w.heap.size, 2, none⟩) (by first | omega | (simp; done) | (simp; omega))).trans (by first | assumption | go_simp)
      have s0_w2 : w.heap.size < w2.heap.size := Nat.lt_of_lt_of_le (by first | omega | (simp; done) | (simp; omega)) v2.size
      have B_w2 : Below w.heap.size w w2 := (by repeat (first | exact Below.refl _ _ | refine below_step (by assumption) (by first | omega | (simp; done) | (simp; omega)) ?_ | refine below_drewN ?_ _ | refine Below.drew ?_ | refine Below.setCell ?_ (by first | omega | (simp; done) | (simp; omega)) _ | refine Below.alloc ?_ (by first | omega | (simp; done) | (simp; omega)) _))
      clear v2 c0_w1 c1_w1 c2_w1 s0_w1 B_w1
      go_wp2_with fail
      go_ret
      exact ⟨int_ansP HX.out.symm, B_w2⟩
    | true =>
      have HX := Lib.hid (show woR8 s x = z from by rw [HV.out, if_pos ⟨h0, rfl⟩])
      clear HV
      go_enter Try.func26, Try.ntmps26
      go_wp2_with fail
      refine (HWT.out _ (HA.out.nodes.below (w := w) (by repeat (first | exact Below.refl _ _ | refine below_step (by assumption) (by first | omega | (simp; done) | (simp; omega)) ?_ | refine below_drewN ?_ _ | refine Below.drew ?_ | refine Below.setCell ?_ (by first | omega | (simp; done) | (simp; omega)) _ | refine Below.alloc ?_ (by first | omega | (simp; done) | (simp; omega)) _)))).mono ?_
      rintro e w1 ⟨rfl, hm1, v1⟩
      have c0_w1 : w1.cell? ⟨w.heap.size, 0, none⟩ = some (.slice A k c) := (v1.cell (p := ⟨w.heap.size, 0, none⟩) (by first | omega | (simp; done) | (simp; omega))).trans (by first | assumption | go_simp)
      have c1_w1 : w1.cell? ⟨w.heap.size, 1, none⟩ = some (.slice B m d) := (v1.cell (p := ⟨w.heap.size, 1, none⟩) (by first | omega | (simp; done) | (simp; omega))).trans (by first | assumption | go_simp)
      have c2_w1 : w1.cell? ⟨w.heap.size, 2, none⟩ = some (.int .i64 h) := (v1.cell (p := ⟨w.heap.size, 2, none⟩) (by first | omega | (simp; done) | (simp; omega))).trans (by first | assumption | go_simp)
      have s0_w1 : w.heap.size < w1.heap.size := Nat.lt_of_lt_of_le (by first | omega | (simp; done) | (simp; omega)) v1.size
      have B_w1 : Below w.heap.size w w1 := (by repeat (first | exact Below.refl _ _ | refine below_step (by assumption) (by first | omega | (simp; done) | (simp; omega)) ?_ | refine below_drewN ?_ _ | refine Below.drew ?_ | refine Below.setCell ?_ (by first | omega | (simp; done) | (simp; omega)) _ | refine Below.alloc ?_ (by first | omega | (simp; done) | (simp; omega)) _))
      clear v1  
      have HM1 := Lib.hid hm1
      clear hm1
      obtain ⟨y1, q1, hrun1, hat1⟩ := HM1.out.look_ok keyedI Try.underlying66 (zeroI _) (zd := .lit (.int .i64 0)) (zp := []) (plainElem_int Try.underlying3 (by decide)) HKI.out
      obtain ⟨y2, rfl, hat2, _⟩ := plainElem_int_inv Try.underlying3 hat1
      have hat3 : (waD s.ns s.ns.length).atKey (.int .i64 x) (.lit (.int .i64 0)) = (.lit (.int .i64 y2) : DU) := by rw [HLN.out]; exact congrArg Prod.fst hat2
      rw [HHAS.out, HD.out, World.size_alloc] at hrun1
      have HY := Lib.hid ((at_watch hat3).trans (by rw [← HZ.out]))
      clear hat1 hat2 hat3
      have N1 := HM1
      go_wp2_with fail
      refine (HN.out _ (HA.out.below (w := w) (by repeat (first | exact Below.refl _ _ | refine below_step (by assumption) (by first | omega | (simp; done) | (simp; omega)) ?_ | refine below_drewN ?_ _ | refine Below.drew ?_ | refine Below.setCell ?_ (by first | omega | (simp; done) | (simp; omega)) _ | refine Below.alloc ?_ (by first | omega | (simp; done) | (simp; omega)) _)))).mono ?_
      rintro e w2 ⟨rfl, v2⟩
      have c0_w2 : w2.cell? ⟨w.heap.size, 0, none⟩ = some (.slice A k c) := (v2.cell (p := ⟨w.heap.size, 0, none⟩) (by first | omega | (simp; done) | (simp; omega))).trans (by first | assumption | go_simp)
      have c1_w2 : w2.cell? ⟨w.heap.size, 1, none⟩ = some (.slice B m d) := (v2.cell (p := ⟨w.heap.size, 1, none⟩) (by first | omega | (simp; done) | (simp; omega))).trans (by first | assumption | go_simp)
      have c2_w2 : w2.cell? ⟨w.heap.size, 2, none⟩ = some (.int .i64 h) := (v2.cell (p := ⟨w.heap.size, 2, none⟩) (by first | omega | (simp; done) | (simp; omega))).trans (by first | assumption | go_simp)
      have s0_w2 : w.heap.size < w2.heap.size := Nat.lt_of_lt_of_le (by first | omega | (simp; done) | (simp; omega)) v2.size
      have B_w2 : Below w.heap.size w w2 := (by repeat (first | exact Below.refl _ _ | refine below_step (by assumption) (by first | omega | (simp; done) | (simp; omega)) ?_ | refine below_drewN ?_ _ | refine Below.drew ?_ | refine Below.setCell ?_ (by first | omega | (simp; done) | (simp; omega)) _ | refine Below.alloc ?_ (by first | omega | (simp; done) | (simp; omega)) _))
      clear v2 c0_w1 c1_w1 c2_w1 s0_w1 B_w1
      go_wp2_with fail
      go_ret
      exact ⟨int_ansP (by rw [HX.out, HY.out]; unfold idxZ; rw [if_pos h0]), B_w2⟩
  · have HD := Lib.hid (decide_eq_false h0)
    have HX := Lib.hid (show woR8 s x = -1 from by rw [HV.out, if_neg (fun q => h0 q.1)])
    clear HV
    go_enter Try.func26, Try.ntmps26
    go_wp2_with fail
    refine (HWT.out _ (HA.out.nodes.below (w := w) (by repeat (first | exact Below.refl _ _ | refine below_step (by assumption) (by first | omega | (simp; done) | (simp; omega)) ?_ | refine below_drewN ?_ _ | refine Below.drew ?_ | refine Below.setCell ?_ (by first | omega | (simp; done) | (simp; omega)) _ | refine Below.alloc ?_ (by first | omega | (simp; done) | (simp; omega)) _)))).mono ?_
    rintro e w1 ⟨rfl, hm1, v1⟩
    have c0_w1 : w1.cell? ⟨w.heap.size, 0, none⟩ = some (.slice A k c) := (v1.cell (p := ⟨w.heap.size, 0, none⟩) (by first | omega | (simp; done) | (simp; omega))).trans (by first | assumption | go_simp)
    have c1_w1 : w1.cell? ⟨w.heap.size, 1, none⟩ = some (.slice B m d) := (v1.cell (p := ⟨w.heap.size, 1, none⟩) (by first | omega | (simp; done) | (simp; omega))).trans (by first | assumption | go_simp)
    have c2_w1 : w1.cell? ⟨w.heap.size, 2, none⟩ = some (.int .i64 h) := (v1.cell (p := ⟨w.heap.size, 2, none⟩) (by first | omega | (simp; done) | (simp; omega))).trans (by first | assumption | go_simp)
    have s0_w1 : w.heap.size < w1.heap.size := Nat.lt_of_lt_of_le (by first | omega | (simp; done) | (simp; omega)) v1.size
    have B_w1 : Below w.heap.size w w1 := (by repeat (first | exact Below.refl _ _ | refine below_step (by assumption) (by first | omega | (simp; done) | (simp; omega)) ?_ | refine below_drewN ?_ _ | refine Below.drew ?_ | refine Below.setCell ?_ (by first | omega | (simp; done) | (simp; omega)) _ | refine Below.alloc ?_ (by first | omega | (simp; done) | (simp; omega)) _))
    clear v1  
    have HM1 := Lib.hid hm1
    clear hm1
    obtain ⟨y1, q1, hrun1, hat1⟩ := HM1.out.look_ok keyedI Try.underlying66 (zeroI _) (zd := .lit (.int .i64 0)) (zp := []) (plainElem_int Try.underlying3 (by decide)) HKI.out
    obtain ⟨y2, rfl, hat2, _⟩ := plainElem_int_inv Try.underlying3 hat1
    have hat3 : (waD s.ns s.ns.length).atKey (.int .i64 x) (.lit (.int .i64 0)) = (.lit (.int .i64 y2) : DU) := by rw [HLN.out]; exact congrArg Prod.fst hat2
    rw [HHAS.out, HD.out, World.size_alloc] at hrun1
    have HY := Lib.hid ((at_watch hat3).trans (by rw [← HZ.out]))
    clear hat1 hat2 hat3
    go_wp2_with fail
    go_ret
    exact ⟨int_ansP HX.out.symm, B_w1⟩

set_option maxRecDepth 100000 in
set_option maxHeartbeats 8000000 in
theorem impl_NodeNamed (s : GS) (x : ByteArray) (A : Option Addr) (k c : Nat) (B : Option Addr) (m d : Nat) (w : World) (hk : k ≤ 1048576) (hw : ∀ e ∈ s.ns, e.wf) (hx : x.size ≤ maxLen) (ha : ShowAt w s A k B m) :
    Calls Try.prog 28 #[shV A k c B m d s.h, .string x] w fun e w' => e = .returned (.int .i64 (namR s.ns x)) ∧ Below w.heap.size w w' := by
  have HWT := Lib.hid (fun W h => names_any s.ns A k c W ha.ln hk hw h)
  have HKS := Lib.hid (Go.WideMaps.keyOf_string_mk Try.underlying9 hx)
  have HA := Lib.hid ha
  have HR := Lib.hid (namR_rng s.ns x)
  clear ha hw
  obtain ⟨h, hh⟩ : ∃ h, h = s.h := ⟨_, rfl⟩
  rw [← hh]
  clear hh
  unfold shV
  have HHAS : Hid (has (nmR s.ns 0) (.string x.data.toList) = decide (0 ≤ namR s.ns x)) := Lib.hid (nmR_has x s.ns 0)
  obtain ⟨z, hz⟩ : ∃ z, z = namR s.ns x := ⟨_, rfl⟩
  have HZ := Lib.hid hz
  rw [← hz] at HHAS HR
  rw [← hz]
  clear hz
  by_cases h0 : 0 ≤ z
  · have HD := Lib.hid (decide_eq_true h0)
    go_enter Try.func28, Try.ntmps28
    go_wp2_with fail
    refine (HWT.out _ (HA.out.nodes.below (w := w) (by repeat (first | exact Below.refl _ _ | refine below_step (by assumption) (by first | omega | (simp; done) | (simp; omega)) ?_ | refine below_drewN ?_ _ | refine Below.drew ?_ | refine Below.setCell ?_ (by first | omega | (simp; done) | (simp; omega)) _ | refine Below.alloc ?_ (by first | omega | (simp; done) | (simp; omega)) _)))).mono ?_
    rintro e w1 ⟨rfl, hm1, v1⟩
    have c0_w1 : w1.cell? ⟨w.heap.size, 0, none⟩ = some (.slice A k c) := (v1.cell (p := ⟨w.heap.size, 0, none⟩) (by first | omega | (simp; done) | (simp; omega))).trans (by first | assumption | go_simp)
    have c1_w1 : w1.cell? ⟨w.heap.size, 1, none⟩ = some (.slice B m d) := (v1.cell (p := ⟨w.heap.size, 1, none⟩) (by first | omega | (simp; done) | (simp; omega))).trans (by first | assumption | go_simp)
    have c2_w1 : w1.cell? ⟨w.heap.size, 2, none⟩ = some (.int .i64 h) := (v1.cell (p := ⟨w.heap.size, 2, none⟩) (by first | omega | (simp; done) | (simp; omega))).trans (by first | assumption | go_simp)
    have s0_w1 : w.heap.size < w1.heap.size := Nat.lt_of_lt_of_le (by first | omega | (simp; done) | (simp; omega)) v1.size
    have B_w1 : Below w.heap.size w w1 := (by repeat (first | exact Below.refl _ _ | refine below_step (by assumption) (by first | omega | (simp; done) | (simp; omega)) ?_ | refine below_drewN ?_ _ | refine Below.drew ?_ | refine Below.setCell ?_ (by first | omega | (simp; done) | (simp; omega)) _ | refine Below.alloc ?_ (by first | omega | (simp; done) | (simp; omega)) _))
    clear v1  
    have HM1 := Lib.hid hm1
    clear hm1
    obtain ⟨y1, q1, hrun1, hat1⟩ := HM1.out.look_ok keyedS Try.underlying68 (zeroI _) (zd := .lit (.int .i64 0)) (zp := []) (plainElem_int Try.underlying3 (by decide)) HKS.out
    obtain ⟨y2, rfl, hat2, _⟩ := plainElem_int_inv Try.underlying3 hat1
    have hat3 : (nmR s.ns 0).atKey (.string x.data.toList) (.lit (.int .i64 0)) = (.lit (.int .i64 y2) : DU) := congrArg Prod.fst hat2
    rw [HHAS.out, HD.out, World.size_alloc] at hrun1
    have HY := Lib.hid ((at_name hat3).trans (by rw [← HZ.out]))
    clear hat1 hat2 hat3
    go_wp2_with fail
    go_ret
    exact ⟨int_ansP (by rw [HY.out]; unfold idxZ; rw [if_pos h0]), B_w1⟩
  · have HD := Lib.hid (decide_eq_false h0)
    go_enter Try.func28, Try.ntmps28
    go_wp2_with fail
    refine (HWT.out _ (HA.out.nodes.below (w := w) (by repeat (first | exact Below.refl _ _ | refine below_step (by assumption) (by first | omega | (simp; done) | (simp; omega)) ?_ | refine below_drewN ?_ _ | refine Below.drew ?_ | refine Below.setCell ?_ (by first | omega | (simp; done) | (simp; omega)) _ | refine Below.alloc ?_ (by first | omega | (simp; done) | (simp; omega)) _)))).mono ?_
    rintro e w1 ⟨rfl, hm1, v1⟩
    have c0_w1 : w1.cell? ⟨w.heap.size, 0, none⟩ = some (.slice A k c) := (v1.cell (p := ⟨w.heap.size, 0, none⟩) (by first | omega | (simp; done) | (simp; omega))).trans (by first | assumption | go_simp)
    have c1_w1 : w1.cell? ⟨w.heap.size, 1, none⟩ = some (.slice B m d) := (v1.cell (p := ⟨w.heap.size, 1, none⟩) (by first | omega | (simp; done) | (simp; omega))).trans (by first | assumption | go_simp)
    have c2_w1 : w1.cell? ⟨w.heap.size, 2, none⟩ = some (.int .i64 h) := (v1.cell (p := ⟨w.heap.size, 2, none⟩) (by first | omega | (simp; done) | (simp; omega))).trans (by first | assumption | go_simp)
    have s0_w1 : w.heap.size < w1.heap.size := Nat.lt_of_lt_of_le (by first | omega | (simp; done) | (simp; omega)) v1.size
    have B_w1 : Below w.heap.size w w1 := (by repeat (first | exact Below.refl _ _ | refine below_step (by assumption) (by first | omega | (simp; done) | (simp; omega)) ?_ | refine below_drewN ?_ _ | refine Below.drew ?_ | refine Below.setCell ?_ (by first | omega | (simp; done) | (simp; omega)) _ | refine Below.alloc ?_ (by first | omega | (simp; done) | (simp; omega)) _))
    clear v1  
    have HM1 := Lib.hid hm1
    clear hm1
    obtain ⟨y1, q1, hrun1, hat1⟩ := HM1.out.look_ok keyedS Try.underlying68 (zeroI _) (zd := .lit (.int .i64 0)) (zp := []) (plainElem_int Try.underlying3 (by decide)) HKS.out
    obtain ⟨y2, rfl, hat2, _⟩ := plainElem_int_inv Try.underlying3 hat1
    have hat3 : (nmR s.ns 0).atKey (.string x.data.toList) (.lit (.int .i64 0)) = (.lit (.int .i64 y2) : DU) := congrArg Prod.fst hat2
    rw [HHAS.out, HD.out, World.size_alloc] at hrun1
    have HY := Lib.hid ((at_name hat3).trans (by rw [← HZ.out]))
    clear hat1 hat2 hat3
    go_wp2_with fail
    go_ret
    exact ⟨int_ansP (by rcases HR.out with q | ⟨i, _, q⟩ <;> omega), B_w1⟩

set_option maxRecDepth 100000 in
set_option maxHeartbeats 8000000 in
theorem impl_ChosenNodes (s : GS) (A : Option Addr) (k c : Nat) (B : Option Addr) (m d : Nat) (w : World) (hs : ShB s) (hw : ∀ e ∈ s.ns, e.wf) (ha : ShowAt w s A k B m) :
    Calls Try.prog 30 #[shV A k c B m d s.h] w fun e w' => ∃ C q cb, e = .returned (.slice C q cb) ∧ q = (chR s).length ∧ w'.ownsRow w.heap.size 3 1 (.slice C q cb) q ((chR s).map intV) ∧ Below w.heap.size w w' := by
  obtain ⟨i1, hii, hy0, hy1, hy2⟩ := info_parts Try.info3
  have hmm : m ≤ 1048576 := by have := hs.ts; have := ha.lt; omega
  have HN := Lib.hid (fun W h => impl_ShowOk s A k c B m d W hs hw h)
  have HF := Lib.hid (fun x W h => free_any s x A k c B m d W hmm h)
  have HLN := Lib.hid ha.ln
  have HRN := Lib.hid (fun x => fir_rng (fun t : GT => t.fr && decide (t.v = x)) s.ts)
  obtain ⟨w1, hw1⟩ : ∃ W, W = w.alloc (.cells #[.slice A k c, .slice B m d, .int .i64 s.h] 40) := ⟨_, rfl⟩
  have B_w1 : Below w.heap.size w w1 := by rw [hw1]; exact (Below.refl _ _).alloc (Nat.le_refl _) _
  have z_w1 : w.heap.size < w1.heap.size := by rw [hw1]; simp
  have c0_w1 : w1.cell? ⟨w.heap.size, 0, none⟩ = some (.slice A k c) := by rw [hw1]; go_simp
  have c1_w1 : w1.cell? ⟨w.heap.size, 1, none⟩ = some (.slice B m d) := by rw [hw1]; go_simp
  have c2_w1 : w1.cell? ⟨w.heap.size, 2, none⟩ = some (.int .i64 s.h) := by rw [hw1]; go_simp
  have HA1 := Lib.hid (ha.below B_w1)
  have BW1 := Lib.hid B_w1
  have HW1 := Lib.hid hw1
  clear ha hw1 B_w1 hs hw
  unfold shV at HN HF ⊢
  obtain ⟨h, hh⟩ : ∃ h, h = s.h := ⟨_, rfl⟩
  rw [← hh] at HN HF HW1 c2_w1 ⊢
  clear hh
  obtain ⟨b1, hb1⟩ : ∃ b, b = shR s := ⟨_, rfl⟩
  rw [← hb1] at HN
  have HSH := Lib.hid hb1.symm
  clear hb1
  go_enter Try.func30, Try.ntmps30
  go_upto_region 1 with (fail)
  rw [← HW1.out]
  cases b1 with
  | false =>
    go_wp2_with fail
    refine (HN.out _ HA1.out).mono ?_
    rintro e w2 ⟨rfl, b2⟩
    go_wp2_with fail
    go_ret
    exact ⟨none, 0, 0, rfl, by rw [chR_no HSH.out]; rfl, by rw [chR_no HSH.out]; exact World.ownsRow_nil _ _ _ _, BW1.out.trans (b2.mono BW1.out.size)⟩
  | true =>
    have hk7 : k ≤ 7 := by have := (shR_rng HSH.out).2.1; have := HLN.out; omega
    have hk1 : 1 ≤ k := by have := (shR_rng HSH.out).1; have := HLN.out; omega
    go_wp2_with fail
    refine (HN.out _ HA1.out).mono ?_
    rintro e w2 ⟨rfl, b2⟩
    have B2 := Lib.hid b2
    have z2 := b2.size
    clear b2
    go_wp2_with fail
    go_loopw [4, 3] (fun i q wr => ∃ (j p : Nat) (C : Option Addr) (cb : Nat), 1 ≤ j ∧ j ≤ k ∧ i = .int .i64 j ∧ q = .slice C p cb ∧ p = (chJ s j).length ∧ wr.ownsRow w1.heap.size 3 1 (.slice C p cb) p ((chJ s j).map intV) ∧ Below w1.heap.size w1 wr) (fun i _ _ => k - (intOf i).toNat)
    case atStart => exact ⟨1, 0, none, 0, Nat.le_refl _, hk1, rfl, rfl, rfl, World.ownsRow_nil _ _ _ _, B2.out⟩
    case round =>
      obtain ⟨j, p, C, cb, hj1, hj, rfl, rfl, hp, hown, hbw⟩ := hrel
      have HP := Lib.hid hp
      have HO := Lib.hid hown
      have BW := Lib.hid hbw
      have zr := hbw.size
      have HNX := Lib.hid (chJ_next s j)
      have hp8 : p ≤ 8 := by have := chJ_len s j; omega
      have zwr : w.heap.size < wr.heap.size := by omega
      have k0 := (hbw.cell (p := ⟨w.heap.size, 0, none⟩) z_w1).trans c0_w1
      have k1 := (hbw.cell (p := ⟨w.heap.size, 1, none⟩) z_w1).trans c1_w1
      have k2 := (hbw.cell (p := ⟨w.heap.size, 2, none⟩) z_w1).trans c2_w1
      clear hp hown hbw
      by_cases hlt : j < k
      · have hjk : ((j : Int) < (k : Int)) := by omega
        have hfr := fun W hh => HF.out j W hh
        have hrn := HRN.out (j : Int)
        obtain ⟨z, hz⟩ : ∃ z, z = freR s.ts j := ⟨_, rfl⟩
        have hrn2 : z = -1 ∨ 0 ≤ z := by
          rw [hz]
          rcases hrn with q | ⟨i, _, q, _⟩
          · exact .inl q
          · exact .inr (by unfold freR; rw [q]; omega)
        rw [← hz] at hfr
        have HFR := Lib.hid hfr
        have HZ := Lib.hid hz
        clear hfr hz hrn
        by_cases hneg : z = -1
        · have hzb : (z == -1) = true := by simp [hneg]
          have HE : Hid (chJ s (j + 1) = chJ s j ++ [(j : Int)]) := Lib.hid (by rw [HNX.out, if_pos ⟨by omega, by rw [← HZ.out]; omega⟩])
          clear hneg hrn2
          go_wp2_with fail
          refine (HFR.out _ (HA1.out.below BW.out)).mono ?_
          rintro e w3 ⟨rfl, b3⟩
          have O3 := Lib.hid (own_below HO.out b3)
          have B3 := Lib.hid (BW.out.trans (b3.mono zr))
          have z3 := B3.out.size
          clear b3 k0 k1 k2
          go_wp2_with (at_builtin; refine wpList_append_lies _ rfl _ _ 22 rfl (w1.heap.size) 3 i1 (.int .i64 0) 1 8 Try.underlying22 hii hy0 hy1 hy2 rfl (by decide) _ _ _ rfl (O3.out.alloc _) ⟨_, 0, none⟩ 1 1 _ rfl rfl (World.news_of_block (heap_newW _ _ _ (by first | rfl | simp))) (one_c1W _) (by decide) (by unfold maxLen; omega) (by omega) (by simp; omega) _ rfl ?_)
          intro g5 cap w6 ho6 hg6 hat6 hl6
          have hb6 : Below w1.heap.size w1 w6 := (B3.out.alloc z3 _).grown hg6 (by simp; omega) (fun r hr => (O3.out.lt r hr).1)
          have HO6 := Lib.hid ho6
          have B6 := Lib.hid hb6
          clear hg6 hat6 hl6 ho6 hb6
          go_wp2_with fail
          go_roundw
          case rel => exact ⟨j + 1, p + 1, some ⟨g5, 0, none⟩, cap, by omega, by omega, by go_num, rfl, by rw [HE.out, List.length_append, HP.out]; rfl, by rw [HE.out]; simpa [intV] using HO6.out, B6.out⟩
          case measure => simp [intOf]; omega
        · have hzb : (z == -1) = false := by simp [hneg]
          have HE : Hid (chJ s (j + 1) = chJ s j) := Lib.hid (by rw [HNX.out, if_neg (by rw [← HZ.out]; omega), List.append_nil])
          clear hneg hrn2
          go_wp2_with fail
          refine (HFR.out _ (HA1.out.below BW.out)).mono ?_
          rintro e w3 ⟨rfl, b3⟩
          have O3 := Lib.hid (own_below HO.out b3)
          have B3 := Lib.hid (BW.out.trans (b3.mono zr))
          clear b3 k0 k1 k2
          go_wp2_with fail
          go_roundw
          case rel => exact ⟨j + 1, p, C, cb, by omega, by omega, by go_num, rfl, by rw [HE.out]; exact HP.out, by rw [HE.out]; exact O3.out, B3.out⟩
          case measure => simp [intOf]; omega
      · have hjk : ¬ ((j : Int) < (k : Int)) := by omega
        have HFIN : Hid (chR s = chJ s j) := Lib.hid (by rw [chR_yes HSH.out, HLN.out, show j = k from by omega])
        go_wp2_with fail
        go_ret
        exact ⟨C, p, cb, rfl, by rw [HFIN.out]; exact HP.out, by rw [HFIN.out]; exact own_base HO.out (by omega), BW1.out.trans (BW.out.mono BW1.out.size)⟩

end Go.Proofs.Ytgnehihnkkoneaa

namespace Go.Proofs.Ytgnehihnkkoneaa
open Go.RowKit
set_option linter.unusedVariables false
set_option linter.unusedSimpArgs false

def nodQ (a b : List GN) : Bool := decide (a.length = b.length) && allJ (fun i => nodE (a[i]?.getD gN0) (b[i]?.getD gN0)) a.length
theorem nodQ_no {a b : List GN} {j : Nat} (h : nodE (a[j]?.getD gN0) (b[j]?.getD gN0) = false) (hj : j < a.length) : nodQ a b = false := by
  unfold nodQ
  rw [allJ_no (f := fun i => nodE (a[i]?.getD gN0) (b[i]?.getD gN0)) (j := j + 1) (by rw [allJ_next, h, Bool.and_false]) (show j + 1 ≤ a.length by omega), Bool.and_false]
theorem smR_parts (a b : GS) : smR a b = (nodQ a.ns b.ns && (tieQ a.ts b.ts && decide (a.h = b.h))) := by
  unfold smR nodQ tieQ
  by_cases h1 : a.ns.length = b.ns.length
  · by_cases h2 : a.ts.length = b.ts.length
    · by_cases h3 : a.h = b.h
      · rw [decide_eq_true (show _ ∧ _ ∧ _ from ⟨h1, h2, h3⟩), decide_eq_true h1, decide_eq_true h2, decide_eq_true h3]
        simp only [Bool.true_and, Bool.and_true]
      · rw [decide_eq_false (fun e => h3 e.2.2), decide_eq_false h3]
        simp only [Bool.false_and, Bool.and_false]
    · rw [decide_eq_false (fun e => h2 e.2.1), decide_eq_false h2]
      simp only [Bool.false_and, Bool.and_false]
  · rw [decide_eq_false (fun e => h1 e.1), decide_eq_false h1]
    simp only [Bool.false_and]

set_option maxRecDepth 100000 in
set_option maxHeartbeats 8000000 in
theorem equalFunc_any (a b : List GN) (A : Option Addr) (k c : Nat) (B : Option Addr) (m d : Nat) (w : World) (hl : a.length = k) (hm : k ≤ 1048576) (hlb : b.length = m) (hmb : m ≤ 1048576) (hea : ∀ e ∈ a, e.lab.length ≤ 1048576) (heb : ∀ e ∈ b, e.lab.length ≤ 1048576) (hr : NodesAt w A a) (hrb : NodesAt w B b) :
    Calls Try.prog 62 #[.slice A k c, .slice B m d, .func (.func 63) #[] #[]] w fun e w' => e = .returned (.bool (nodQ a b)) ∧ Below w.heap.size w w' := by
  have HA := Lib.hid hr
  have HB := Lib.hid hrb
  have HL := Lib.hid hl
  have HLB := Lib.hid hlb
  have HEA := Lib.hid hea
  have HEB := Lib.hid heb
  clear hr hrb hl hlb hea heb
  by_cases hkm : k = m
  · subst hkm
    have hne : ((k : Int) != (k : Int)) = false := by simp
    go_enter Try.func62, Try.ntmps62
    go_wp2_with fail
    go_loopw [17] (fun i wr => ∃ j : Nat, j ≤ k ∧ i = .int .i64 j ∧ allJ (fun i => nodE (a[i]?.getD gN0) (b[i]?.getD gN0)) j = true ∧ Below w.heap.size w wr) (fun i _ => k - (intOf i).toNat)
    case atStart => exact ⟨0, Nat.zero_le _, rfl, rfl, Below.refl _ _⟩
    case round =>
      obtain ⟨j, hj, rfl, hall, hbw⟩ := hrel
      have HALL := Lib.hid hall
      clear hall
      by_cases hlt : j < k
      · have hjk : ((j : Int) < (k : Int)) := by omega
        have hj0 : (0 : Int) ≤ (j : Int) := by omega
        obtain ⟨e, he⟩ : ∃ f, a[j]? = some f := ⟨_, List.getElem?_eq_getElem (by have := HL.out; omega)⟩
        obtain ⟨f, hf⟩ : ∃ f, b[j]? = some f := ⟨_, List.getElem?_eq_getElem (by have := HLB.out; omega)⟩
        obtain ⟨g, o, L, cl, rfl, hg, d0, d1, dd2, hrow⟩ := node_facts HA.out he
        obtain ⟨g', o', L', cl', rfl, hg', e0, e1, e2, hrow'⟩ := node_facts HB.out hf
        have hem := HEA.out e (List.mem_of_getElem? he)
        have hfm := HEB.out f (List.mem_of_getElem? hf)
        obtain ⟨q, hq⟩ : ∃ q, q = e.lab.length := ⟨_, rfl⟩
        obtain ⟨q', hq'⟩ : ∃ q, q = f.lab.length := ⟨_, rfl⟩
        rw [← hq] at d1 hem
        rw [← hq'] at e1 hfm
        have m0 := (hbw.cell (p := ⟨g, o + j * 3, none⟩) hg).trans d0
        have m1 := (hbw.cell (p := ⟨g, o + j * 3 + 1, none⟩) hg).trans d1
        have m22 := (hbw.cell (p := ⟨g, o + j * 3 + 2, none⟩) hg).trans dd2
        have n0 := (hbw.cell (p := ⟨g', o' + j * 3, none⟩) hg').trans e0
        have n1 := (hbw.cell (p := ⟨g', o' + j * 3 + 1, none⟩) hg').trans e1
        have n2 := (hbw.cell (p := ⟨g', o' + j * 3 + 2, none⟩) hg').trans e2
        have zr := hbw.size
        have hg2 : g < wr.heap.size := Nat.lt_of_lt_of_le hg zr
        have hg3 : g' < wr.heap.size := Nat.lt_of_lt_of_le hg' zr
        have u1 : (g' = wr.heap.size) = False := eq_false (by omega)
        have u2 : (wr.heap.size = g') = False := eq_false (by omega)
        have HSM := Lib.hid (fun W h1 h2 => sameNodes_any e f L cl q L' cl' q' W hq.symm hem hq'.symm hfm h1 h2)
        have HR1 := Lib.hid (hrow.below hbw)
        have HR2 := Lib.hid (hrow'.below hbw)
        have HBT := Lib.hid (fun hz => nodQ_no (a := a) (b := b) (j := j) hz (by have := HL.out; omega))
        have HGT : Hid (nodE (a[j]?.getD gN0) (b[j]?.getD gN0) = true → allJ (fun i => nodE (a[i]?.getD gN0) (b[i]?.getD gN0)) (j + 1) = true) := Lib.hid (fun hz => by rw [allJ_next, HALL.out, hz]; rfl)
        have HNE : Hid (nodE (a[j]?.getD gN0) (b[j]?.getD gN0) = nodE e f) := Lib.hid (by rw [he, hf]; rfl)
        obtain ⟨bb, hb⟩ : ∃ x, x = nodE e f := ⟨_, rfl⟩
        rw [← hb] at HSM HNE
        have BW := Lib.hid hbw
        clear he hf d0 d1 dd2 e0 e1 e2 hrow hrow' hq hq' hbw hb
        go_wp2_with fail
        refine (HSM.out _ (HR1.out.below (by repeat (first | exact Below.refl _ _ | refine below_step (by assumption) (by first | omega | (simp; done) | (simp; omega)) ?_ | refine below_drewN ?_ _ | refine Below.drew ?_ | refine Below.setCell ?_ (by first | omega | (simp; done) | (simp; omega)) _ | refine Below.alloc ?_ (by first | omega | (simp; done) | (simp; omega)) _))) (HR2.out.below (by repeat (first | exact Below.refl _ _ | refine below_step (by assumption) (by first | omega | (simp; done) | (simp; omega)) ?_ | refine below_drewN ?_ _ | refine Below.drew ?_ | refine Below.setCell ?_ (by first | omega | (simp; done) | (simp; omega)) _ | refine Below.alloc ?_ (by first | omega | (simp; done) | (simp; omega)) _)))).mono ?_
        rintro e3 w3 ⟨rfl, b3⟩
        have B3 := Lib.hid (show Below wr.heap.size wr w3 from (by repeat (first | exact Below.refl _ _ | refine below_step (by assumption) (by first | omega | (simp; done) | (simp; omega)) ?_ | refine below_drewN ?_ _ | refine Below.drew ?_ | refine Below.setCell ?_ (by first | omega | (simp; done) | (simp; omega)) _ | refine Below.alloc ?_ (by first | omega | (simp; done) | (simp; omega)) _)))
        clear b3
        cases bb with
        | false =>
          go_wp2_with fail
          go_ret
          exact ⟨ret_b (HBT.out HNE.out).symm, BW.out.trans (B3.out.mono zr)⟩
        | true =>
          go_wp2_with fail
          go_roundw
          case rel => exact ⟨j + 1, by omega, by go_num, HGT.out HNE.out, BW.out.trans (B3.out.mono zr)⟩
          case measure => simp [intOf]; omega
      · have hjk : ¬ ((j : Int) < (k : Int)) := by omega
        have HY := Lib.hid (show nodQ a b = true from by unfold nodQ; rw [HL.out, HLB.out, decide_eq_true rfl, show k = j from by omega, HALL.out]; rfl)
        go_wp2_with fail
        go_ret
        exact ⟨ret_b HY.out.symm, hbw⟩
  · have hne : ((k : Int) != (m : Int)) = true := by simp; omega
    go_enter Try.func62, Try.ntmps62
    go_wp2_with fail
    go_ret
    exact ⟨ret_b (by unfold nodQ; rw [HL.out, HLB.out, decide_eq_false hkm]; rfl), Below.refl _ _⟩

set_option maxRecDepth 100000 in
set_option maxHeartbeats 8000000 in
theorem impl_SameShows (a b : GS) (A : Option Addr) (k c : Nat) (B : Option Addr) (m d : Nat) (A2 : Option Addr) (k2 c2 : Nat) (B2 : Option Addr) (m2 d2 : Nat) (w : World) (hs : ShB a) (hs2 : ShB b) (ha : ShowAt w a A k B m) (hb : ShowAt w b A2 k2 B2 m2) :
    Calls Try.prog 36 #[shV A k c B m d a.h, shV A2 k2 c2 B2 m2 d2 b.h] w fun e w' => e = .returned (.bool (smR a b)) ∧ Below w.heap.size w w' := by
  have hkk : k ≤ 1048576 := by have := hs.ns; have := ha.ln; omega
  have hmm : m ≤ 1048576 := by have := hs.ts; have := ha.lt; omega
  have hkk2 : k2 ≤ 1048576 := by have := hs2.ns; have := hb.ln; omega
  have hmm2 : m2 ≤ 1048576 := by have := hs2.ts; have := hb.lt; omega
  have HN := Lib.hid (fun W h1 h2 => equalFunc_any a.ns b.ns A k c A2 k2 c2 W ha.ln hkk hb.ln hkk2 (fun e he => (hs.each e he).2) (fun e he => (hs2.each e he).2) h1 h2)
  have HT := Lib.hid (fun W h1 h2 => equal_ties a.ts b.ts B m d B2 m2 d2 W ha.lt hmm hb.lt hmm2 h1 h2)
  have HV := Lib.hid (smR_parts a b)
  have HA := Lib.hid ha
  have HB := Lib.hid hb
  obtain ⟨x, hx⟩ : ∃ h, h = a.h := ⟨_, rfl⟩
  obtain ⟨y, hy⟩ : ∃ h, h = b.h := ⟨_, rfl⟩
  rw [← hx, ← hy] at HV
  rw [← hx, ← hy]
  obtain ⟨b1, hb1⟩ : ∃ t, t = nodQ a.ns b.ns := ⟨_, rfl⟩
  obtain ⟨b2, hb2⟩ : ∃ t, t = tieQ a.ts b.ts := ⟨_, rfl⟩
  rw [← hb1] at HN HV
  rw [← hb2] at HT HV
  clear hx hy hb1 hb2 ha hb hs hs2
  unfold shV
  have w1x : ∃ W, W = (w.alloc (.cells #[.slice A k c, .slice B m d, .int .i64 x] 40)).alloc (.cells #[.slice A2 k2 c2, .slice B2 m2 d2, .int .i64 y] 40) := ⟨_, rfl⟩
  clear w1x
  go_enter Try.func36, Try.ntmps36
  go_wp2_with fail
  refine (HN.out _ (HA.out.nodes.below (by repeat (first | exact Below.refl _ _ | refine below_step (by assumption) (by first | omega | (simp; done) | (simp; omega)) ?_ | refine below_drewN ?_ _ | refine Below.drew ?_ | refine Below.setCell ?_ (by first | omega | (simp; done) | (simp; omega)) _ | refine Below.alloc ?_ (by first | omega | (simp; done) | (simp; omega)) _))) (HB.out.nodes.below (by repeat (first | exact Below.refl _ _ | refine below_step (by assumption) (by first | omega | (simp; done) | (simp; omega)) ?_ | refine below_drewN ?_ _ | refine Below.drew ?_ | refine Below.setCell ?_ (by first | omega | (simp; done) | (simp; omega)) _ | refine Below.alloc ?_ (by first | omega | (simp; done) | (simp; omega)) _)))).mono ?_
  rintro e w1 ⟨rfl, v1⟩
  have c1 : w1.cell? ⟨w.heap.size, 1, none⟩ = some (.slice B m d) := (v1.cell (p := ⟨w.heap.size, 1, none⟩) (by first | omega | (simp; done) | (simp; omega))).trans (by first | assumption | go_simp)
  have c2 : w1.cell? ⟨w.heap.size, 2, none⟩ = some (.int .i64 x) := (v1.cell (p := ⟨w.heap.size, 2, none⟩) (by first | omega | (simp; done) | (simp; omega))).trans (by first | assumption | go_simp)
  have c4 : w1.cell? ⟨w.heap.size + 1, 1, none⟩ = some (.slice B2 m2 d2) := (v1.cell (p := ⟨w.heap.size + 1, 1, none⟩) (by first | omega | (simp; done) | (simp; omega))).trans (by first | assumption | go_simp)
  have c5 : w1.cell? ⟨w.heap.size + 1, 2, none⟩ = some (.int .i64 y) := (v1.cell (p := ⟨w.heap.size + 1, 2, none⟩) (by first | omega | (simp; done) | (simp; omega))).trans (by first | assumption | go_simp)
  have B1 : Below w.heap.size w w1 := (by repeat (first | exact Below.refl _ _ | refine below_step (by assumption) (by first | omega | (simp; done) | (simp; omega)) ?_ | refine below_drewN ?_ _ | refine Below.drew ?_ | refine Below.setCell ?_ (by first | omega | (simp; done) | (simp; omega)) _ | refine Below.alloc ?_ (by first | omega | (simp; done) | (simp; omega)) _))
  have s0 : w.heap.size < w1.heap.size := Nat.lt_of_lt_of_le (by first | omega | (simp; done) | (simp; omega)) v1.size
  have s1 : w.heap.size + 1 < w1.heap.size := Nat.lt_of_lt_of_le (by first | omega | (simp; done) | (simp; omega)) v1.size
  clear v1
  cases b1 with
  | false =>
    go_wp2_with fail
    go_ret
    exact ⟨ret_b (by rw [HV.out]; rfl), B1⟩
  | true =>
    go_wp2_with fail
    refine (HT.out _ (HA.out.ties.below B1) (HB.out.ties.below B1)).mono ?_
    rintro e w2 ⟨rfl, v2⟩
    have k2' : w2.cell? ⟨w.heap.size, 2, none⟩ = some (.int .i64 x) := (v2.cell (p := ⟨w.heap.size, 2, none⟩) (by first | omega | (simp; done) | (simp; omega))).trans (by first | assumption | go_simp)
    have k5' : w2.cell? ⟨w.heap.size + 1, 2, none⟩ = some (.int .i64 y) := (v2.cell (p := ⟨w.heap.size + 1, 2, none⟩) (by first | omega | (simp; done) | (simp; omega))).trans (by first | assumption | go_simp)
    have B2' : Below w.heap.size w w2 := B1.trans (v2.mono B1.size)
    clear v2 c1 c2 c4 c5
    cases b2 with
    | false =>
      go_wp2_with fail
      go_ret
      exact ⟨ret_b (by rw [HV.out]; rfl), B2'⟩
    | true =>
      by_cases hxy : x = y
      · have t3 : (x == y) = true := by simp [hxy]
        have HD := Lib.hid (decide_eq_true hxy)
        clear hxy
        go_wp2_with fail
        go_ret
        exact ⟨ret_b (by rw [HV.out, HD.out]; rfl), B2'⟩
      · have t3 : (x == y) = false := by simp [hxy]
        have HD := Lib.hid (decide_eq_false hxy)
        clear hxy
        go_wp2_with fail
        go_ret
        exact ⟨ret_b (by rw [HV.out, HD.out]; rfl), B2'⟩

end Go.Proofs.Ytgnehihnkkoneaa

namespace Go.Proofs.Ytgnehihnkkoneaa

end Go.Proofs.Ytgnehihnkkoneaa
